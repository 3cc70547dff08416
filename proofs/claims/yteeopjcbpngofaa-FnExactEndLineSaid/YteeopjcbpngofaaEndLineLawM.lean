/- FnExactEndLine: at every end and every list of slots the program's EndLine answers as the model's (lists of more than 2^20 slots, cells, layers and signs together are not asked). No condition. -/
import Derived.Test.YteeopjcbpngofaaEndLineLawM1
import Derived.Test.YteeopjcbpngofaaEndLineLawM0
import Derived.Deep.Slices
/- EndLine, the model. Written by gen/ch8w.py. -/
namespace Go.Proofs.Yteeopjcbpngofaa
set_option linter.unusedVariables false
set_option linter.unusedSimpArgs false
open Go.RowKit
theorem ownsRow_baseE {w : World} {B B' : Nat} {e : TypeId} {size n : Nat} {v : Value} {xs : List Value} (h : w.ownsRow B e size v n xs) (hB : B' ≤ B) : w.ownsRow B' e size v n xs := by
  refine ⟨h.1, h.2.imp id ?_⟩
  rintro ⟨g, cap, cur, h1, h2, h3⟩
  exact ⟨g, cap, cur, h1, Nat.le_trans hB h2, h3⟩
set_option maxRecDepth 100000 in
set_option maxHeartbeats 6400000 in
theorem specEnd1_any (a1 a2 a3 : Int) (v : Value) (l : List SlotD) (w : World) (h0 : -9223372036854775808 ≤ a1) (h1 : a1 ≤ 9223372036854775807) (hx : SliceAt rSlot 7 0 w v l) (hs : ∀ e ∈ l, zPart e.fPart ≤ 1048576) (hl6 : l.length ≤ 1048576) :
    Calls Try.prog 19 #[.agg #[.int .i64 1, .int .i64 a1, .int .i64 a2, .int .i64 a3], v] w fun e w' => e = .returned (.string ⟨(lineT ⟨1, a1, a2, a3⟩ l).toArray⟩) ∧ Below w.heap.size w w' := by
  have HB0 := Lib.hid (bx_box w (.cells #[.int .i64 1, .int .i64 a1, .int .i64 a2, .int .i64 a3] 38))
  have HSP := Lib.hid (fun W (hb : Below w.heap.size w W) => specShapes_any v l W (hx.below goodSlot hb (Nat.le_refl _)) hs hl6)
  have HDL := Lib.hid (dashes_len hs hl6)
  have HTL := Lib.hid (endT_len ⟨1, a1, a2, a3⟩)
  have HLQ := Lib.hid (lineT_eq ⟨1, a1, a2, a3⟩ l)
  have HXL := Lib.hid (show (l.map shapeS).length ≤ 1048576 by rw [List.length_map]; exact hl6)
  have HA := Lib.hid (fun W => specFormat_any a1 W h0 h1)
  have HC := Lib.hid (fun W => specFormatFace_any a2 W)
  have HD := Lib.hid (fun W => specFormatFace_any a3 W)
  have HNL := Lib.hid (numL_shortE a1)
  have HF2 := Lib.hid (fmtF_len a2)
  have HF3 := Lib.hid (fmtF_len a3)
  have BX := Lib.hid (Bx.new w [.int .i64 1, .int .i64 a1, .int .i64 a2, .int .i64 a3] 38)
  clear h0 h1 hx hs hl6
  have HE := Lib.hid (show endT ⟨1, a1, a2, a3⟩ = [112, 108, 97, 99, 101, 32] ++ numL a1 ++ [32, 119, 97, 110, 116, 115, 32] ++ fmtF a2 ++ [32, 111, 102, 32] ++ fmtF a3 by unfold endT; rw [if_pos rfl, failT_eq]; simp)
  generalize lineT ⟨1, a1, a2, a3⟩ l = lt at *
  generalize endT ⟨1, a1, a2, a3⟩ = et at *
  generalize l.map shapeS = xs at *
  generalize numL a1 = np at *
  generalize fmtF a2 = f2 at *
  generalize fmtF a3 = f3 at *
  obtain ⟨p0, E0⟩ : ∃ p, p = [112, 108, 97, 99, 101, 32] ++ np := ⟨_, rfl⟩
  have L0 : p0.length ≤ 30 := by rw [E0]; have := HNL.out; simp; omega
  have q0 : ∀ w0, (Op.stringOp .add ⟨#[112, 108, 97, 99, 101, 32]⟩ ⟨np.toArray⟩).run Try.prog w0 = .ok (.string ⟨p0.toArray⟩) w0 := addE ([112, 108, 97, 99, 101, 32]) (np) _ _ _ E0 rfl rfl (by have := HNL.out; simp; omega)
  have EL : et.length ≤ 300 := HTL.out
  obtain ⟨p1, E1⟩ : ∃ p, p = p0 ++ [32, 119, 97, 110, 116, 115, 32] := ⟨_, rfl⟩
  obtain ⟨p2, E2⟩ : ∃ p, p = p1 ++ f2 := ⟨_, rfl⟩
  obtain ⟨p3, E3⟩ : ∃ p, p = p2 ++ [32, 111, 102, 32] := ⟨_, rfl⟩
  have L1 : p1.length ≤ 40 := by rw [E1]; simp; omega
  have L2 : p2.length ≤ 140 := by rw [E2]; have := HF2.out; simp; omega
  have L3 : p3.length ≤ 150 := by rw [E3]; simp; omega
  have q1 : ∀ w0, (Op.stringOp .add ⟨p0.toArray⟩ ⟨#[32, 119, 97, 110, 116, 115, 32]⟩).run Try.prog w0 = .ok (.string ⟨p1.toArray⟩) w0 := addE (p0) ([32, 119, 97, 110, 116, 115, 32]) _ _ _ E1 rfl rfl (by simp; omega)
  have q2 : ∀ w0, (Op.stringOp .add ⟨p1.toArray⟩ ⟨f2.toArray⟩).run Try.prog w0 = .ok (.string ⟨p2.toArray⟩) w0 := addE (p1) (f2) _ _ _ E2 rfl rfl (by have := HF2.out; omega)
  have q3 : ∀ w0, (Op.stringOp .add ⟨p2.toArray⟩ ⟨#[32, 111, 102, 32]⟩).run Try.prog w0 = .ok (.string ⟨p3.toArray⟩) w0 := addE (p2) ([32, 111, 102, 32]) _ _ _ E3 rfl rfl (by simp; omega)
  have q4 : ∀ w0, (Op.stringOp .add ⟨p3.toArray⟩ ⟨f3.toArray⟩).run Try.prog w0 = .ok (.string ⟨et.toArray⟩) w0 := addE (p3) (f3) _ _ _ (by rw [HE.out, E3, E2, E1, E0]) rfl rfl (by have := HF3.out; omega)
  obtain ⟨p6, E6⟩ : ∃ p : List UInt8, p = et ++ [58, 32] := ⟨_, rfl⟩
  have L6 : p6.length ≤ 302 := by rw [E6]; simp only [List.length_append, List.length_cons, List.length_nil] <;> omega
  have q6 : ∀ w0, (Op.stringOp .add ⟨et.toArray⟩ ⟨#[58, 32]⟩).run Try.prog w0 = .ok (.string ⟨p6.toArray⟩) w0 := addE (et) ([58, 32]) _ _ _ E6 rfl rfl (by simp only [List.length_cons, List.length_nil] <;> omega)
  have q7 : ∀ w0, (Op.stringOp .add ⟨p6.toArray⟩ ⟨(joinL (xs.map dashS) [44, 32]).toArray⟩).run Try.prog w0 = .ok (.string ⟨lt.toArray⟩) w0 := addE (p6) (joinL (xs.map dashS) [44, 32]) _ _ _ (by rw [E6]; exact HLQ.out) rfl rfl (by have := HDL.out; omega)
  clear E0 E6 L0 L6 EL E1 E2 E3 L1 L2 L3
  go_enter Try.func19, Try.ntmps19
  have e0 := BX.out.cell 0 (by simp)
  have e1 := BX.out.cell 1 (by simp)
  have e2 := BX.out.cell 2 (by simp)
  have e3 := BX.out.cell 3 (by simp)
  simp only [List.getElem_cons_zero, List.getElem_cons_succ] at e0 e1 e2 e3
  go_wp2_with fail
  refine (HA.out _).mono ?_
  rintro e w1 ⟨rfl, hb⟩
  have HBn := Lib.hid (belS HB0.out hb)
  have BX1 := Lib.hid (BX.out.below hb)
  have HSn := Lib.hid (show w.heap.size < w1.heap.size by have := hb.size; simp at this; omega)
  clear hb e0 e1 e2 e3
  have e0 := BX1.out.cell 0 (by simp)
  have e1 := BX1.out.cell 1 (by simp)
  have e2 := BX1.out.cell 2 (by simp)
  have e3 := BX1.out.cell 3 (by simp)
  simp only [List.getElem_cons_zero, List.getElem_cons_succ] at e0 e1 e2 e3
  go_wp2_with fail
  go_region_held3 (fun w' => w'.cell? ⟨w.heap.size, 2, none⟩ = some (.int .i64 a2) ∧ w'.cell? ⟨w.heap.size, 3, none⟩ = some (.int .i64 a3))
    (first
      | go_keep
      | (exact ⟨e2, e3⟩)
      | (refine ⟨(hb2.cell (p := ⟨w.heap.size, 2, none⟩) (by have := HSn.out; simp; omega)).trans e2, (hb2.cell (p := ⟨w.heap.size, 3, none⟩) (by have := HSn.out; simp; omega)).trans e3⟩)
      | (refine ⟨(hb3.cell (p := ⟨w.heap.size, 2, none⟩) (by have := HSn.out; have := hb2.size; simp at *; omega)).trans ?_, (hb3.cell (p := ⟨w.heap.size, 3, none⟩) (by have := HSn.out; have := hb2.size; simp at *; omega)).trans ?_⟩ <;> simp_all))
    (first
      | (go_at_call 40; (with_reducible refine (HC.out _).mono ?_); rintro e w2 ⟨rfl, hb2⟩)
      | (go_at_call 40; (with_reducible refine (HD.out _).mono ?_); rintro e w3 ⟨rfl, hb3⟩))
  have HBd := Lib.hid (bel_drE HBn.out)
  have HBe := Lib.hid (HBd.out.trans (hb2.mono HBd.out.size))
  have HBs := Lib.hid (HBe.out.trans (hb3.mono HBe.out.size))
  rename_i hheld
  clear hb2 hb3 hheld e0 e1 e2 e3
  have HBa := Lib.hid (HBs.out.alloc HBs.out.size (.cells #[] 9))
  have HO0 := Lib.hid (ownsRow_baseE (owns_new w3) HBs.out.size)
  go_wp2_with fail
  refine (HSP.out _ HBa.out).mono ?_
  rintro e wN ⟨u, rfl, hu, hb⟩
  have HB1 := Lib.hid (belS HBa.out hb)
  have HO1 := Lib.hid (ownsRow_below HO0.out hb (Nat.le_refl _))
  have HU := Lib.hid (show Owns wN (w3.heap.size + 1) u xs by have h := hu; simp at h; exact h)
  obtain ⟨au, cu, rfl, _⟩ := rowAt_len (owns_row hu (by have := HXL.out; omega))
  rw [List.length_map] at *
  have HUB := Lib.hid (show ∀ g, (Value.slice au xs.length cu).ownBlock = some g → w3.heap.size + 1 ≤ g ∧ g < wN.heap.size from fun g h => World.ownsRow.lt HU.out g h)
  clear hu hb HSP HBa HO0
  go_wp2_with fail
  go_loopw [7, 9, 39] (fun ov _ i wr => ∃ k : Nat, k ≤ xs.length ∧ i = .int .i64 k ∧ Owns wr w.heap.size ov ((xs.take k).map dashS) ∧ Owns wr (w3.heap.size + 1) (.slice au xs.length cu) xs ∧ (∀ g, ov.ownBlock = some g → g < w3.heap.size + 1 ∨ wN.heap.size ≤ g) ∧ Below w.heap.size w wr ∧ wN.heap.size ≤ wr.heap.size) (fun _ _ i _ => xs.length - (intOf i).toNat)
  case atStart => exact ⟨0, Nat.zero_le _, rfl, HO1.out, HU.out, fun g h => Or.inl (by simp [Value.ownBlock] at h; omega), HB1.out, Nat.le_refl _⟩
  case round =>
    obtain ⟨k, hk, rfl, hO, hu, hov, hbr, hnr⟩ := hrel
    have HO := Lib.hid hO
    have HBr := Lib.hid hbr
    have HUr := Lib.hid hu
    have HOV := Lib.hid hov
    have HNR := Lib.hid hnr
    have HXX := HXL.out
    clear hO hbr hu hov hnr
    by_cases hlt : k < xs.length
    · obtain ⟨b, o, rfl, hbw, d1⟩ := rowAt_cell (owns_row HUr.out (by omega)) k (by rw [List.length_map]; omega)
      rw [getElem_map_strV] at d1
      unfold strV at d1
      have HTK := Lib.hid (show (xs.take (k + 1)).map dashS = (xs.take k).map dashS ++ [dashS xs[k]] by rw [List.take_succ_eq_append_getElem hlt, List.map_append]; rfl)
      have hkl : (k : Int) < (xs.length : Int) := by omega
      have hml : ((xs.take k).map dashS).length ≤ 1048576 := by rw [List.length_map, List.length_take]; omega
      have HBB := Lib.hid (show w3.heap.size + 1 ≤ b ∧ b < wN.heap.size from HUB.out b rfl)
      generalize xs[k] = s at *
      cases s with
      | nil =>
        rw [dashS_nil] at HTK
        go_wp2_with (at_builtin; (refine append_strsA rfl _ _ rfl w.heap.size _ ((xs.take k).map dashS) [45] _ wr.heap.size (by rfl) (owns_alloc HO.out _) rfl (cell_new _ _ _) (by omega) (by have := HBr.out.size; simp; omega) ?_; intro v' w6 hO1 hg1 h9; have HO6 := Lib.hid hO1; have HG6 := Lib.hid hg1; have H9 := Lib.hid h9; clear hO1 hg1 h9))
        refine ⟨⟨k + 1, by omega, by go_num, by rw [HTK.out]; exact HO6.out, ?_, ?_, below_append (HBr.out.alloc HBr.out.size _) (owns_alloc HO.out _) HG6.out (by have := HBr.out.size; simp; omega), ?_⟩, by simp [intOf]; omega⟩
        · exact World.ownsRow.kept (owns_alloc HUr.out _) HG6.out (Or.inr (fun e => by
            have h1 := HOV.out b e.symm
            have h2 := HBB.out
            omega))
        · intro g hg
          rcases H9.out with h | h
          · exact HOV.out g (by rw [← h]; exact hg)
          · right
            rw [hg] at h
            have h2 := Option.some.inj h
            have h3 := HNR.out
            simp at h2; omega
        · have h1 := HG6.out.size
          have h3 := HNR.out
          simp at h1; omega
      | cons c r =>
        rw [dashS_cons] at HTK
        go_wp2_with (at_builtin; (refine append_strsA rfl _ _ rfl w.heap.size _ ((xs.take k).map dashS) (c :: r) _ wr.heap.size (by rfl) (owns_alloc HO.out _) rfl (cell_new _ _ _) (by omega) (by have := HBr.out.size; simp; omega) ?_; intro v' w6 hO1 hg1 h9; have HO6 := Lib.hid hO1; have HG6 := Lib.hid hg1; have H9 := Lib.hid h9; clear hO1 hg1 h9))
        refine ⟨⟨k + 1, by omega, by go_num, by rw [HTK.out]; exact HO6.out, ?_, ?_, below_append (HBr.out.alloc HBr.out.size _) (owns_alloc HO.out _) HG6.out (by have := HBr.out.size; simp; omega), ?_⟩, by simp [intOf]; omega⟩
        · exact World.ownsRow.kept (owns_alloc HUr.out _) HG6.out (Or.inr (fun e => by
            have h1 := HOV.out b e.symm
            have h2 := HBB.out
            omega))
        · intro g hg
          rcases H9.out with h | h
          · exact HOV.out g (by rw [← h]; exact hg)
          · right
            rw [hg] at h
            have h2 := Option.some.inj h
            have h3 := HNR.out
            simp at h2; omega
        · have h1 := HG6.out.size
          have h3 := HNR.out
          simp at h1; omega
    · have HOl := Lib.hid (show Owns wr w.heap.size u7 (xs.map dashS) by have h := HO.out; rwa [List.take_of_length_le (by omega)] at h)
      have hkl : ¬ (k : Int) < (xs.length : Int) := by omega
      have HJ1 := Lib.hid (fun v W (h : RowAt W v ((xs.map dashS).map strV)) => (show Calls Try.prog 34 #[v, .string ⟨#[44, 32]⟩] W fun e w' => e = .returned (.string ⟨(joinL (xs.map dashS) [44, 32]).toArray⟩) ∧ Below W.heap.size W w' from specJoin_any v (xs.map dashS) ⟨#[44, 32]⟩ W h (Nat.le_trans HDL.out (by decide)) (by decide)))
      have HOR := Lib.hid (owns_row HOl.out (by rw [List.length_map]; omega))
      generalize joinL (xs.map dashS) [44, 32] = jn at *
      go_wp2_with fail
      refine (HJ1.out _ _ HOR.out).mono ?_
      rintro e w4 ⟨rfl, hb⟩
      have HB4 := Lib.hid (belS HBr.out hb)
      clear hb
      go_wp2_with fail
      go_ret
      exact ⟨rfl, HB4.out⟩
set_option maxRecDepth 100000 in
set_option maxHeartbeats 6400000 in
theorem specEnd2_any (a1 a2 a3 : Int) (v : Value) (l : List SlotD) (w : World) (h0 : -9223372036854775808 ≤ a1) (h1 : a1 ≤ 9223372036854775807) (hx : SliceAt rSlot 7 0 w v l) (hs : ∀ e ∈ l, zPart e.fPart ≤ 1048576) (hl6 : l.length ≤ 1048576) :
    Calls Try.prog 19 #[.agg #[.int .i64 2, .int .i64 a1, .int .i64 a2, .int .i64 a3], v] w fun e w' => e = .returned (.string ⟨(lineT ⟨2, a1, a2, a3⟩ l).toArray⟩) ∧ Below w.heap.size w w' := by
  have HB0 := Lib.hid (bx_box w (.cells #[.int .i64 2, .int .i64 a1, .int .i64 a2, .int .i64 a3] 38))
  have HSP := Lib.hid (fun W (hb : Below w.heap.size w W) => specShapes_any v l W (hx.below goodSlot hb (Nat.le_refl _)) hs hl6)
  have HDL := Lib.hid (dashes_len hs hl6)
  have HTL := Lib.hid (endT_len ⟨2, a1, a2, a3⟩)
  have HLQ := Lib.hid (lineT_eq ⟨2, a1, a2, a3⟩ l)
  have HXL := Lib.hid (show (l.map shapeS).length ≤ 1048576 by rw [List.length_map]; exact hl6)
  have HA := Lib.hid (fun W => specFormat_any a1 W h0 h1)
  have HC := Lib.hid (fun W => specFormatFace_any a2 W)
  have HD := Lib.hid (fun W => specFormatFace_any a3 W)
  have HNL := Lib.hid (numL_shortE a1)
  have HF2 := Lib.hid (fmtF_len a2)
  have HF3 := Lib.hid (fmtF_len a3)
  have BX := Lib.hid (Bx.new w [.int .i64 2, .int .i64 a1, .int .i64 a2, .int .i64 a3] 38)
  clear h0 h1 hx hs hl6
  have HE := Lib.hid (show endT ⟨2, a1, a2, a3⟩ = [112, 108, 97, 99, 101, 32] ++ numL a1 ++ [32, 101, 109, 112, 116, 121] by unfold endT; simp [emptyT_eq])
  generalize lineT ⟨2, a1, a2, a3⟩ l = lt at *
  generalize endT ⟨2, a1, a2, a3⟩ = et at *
  generalize l.map shapeS = xs at *
  generalize numL a1 = np at *
  generalize fmtF a2 = f2 at *
  generalize fmtF a3 = f3 at *
  obtain ⟨p0, E0⟩ : ∃ p, p = [112, 108, 97, 99, 101, 32] ++ np := ⟨_, rfl⟩
  have L0 : p0.length ≤ 30 := by rw [E0]; have := HNL.out; simp; omega
  have q0 : ∀ w0, (Op.stringOp .add ⟨#[112, 108, 97, 99, 101, 32]⟩ ⟨np.toArray⟩).run Try.prog w0 = .ok (.string ⟨p0.toArray⟩) w0 := addE ([112, 108, 97, 99, 101, 32]) (np) _ _ _ E0 rfl rfl (by have := HNL.out; simp; omega)
  have EL : et.length ≤ 300 := HTL.out
  have q5 : ∀ w0, (Op.stringOp .add ⟨p0.toArray⟩ ⟨#[32, 101, 109, 112, 116, 121]⟩).run Try.prog w0 = .ok (.string ⟨et.toArray⟩) w0 := addE (p0) ([32, 101, 109, 112, 116, 121]) _ _ _ (by rw [HE.out, E0]) rfl rfl (by simp; omega)
  obtain ⟨p6, E6⟩ : ∃ p : List UInt8, p = et ++ [58, 32] := ⟨_, rfl⟩
  have L6 : p6.length ≤ 302 := by rw [E6]; simp only [List.length_append, List.length_cons, List.length_nil] <;> omega
  have q6 : ∀ w0, (Op.stringOp .add ⟨et.toArray⟩ ⟨#[58, 32]⟩).run Try.prog w0 = .ok (.string ⟨p6.toArray⟩) w0 := addE (et) ([58, 32]) _ _ _ E6 rfl rfl (by simp only [List.length_cons, List.length_nil] <;> omega)
  have q7 : ∀ w0, (Op.stringOp .add ⟨p6.toArray⟩ ⟨(joinL (xs.map dashS) [44, 32]).toArray⟩).run Try.prog w0 = .ok (.string ⟨lt.toArray⟩) w0 := addE (p6) (joinL (xs.map dashS) [44, 32]) _ _ _ (by rw [E6]; exact HLQ.out) rfl rfl (by have := HDL.out; omega)
  clear E0 E6 L0 L6 EL
  go_enter Try.func19, Try.ntmps19
  have e0 := BX.out.cell 0 (by simp)
  have e1 := BX.out.cell 1 (by simp)
  have e2 := BX.out.cell 2 (by simp)
  have e3 := BX.out.cell 3 (by simp)
  simp only [List.getElem_cons_zero, List.getElem_cons_succ] at e0 e1 e2 e3
  go_wp2_with fail
  refine (HA.out _).mono ?_
  rintro e w1 ⟨rfl, hb⟩
  have HBn := Lib.hid (belS HB0.out hb)
  have BX1 := Lib.hid (BX.out.below hb)
  have HSn := Lib.hid (show w.heap.size < w1.heap.size by have := hb.size; simp at this; omega)
  clear hb e0 e1 e2 e3
  have e0 := BX1.out.cell 0 (by simp)
  have e1 := BX1.out.cell 1 (by simp)
  have e2 := BX1.out.cell 2 (by simp)
  have e3 := BX1.out.cell 3 (by simp)
  simp only [List.getElem_cons_zero, List.getElem_cons_succ] at e0 e1 e2 e3
  have HBs := HBn
  clear HBn
  have HBa := Lib.hid (HBs.out.alloc HBs.out.size (.cells #[] 9))
  have HO0 := Lib.hid (ownsRow_baseE (owns_new w1) HBs.out.size)
  go_wp2_with fail
  refine (HSP.out _ HBa.out).mono ?_
  rintro e wN ⟨u, rfl, hu, hb⟩
  have HB1 := Lib.hid (belS HBa.out hb)
  have HO1 := Lib.hid (ownsRow_below HO0.out hb (Nat.le_refl _))
  have HU := Lib.hid (show Owns wN (w1.heap.size + 1) u xs by have h := hu; simp at h; exact h)
  obtain ⟨au, cu, rfl, _⟩ := rowAt_len (owns_row hu (by have := HXL.out; omega))
  rw [List.length_map] at *
  have HUB := Lib.hid (show ∀ g, (Value.slice au xs.length cu).ownBlock = some g → w1.heap.size + 1 ≤ g ∧ g < wN.heap.size from fun g h => World.ownsRow.lt HU.out g h)
  clear hu hb HSP HBa HO0
  go_wp2_with fail
  go_loopw [7, 9, 39] (fun ov _ i wr => ∃ k : Nat, k ≤ xs.length ∧ i = .int .i64 k ∧ Owns wr w.heap.size ov ((xs.take k).map dashS) ∧ Owns wr (w1.heap.size + 1) (.slice au xs.length cu) xs ∧ (∀ g, ov.ownBlock = some g → g < w1.heap.size + 1 ∨ wN.heap.size ≤ g) ∧ Below w.heap.size w wr ∧ wN.heap.size ≤ wr.heap.size) (fun _ _ i _ => xs.length - (intOf i).toNat)
  case atStart => exact ⟨0, Nat.zero_le _, rfl, HO1.out, HU.out, fun g h => Or.inl (by simp [Value.ownBlock] at h; omega), HB1.out, Nat.le_refl _⟩
  case round =>
    obtain ⟨k, hk, rfl, hO, hu, hov, hbr, hnr⟩ := hrel
    have HO := Lib.hid hO
    have HBr := Lib.hid hbr
    have HUr := Lib.hid hu
    have HOV := Lib.hid hov
    have HNR := Lib.hid hnr
    have HXX := HXL.out
    clear hO hbr hu hov hnr
    by_cases hlt : k < xs.length
    · obtain ⟨b, o, rfl, hbw, d1⟩ := rowAt_cell (owns_row HUr.out (by omega)) k (by rw [List.length_map]; omega)
      rw [getElem_map_strV] at d1
      unfold strV at d1
      have HTK := Lib.hid (show (xs.take (k + 1)).map dashS = (xs.take k).map dashS ++ [dashS xs[k]] by rw [List.take_succ_eq_append_getElem hlt, List.map_append]; rfl)
      have hkl : (k : Int) < (xs.length : Int) := by omega
      have hml : ((xs.take k).map dashS).length ≤ 1048576 := by rw [List.length_map, List.length_take]; omega
      have HBB := Lib.hid (show w1.heap.size + 1 ≤ b ∧ b < wN.heap.size from HUB.out b rfl)
      generalize xs[k] = s at *
      cases s with
      | nil =>
        rw [dashS_nil] at HTK
        go_wp2_with (at_builtin; (refine append_strsA rfl _ _ rfl w.heap.size _ ((xs.take k).map dashS) [45] _ wr.heap.size (by rfl) (owns_alloc HO.out _) rfl (cell_new _ _ _) (by omega) (by have := HBr.out.size; simp; omega) ?_; intro v' w6 hO1 hg1 h9; have HO6 := Lib.hid hO1; have HG6 := Lib.hid hg1; have H9 := Lib.hid h9; clear hO1 hg1 h9))
        refine ⟨⟨k + 1, by omega, by go_num, by rw [HTK.out]; exact HO6.out, ?_, ?_, below_append (HBr.out.alloc HBr.out.size _) (owns_alloc HO.out _) HG6.out (by have := HBr.out.size; simp; omega), ?_⟩, by simp [intOf]; omega⟩
        · exact World.ownsRow.kept (owns_alloc HUr.out _) HG6.out (Or.inr (fun e => by
            have h1 := HOV.out b e.symm
            have h2 := HBB.out
            omega))
        · intro g hg
          rcases H9.out with h | h
          · exact HOV.out g (by rw [← h]; exact hg)
          · right
            rw [hg] at h
            have h2 := Option.some.inj h
            have h3 := HNR.out
            simp at h2; omega
        · have h1 := HG6.out.size
          have h3 := HNR.out
          simp at h1; omega
      | cons c r =>
        rw [dashS_cons] at HTK
        go_wp2_with (at_builtin; (refine append_strsA rfl _ _ rfl w.heap.size _ ((xs.take k).map dashS) (c :: r) _ wr.heap.size (by rfl) (owns_alloc HO.out _) rfl (cell_new _ _ _) (by omega) (by have := HBr.out.size; simp; omega) ?_; intro v' w6 hO1 hg1 h9; have HO6 := Lib.hid hO1; have HG6 := Lib.hid hg1; have H9 := Lib.hid h9; clear hO1 hg1 h9))
        refine ⟨⟨k + 1, by omega, by go_num, by rw [HTK.out]; exact HO6.out, ?_, ?_, below_append (HBr.out.alloc HBr.out.size _) (owns_alloc HO.out _) HG6.out (by have := HBr.out.size; simp; omega), ?_⟩, by simp [intOf]; omega⟩
        · exact World.ownsRow.kept (owns_alloc HUr.out _) HG6.out (Or.inr (fun e => by
            have h1 := HOV.out b e.symm
            have h2 := HBB.out
            omega))
        · intro g hg
          rcases H9.out with h | h
          · exact HOV.out g (by rw [← h]; exact hg)
          · right
            rw [hg] at h
            have h2 := Option.some.inj h
            have h3 := HNR.out
            simp at h2; omega
        · have h1 := HG6.out.size
          have h3 := HNR.out
          simp at h1; omega
    · have HOl := Lib.hid (show Owns wr w.heap.size u7 (xs.map dashS) by have h := HO.out; rwa [List.take_of_length_le (by omega)] at h)
      have hkl : ¬ (k : Int) < (xs.length : Int) := by omega
      have HJ1 := Lib.hid (fun v W (h : RowAt W v ((xs.map dashS).map strV)) => (show Calls Try.prog 34 #[v, .string ⟨#[44, 32]⟩] W fun e w' => e = .returned (.string ⟨(joinL (xs.map dashS) [44, 32]).toArray⟩) ∧ Below W.heap.size W w' from specJoin_any v (xs.map dashS) ⟨#[44, 32]⟩ W h (Nat.le_trans HDL.out (by decide)) (by decide)))
      have HOR := Lib.hid (owns_row HOl.out (by rw [List.length_map]; omega))
      generalize joinL (xs.map dashS) [44, 32] = jn at *
      go_wp2_with fail
      refine (HJ1.out _ _ HOR.out).mono ?_
      rintro e w4 ⟨rfl, hb⟩
      have HB4 := Lib.hid (belS HBr.out hb)
      clear hb
      go_wp2_with fail
      go_ret
      exact ⟨rfl, HB4.out⟩
set_option maxRecDepth 100000 in
set_option maxHeartbeats 6400000 in
theorem specEnd3_any (a1 a2 a3 : Int) (v : Value) (l : List SlotD) (w : World) (h0 : -9223372036854775808 ≤ a1) (h1 : a1 ≤ 9223372036854775807) (hx : SliceAt rSlot 7 0 w v l) (hs : ∀ e ∈ l, zPart e.fPart ≤ 1048576) (hl6 : l.length ≤ 1048576) :
    Calls Try.prog 19 #[.agg #[.int .i64 3, .int .i64 a1, .int .i64 a2, .int .i64 a3], v] w fun e w' => e = .returned (.string ⟨(lineT ⟨3, a1, a2, a3⟩ l).toArray⟩) ∧ Below w.heap.size w w' := by
  have HB0 := Lib.hid (bx_box w (.cells #[.int .i64 3, .int .i64 a1, .int .i64 a2, .int .i64 a3] 38))
  have HSP := Lib.hid (fun W (hb : Below w.heap.size w W) => specShapes_any v l W (hx.below goodSlot hb (Nat.le_refl _)) hs hl6)
  have HDL := Lib.hid (dashes_len hs hl6)
  have HTL := Lib.hid (endT_len ⟨3, a1, a2, a3⟩)
  have HLQ := Lib.hid (lineT_eq ⟨3, a1, a2, a3⟩ l)
  have HXL := Lib.hid (show (l.map shapeS).length ≤ 1048576 by rw [List.length_map]; exact hl6)
  have HA := Lib.hid (fun W => specFormat_any a1 W h0 h1)
  have HC := Lib.hid (fun W => specFormatFace_any a2 W)
  have HD := Lib.hid (fun W => specFormatFace_any a3 W)
  have HNL := Lib.hid (numL_shortE a1)
  have HF2 := Lib.hid (fmtF_len a2)
  have HF3 := Lib.hid (fmtF_len a3)
  have BX := Lib.hid (Bx.new w [.int .i64 3, .int .i64 a1, .int .i64 a2, .int .i64 a3] 38)
  clear h0 h1 hx hs hl6
  have HE := Lib.hid (show endT ⟨3, a1, a2, a3⟩ = [98, 97, 100] by unfold endT; simp)
  generalize lineT ⟨3, a1, a2, a3⟩ l = lt at *
  generalize endT ⟨3, a1, a2, a3⟩ = et at *
  generalize l.map shapeS = xs at *
  generalize numL a1 = np at *
  generalize fmtF a2 = f2 at *
  generalize fmtF a3 = f3 at *
  obtain ⟨p0, E0⟩ : ∃ p, p = [112, 108, 97, 99, 101, 32] ++ np := ⟨_, rfl⟩
  have L0 : p0.length ≤ 30 := by rw [E0]; have := HNL.out; simp; omega
  have q0 : ∀ w0, (Op.stringOp .add ⟨#[112, 108, 97, 99, 101, 32]⟩ ⟨np.toArray⟩).run Try.prog w0 = .ok (.string ⟨p0.toArray⟩) w0 := addE ([112, 108, 97, 99, 101, 32]) (np) _ _ _ E0 rfl rfl (by have := HNL.out; simp; omega)
  have EL : et.length ≤ 300 := HTL.out
  obtain rfl := HE.out
  obtain ⟨p6, E6⟩ : ∃ p : List UInt8, p = [98, 97, 100] ++ [58, 32] := ⟨_, rfl⟩
  have L6 : p6.length ≤ 302 := by rw [E6]; simp only [List.length_append, List.length_cons, List.length_nil] <;> omega
  have q6 : ∀ w0, (Op.stringOp .add ⟨#[98, 97, 100]⟩ ⟨#[58, 32]⟩).run Try.prog w0 = .ok (.string ⟨p6.toArray⟩) w0 := addE ([98, 97, 100]) ([58, 32]) _ _ _ E6 rfl rfl (by simp only [List.length_cons, List.length_nil] <;> omega)
  have q7 : ∀ w0, (Op.stringOp .add ⟨p6.toArray⟩ ⟨(joinL (xs.map dashS) [44, 32]).toArray⟩).run Try.prog w0 = .ok (.string ⟨lt.toArray⟩) w0 := addE (p6) (joinL (xs.map dashS) [44, 32]) _ _ _ (by rw [E6]; exact HLQ.out) rfl rfl (by have := HDL.out; omega)
  clear E0 E6 L0 L6 EL
  go_enter Try.func19, Try.ntmps19
  have e0 := BX.out.cell 0 (by simp)
  have e1 := BX.out.cell 1 (by simp)
  have e2 := BX.out.cell 2 (by simp)
  have e3 := BX.out.cell 3 (by simp)
  simp only [List.getElem_cons_zero, List.getElem_cons_succ] at e0 e1 e2 e3
  go_wp2_with fail
  refine (HA.out _).mono ?_
  rintro e w1 ⟨rfl, hb⟩
  have HBn := Lib.hid (belS HB0.out hb)
  have BX1 := Lib.hid (BX.out.below hb)
  have HSn := Lib.hid (show w.heap.size < w1.heap.size by have := hb.size; simp at this; omega)
  clear hb e0 e1 e2 e3
  have e0 := BX1.out.cell 0 (by simp)
  have e1 := BX1.out.cell 1 (by simp)
  have e2 := BX1.out.cell 2 (by simp)
  have e3 := BX1.out.cell 3 (by simp)
  simp only [List.getElem_cons_zero, List.getElem_cons_succ] at e0 e1 e2 e3
  have HBs := HBn
  clear HBn
  have HBa := Lib.hid (HBs.out.alloc HBs.out.size (.cells #[] 9))
  have HO0 := Lib.hid (ownsRow_baseE (owns_new w1) HBs.out.size)
  go_wp2_with fail
  refine (HSP.out _ HBa.out).mono ?_
  rintro e wN ⟨u, rfl, hu, hb⟩
  have HB1 := Lib.hid (belS HBa.out hb)
  have HO1 := Lib.hid (ownsRow_below HO0.out hb (Nat.le_refl _))
  have HU := Lib.hid (show Owns wN (w1.heap.size + 1) u xs by have h := hu; simp at h; exact h)
  obtain ⟨au, cu, rfl, _⟩ := rowAt_len (owns_row hu (by have := HXL.out; omega))
  rw [List.length_map] at *
  have HUB := Lib.hid (show ∀ g, (Value.slice au xs.length cu).ownBlock = some g → w1.heap.size + 1 ≤ g ∧ g < wN.heap.size from fun g h => World.ownsRow.lt HU.out g h)
  clear hu hb HSP HBa HO0
  go_wp2_with fail
  go_loopw [7, 9, 39] (fun ov _ i wr => ∃ k : Nat, k ≤ xs.length ∧ i = .int .i64 k ∧ Owns wr w.heap.size ov ((xs.take k).map dashS) ∧ Owns wr (w1.heap.size + 1) (.slice au xs.length cu) xs ∧ (∀ g, ov.ownBlock = some g → g < w1.heap.size + 1 ∨ wN.heap.size ≤ g) ∧ Below w.heap.size w wr ∧ wN.heap.size ≤ wr.heap.size) (fun _ _ i _ => xs.length - (intOf i).toNat)
  case atStart => exact ⟨0, Nat.zero_le _, rfl, HO1.out, HU.out, fun g h => Or.inl (by simp [Value.ownBlock] at h; omega), HB1.out, Nat.le_refl _⟩
  case round =>
    obtain ⟨k, hk, rfl, hO, hu, hov, hbr, hnr⟩ := hrel
    have HO := Lib.hid hO
    have HBr := Lib.hid hbr
    have HUr := Lib.hid hu
    have HOV := Lib.hid hov
    have HNR := Lib.hid hnr
    have HXX := HXL.out
    clear hO hbr hu hov hnr
    by_cases hlt : k < xs.length
    · obtain ⟨b, o, rfl, hbw, d1⟩ := rowAt_cell (owns_row HUr.out (by omega)) k (by rw [List.length_map]; omega)
      rw [getElem_map_strV] at d1
      unfold strV at d1
      have HTK := Lib.hid (show (xs.take (k + 1)).map dashS = (xs.take k).map dashS ++ [dashS xs[k]] by rw [List.take_succ_eq_append_getElem hlt, List.map_append]; rfl)
      have hkl : (k : Int) < (xs.length : Int) := by omega
      have hml : ((xs.take k).map dashS).length ≤ 1048576 := by rw [List.length_map, List.length_take]; omega
      have HBB := Lib.hid (show w1.heap.size + 1 ≤ b ∧ b < wN.heap.size from HUB.out b rfl)
      generalize xs[k] = s at *
      cases s with
      | nil =>
        rw [dashS_nil] at HTK
        go_wp2_with (at_builtin; (refine append_strsA rfl _ _ rfl w.heap.size _ ((xs.take k).map dashS) [45] _ wr.heap.size (by rfl) (owns_alloc HO.out _) rfl (cell_new _ _ _) (by omega) (by have := HBr.out.size; simp; omega) ?_; intro v' w6 hO1 hg1 h9; have HO6 := Lib.hid hO1; have HG6 := Lib.hid hg1; have H9 := Lib.hid h9; clear hO1 hg1 h9))
        refine ⟨⟨k + 1, by omega, by go_num, by rw [HTK.out]; exact HO6.out, ?_, ?_, below_append (HBr.out.alloc HBr.out.size _) (owns_alloc HO.out _) HG6.out (by have := HBr.out.size; simp; omega), ?_⟩, by simp [intOf]; omega⟩
        · exact World.ownsRow.kept (owns_alloc HUr.out _) HG6.out (Or.inr (fun e => by
            have h1 := HOV.out b e.symm
            have h2 := HBB.out
            omega))
        · intro g hg
          rcases H9.out with h | h
          · exact HOV.out g (by rw [← h]; exact hg)
          · right
            rw [hg] at h
            have h2 := Option.some.inj h
            have h3 := HNR.out
            simp at h2; omega
        · have h1 := HG6.out.size
          have h3 := HNR.out
          simp at h1; omega
      | cons c r =>
        rw [dashS_cons] at HTK
        go_wp2_with (at_builtin; (refine append_strsA rfl _ _ rfl w.heap.size _ ((xs.take k).map dashS) (c :: r) _ wr.heap.size (by rfl) (owns_alloc HO.out _) rfl (cell_new _ _ _) (by omega) (by have := HBr.out.size; simp; omega) ?_; intro v' w6 hO1 hg1 h9; have HO6 := Lib.hid hO1; have HG6 := Lib.hid hg1; have H9 := Lib.hid h9; clear hO1 hg1 h9))
        refine ⟨⟨k + 1, by omega, by go_num, by rw [HTK.out]; exact HO6.out, ?_, ?_, below_append (HBr.out.alloc HBr.out.size _) (owns_alloc HO.out _) HG6.out (by have := HBr.out.size; simp; omega), ?_⟩, by simp [intOf]; omega⟩
        · exact World.ownsRow.kept (owns_alloc HUr.out _) HG6.out (Or.inr (fun e => by
            have h1 := HOV.out b e.symm
            have h2 := HBB.out
            omega))
        · intro g hg
          rcases H9.out with h | h
          · exact HOV.out g (by rw [← h]; exact hg)
          · right
            rw [hg] at h
            have h2 := Option.some.inj h
            have h3 := HNR.out
            simp at h2; omega
        · have h1 := HG6.out.size
          have h3 := HNR.out
          simp at h1; omega
    · have HOl := Lib.hid (show Owns wr w.heap.size u7 (xs.map dashS) by have h := HO.out; rwa [List.take_of_length_le (by omega)] at h)
      have hkl : ¬ (k : Int) < (xs.length : Int) := by omega
      have HJ1 := Lib.hid (fun v W (h : RowAt W v ((xs.map dashS).map strV)) => (show Calls Try.prog 34 #[v, .string ⟨#[44, 32]⟩] W fun e w' => e = .returned (.string ⟨(joinL (xs.map dashS) [44, 32]).toArray⟩) ∧ Below W.heap.size W w' from specJoin_any v (xs.map dashS) ⟨#[44, 32]⟩ W h (Nat.le_trans HDL.out (by decide)) (by decide)))
      have HOR := Lib.hid (owns_row HOl.out (by rw [List.length_map]; omega))
      generalize joinL (xs.map dashS) [44, 32] = jn at *
      go_wp2_with fail
      refine (HJ1.out _ _ HOR.out).mono ?_
      rintro e w4 ⟨rfl, hb⟩
      have HB4 := Lib.hid (belS HBr.out hb)
      clear hb
      go_wp2_with fail
      go_ret
      exact ⟨rfl, HB4.out⟩
set_option maxRecDepth 100000 in
set_option maxHeartbeats 6400000 in
theorem specEnd4_any (a0 a1 a2 a3 : Int) (v : Value) (l : List SlotD) (w : World) (h0 : -9223372036854775808 ≤ a1) (h1 : a1 ≤ 9223372036854775807) (n1 : ¬ a0 = 1) (n2 : ¬ a0 = 2) (n3 : ¬ a0 = 3) (hx : SliceAt rSlot 7 0 w v l) (hs : ∀ e ∈ l, zPart e.fPart ≤ 1048576) (hl6 : l.length ≤ 1048576) :
    Calls Try.prog 19 #[.agg #[.int .i64 a0, .int .i64 a1, .int .i64 a2, .int .i64 a3], v] w fun e w' => e = .returned (.string ⟨(lineT ⟨a0, a1, a2, a3⟩ l).toArray⟩) ∧ Below w.heap.size w w' := by
  have HB0 := Lib.hid (bx_box w (.cells #[.int .i64 a0, .int .i64 a1, .int .i64 a2, .int .i64 a3] 38))
  have HSP := Lib.hid (fun W (hb : Below w.heap.size w W) => specShapes_any v l W (hx.below goodSlot hb (Nat.le_refl _)) hs hl6)
  have HDL := Lib.hid (dashes_len hs hl6)
  have HTL := Lib.hid (endT_len ⟨a0, a1, a2, a3⟩)
  have HLQ := Lib.hid (lineT_eq ⟨a0, a1, a2, a3⟩ l)
  have HXL := Lib.hid (show (l.map shapeS).length ≤ 1048576 by rw [List.length_map]; exact hl6)
  have HA := Lib.hid (fun W => specFormat_any a1 W h0 h1)
  have HC := Lib.hid (fun W => specFormatFace_any a2 W)
  have HD := Lib.hid (fun W => specFormatFace_any a3 W)
  have HNL := Lib.hid (numL_shortE a1)
  have HF2 := Lib.hid (fmtF_len a2)
  have HF3 := Lib.hid (fmtF_len a3)
  have BX := Lib.hid (Bx.new w [.int .i64 a0, .int .i64 a1, .int .i64 a2, .int .i64 a3] 38)
  clear h0 h1 hx hs hl6
  have HE := Lib.hid (show endT ⟨a0, a1, a2, a3⟩ = [111, 107] by unfold endT; rw [if_neg n1, if_neg n2, if_neg n3])
  have k1 : (a0 == 1) = false := by simpa using n1
  have k2 : (a0 == 2) = false := by simpa using n2
  have k3 : (a0 == 3) = false := by simpa using n3
  clear n1 n2 n3
  generalize lineT ⟨a0, a1, a2, a3⟩ l = lt at *
  generalize endT ⟨a0, a1, a2, a3⟩ = et at *
  generalize l.map shapeS = xs at *
  generalize numL a1 = np at *
  generalize fmtF a2 = f2 at *
  generalize fmtF a3 = f3 at *
  obtain ⟨p0, E0⟩ : ∃ p, p = [112, 108, 97, 99, 101, 32] ++ np := ⟨_, rfl⟩
  have L0 : p0.length ≤ 30 := by rw [E0]; have := HNL.out; simp; omega
  have q0 : ∀ w0, (Op.stringOp .add ⟨#[112, 108, 97, 99, 101, 32]⟩ ⟨np.toArray⟩).run Try.prog w0 = .ok (.string ⟨p0.toArray⟩) w0 := addE ([112, 108, 97, 99, 101, 32]) (np) _ _ _ E0 rfl rfl (by have := HNL.out; simp; omega)
  have EL : et.length ≤ 300 := HTL.out
  obtain rfl := HE.out
  obtain ⟨p6, E6⟩ : ∃ p : List UInt8, p = [111, 107] ++ [58, 32] := ⟨_, rfl⟩
  have L6 : p6.length ≤ 302 := by rw [E6]; simp only [List.length_append, List.length_cons, List.length_nil] <;> omega
  have q6 : ∀ w0, (Op.stringOp .add ⟨#[111, 107]⟩ ⟨#[58, 32]⟩).run Try.prog w0 = .ok (.string ⟨p6.toArray⟩) w0 := addE ([111, 107]) ([58, 32]) _ _ _ E6 rfl rfl (by simp only [List.length_cons, List.length_nil] <;> omega)
  have q7 : ∀ w0, (Op.stringOp .add ⟨p6.toArray⟩ ⟨(joinL (xs.map dashS) [44, 32]).toArray⟩).run Try.prog w0 = .ok (.string ⟨lt.toArray⟩) w0 := addE (p6) (joinL (xs.map dashS) [44, 32]) _ _ _ (by rw [E6]; exact HLQ.out) rfl rfl (by have := HDL.out; omega)
  clear E0 E6 L0 L6 EL
  go_enter Try.func19, Try.ntmps19
  have e0 := BX.out.cell 0 (by simp)
  have e1 := BX.out.cell 1 (by simp)
  have e2 := BX.out.cell 2 (by simp)
  have e3 := BX.out.cell 3 (by simp)
  simp only [List.getElem_cons_zero, List.getElem_cons_succ] at e0 e1 e2 e3
  go_wp2_with fail
  refine (HA.out _).mono ?_
  rintro e w1 ⟨rfl, hb⟩
  have HBn := Lib.hid (belS HB0.out hb)
  have BX1 := Lib.hid (BX.out.below hb)
  have HSn := Lib.hid (show w.heap.size < w1.heap.size by have := hb.size; simp at this; omega)
  clear hb e0 e1 e2 e3
  have e0 := BX1.out.cell 0 (by simp)
  have e1 := BX1.out.cell 1 (by simp)
  have e2 := BX1.out.cell 2 (by simp)
  have e3 := BX1.out.cell 3 (by simp)
  simp only [List.getElem_cons_zero, List.getElem_cons_succ] at e0 e1 e2 e3
  have HBs := HBn
  clear HBn
  have HBa := Lib.hid (HBs.out.alloc HBs.out.size (.cells #[] 9))
  have HO0 := Lib.hid (ownsRow_baseE (owns_new w1) HBs.out.size)
  go_wp2_with fail
  refine (HSP.out _ HBa.out).mono ?_
  rintro e wN ⟨u, rfl, hu, hb⟩
  have HB1 := Lib.hid (belS HBa.out hb)
  have HO1 := Lib.hid (ownsRow_below HO0.out hb (Nat.le_refl _))
  have HU := Lib.hid (show Owns wN (w1.heap.size + 1) u xs by have h := hu; simp at h; exact h)
  obtain ⟨au, cu, rfl, _⟩ := rowAt_len (owns_row hu (by have := HXL.out; omega))
  rw [List.length_map] at *
  have HUB := Lib.hid (show ∀ g, (Value.slice au xs.length cu).ownBlock = some g → w1.heap.size + 1 ≤ g ∧ g < wN.heap.size from fun g h => World.ownsRow.lt HU.out g h)
  clear hu hb HSP HBa HO0
  go_wp2_with fail
  go_loopw [7, 9, 39] (fun ov _ i wr => ∃ k : Nat, k ≤ xs.length ∧ i = .int .i64 k ∧ Owns wr w.heap.size ov ((xs.take k).map dashS) ∧ Owns wr (w1.heap.size + 1) (.slice au xs.length cu) xs ∧ (∀ g, ov.ownBlock = some g → g < w1.heap.size + 1 ∨ wN.heap.size ≤ g) ∧ Below w.heap.size w wr ∧ wN.heap.size ≤ wr.heap.size) (fun _ _ i _ => xs.length - (intOf i).toNat)
  case atStart => exact ⟨0, Nat.zero_le _, rfl, HO1.out, HU.out, fun g h => Or.inl (by simp [Value.ownBlock] at h; omega), HB1.out, Nat.le_refl _⟩
  case round =>
    obtain ⟨k, hk, rfl, hO, hu, hov, hbr, hnr⟩ := hrel
    have HO := Lib.hid hO
    have HBr := Lib.hid hbr
    have HUr := Lib.hid hu
    have HOV := Lib.hid hov
    have HNR := Lib.hid hnr
    have HXX := HXL.out
    clear hO hbr hu hov hnr
    by_cases hlt : k < xs.length
    · obtain ⟨b, o, rfl, hbw, d1⟩ := rowAt_cell (owns_row HUr.out (by omega)) k (by rw [List.length_map]; omega)
      rw [getElem_map_strV] at d1
      unfold strV at d1
      have HTK := Lib.hid (show (xs.take (k + 1)).map dashS = (xs.take k).map dashS ++ [dashS xs[k]] by rw [List.take_succ_eq_append_getElem hlt, List.map_append]; rfl)
      have hkl : (k : Int) < (xs.length : Int) := by omega
      have hml : ((xs.take k).map dashS).length ≤ 1048576 := by rw [List.length_map, List.length_take]; omega
      have HBB := Lib.hid (show w1.heap.size + 1 ≤ b ∧ b < wN.heap.size from HUB.out b rfl)
      generalize xs[k] = s at *
      cases s with
      | nil =>
        rw [dashS_nil] at HTK
        go_wp2_with (at_builtin; (refine append_strsA rfl _ _ rfl w.heap.size _ ((xs.take k).map dashS) [45] _ wr.heap.size (by rfl) (owns_alloc HO.out _) rfl (cell_new _ _ _) (by omega) (by have := HBr.out.size; simp; omega) ?_; intro v' w6 hO1 hg1 h9; have HO6 := Lib.hid hO1; have HG6 := Lib.hid hg1; have H9 := Lib.hid h9; clear hO1 hg1 h9))
        refine ⟨⟨k + 1, by omega, by go_num, by rw [HTK.out]; exact HO6.out, ?_, ?_, below_append (HBr.out.alloc HBr.out.size _) (owns_alloc HO.out _) HG6.out (by have := HBr.out.size; simp; omega), ?_⟩, by simp [intOf]; omega⟩
        · exact World.ownsRow.kept (owns_alloc HUr.out _) HG6.out (Or.inr (fun e => by
            have h1 := HOV.out b e.symm
            have h2 := HBB.out
            omega))
        · intro g hg
          rcases H9.out with h | h
          · exact HOV.out g (by rw [← h]; exact hg)
          · right
            rw [hg] at h
            have h2 := Option.some.inj h
            have h3 := HNR.out
            simp at h2; omega
        · have h1 := HG6.out.size
          have h3 := HNR.out
          simp at h1; omega
      | cons c r =>
        rw [dashS_cons] at HTK
        go_wp2_with (at_builtin; (refine append_strsA rfl _ _ rfl w.heap.size _ ((xs.take k).map dashS) (c :: r) _ wr.heap.size (by rfl) (owns_alloc HO.out _) rfl (cell_new _ _ _) (by omega) (by have := HBr.out.size; simp; omega) ?_; intro v' w6 hO1 hg1 h9; have HO6 := Lib.hid hO1; have HG6 := Lib.hid hg1; have H9 := Lib.hid h9; clear hO1 hg1 h9))
        refine ⟨⟨k + 1, by omega, by go_num, by rw [HTK.out]; exact HO6.out, ?_, ?_, below_append (HBr.out.alloc HBr.out.size _) (owns_alloc HO.out _) HG6.out (by have := HBr.out.size; simp; omega), ?_⟩, by simp [intOf]; omega⟩
        · exact World.ownsRow.kept (owns_alloc HUr.out _) HG6.out (Or.inr (fun e => by
            have h1 := HOV.out b e.symm
            have h2 := HBB.out
            omega))
        · intro g hg
          rcases H9.out with h | h
          · exact HOV.out g (by rw [← h]; exact hg)
          · right
            rw [hg] at h
            have h2 := Option.some.inj h
            have h3 := HNR.out
            simp at h2; omega
        · have h1 := HG6.out.size
          have h3 := HNR.out
          simp at h1; omega
    · have HOl := Lib.hid (show Owns wr w.heap.size u7 (xs.map dashS) by have h := HO.out; rwa [List.take_of_length_le (by omega)] at h)
      have hkl : ¬ (k : Int) < (xs.length : Int) := by omega
      have HJ1 := Lib.hid (fun v W (h : RowAt W v ((xs.map dashS).map strV)) => (show Calls Try.prog 34 #[v, .string ⟨#[44, 32]⟩] W fun e w' => e = .returned (.string ⟨(joinL (xs.map dashS) [44, 32]).toArray⟩) ∧ Below W.heap.size W w' from specJoin_any v (xs.map dashS) ⟨#[44, 32]⟩ W h (Nat.le_trans HDL.out (by decide)) (by decide)))
      have HOR := Lib.hid (owns_row HOl.out (by rw [List.length_map]; omega))
      generalize joinL (xs.map dashS) [44, 32] = jn at *
      go_wp2_with fail
      refine (HJ1.out _ _ HOR.out).mono ?_
      rintro e w4 ⟨rfl, hb⟩
      have HB4 := Lib.hid (belS HBr.out hb)
      clear hb
      go_wp2_with fail
      go_ret
      exact ⟨rfl, HB4.out⟩
theorem specEndLine_any (x : EndD) (v : Value) (l : List SlotD) (w : World) (h0 : -9223372036854775808 ≤ x.fPlace) (h1 : x.fPlace ≤ 9223372036854775807) (hx : SliceAt rSlot 7 0 w v l) (hs : ∀ e ∈ l, zPart e.fPart ≤ 1048576) (hl6 : l.length ≤ 1048576) :
    Calls Try.prog 19 #[vEnd x, v] w fun e w' => e = .returned (.string ⟨(lineT x l).toArray⟩) ∧ Below w.heap.size w w' := by
  obtain ⟨a0, a1, a2, a3⟩ := x
  rcases (show a0 = 1 ∨ a0 = 2 ∨ a0 = 3 ∨ (¬ a0 = 1 ∧ ¬ a0 = 2 ∧ ¬ a0 = 3) by omega) with rfl | rfl | rfl | ⟨n1, n2, n3⟩
  · exact specEnd1_any a1 a2 a3 v l w h0 h1 hx hs hl6
  · exact specEnd2_any a1 a2 a3 v l w h0 h1 hx hs hl6
  · exact specEnd3_any a1 a2 a3 v l w h0 h1 hx hs hl6
  · exact specEnd4_any a0 a1 a2 a3 v l w h0 h1 n1 n2 n3 hx hs hl6
end Go.Proofs.Yteeopjcbpngofaa
/- Arguments opened: structs by value, slices of structs. -/
namespace Go.Proofs.Yteeopjcbpngofaa
set_option linter.unusedVariables false
open Go.ChangeShapes Go.WideShapes Go.ChangeAt Go.RowKit Go.WideMaps Go.WideElems
open Go.Deep
section
variable {H : Type} {enc : TypeId × Value → H} {P : Program} {W : World}
theorem leaf_str {n : Nat} {t : TypeId} {c : Value} {x : DataW H × List MemPlace} (ht : P.underlying t = some .string) (h : DataW.trod enc P W 0 (fun _ => true) true n t [c] = some x) : ∃ l : List UInt8, c = .string ⟨l.toArray⟩ ∧ l.length ≤ maxLen := by
  obtain ⟨s, h1, _, h3⟩ := DataW.trod_string ht h
  injection h1 with h1
  exact ⟨s.data.toList, by rw [h1], by rw [Array.length_toList]; exact h3⟩
theorem leaf_int {n : Nat} {t : TypeId} {c : Value} {x : DataW H × List MemPlace} (ht : P.underlying t = some (.int .i64)) (h : DataW.trod enc P W 0 (fun _ => true) true n t [c] = some x) : ∃ z : Int, c = .int .i64 z ∧ -9223372036854775808 ≤ z ∧ z ≤ 9223372036854775807 := by
  obtain ⟨z, h1, _, h3⟩ := DataW.trod_int ht h
  injection h1 with h1
  exact ⟨z, h1, bounds_i64 h3⟩
theorem leaf_bool {n : Nat} {t : TypeId} {c : Value} {x : DataW H × List MemPlace} (ht : P.underlying t = some .bool) (h : DataW.trod enc P W 0 (fun _ => true) true n t [c] = some x) : ∃ b : Bool, c = .bool b := by
  obtain ⟨b, h1, _⟩ := DataW.trod_bool ht h
  injection h1 with h1
  exact ⟨b, h1⟩
theorem field_at {fs : Array Field} {n : Nat} {cs : List Value} {xs : List (DataW H × List MemPlace)} (hl : xs.length = fs.size)
    (hf : ∀ (i : Nat) (f : Field), fs[i]? = some f → DataW.trod enc P W 0 (fun _ => true) true n f.type ((cs.drop f.offset).take (P.cellsOf f.type)) = xs[i]?) (i : Nat) (f : Field) (h : fs[i]? = some f) :
    ∃ x, DataW.trod enc P W 0 (fun _ => true) true n f.type ((cs.drop f.offset).take (P.cellsOf f.type)) = some x := by
  have hi : i < fs.size := (Array.getElem?_eq_some_iff.1 h).1
  exact ⟨xs[i]'(by omega), by rw [hf i f h, List.getElem?_eq_getElem]⟩
theorem field_one {fs : Array Field} {n : Nat} {cs : List Value} {xs : List (DataW H × List MemPlace)} (hl : xs.length = fs.size)
    (hf : ∀ (i : Nat) (f : Field), fs[i]? = some f → DataW.trod enc P W 0 (fun _ => true) true n f.type ((cs.drop f.offset).take (P.cellsOf f.type)) = xs[i]?) (i : Nat) (f : Field) (T o : Nat) (c : Value) (r : List Value) (h : fs[i]? = some f) (hT : f.type = T) (ho : f.offset = o) (hc : P.cellsOf T = 1) (hd : cs.drop o = c :: r) :
    ∃ x, DataW.trod enc P W 0 (fun _ => true) true n T [c] = some x := by
  obtain ⟨x, hx⟩ := field_at hl hf i f h
  subst hT; subst ho
  rw [hc, hd] at hx
  exact ⟨x, hx⟩
/-- a slice of structs of texts and numbers -/
theorem open_flat {α : Type} [Inhabited α] {f : α → List Value} {k : Nat} {G : α → Prop} (hk : ∀ x, (f x).length = k) (hk0 : 0 < k) {t e : TypeId} {n : Nat} {v : Value} {x : DataW H × List MemPlace} (ht : P.underlying t = some (.slice e)) (hc : P.cellsOf e = k)
    (hel : ∀ n cs x, DataW.trod enc P W 0 (fun _ => true) true n e cs = some x → ∃ d, cs = f d ∧ G d) (h : DataW.trod enc P W 0 (fun _ => true) true n t [v] = some x) :
    ∃ l : List α, FlatAt f k W v l ∧ ∀ d ∈ l, G d := by
  rcases open_slice ht h with ⟨h0, _⟩ | ⟨a, len, cap, m, n', D, Pl, hcs, _, hl, hm, hmm, _, hx⟩
  · injection h0 with h0
    subst h0
    exact ⟨[], ⟨none, 0, rfl, by simp, Nat.zero_le _, Or.inl rfl⟩, by simp⟩
  · injection hcs with hcs
    subst hcs
    simp only [if_true] at hmm
    subst hmm
    obtain ⟨F, hF⟩ := choose_lt (α := α) (p := fun i d => (∀ j, j < k → W.cell? ((a.add (i * k)).add j) = (f d)[j]?) ∧ G d) (n := m) (fun i hi => by
      obtain ⟨cs', h1, h2⟩ := hx i hi
      obtain ⟨d, rfl, hg⟩ := hel _ _ _ h2
      rw [hc] at h1
      obtain ⟨_, _, h3⟩ := World.cells?_some h1
      exact ⟨d, h3, hg⟩)
    refine ⟨(List.range len).map F, ?_, ?_⟩
    · obtain ⟨ab, ao, spot⟩ := a
      refine ⟨some ⟨ab, ao, spot⟩, m - len, by simp; omega, by rw [flat_len f k hk, List.length_map], by simp; omega, ?_⟩
      rcases Nat.eq_zero_or_pos len with h0 | hpos
      · left; simp [h0]
      · right
        have g0 := (hF 0 (by omega)).1 0 hk0
        have hlen0 : 0 < (f (F 0)).length := by rw [hk]; exact hk0
        rw [List.getElem?_eq_getElem hlen0] at g0
        have hspot : spot = none := by
          have := World.cell?_spot g0
          simpa [Addr.add] using this
        subst hspot
        have hlt : ab < W.heap.size := by
          simp only [Addr.add_lit, Nat.zero_mul, Nat.add_zero] at g0
          exact World.block_lt_of_cell? W _ g0
        refine ⟨ab, ao, rfl, hlt, fun i hi => ?_⟩
        rw [List.length_map, List.length_range] at hi
        have hq : i / k < len := Nat.div_lt_of_lt_mul (by rw [Nat.mul_comm]; exact hi)
        have hr : i % k < k := Nat.mod_lt _ hk0
        have h1 := (hF (i / k) (by omega)).1 (i % k) hr
        rw [Addr.add_lit, Addr.add_lit] at h1
        have e1 : i / k * k + i % k = i := by rw [Nat.mul_comm]; exact Nat.div_add_mod i k
        rw [show ao + i / k * k + i % k = ao + i by omega] at h1
        rw [h1, ← e1, flat_get f k hk _ (i / k) (by simpa using hq) (i % k) hr]
        simp [e1]
    · intro d hd
      obtain ⟨i, hi, rfl⟩ := List.mem_map.1 hd
      exact (hF i (by have := List.mem_range.1 hi; omega)).2
theorem two_of {α : Type} {l : List α} (h : l.length = 2) : ∃ a b, l = [a, b] := by match l, h with | [a, b], _ => exact ⟨a, b, rfl⟩
theorem three_of {α : Type} {l : List α} (h : l.length = 3) : ∃ a b c, l = [a, b, c] := by match l, h with | [a, b, c], _ => exact ⟨a, b, c, rfl⟩
theorem four_of {α : Type} {l : List α} (h : l.length = 4) : ∃ a b c d, l = [a, b, c, d] := by match l, h with | [a, b, c, d], _ => exact ⟨a, b, c, d, rfl⟩
theorem five_of {α : Type} {l : List α} (h : l.length = 5) : ∃ a b c d e, l = [a, b, c, d, e] := by match l, h with | [a, b, c, d, e], _ => exact ⟨a, b, c, d, e, rfl⟩
end
section
variable {H : Type} {enc : TypeId × Value → H} {W : World}
set_option maxRecDepth 100000 in
theorem open_Cell {n : Nat} {cs : List Value} {x : DataW H × List MemPlace} (h : DataW.trod enc Try.prog W 0 (fun _ => true) true n 170 cs = some x) : ∃ d : CellD, cs = cCell d ∧ okCell d := by
  obtain ⟨xs, m, rfl, _, hl, hn, hf⟩ := DataW.trod_struct Try.underlying170 h
  rw [show Try.prog.cellsOf 170 = 2 by kernel_rfl] at hl
  obtain ⟨c0, c1, rfl⟩ := two_of hl
  obtain ⟨y0, k0⟩ := field_one hn hf 0 _ 9 0 _ _ rfl rfl rfl (by kernel_rfl) rfl
  obtain ⟨y1, k1⟩ := field_one hn hf 1 _ 3 1 _ _ rfl rfl rfl (by kernel_rfl) rfl
  obtain ⟨l0, rfl, b0⟩ := leaf_str Try.underlying9 k0
  obtain ⟨l1, rfl, b1⟩ := leaf_int Try.underlying3 k1
  exact ⟨⟨l0, l1⟩, rfl, b0, b1⟩
set_option maxRecDepth 100000 in
theorem openS_Cell {n : Nat} {v : Value} {x : DataW H × List MemPlace} (h : DataW.trod enc Try.prog W 0 (fun _ => true) true n 68 [v] = some x) : ∃ l : List CellD, FlatAt cCell 2 W v l ∧ ∀ d ∈ l, okCell d :=
  haveI : Inhabited CellD := ⟨⟨[], 0⟩⟩
  open_flat cCell_len (by decide) Try.underlying68 (by kernel_rfl) (fun _ _ _ h => open_Cell h) h
set_option maxRecDepth 100000 in
theorem argS_Cell {base : Nat} {v : Value} {d : DataW H} {p : List MemPlace} (hval : Value.okWide Try.prog W .any base 68 v) (h : DataW.Trod enc Try.prog W 0 (fun _ => true) true 68 v d p) : ∃ l : List CellD, FlatAt cCell 2 W v l ∧ ∀ d ∈ l, okCell d := by
  obtain ⟨a1, len, cap, rfl⟩ := okWide_slice Try.underlying68 hval
  obtain ⟨fuel, hf⟩ := h
  exact openS_Cell hf
end
end Go.Proofs.Yteeopjcbpngofaa
/- Arguments opened: cores. -/
namespace Go.Proofs.Yteeopjcbpngofaa
set_option linter.unusedVariables false
open Go.ChangeShapes Go.WideShapes Go.ChangeAt Go.RowKit Go.WideMaps Go.WideElems
open Go.Deep
section
variable {H : Type} {enc : TypeId × Value → H} {W : World}
set_option maxRecDepth 100000 in
theorem open_Core {n : Nat} {cs : List Value} {x : DataW H × List MemPlace} (h : DataW.trod enc Try.prog W 0 (fun _ => true) true n 70 cs = some x) :
    ∃ (d : CoreD) (cv : Value), cs = [.string ⟨d.fKind.toArray⟩, .bool d.fOn, .bool d.fBroken, cv, .int .i64 d.fCount] ∧ FlatAt cCell 2 W cv d.fCells ∧ okCore d := by
  obtain ⟨xs, m, rfl, _, hl, hn, hf⟩ := DataW.trod_struct Try.underlying70 h
  rw [show Try.prog.cellsOf 70 = 5 by kernel_rfl] at hl
  obtain ⟨c0, c1, c2, c3, c4, rfl⟩ := five_of hl
  obtain ⟨y0, k0⟩ := field_one hn hf 0 _ 9 0 _ _ rfl rfl rfl (by kernel_rfl) rfl
  obtain ⟨y1, k1⟩ := field_one hn hf 1 _ 4 1 _ _ rfl rfl rfl (by kernel_rfl) rfl
  obtain ⟨y2, k2⟩ := field_one hn hf 2 _ 4 2 _ _ rfl rfl rfl (by kernel_rfl) rfl
  obtain ⟨y3, k3⟩ := field_one hn hf 3 _ 68 3 _ _ rfl rfl rfl (by kernel_rfl) rfl
  obtain ⟨y4, k4⟩ := field_one hn hf 4 _ 3 4 _ _ rfl rfl rfl (by kernel_rfl) rfl
  obtain ⟨l0, rfl, b0⟩ := leaf_str Try.underlying9 k0
  obtain ⟨l1, rfl⟩ := leaf_bool Try.underlying4 k1
  obtain ⟨l2, rfl⟩ := leaf_bool Try.underlying4 k2
  obtain ⟨l3, b3, e3⟩ := openS_Cell k3
  obtain ⟨l4, rfl, b4⟩ := leaf_int Try.underlying3 k4
  exact ⟨⟨l0, l1, l2, l3, l4⟩, c3, rfl, b3, b0, e3, b4⟩
set_option maxRecDepth 100000 in
theorem arg_Core {base : Nat} {v : Value} {d : DataW H} {p : List MemPlace} (hval : Value.okWide Try.prog W .any base 70 v) (h : DataW.Trod enc Try.prog W 0 (fun _ => true) true 70 v d p) : ∃ d : CoreD, CoreAt W v d ∧ okCore d := by
  obtain ⟨cs, rfl, _⟩ := okWide_struct Try.underlying70 hval
  obtain ⟨fuel, hf⟩ := h
  obtain ⟨d, cv, h1, h2, h3⟩ := open_Core hf
  refine ⟨d, ⟨cv, ?_, h2⟩, h3⟩
  simp only [Value.cells] at h1
  unfold vCore
  congr 1
  exact Array.toList_inj.1 h1
end
end Go.Proofs.Yteeopjcbpngofaa
/- Arguments opened: flat structs. Written by gen/openflat.py. -/
namespace Go.Proofs.Yteeopjcbpngofaa
set_option linter.unusedVariables false
open Go.ChangeShapes Go.WideShapes Go.ChangeAt Go.RowKit Go.WideMaps Go.WideElems
open Go.Deep
section
variable {H : Type} {enc : TypeId × Value → H} {W : World}
set_option maxRecDepth 100000 in
theorem open_Layer {n : Nat} {cs : List Value} {x : DataW H × List MemPlace} (h : DataW.trod enc Try.prog W 0 (fun _ => true) true n 158 cs = some x) : ∃ d : LayerD, cs = cLayer d ∧ okLayer d := by
  obtain ⟨xs, m, rfl, _, hl, hn, hf⟩ := DataW.trod_struct Try.underlying158 h
  rw [show Try.prog.cellsOf 158 = 2 by kernel_rfl] at hl
  obtain ⟨c0, c1, rfl⟩ := two_of hl
  obtain ⟨y0, k0⟩ := field_one hn hf 0 _ 9 0 _ _ rfl rfl rfl (by kernel_rfl) rfl
  obtain ⟨y1, k1⟩ := field_one hn hf 1 _ 3 1 _ _ rfl rfl rfl (by kernel_rfl) rfl
  obtain ⟨l0, rfl, b0⟩ := leaf_str Try.underlying9 k0
  obtain ⟨l1, rfl, b1⟩ := leaf_int Try.underlying3 k1
  exact ⟨⟨l0, l1⟩, rfl, b0, b1⟩
set_option maxRecDepth 100000 in
theorem arg_Layer {base : Nat} {v : Value} {d : DataW H} {p : List MemPlace} (hval : Value.okWide Try.prog W .any base 158 v) (h : DataW.Trod enc Try.prog W 0 (fun _ => true) true 158 v d p) : ∃ d : LayerD, v = vLayer d ∧ okLayer d := by
  obtain ⟨cs, rfl, _⟩ := okWide_struct Try.underlying158 hval
  obtain ⟨fuel, hf⟩ := h
  obtain ⟨d, h1, h2⟩ := open_Layer hf
  refine ⟨d, ?_, h2⟩
  simp only [Value.cells] at h1
  unfold vLayer
  congr 1
  exact Array.toList_inj.1 h1
set_option maxRecDepth 100000 in
theorem openS_Layer {n : Nat} {v : Value} {x : DataW H × List MemPlace} (h : DataW.trod enc Try.prog W 0 (fun _ => true) true n 71 [v] = some x) : ∃ l : List LayerD, FlatAt cLayer 2 W v l ∧ ∀ d ∈ l, okLayer d :=
  haveI : Inhabited LayerD := ⟨⟨[], 0⟩⟩
  open_flat cLayer_len (by decide) Try.underlying71 (by kernel_rfl) (fun _ _ _ h => open_Layer h) h
set_option maxRecDepth 100000 in
theorem argS_Layer {base : Nat} {v : Value} {d : DataW H} {p : List MemPlace} (hval : Value.okWide Try.prog W .any base 71 v) (h : DataW.Trod enc Try.prog W 0 (fun _ => true) true 71 v d p) : ∃ l : List LayerD, FlatAt cLayer 2 W v l ∧ ∀ d ∈ l, okLayer d := by
  obtain ⟨a1, len, cap, rfl⟩ := okWide_slice Try.underlying71 hval
  obtain ⟨fuel, hf⟩ := h
  exact openS_Layer hf
end
end Go.Proofs.Yteeopjcbpngofaa
/- Arguments opened: slices of structs that hold rows themselves. -/
namespace Go.Proofs.Yteeopjcbpngofaa
set_option linter.unusedVariables false
open Go.ChangeShapes Go.WideShapes Go.ChangeAt Go.RowKit Go.WideMaps Go.WideElems
open Go.Deep
section
variable {H : Type} {enc : TypeId × Value → H} {P : Program} {W : World}
theorem open_deep {α : Type} [Inhabited α] {R : Nat → World → List Value → α → Prop} {k : Nat} {G : α → Prop} (hg : Good R k) (hk0 : 0 < k) {t e : TypeId} {n : Nat} {v : Value} {x : DataW H × List MemPlace} (ht : P.underlying t = some (.slice e)) (hc : P.cellsOf e = k)
    (hel : ∀ n cs x, DataW.trod enc P W 0 (fun _ => true) true n e cs = some x → ∃ d, R 0 W cs d ∧ G d) (h : DataW.trod enc P W 0 (fun _ => true) true n t [v] = some x) :
    ∃ l : List α, SliceAt R k 0 W v l ∧ ∀ d ∈ l, G d := by
  rcases open_slice ht h with ⟨h0, _⟩ | ⟨a, len, cap, m, n', D, Pl, hcs, _, hl, hm, hmm, _, hx⟩
  · injection h0 with h0
    subst h0
    exact ⟨[], sliceAt_nil _ _, by simp⟩
  · injection hcs with hcs
    subst hcs
    simp only [if_true] at hmm
    subst hmm
    obtain ⟨F, hF⟩ := choose_lt (α := α) (p := fun i d => (∃ cs, R 0 W cs d ∧ ∀ j, j < k → W.cell? ((a.add (i * k)).add j) = cs[j]?) ∧ G d) (n := m) (fun i hi => by
      obtain ⟨cs', h1, h2⟩ := hx i hi
      obtain ⟨d, hr, hg2⟩ := hel _ _ _ h2
      rw [hc] at h1
      obtain ⟨_, _, h3⟩ := World.cells?_some h1
      exact ⟨d, ⟨cs', hr, h3⟩, hg2⟩)
    refine ⟨(List.range len).map F, ?_, ?_⟩
    · obtain ⟨ab, ao, spot⟩ := a
      refine ⟨some ⟨ab, ao, spot⟩, m - len, by simp; omega, by simp; omega, ?_⟩
      rcases Nat.eq_zero_or_pos len with h0 | hpos
      · left; simp [h0]
      · right
        obtain ⟨cs0, r0, g0⟩ := (hF 0 (by omega)).1
        have g0 := g0 0 hk0
        have hlen0 : 0 < cs0.length := by rw [hg.len r0]; exact hk0
        rw [List.getElem?_eq_getElem hlen0] at g0
        have hspot : spot = none := by
          have := World.cell?_spot g0
          simpa [Addr.add] using this
        subst hspot
        have hlt : ab < W.heap.size := by
          simp only [Addr.add_lit, Nat.zero_mul, Nat.add_zero] at g0
          exact World.block_lt_of_cell? W _ g0
        refine ⟨ab, ao, rfl, Nat.zero_le _, hlt, fun i hi => ?_⟩
        have hi2 : i < len := by simpa using hi
        obtain ⟨cs, r1, g1⟩ := (hF i (by omega)).1
        refine ⟨cs, by simpa using r1, fun j hj => ?_⟩
        have h2 := g1 j hj
        rw [Addr.add_lit, Addr.add_lit] at h2
        exact h2
    · intro d hd
      obtain ⟨i, hi, rfl⟩ := List.mem_map.1 hd
      exact (hF i (by have := List.mem_range.1 hi; omega)).2
end
end Go.Proofs.Yteeopjcbpngofaa
/- Arguments opened: parts. -/
namespace Go.Proofs.Yteeopjcbpngofaa
set_option linter.unusedVariables false
open Go.ChangeShapes Go.WideShapes Go.ChangeAt Go.RowKit Go.WideMaps Go.WideElems
open Go.Deep
theorem belPart {w w' : World} {cs : List Value} {x : PartD} {F B : Nat} (h : rPart F w cs x) (hb : Below B w w') (hB : w.heap.size ≤ B) : rPart F w' cs x := goodPart.keep h (kept_below hb hB)
theorem six_of {α : Type} {l : List α} (h : l.length = 6) : ∃ a b c d e f, l = [a, b, c, d, e, f] := by match l, h with | [a, b, c, d, e, f], _ => exact ⟨a, b, c, d, e, f, rfl⟩
section
variable {H : Type} {enc : TypeId × Value → H} {W : World}
set_option maxRecDepth 100000 in
theorem openR_Part {n : Nat} {cs : List Value} {x : DataW H × List MemPlace} (h : DataW.trod enc Try.prog W 0 (fun _ => true) true n 73 cs = some x) : ∃ d : PartD, rPart 0 W cs d ∧ okPart d := by
  obtain ⟨xs, m, rfl, _, hl, hn, hf⟩ := DataW.trod_struct Try.underlying73 h
  rw [show Try.prog.cellsOf 73 = 6 by kernel_rfl] at hl
  obtain ⟨c0, c1, c2, c3, c4, c5, rfl⟩ := six_of hl
  obtain ⟨y0, k0⟩ := field_at hn hf 0 _ rfl
  have k0 : DataW.trod enc Try.prog W 0 (fun _ => true) true m 70 [c0, c1, c2, c3, c4] = some y0 := by
    have e : Try.prog.cellsOf 70 = 5 := by kernel_rfl
    simpa [e] using k0
  obtain ⟨y1, k1⟩ := field_one hn hf 1 _ 71 5 _ _ rfl rfl rfl (by kernel_rfl) rfl
  obtain ⟨d, cv, e0, b0, g0⟩ := open_Core k0
  obtain ⟨l1, b1, g1⟩ := openS_Layer k1
  injection e0 with e0 e1
  injection e1 with e1 e2
  injection e2 with e2 e3
  injection e3 with e3 e4
  injection e4 with e4 _
  subst e0 e1 e2 e3 e4
  exact ⟨⟨d, l1⟩, ⟨c3, c5, rfl, sliceAt_of_flat cCell_len b0, sliceAt_of_flat cLayer_len b1⟩, g0, g1⟩
set_option maxRecDepth 100000 in
theorem arg_Part {base : Nat} {v : Value} {d : DataW H} {p : List MemPlace} (hval : Value.okWide Try.prog W .any base 73 v) (h : DataW.Trod enc Try.prog W 0 (fun _ => true) true 73 v d p) : ∃ d : PartD, ValAt rPart 0 W v d ∧ okPart d := by
  obtain ⟨cs, rfl, _⟩ := okWide_struct Try.underlying73 hval
  obtain ⟨fuel, hf⟩ := h
  obtain ⟨d, h1, h2⟩ := openR_Part hf
  exact ⟨d, ⟨cs.toList, by simp, h1⟩, h2⟩
end
end Go.Proofs.Yteeopjcbpngofaa
/- Arguments opened: slices of slots. -/
namespace Go.Proofs.Yteeopjcbpngofaa
set_option linter.unusedVariables false
open Go.ChangeShapes Go.WideShapes Go.ChangeAt Go.RowKit Go.WideMaps Go.WideElems
open Go.Deep
theorem belSlot {w w' : World} {cs : List Value} {x : SlotD} {F B : Nat} (h : rSlot F w cs x) (hb : Below B w w') (hB : w.heap.size ≤ B) : rSlot F w' cs x := goodSlot.keep h (kept_below hb hB)
theorem belSlotS {w w' : World} {v : Value} {l : List SlotD} {F B : Nat} (h : SliceAt rSlot 7 F w v l) (hb : Below B w w') (hB : w.heap.size ≤ B) : SliceAt rSlot 7 F w' v l := h.below goodSlot hb hB
theorem zeroSlotS {w : World} {v : Value} {l : List SlotD} {F : Nat} (h : SliceAt rSlot 7 F w v l) : SliceAt rSlot 7 0 w v l := h.mono goodSlot (Nat.zero_le _)
theorem slot_seven {α : Type} {l : List α} (h : l.length = 7) : ∃ a b c d e f g, l = [a, b, c, d, e, f, g] := by match l, h with | [a, b, c, d, e, f, g], _ => exact ⟨a, b, c, d, e, f, g, rfl⟩
section
variable {H : Type} {enc : TypeId × Value → H} {W : World}
set_option maxRecDepth 100000 in
theorem openR_Slot {n : Nat} {cs : List Value} {x : DataW H × List MemPlace} (h : DataW.trod enc Try.prog W 0 (fun _ => true) true n 75 cs = some x) : ∃ d : SlotD, rSlot 0 W cs d ∧ okSlot d := by
  obtain ⟨xs, m, rfl, _, hl, hn, hf⟩ := DataW.trod_struct Try.underlying75 h
  rw [show Try.prog.cellsOf 75 = 7 by kernel_rfl] at hl
  obtain ⟨c0, c1, c2, c3, c4, c5, c6, rfl⟩ := slot_seven hl
  obtain ⟨y0, k0⟩ := field_one hn hf 0 _ 4 0 _ _ rfl rfl rfl (by kernel_rfl) rfl
  obtain ⟨y1, k1⟩ := field_at hn hf 1 _ rfl
  have k1 : DataW.trod enc Try.prog W 0 (fun _ => true) true m 73 [c1, c2, c3, c4, c5, c6] = some y1 := by
    have e : Try.prog.cellsOf 73 = 6 := by kernel_rfl
    simpa [e] using k1
  obtain ⟨b, rfl⟩ := leaf_bool Try.underlying4 k0
  obtain ⟨p, ⟨v3, v5, e1, b3, b5⟩, g1⟩ := openR_Part k1
  injection e1 with e1 e2
  injection e2 with e2 e3
  injection e3 with e3 e4
  injection e4 with e4 e5
  injection e5 with e5 e6
  injection e6 with e6 _
  subst e1 e2 e3 e4 e5 e6
  exact ⟨⟨b, p⟩, ⟨_, _, rfl, b3, b5⟩, trivial, g1⟩
set_option maxRecDepth 100000 in
theorem argS_Slot {base : Nat} {v : Value} {d : DataW H} {p : List MemPlace} (hval : Value.okWide Try.prog W .any base 27 v) (h : DataW.Trod enc Try.prog W 0 (fun _ => true) true 27 v d p) : ∃ l : List SlotD, SliceAt rSlot 7 0 W v l ∧ ∀ d ∈ l, okSlot d := by
  obtain ⟨a1, len, cap, rfl⟩ := okWide_slice Try.underlying27 hval
  obtain ⟨fuel, hf⟩ := h
  haveI : Inhabited SlotD := ⟨⟨false, ⟨⟨[], false, false, [], 0⟩, []⟩⟩⟩
  exact open_deep goodSlot (by decide) Try.underlying27 (by kernel_rfl) (fun _ _ _ h => openR_Slot h) hf
end
end Go.Proofs.Yteeopjcbpngofaa
/- Arguments opened: flat structs. Written by gen/openflat.py. -/
namespace Go.Proofs.Yteeopjcbpngofaa
set_option linter.unusedVariables false
open Go.ChangeShapes Go.WideShapes Go.ChangeAt Go.RowKit Go.WideMaps Go.WideElems
open Go.Deep
section
variable {H : Type} {enc : TypeId × Value → H} {W : World}
set_option maxRecDepth 100000 in
theorem open_End {n : Nat} {cs : List Value} {x : DataW H × List MemPlace} (h : DataW.trod enc Try.prog W 0 (fun _ => true) true n 36 cs = some x) : ∃ d : EndD, cs = cEnd d ∧ okEnd d := by
  obtain ⟨xs, m, rfl, _, hl, hn, hf⟩ := DataW.trod_struct Try.underlying36 h
  rw [show Try.prog.cellsOf 36 = 4 by kernel_rfl] at hl
  obtain ⟨c0, c1, c2, c3, rfl⟩ := four_of hl
  obtain ⟨y0, k0⟩ := field_one hn hf 0 _ 3 0 _ _ rfl rfl rfl (by kernel_rfl) rfl
  obtain ⟨y1, k1⟩ := field_one hn hf 1 _ 3 1 _ _ rfl rfl rfl (by kernel_rfl) rfl
  obtain ⟨y2, k2⟩ := field_one hn hf 2 _ 3 2 _ _ rfl rfl rfl (by kernel_rfl) rfl
  obtain ⟨y3, k3⟩ := field_one hn hf 3 _ 3 3 _ _ rfl rfl rfl (by kernel_rfl) rfl
  obtain ⟨l0, rfl, b0⟩ := leaf_int Try.underlying3 k0
  obtain ⟨l1, rfl, b1⟩ := leaf_int Try.underlying3 k1
  obtain ⟨l2, rfl, b2⟩ := leaf_int Try.underlying3 k2
  obtain ⟨l3, rfl, b3⟩ := leaf_int Try.underlying3 k3
  exact ⟨⟨l0, l1, l2, l3⟩, rfl, b0, b1, b2, b3⟩
set_option maxRecDepth 100000 in
theorem arg_End {base : Nat} {v : Value} {d : DataW H} {p : List MemPlace} (hval : Value.okWide Try.prog W .any base 36 v) (h : DataW.Trod enc Try.prog W 0 (fun _ => true) true 36 v d p) : ∃ d : EndD, v = vEnd d ∧ okEnd d := by
  obtain ⟨cs, rfl, _⟩ := okWide_struct Try.underlying36 hval
  obtain ⟨fuel, hf⟩ := h
  obtain ⟨d, h1, h2⟩ := open_End hf
  refine ⟨d, ?_, h2⟩
  simp only [Value.cells] at h1
  unfold vEnd
  congr 1
  exact Array.toList_inj.1 h1
end
end Go.Proofs.Yteeopjcbpngofaa
namespace Go.Proofs.Yteeopjcbpngofaa
set_option linter.unusedVariables false
set_option linter.unusedSimpArgs false
open Go.ChangeShapes Go.WideShapes Go.ChangeAt Go.RowKit Go.WideMaps Go.WideElems
open Go.ChangeMaps (open_string shut_string)
set_option maxRecDepth 100000 in
set_option maxHeartbeats 3200000 in
theorem exactEndLine_any (x0 : EndD) (v1 : Value) (x1 : List SlotD) (w : World) (g0 : okEnd x0) (a1 : SliceAt rSlot 7 0 w v1 x1) (g1 : ∀ d ∈ x1, okSlot d) :
    Calls Try.prog 5 #[(vEnd x0), v1] w fun e w' => e = .returned (.bool true) ∧ Below w.heap.size w w' := by
  obtain ⟨n0_0, n0_1, n0_2, n0_3⟩ := x0
  unfold vEnd
  simp only at *
  have G0 := Lib.hid g0
  clear g0
  have A1 := Lib.hid a1
  have G1 := Lib.hid g1
  clear a1 g1
  go_enter Try.func5, Try.ntmps5
  go_wp2_with fail
  refine (szSlotS_d v1 x1 1048576 _ (belSlotS A1.out (by repeat (first | exact Below.refl _ _ | refine Below.alloc ?_ (by simp; try omega) _ | refine Below.setCell ?_ (by simp; try omega) _ | refine belN ?_ _ | refine belD ?_)) (Nat.le_refl _)) G1.out (by omega) (by omega)).mono ?_
  rintro e w1 ⟨r1, rfl, hr1a, hr1b, hb0⟩
  have hb := below_step (w := w) (by repeat (first | exact Below.refl _ _ | refine Below.alloc ?_ (by simp; try omega) _ | refine Below.setCell ?_ (by simp; try omega) _ | refine belN ?_ _ | refine belD ?_)) hb0
  have Cw_w1 := Lib.hid hb
  have A1_w1 := Lib.hid (belSlotS A1.out hb (Nat.le_refl _))
  have ep0_0_w1 : w1.cell? ⟨w.heap.size, 0, none⟩ = some (.int .i64 n0_0) := by rw [hb0.cell (p := ⟨w.heap.size, 0, none⟩) (by simp; try omega)]; simp
  have ep0_1_w1 : w1.cell? ⟨w.heap.size, 1, none⟩ = some (.int .i64 n0_1) := by rw [hb0.cell (p := ⟨w.heap.size, 1, none⟩) (by simp; try omega)]; simp
  have ep0_2_w1 : w1.cell? ⟨w.heap.size, 2, none⟩ = some (.int .i64 n0_2) := by rw [hb0.cell (p := ⟨w.heap.size, 2, none⟩) (by simp; try omega)]; simp
  have ep0_3_w1 : w1.cell? ⟨w.heap.size, 3, none⟩ = some (.int .i64 n0_3) := by rw [hb0.cell (p := ⟨w.heap.size, 3, none⟩) (by simp; try omega)]; simp
  have Lp0_w1 : w.heap.size < w1.heap.size := by have h := hb0.size; simp at h; omega
  clear hb hb0
  by_cases hr1 : r1 < 0
  · clear hr1b
    go_wp2_with fail
    go_ret
    exact ⟨rfl, below_to Cw_w1.out (by repeat (first | exact Below.refl _ _ | refine Below.alloc ?_ (by simp; try omega) _ | refine Below.setCell ?_ (by simp; try omega) _ | refine belN ?_ _ | refine belD ?_))⟩
  · have hs1 := hr1b (by omega)
    clear hr1b
    have HSZ := Lib.hid (show (x1.length + sumF zSlot x1) ≤ 1048576 by push_cast; omega)
    clear hs1
    have HSM1 := Lib.hid (show x1.length ≤ 1048576 by have h := HSZ.out; omega)
    have HZE := Lib.hid (show ∀ e ∈ x1, zPart e.fPart ≤ 1048576 from fun e he => by
      have h1 := HSZ.out
      have h2 := sumF_mem zSlot x1 e he
      have h3 : zPart e.fPart ≤ zSlot e := by unfold zSlot; omega
      omega)
    have HZL := Lib.hid (show x1.length ≤ 1048576 by have h1 := HSZ.out; omega)
    have HSP := Lib.hid (fun v w1 (h : SliceAt rSlot 7 0 w1 v x1) => specEndLine_any (⟨n0_0, n0_1, n0_2, n0_3⟩ : EndD) v x1 w1 G0.out.2.1.1 G0.out.2.1.2 h HZE.out HZL.out)
    have HIM := Lib.hid (fun v w1 (h : SliceAt rSlot 7 0 w1 v x1) => implEndLine_any (⟨n0_0, n0_1, n0_2, n0_3⟩ : EndD) v x1 w1 G0.out.2.1.1 G0.out.2.1.2 h HZE.out HZL.out)
    simp only [vEnd] at HSP HIM
    generalize lineT (⟨n0_0, n0_1, n0_2, n0_3⟩ : EndD) x1 = f at *
    go_wp2_with fail
    refine (toEnd_any (⟨n0_0, n0_1, n0_2, n0_3⟩ : EndD) _).mono ?_
    rintro e w2 ⟨rfl, hb0⟩
    have hb := below_step (w := w1) (by repeat (first | exact Below.refl _ _ | refine Below.alloc ?_ (by simp; try omega) _ | refine Below.setCell ?_ (by simp; try omega) _ | refine belN ?_ _ | refine belD ?_)) hb0
    have Cw_w2 := Lib.hid (Cw_w1.out.trans (hb.mono Cw_w1.out.size))
    have A1_w2 := Lib.hid (belSlotS A1_w1.out hb (Nat.le_refl _))
    have ep0_0_w2 := (hb.cell (p := ⟨w.heap.size, 0, none⟩) Lp0_w1).trans ep0_0_w1
    have ep0_1_w2 := (hb.cell (p := ⟨w.heap.size, 1, none⟩) Lp0_w1).trans ep0_1_w1
    have ep0_2_w2 := (hb.cell (p := ⟨w.heap.size, 2, none⟩) Lp0_w1).trans ep0_2_w1
    have ep0_3_w2 := (hb.cell (p := ⟨w.heap.size, 3, none⟩) Lp0_w1).trans ep0_3_w1
    have Lp0_w2 : w.heap.size < w2.heap.size := by have h := hb.size; omega
    clear ep0_0_w1 ep0_1_w1 ep0_2_w1 ep0_3_w1 Lp0_w1
    clear hb hb0
    have K_p0 := Lp0_w2
    go_wp2_with fail
    refine (toSlotS_d v1 x1 _ (belSlotS A1_w2.out (by repeat (first | exact Below.refl _ _ | refine Below.alloc ?_ (by simp; try omega) _ | refine Below.setCell ?_ (by simp; try omega) _ | refine belN ?_ _ | refine belD ?_)) (Nat.le_refl _)) (by have := HSZ.out; omega)).mono ?_
    rintro e w3 ⟨u1, rfl, ho, hb0⟩
    have hb := below_step (w := w2) (by repeat (first | exact Below.refl _ _ | refine Below.alloc ?_ (by simp; try omega) _ | refine Below.setCell ?_ (by simp; try omega) _ | refine belN ?_ _ | refine belD ?_)) hb0
    have Cw_w3 := Lib.hid (Cw_w2.out.trans (hb.mono Cw_w2.out.size))
    have A1_w3 := Lib.hid (belSlotS A1_w2.out hb (Nat.le_refl _))
    have ep0_0_w3 := (hb.cell (p := ⟨w.heap.size, 0, none⟩) Lp0_w2).trans ep0_0_w2
    have ep0_1_w3 := (hb.cell (p := ⟨w.heap.size, 1, none⟩) Lp0_w2).trans ep0_1_w2
    have ep0_2_w3 := (hb.cell (p := ⟨w.heap.size, 2, none⟩) Lp0_w2).trans ep0_2_w2
    have ep0_3_w3 := (hb.cell (p := ⟨w.heap.size, 3, none⟩) Lp0_w2).trans ep0_3_w2
    have Lp0_w3 : w.heap.size < w3.heap.size := by have h := hb.size; omega
    clear ep0_0_w2 ep0_1_w2 ep0_2_w2 ep0_3_w2 Lp0_w2
    have S1 := Lib.hid (zeroSlotS ho)
    clear ho
    clear hb hb0
    have K_p0 := Lp0_w3
    go_wp2_with fail
    refine (HSP.out u1 _ (belSlotS S1.out (by repeat (first | exact Below.refl _ _ | refine Below.alloc ?_ (by simp; try omega) _ | refine Below.setCell ?_ (by simp; try omega) _ | refine belN ?_ _ | refine belD ?_)) (Nat.le_refl _))).mono ?_
    rintro e w4 ⟨rfl, hb0⟩
    have hb := below_step (w := w3) (by repeat (first | exact Below.refl _ _ | refine Below.alloc ?_ (by simp; try omega) _ | refine Below.setCell ?_ (by simp; try omega) _ | refine belN ?_ _ | refine belD ?_)) hb0
    have Cw_w4 := Lib.hid (Cw_w3.out.trans (hb.mono Cw_w3.out.size))
    have A1_w4 := Lib.hid (belSlotS A1_w3.out hb (Nat.le_refl _))
    have S1_w4 := Lib.hid (belSlotS S1.out hb (Nat.le_refl _))
    have ep0_0_w4 := (hb.cell (p := ⟨w.heap.size, 0, none⟩) Lp0_w3).trans ep0_0_w3
    have ep0_1_w4 := (hb.cell (p := ⟨w.heap.size, 1, none⟩) Lp0_w3).trans ep0_1_w3
    have ep0_2_w4 := (hb.cell (p := ⟨w.heap.size, 2, none⟩) Lp0_w3).trans ep0_2_w3
    have ep0_3_w4 := (hb.cell (p := ⟨w.heap.size, 3, none⟩) Lp0_w3).trans ep0_3_w3
    have Lp0_w4 : w.heap.size < w4.heap.size := by have h := hb.size; omega
    clear ep0_0_w3 ep0_1_w3 ep0_2_w3 ep0_3_w3 Lp0_w3
    clear hb hb0
    have K_p0 := Lp0_w4
    go_wp2_with fail
    refine (toSlotS_d v1 x1 _ (belSlotS A1_w4.out (by repeat (first | exact Below.refl _ _ | refine Below.alloc ?_ (by simp; try omega) _ | refine Below.setCell ?_ (by simp; try omega) _ | refine belN ?_ _ | refine belD ?_)) (Nat.le_refl _)) (by have := HSZ.out; omega)).mono ?_
    rintro e w5 ⟨u2, rfl, ho, hb0⟩
    have hb := below_step (w := w4) (by repeat (first | exact Below.refl _ _ | refine Below.alloc ?_ (by simp; try omega) _ | refine Below.setCell ?_ (by simp; try omega) _ | refine belN ?_ _ | refine belD ?_)) hb0
    have Cw_w5 := Lib.hid (Cw_w4.out.trans (hb.mono Cw_w4.out.size))
    have A1_w5 := Lib.hid (belSlotS A1_w4.out hb (Nat.le_refl _))
    have ep0_0_w5 := (hb.cell (p := ⟨w.heap.size, 0, none⟩) Lp0_w4).trans ep0_0_w4
    have ep0_1_w5 := (hb.cell (p := ⟨w.heap.size, 1, none⟩) Lp0_w4).trans ep0_1_w4
    have ep0_2_w5 := (hb.cell (p := ⟨w.heap.size, 2, none⟩) Lp0_w4).trans ep0_2_w4
    have ep0_3_w5 := (hb.cell (p := ⟨w.heap.size, 3, none⟩) Lp0_w4).trans ep0_3_w4
    have Lp0_w5 : w.heap.size < w5.heap.size := by have h := hb.size; omega
    clear ep0_0_w4 ep0_1_w4 ep0_2_w4 ep0_3_w4 Lp0_w4
    have X2 := Lib.hid (zeroSlotS ho)
    clear ho
    clear hb hb0
    go_wp2_with fail
    refine (toEnd_any (⟨n0_0, n0_1, n0_2, n0_3⟩ : EndD) _).mono ?_
    rintro e w6 ⟨rfl, hb0⟩
    have hb := below_step (w := w5) (by repeat (first | exact Below.refl _ _ | refine Below.alloc ?_ (by simp; try omega) _ | refine Below.setCell ?_ (by simp; try omega) _ | refine belN ?_ _ | refine belD ?_)) hb0
    have Cw_w6 := Lib.hid (Cw_w5.out.trans (hb.mono Cw_w5.out.size))
    have A1_w6 := Lib.hid (belSlotS A1_w5.out hb (Nat.le_refl _))
    have X2_w6 := Lib.hid (belSlotS X2.out hb (Nat.le_refl _))
    have ep0_0_w6 := (hb.cell (p := ⟨w.heap.size, 0, none⟩) Lp0_w5).trans ep0_0_w5
    have ep0_1_w6 := (hb.cell (p := ⟨w.heap.size, 1, none⟩) Lp0_w5).trans ep0_1_w5
    have ep0_2_w6 := (hb.cell (p := ⟨w.heap.size, 2, none⟩) Lp0_w5).trans ep0_2_w5
    have ep0_3_w6 := (hb.cell (p := ⟨w.heap.size, 3, none⟩) Lp0_w5).trans ep0_3_w5
    have Lp0_w6 : w.heap.size < w6.heap.size := by have h := hb.size; omega
    clear ep0_0_w5 ep0_1_w5 ep0_2_w5 ep0_3_w5 Lp0_w5
    clear hb hb0
    have K_p0 := Lp0_w6
    go_wp2_with fail
    refine (HIM.out u2 _ (belSlotS X2_w6.out (by repeat (first | exact Below.refl _ _ | refine Below.alloc ?_ (by simp; try omega) _ | refine Below.setCell ?_ (by simp; try omega) _ | refine belN ?_ _ | refine belD ?_)) (Nat.le_refl _))).mono ?_
    rintro e w7 ⟨rfl, hb0⟩
    have hb := below_step (w := w6) (by repeat (first | exact Below.refl _ _ | refine Below.alloc ?_ (by simp; try omega) _ | refine Below.setCell ?_ (by simp; try omega) _ | refine belN ?_ _ | refine belD ?_)) hb0
    have Cw_w7 := Lib.hid (Cw_w6.out.trans (hb.mono Cw_w6.out.size))
    have A1_w7 := Lib.hid (belSlotS A1_w6.out hb (Nat.le_refl _))
    have X2_w7 := Lib.hid (belSlotS X2_w6.out hb (Nat.le_refl _))
    have ep0_0_w7 := (hb.cell (p := ⟨w.heap.size, 0, none⟩) Lp0_w6).trans ep0_0_w6
    have ep0_1_w7 := (hb.cell (p := ⟨w.heap.size, 1, none⟩) Lp0_w6).trans ep0_1_w6
    have ep0_2_w7 := (hb.cell (p := ⟨w.heap.size, 2, none⟩) Lp0_w6).trans ep0_2_w6
    have ep0_3_w7 := (hb.cell (p := ⟨w.heap.size, 3, none⟩) Lp0_w6).trans ep0_3_w6
    have Lp0_w7 : w.heap.size < w7.heap.size := by have h := hb.size; omega
    clear ep0_0_w6 ep0_1_w6 ep0_2_w6 ep0_3_w6 Lp0_w6
    clear hb hb0
    have K_p0 := Lp0_w7
    go_wp2_with fail
    refine (toSlotS_d v1 x1 _ (belSlotS A1_w7.out (by repeat (first | exact Below.refl _ _ | refine Below.alloc ?_ (by simp; try omega) _ | refine Below.setCell ?_ (by simp; try omega) _ | refine belN ?_ _ | refine belD ?_)) (Nat.le_refl _)) (by have := HSZ.out; omega)).mono ?_
    rintro e w8 ⟨u3, rfl, ho, hb0⟩
    have hb := below_step (w := w7) (by repeat (first | exact Below.refl _ _ | refine Below.alloc ?_ (by simp; try omega) _ | refine Below.setCell ?_ (by simp; try omega) _ | refine belN ?_ _ | refine belD ?_)) hb0
    have Cw_w8 := Lib.hid (Cw_w7.out.trans (hb.mono Cw_w7.out.size))
    have A1_w8 := Lib.hid (belSlotS A1_w7.out hb (Nat.le_refl _))
    have X2_w8 := Lib.hid (belSlotS X2_w7.out hb (Nat.le_refl _))
    have ep0_0_w8 := (hb.cell (p := ⟨w.heap.size, 0, none⟩) Lp0_w7).trans ep0_0_w7
    have ep0_1_w8 := (hb.cell (p := ⟨w.heap.size, 1, none⟩) Lp0_w7).trans ep0_1_w7
    have ep0_2_w8 := (hb.cell (p := ⟨w.heap.size, 2, none⟩) Lp0_w7).trans ep0_2_w7
    have ep0_3_w8 := (hb.cell (p := ⟨w.heap.size, 3, none⟩) Lp0_w7).trans ep0_3_w7
    have Lp0_w8 : w.heap.size < w8.heap.size := by have h := hb.size; omega
    clear ep0_0_w7 ep0_1_w7 ep0_2_w7 ep0_3_w7 Lp0_w7
    have Z3 := Lib.hid (zeroSlotS ho)
    clear ho
    clear hb hb0
    go_wp2_with fail
    refine (eqSlotS_d u2 u3 x1 x1 _ (belSlotS X2_w8.out (by repeat (first | exact Below.refl _ _ | refine Below.alloc ?_ (by simp; try omega) _ | refine Below.setCell ?_ (by simp; try omega) _ | refine belN ?_ _ | refine belD ?_)) (Nat.le_refl _)) (belSlotS Z3.out (by repeat (first | exact Below.refl _ _ | refine Below.alloc ?_ (by simp; try omega) _ | refine Below.setCell ?_ (by simp; try omega) _ | refine belN ?_ _ | refine belD ?_)) (Nat.le_refl _))).mono ?_
    rintro e w9 ⟨rfl, hb0⟩
    have hb := below_step (w := w8) (by repeat (first | exact Below.refl _ _ | refine Below.alloc ?_ (by simp; try omega) _ | refine Below.setCell ?_ (by simp; try omega) _ | refine belN ?_ _ | refine belD ?_)) hb0
    have Cw_w9 := Lib.hid (Cw_w8.out.trans (hb.mono Cw_w8.out.size))
    have A1_w9 := Lib.hid (belSlotS A1_w8.out hb (Nat.le_refl _))
    have X2_w9 := Lib.hid (belSlotS X2_w8.out hb (Nat.le_refl _))
    have Z3_w9 := Lib.hid (belSlotS Z3.out hb (Nat.le_refl _))
    have ep0_0_w9 := (hb.cell (p := ⟨w.heap.size, 0, none⟩) Lp0_w8).trans ep0_0_w8
    have ep0_1_w9 := (hb.cell (p := ⟨w.heap.size, 1, none⟩) Lp0_w8).trans ep0_1_w8
    have ep0_2_w9 := (hb.cell (p := ⟨w.heap.size, 2, none⟩) Lp0_w8).trans ep0_2_w8
    have ep0_3_w9 := (hb.cell (p := ⟨w.heap.size, 3, none⟩) Lp0_w8).trans ep0_3_w8
    have Lp0_w9 : w.heap.size < w9.heap.size := by have h := hb.size; omega
    clear ep0_0_w8 ep0_1_w8 ep0_2_w8 ep0_3_w8 Lp0_w8
    rw [show decide (x1 = x1) = true by simp]
    clear hb hb0
    go_wp2_with fail
    go_ret
    exact ⟨rfl, below_to Cw_w9.out (by repeat (first | exact Below.refl _ _ | refine Below.alloc ?_ (by simp; try omega) _ | refine Below.setCell ?_ (by simp; try omega) _ | refine belN ?_ _ | refine belD ?_))⟩
set_option maxRecDepth 100000 in
theorem fnExactEndLine_lifted (os : Os) (started : os.Started) (H : Type) (enc : TypeId × Value → H) :
    ReturnsInHanded {} Try.checked os 5 .any (Rows.fnExactEndLineSpec.pre6 enc Try.prog Try.f5 Rows.fnExactEndLineRow.domain false) (Rows.fnExactEndLineSpec.post enc Try.prog Try.f5 false true false false) := by
  refine returnsInHanded_of_change (C := Try.checked) ownK started (by kernel_rfl) Try.func5
    (ChangeSpec.witness6 (enc := enc) (C := Try.checked) false ⟨#[], #[.agg #[.int .i64 0, .int .i64 0, .int .i64 0, .int .i64 0], .slice none 0 0], []⟩ 8 (by kernel_rfl) (by kernel_rfl) (by kernel_rfl) (by kernel_rfl)) ?_
  intro W base args ds gs before hval0 hW _ _
  have hval : ∀ (j : Nat) t v, Try.f5.params[j]? = some t → args[j]? = some v → Value.okWide Try.prog W .any base t v := hval0
  have hW' := hW
  obtain ⟨p, q, hA0, _, rfl, _, _⟩ := hW
  have hA : DataW.TrodAll enc Try.prog W 0 (fun _ => true) true Try.f5.params.toList args.toList ds p := hA0
  rw [Try.params5] at hA hval
  obtain ⟨v0, vs0, d0, ds0, p0, q0, hargs, rfl, rfl, h0, r0⟩ := trodAll_cons hA
  obtain ⟨v1, vs1, d1, ds1, p1, q1, rfl, rfl, rfl, h1, r1⟩ := trodAll_cons r0
  obtain ⟨rfl, rfl, rfl⟩ := trodAll_nil r1
  obtain rfl : args = #[v0, v1] := by cases args; simp_all
  obtain ⟨x0, rfl, w0⟩ := arg_End (hval 0 36 v0 rfl rfl) h0
  obtain ⟨l1, w1, z1⟩ := argS_Slot (hval 1 27 v1 rfl rfl) h1
  clear hA0 hval0
  refine (exactEndLine_any x0 v1 l1 W w0 w1 z1).mono fun e W1 ⟨he, hb⟩ => ?_
  subst he
  exact ⟨_, rfl, law_post laidK rfl (by kernel_rfl) Try.underlying4 (by kernel_rfl) (fun ds h => by match ds, h with | [_, _], _ => rfl) hW' hb⟩
theorem fnExactEndLine_closed : joinedFacts Try.prog 5 Try.f5 Rows.fnExactEndLineSpec Rows.fnExactEndLineRow = true := by unfold joinedFacts; rw [mayEnter_k, liftsFinal_k, make_k]; kernel_rfl
theorem fnExactEndLine_holds : Rows.FnExactEndLineSaid :=
  OpenClaim.holds_of_wide 5 Try.f5 rfl rfl rfl rfl rfl rfl rfl ⟨rfl, rfl, rfl, rfl, rfl⟩ rfl rfl rfl rfl rfl (by kernel_rfl) Try.func5 fnExactEndLine_closed
    (of_decide_eq_true (by kernel_rfl)) (by unfold Func.isWrapper; first | (rw [if_pos (by decide +kernel)]; kernel_rfl) | (rw [if_neg (by decide +kernel)]; exact ⟨rfl, rfl⟩))
    (fun os started H enc _ => fnExactEndLine_lifted os started H enc)
end Go.Proofs.Yteeopjcbpngofaa
