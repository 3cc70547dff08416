/- FnDeal: a deal has the greatest version that both sides have, and all that both have and it allows; there is none exactly if no version is common, at every code that is drawn from. No condition. -/
import Derived.Test.YtaihdjdaamglnaaDealSidesFnM1
import Derived.Test.YtaihdjdaamglnaaDealSidesFnM0
import Derived.HandedShaped
import Derived.Deep.CutRange
import Derived.Deep.QuietTactic
import Derived.BigQuiet
namespace Go.Proofs.Ytaihdjdaamglnaa
set_option linter.unusedVariables false
set_option linter.unusedSimpArgs false
open Go.ChangeShapes Go.WideShapes Go.ChangeAt Go.RowKit Go.WideMaps Go.WideElems
open Go.ChangeMaps (open_string shut_string)
theorem slB {w w' : World} {B : Nat} {v : Value} {l : List VersionD} (h : SliceAt (rFlat cVersion) 2 0 w v l) (hb : Below B w w') (hB : w.heap.size ≤ B) : SliceAt (rFlat cVersion) 2 0 w' v l := SliceAt.below h (good_flat cVersion_len) hb hB
theorem belL {a w w' : World} {B : Nat} (h : Below a.heap.size a w) (hb : Below B w w') (hB : w.heap.size ≤ B) : Below a.heap.size a w' := h.trans (hb.mono (Nat.le_trans h.size hB))
theorem cellL {w w' : World} {B : Nat} {p : Addr} {v : Value} (h : w.cell? p = some v) (hb : Below B w w') (hB : w.heap.size ≤ B) : w'.cell? p = some v := (hb.cell (Nat.lt_of_lt_of_le (World.block_lt_of_cell? w _ h) hB)).trans h
set_option maxRecDepth 100000 in
set_option maxHeartbeats 6400000 in
theorem fnDeal_any (v : Value) (l : List UInt8) (w : World) (hR : RowAt w v (Lib.byteCells l)) :
    Calls Try.prog 5 #[v] w fun e w' => e = .returned (.bool true) ∧ Below w.heap.size w w' := by
  have HR := Lib.hid hR
  have HBG := Lib.hid (big_any v l w hR)
  clear hR
  go_enter Try.func5, Try.ntmps5
  go_wp2_with fail
  refine HBG.out.mono ?_
  rintro e w' ⟨rfl, rfl⟩
  by_cases hbig : 4096 < l.length
  · go_wp2_with fail
    go_ret
    exact ⟨rfl, Below.refl _ _⟩
  have hd : decide (4096 < l.length) = false := by simpa using hbig
  clear hbig
  rw [hd]
  clear hd HBG
  have HR0 := Lib.hid HR.out
  go_wp2_with fail
  refine (drawOffers2_any v l _ HR.out).mono ?_
  rintro e w1 ⟨⟨a0, a1⟩, ⟨c0, c1⟩, ua, uc, rfl, hoa, hoc, hka, hkc, hva, hvc, hb⟩
  obtain ⟨pA, pC, rfl⟩ := slice_of hoa
  obtain ⟨qA, qC, rfl⟩ := slice_of hoc
  simp only at hoa hoc
  have HKA := Lib.hid hka
  have HKC := Lib.hid hkc
  have HVA := Lib.hid hva
  have HVC := Lib.hid hvc
  have HB := Lib.hid hb
  have HPA := Lib.hid (sliceAt_of_flat cVersion_len (ownsF_at hoa (Nat.le_trans hka.1 (by decide))))
  have HPC := Lib.hid (sliceAt_of_flat cVersion_len (ownsF_at hoc (Nat.le_trans hkc.1 (by decide))))
  clear hoa hoc hka hkc hva hvc hb
  go_upto_region 4 with fail
  have hbn := Bx.new (w1) [.slice pA a0.length pC, .int .i64 a1] 52
  have hbb := bx_box (w1) (.cells #[.slice pA a0.length pC, .int .i64 a1] 52)
  have Vb_p := Lib.hid hbn
  clear hbn
  replace HPA := Lib.hid (slB HPA.out hbb (Nat.le_refl _))
  replace HPC := Lib.hid (slB HPC.out hbb (Nat.le_refl _))
  replace HB := Lib.hid (belS HB.out hbb)
  clear hbb
  have hbn := Bx.new ((w1).alloc (.cells #[.slice pA a0.length pC, .int .i64 a1] 52)) [.slice qA c0.length qC, .int .i64 c1] 52
  have hbb := bx_box ((w1).alloc (.cells #[.slice pA a0.length pC, .int .i64 a1] 52)) (.cells #[.slice qA c0.length qC, .int .i64 c1] 52)
  rw [show ((w1).alloc (.cells #[.slice pA a0.length pC, .int .i64 a1] 52)).heap.size = w1.heap.size + 1 by simp] at hbn
  have Vb_q := Lib.hid hbn
  clear hbn
  replace Vb_p := Lib.hid (Vb_p.out.below hbb)
  replace HPA := Lib.hid (slB HPA.out hbb (Nat.le_refl _))
  replace HPC := Lib.hid (slB HPC.out hbb (Nat.le_refl _))
  replace HB := Lib.hid (belS HB.out hbb)
  clear hbb
  generalize ((w1).alloc (.cells #[.slice pA a0.length pC, .int .i64 a1] 52)).alloc (.cells #[.slice qA c0.length qC, .int .i64 c1] 52) = w4 at *
  have HN1 := Lib.hid (fun W (ha : SliceAt (rFlat cVersion) 2 0 W (.slice pA a0.length pC) a0) (hc : SliceAt (rFlat cVersion) 2 0 W (.slice qA c0.length qC) c0) => implNeg_any (.agg #[.slice pA a0.length pC, .int .i64 a1]) (.agg #[.slice qA c0.length qC, .int .i64 c1]) ⟨a0, a1⟩ ⟨c0, c1⟩ W (⟨_, rfl, _, rfl, ha⟩ : ValAt rOffer 0 W (.agg #[.slice pA a0.length pC, .int .i64 a1]) ⟨a0, a1⟩) (⟨_, rfl, _, rfl, hc⟩ : ValAt rOffer 0 W (.agg #[.slice qA c0.length qC, .int .i64 c1]) ⟨c0, c1⟩))
  have HMX := Lib.hid (fun v h1 h2 => deal_two_max (a := ⟨a0, a1⟩) (b := ⟨c0, c1⟩) (v := v) HVA.out HVC.out h1 h2)
  have HBB := Lib.hid (deal_two (a := ⟨a0, a1⟩) (b := ⟨c0, c1⟩) HVA.out HVC.out)
  have HFF := Lib.hid (deal_two_face (a := ⟨a0, a1⟩) (b := ⟨c0, c1⟩) HVA.out HVC.out)
  simp only at HMX HBB HFF
  generalize dealV [⟨a0, a1⟩, ⟨c0, c1⟩] = d at *
  generalize dealB [⟨a0, a1⟩, ⟨c0, c1⟩] = ok at *
  obtain ⟨d0, d1, d2⟩ := d
  simp only [vDeal, verD] at HN1 HMX HFF
  have B_p := Vb_p.out
  have p_0 := Vb_p.out.cell 0 (by simp)
  have p_1 := Vb_p.out.cell 1 (by simp)
  simp only [List.getElem_cons_zero, List.getElem_cons_succ] at p_0 p_1
  have p_l := Vb_p.out.lt
  clear B_p
  have B_q := Vb_q.out
  have q_0 := Vb_q.out.cell 0 (by simp)
  have q_1 := Vb_q.out.cell 1 (by simp)
  simp only [List.getElem_cons_zero, List.getElem_cons_succ] at q_0 q_1
  have q_l := Vb_q.out.lt
  clear B_q
  go_wp2_with fail
  clear p_0 p_1 p_l q_0 q_1 q_l
  refine (HN1.out _ HPA.out HPC.out).mono ?_
  rintro e w5 ⟨rfl, hb⟩
  replace Vb_p := Lib.hid (Vb_p.out.below hb)
  replace Vb_q := Lib.hid (Vb_q.out.below hb)
  replace HPA := Lib.hid (slB HPA.out hb (Nat.le_refl _))
  replace HPC := Lib.hid (slB HPC.out hb (Nat.le_refl _))
  replace HB := Lib.hid (belS HB.out hb)
  clear hb
  go_upto_region 5 with fail
  have hbn := Bx.new (w5) [.int .i64 d0, .int .i64 d1, .int .i64 d2] 58
  have hbb := bx_box (w5) (.cells #[.int .i64 d0, .int .i64 d1, .int .i64 d2] 58)
  have Vb_d := Lib.hid hbn
  clear hbn
  replace Vb_p := Lib.hid (Vb_p.out.below hbb)
  replace Vb_q := Lib.hid (Vb_q.out.below hbb)
  replace HPA := Lib.hid (slB HPA.out hbb (Nat.le_refl _))
  replace HPC := Lib.hid (slB HPC.out hbb (Nat.le_refl _))
  replace HB := Lib.hid (belS HB.out hbb)
  clear hbb
  generalize (w5).alloc (.cells #[.int .i64 d0, .int .i64 d1, .int .i64 d2] 58) = w7 at *
  have HAL := Lib.hid (show a0.length ≤ 5 from HKA.out.1)
  have HCL := Lib.hid (show c0.length ≤ 5 from HKC.out.1)
  clear HKA HKC HVA HVC HN1
  go_wp2_with fail
  go_loopw [7, 8] (fun cv iv wr => ∃ i : Nat, i ≤ a0.length ∧ iv = .int .i64 i ∧ cv = .bool (decide (∃ v ∈ a0.take i, v ∈ c0)) ∧ Below w7.heap.size w7 wr) (fun _ iv _ => a0.length - (intOf iv).toNat)
  case atStart => exact ⟨0, Nat.zero_le _, rfl, by simp, Below.refl _ _⟩
  case round =>
    obtain ⟨i, hi, rfl, rfl, hb⟩ := hrel
    have HBO := Lib.hid hb
    replace Vb_p := Lib.hid (Vb_p.out.below hb)
    replace Vb_q := Lib.hid (Vb_q.out.below hb)
    replace Vb_d := Lib.hid (Vb_d.out.below hb)
    replace HPA := Lib.hid (slB HPA.out hb (Nat.le_refl _))
    replace HPC := Lib.hid (slB HPC.out hb (Nat.le_refl _))
    replace HB := Lib.hid (belS HB.out hb)
    clear hb
    have hal := HAL.out
    have hcl := HCL.out
    by_cases hlt : i < a0.length
    · skip
      have hic : (i : Int) < (a0.length : Int) := by omega
      have B_p := Vb_p.out
      have p_0 := Vb_p.out.cell 0 (by simp)
      have p_1 := Vb_p.out.cell 1 (by simp)
      simp only [List.getElem_cons_zero, List.getElem_cons_succ] at p_0 p_1
      have p_l := Vb_p.out.lt
      clear B_p
      go_wp2_with fail
      clear p_0 p_1 p_l
      go_loopw [7, 9] (fun cv kv wq => ∃ k : Nat, k ≤ c0.length ∧ kv = .int .i64 k ∧ cv = .bool (decide ((∃ v ∈ a0.take i, v ∈ c0) ∨ a0[i] ∈ c0.take k)) ∧ Below wr.heap.size wr wq) (fun _ kv _ => c0.length - (intOf kv).toNat)
      case atStart => exact ⟨0, Nat.zero_le _, rfl, by simp, Below.refl _ _⟩
      case round =>
        obtain ⟨k, hk, rfl, rfl, hb⟩ := hrel
        have HBI := Lib.hid hb
        replace Vb_p := Lib.hid (Vb_p.out.below hb)
        replace Vb_q := Lib.hid (Vb_q.out.below hb)
        replace Vb_d := Lib.hid (Vb_d.out.below hb)
        replace HPA := Lib.hid (slB HPA.out hb (Nat.le_refl _))
        replace HPC := Lib.hid (slB HPC.out hb (Nat.le_refl _))
        replace HBO := Lib.hid (belL HBO.out hb (Nat.le_refl _))
        replace HB := Lib.hid (belS HB.out hb)
        clear hb
        by_cases hlk : k < c0.length
        · skip
          have hkc : (k : Int) < (c0.length : Int) := by omega
          obtain ⟨ba, oa, csa, eA, hba, hra, hda⟩ := sliceAt_cell HPA.out i hlt
          obtain ⟨bc, oc, csc, eC, hbc, hrc, hdc⟩ := sliceAt_cell HPC.out k hlk
          subst eA
          subst eC
          simp only [rFlat] at hra hrc
          subst hra
          subst hrc
          have ya0 := hda 0 (by decide)
          have ya1 := hda 1 (by decide)
          have yc0 := hdc 0 (by decide)
          have yc1 := hdc 1 (by decide)
          have HTK := Lib.hid (List.take_succ_eq_append_getElem hlk)
          have HAM := Lib.hid (List.getElem_mem hlt)
          have HCM := Lib.hid (List.getElem_mem hlk)
          clear hda hdc
          generalize a0[i] = x at *
          generalize c0[k] = z at *
          obtain ⟨x0, x1⟩ := x
          obtain ⟨z0, z1⟩ := z
          simp only [cVersion, List.getElem?_cons_zero, List.getElem?_cons_succ, Nat.add_zero] at ya0 ya1 yc0 yc1
          have Hya0 := Lib.hid ya0
          clear ya0
          have Hya1 := Lib.hid ya1
          clear ya1
          have Hyc0 := Lib.hid yc0
          clear yc0
          have Hyc1 := Lib.hid yc1
          clear yc1
          by_cases hxz : x0 = z0 ∧ x1 = z1
          · skip
            obtain ⟨rfl, rfl⟩ := hxz
            have hmx : cmpV ⟨x0, x1⟩ ⟨d0, d1⟩ ≤ 0 := HMX.out ⟨x0, x1⟩ HAM.out HCM.out
            have HCP := Lib.hid (implCmp_b ⟨x0, x1⟩ ⟨d0, d1⟩ _ rfl)
            generalize cmpV ⟨x0, x1⟩ ⟨d0, d1⟩ = r at *
            simp only [vVersion] at HCP
            have hr0 : decide (0 < r) = false := by simpa using hmx
            clear hmx
            have B_p := Vb_p.out
            have p_0 := Vb_p.out.cell 0 (by simp)
            have p_1 := Vb_p.out.cell 1 (by simp)
            simp only [List.getElem_cons_zero, List.getElem_cons_succ] at p_0 p_1
            have p_l := Vb_p.out.lt
            clear B_p
            have B_q := Vb_q.out
            have q_0 := Vb_q.out.cell 0 (by simp)
            have q_1 := Vb_q.out.cell 1 (by simp)
            simp only [List.getElem_cons_zero, List.getElem_cons_succ] at q_0 q_1
            have q_l := Vb_q.out.lt
            clear B_q
            have ya0 := Hya0.out
            have ya1 := Hya1.out
            have yc0 := Hyc0.out
            have yc1 := Hyc1.out
            go_wp2_with fail
            go_still_tail 10, (by kernel_rfl)
            clear p_0 p_1 p_l q_0 q_1 q_l
            clear ya0 ya1 yc0 yc1
            change wpList _ _ _ _ _ (World.drew _)
            have hb := (Below.refl wr.heap.size wr).drew
            replace Vb_p := Lib.hid (Vb_p.out.below hb)
            replace Vb_q := Lib.hid (Vb_q.out.below hb)
            replace Vb_d := Lib.hid (Vb_d.out.below hb)
            replace HPA := Lib.hid (slB HPA.out hb (Nat.le_refl _))
            replace HPC := Lib.hid (slB HPC.out hb (Nat.le_refl _))
            replace HBO := Lib.hid (belL HBO.out hb (Nat.le_refl _))
            replace HBI := Lib.hid (belL HBI.out hb (Nat.le_refl _))
            replace Hya0 := Lib.hid (cellL Hya0.out hb (Nat.le_refl _))
            replace Hya1 := Lib.hid (cellL Hya1.out hb (Nat.le_refl _))
            replace Hyc0 := Lib.hid (cellL Hyc0.out hb (Nat.le_refl _))
            replace Hyc1 := Lib.hid (cellL Hyc1.out hb (Nat.le_refl _))
            replace HB := Lib.hid (belS HB.out hb)
            clear hb
            generalize wr.drew = wq1 at *
            go_wp2_with fail
            have B_p := Vb_p.out
            have p_0 := Vb_p.out.cell 0 (by simp)
            have p_1 := Vb_p.out.cell 1 (by simp)
            simp only [List.getElem_cons_zero, List.getElem_cons_succ] at p_0 p_1
            have p_l := Vb_p.out.lt
            clear B_p
            have B_d := Vb_d.out
            have d_0 := Vb_d.out.cell 0 (by simp)
            have d_1 := Vb_d.out.cell 1 (by simp)
            have d_2 := Vb_d.out.cell 2 (by simp)
            simp only [List.getElem_cons_zero, List.getElem_cons_succ] at d_0 d_1 d_2
            have d_l := Vb_d.out.lt
            clear B_d
            have ya0 := Hya0.out
            have ya1 := Hya1.out
            go_still_tail 7, (by kernel_rfl)
            clear p_0 p_1 p_l d_0 d_1 d_2 d_l
            clear ya0 ya1
            change wpList _ _ _ _ _ (World.drew _)
            have hb := (Below.refl wq1.heap.size wq1).drew
            replace Vb_p := Lib.hid (Vb_p.out.below hb)
            replace Vb_q := Lib.hid (Vb_q.out.below hb)
            replace Vb_d := Lib.hid (Vb_d.out.below hb)
            replace HPA := Lib.hid (slB HPA.out hb (Nat.le_refl _))
            replace HPC := Lib.hid (slB HPC.out hb (Nat.le_refl _))
            replace HBO := Lib.hid (belL HBO.out hb (Nat.le_refl _))
            replace HBI := Lib.hid (belL HBI.out hb (Nat.le_refl _))
            replace Hya0 := Lib.hid (cellL Hya0.out hb (Nat.le_refl _))
            replace Hya1 := Lib.hid (cellL Hya1.out hb (Nat.le_refl _))
            replace Hyc0 := Lib.hid (cellL Hyc0.out hb (Nat.le_refl _))
            replace Hyc1 := Lib.hid (cellL Hyc1.out hb (Nat.le_refl _))
            replace HB := Lib.hid (belS HB.out hb)
            clear hb
            generalize wq1.drew = wq2 at *
            go_wp2_with fail
            refine (HCP.out _).mono ?_
            rintro e wq3 ⟨rfl, hb⟩
            replace Vb_p := Lib.hid (Vb_p.out.below hb)
            replace Vb_q := Lib.hid (Vb_q.out.below hb)
            replace Vb_d := Lib.hid (Vb_d.out.below hb)
            replace HPA := Lib.hid (slB HPA.out hb (Nat.le_refl _))
            replace HPC := Lib.hid (slB HPC.out hb (Nat.le_refl _))
            replace HBO := Lib.hid (belL HBO.out hb (Nat.le_refl _))
            replace HBI := Lib.hid (belL HBI.out hb (Nat.le_refl _))
            replace Hya0 := Lib.hid (cellL Hya0.out hb (Nat.le_refl _))
            replace Hya1 := Lib.hid (cellL Hya1.out hb (Nat.le_refl _))
            replace Hyc0 := Lib.hid (cellL Hyc0.out hb (Nat.le_refl _))
            replace Hyc1 := Lib.hid (cellL Hyc1.out hb (Nat.le_refl _))
            replace HB := Lib.hid (belS HB.out hb)
            clear hb
            go_wp2_with fail
            exact ⟨⟨k + 1, by omega, by go_num, congrArg Value.bool (decide_eq_true (Or.inr (by rw [HTK.out]; simp))).symm, HBI.out⟩, by simp [intOf]; omega⟩
          · skip
            have hx : ((x0 == z0) && (x1 == z1)) = false := by rw [Bool.and_eq_false_iff, beq_eq_false_iff_ne, beq_eq_false_iff_ne]; rcases Classical.em (x0 = z0) with h | h; exact Or.inr (fun e => hxz ⟨h, e⟩); exact Or.inl h
            have B_p := Vb_p.out
            have p_0 := Vb_p.out.cell 0 (by simp)
            have p_1 := Vb_p.out.cell 1 (by simp)
            simp only [List.getElem_cons_zero, List.getElem_cons_succ] at p_0 p_1
            have p_l := Vb_p.out.lt
            clear B_p
            have B_q := Vb_q.out
            have q_0 := Vb_q.out.cell 0 (by simp)
            have q_1 := Vb_q.out.cell 1 (by simp)
            simp only [List.getElem_cons_zero, List.getElem_cons_succ] at q_0 q_1
            have q_l := Vb_q.out.lt
            clear B_q
            have ya0 := Hya0.out
            have ya1 := Hya1.out
            have yc0 := Hyc0.out
            have yc1 := Hyc1.out
            go_wp2_with fail
            go_still_tail 10, (by kernel_rfl)
            clear p_0 p_1 p_l q_0 q_1 q_l
            clear ya0 ya1 yc0 yc1
            change wpList _ _ _ _ _ (World.drew _)
            have hb := (Below.refl wr.heap.size wr).drew
            replace Vb_p := Lib.hid (Vb_p.out.below hb)
            replace Vb_q := Lib.hid (Vb_q.out.below hb)
            replace Vb_d := Lib.hid (Vb_d.out.below hb)
            replace HPA := Lib.hid (slB HPA.out hb (Nat.le_refl _))
            replace HPC := Lib.hid (slB HPC.out hb (Nat.le_refl _))
            replace HBO := Lib.hid (belL HBO.out hb (Nat.le_refl _))
            replace HBI := Lib.hid (belL HBI.out hb (Nat.le_refl _))
            replace Hya0 := Lib.hid (cellL Hya0.out hb (Nat.le_refl _))
            replace Hya1 := Lib.hid (cellL Hya1.out hb (Nat.le_refl _))
            replace Hyc0 := Lib.hid (cellL Hyc0.out hb (Nat.le_refl _))
            replace Hyc1 := Lib.hid (cellL Hyc1.out hb (Nat.le_refl _))
            replace HB := Lib.hid (belS HB.out hb)
            clear hb
            generalize wr.drew = wq1 at *
            go_wp2_with fail
            all_goals refine ⟨⟨k + 1, by omega, by go_num, congrArg Value.bool ?_, HBI.out⟩, by simp [intOf]; omega⟩
            all_goals (try (have e0 : x0 = z0 := (by assumption); subst e0))
            all_goals (try rw [← Bool.decide_or])
            all_goals refine decide_eq_decide.2 ?_
            all_goals rw [HTK.out, List.mem_append, List.mem_singleton, VersionD.mk.injEq]
            all_goals exact ⟨fun h => h.imp id Or.inl, fun h => h.imp id (fun h => h.resolve_right hxz)⟩
        · skip
          have hkl : k = c0.length := by omega
          have hkc : ¬ (k : Int) < (c0.length : Int) := by omega
          have HTK := Lib.hid (List.take_succ_eq_append_getElem hlt)
          have B_q := Vb_q.out
          have q_0 := Vb_q.out.cell 0 (by simp)
          have q_1 := Vb_q.out.cell 1 (by simp)
          simp only [List.getElem_cons_zero, List.getElem_cons_succ] at q_0 q_1
          have q_l := Vb_q.out.lt
          clear B_q
          go_wp2_with fail
          clear q_0 q_1 q_l
          exact ⟨⟨i + 1, by omega, by go_num, congrArg Value.bool (decide_eq_decide.2 (by rw [HTK.out, hkl, List.take_length]; simp only [List.mem_append, List.mem_singleton]; exact ⟨fun h => h.elim (fun ⟨v, h1, h2⟩ => ⟨v, Or.inl h1, h2⟩) (fun h => ⟨_, Or.inr rfl, h⟩), fun ⟨v, h1, h2⟩ => h1.elim (fun h1 => Or.inl ⟨v, h1, h2⟩) (fun e => Or.inr (e ▸ h2))⟩)), HBO.out⟩, by simp [intOf]; omega⟩
    · skip
      have hic : ¬ (i : Int) < (a0.length : Int) := by omega
      have hcm : decide (∃ v ∈ a0.take i, v ∈ c0) = ok := by rw [show i = a0.length by omega, List.take_length]; exact HBB.out.symm
      rw [hcm]
      clear hcm HBB HMX
      cases ok
      case false =>
        have B_p := Vb_p.out
        have p_0 := Vb_p.out.cell 0 (by simp)
        have p_1 := Vb_p.out.cell 1 (by simp)
        simp only [List.getElem_cons_zero, List.getElem_cons_succ] at p_0 p_1
        have p_l := Vb_p.out.lt
        clear B_p
        go_wp2_with fail
        clear p_0 p_1 p_l
        refine (drawCountFace_any v l _ (RowAt.below HR0.out HB.out (Nat.le_refl _))).mono ?_
        rintro e w50 ⟨f, rfl, hf, hb⟩
        replace Vb_p := Lib.hid (Vb_p.out.below hb)
        replace Vb_q := Lib.hid (Vb_q.out.below hb)
        replace Vb_d := Lib.hid (Vb_d.out.below hb)
        replace HPA := Lib.hid (slB HPA.out hb (Nat.le_refl _))
        replace HPC := Lib.hid (slB HPC.out hb (Nat.le_refl _))
        replace HBO := Lib.hid (belL HBO.out hb (Nat.le_refl _))
        replace HB := Lib.hid (belS HB.out hb)
        clear hb
        clear hf
        have HOA := Lib.hid (fun W => implOffers_any a1 f W)
        have HOC := Lib.hid (fun W => implOffers_any c1 f W)
        have HOF := Lib.hid (fun W => implOffers_any (allowF ⟨d0, d1⟩) f W)
        have HOD := Lib.hid (fun W => implOffers_any d2 f W)
        have HAF := Lib.hid (fun W => implAllow_any ⟨d0, d1⟩ W)
        simp only [vVersion] at HAF
        skip
        clear HFF
        generalize offersF a1 f = o1 at *
        generalize offersF c1 f = o2 at *
        generalize offersF (allowF ⟨d0, d1⟩) f = o3 at *
        generalize allowF ⟨d0, d1⟩ = af at *
        generalize offersF d2 f = od at *
        have B_p := Vb_p.out
        have p_0 := Vb_p.out.cell 0 (by simp)
        have p_1 := Vb_p.out.cell 1 (by simp)
        simp only [List.getElem_cons_zero, List.getElem_cons_succ] at p_0 p_1
        have p_l := Vb_p.out.lt
        clear B_p
        go_wp2_with fail
        clear p_0 p_1 p_l
        refine (HOA.out _).mono ?_
        rintro e w8 ⟨rfl, rfl⟩
        cases o1
        case false =>
          go_wp2_with fail
          go_ret
          exact ⟨rfl, HB.out⟩
        case true =>
          have B_q := Vb_q.out
          have q_0 := Vb_q.out.cell 0 (by simp)
          have q_1 := Vb_q.out.cell 1 (by simp)
          simp only [List.getElem_cons_zero, List.getElem_cons_succ] at q_0 q_1
          have q_l := Vb_q.out.lt
          clear B_q
          go_wp2_with fail
          clear q_0 q_1 q_l
          refine (HOC.out _).mono ?_
          rintro e w9 ⟨rfl, rfl⟩
          cases o2
          case false =>
            go_wp2_with fail
            go_ret
            exact ⟨rfl, HB.out⟩
          case true =>
            have B_d := Vb_d.out
            have d_0 := Vb_d.out.cell 0 (by simp)
            have d_1 := Vb_d.out.cell 1 (by simp)
            have d_2 := Vb_d.out.cell 2 (by simp)
            simp only [List.getElem_cons_zero, List.getElem_cons_succ] at d_0 d_1 d_2
            have d_l := Vb_d.out.lt
            clear B_d
            go_wp2_with fail
            clear d_0 d_1 d_2 d_l
            refine (HAF.out _).mono ?_
            rintro e w10 ⟨rfl, hb⟩
            replace Vb_p := Lib.hid (Vb_p.out.below hb)
            replace Vb_q := Lib.hid (Vb_q.out.below hb)
            replace Vb_d := Lib.hid (Vb_d.out.below hb)
            replace HPA := Lib.hid (slB HPA.out hb (Nat.le_refl _))
            replace HPC := Lib.hid (slB HPC.out hb (Nat.le_refl _))
            replace HBO := Lib.hid (belL HBO.out hb (Nat.le_refl _))
            replace HB := Lib.hid (belS HB.out hb)
            clear hb
            go_wp2_with fail
            refine (HOF.out _).mono ?_
            rintro e w11 ⟨rfl, rfl⟩
            go_wp2_with fail
            go_ret
            exact ⟨rfl, HB.out⟩
      case true =>
        have B_p := Vb_p.out
        have p_0 := Vb_p.out.cell 0 (by simp)
        have p_1 := Vb_p.out.cell 1 (by simp)
        simp only [List.getElem_cons_zero, List.getElem_cons_succ] at p_0 p_1
        have p_l := Vb_p.out.lt
        clear B_p
        go_wp2_with fail
        clear p_0 p_1 p_l
        refine (drawCountFace_any v l _ (RowAt.below HR0.out HB.out (Nat.le_refl _))).mono ?_
        rintro e w50 ⟨f, rfl, hf, hb⟩
        replace Vb_p := Lib.hid (Vb_p.out.below hb)
        replace Vb_q := Lib.hid (Vb_q.out.below hb)
        replace Vb_d := Lib.hid (Vb_d.out.below hb)
        replace HPA := Lib.hid (slB HPA.out hb (Nat.le_refl _))
        replace HPC := Lib.hid (slB HPC.out hb (Nat.le_refl _))
        replace HBO := Lib.hid (belL HBO.out hb (Nat.le_refl _))
        replace HB := Lib.hid (belS HB.out hb)
        clear hb
        clear hf
        have HOA := Lib.hid (fun W => implOffers_any a1 f W)
        have HOC := Lib.hid (fun W => implOffers_any c1 f W)
        have HOF := Lib.hid (fun W => implOffers_any (allowF ⟨d0, d1⟩) f W)
        have HOD := Lib.hid (fun W => implOffers_any d2 f W)
        have HAF := Lib.hid (fun W => implAllow_any ⟨d0, d1⟩ W)
        simp only [vVersion] at HAF
        have hfd := HFF.out (by first | rfl | trivial) f
        clear HFF
        generalize offersF a1 f = o1 at *
        generalize offersF c1 f = o2 at *
        generalize offersF (allowF ⟨d0, d1⟩) f = o3 at *
        generalize allowF ⟨d0, d1⟩ = af at *
        generalize offersF d2 f = od at *
        have B_p := Vb_p.out
        have p_0 := Vb_p.out.cell 0 (by simp)
        have p_1 := Vb_p.out.cell 1 (by simp)
        simp only [List.getElem_cons_zero, List.getElem_cons_succ] at p_0 p_1
        have p_l := Vb_p.out.lt
        clear B_p
        go_wp2_with fail
        clear p_0 p_1 p_l
        refine (HOA.out _).mono ?_
        rintro e w8 ⟨rfl, rfl⟩
        cases o1
        case false =>
          obtain rfl : od = false := by simpa using hfd
          clear hfd
          have B_d := Vb_d.out
          have d_0 := Vb_d.out.cell 0 (by simp)
          have d_1 := Vb_d.out.cell 1 (by simp)
          have d_2 := Vb_d.out.cell 2 (by simp)
          simp only [List.getElem_cons_zero, List.getElem_cons_succ] at d_0 d_1 d_2
          have d_l := Vb_d.out.lt
          clear B_d
          go_wp2_with fail
          clear d_0 d_1 d_2 d_l
          refine (HOD.out _).mono ?_
          rintro e w9 ⟨rfl, rfl⟩
          go_wp2_with fail
          go_ret
          exact ⟨rfl, HB.out⟩
        case true =>
          have B_q := Vb_q.out
          have q_0 := Vb_q.out.cell 0 (by simp)
          have q_1 := Vb_q.out.cell 1 (by simp)
          simp only [List.getElem_cons_zero, List.getElem_cons_succ] at q_0 q_1
          have q_l := Vb_q.out.lt
          clear B_q
          go_wp2_with fail
          clear q_0 q_1 q_l
          refine (HOC.out _).mono ?_
          rintro e w9 ⟨rfl, rfl⟩
          cases o2
          case false =>
            obtain rfl : od = false := by simpa using hfd
            clear hfd
            have B_d := Vb_d.out
            have d_0 := Vb_d.out.cell 0 (by simp)
            have d_1 := Vb_d.out.cell 1 (by simp)
            have d_2 := Vb_d.out.cell 2 (by simp)
            simp only [List.getElem_cons_zero, List.getElem_cons_succ] at d_0 d_1 d_2
            have d_l := Vb_d.out.lt
            clear B_d
            go_wp2_with fail
            clear d_0 d_1 d_2 d_l
            refine (HOD.out _).mono ?_
            rintro e w10 ⟨rfl, rfl⟩
            go_wp2_with fail
            go_ret
            exact ⟨rfl, HB.out⟩
          case true =>
            have B_d := Vb_d.out
            have d_0 := Vb_d.out.cell 0 (by simp)
            have d_1 := Vb_d.out.cell 1 (by simp)
            have d_2 := Vb_d.out.cell 2 (by simp)
            simp only [List.getElem_cons_zero, List.getElem_cons_succ] at d_0 d_1 d_2
            have d_l := Vb_d.out.lt
            clear B_d
            go_wp2_with fail
            clear d_0 d_1 d_2 d_l
            refine (HAF.out _).mono ?_
            rintro e w10 ⟨rfl, hb⟩
            replace Vb_p := Lib.hid (Vb_p.out.below hb)
            replace Vb_q := Lib.hid (Vb_q.out.below hb)
            replace Vb_d := Lib.hid (Vb_d.out.below hb)
            replace HPA := Lib.hid (slB HPA.out hb (Nat.le_refl _))
            replace HPC := Lib.hid (slB HPC.out hb (Nat.le_refl _))
            replace HBO := Lib.hid (belL HBO.out hb (Nat.le_refl _))
            replace HB := Lib.hid (belS HB.out hb)
            clear hb
            go_wp2_with fail
            refine (HOF.out _).mono ?_
            rintro e w11 ⟨rfl, rfl⟩
            obtain rfl : od = o3 := by simpa using hfd
            clear hfd
            have B_d := Vb_d.out
            have d_0 := Vb_d.out.cell 0 (by simp)
            have d_1 := Vb_d.out.cell 1 (by simp)
            have d_2 := Vb_d.out.cell 2 (by simp)
            simp only [List.getElem_cons_zero, List.getElem_cons_succ] at d_0 d_1 d_2
            have d_l := Vb_d.out.lt
            clear B_d
            go_wp2_with fail
            clear d_0 d_1 d_2 d_l
            refine (HOD.out _).mono ?_
            rintro e w12 ⟨rfl, rfl⟩
            cases od
            all_goals go_wp2_with fail
            all_goals go_ret
            all_goals exact ⟨rfl, HB.out⟩
set_option maxRecDepth 100000 in
theorem fnDeal_lifted (os : Os) (started : os.Started) (H : Type) (enc : TypeId × Value → H) :
    ReturnsInHanded {} Try.checked os 5 .any (Rows.fnDealSpec.pre6 enc Try.prog Try.f5 Rows.fnDealRow.domain false) (Rows.fnDealSpec.post enc Try.prog Try.f5 false true false false) := by
  refine returnsInHanded_of_change (C := Try.checked) ownK started (by kernel_rfl) Try.func5
    (ChangeSpec.witness6 (enc := enc) (C := Try.checked) false ⟨#[], #[.slice none 0 0], []⟩ 8 (by kernel_rfl) (by kernel_rfl) (by kernel_rfl) (by kernel_rfl)) ?_
  intro W base args ds gs before hval0 hW _ _
  have hval : ∀ (j : Nat) t v, Try.f5.params[j]? = some t → args[j]? = some v → Value.okWide Try.prog W .any base t v := hval0
  have hW' := hW
  obtain ⟨p, q, hA0, _, rfl, _, _⟩ := hW
  have hA : DataW.TrodAll enc Try.prog W 0 (fun _ => true) true Try.f5.params.toList args.toList ds p := hA0
  rw [Try.params5] at hA hval
  obtain ⟨v0, vs0, d0, ds0, p0, q0, hargs, rfl, rfl, h0, r0⟩ := trodAll_cons hA
  obtain ⟨rfl, rfl, rfl⟩ := trodAll_nil r0
  obtain rfl : args = #[v0] := by cases args; simp_all
  obtain ⟨l0, w0⟩ := open_byteRow Try.underlying22 Try.underlying5 (by kernel_rfl) (hval 0 22 v0 rfl rfl) h0
  clear hA0 hval0
  refine (fnDeal_any v0 l0 W w0).mono fun e W1 ⟨he, hb⟩ => ?_
  subst he
  exact ⟨_, rfl, law_post laidK rfl (by kernel_rfl) Try.underlying4 (by kernel_rfl) (fun ds h => by match ds, h with | [_], _ => rfl) hW' hb⟩
theorem fnDeal_closed : joinedFacts Try.prog 5 Try.f5 Rows.fnDealSpec Rows.fnDealRow = true := by unfold joinedFacts; rw [mayEnter_k, liftsFinal_k, make_k]; kernel_rfl
theorem fnDeal_holds : Rows.FnDealSaid :=
  OpenClaim.holds_of_wide 5 Try.f5 rfl rfl rfl rfl rfl rfl rfl ⟨rfl, rfl, rfl, rfl, rfl⟩ rfl rfl rfl rfl rfl (by kernel_rfl) Try.func5 fnDeal_closed
    (of_decide_eq_true (by kernel_rfl)) (by unfold Func.isWrapper; first | (rw [if_pos (by decide +kernel)]; kernel_rfl) | (rw [if_neg (by decide +kernel)]; exact ⟨rfl, rfl⟩))
    (fun os started H enc _ => fnDeal_lifted os started H enc)
end Go.Proofs.Ytaihdjdaamglnaa
