/- the model's l4Copy, as a reading -/
import Derived.Test.YtlkpinlkbikokaaGreatIsRegistryLawM3
import Derived.Test.YtlkpinlkbikokaaGreatIsRegistryLawM2
import Derived.Deep.RegionLaw
/- Contracts of chapter 6: IsRegistry, the program's. Written by gen/ch6r.py. -/
namespace Go.Proofs.YtlkpinlkbikokaaGreat
set_option linter.unusedVariables false
set_option linter.unusedSimpArgs false
open Go.RowKit
set_option maxRecDepth 100000 in
set_option maxHeartbeats 3200000 in
theorem implIsReg_any (v : Value) (l : List EntryD) (w : World) (hx : SliceAt rEntry 5 0 w v l) (hg : ∀ e ∈ l, e.fName.length ≤ 1048576 ∧ (∀ d ∈ e.fNeeds, d.fFrom.length ≤ maxLen) ∧ ∀ s ∈ e.fRecipe, s.length ≤ 1048576) :
    Calls Tryz.prog 7 #[v] w fun e w' => e = .returned (.bool (regB l)) ∧ Below w.heap.size w w' := by
  obtain ⟨a, c, rfl, hl⟩ := sliceAt_len hx
  have HX := Lib.hid hx
  have HIE := Lib.hid (fun cs (x : EntryD) W (h : rEntry 0 W cs x) (hq : x ∈ l) => implIsEntry_any (.agg cs.toArray) x W ⟨cs, rfl, h⟩ (Nat.le_trans (hg x hq).1 (by decide)) (hg x hq).2.1 (hg x hq).2.2)
  unfold maxLen at hl
  clear hx hg
  by_cases h6 : 6 < l.length
  · rw [show regB l = false by unfold regB; rw [decide_eq_false (by omega), Bool.and_false]]
    have hgt : (6 : Int) < (l.length : Int) := by omega
    clear h6
    go_enter Tryz.func7, Tryz.ntmps7
    go_wp2_with fail
    go_ret
    exact ⟨rfl, Below.refl _ _⟩
  have hgt : ¬ (6 : Int) < (l.length : Int) := by omega
  generalize hres : regB l = res
  have HRES := Lib.hid (show res = (regGo (prv l 0) (l.drop 0) && true) by rw [← hres]; unfold regB; rw [decide_eq_true (by omega)]; rfl)
  clear hres h6
  go_enter Tryz.func7, Tryz.ntmps7
  go_wp2_with fail
  go_loopw [3, 4, 10] (fun _ _ i wr => ∃ k : Nat, k ≤ l.length ∧ i = .int .i64 k ∧ res = (regGo (prv l k) (l.drop k) && true) ∧ Below w.heap.size w wr) (fun _ _ i _ => l.length - (intOf i).toNat)
  case atStart => exact ⟨0, Nat.zero_le _, rfl, HRES.out, Below.refl _ _⟩
  case round =>
    obtain ⟨k, hk, rfl, hres, hbr⟩ := hrel
    have HRS := Lib.hid hres
    have HBr := Lib.hid hbr
    have HXr := Lib.hid (SliceAt.below HX.out goodEntry hbr (Nat.le_refl _))
    have hszr := hbr.size
    clear hres hbr
    by_cases hlt : k < l.length
    · obtain ⟨b, o, cs, rfl, hbw, hat, hd⟩ := sliceAt_cell HXr.out k hlt
      have HM := Lib.hid (List.getElem_mem hlt)
      have HDR := Lib.hid (show l.drop k = l[k] :: l.drop (k + 1) from List.drop_eq_getElem_cons hlt)
      have HPS := Lib.hid (prv_succ hlt)
      have HI1 := Lib.hid (fun cs W (h : rEntry 0 W cs l[k]) => HIE.out cs l[k] W h HM.out)
      have HAT := Lib.hid (fun W (hb : Below wr.heap.size wr W) => goodEntry.keep hat (kept_below hb (Nat.le_refl _)))
      clear HM
      generalize l[k] = z at *
      obtain ⟨a0, a1, ⟨a2, a3⟩, l2⟩ := z
      obtain ⟨v1, v4, rfl, h1, h4⟩ := hat
      simp only at h1 h4 HPS
      obtain ⟨ra, rc, rfl, _⟩ := sliceAt_len h1
      obtain ⟨sa, sc, rfl, _⟩ := sliceAt_len h4
      have d0 := hd 0 (by decide)
      have d1 := hd 1 (by decide)
      have d2 := hd 2 (by decide)
      have d3 := hd 3 (by decide)
      have d4 := hd 4 (by decide)
      simp only [List.getElem?_cons_zero, List.getElem?_cons_succ, Nat.add_zero] at d0 d1 d2 d3 d4
      have HRS2 := Lib.hid (show res = (((entryB ⟨a0, a1, ⟨a2, a3⟩, l2⟩ && ltO (prv l k) a0) && regGo (prv l (k + 1)) (l.drop (k + 1))) && true) by rw [HRS.out, HDR.out, HPS.out]; rfl)
      generalize entryB ⟨a0, a1, ⟨a2, a3⟩, l2⟩ = eb at *
      have BE := Lib.hid (Bx.new wr [.string ⟨a0.toArray⟩, .slice ra a1.length rc, .int .i64 a2, .int .i64 a3, .slice sa l2.length sc] 39)
      have HBN := Lib.hid (belS HBr.out (bx_box wr (.cells #[.string ⟨a0.toArray⟩, .slice ra a1.length rc, .int .i64 a2, .int .i64 a3, .slice sa l2.length sc] 39)))
      have HAT1 := Lib.hid (HAT.out _ (bel_drR (bx_box wr (.cells #[.string ⟨a0.toArray⟩, .slice ra a1.length rc, .int .i64 a2, .int .i64 a3, .slice sa l2.length sc] 39))))
      have HAT0 := Lib.hid (HAT.out _ (bx_box wr (.cells #[.string ⟨a0.toArray⟩, .slice ra a1.length rc, .int .i64 a2, .int .i64 a3, .slice sa l2.length sc] 39)))
      have hkl : (k : Int) < (l.length : Int) := by omega
      clear hd HRS HDR h1 h4 HAT HPS
      cases eb
      · obtain rfl : res = false := by rw [HRS2.out]; simp
        clear HRS2
        have e0 := BE.out.cell 0 (by simp)
        have e1 := BE.out.cell 1 (by simp)
        have e2 := BE.out.cell 2 (by simp)
        have e3 := BE.out.cell 3 (by simp)
        have e4 := BE.out.cell 4 (by simp)
        simp only [List.getElem_cons_zero, List.getElem_cons_succ] at e0 e1 e2 e3 e4
        go_wp2_with fail
        refine (HI1.out _ _ HAT0.out).mono ?_
        rintro e w2 ⟨rfl, hb⟩
        have HB2 := Lib.hid (belS HBN.out hb)
        have BE2 := Lib.hid (BE.out.below hb)
        have hb2s := hb.size
        clear hb e0 e1 e2 e3 e4
        have e0 := BE2.out.cell 0 (by simp)
        have e1 := BE2.out.cell 1 (by simp)
        have e2 := BE2.out.cell 2 (by simp)
        have e3 := BE2.out.cell 3 (by simp)
        have e4 := BE2.out.cell 4 (by simp)
        simp only [List.getElem_cons_zero, List.getElem_cons_succ] at e0 e1 e2 e3 e4
        go_wp2_with fail
        go_ret
        exact ⟨rfl, HB2.out⟩
      by_cases hk0 : k = 0
      · subst hk0
        simp only [Nat.zero_mul, Nat.add_zero] at d0 d1 d2 d3 d4
        have HR3 := Lib.hid (show res = (regGo (prv l (0 + 1)) (l.drop (0 + 1)) && true) by rw [HRS2.out]; rfl)
        clear HRS2
        have e0 := BE.out.cell 0 (by simp)
        have e1 := BE.out.cell 1 (by simp)
        have e2 := BE.out.cell 2 (by simp)
        have e3 := BE.out.cell 3 (by simp)
        have e4 := BE.out.cell 4 (by simp)
        simp only [List.getElem_cons_zero, List.getElem_cons_succ] at e0 e1 e2 e3 e4
        go_wp2_with fail
        refine (HI1.out _ _ HAT0.out).mono ?_
        rintro e w2 ⟨rfl, hb⟩
        have HB2 := Lib.hid (belS HBN.out hb)
        have BE2 := Lib.hid (BE.out.below hb)
        have hb2s := hb.size
        clear hb e0 e1 e2 e3 e4
        have e0 := BE2.out.cell 0 (by simp)
        have e1 := BE2.out.cell 1 (by simp)
        have e2 := BE2.out.cell 2 (by simp)
        have e3 := BE2.out.cell 3 (by simp)
        have e4 := BE2.out.cell 4 (by simp)
        simp only [List.getElem_cons_zero, List.getElem_cons_succ] at e0 e1 e2 e3 e4
        go_wp2_with fail
        refine wp_region_held_drew (S := (fun w' => w'.cell? ⟨wr.heap.size, 0, none⟩ = some (.string ⟨a0.toArray⟩))) (by kernel_rfl) ?_ (fun hHeld => ?_)
        · exact BE2.out.cell 0 (by simp)
        refine wpAnyH_take (i := 0) (v := ?_) rfl (by kernel_rfl) (by kernel_rfl) (by kernel_rfl) (fun _ _ _ h => h) (Or.inl ⟨by rfl, ?_⟩) (by assumption) ?_
        rotate_left
        · intro w hSw; (try dsimp only at hSw); go_simp; with_reducible rfl
        try simp only [Act.put, List.getElem_toArray, List.getElem_cons_zero, List.getElem_cons_succ, List.setIfInBounds_toArray, List.set_cons_zero, List.set_cons_succ]
        refine wpAnyH_take (i := 1) (v := ?_) rfl (by kernel_rfl) (by kernel_rfl) (by kernel_rfl) (fun _ _ _ h => h) (Or.inl ⟨by rfl, ?_⟩) (by assumption) ?_
        rotate_left
        · intro w hSw; (try dsimp only at hSw); go_simp; with_reducible rfl
        try simp only [Act.put, List.getElem_toArray, List.getElem_cons_zero, List.getElem_cons_succ, List.setIfInBounds_toArray, List.set_cons_zero, List.set_cons_succ]
        refine wpAnyH_take (i := 2) (v := ?_) rfl (by kernel_rfl) (by kernel_rfl) (by kernel_rfl) (fun _ _ _ h => h) (Or.inl ⟨by rfl, ?_⟩) (by assumption) ?_
        rotate_left
        · intro w hSw; (try dsimp only at hSw); go_simp; with_reducible rfl
        try simp only [Act.put, List.getElem_toArray, List.getElem_cons_zero, List.getElem_cons_succ, List.setIfInBounds_toArray, List.set_cons_zero, List.set_cons_succ]
        refine wpAnyH_take (i := 3) (v := undef) rfl (by kernel_rfl) (by kernel_rfl) (by kernel_rfl) (fun _ _ _ h => h) (Or.inr ⟨by rfl, rfl⟩) (by assumption) ?_
        try simp only [Act.put, List.getElem_toArray, List.getElem_cons_zero, List.getElem_cons_succ, List.setIfInBounds_toArray, List.set_cons_zero, List.set_cons_succ]
        refine wpAnyH_take (i := 4) (v := undef) rfl (by kernel_rfl) (by kernel_rfl) (by kernel_rfl) (fun _ _ _ h => h) (Or.inr ⟨by rfl, rfl⟩) (by assumption) ?_
        try simp only [Act.put, List.getElem_toArray, List.getElem_cons_zero, List.getElem_cons_succ, List.setIfInBounds_toArray, List.set_cons_zero, List.set_cons_succ]
        refine wpAnyH_take (i := 5) (v := undef) rfl (by kernel_rfl) (by kernel_rfl) (by kernel_rfl) (fun _ _ _ h => h) (Or.inr ⟨by rfl, rfl⟩) (by assumption) ?_
        try simp only [Act.put, List.getElem_toArray, List.getElem_cons_zero, List.getElem_cons_succ, List.setIfInBounds_toArray, List.set_cons_zero, List.set_cons_succ]
        refine wpAnyH_take (i := 6) (v := undef) rfl (by kernel_rfl) (by kernel_rfl) (by kernel_rfl) (fun _ _ _ h => h) (Or.inr ⟨by rfl, rfl⟩) (by assumption) ?_
        try simp only [Act.put, List.getElem_toArray, List.getElem_cons_zero, List.getElem_cons_succ, List.setIfInBounds_toArray, List.set_cons_zero, List.set_cons_succ]
        refine wpAnyH_take (i := 7) (v := undef) rfl (by kernel_rfl) (by kernel_rfl) (by kernel_rfl) (fun _ _ _ h => h) (Or.inr ⟨by rfl, rfl⟩) (by assumption) ?_
        try simp only [Act.put, List.getElem_toArray, List.getElem_cons_zero, List.getElem_cons_succ, List.setIfInBounds_toArray, List.set_cons_zero, List.set_cons_succ]
        refine wpAnyH_take (i := 8) (v := undef) rfl (by kernel_rfl) (by kernel_rfl) (by kernel_rfl) (fun _ _ _ h => h) (Or.inr ⟨by rfl, rfl⟩) (by assumption) ?_
        try simp only [Act.put, List.getElem_toArray, List.getElem_cons_zero, List.getElem_cons_succ, List.setIfInBounds_toArray, List.set_cons_zero, List.set_cons_succ]
        refine wpAnyH_take (i := 9) (v := undef) rfl (by kernel_rfl) (by kernel_rfl) (by kernel_rfl) (fun _ _ _ h => h) (Or.inr ⟨by rfl, rfl⟩) (by assumption) ?_
        try simp only [Act.put, List.getElem_toArray, List.getElem_cons_zero, List.getElem_cons_succ, List.setIfInBounds_toArray, List.set_cons_zero, List.set_cons_succ]
        refine wpAnyH_take (i := 10) (v := undef) rfl (by kernel_rfl) (by kernel_rfl) (by kernel_rfl) (fun _ _ _ h => h) (Or.inr ⟨by rfl, rfl⟩) (by assumption) ?_
        try simp only [Act.put, List.getElem_toArray, List.getElem_cons_zero, List.getElem_cons_succ, List.setIfInBounds_toArray, List.set_cons_zero, List.set_cons_succ]
        refine wpAnyH_take (i := 11) (v := undef) rfl (by kernel_rfl) (by kernel_rfl) (by kernel_rfl) (fun _ _ _ h => h) (Or.inr ⟨by rfl, rfl⟩) (by assumption) ?_
        try simp only [Act.put, List.getElem_toArray, List.getElem_cons_zero, List.getElem_cons_succ, List.setIfInBounds_toArray, List.set_cons_zero, List.set_cons_succ]
        refine wpAnyH_take (i := 12) (v := ?_) rfl (by kernel_rfl) (by kernel_rfl) (by kernel_rfl) (fun _ _ _ h => h) (Or.inl ⟨by rfl, ?_⟩) (by assumption) ?_
        rotate_left
        · intro w hSw; (try dsimp only at hSw); go_simp; with_reducible rfl
        try simp only [Act.put, List.getElem_toArray, List.getElem_cons_zero, List.getElem_cons_succ, List.setIfInBounds_toArray, List.set_cons_zero, List.set_cons_succ]
        refine wpAnyH_done (by kernel_rfl) ?_ _
        go_wp2_with fail
        exact ⟨⟨0 + 1, by omega, by go_num, HR3.out, bel_drR HB2.out⟩, by simp [intOf]; omega⟩
      obtain ⟨j, rfl⟩ : ∃ j, k = j + 1 := ⟨k - 1, by omega⟩
      have hjx : j < l.length := by omega
      obtain ⟨b2, o2, cs2, e2, hbw2, hat2, hd2⟩ := sliceAt_cell HXr.out j hjx
      injection e2 with e2
      injection e2 with e2 e3
      subst e2 e3
      have HPJ := Lib.hid (prv_succ hjx)
      have p0 := hd2 0 (by decide)
      obtain ⟨v1', v4', rfl, _, _⟩ := hat2
      simp only [List.getElem?_cons_zero, Nat.add_zero] at p0
      generalize (l[j]).fName = n1 at *
      rw [HPJ.out] at HRS2
      have hwr : IntKind.i64.wrap ((j : Int) + 1 - 1) = (j : Int) := by rw [Int.add_sub_cancel]; exact IntWalk.i64_in _ (by omega)
      have hwr2 : IntKind.i64.wrap (j : Int) = (j : Int) := IntWalk.i64_in _ (by omega)
      have h0j : (0 : Int) ≤ (j : Int) := by omega
      have hjl : (j : Int) < (l.length : Int) := by omega
      have hj1 : (0 : Int) < (j : Int) + 1 := by omega
      clear hd2 HPJ
      cases hlt2 : decide (n1 < a0)
      · have hx1 : Op.bytesLess n1 a0 = false := by rw [Proofs.bytesLess_eq]; exact hlt2
        obtain rfl : res = false := by rw [HRS2.out]; simp [ltO, hlt2]
        clear HRS2 hlt2
        have e0 := BE.out.cell 0 (by simp)
        have e1 := BE.out.cell 1 (by simp)
        have e2 := BE.out.cell 2 (by simp)
        have e3 := BE.out.cell 3 (by simp)
        have e4 := BE.out.cell 4 (by simp)
        simp only [List.getElem_cons_zero, List.getElem_cons_succ] at e0 e1 e2 e3 e4
        go_wp2_with fail
        refine (HI1.out _ _ HAT0.out).mono ?_
        rintro e w2 ⟨rfl, hb⟩
        have HB2 := Lib.hid (belS HBN.out hb)
        have BE2 := Lib.hid (BE.out.below hb)
        have hb2s := hb.size
        have p2 := (hb.cell (p := ⟨b, o + j * 5, none⟩) (by simp; omega)).trans (allocR hbw p0)
        clear hb e0 e1 e2 e3 e4
        have e0 := BE2.out.cell 0 (by simp)
        have e1 := BE2.out.cell 1 (by simp)
        have e2 := BE2.out.cell 2 (by simp)
        have e3 := BE2.out.cell 3 (by simp)
        have e4 := BE2.out.cell 4 (by simp)
        simp only [List.getElem_cons_zero, List.getElem_cons_succ] at e0 e1 e2 e3 e4
        go_wp2_with fail
        refine wp_region_held_drew (S := (fun w' => w'.cell? ⟨wr.heap.size, 0, none⟩ = some (.string ⟨a0.toArray⟩) ∧ w'.cell? ⟨b, o + j * 5, none⟩ = some (.string ⟨n1.toArray⟩))) (by kernel_rfl) ?_ (fun hHeld => ?_)
        · exact ⟨BE2.out.cell 0 (by simp), p2⟩
        refine wpAnyH_take (i := 0) (v := ?_) rfl (by kernel_rfl) (by kernel_rfl) (by kernel_rfl) (fun _ _ _ h => h) (Or.inl ⟨by rfl, ?_⟩) (by assumption) ?_
        rotate_left
        · intro w hSw; (try dsimp only at hSw); go_simp; with_reducible rfl
        try simp only [Act.put, List.getElem_toArray, List.getElem_cons_zero, List.getElem_cons_succ, List.setIfInBounds_toArray, List.set_cons_zero, List.set_cons_succ]
        refine wpAnyH_take (i := 1) (v := ?_) rfl (by kernel_rfl) (by kernel_rfl) (by kernel_rfl) (fun _ _ _ h => h) (Or.inl ⟨by rfl, ?_⟩) (by assumption) ?_
        rotate_left
        · intro w hSw; (try dsimp only at hSw); go_simp; with_reducible rfl
        try simp only [Act.put, List.getElem_toArray, List.getElem_cons_zero, List.getElem_cons_succ, List.setIfInBounds_toArray, List.set_cons_zero, List.set_cons_succ]
        refine wpAnyH_take (i := 2) (v := ?_) rfl (by kernel_rfl) (by kernel_rfl) (by kernel_rfl) (fun _ _ _ h => h) (Or.inl ⟨by rfl, ?_⟩) (by assumption) ?_
        rotate_left
        · intro w hSw; (try dsimp only at hSw); go_simp; with_reducible rfl
        try simp only [Act.put, List.getElem_toArray, List.getElem_cons_zero, List.getElem_cons_succ, List.setIfInBounds_toArray, List.set_cons_zero, List.set_cons_succ]
        refine wpAnyH_take (i := 3) (v := ?_) rfl (by kernel_rfl) (by kernel_rfl) (by kernel_rfl) (fun _ _ _ h => h) (Or.inl ⟨by rfl, ?_⟩) (by assumption) ?_
        rotate_left
        · intro w hSw; (try dsimp only at hSw); go_simp; with_reducible rfl
        try simp only [Act.put, List.getElem_toArray, List.getElem_cons_zero, List.getElem_cons_succ, List.setIfInBounds_toArray, List.set_cons_zero, List.set_cons_succ]
        refine wpAnyH_take (i := 4) (v := ?_) rfl (by kernel_rfl) (by kernel_rfl) (by kernel_rfl) (fun _ _ _ h => h) (Or.inl ⟨by rfl, ?_⟩) (by assumption) ?_
        rotate_left
        · intro w hSw; (try dsimp only at hSw); go_simp; with_reducible rfl
        try simp only [Act.put, List.getElem_toArray, List.getElem_cons_zero, List.getElem_cons_succ, List.setIfInBounds_toArray, List.set_cons_zero, List.set_cons_succ]
        refine wpAnyH_take (i := 5) (v := ?_) rfl (by kernel_rfl) (by kernel_rfl) (by kernel_rfl) (fun _ _ _ h => h) (Or.inl ⟨by rfl, ?_⟩) (by assumption) ?_
        rotate_left
        · intro w hSw; (try dsimp only at hSw); go_simp; with_reducible rfl
        try simp only [Act.put, List.getElem_toArray, List.getElem_cons_zero, List.getElem_cons_succ, List.setIfInBounds_toArray, List.set_cons_zero, List.set_cons_succ]
        refine wpAnyH_take (i := 6) (v := ?_) rfl (by kernel_rfl) (by kernel_rfl) (by kernel_rfl) (fun _ _ _ h => h) (Or.inl ⟨by rfl, ?_⟩) (by assumption) ?_
        rotate_left
        · intro w hSw; (try dsimp only at hSw); go_simp; with_reducible rfl
        try simp only [Act.put, List.getElem_toArray, List.getElem_cons_zero, List.getElem_cons_succ, List.setIfInBounds_toArray, List.set_cons_zero, List.set_cons_succ]
        refine wpAnyH_take (i := 7) (v := ?_) rfl (by kernel_rfl) (by kernel_rfl) (by kernel_rfl) (fun _ _ _ h => h) (Or.inl ⟨by rfl, ?_⟩) (by assumption) ?_
        rotate_left
        · intro w hSw; (try dsimp only at hSw); go_simp; with_reducible rfl
        try simp only [Act.put, List.getElem_toArray, List.getElem_cons_zero, List.getElem_cons_succ, List.setIfInBounds_toArray, List.set_cons_zero, List.set_cons_succ]
        refine wpAnyH_take (i := 8) (v := ?_) rfl (by kernel_rfl) (by kernel_rfl) (by kernel_rfl) (fun _ _ _ h => h) (Or.inl ⟨by rfl, ?_⟩) (by assumption) ?_
        rotate_left
        · intro w hSw; (try dsimp only at hSw); go_simp; with_reducible rfl
        try simp only [Act.put, List.getElem_toArray, List.getElem_cons_zero, List.getElem_cons_succ, List.setIfInBounds_toArray, List.set_cons_zero, List.set_cons_succ]
        refine wpAnyH_take (i := 9) (v := ?_) rfl (by kernel_rfl) (by kernel_rfl) (by kernel_rfl) (fun _ _ _ h => h) (Or.inl ⟨by rfl, ?_⟩) (by assumption) ?_
        rotate_left
        · intro w hSw; (try dsimp only at hSw); go_simp; with_reducible rfl
        try simp only [Act.put, List.getElem_toArray, List.getElem_cons_zero, List.getElem_cons_succ, List.setIfInBounds_toArray, List.set_cons_zero, List.set_cons_succ]
        refine wpAnyH_take (i := 10) (v := ?_) rfl (by kernel_rfl) (by kernel_rfl) (by kernel_rfl) (fun _ _ _ h => h) (Or.inl ⟨by rfl, ?_⟩) (by assumption) ?_
        rotate_left
        · intro w hSw; (try dsimp only at hSw); go_simp; with_reducible rfl
        try simp only [Act.put, List.getElem_toArray, List.getElem_cons_zero, List.getElem_cons_succ, List.setIfInBounds_toArray, List.set_cons_zero, List.set_cons_succ]
        refine wpAnyH_take (i := 11) (v := ?_) rfl (by kernel_rfl) (by kernel_rfl) (by kernel_rfl) (fun _ _ _ h => h) (Or.inl ⟨by rfl, ?_⟩) (by assumption) ?_
        rotate_left
        · intro w hSw; (try dsimp only at hSw); go_simp; with_reducible rfl
        try simp only [Act.put, List.getElem_toArray, List.getElem_cons_zero, List.getElem_cons_succ, List.setIfInBounds_toArray, List.set_cons_zero, List.set_cons_succ]
        refine wpAnyH_take (i := 12) (v := ?_) rfl (by kernel_rfl) (by kernel_rfl) (by kernel_rfl) (fun _ _ _ h => h) (Or.inl ⟨by rfl, ?_⟩) (by assumption) ?_
        rotate_left
        · intro w hSw; (try dsimp only at hSw); go_simp; with_reducible rfl
        try simp only [Act.put, List.getElem_toArray, List.getElem_cons_zero, List.getElem_cons_succ, List.setIfInBounds_toArray, List.set_cons_zero, List.set_cons_succ]
        refine wpAnyH_done (by kernel_rfl) ?_ _
        go_wp2_with fail
        go_ret
        exact ⟨rfl, bel_drR HB2.out⟩
      · have hx1 : Op.bytesLess n1 a0 = true := by rw [Proofs.bytesLess_eq]; exact hlt2
        have HR3 := Lib.hid (show res = (regGo (prv l (j + 1 + 1)) (l.drop (j + 1 + 1)) && true) by rw [HRS2.out]; simp [ltO, hlt2])
        clear HRS2 hlt2
        have e0 := BE.out.cell 0 (by simp)
        have e1 := BE.out.cell 1 (by simp)
        have e2 := BE.out.cell 2 (by simp)
        have e3 := BE.out.cell 3 (by simp)
        have e4 := BE.out.cell 4 (by simp)
        simp only [List.getElem_cons_zero, List.getElem_cons_succ] at e0 e1 e2 e3 e4
        go_wp2_with fail
        refine (HI1.out _ _ HAT0.out).mono ?_
        rintro e w2 ⟨rfl, hb⟩
        have HB2 := Lib.hid (belS HBN.out hb)
        have BE2 := Lib.hid (BE.out.below hb)
        have hb2s := hb.size
        have p2 := (hb.cell (p := ⟨b, o + j * 5, none⟩) (by simp; omega)).trans (allocR hbw p0)
        clear hb e0 e1 e2 e3 e4
        have e0 := BE2.out.cell 0 (by simp)
        have e1 := BE2.out.cell 1 (by simp)
        have e2 := BE2.out.cell 2 (by simp)
        have e3 := BE2.out.cell 3 (by simp)
        have e4 := BE2.out.cell 4 (by simp)
        simp only [List.getElem_cons_zero, List.getElem_cons_succ] at e0 e1 e2 e3 e4
        go_wp2_with fail
        refine wp_region_held_drew (S := (fun w' => w'.cell? ⟨wr.heap.size, 0, none⟩ = some (.string ⟨a0.toArray⟩) ∧ w'.cell? ⟨b, o + j * 5, none⟩ = some (.string ⟨n1.toArray⟩))) (by kernel_rfl) ?_ (fun hHeld => ?_)
        · exact ⟨BE2.out.cell 0 (by simp), p2⟩
        refine wpAnyH_take (i := 0) (v := ?_) rfl (by kernel_rfl) (by kernel_rfl) (by kernel_rfl) (fun _ _ _ h => h) (Or.inl ⟨by rfl, ?_⟩) (by assumption) ?_
        rotate_left
        · intro w hSw; (try dsimp only at hSw); go_simp; with_reducible rfl
        try simp only [Act.put, List.getElem_toArray, List.getElem_cons_zero, List.getElem_cons_succ, List.setIfInBounds_toArray, List.set_cons_zero, List.set_cons_succ]
        refine wpAnyH_take (i := 1) (v := ?_) rfl (by kernel_rfl) (by kernel_rfl) (by kernel_rfl) (fun _ _ _ h => h) (Or.inl ⟨by rfl, ?_⟩) (by assumption) ?_
        rotate_left
        · intro w hSw; (try dsimp only at hSw); go_simp; with_reducible rfl
        try simp only [Act.put, List.getElem_toArray, List.getElem_cons_zero, List.getElem_cons_succ, List.setIfInBounds_toArray, List.set_cons_zero, List.set_cons_succ]
        refine wpAnyH_take (i := 2) (v := ?_) rfl (by kernel_rfl) (by kernel_rfl) (by kernel_rfl) (fun _ _ _ h => h) (Or.inl ⟨by rfl, ?_⟩) (by assumption) ?_
        rotate_left
        · intro w hSw; (try dsimp only at hSw); go_simp; with_reducible rfl
        try simp only [Act.put, List.getElem_toArray, List.getElem_cons_zero, List.getElem_cons_succ, List.setIfInBounds_toArray, List.set_cons_zero, List.set_cons_succ]
        refine wpAnyH_take (i := 3) (v := ?_) rfl (by kernel_rfl) (by kernel_rfl) (by kernel_rfl) (fun _ _ _ h => h) (Or.inl ⟨by rfl, ?_⟩) (by assumption) ?_
        rotate_left
        · intro w hSw; (try dsimp only at hSw); go_simp; with_reducible rfl
        try simp only [Act.put, List.getElem_toArray, List.getElem_cons_zero, List.getElem_cons_succ, List.setIfInBounds_toArray, List.set_cons_zero, List.set_cons_succ]
        refine wpAnyH_take (i := 4) (v := ?_) rfl (by kernel_rfl) (by kernel_rfl) (by kernel_rfl) (fun _ _ _ h => h) (Or.inl ⟨by rfl, ?_⟩) (by assumption) ?_
        rotate_left
        · intro w hSw; (try dsimp only at hSw); go_simp; with_reducible rfl
        try simp only [Act.put, List.getElem_toArray, List.getElem_cons_zero, List.getElem_cons_succ, List.setIfInBounds_toArray, List.set_cons_zero, List.set_cons_succ]
        refine wpAnyH_take (i := 5) (v := ?_) rfl (by kernel_rfl) (by kernel_rfl) (by kernel_rfl) (fun _ _ _ h => h) (Or.inl ⟨by rfl, ?_⟩) (by assumption) ?_
        rotate_left
        · intro w hSw; (try dsimp only at hSw); go_simp; with_reducible rfl
        try simp only [Act.put, List.getElem_toArray, List.getElem_cons_zero, List.getElem_cons_succ, List.setIfInBounds_toArray, List.set_cons_zero, List.set_cons_succ]
        refine wpAnyH_take (i := 6) (v := ?_) rfl (by kernel_rfl) (by kernel_rfl) (by kernel_rfl) (fun _ _ _ h => h) (Or.inl ⟨by rfl, ?_⟩) (by assumption) ?_
        rotate_left
        · intro w hSw; (try dsimp only at hSw); go_simp; with_reducible rfl
        try simp only [Act.put, List.getElem_toArray, List.getElem_cons_zero, List.getElem_cons_succ, List.setIfInBounds_toArray, List.set_cons_zero, List.set_cons_succ]
        refine wpAnyH_take (i := 7) (v := ?_) rfl (by kernel_rfl) (by kernel_rfl) (by kernel_rfl) (fun _ _ _ h => h) (Or.inl ⟨by rfl, ?_⟩) (by assumption) ?_
        rotate_left
        · intro w hSw; (try dsimp only at hSw); go_simp; with_reducible rfl
        try simp only [Act.put, List.getElem_toArray, List.getElem_cons_zero, List.getElem_cons_succ, List.setIfInBounds_toArray, List.set_cons_zero, List.set_cons_succ]
        refine wpAnyH_take (i := 8) (v := ?_) rfl (by kernel_rfl) (by kernel_rfl) (by kernel_rfl) (fun _ _ _ h => h) (Or.inl ⟨by rfl, ?_⟩) (by assumption) ?_
        rotate_left
        · intro w hSw; (try dsimp only at hSw); go_simp; with_reducible rfl
        try simp only [Act.put, List.getElem_toArray, List.getElem_cons_zero, List.getElem_cons_succ, List.setIfInBounds_toArray, List.set_cons_zero, List.set_cons_succ]
        refine wpAnyH_take (i := 9) (v := ?_) rfl (by kernel_rfl) (by kernel_rfl) (by kernel_rfl) (fun _ _ _ h => h) (Or.inl ⟨by rfl, ?_⟩) (by assumption) ?_
        rotate_left
        · intro w hSw; (try dsimp only at hSw); go_simp; with_reducible rfl
        try simp only [Act.put, List.getElem_toArray, List.getElem_cons_zero, List.getElem_cons_succ, List.setIfInBounds_toArray, List.set_cons_zero, List.set_cons_succ]
        refine wpAnyH_take (i := 10) (v := ?_) rfl (by kernel_rfl) (by kernel_rfl) (by kernel_rfl) (fun _ _ _ h => h) (Or.inl ⟨by rfl, ?_⟩) (by assumption) ?_
        rotate_left
        · intro w hSw; (try dsimp only at hSw); go_simp; with_reducible rfl
        try simp only [Act.put, List.getElem_toArray, List.getElem_cons_zero, List.getElem_cons_succ, List.setIfInBounds_toArray, List.set_cons_zero, List.set_cons_succ]
        refine wpAnyH_take (i := 11) (v := ?_) rfl (by kernel_rfl) (by kernel_rfl) (by kernel_rfl) (fun _ _ _ h => h) (Or.inl ⟨by rfl, ?_⟩) (by assumption) ?_
        rotate_left
        · intro w hSw; (try dsimp only at hSw); go_simp; with_reducible rfl
        try simp only [Act.put, List.getElem_toArray, List.getElem_cons_zero, List.getElem_cons_succ, List.setIfInBounds_toArray, List.set_cons_zero, List.set_cons_succ]
        refine wpAnyH_take (i := 12) (v := ?_) rfl (by kernel_rfl) (by kernel_rfl) (by kernel_rfl) (fun _ _ _ h => h) (Or.inl ⟨by rfl, ?_⟩) (by assumption) ?_
        rotate_left
        · intro w hSw; (try dsimp only at hSw); go_simp; with_reducible rfl
        try simp only [Act.put, List.getElem_toArray, List.getElem_cons_zero, List.getElem_cons_succ, List.setIfInBounds_toArray, List.set_cons_zero, List.set_cons_succ]
        refine wpAnyH_done (by kernel_rfl) ?_ _
        go_wp2_with fail
        exact ⟨⟨j + 1 + 1, by omega, by go_num, HR3.out, bel_drR HB2.out⟩, by simp [intOf]; omega⟩
    · have hkl : ¬ (k : Int) < (l.length : Int) := by omega
      obtain rfl : res = true := by rw [HRS.out, List.drop_eq_nil_of_le (by omega)]; rfl
      go_wp2_with fail
      go_ret
      exact ⟨rfl, HBr.out⟩
end Go.Proofs.YtlkpinlkbikokaaGreat
/- Contracts of chapter 4: IsPart, the model's. -/
namespace Go.Proofs.YtlkpinlkbikokaaGreat
set_option linter.unusedVariables false
set_option linter.unusedSimpArgs false
open Go.RowKit
set_option maxRecDepth 100000 in
set_option maxHeartbeats 3200000 in
theorem specIsPart_any (v : Value) (x : PartD) (w : World) (hx : ValAt rPart 0 w v x) (hs : ∀ c ∈ x.fCore.fCells, c.fKey.length ≤ maxLen) :
    Calls Tryz.prog 49 #[v] w fun e w' => e = .returned (.bool (partB x)) ∧ Below w.heap.size w w' := by
  obtain ⟨_, rfl, hx⟩ := hx
  have HX := Lib.hid hx
  have HBAD := Lib.hid (fun k => partB_bad (x := x) (k := k))
  have HOK := Lib.hid (fun i h y hy => layOk_of x i h y hy)
  have HSU := Lib.hid (layTo_succ x)
  have HFN := Lib.hid (faceN_take x.fCore x.fLayers)
  have HP := Lib.hid (show partB x = (coreB x.fCore && decide (x.fLayers.length ≤ 3) && layTo x x.fLayers.length) from rfl)
  obtain ⟨xc, ls⟩ := x
  obtain ⟨v3, v5, rfl, h3, h5⟩ := hx
  have HC := Lib.hid (fun W (hb : Below w.heap.size w W) => specIsCore_any (vCore xc v3) xc W ⟨v3, rfl, FlatAt.below (flatAt_of_slice cCell_len (by decide) h3) hb (Nat.le_refl _)⟩ hs)
  obtain ⟨a0, a1, a2, a3, a4⟩ := xc
  unfold vCore at HC
  simp only at h3 h5 HX HC HP HFN HBAD HOK
  obtain ⟨ra, rc, rfl, _⟩ := sliceAt_len h3
  obtain ⟨sa, sc, rfl, hl, hcap⟩ := sliceAt_cap h5
  have H5 := Lib.hid h5
  have H3 := Lib.hid h3
  unfold maxLen at hl
  have HB0 := Lib.hid (show ∀ o, Below w.heap.size w (w.alloc o) from fun o => part_box w o)
  have HS0 := Lib.hid (Bx.new w [.string ⟨a0.toArray⟩, .bool a1, .bool a2, .slice ra a3.length rc, .int .i64 a4, .slice sa ls.length sc] 67)
  clear h3 h5
  have HPB := Lib.hid (show partB ⟨⟨a0, a1, a2, a3, a4⟩, ls⟩ = partB ⟨⟨a0, a1, a2, a3, a4⟩, ls⟩ from rfl)
  generalize partB ⟨⟨a0, a1, a2, a3, a4⟩, ls⟩ = pb at *
  have HCB := Lib.hid (show coreB ⟨a0, a1, a2, a3, a4⟩ = coreB ⟨a0, a1, a2, a3, a4⟩ from rfl)
  generalize coreB ⟨a0, a1, a2, a3, a4⟩ = cb at *
  clear HPB HCB HX
  cases cb with
  | false =>
    have HR := Lib.hid (show pb = false by rw [HP.out]; rfl)
    go_enter Tryz.func49, Tryz.ntmps49
    go_wp2_with fail
    refine (HC.out _ (HB0.out _)).mono ?_
    rintro e w1 ⟨rfl, hb⟩
    have HB := Lib.hid (belS (HB0.out _) hb)
    clear hb
    go_wp2_with fail
    go_ret
    exact ⟨ret_bool HR.out.symm, HB.out⟩
  | true =>
    by_cases h3 : 3 < ls.length
    · have HR := Lib.hid (show pb = false by rw [HP.out, show decide (ls.length ≤ 3) = false by simpa using h3]; rfl)
      go_enter Tryz.func49, Tryz.ntmps49
      go_wp2_with fail
      refine (HC.out _ (HB0.out _)).mono ?_
      rintro e w1 ⟨rfl, hb⟩
      have HB := Lib.hid (belS (HB0.out _) hb)
      have BX := Lib.hid (HS0.out.below hb)
      clear hb
      have e0 := BX.out.cell 0 (by simp)
      have e1 := BX.out.cell 1 (by simp)
      have e2 := BX.out.cell 2 (by simp)
      have e3 := BX.out.cell 3 (by simp)
      have e4 := BX.out.cell 4 (by simp)
      have e5 := BX.out.cell 5 (by simp)
      simp only [List.getElem_cons_zero, List.getElem_cons_succ] at e0 e1 e2 e3 e4 e5
      go_wp2_with fail
      go_ret
      exact ⟨ret_bool HR.out.symm, HB.out⟩
    · have HR := Lib.hid (show pb = layTo ⟨⟨a0, a1, a2, a3, a4⟩, ls⟩ ls.length by rw [HP.out, show decide (ls.length ≤ 3) = true by simpa using h3]; simp)
      go_enter Tryz.func49, Tryz.ntmps49
      go_wp2_with fail
      refine (HC.out _ (HB0.out _)).mono ?_
      rintro e w1 ⟨rfl, hb⟩
      have HB := Lib.hid (belS (HB0.out _) hb)
      have BX := Lib.hid (HS0.out.below hb)
      clear hb
      have e0 := BX.out.cell 0 (by simp)
      have e1 := BX.out.cell 1 (by simp)
      have e2 := BX.out.cell 2 (by simp)
      have e3 := BX.out.cell 3 (by simp)
      have e4 := BX.out.cell 4 (by simp)
      have e5 := BX.out.cell 5 (by simp)
      simp only [List.getElem_cons_zero, List.getElem_cons_succ] at e0 e1 e2 e3 e4 e5
      go_wp2_with fail
      clear e0 e1 e2 e3 e4 e5
      go_loopw [3, 4, 21] (fun _ _ i wr => ∃ k : Nat, k ≤ ls.length ∧ i = .int .i64 k ∧ layTo ⟨⟨a0, a1, a2, a3, a4⟩, ls⟩ k = true ∧ Below w.heap.size w wr ∧ Bx wr w.heap.size [.string ⟨a0.toArray⟩, .bool a1, .bool a2, .slice ra a3.length rc, .int .i64 a4, .slice sa ls.length sc]) (fun _ _ i _ => ls.length - (intOf i).toNat)
      case atStart => exact ⟨0, Nat.zero_le _, rfl, rfl, HB.out, BX.out⟩
      case round =>
        obtain ⟨k, hk, rfl, ht, hbr, hbx⟩ := hrel
        have HT := Lib.hid ht
        have HBr := Lib.hid hbr
        have BXr := Lib.hid hbx
        have HXr := Lib.hid (SliceAt.below H5.out (good_flat cLayer_len) hbr (Nat.le_refl _))
        clear ht hbr hbx
        by_cases hlt : k < ls.length
        · obtain ⟨b, o, cs, rfl, hbw, hat, hd⟩ := sliceAt_cell HXr.out k hlt
          have HLO := Lib.hid (HOK.out k hlt _ rfl)
          have HBD := Lib.hid (fun h => HBAD.out k hlt h)
          have HNX := Lib.hid (show layOk ⟨⟨a0, a1, a2, a3, a4⟩, ls⟩ k = true → layTo ⟨⟨a0, a1, a2, a3, a4⟩, ls⟩ (k + 1) = true from fun h => by rw [HSU.out, HT.out, h]; rfl)
          have HFO := Lib.hid (fun W hW => l4Face_any (.agg #[.string ⟨a0.toArray⟩, .bool a1, .bool a2, .slice ra a3.length rc, .int .i64 a4, .slice (some ⟨b, o, none⟩) ls.length sc]) ⟨⟨a0, a1, a2, a3, a4⟩, ls⟩ k W ⟨_, rfl, _, _, rfl, SliceAt.below H3.out (good_flat cCell_len) hW (Nat.le_refl _), SliceAt.below H5.out (good_flat cLayer_len) hW (Nat.le_refl _)⟩ (Nat.le_of_lt hlt))
          generalize ls[k] = z at *
          obtain ⟨z0, z1⟩ := z
          simp only [rFlat, cLayer] at hat HLO
          subst hat
          have d0 := hd 0 (by decide)
          have d1 := hd 1 (by decide)
          simp only [List.getElem?_cons_zero, List.getElem?_cons_succ, Nat.add_zero] at d0 d1
          have HLN := Lib.hid (specLayerNeeds_any ⟨z0.toArray⟩)
          simp only [ndV, List.toList_toArray] at HLN
          have HOF := Lib.hid (specOffers_any (faceN ⟨⟨a0, a1, a2, a3, a4⟩, ls⟩ k) (needI (layI z0)))
          have hkc : (k : Int) < (ls.length : Int) := by omega
          generalize layOk ⟨⟨a0, a1, a2, a3, a4⟩, ls⟩ k = lo at *
          generalize faceN ⟨⟨a0, a1, a2, a3, a4⟩, ls⟩ k = fc at *
          generalize needI (layI z0) = nd at *
          generalize offersF fc nd = ob at *
          generalize hge : decide (0 ≤ layI z0) = q at *
          clear hd hge HXr
          have HW0 := Lib.hid (part_box wr (.cells #[.string ⟨z0.toArray⟩, .int .i64 z1] 89))
          have BL := Lib.hid (Bx.new wr [.string ⟨z0.toArray⟩, .int .i64 z1] 89)
          have BX1 := Lib.hid (BXr.out.alloc (.cells #[.string ⟨z0.toArray⟩, .int .i64 z1] 89))
          have HB1 := Lib.hid (belS HBr.out HW0.out)
          by_cases h0 : z0 = [99, 111, 117, 110, 116, 115]
          · subst h0
            have HCD := Lib.hid (show countedB [99, 111, 117, 110, 116, 115] = true from rfl)
            have HCN := Lib.hid (show True from trivial)
            have e0 := BX1.out.cell 0 (by simp)
            have e1 := BX1.out.cell 1 (by simp)
            have e2 := BX1.out.cell 2 (by simp)
            have e3 := BX1.out.cell 3 (by simp)
            have e4 := BX1.out.cell 4 (by simp)
            have e5 := BX1.out.cell 5 (by simp)
            simp only [List.getElem_cons_zero, List.getElem_cons_succ] at e0 e1 e2 e3 e4 e5
            go_wp2_with fail
            refine (HLN.out _).mono ?_
            rintro e w2 ⟨rfl, hb⟩
            have HB2 := Lib.hid (belS HB1.out hb)
            have BL2 := Lib.hid (BL.out.below hb)
            have BX2 := Lib.hid (BX1.out.below hb)
            clear hb
            clear e0 e1 e2 e3 e4 e5
            have e0 := BX2.out.cell 0 (by simp)
            have e1 := BX2.out.cell 1 (by simp)
            have e2 := BX2.out.cell 2 (by simp)
            have e3 := BX2.out.cell 3 (by simp)
            have e4 := BX2.out.cell 4 (by simp)
            have e5 := BX2.out.cell 5 (by simp)
            simp only [List.getElem_cons_zero, List.getElem_cons_succ] at e0 e1 e2 e3 e4 e5
            have g0 := BL2.out.cell 0 (by simp)
            have g1 := BL2.out.cell 1 (by simp)
            simp only [List.getElem_cons_zero, List.getElem_cons_succ] at g0 g1
            cases q with
            | false =>
              have HR2 := Lib.hid (show pb = false from HBD.out (by rw [HLO.out]; rfl))
              go_wp2_with fail
              go_ret
              exact ⟨ret_bool HR2.out.symm, HB2.out⟩
            | true =>
              go_wp2_with fail
              refine (HFO.out _ HB2.out).mono ?_
              rintro e w3 ⟨rfl, hb⟩
              have HB3 := Lib.hid (belS HB2.out hb)
              have BL3 := Lib.hid (BL2.out.below hb)
              have BX3 := Lib.hid (BX2.out.below hb)
              clear hb
              clear e0 e1 e2 e3 e4 e5 g0 g1
              have g0 := BL3.out.cell 0 (by simp)
              have g1 := BL3.out.cell 1 (by simp)
              simp only [List.getElem_cons_zero, List.getElem_cons_succ] at g0 g1
              cases ob with
              | false =>
                have HR2 := Lib.hid (show pb = false from HBD.out (by rw [HLO.out]; rfl))
                go_wp2_with (first | (go_at_call 50; (with_reducible refine (HOF.out _).mono ?_); rintro e w' ⟨rfl, rfl⟩))
                go_ret
                exact ⟨ret_bool HR2.out.symm, HB3.out⟩
              | true =>
                by_cases hc0 : z1 < 0
                · skip
                  have HR2 := Lib.hid (show pb = false from HBD.out (by rw [HLO.out]; unfold cntB; rw [HCD.out]; simp [numB]; omega))
                  go_wp2_with (first | (go_at_call 50; (with_reducible refine (HOF.out _).mono ?_); rintro e w' ⟨rfl, rfl⟩))
                  go_ret
                  exact ⟨ret_bool HR2.out.symm, HB3.out⟩
                · by_cases hc9 : 999 < z1
                  · skip
                    have HR2 := Lib.hid (show pb = false from HBD.out (by rw [HLO.out]; unfold cntB; rw [HCD.out]; simp [numB]; omega))
                    go_wp2_with (first | (go_at_call 50; (with_reducible refine (HOF.out _).mono ?_); rintro e w' ⟨rfl, rfl⟩))
                    go_ret
                    exact ⟨ret_bool HR2.out.symm, HB3.out⟩
                  · have HR2 := Lib.hid (HNX.out (by rw [HLO.out]; unfold cntB; rw [HCD.out]; simp [numB]; omega))
                    by_cases hcp : 0 < z1
                    · go_wp2_with (first | (go_at_call 50; (with_reducible refine (HOF.out _).mono ?_); rintro e w' ⟨rfl, rfl⟩))
                      exact ⟨⟨k + 1, by omega, by go_num, HR2.out, HB3.out, BX3.out⟩, by simp [intOf]; omega⟩
                    · go_wp2_with (first | (go_at_call 50; (with_reducible refine (HOF.out _).mono ?_); rintro e w' ⟨rfl, rfl⟩))
                      exact ⟨⟨k + 1, by omega, by go_num, HR2.out, HB3.out, BX3.out⟩, by simp [intOf]; omega⟩
          · by_cases h1 : z0 = [104, 101, 97, 114, 115]
            · subst h1
              clear h0
              have HCD := Lib.hid (show countedB [104, 101, 97, 114, 115] = true from rfl)
              have e0 := BX1.out.cell 0 (by simp)
              have e1 := BX1.out.cell 1 (by simp)
              have e2 := BX1.out.cell 2 (by simp)
              have e3 := BX1.out.cell 3 (by simp)
              have e4 := BX1.out.cell 4 (by simp)
              have e5 := BX1.out.cell 5 (by simp)
              simp only [List.getElem_cons_zero, List.getElem_cons_succ] at e0 e1 e2 e3 e4 e5
              go_wp2_with fail
              refine (HLN.out _).mono ?_
              rintro e w2 ⟨rfl, hb⟩
              have HB2 := Lib.hid (belS HB1.out hb)
              have BL2 := Lib.hid (BL.out.below hb)
              have BX2 := Lib.hid (BX1.out.below hb)
              clear hb
              clear e0 e1 e2 e3 e4 e5
              have e0 := BX2.out.cell 0 (by simp)
              have e1 := BX2.out.cell 1 (by simp)
              have e2 := BX2.out.cell 2 (by simp)
              have e3 := BX2.out.cell 3 (by simp)
              have e4 := BX2.out.cell 4 (by simp)
              have e5 := BX2.out.cell 5 (by simp)
              simp only [List.getElem_cons_zero, List.getElem_cons_succ] at e0 e1 e2 e3 e4 e5
              have g0 := BL2.out.cell 0 (by simp)
              have g1 := BL2.out.cell 1 (by simp)
              simp only [List.getElem_cons_zero, List.getElem_cons_succ] at g0 g1
              cases q with
              | false =>
                have HR2 := Lib.hid (show pb = false from HBD.out (by rw [HLO.out]; rfl))
                go_wp2_with fail
                go_ret
                exact ⟨ret_bool HR2.out.symm, HB2.out⟩
              | true =>
                go_wp2_with fail
                refine (HFO.out _ HB2.out).mono ?_
                rintro e w3 ⟨rfl, hb⟩
                have HB3 := Lib.hid (belS HB2.out hb)
                have BL3 := Lib.hid (BL2.out.below hb)
                have BX3 := Lib.hid (BX2.out.below hb)
                clear hb
                clear e0 e1 e2 e3 e4 e5 g0 g1
                have g0 := BL3.out.cell 0 (by simp)
                have g1 := BL3.out.cell 1 (by simp)
                simp only [List.getElem_cons_zero, List.getElem_cons_succ] at g0 g1
                cases ob with
                | false =>
                  have HR2 := Lib.hid (show pb = false from HBD.out (by rw [HLO.out]; rfl))
                  go_wp2_with (first | (go_at_call 50; (with_reducible refine (HOF.out _).mono ?_); rintro e w' ⟨rfl, rfl⟩))
                  go_ret
                  exact ⟨ret_bool HR2.out.symm, HB3.out⟩
                | true =>
                  by_cases hc0 : z1 < 0
                  · skip
                    have HR2 := Lib.hid (show pb = false from HBD.out (by rw [HLO.out]; unfold cntB; rw [HCD.out]; simp [numB]; omega))
                    go_wp2_with (first | (go_at_call 50; (with_reducible refine (HOF.out _).mono ?_); rintro e w' ⟨rfl, rfl⟩))
                    go_ret
                    exact ⟨ret_bool HR2.out.symm, HB3.out⟩
                  · by_cases hc9 : 999 < z1
                    · skip
                      have HR2 := Lib.hid (show pb = false from HBD.out (by rw [HLO.out]; unfold cntB; rw [HCD.out]; simp [numB]; omega))
                      go_wp2_with (first | (go_at_call 50; (with_reducible refine (HOF.out _).mono ?_); rintro e w' ⟨rfl, rfl⟩))
                      go_ret
                      exact ⟨ret_bool HR2.out.symm, HB3.out⟩
                    · have HR2 := Lib.hid (HNX.out (by rw [HLO.out]; unfold cntB; rw [HCD.out]; simp [numB]; omega))
                      by_cases hcp : 0 < z1
                      · go_wp2_with (first | (go_at_call 50; (with_reducible refine (HOF.out _).mono ?_); rintro e w' ⟨rfl, rfl⟩))
                        exact ⟨⟨k + 1, by omega, by go_num, HR2.out, HB3.out, BX3.out⟩, by simp [intOf]; omega⟩
                      · go_wp2_with (first | (go_at_call 50; (with_reducible refine (HOF.out _).mono ?_); rintro e w' ⟨rfl, rfl⟩))
                        exact ⟨⟨k + 1, by omega, by go_num, HR2.out, HB3.out, BX3.out⟩, by simp [intOf]; omega⟩
            · have HCD := Lib.hid (show countedB z0 = false by simp [countedB, h0, h1])
              have k0 : (z0 == [99, 111, 117, 110, 116, 115]) = false := by simp [h0]
              have k1 : (z0 == [104, 101, 97, 114, 115]) = false := by simp [h1]
              clear h0 h1
              have e0 := BX1.out.cell 0 (by simp)
              have e1 := BX1.out.cell 1 (by simp)
              have e2 := BX1.out.cell 2 (by simp)
              have e3 := BX1.out.cell 3 (by simp)
              have e4 := BX1.out.cell 4 (by simp)
              have e5 := BX1.out.cell 5 (by simp)
              simp only [List.getElem_cons_zero, List.getElem_cons_succ] at e0 e1 e2 e3 e4 e5
              go_wp2_with fail
              refine (HLN.out _).mono ?_
              rintro e w2 ⟨rfl, hb⟩
              have HB2 := Lib.hid (belS HB1.out hb)
              have BL2 := Lib.hid (BL.out.below hb)
              have BX2 := Lib.hid (BX1.out.below hb)
              clear hb
              clear e0 e1 e2 e3 e4 e5
              have e0 := BX2.out.cell 0 (by simp)
              have e1 := BX2.out.cell 1 (by simp)
              have e2 := BX2.out.cell 2 (by simp)
              have e3 := BX2.out.cell 3 (by simp)
              have e4 := BX2.out.cell 4 (by simp)
              have e5 := BX2.out.cell 5 (by simp)
              simp only [List.getElem_cons_zero, List.getElem_cons_succ] at e0 e1 e2 e3 e4 e5
              have g0 := BL2.out.cell 0 (by simp)
              have g1 := BL2.out.cell 1 (by simp)
              simp only [List.getElem_cons_zero, List.getElem_cons_succ] at g0 g1
              cases q with
              | false =>
                have HR2 := Lib.hid (show pb = false from HBD.out (by rw [HLO.out]; rfl))
                go_wp2_with fail
                go_ret
                exact ⟨ret_bool HR2.out.symm, HB2.out⟩
              | true =>
                go_wp2_with fail
                refine (HFO.out _ HB2.out).mono ?_
                rintro e w3 ⟨rfl, hb⟩
                have HB3 := Lib.hid (belS HB2.out hb)
                have BL3 := Lib.hid (BL2.out.below hb)
                have BX3 := Lib.hid (BX2.out.below hb)
                clear hb
                clear e0 e1 e2 e3 e4 e5 g0 g1
                have g0 := BL3.out.cell 0 (by simp)
                have g1 := BL3.out.cell 1 (by simp)
                simp only [List.getElem_cons_zero, List.getElem_cons_succ] at g0 g1
                cases ob with
                | false =>
                  have HR2 := Lib.hid (show pb = false from HBD.out (by rw [HLO.out]; rfl))
                  go_wp2_with (first | (go_at_call 50; (with_reducible refine (HOF.out _).mono ?_); rintro e w' ⟨rfl, rfl⟩))
                  go_ret
                  exact ⟨ret_bool HR2.out.symm, HB3.out⟩
                | true =>
                  by_cases hc0 : z1 < 0
                  · skip
                    have HR2 := Lib.hid (show pb = false from HBD.out (by rw [HLO.out]; unfold cntB; rw [HCD.out]; simp; omega))
                    go_wp2_with (first | (go_at_call 50; (with_reducible refine (HOF.out _).mono ?_); rintro e w' ⟨rfl, rfl⟩))
                    go_ret
                    exact ⟨ret_bool HR2.out.symm, HB3.out⟩
                  · by_cases hc9 : 999 < z1
                    · skip
                      have HR2 := Lib.hid (show pb = false from HBD.out (by rw [HLO.out]; unfold cntB; rw [HCD.out]; simp; omega))
                      go_wp2_with (first | (go_at_call 50; (with_reducible refine (HOF.out _).mono ?_); rintro e w' ⟨rfl, rfl⟩))
                      go_ret
                      exact ⟨ret_bool HR2.out.symm, HB3.out⟩
                    · by_cases hcp : 0 < z1
                      · skip
                        have HR2 := Lib.hid (show pb = false from HBD.out (by rw [HLO.out]; unfold cntB; rw [HCD.out]; simp; omega))
                        go_wp2_with (first | (go_at_call 50; (with_reducible refine (HOF.out _).mono ?_); rintro e w' ⟨rfl, rfl⟩))
                        go_ret
                        exact ⟨ret_bool HR2.out.symm, HB3.out⟩
                      · have HR2 := Lib.hid (HNX.out (by rw [HLO.out]; unfold cntB; rw [HCD.out]; simp; omega))
                        go_wp2_with (first | (go_at_call 50; (with_reducible refine (HOF.out _).mono ?_); rintro e w' ⟨rfl, rfl⟩))
                        exact ⟨⟨k + 1, by omega, by go_num, HR2.out, HB3.out, BX3.out⟩, by simp [intOf]; omega⟩
        · have HR2 := Lib.hid (show pb = true by rw [HR.out]; have h := HT.out; rwa [show k = ls.length by omega] at h)
          go_wp2
          go_ret
          exact ⟨ret_bool HR2.out.symm, HBr.out⟩
end Go.Proofs.YtlkpinlkbikokaaGreat
/- the model's l3Copy -/
namespace Go.Proofs.YtlkpinlkbikokaaGreat
set_option linter.unusedVariables false
set_option linter.unusedSimpArgs false
open Go.RowKit
set_option maxRecDepth 100000 in
set_option maxHeartbeats 3200000 in
theorem l3Copy_any (v : Value) (d : CoreD) (w : World) (hx : CoreAt w v d) (hm : d.fCells.length ≤ 2097152) :
    Calls Tryz.prog 58 #[v] w fun e w' => GivesCore d w e w' := by
  obtain ⟨cv, rfl, hx⟩ := hx
  obtain ⟨i0, hi, hz0, hz1, hz2⟩ := info_parts cell_info
  obtain ⟨kd, on, br, l, cnt⟩ := d
  unfold vCore
  simp only at *
  have HX := Lib.hid hx
  obtain ⟨a, c, rfl, hml⟩ := flatAt_len hx
  clear hx
  have HB3 := Lib.hid (show ∀ o1 o2 o3, Below w.heap.size w (((w.alloc o1).alloc o2).alloc o3) from fun o1 o2 o3 => (((Below.refl _ _).alloc (Nat.le_refl _) _).alloc (by simp) _).alloc (by simp; omega) _)
  have HO3 := Lib.hid (show ∀ o1 o2, OwnsF cCell 117 2 (((w.alloc o1).alloc o2).alloc (.cells #[] 117)) (w.heap.size + 1 + 1) (.slice (some ⟨w.heap.size + 1 + 1, 0, none⟩) 0 0) [] from fun o1 o2 => by have h := ownsF_new cCell 117 2 ((w.alloc o1).alloc o2); simpa using h)
  cases a with
  | none =>
    have hl0 : l = [] := by
      obtain ⟨a', c', e, _, _, h⟩ := HX.out
      injection e with e1 e2
      rcases h with h | ⟨b, o, rfl, _⟩
      · exact List.eq_nil_of_length_eq_zero h
      · simp at e1
    subst hl0
    simp only [List.length_nil] at *
    go_enter Tryz.func58, Tryz.ntmps58
    go_wp2_with fail
    refine bodyPost_ret (v := .agg #[.string ⟨kd.toArray⟩, .bool on, .bool br, .slice (some ⟨w.heap.size + 1 + 1, 0, none⟩) 0 0, .int .i64 cnt]) (by simp [results, Tryz.results58, go_sem, cell_set_at, cell_set_ne]) rfl ?_
    exact ⟨_, rfl, ⟨_, rfl, ownsF_base (HO3.out _ _) (by omega)⟩, HB3.out _ _ _⟩
  | some ad =>
    have HN := Lib.hid (fun o1 o2 o3 => show ∀ j u, (l.flatMap cCell)[j]? = some u → (((w.alloc o1).alloc o2).alloc o3).cell? (ad.add j) = some u from fun j u hj => by
      have h9 := HX.out.below (HB3.out o1 o2 o3) (Nat.le_refl _)
      obtain ⟨a', c', e, _, _, h⟩ := h9
      injection e with e1 e2
      have hjl : j < (l.flatMap cCell).length := (List.getElem?_eq_some_iff.1 hj).1
      rw [flat_len cCell 2 cCell_len] at hjl
      rcases h with h | ⟨b, o, rfl, _, h⟩
      · omega
      · injection e1 with e1
        subst e1
        rw [Addr.add_lit, h j hjl]; exact hj)
    have h1c : ∀ u ∈ l.flatMap cCell, u.oneCell' = true := fun u hu => by
      obtain ⟨y, _, hy⟩ := List.mem_flatMap.1 hu
      exact cCell_one y u hy
    have hfl := flat_len cCell 2 cCell_len l
    have H1 := Lib.hid h1c
    have HFL := Lib.hid hfl
    clear h1c hfl
    go_enter Tryz.func58, Tryz.ntmps58
    go_wp2_with (at_builtin; refine wpList_append_own _ rfl _ _ 62 rfl (w.heap.size + 1 + 1) 117 i0 _ 2 24 Tryz.underlying62 hi hz0 hz1 hz2 rfl (by decide) (.slice (some ⟨w.heap.size + 1 + 1, 0, none⟩) 0 0) 0 [] (by rfl) (HO3.out _ _) ad l.length c (l.flatMap cCell) (by rfl) HFL.out (HN.out _ _ _) H1.out (by unfold maxLen; omega) (by omega) (by simp; try omega) ?_; intro v' w' ho hgr hnil; clear hnil; have q0 : w'.cell? ⟨w.heap.size, 0, none⟩ = some (.string ⟨kd.toArray⟩) := (hgr.cell_far ⟨w.heap.size, 0, none⟩ (by simp <;> omega) (by simp [Value.ownBlock] <;> omega)).trans (by simp [go_sem]); have q1 : w'.cell? ⟨w.heap.size, 1, none⟩ = some (.bool on) := (hgr.cell_far ⟨w.heap.size, 1, none⟩ (by simp <;> omega) (by simp [Value.ownBlock] <;> omega)).trans (by simp [go_sem]); have q2 : w'.cell? ⟨w.heap.size, 2, none⟩ = some (.bool br) := (hgr.cell_far ⟨w.heap.size, 2, none⟩ (by simp <;> omega) (by simp [Value.ownBlock] <;> omega)).trans (by simp [go_sem]); have q3 : w'.cell? ⟨w.heap.size, 3, none⟩ = some (.slice (some ad) l.length c) := (hgr.cell_far ⟨w.heap.size, 3, none⟩ (by simp <;> omega) (by simp [Value.ownBlock] <;> omega)).trans (by simp [go_sem]); have q4 : w'.cell? ⟨w.heap.size, 4, none⟩ = some (.int .i64 cnt) := (hgr.cell_far ⟨w.heap.size, 4, none⟩ (by simp <;> omega) (by simp [Value.ownBlock] <;> omega)).trans (by simp [go_sem]); have r0 : w'.cell? ⟨w.heap.size + 1, 0, none⟩ = some (.string ⟨#[]⟩) := (hgr.cell_far ⟨w.heap.size + 1, 0, none⟩ (by simp <;> omega) (by simp [Value.ownBlock] <;> omega)).trans (by simp [go_sem]); have r1 : w'.cell? ⟨w.heap.size + 1, 1, none⟩ = some (.bool false) := (hgr.cell_far ⟨w.heap.size + 1, 1, none⟩ (by simp <;> omega) (by simp [Value.ownBlock] <;> omega)).trans (by simp [go_sem]); have r2 : w'.cell? ⟨w.heap.size + 1, 2, none⟩ = some (.bool false) := (hgr.cell_far ⟨w.heap.size + 1, 2, none⟩ (by simp <;> omega) (by simp [Value.ownBlock] <;> omega)).trans (by simp [go_sem]); have r3 : w'.cell? ⟨w.heap.size + 1, 3, none⟩ = some (.slice none 0 0) := (hgr.cell_far ⟨w.heap.size + 1, 3, none⟩ (by simp <;> omega) (by simp [Value.ownBlock] <;> omega)).trans (by simp [go_sem]); have r4 : w'.cell? ⟨w.heap.size + 1, 4, none⟩ = some (.int .i64 0) := (hgr.cell_far ⟨w.heap.size + 1, 4, none⟩ (by simp <;> omega) (by simp [Value.ownBlock] <;> omega)).trans (by simp [go_sem]); have y0 : ∀ o, w'.frozen? ⟨w.heap.size, o, none⟩ = false := (fun o => (hgr.frozen_far ⟨w.heap.size, o, none⟩ (by simp <;> omega) (by simp [Value.ownBlock] <;> omega)).trans (by simp [go_sem])); have y1 : ∀ o, w'.frozen? ⟨w.heap.size + 1, o, none⟩ = false := (fun o => (hgr.frozen_far ⟨w.heap.size + 1, o, none⟩ (by simp <;> omega) (by simp [Value.ownBlock] <;> omega)).trans (by simp [go_sem])); have HG := Lib.hid hgr; have HO := Lib.hid (show OwnsF cCell 117 2 w' (w.heap.size + 1 + 1) v' l from by simpa [OwnsF] using ho); obtain ⟨ua, uc, rfl⟩ := slice_of HO.out)
    refine bodyPost_ret (v := .agg #[.string ⟨kd.toArray⟩, .bool on, .bool br, .slice ua l.length uc, .int .i64 cnt]) (by simp [results, Tryz.results58, go_sem, cell_set_at, cell_set_ne, q0, q1, q2, q3, q4, r0, r1, r2, r3, r4]) rfl ?_
    refine ⟨_, rfl, ⟨_, rfl, ?_⟩, ?_⟩
    · refine ownsF_base (B := w.heap.size + 1 + 1) ?_ (by omega)
      repeat (with_reducible refine ownsF_set ?_ (by simp; try omega))
      exact HO.out
    · repeat (with_reducible refine Below.setCell ?_ (by simp; try omega) _)
      exact (HB3.out _ _ _).grown HG.out (by simp; omega) (fun k h => by simp [Value.ownBlock] at h; omega)
end Go.Proofs.YtlkpinlkbikokaaGreat
/- the model's l4Copy -/
namespace Go.Proofs.YtlkpinlkbikokaaGreat
set_option linter.unusedVariables false
set_option linter.unusedSimpArgs false
open Go.RowKit
theorem Below.gr {B : Nat} {a w w' : World} {r : Option Nat} (h : Below B a w) (hg : w.grownBy w' r) (hB : B ≤ w.heap.size) (hr : ∀ g, r = some g → B ≤ g) : Below B a w' := h.grown hg hB hr
/-- two variables, and what lies below is as it was -/
structure Cop (w : World) (cs zs : List Value) (w' : World) : Prop where
  b : Below w.heap.size w w'
  p : Bx w' w.heap.size cs
  r : Bx w' (w.heap.size + 1) zs
theorem Cop.below {w w1 w2 : World} {cs zs : List Value} (h : Cop w cs zs w1) (hb : Below w1.heap.size w1 w2) : Cop w cs zs w2 := ⟨belS h.b hb, h.p.below hb, h.r.below hb⟩
theorem Cop.alloc {w w1 : World} {cs zs : List Value} (h : Cop w cs zs w1) (o : Obj) : Cop w cs zs (w1.alloc o) := h.below (bx_box w1 o)
theorem Cop.drw {w w1 : World} {cs zs : List Value} (h : Cop w cs zs w1) : Cop w cs zs w1.drew := ⟨⟨h.b.os, h.b.tape, h.b.output, h.b.size, h.b.block⟩, h.p.dr, h.r.dr⟩
theorem Cop.grown {w w1 w2 : World} {cs zs : List Value} {r : Option Nat} (h : Cop w cs zs w1) (hg : w1.grownBy w2 r) (hr : ∀ g, r = some g → w.heap.size + 1 < g) : Cop w cs zs w2 :=
  ⟨h.b.grown hg h.b.size (fun g e => by have := hr g e; omega), h.p.grown hg (fun e => by have := hr _ e; omega), h.r.grown hg (fun e => by have := hr _ e; omega)⟩
def CopS (w : World) (c0 c1 c2 c3 c4 c5 : Value) (zs : List Value) (w' : World) : Prop :=
  w'.cell? ⟨w.heap.size, 0, none⟩ = some c0 ∧ w'.cell? ⟨w.heap.size, 1, none⟩ = some c1 ∧ w'.cell? ⟨w.heap.size, 2, none⟩ = some c2 ∧ w'.cell? ⟨w.heap.size, 3, none⟩ = some c3 ∧ w'.cell? ⟨w.heap.size, 4, none⟩ = some c4 ∧ w'.cell? ⟨w.heap.size, 5, none⟩ = some c5 ∧ Cop w [c0, c1, c2, c3, c4, c5] zs w'
theorem copS_of {w w' : World} {c0 c1 c2 c3 c4 c5 : Value} {zs : List Value} (h : Cop w [c0, c1, c2, c3, c4, c5] zs w') : w'.cell? ⟨w.heap.size, 0, none⟩ = some c0 ∧ w'.cell? ⟨w.heap.size, 1, none⟩ = some c1 ∧ w'.cell? ⟨w.heap.size, 2, none⟩ = some c2 ∧ w'.cell? ⟨w.heap.size, 3, none⟩ = some c3 ∧ w'.cell? ⟨w.heap.size, 4, none⟩ = some c4 ∧ w'.cell? ⟨w.heap.size, 5, none⟩ = some c5 ∧ Cop w [c0, c1, c2, c3, c4, c5] zs w' :=
  ⟨h.p.cell 0 (by simp), h.p.cell 1 (by simp), h.p.cell 2 (by simp), h.p.cell 3 (by simp), h.p.cell 4 (by simp), h.p.cell 5 (by simp), h⟩
/-- append of nothing, at a step of a region that draws -/
theorem step_laysZ {ops : Array Oper} {o : Oper} {a : Act} {K : Act → World → Prop} {Q : Exit → Act → World → Prop} {E : Prop} (hgd : o.guard = none) (s x : Operand)
    (ho : o.op = .call { callee := .builtin .append, args := #[s, x], argTypes := #[65, 65] }) (g cp : Nat) (w : World) (ad : Option Addr) (c : Nat)
    (hs : a.eval s = .slice (some ⟨g, 0, none⟩) 0 cp) (hx : a.eval x = .slice ad 0 c)
    (h : K (a.put o.dst (.slice (some ⟨g, 0, none⟩) 0 cp)) w) : if Region.wanted o (yielded ops a.tmps) = true then Oper.wp Tryz.prog o a w K Q else E := by
  have hw : Region.wanted o (yielded ops a.tmps) = true := by simp [Region.wanted, hgd]
  rw [if_pos hw]
  have hr : (Builtin.append_ #[65, 65] o.type #[.slice (some ⟨g, 0, none⟩) 0 cp, .slice ad 0 c]).run Tryz.prog w = .ok (.slice (some ⟨g, 0, none⟩) 0 cp) w := by
    cases ad <;> simp [Builtin.append_, go_sem]
  unfold Oper.wp execOp
  simp only [ho, resolve, invoke, builtin, Sem.run_bind, Sem.run_pure, Result.andThen_ok, List.map_toArray, List.map_cons, List.map_nil, hs, hx, hr]
  exact h
/-- append of a slice of layers to a row of one's own, at a step of a region that draws -/
theorem step_laysN {ops : Array Oper} {o : Oper} {a : Act} {K : Act → World → Prop} {Q : Exit → Act → World → Prop} {E : Prop} (hgd : o.guard = none) (s x : Operand)
    (ho : o.op = .call { callee := .builtin .append, args := #[s, x], argTypes := #[65, 65] }) (B : Nat) (v : Value) (y : List LayerD) (w : World) (ad : Option Addr) (c : Nat)
    (hs : a.eval s = v) (hO : OwnsF cLayer 89 2 w B v []) (hx : a.eval x = .slice ad y.length c) (hy : SliceAt (rFlat cLayer) 2 0 w (.slice ad y.length c) y) (hv : ∃ g cp, v = .slice (some ⟨g, 0, none⟩) 0 cp) (hm : y.length ≤ 2097152) (hB : B ≤ w.heap.size)
    (h : ∀ v' w', OwnsF cLayer 89 2 w' B v' y → w.grownBy w' v.ownBlock → K (a.put o.dst v') w') : if Region.wanted o (yielded ops a.tmps) = true then Oper.wp Tryz.prog o a w K Q else E := by
  by_cases hl : 0 < y.length
  case neg =>
    obtain rfl : y = [] := List.eq_nil_of_length_eq_zero (by omega)
    obtain ⟨g, cp, rfl⟩ := hv
    exact step_laysZ hgd s x ho g cp w ad c hs hx (h _ _ hO (grownBy_refl _ _))
  obtain ⟨i0, hi, hz0, hz1, hz2⟩ := info_parts infoLay
  obtain ⟨a', c', e, hlen, hml, hy⟩ := flatAt_of_slice cLayer_len (by decide) hy
  injection e with e1 e2 e3
  subst e1
  rcases hy with hy | ⟨b, o', rfl, hlt, hy⟩
  · omega
  · refine step_append_lies w hgd s x 65 ho B 89 i0 _ 2 24 Tryz.underlying65 hi hz0 hz1 hz2 rfl (by decide) v 0 [] hs (by simpa [OwnsF] using hO) ⟨b, o', none⟩ y.length c (y.flatMap cLayer) hx hlen ?_ ?_ hl (by unfold maxLen; omega) (by omega) hB _ rfl ?_
    · intro j u hj
      have hj2 : j < y.length * 2 := by rw [← hlen]; exact (List.getElem?_eq_some_iff.1 hj).1
      rw [Addr.add_lit, hy j hj2]; exact hj
    · intro u hu
      obtain ⟨d, _, hd⟩ := List.mem_flatMap.1 hu
      exact cLayer_one d u hd
    · intro g cap w' h1 h2 _ _
      refine h _ w' ?_ h2
      unfold OwnsF
      simpa using h1
theorem l4_end {w w4 : World} {kd : List UInt8} {on br : Bool} {cl : List CellD} {cnt : Int} {l : List LayerD} {ga ua : Option Addr} {gc uc : Nat} {cs : List Value} {c0 c1 c2 c3 c4 c5 : Value} (h : Cop w cs [c0, c1, c2, c3, c4, c5] w4)
    (hc : OwnsF cCell 117 2 w4 (w.heap.size + 1 + 1) (.slice ga cl.length gc) cl) (hl : OwnsF cLayer 89 2 w4 (w.heap.size + 1 + 1) (.slice ua l.length uc) l) (hmc : cl.length ≤ 2097152) (hm : l.length ≤ 2097152) :
    Bx ((((((w4.setCell ⟨w.heap.size + 1, 0, none⟩ (.string ⟨kd.toArray⟩)).setCell ⟨w.heap.size + 1, 1, none⟩ (.bool on)).setCell ⟨w.heap.size + 1, 2, none⟩ (.bool br)).setCell ⟨w.heap.size + 1, 3, none⟩ (.slice ga cl.length gc)).setCell ⟨w.heap.size + 1, 4, none⟩ (.int .i64 cnt)).setCell ⟨w.heap.size + 1, 5, none⟩ (.slice ua l.length uc)) (w.heap.size + 1) [.string ⟨kd.toArray⟩, .bool on, .bool br, .slice ga cl.length gc, .int .i64 cnt, .slice ua l.length uc] ∧
    oPart ((((((w4.setCell ⟨w.heap.size + 1, 0, none⟩ (.string ⟨kd.toArray⟩)).setCell ⟨w.heap.size + 1, 1, none⟩ (.bool on)).setCell ⟨w.heap.size + 1, 2, none⟩ (.bool br)).setCell ⟨w.heap.size + 1, 3, none⟩ (.slice ga cl.length gc)).setCell ⟨w.heap.size + 1, 4, none⟩ (.int .i64 cnt)).setCell ⟨w.heap.size + 1, 5, none⟩ (.slice ua l.length uc)) w.heap.size [.string ⟨kd.toArray⟩, .bool on, .bool br, .slice ga cl.length gc, .int .i64 cnt, .slice ua l.length uc] ⟨⟨kd, on, br, cl, cnt⟩, l⟩ ∧
    Below w.heap.size w ((((((w4.setCell ⟨w.heap.size + 1, 0, none⟩ (.string ⟨kd.toArray⟩)).setCell ⟨w.heap.size + 1, 1, none⟩ (.bool on)).setCell ⟨w.heap.size + 1, 2, none⟩ (.bool br)).setCell ⟨w.heap.size + 1, 3, none⟩ (.slice ga cl.length gc)).setCell ⟨w.heap.size + 1, 4, none⟩ (.int .i64 cnt)).setCell ⟨w.heap.size + 1, 5, none⟩ (.slice ua l.length uc)) := by
  refine ⟨h.r.put6 _ _ _ _ _ _, ⟨_, _, rfl, ?_, ?_⟩, below_put6 h.b (w.heap.size + 1) (by omega) _ _ _ _ _ _⟩
  · exact ownsF_base (ownsF_put6 hc (w.heap.size + 1) (by omega) _ _ _ _ _ _) (by omega)
  · exact ownsF_base (ownsF_put6 hl (w.heap.size + 1) (by omega) _ _ _ _ _ _) (by omega)
theorem l4_end0 {w w4 : World} {kd : List UInt8} {on br : Bool} {cl : List CellD} {cnt : Int} {ga ua : Option Addr} {gc : Nat} {cs : List Value} {c0 c1 c2 c3 c4 c5 : Value} (h : Cop w cs [c0, c1, c2, c3, c4, c5] w4)
    (hc : OwnsF cCell 117 2 w4 (w.heap.size + 1 + 1) (.slice ga cl.length gc) cl) (hl : OwnsF cLayer 89 2 w4 (w.heap.size + 1 + 1) (.slice ua 0 0) []) (hmc : cl.length ≤ 2097152) :
    Bx ((((((w4.setCell ⟨w.heap.size + 1, 0, none⟩ (.string ⟨kd.toArray⟩)).setCell ⟨w.heap.size + 1, 1, none⟩ (.bool on)).setCell ⟨w.heap.size + 1, 2, none⟩ (.bool br)).setCell ⟨w.heap.size + 1, 3, none⟩ (.slice ga cl.length gc)).setCell ⟨w.heap.size + 1, 4, none⟩ (.int .i64 cnt)).setCell ⟨w.heap.size + 1, 5, none⟩ (.slice ua 0 0)) (w.heap.size + 1) [.string ⟨kd.toArray⟩, .bool on, .bool br, .slice ga cl.length gc, .int .i64 cnt, .slice ua 0 0] ∧
    oPart ((((((w4.setCell ⟨w.heap.size + 1, 0, none⟩ (.string ⟨kd.toArray⟩)).setCell ⟨w.heap.size + 1, 1, none⟩ (.bool on)).setCell ⟨w.heap.size + 1, 2, none⟩ (.bool br)).setCell ⟨w.heap.size + 1, 3, none⟩ (.slice ga cl.length gc)).setCell ⟨w.heap.size + 1, 4, none⟩ (.int .i64 cnt)).setCell ⟨w.heap.size + 1, 5, none⟩ (.slice ua 0 0)) w.heap.size [.string ⟨kd.toArray⟩, .bool on, .bool br, .slice ga cl.length gc, .int .i64 cnt, .slice ua 0 0] ⟨⟨kd, on, br, cl, cnt⟩, []⟩ ∧
    Below w.heap.size w ((((((w4.setCell ⟨w.heap.size + 1, 0, none⟩ (.string ⟨kd.toArray⟩)).setCell ⟨w.heap.size + 1, 1, none⟩ (.bool on)).setCell ⟨w.heap.size + 1, 2, none⟩ (.bool br)).setCell ⟨w.heap.size + 1, 3, none⟩ (.slice ga cl.length gc)).setCell ⟨w.heap.size + 1, 4, none⟩ (.int .i64 cnt)).setCell ⟨w.heap.size + 1, 5, none⟩ (.slice ua 0 0)) := by
  refine ⟨h.r.put6 _ _ _ _ _ _, ⟨_, _, rfl, ?_, ?_⟩, below_put6 h.b (w.heap.size + 1) (by omega) _ _ _ _ _ _⟩
  · exact ownsF_base (ownsF_put6 hc (w.heap.size + 1) (by omega) _ _ _ _ _ _) (by omega)
  · exact ownsF_base (ownsF_put6 hl (w.heap.size + 1) (by omega) _ _ _ _ _ _) (by omega)
/-- the empty row made at the end -/
theorem l4_end1 {w w4 : World} {kd : List UInt8} {on br : Bool} {cl : List CellD} {cnt : Int} {ga : Option Addr} {gc : Nat} {cs : List Value} {c0 c1 c2 c3 c4 c5 : Value} (h : Cop w cs [c0, c1, c2, c3, c4, c5] w4)
    (hc : OwnsF cCell 117 2 w4 (w.heap.size + 1 + 1) (.slice ga cl.length gc) cl) (hmc : cl.length ≤ 2097152) :
    Bx ((((((w4.setCell ⟨w.heap.size + 1, 0, none⟩ (.string ⟨kd.toArray⟩)).setCell ⟨w.heap.size + 1, 1, none⟩ (.bool on)).setCell ⟨w.heap.size + 1, 2, none⟩ (.bool br)).setCell ⟨w.heap.size + 1, 3, none⟩ (.slice ga cl.length gc)).setCell ⟨w.heap.size + 1, 4, none⟩ (.int .i64 cnt)).setCell ⟨w.heap.size + 1, 5, none⟩ (.slice (some ⟨w4.heap.size, 0, none⟩) 0 0)) (w.heap.size + 1) [.string ⟨kd.toArray⟩, .bool on, .bool br, .slice ga cl.length gc, .int .i64 cnt, .slice (some ⟨w4.heap.size, 0, none⟩) 0 0] ∧
    oPart (((((((w4.setCell ⟨w.heap.size + 1, 0, none⟩ (.string ⟨kd.toArray⟩)).setCell ⟨w.heap.size + 1, 1, none⟩ (.bool on)).setCell ⟨w.heap.size + 1, 2, none⟩ (.bool br)).setCell ⟨w.heap.size + 1, 3, none⟩ (.slice ga cl.length gc)).setCell ⟨w.heap.size + 1, 4, none⟩ (.int .i64 cnt)).setCell ⟨w.heap.size + 1, 5, none⟩ (.slice (some ⟨w4.heap.size, 0, none⟩) 0 0)).alloc (.cells #[] 89)) w.heap.size [.string ⟨kd.toArray⟩, .bool on, .bool br, .slice ga cl.length gc, .int .i64 cnt, .slice (some ⟨w4.heap.size, 0, none⟩) 0 0] ⟨⟨kd, on, br, cl, cnt⟩, []⟩ ∧
    Below w.heap.size w ((((((w4.setCell ⟨w.heap.size + 1, 0, none⟩ (.string ⟨kd.toArray⟩)).setCell ⟨w.heap.size + 1, 1, none⟩ (.bool on)).setCell ⟨w.heap.size + 1, 2, none⟩ (.bool br)).setCell ⟨w.heap.size + 1, 3, none⟩ (.slice ga cl.length gc)).setCell ⟨w.heap.size + 1, 4, none⟩ (.int .i64 cnt)).setCell ⟨w.heap.size + 1, 5, none⟩ (.slice (some ⟨w4.heap.size, 0, none⟩) 0 0)) := by
  have hz : ((((((w4.setCell ⟨w.heap.size + 1, 0, none⟩ (.string ⟨kd.toArray⟩)).setCell ⟨w.heap.size + 1, 1, none⟩ (.bool on)).setCell ⟨w.heap.size + 1, 2, none⟩ (.bool br)).setCell ⟨w.heap.size + 1, 3, none⟩ (.slice ga cl.length gc)).setCell ⟨w.heap.size + 1, 4, none⟩ (.int .i64 cnt)).setCell ⟨w.heap.size + 1, 5, none⟩ (.slice (some ⟨w4.heap.size, 0, none⟩) 0 0)).heap.size = w4.heap.size := by simp
  have hn := ownsF_new cLayer 89 2 ((((((w4.setCell ⟨w.heap.size + 1, 0, none⟩ (.string ⟨kd.toArray⟩)).setCell ⟨w.heap.size + 1, 1, none⟩ (.bool on)).setCell ⟨w.heap.size + 1, 2, none⟩ (.bool br)).setCell ⟨w.heap.size + 1, 3, none⟩ (.slice ga cl.length gc)).setCell ⟨w.heap.size + 1, 4, none⟩ (.int .i64 cnt)).setCell ⟨w.heap.size + 1, 5, none⟩ (.slice (some ⟨w4.heap.size, 0, none⟩) 0 0))
  rw [hz] at hn
  refine ⟨h.r.put6 _ _ _ _ _ _, ⟨_, _, rfl, ?_, ?_⟩, below_put6 h.b (w.heap.size + 1) (by omega) _ _ _ _ _ _⟩
  · exact ownsF_alloc (ownsF_base (ownsF_put6 hc (w.heap.size + 1) (by omega) _ _ _ _ _ _) (by omega)) _
  · exact ownsF_base hn (by have := h.b.size; omega)
set_option maxRecDepth 100000 in
set_option maxHeartbeats 3200000 in
theorem l4Copy_own (v : Value) (x : PartD) (w : World) (hx : ValAt rPart 0 w v x) (hs : SmallP x) :
    Calls Tryz.prog 47 #[v] w fun e w' => GivesOP x w e w' := by
  obtain ⟨_, rfl, hx⟩ := hx
  obtain ⟨xc, l⟩ := x
  obtain ⟨v3, v5, rfl, h3, h5⟩ := hx
  have HCC := Lib.hid (fun W (hb : Below w.heap.size w W) => l3Copy_any (vCore xc v3) xc W ⟨v3, rfl, FlatAt.below (flatAt_of_slice cCell_len (by decide) h3) hb (Nat.le_refl _)⟩ hs.cells)
  unfold GivesCore OwnsCore at HCC
  have hm := hs.lays
  have hmc := hs.cells
  simp only at h3 h5 hm
  obtain ⟨ra, rc, rfl, _⟩ := sliceAt_len h3
  obtain ⟨sa, sc, rfl, hl⟩ := sliceAt_len h5
  have H5 := Lib.hid h5
  obtain ⟨kd, on, br, cl, cnt⟩ := xc
  unfold vCore at HCC
  simp only at HCC h3 hmc ⊢
  clear h3 h5 hs
  unfold maxLen at hl
  have BS := Lib.hid (bx_start2 w [.string ⟨kd.toArray⟩, .bool on, .bool br, .slice ra cl.length rc, .int .i64 cnt, .slice sa l.length sc] [.string ⟨#[]⟩, .bool false, .bool false, .slice none 0 0, .int .i64 0, .slice none 0 0] 67 67)
  have CS := Lib.hid (Cop.drw ⟨BS.out.2.2, BS.out.1, BS.out.2.1⟩)
  go_enter Tryz.func47, Tryz.ntmps47
  go_wp2_with fail
  have HO0 := Lib.hid (show ∀ o1 o2, OwnsF cLayer 89 2 (((w.alloc o1).alloc o2).drew.alloc (.cells #[] 89)) (w.heap.size + 1 + 1) (.slice (some ⟨w.heap.size + 1 + 1, 0, none⟩) 0 0) [] from fun o1 o2 => by have h := ownsF_new cLayer 89 2 ((w.alloc o1).alloc o2).drew; simpa using h)
  have q0 := CS.out.p.cell 0 (by simp)
  have q1 := CS.out.p.cell 1 (by simp)
  have q2 := CS.out.p.cell 2 (by simp)
  have q3 := CS.out.p.cell 3 (by simp)
  have q4 := CS.out.p.cell 4 (by simp)
  have q5 := CS.out.p.cell 5 (by simp)
  simp only [List.getElem_cons_zero, List.getElem_cons_succ] at q0 q1 q2 q3 q4 q5
  refine wp_region_any (by kernel_rfl) ?_
  change wpAny _ _ _ _ _ _ _ (World.drew _)
  refine wpAny_take (i := 0) (v := ?_) rfl (by kernel_rfl) (by kernel_rfl) (by kernel_rfl) (fun _ _ _ h => h) (Or.inl ⟨by rfl, ?_⟩) ?_
  rotate_left
  · intro w; go_simp; try (with_reducible rfl)
  refine wpAny_take (i := 4) (v := ?_) rfl (by kernel_rfl) (by kernel_rfl) (by kernel_rfl) (fun _ _ _ h => h) (Or.inl ⟨by rfl, ?_⟩) ?_
  rotate_left
  · intro w; go_simp; try (with_reducible rfl)
  -- GENERATED by gen/ch4cp.py
  refine wpAny_ready (rs := [1, 3, 5]) (by kernel_rfl) (by simp) ?_
  refine AllReady.cons rfl (fun K hK => ?_) ?_
  · go_simp
    refine hK _ _ ?_
    clear hK K
    refine wpAny_ready (rs := [2, 3, 5]) (by kernel_rfl) (by simp) ?_
    refine AllReady.cons rfl (fun K hK => ?_) ?_
    · go_simp
      refine (HCC.out _ CS.out.b).mono ?_
      rintro e w2 ⟨_, rfl, ⟨cv, rfl, ho5⟩, hb5⟩
      obtain ⟨ga, gc, rfl⟩ := slice_of ho5
      have HC5 := Lib.hid (CS.out.below hb5)
      have lp := HC5.out.p.lt
      have lr := HC5.out.r.lt
      have np : ¬ w.heap.size = w2.heap.size := by omega
      have nr : ¬ w.heap.size + 1 = w2.heap.size := by omega
      have q0 := HC5.out.p.cell 0 (by simp)
      have q1 := HC5.out.p.cell 1 (by simp)
      have q2 := HC5.out.p.cell 2 (by simp)
      have q3 := HC5.out.p.cell 3 (by simp)
      have q4 := HC5.out.p.cell 4 (by simp)
      have q5 := HC5.out.p.cell 5 (by simp)
      have r0 := HC5.out.r.cell 0 (by simp)
      have z0 := HC5.out.r.froz 0 (by simp)
      have r1 := HC5.out.r.cell 1 (by simp)
      have z1 := HC5.out.r.froz 1 (by simp)
      have r2 := HC5.out.r.cell 2 (by simp)
      have z2 := HC5.out.r.froz 2 (by simp)
      have r3 := HC5.out.r.cell 3 (by simp)
      have z3 := HC5.out.r.froz 3 (by simp)
      have r4 := HC5.out.r.cell 4 (by simp)
      have z4 := HC5.out.r.froz 4 (by simp)
      have r5 := HC5.out.r.cell 5 (by simp)
      have z5 := HC5.out.r.froz 5 (by simp)
      simp only [List.getElem_cons_zero, List.getElem_cons_succ] at q0 q1 q2 q3 q4 q5 r0 r1 r2 r3 r4 r5
      refine hK _ _ ?_
      clear hK K
      refine wpAny_ready (rs := [3, 5]) (by kernel_rfl) (by simp) ?_
      refine AllReady.cons rfl (fun K hK => ?_) ?_
      · go_simp
        refine hK _ _ ?_
        clear hK K
        refine wpAny_ready (rs := [5]) (by kernel_rfl) (by simp) ?_
        refine AllReady.cons rfl (fun K hK => ?_) ?_
        · go_simp
          refine hK _ _ ?_
          clear hK K
          refine wpAny_ready (rs := [6]) (by kernel_rfl) (by simp) ?_
          refine AllReady.cons rfl (fun K hK => ?_) ?_
          · have P1 := ownsF_base (B' := w.heap.size + 1 + 1) (ownsF_new cLayer 89 2 w2) HC5.out.r.lt
            have P2 := HC5.out.alloc (.cells #[] 89)
            have P3 := SliceAt.below H5.out (good_flat cLayer_len) P2.b (Nat.le_refl _)
            have P4 := P2.r.lt
            refine step_laysN rfl _ _ rfl (w.heap.size + 1 + 1) _ l _ sa sc ?_ P1 ?_ P3 ⟨_, _, rfl⟩ hm P4 ?_
            · simp [Act.eval, Act.put]
            · simp [Act.eval, Act.put]
            intro v4 w4 hO4 hg4
            obtain ⟨ua, uc, rfl⟩ := slice_of hO4
            have HC6 := Lib.hid (P2.grown hg4 (fun g hg => (World.ownsRow.lt P1 g hg).1))
            have lp := HC6.out.p.lt
            have lr := HC6.out.r.lt
            have np : ¬ w.heap.size = w4.heap.size := by omega
            have nr : ¬ w.heap.size + 1 = w4.heap.size := by omega
            have q0 := HC6.out.p.cell 0 (by simp)
            have q1 := HC6.out.p.cell 1 (by simp)
            have q2 := HC6.out.p.cell 2 (by simp)
            have q3 := HC6.out.p.cell 3 (by simp)
            have q4 := HC6.out.p.cell 4 (by simp)
            have q5 := HC6.out.p.cell 5 (by simp)
            have r0 := HC6.out.r.cell 0 (by simp)
            have z0 := HC6.out.r.froz 0 (by simp)
            have r1 := HC6.out.r.cell 1 (by simp)
            have z1 := HC6.out.r.froz 1 (by simp)
            have r2 := HC6.out.r.cell 2 (by simp)
            have z2 := HC6.out.r.froz 2 (by simp)
            have r3 := HC6.out.r.cell 3 (by simp)
            have z3 := HC6.out.r.froz 3 (by simp)
            have r4 := HC6.out.r.cell 4 (by simp)
            have z4 := HC6.out.r.froz 4 (by simp)
            have r5 := HC6.out.r.cell 5 (by simp)
            have z5 := HC6.out.r.froz 5 (by simp)
            simp only [List.getElem_cons_zero, List.getElem_cons_succ] at q0 q1 q2 q3 q4 q5 r0 r1 r2 r3 r4 r5
            refine hK _ _ ?_
            clear hK K
            refine wpAny_ready (rs := [7]) (by kernel_rfl) (by simp) ?_
            refine AllReady.cons rfl (fun K hK => ?_) ?_
            · go_simp
              refine hK _ _ ?_
              clear hK K
              refine wpAny_ready (rs := [8]) (by kernel_rfl) (by simp) ?_
              refine AllReady.cons rfl (fun K hK => ?_) ?_
              · go_simp
                refine hK _ _ ?_
                clear hK K
                refine wpAny_done (by kernel_rfl) ?_ _
                have OC0 := ownsF_keptF (ownsF_alloc ho5 _) P1 hg4 (by decide)
                have E6 := l4_end (kd := kd) (on := on) (br := br) (cnt := cnt) HC6.out (ownsF_base OC0 (by have h1 := CS.out.b.size; simp at h1 ⊢; try omega)) hO4 hmc hm
                clear q0 r0 z0 q1 r1 z1 q2 r2 z2 q3 r3 z3 q4 r4 z4 q5 r5 z5
                generalize ((((((w4.setCell ⟨w.heap.size + 1, 0, none⟩ (.string ⟨kd.toArray⟩)).setCell ⟨w.heap.size + 1, 1, none⟩ (.bool on)).setCell ⟨w.heap.size + 1, 2, none⟩ (.bool br)).setCell ⟨w.heap.size + 1, 3, none⟩ (.slice ga cl.length gc)).setCell ⟨w.heap.size + 1, 4, none⟩ (.int .i64 cnt)).setCell ⟨w.heap.size + 1, 5, none⟩ (.slice ua l.length uc)) = WE at *
                go_wp2_with fail
                obtain ⟨BE, RE, HE⟩ := E6
                have e0 := BE.cell 0 (by simp)
                have e1 := BE.cell 1 (by simp)
                have e2 := BE.cell 2 (by simp)
                have e3 := BE.cell 3 (by simp)
                have e4 := BE.cell 4 (by simp)
                have e5 := BE.cell 5 (by simp)
                simp only [List.getElem_cons_zero, List.getElem_cons_succ] at e0 e1 e2 e3 e4 e5
                exact bodyPost_ret (v := .agg #[.string ⟨kd.toArray⟩, .bool on, .bool br, .slice ga cl.length gc, .int .i64 cnt, .slice ua l.length uc]) (by simp [results, Tryz.results47, go_sem, e0, e1, e2, e3, e4, e5]) rfl ⟨_, rfl, RE, HE⟩
              exact AllReady.nil
            exact AllReady.nil
          exact AllReady.nil
        exact AllReady.nil
      refine AllReady.cons rfl (fun K hK => ?_) ?_
      · go_simp
        refine hK _ _ ?_
        clear hK K
        refine wpAny_ready (rs := [3]) (by kernel_rfl) (by simp) ?_
        refine AllReady.cons rfl (fun K hK => ?_) ?_
        · go_simp
          refine hK _ _ ?_
          clear hK K
          refine wpAny_ready (rs := [6]) (by kernel_rfl) (by simp) ?_
          refine AllReady.cons rfl (fun K hK => ?_) ?_
          · have P1 := ownsF_base (B' := w.heap.size + 1 + 1) (ownsF_new cLayer 89 2 w2) HC5.out.r.lt
            have P2 := HC5.out.alloc (.cells #[] 89)
            have P3 := SliceAt.below H5.out (good_flat cLayer_len) P2.b (Nat.le_refl _)
            have P4 := P2.r.lt
            refine step_laysN rfl _ _ rfl (w.heap.size + 1 + 1) _ l _ sa sc ?_ P1 ?_ P3 ⟨_, _, rfl⟩ hm P4 ?_
            · simp [Act.eval, Act.put]
            · simp [Act.eval, Act.put]
            intro v4 w4 hO4 hg4
            obtain ⟨ua, uc, rfl⟩ := slice_of hO4
            have HC6 := Lib.hid (P2.grown hg4 (fun g hg => (World.ownsRow.lt P1 g hg).1))
            have lp := HC6.out.p.lt
            have lr := HC6.out.r.lt
            have np : ¬ w.heap.size = w4.heap.size := by omega
            have nr : ¬ w.heap.size + 1 = w4.heap.size := by omega
            have q0 := HC6.out.p.cell 0 (by simp)
            have q1 := HC6.out.p.cell 1 (by simp)
            have q2 := HC6.out.p.cell 2 (by simp)
            have q3 := HC6.out.p.cell 3 (by simp)
            have q4 := HC6.out.p.cell 4 (by simp)
            have q5 := HC6.out.p.cell 5 (by simp)
            have r0 := HC6.out.r.cell 0 (by simp)
            have z0 := HC6.out.r.froz 0 (by simp)
            have r1 := HC6.out.r.cell 1 (by simp)
            have z1 := HC6.out.r.froz 1 (by simp)
            have r2 := HC6.out.r.cell 2 (by simp)
            have z2 := HC6.out.r.froz 2 (by simp)
            have r3 := HC6.out.r.cell 3 (by simp)
            have z3 := HC6.out.r.froz 3 (by simp)
            have r4 := HC6.out.r.cell 4 (by simp)
            have z4 := HC6.out.r.froz 4 (by simp)
            have r5 := HC6.out.r.cell 5 (by simp)
            have z5 := HC6.out.r.froz 5 (by simp)
            simp only [List.getElem_cons_zero, List.getElem_cons_succ] at q0 q1 q2 q3 q4 q5 r0 r1 r2 r3 r4 r5
            refine hK _ _ ?_
            clear hK K
            refine wpAny_ready (rs := [7]) (by kernel_rfl) (by simp) ?_
            refine AllReady.cons rfl (fun K hK => ?_) ?_
            · go_simp
              refine hK _ _ ?_
              clear hK K
              refine wpAny_ready (rs := [8]) (by kernel_rfl) (by simp) ?_
              refine AllReady.cons rfl (fun K hK => ?_) ?_
              · go_simp
                refine hK _ _ ?_
                clear hK K
                refine wpAny_done (by kernel_rfl) ?_ _
                have OC0 := ownsF_keptF (ownsF_alloc ho5 _) P1 hg4 (by decide)
                have E6 := l4_end (kd := kd) (on := on) (br := br) (cnt := cnt) HC6.out (ownsF_base OC0 (by have h1 := CS.out.b.size; simp at h1 ⊢; try omega)) hO4 hmc hm
                clear q0 r0 z0 q1 r1 z1 q2 r2 z2 q3 r3 z3 q4 r4 z4 q5 r5 z5
                generalize ((((((w4.setCell ⟨w.heap.size + 1, 0, none⟩ (.string ⟨kd.toArray⟩)).setCell ⟨w.heap.size + 1, 1, none⟩ (.bool on)).setCell ⟨w.heap.size + 1, 2, none⟩ (.bool br)).setCell ⟨w.heap.size + 1, 3, none⟩ (.slice ga cl.length gc)).setCell ⟨w.heap.size + 1, 4, none⟩ (.int .i64 cnt)).setCell ⟨w.heap.size + 1, 5, none⟩ (.slice ua l.length uc)) = WE at *
                go_wp2_with fail
                obtain ⟨BE, RE, HE⟩ := E6
                have e0 := BE.cell 0 (by simp)
                have e1 := BE.cell 1 (by simp)
                have e2 := BE.cell 2 (by simp)
                have e3 := BE.cell 3 (by simp)
                have e4 := BE.cell 4 (by simp)
                have e5 := BE.cell 5 (by simp)
                simp only [List.getElem_cons_zero, List.getElem_cons_succ] at e0 e1 e2 e3 e4 e5
                exact bodyPost_ret (v := .agg #[.string ⟨kd.toArray⟩, .bool on, .bool br, .slice ga cl.length gc, .int .i64 cnt, .slice ua l.length uc]) (by simp [results, Tryz.results47, go_sem, e0, e1, e2, e3, e4, e5]) rfl ⟨_, rfl, RE, HE⟩
              exact AllReady.nil
            exact AllReady.nil
          exact AllReady.nil
        exact AllReady.nil
      exact AllReady.nil
    refine AllReady.cons rfl (fun K hK => ?_) ?_
    · go_simp
      refine hK _ _ ?_
      clear hK K
      refine wpAny_ready (rs := [2, 5]) (by kernel_rfl) (by simp) ?_
      refine AllReady.cons rfl (fun K hK => ?_) ?_
      · go_simp
        refine (HCC.out _ (CS.out.alloc _).b).mono ?_
        rintro e w2 ⟨_, rfl, ⟨cv, rfl, ho5⟩, hb5⟩
        obtain ⟨ga, gc, rfl⟩ := slice_of ho5
        have HC5 := Lib.hid ((CS.out.alloc _).below hb5)
        have lp := HC5.out.p.lt
        have lr := HC5.out.r.lt
        have np : ¬ w.heap.size = w2.heap.size := by omega
        have nr : ¬ w.heap.size + 1 = w2.heap.size := by omega
        have q0 := HC5.out.p.cell 0 (by simp)
        have q1 := HC5.out.p.cell 1 (by simp)
        have q2 := HC5.out.p.cell 2 (by simp)
        have q3 := HC5.out.p.cell 3 (by simp)
        have q4 := HC5.out.p.cell 4 (by simp)
        have q5 := HC5.out.p.cell 5 (by simp)
        have r0 := HC5.out.r.cell 0 (by simp)
        have z0 := HC5.out.r.froz 0 (by simp)
        have r1 := HC5.out.r.cell 1 (by simp)
        have z1 := HC5.out.r.froz 1 (by simp)
        have r2 := HC5.out.r.cell 2 (by simp)
        have z2 := HC5.out.r.froz 2 (by simp)
        have r3 := HC5.out.r.cell 3 (by simp)
        have z3 := HC5.out.r.froz 3 (by simp)
        have r4 := HC5.out.r.cell 4 (by simp)
        have z4 := HC5.out.r.froz 4 (by simp)
        have r5 := HC5.out.r.cell 5 (by simp)
        have z5 := HC5.out.r.froz 5 (by simp)
        simp only [List.getElem_cons_zero, List.getElem_cons_succ] at q0 q1 q2 q3 q4 q5 r0 r1 r2 r3 r4 r5
        refine hK _ _ ?_
        clear hK K
        refine wpAny_ready (rs := [5]) (by kernel_rfl) (by simp) ?_
        refine AllReady.cons rfl (fun K hK => ?_) ?_
        · go_simp
          refine hK _ _ ?_
          clear hK K
          refine wpAny_ready (rs := [6]) (by kernel_rfl) (by simp) ?_
          refine AllReady.cons rfl (fun K hK => ?_) ?_
          · have P1 := ownsF_below (HO0.out _ _) hb5 (Nat.le_refl _)
            have P2 := HC5.out
            have P3 := SliceAt.below H5.out (good_flat cLayer_len) P2.b (Nat.le_refl _)
            have P4 := P2.r.lt
            refine step_laysN rfl _ _ rfl (w.heap.size + 1 + 1) _ l _ sa sc ?_ P1 ?_ P3 ⟨_, _, rfl⟩ hm P4 ?_
            · simp [Act.eval, Act.put]
            · simp [Act.eval, Act.put]
            intro v4 w4 hO4 hg4
            obtain ⟨ua, uc, rfl⟩ := slice_of hO4
            have HC6 := Lib.hid (P2.grown hg4 (fun g hg => (World.ownsRow.lt P1 g hg).1))
            have lp := HC6.out.p.lt
            have lr := HC6.out.r.lt
            have np : ¬ w.heap.size = w4.heap.size := by omega
            have nr : ¬ w.heap.size + 1 = w4.heap.size := by omega
            have q0 := HC6.out.p.cell 0 (by simp)
            have q1 := HC6.out.p.cell 1 (by simp)
            have q2 := HC6.out.p.cell 2 (by simp)
            have q3 := HC6.out.p.cell 3 (by simp)
            have q4 := HC6.out.p.cell 4 (by simp)
            have q5 := HC6.out.p.cell 5 (by simp)
            have r0 := HC6.out.r.cell 0 (by simp)
            have z0 := HC6.out.r.froz 0 (by simp)
            have r1 := HC6.out.r.cell 1 (by simp)
            have z1 := HC6.out.r.froz 1 (by simp)
            have r2 := HC6.out.r.cell 2 (by simp)
            have z2 := HC6.out.r.froz 2 (by simp)
            have r3 := HC6.out.r.cell 3 (by simp)
            have z3 := HC6.out.r.froz 3 (by simp)
            have r4 := HC6.out.r.cell 4 (by simp)
            have z4 := HC6.out.r.froz 4 (by simp)
            have r5 := HC6.out.r.cell 5 (by simp)
            have z5 := HC6.out.r.froz 5 (by simp)
            simp only [List.getElem_cons_zero, List.getElem_cons_succ] at q0 q1 q2 q3 q4 q5 r0 r1 r2 r3 r4 r5
            refine hK _ _ ?_
            clear hK K
            refine wpAny_ready (rs := [7]) (by kernel_rfl) (by simp) ?_
            refine AllReady.cons rfl (fun K hK => ?_) ?_
            · go_simp
              refine hK _ _ ?_
              clear hK K
              refine wpAny_ready (rs := [8]) (by kernel_rfl) (by simp) ?_
              refine AllReady.cons rfl (fun K hK => ?_) ?_
              · go_simp
                refine hK _ _ ?_
                clear hK K
                refine wpAny_done (by kernel_rfl) ?_ _
                have OC0 := ownsF_keptF ho5 P1 hg4 (by decide)
                have E6 := l4_end (kd := kd) (on := on) (br := br) (cnt := cnt) HC6.out (ownsF_base OC0 (by have h1 := CS.out.b.size; simp at h1 ⊢; try omega)) hO4 hmc hm
                clear q0 r0 z0 q1 r1 z1 q2 r2 z2 q3 r3 z3 q4 r4 z4 q5 r5 z5
                generalize ((((((w4.setCell ⟨w.heap.size + 1, 0, none⟩ (.string ⟨kd.toArray⟩)).setCell ⟨w.heap.size + 1, 1, none⟩ (.bool on)).setCell ⟨w.heap.size + 1, 2, none⟩ (.bool br)).setCell ⟨w.heap.size + 1, 3, none⟩ (.slice ga cl.length gc)).setCell ⟨w.heap.size + 1, 4, none⟩ (.int .i64 cnt)).setCell ⟨w.heap.size + 1, 5, none⟩ (.slice ua l.length uc)) = WE at *
                go_wp2_with fail
                obtain ⟨BE, RE, HE⟩ := E6
                have e0 := BE.cell 0 (by simp)
                have e1 := BE.cell 1 (by simp)
                have e2 := BE.cell 2 (by simp)
                have e3 := BE.cell 3 (by simp)
                have e4 := BE.cell 4 (by simp)
                have e5 := BE.cell 5 (by simp)
                simp only [List.getElem_cons_zero, List.getElem_cons_succ] at e0 e1 e2 e3 e4 e5
                exact bodyPost_ret (v := .agg #[.string ⟨kd.toArray⟩, .bool on, .bool br, .slice ga cl.length gc, .int .i64 cnt, .slice ua l.length uc]) (by simp [results, Tryz.results47, go_sem, e0, e1, e2, e3, e4, e5]) rfl ⟨_, rfl, RE, HE⟩
              exact AllReady.nil
            exact AllReady.nil
          exact AllReady.nil
        exact AllReady.nil
      refine AllReady.cons rfl (fun K hK => ?_) ?_
      · go_simp
        refine hK _ _ ?_
        clear hK K
        refine wpAny_ready (rs := [2]) (by kernel_rfl) (by simp) ?_
        refine AllReady.cons rfl (fun K hK => ?_) ?_
        · go_simp
          refine (HCC.out _ (CS.out.alloc _).b).mono ?_
          rintro e w2 ⟨_, rfl, ⟨cv, rfl, ho5⟩, hb5⟩
          obtain ⟨ga, gc, rfl⟩ := slice_of ho5
          have HC5 := Lib.hid ((CS.out.alloc _).below hb5)
          have lp := HC5.out.p.lt
          have lr := HC5.out.r.lt
          have np : ¬ w.heap.size = w2.heap.size := by omega
          have nr : ¬ w.heap.size + 1 = w2.heap.size := by omega
          have q0 := HC5.out.p.cell 0 (by simp)
          have q1 := HC5.out.p.cell 1 (by simp)
          have q2 := HC5.out.p.cell 2 (by simp)
          have q3 := HC5.out.p.cell 3 (by simp)
          have q4 := HC5.out.p.cell 4 (by simp)
          have q5 := HC5.out.p.cell 5 (by simp)
          have r0 := HC5.out.r.cell 0 (by simp)
          have z0 := HC5.out.r.froz 0 (by simp)
          have r1 := HC5.out.r.cell 1 (by simp)
          have z1 := HC5.out.r.froz 1 (by simp)
          have r2 := HC5.out.r.cell 2 (by simp)
          have z2 := HC5.out.r.froz 2 (by simp)
          have r3 := HC5.out.r.cell 3 (by simp)
          have z3 := HC5.out.r.froz 3 (by simp)
          have r4 := HC5.out.r.cell 4 (by simp)
          have z4 := HC5.out.r.froz 4 (by simp)
          have r5 := HC5.out.r.cell 5 (by simp)
          have z5 := HC5.out.r.froz 5 (by simp)
          simp only [List.getElem_cons_zero, List.getElem_cons_succ] at q0 q1 q2 q3 q4 q5 r0 r1 r2 r3 r4 r5
          refine hK _ _ ?_
          clear hK K
          refine wpAny_ready (rs := [6]) (by kernel_rfl) (by simp) ?_
          refine AllReady.cons rfl (fun K hK => ?_) ?_
          · have P1 := ownsF_below (HO0.out _ _) hb5 (Nat.le_refl _)
            have P2 := HC5.out
            have P3 := SliceAt.below H5.out (good_flat cLayer_len) P2.b (Nat.le_refl _)
            have P4 := P2.r.lt
            refine step_laysN rfl _ _ rfl (w.heap.size + 1 + 1) _ l _ sa sc ?_ P1 ?_ P3 ⟨_, _, rfl⟩ hm P4 ?_
            · simp [Act.eval, Act.put]
            · simp [Act.eval, Act.put]
            intro v4 w4 hO4 hg4
            obtain ⟨ua, uc, rfl⟩ := slice_of hO4
            have HC6 := Lib.hid (P2.grown hg4 (fun g hg => (World.ownsRow.lt P1 g hg).1))
            have lp := HC6.out.p.lt
            have lr := HC6.out.r.lt
            have np : ¬ w.heap.size = w4.heap.size := by omega
            have nr : ¬ w.heap.size + 1 = w4.heap.size := by omega
            have q0 := HC6.out.p.cell 0 (by simp)
            have q1 := HC6.out.p.cell 1 (by simp)
            have q2 := HC6.out.p.cell 2 (by simp)
            have q3 := HC6.out.p.cell 3 (by simp)
            have q4 := HC6.out.p.cell 4 (by simp)
            have q5 := HC6.out.p.cell 5 (by simp)
            have r0 := HC6.out.r.cell 0 (by simp)
            have z0 := HC6.out.r.froz 0 (by simp)
            have r1 := HC6.out.r.cell 1 (by simp)
            have z1 := HC6.out.r.froz 1 (by simp)
            have r2 := HC6.out.r.cell 2 (by simp)
            have z2 := HC6.out.r.froz 2 (by simp)
            have r3 := HC6.out.r.cell 3 (by simp)
            have z3 := HC6.out.r.froz 3 (by simp)
            have r4 := HC6.out.r.cell 4 (by simp)
            have z4 := HC6.out.r.froz 4 (by simp)
            have r5 := HC6.out.r.cell 5 (by simp)
            have z5 := HC6.out.r.froz 5 (by simp)
            simp only [List.getElem_cons_zero, List.getElem_cons_succ] at q0 q1 q2 q3 q4 q5 r0 r1 r2 r3 r4 r5
            refine hK _ _ ?_
            clear hK K
            refine wpAny_ready (rs := [7]) (by kernel_rfl) (by simp) ?_
            refine AllReady.cons rfl (fun K hK => ?_) ?_
            · go_simp
              refine hK _ _ ?_
              clear hK K
              refine wpAny_ready (rs := [8]) (by kernel_rfl) (by simp) ?_
              refine AllReady.cons rfl (fun K hK => ?_) ?_
              · go_simp
                refine hK _ _ ?_
                clear hK K
                refine wpAny_done (by kernel_rfl) ?_ _
                have OC0 := ownsF_keptF ho5 P1 hg4 (by decide)
                have E6 := l4_end (kd := kd) (on := on) (br := br) (cnt := cnt) HC6.out (ownsF_base OC0 (by have h1 := CS.out.b.size; simp at h1 ⊢; try omega)) hO4 hmc hm
                clear q0 r0 z0 q1 r1 z1 q2 r2 z2 q3 r3 z3 q4 r4 z4 q5 r5 z5
                generalize ((((((w4.setCell ⟨w.heap.size + 1, 0, none⟩ (.string ⟨kd.toArray⟩)).setCell ⟨w.heap.size + 1, 1, none⟩ (.bool on)).setCell ⟨w.heap.size + 1, 2, none⟩ (.bool br)).setCell ⟨w.heap.size + 1, 3, none⟩ (.slice ga cl.length gc)).setCell ⟨w.heap.size + 1, 4, none⟩ (.int .i64 cnt)).setCell ⟨w.heap.size + 1, 5, none⟩ (.slice ua l.length uc)) = WE at *
                go_wp2_with fail
                obtain ⟨BE, RE, HE⟩ := E6
                have e0 := BE.cell 0 (by simp)
                have e1 := BE.cell 1 (by simp)
                have e2 := BE.cell 2 (by simp)
                have e3 := BE.cell 3 (by simp)
                have e4 := BE.cell 4 (by simp)
                have e5 := BE.cell 5 (by simp)
                simp only [List.getElem_cons_zero, List.getElem_cons_succ] at e0 e1 e2 e3 e4 e5
                exact bodyPost_ret (v := .agg #[.string ⟨kd.toArray⟩, .bool on, .bool br, .slice ga cl.length gc, .int .i64 cnt, .slice ua l.length uc]) (by simp [results, Tryz.results47, go_sem, e0, e1, e2, e3, e4, e5]) rfl ⟨_, rfl, RE, HE⟩
              exact AllReady.nil
            exact AllReady.nil
          exact AllReady.nil
        exact AllReady.nil
      exact AllReady.nil
    refine AllReady.cons rfl (fun K hK => ?_) ?_
    · go_simp
      refine hK _ _ ?_
      clear hK K
      refine wpAny_ready (rs := [2, 3]) (by kernel_rfl) (by simp) ?_
      refine AllReady.cons rfl (fun K hK => ?_) ?_
      · go_simp
        refine (HCC.out _ CS.out.b).mono ?_
        rintro e w2 ⟨_, rfl, ⟨cv, rfl, ho5⟩, hb5⟩
        obtain ⟨ga, gc, rfl⟩ := slice_of ho5
        have HC5 := Lib.hid (CS.out.below hb5)
        have lp := HC5.out.p.lt
        have lr := HC5.out.r.lt
        have np : ¬ w.heap.size = w2.heap.size := by omega
        have nr : ¬ w.heap.size + 1 = w2.heap.size := by omega
        have q0 := HC5.out.p.cell 0 (by simp)
        have q1 := HC5.out.p.cell 1 (by simp)
        have q2 := HC5.out.p.cell 2 (by simp)
        have q3 := HC5.out.p.cell 3 (by simp)
        have q4 := HC5.out.p.cell 4 (by simp)
        have q5 := HC5.out.p.cell 5 (by simp)
        have r0 := HC5.out.r.cell 0 (by simp)
        have z0 := HC5.out.r.froz 0 (by simp)
        have r1 := HC5.out.r.cell 1 (by simp)
        have z1 := HC5.out.r.froz 1 (by simp)
        have r2 := HC5.out.r.cell 2 (by simp)
        have z2 := HC5.out.r.froz 2 (by simp)
        have r3 := HC5.out.r.cell 3 (by simp)
        have z3 := HC5.out.r.froz 3 (by simp)
        have r4 := HC5.out.r.cell 4 (by simp)
        have z4 := HC5.out.r.froz 4 (by simp)
        have r5 := HC5.out.r.cell 5 (by simp)
        have z5 := HC5.out.r.froz 5 (by simp)
        simp only [List.getElem_cons_zero, List.getElem_cons_succ] at q0 q1 q2 q3 q4 q5 r0 r1 r2 r3 r4 r5
        refine hK _ _ ?_
        clear hK K
        refine wpAny_ready (rs := [3]) (by kernel_rfl) (by simp) ?_
        refine AllReady.cons rfl (fun K hK => ?_) ?_
        · go_simp
          refine hK _ _ ?_
          clear hK K
          refine wpAny_ready (rs := [6]) (by kernel_rfl) (by simp) ?_
          refine AllReady.cons rfl (fun K hK => ?_) ?_
          · have P1 := ownsF_base (B' := w.heap.size + 1 + 1) (ownsF_new cLayer 89 2 w2) HC5.out.r.lt
            have P2 := HC5.out.alloc (.cells #[] 89)
            have P3 := SliceAt.below H5.out (good_flat cLayer_len) P2.b (Nat.le_refl _)
            have P4 := P2.r.lt
            refine step_laysN rfl _ _ rfl (w.heap.size + 1 + 1) _ l _ sa sc ?_ P1 ?_ P3 ⟨_, _, rfl⟩ hm P4 ?_
            · simp [Act.eval, Act.put]
            · simp [Act.eval, Act.put]
            intro v4 w4 hO4 hg4
            obtain ⟨ua, uc, rfl⟩ := slice_of hO4
            have HC6 := Lib.hid (P2.grown hg4 (fun g hg => (World.ownsRow.lt P1 g hg).1))
            have lp := HC6.out.p.lt
            have lr := HC6.out.r.lt
            have np : ¬ w.heap.size = w4.heap.size := by omega
            have nr : ¬ w.heap.size + 1 = w4.heap.size := by omega
            have q0 := HC6.out.p.cell 0 (by simp)
            have q1 := HC6.out.p.cell 1 (by simp)
            have q2 := HC6.out.p.cell 2 (by simp)
            have q3 := HC6.out.p.cell 3 (by simp)
            have q4 := HC6.out.p.cell 4 (by simp)
            have q5 := HC6.out.p.cell 5 (by simp)
            have r0 := HC6.out.r.cell 0 (by simp)
            have z0 := HC6.out.r.froz 0 (by simp)
            have r1 := HC6.out.r.cell 1 (by simp)
            have z1 := HC6.out.r.froz 1 (by simp)
            have r2 := HC6.out.r.cell 2 (by simp)
            have z2 := HC6.out.r.froz 2 (by simp)
            have r3 := HC6.out.r.cell 3 (by simp)
            have z3 := HC6.out.r.froz 3 (by simp)
            have r4 := HC6.out.r.cell 4 (by simp)
            have z4 := HC6.out.r.froz 4 (by simp)
            have r5 := HC6.out.r.cell 5 (by simp)
            have z5 := HC6.out.r.froz 5 (by simp)
            simp only [List.getElem_cons_zero, List.getElem_cons_succ] at q0 q1 q2 q3 q4 q5 r0 r1 r2 r3 r4 r5
            refine hK _ _ ?_
            clear hK K
            refine wpAny_ready (rs := [7]) (by kernel_rfl) (by simp) ?_
            refine AllReady.cons rfl (fun K hK => ?_) ?_
            · go_simp
              refine hK _ _ ?_
              clear hK K
              refine wpAny_ready (rs := [8]) (by kernel_rfl) (by simp) ?_
              refine AllReady.cons rfl (fun K hK => ?_) ?_
              · go_simp
                refine hK _ _ ?_
                clear hK K
                refine wpAny_done (by kernel_rfl) ?_ _
                have OC0 := ownsF_keptF (ownsF_alloc ho5 _) P1 hg4 (by decide)
                have E6 := l4_end (kd := kd) (on := on) (br := br) (cnt := cnt) HC6.out (ownsF_base OC0 (by have h1 := CS.out.b.size; simp at h1 ⊢; try omega)) hO4 hmc hm
                clear q0 r0 z0 q1 r1 z1 q2 r2 z2 q3 r3 z3 q4 r4 z4 q5 r5 z5
                generalize ((((((w4.setCell ⟨w.heap.size + 1, 0, none⟩ (.string ⟨kd.toArray⟩)).setCell ⟨w.heap.size + 1, 1, none⟩ (.bool on)).setCell ⟨w.heap.size + 1, 2, none⟩ (.bool br)).setCell ⟨w.heap.size + 1, 3, none⟩ (.slice ga cl.length gc)).setCell ⟨w.heap.size + 1, 4, none⟩ (.int .i64 cnt)).setCell ⟨w.heap.size + 1, 5, none⟩ (.slice ua l.length uc)) = WE at *
                go_wp2_with fail
                obtain ⟨BE, RE, HE⟩ := E6
                have e0 := BE.cell 0 (by simp)
                have e1 := BE.cell 1 (by simp)
                have e2 := BE.cell 2 (by simp)
                have e3 := BE.cell 3 (by simp)
                have e4 := BE.cell 4 (by simp)
                have e5 := BE.cell 5 (by simp)
                simp only [List.getElem_cons_zero, List.getElem_cons_succ] at e0 e1 e2 e3 e4 e5
                exact bodyPost_ret (v := .agg #[.string ⟨kd.toArray⟩, .bool on, .bool br, .slice ga cl.length gc, .int .i64 cnt, .slice ua l.length uc]) (by simp [results, Tryz.results47, go_sem, e0, e1, e2, e3, e4, e5]) rfl ⟨_, rfl, RE, HE⟩
              exact AllReady.nil
            exact AllReady.nil
          exact AllReady.nil
        exact AllReady.nil
      refine AllReady.cons rfl (fun K hK => ?_) ?_
      · go_simp
        refine hK _ _ ?_
        clear hK K
        refine wpAny_ready (rs := [2]) (by kernel_rfl) (by simp) ?_
        refine AllReady.cons rfl (fun K hK => ?_) ?_
        · go_simp
          refine (HCC.out _ (CS.out.alloc _).b).mono ?_
          rintro e w2 ⟨_, rfl, ⟨cv, rfl, ho5⟩, hb5⟩
          obtain ⟨ga, gc, rfl⟩ := slice_of ho5
          have HC5 := Lib.hid ((CS.out.alloc _).below hb5)
          have lp := HC5.out.p.lt
          have lr := HC5.out.r.lt
          have np : ¬ w.heap.size = w2.heap.size := by omega
          have nr : ¬ w.heap.size + 1 = w2.heap.size := by omega
          have q0 := HC5.out.p.cell 0 (by simp)
          have q1 := HC5.out.p.cell 1 (by simp)
          have q2 := HC5.out.p.cell 2 (by simp)
          have q3 := HC5.out.p.cell 3 (by simp)
          have q4 := HC5.out.p.cell 4 (by simp)
          have q5 := HC5.out.p.cell 5 (by simp)
          have r0 := HC5.out.r.cell 0 (by simp)
          have z0 := HC5.out.r.froz 0 (by simp)
          have r1 := HC5.out.r.cell 1 (by simp)
          have z1 := HC5.out.r.froz 1 (by simp)
          have r2 := HC5.out.r.cell 2 (by simp)
          have z2 := HC5.out.r.froz 2 (by simp)
          have r3 := HC5.out.r.cell 3 (by simp)
          have z3 := HC5.out.r.froz 3 (by simp)
          have r4 := HC5.out.r.cell 4 (by simp)
          have z4 := HC5.out.r.froz 4 (by simp)
          have r5 := HC5.out.r.cell 5 (by simp)
          have z5 := HC5.out.r.froz 5 (by simp)
          simp only [List.getElem_cons_zero, List.getElem_cons_succ] at q0 q1 q2 q3 q4 q5 r0 r1 r2 r3 r4 r5
          refine hK _ _ ?_
          clear hK K
          refine wpAny_ready (rs := [6]) (by kernel_rfl) (by simp) ?_
          refine AllReady.cons rfl (fun K hK => ?_) ?_
          · have P1 := ownsF_below (HO0.out _ _) hb5 (Nat.le_refl _)
            have P2 := HC5.out
            have P3 := SliceAt.below H5.out (good_flat cLayer_len) P2.b (Nat.le_refl _)
            have P4 := P2.r.lt
            refine step_laysN rfl _ _ rfl (w.heap.size + 1 + 1) _ l _ sa sc ?_ P1 ?_ P3 ⟨_, _, rfl⟩ hm P4 ?_
            · simp [Act.eval, Act.put]
            · simp [Act.eval, Act.put]
            intro v4 w4 hO4 hg4
            obtain ⟨ua, uc, rfl⟩ := slice_of hO4
            have HC6 := Lib.hid (P2.grown hg4 (fun g hg => (World.ownsRow.lt P1 g hg).1))
            have lp := HC6.out.p.lt
            have lr := HC6.out.r.lt
            have np : ¬ w.heap.size = w4.heap.size := by omega
            have nr : ¬ w.heap.size + 1 = w4.heap.size := by omega
            have q0 := HC6.out.p.cell 0 (by simp)
            have q1 := HC6.out.p.cell 1 (by simp)
            have q2 := HC6.out.p.cell 2 (by simp)
            have q3 := HC6.out.p.cell 3 (by simp)
            have q4 := HC6.out.p.cell 4 (by simp)
            have q5 := HC6.out.p.cell 5 (by simp)
            have r0 := HC6.out.r.cell 0 (by simp)
            have z0 := HC6.out.r.froz 0 (by simp)
            have r1 := HC6.out.r.cell 1 (by simp)
            have z1 := HC6.out.r.froz 1 (by simp)
            have r2 := HC6.out.r.cell 2 (by simp)
            have z2 := HC6.out.r.froz 2 (by simp)
            have r3 := HC6.out.r.cell 3 (by simp)
            have z3 := HC6.out.r.froz 3 (by simp)
            have r4 := HC6.out.r.cell 4 (by simp)
            have z4 := HC6.out.r.froz 4 (by simp)
            have r5 := HC6.out.r.cell 5 (by simp)
            have z5 := HC6.out.r.froz 5 (by simp)
            simp only [List.getElem_cons_zero, List.getElem_cons_succ] at q0 q1 q2 q3 q4 q5 r0 r1 r2 r3 r4 r5
            refine hK _ _ ?_
            clear hK K
            refine wpAny_ready (rs := [7]) (by kernel_rfl) (by simp) ?_
            refine AllReady.cons rfl (fun K hK => ?_) ?_
            · go_simp
              refine hK _ _ ?_
              clear hK K
              refine wpAny_ready (rs := [8]) (by kernel_rfl) (by simp) ?_
              refine AllReady.cons rfl (fun K hK => ?_) ?_
              · go_simp
                refine hK _ _ ?_
                clear hK K
                refine wpAny_done (by kernel_rfl) ?_ _
                have OC0 := ownsF_keptF ho5 P1 hg4 (by decide)
                have E6 := l4_end (kd := kd) (on := on) (br := br) (cnt := cnt) HC6.out (ownsF_base OC0 (by have h1 := CS.out.b.size; simp at h1 ⊢; try omega)) hO4 hmc hm
                clear q0 r0 z0 q1 r1 z1 q2 r2 z2 q3 r3 z3 q4 r4 z4 q5 r5 z5
                generalize ((((((w4.setCell ⟨w.heap.size + 1, 0, none⟩ (.string ⟨kd.toArray⟩)).setCell ⟨w.heap.size + 1, 1, none⟩ (.bool on)).setCell ⟨w.heap.size + 1, 2, none⟩ (.bool br)).setCell ⟨w.heap.size + 1, 3, none⟩ (.slice ga cl.length gc)).setCell ⟨w.heap.size + 1, 4, none⟩ (.int .i64 cnt)).setCell ⟨w.heap.size + 1, 5, none⟩ (.slice ua l.length uc)) = WE at *
                go_wp2_with fail
                obtain ⟨BE, RE, HE⟩ := E6
                have e0 := BE.cell 0 (by simp)
                have e1 := BE.cell 1 (by simp)
                have e2 := BE.cell 2 (by simp)
                have e3 := BE.cell 3 (by simp)
                have e4 := BE.cell 4 (by simp)
                have e5 := BE.cell 5 (by simp)
                simp only [List.getElem_cons_zero, List.getElem_cons_succ] at e0 e1 e2 e3 e4 e5
                exact bodyPost_ret (v := .agg #[.string ⟨kd.toArray⟩, .bool on, .bool br, .slice ga cl.length gc, .int .i64 cnt, .slice ua l.length uc]) (by simp [results, Tryz.results47, go_sem, e0, e1, e2, e3, e4, e5]) rfl ⟨_, rfl, RE, HE⟩
              exact AllReady.nil
            exact AllReady.nil
          exact AllReady.nil
        exact AllReady.nil
      exact AllReady.nil
    exact AllReady.nil
  refine AllReady.cons rfl (fun K hK => ?_) ?_
  · go_simp
    refine hK _ _ ?_
    clear hK K
    refine wpAny_ready (rs := [1, 5]) (by kernel_rfl) (by simp) ?_
    refine AllReady.cons rfl (fun K hK => ?_) ?_
    · go_simp
      refine hK _ _ ?_
      clear hK K
      refine wpAny_ready (rs := [2, 5]) (by kernel_rfl) (by simp) ?_
      refine AllReady.cons rfl (fun K hK => ?_) ?_
      · go_simp
        refine (HCC.out _ (CS.out.alloc _).b).mono ?_
        rintro e w2 ⟨_, rfl, ⟨cv, rfl, ho5⟩, hb5⟩
        obtain ⟨ga, gc, rfl⟩ := slice_of ho5
        have HC5 := Lib.hid ((CS.out.alloc _).below hb5)
        have lp := HC5.out.p.lt
        have lr := HC5.out.r.lt
        have np : ¬ w.heap.size = w2.heap.size := by omega
        have nr : ¬ w.heap.size + 1 = w2.heap.size := by omega
        have q0 := HC5.out.p.cell 0 (by simp)
        have q1 := HC5.out.p.cell 1 (by simp)
        have q2 := HC5.out.p.cell 2 (by simp)
        have q3 := HC5.out.p.cell 3 (by simp)
        have q4 := HC5.out.p.cell 4 (by simp)
        have q5 := HC5.out.p.cell 5 (by simp)
        have r0 := HC5.out.r.cell 0 (by simp)
        have z0 := HC5.out.r.froz 0 (by simp)
        have r1 := HC5.out.r.cell 1 (by simp)
        have z1 := HC5.out.r.froz 1 (by simp)
        have r2 := HC5.out.r.cell 2 (by simp)
        have z2 := HC5.out.r.froz 2 (by simp)
        have r3 := HC5.out.r.cell 3 (by simp)
        have z3 := HC5.out.r.froz 3 (by simp)
        have r4 := HC5.out.r.cell 4 (by simp)
        have z4 := HC5.out.r.froz 4 (by simp)
        have r5 := HC5.out.r.cell 5 (by simp)
        have z5 := HC5.out.r.froz 5 (by simp)
        simp only [List.getElem_cons_zero, List.getElem_cons_succ] at q0 q1 q2 q3 q4 q5 r0 r1 r2 r3 r4 r5
        refine hK _ _ ?_
        clear hK K
        refine wpAny_ready (rs := [5]) (by kernel_rfl) (by simp) ?_
        refine AllReady.cons rfl (fun K hK => ?_) ?_
        · go_simp
          refine hK _ _ ?_
          clear hK K
          refine wpAny_ready (rs := [6]) (by kernel_rfl) (by simp) ?_
          refine AllReady.cons rfl (fun K hK => ?_) ?_
          · have P1 := ownsF_below (HO0.out _ _) hb5 (Nat.le_refl _)
            have P2 := HC5.out
            have P3 := SliceAt.below H5.out (good_flat cLayer_len) P2.b (Nat.le_refl _)
            have P4 := P2.r.lt
            refine step_laysN rfl _ _ rfl (w.heap.size + 1 + 1) _ l _ sa sc ?_ P1 ?_ P3 ⟨_, _, rfl⟩ hm P4 ?_
            · simp [Act.eval, Act.put]
            · simp [Act.eval, Act.put]
            intro v4 w4 hO4 hg4
            obtain ⟨ua, uc, rfl⟩ := slice_of hO4
            have HC6 := Lib.hid (P2.grown hg4 (fun g hg => (World.ownsRow.lt P1 g hg).1))
            have lp := HC6.out.p.lt
            have lr := HC6.out.r.lt
            have np : ¬ w.heap.size = w4.heap.size := by omega
            have nr : ¬ w.heap.size + 1 = w4.heap.size := by omega
            have q0 := HC6.out.p.cell 0 (by simp)
            have q1 := HC6.out.p.cell 1 (by simp)
            have q2 := HC6.out.p.cell 2 (by simp)
            have q3 := HC6.out.p.cell 3 (by simp)
            have q4 := HC6.out.p.cell 4 (by simp)
            have q5 := HC6.out.p.cell 5 (by simp)
            have r0 := HC6.out.r.cell 0 (by simp)
            have z0 := HC6.out.r.froz 0 (by simp)
            have r1 := HC6.out.r.cell 1 (by simp)
            have z1 := HC6.out.r.froz 1 (by simp)
            have r2 := HC6.out.r.cell 2 (by simp)
            have z2 := HC6.out.r.froz 2 (by simp)
            have r3 := HC6.out.r.cell 3 (by simp)
            have z3 := HC6.out.r.froz 3 (by simp)
            have r4 := HC6.out.r.cell 4 (by simp)
            have z4 := HC6.out.r.froz 4 (by simp)
            have r5 := HC6.out.r.cell 5 (by simp)
            have z5 := HC6.out.r.froz 5 (by simp)
            simp only [List.getElem_cons_zero, List.getElem_cons_succ] at q0 q1 q2 q3 q4 q5 r0 r1 r2 r3 r4 r5
            refine hK _ _ ?_
            clear hK K
            refine wpAny_ready (rs := [7]) (by kernel_rfl) (by simp) ?_
            refine AllReady.cons rfl (fun K hK => ?_) ?_
            · go_simp
              refine hK _ _ ?_
              clear hK K
              refine wpAny_ready (rs := [8]) (by kernel_rfl) (by simp) ?_
              refine AllReady.cons rfl (fun K hK => ?_) ?_
              · go_simp
                refine hK _ _ ?_
                clear hK K
                refine wpAny_done (by kernel_rfl) ?_ _
                have OC0 := ownsF_keptF ho5 P1 hg4 (by decide)
                have E6 := l4_end (kd := kd) (on := on) (br := br) (cnt := cnt) HC6.out (ownsF_base OC0 (by have h1 := CS.out.b.size; simp at h1 ⊢; try omega)) hO4 hmc hm
                clear q0 r0 z0 q1 r1 z1 q2 r2 z2 q3 r3 z3 q4 r4 z4 q5 r5 z5
                generalize ((((((w4.setCell ⟨w.heap.size + 1, 0, none⟩ (.string ⟨kd.toArray⟩)).setCell ⟨w.heap.size + 1, 1, none⟩ (.bool on)).setCell ⟨w.heap.size + 1, 2, none⟩ (.bool br)).setCell ⟨w.heap.size + 1, 3, none⟩ (.slice ga cl.length gc)).setCell ⟨w.heap.size + 1, 4, none⟩ (.int .i64 cnt)).setCell ⟨w.heap.size + 1, 5, none⟩ (.slice ua l.length uc)) = WE at *
                go_wp2_with fail
                obtain ⟨BE, RE, HE⟩ := E6
                have e0 := BE.cell 0 (by simp)
                have e1 := BE.cell 1 (by simp)
                have e2 := BE.cell 2 (by simp)
                have e3 := BE.cell 3 (by simp)
                have e4 := BE.cell 4 (by simp)
                have e5 := BE.cell 5 (by simp)
                simp only [List.getElem_cons_zero, List.getElem_cons_succ] at e0 e1 e2 e3 e4 e5
                exact bodyPost_ret (v := .agg #[.string ⟨kd.toArray⟩, .bool on, .bool br, .slice ga cl.length gc, .int .i64 cnt, .slice ua l.length uc]) (by simp [results, Tryz.results47, go_sem, e0, e1, e2, e3, e4, e5]) rfl ⟨_, rfl, RE, HE⟩
              exact AllReady.nil
            exact AllReady.nil
          exact AllReady.nil
        exact AllReady.nil
      refine AllReady.cons rfl (fun K hK => ?_) ?_
      · go_simp
        refine hK _ _ ?_
        clear hK K
        refine wpAny_ready (rs := [2]) (by kernel_rfl) (by simp) ?_
        refine AllReady.cons rfl (fun K hK => ?_) ?_
        · go_simp
          refine (HCC.out _ (CS.out.alloc _).b).mono ?_
          rintro e w2 ⟨_, rfl, ⟨cv, rfl, ho5⟩, hb5⟩
          obtain ⟨ga, gc, rfl⟩ := slice_of ho5
          have HC5 := Lib.hid ((CS.out.alloc _).below hb5)
          have lp := HC5.out.p.lt
          have lr := HC5.out.r.lt
          have np : ¬ w.heap.size = w2.heap.size := by omega
          have nr : ¬ w.heap.size + 1 = w2.heap.size := by omega
          have q0 := HC5.out.p.cell 0 (by simp)
          have q1 := HC5.out.p.cell 1 (by simp)
          have q2 := HC5.out.p.cell 2 (by simp)
          have q3 := HC5.out.p.cell 3 (by simp)
          have q4 := HC5.out.p.cell 4 (by simp)
          have q5 := HC5.out.p.cell 5 (by simp)
          have r0 := HC5.out.r.cell 0 (by simp)
          have z0 := HC5.out.r.froz 0 (by simp)
          have r1 := HC5.out.r.cell 1 (by simp)
          have z1 := HC5.out.r.froz 1 (by simp)
          have r2 := HC5.out.r.cell 2 (by simp)
          have z2 := HC5.out.r.froz 2 (by simp)
          have r3 := HC5.out.r.cell 3 (by simp)
          have z3 := HC5.out.r.froz 3 (by simp)
          have r4 := HC5.out.r.cell 4 (by simp)
          have z4 := HC5.out.r.froz 4 (by simp)
          have r5 := HC5.out.r.cell 5 (by simp)
          have z5 := HC5.out.r.froz 5 (by simp)
          simp only [List.getElem_cons_zero, List.getElem_cons_succ] at q0 q1 q2 q3 q4 q5 r0 r1 r2 r3 r4 r5
          refine hK _ _ ?_
          clear hK K
          refine wpAny_ready (rs := [6]) (by kernel_rfl) (by simp) ?_
          refine AllReady.cons rfl (fun K hK => ?_) ?_
          · have P1 := ownsF_below (HO0.out _ _) hb5 (Nat.le_refl _)
            have P2 := HC5.out
            have P3 := SliceAt.below H5.out (good_flat cLayer_len) P2.b (Nat.le_refl _)
            have P4 := P2.r.lt
            refine step_laysN rfl _ _ rfl (w.heap.size + 1 + 1) _ l _ sa sc ?_ P1 ?_ P3 ⟨_, _, rfl⟩ hm P4 ?_
            · simp [Act.eval, Act.put]
            · simp [Act.eval, Act.put]
            intro v4 w4 hO4 hg4
            obtain ⟨ua, uc, rfl⟩ := slice_of hO4
            have HC6 := Lib.hid (P2.grown hg4 (fun g hg => (World.ownsRow.lt P1 g hg).1))
            have lp := HC6.out.p.lt
            have lr := HC6.out.r.lt
            have np : ¬ w.heap.size = w4.heap.size := by omega
            have nr : ¬ w.heap.size + 1 = w4.heap.size := by omega
            have q0 := HC6.out.p.cell 0 (by simp)
            have q1 := HC6.out.p.cell 1 (by simp)
            have q2 := HC6.out.p.cell 2 (by simp)
            have q3 := HC6.out.p.cell 3 (by simp)
            have q4 := HC6.out.p.cell 4 (by simp)
            have q5 := HC6.out.p.cell 5 (by simp)
            have r0 := HC6.out.r.cell 0 (by simp)
            have z0 := HC6.out.r.froz 0 (by simp)
            have r1 := HC6.out.r.cell 1 (by simp)
            have z1 := HC6.out.r.froz 1 (by simp)
            have r2 := HC6.out.r.cell 2 (by simp)
            have z2 := HC6.out.r.froz 2 (by simp)
            have r3 := HC6.out.r.cell 3 (by simp)
            have z3 := HC6.out.r.froz 3 (by simp)
            have r4 := HC6.out.r.cell 4 (by simp)
            have z4 := HC6.out.r.froz 4 (by simp)
            have r5 := HC6.out.r.cell 5 (by simp)
            have z5 := HC6.out.r.froz 5 (by simp)
            simp only [List.getElem_cons_zero, List.getElem_cons_succ] at q0 q1 q2 q3 q4 q5 r0 r1 r2 r3 r4 r5
            refine hK _ _ ?_
            clear hK K
            refine wpAny_ready (rs := [7]) (by kernel_rfl) (by simp) ?_
            refine AllReady.cons rfl (fun K hK => ?_) ?_
            · go_simp
              refine hK _ _ ?_
              clear hK K
              refine wpAny_ready (rs := [8]) (by kernel_rfl) (by simp) ?_
              refine AllReady.cons rfl (fun K hK => ?_) ?_
              · go_simp
                refine hK _ _ ?_
                clear hK K
                refine wpAny_done (by kernel_rfl) ?_ _
                have OC0 := ownsF_keptF ho5 P1 hg4 (by decide)
                have E6 := l4_end (kd := kd) (on := on) (br := br) (cnt := cnt) HC6.out (ownsF_base OC0 (by have h1 := CS.out.b.size; simp at h1 ⊢; try omega)) hO4 hmc hm
                clear q0 r0 z0 q1 r1 z1 q2 r2 z2 q3 r3 z3 q4 r4 z4 q5 r5 z5
                generalize ((((((w4.setCell ⟨w.heap.size + 1, 0, none⟩ (.string ⟨kd.toArray⟩)).setCell ⟨w.heap.size + 1, 1, none⟩ (.bool on)).setCell ⟨w.heap.size + 1, 2, none⟩ (.bool br)).setCell ⟨w.heap.size + 1, 3, none⟩ (.slice ga cl.length gc)).setCell ⟨w.heap.size + 1, 4, none⟩ (.int .i64 cnt)).setCell ⟨w.heap.size + 1, 5, none⟩ (.slice ua l.length uc)) = WE at *
                go_wp2_with fail
                obtain ⟨BE, RE, HE⟩ := E6
                have e0 := BE.cell 0 (by simp)
                have e1 := BE.cell 1 (by simp)
                have e2 := BE.cell 2 (by simp)
                have e3 := BE.cell 3 (by simp)
                have e4 := BE.cell 4 (by simp)
                have e5 := BE.cell 5 (by simp)
                simp only [List.getElem_cons_zero, List.getElem_cons_succ] at e0 e1 e2 e3 e4 e5
                exact bodyPost_ret (v := .agg #[.string ⟨kd.toArray⟩, .bool on, .bool br, .slice ga cl.length gc, .int .i64 cnt, .slice ua l.length uc]) (by simp [results, Tryz.results47, go_sem, e0, e1, e2, e3, e4, e5]) rfl ⟨_, rfl, RE, HE⟩
              exact AllReady.nil
            exact AllReady.nil
          exact AllReady.nil
        exact AllReady.nil
      exact AllReady.nil
    refine AllReady.cons rfl (fun K hK => ?_) ?_
    · go_simp
      refine hK _ _ ?_
      clear hK K
      refine wpAny_ready (rs := [1]) (by kernel_rfl) (by simp) ?_
      refine AllReady.cons rfl (fun K hK => ?_) ?_
      · go_simp
        refine hK _ _ ?_
        clear hK K
        refine wpAny_ready (rs := [2]) (by kernel_rfl) (by simp) ?_
        refine AllReady.cons rfl (fun K hK => ?_) ?_
        · go_simp
          refine (HCC.out _ (CS.out.alloc _).b).mono ?_
          rintro e w2 ⟨_, rfl, ⟨cv, rfl, ho5⟩, hb5⟩
          obtain ⟨ga, gc, rfl⟩ := slice_of ho5
          have HC5 := Lib.hid ((CS.out.alloc _).below hb5)
          have lp := HC5.out.p.lt
          have lr := HC5.out.r.lt
          have np : ¬ w.heap.size = w2.heap.size := by omega
          have nr : ¬ w.heap.size + 1 = w2.heap.size := by omega
          have q0 := HC5.out.p.cell 0 (by simp)
          have q1 := HC5.out.p.cell 1 (by simp)
          have q2 := HC5.out.p.cell 2 (by simp)
          have q3 := HC5.out.p.cell 3 (by simp)
          have q4 := HC5.out.p.cell 4 (by simp)
          have q5 := HC5.out.p.cell 5 (by simp)
          have r0 := HC5.out.r.cell 0 (by simp)
          have z0 := HC5.out.r.froz 0 (by simp)
          have r1 := HC5.out.r.cell 1 (by simp)
          have z1 := HC5.out.r.froz 1 (by simp)
          have r2 := HC5.out.r.cell 2 (by simp)
          have z2 := HC5.out.r.froz 2 (by simp)
          have r3 := HC5.out.r.cell 3 (by simp)
          have z3 := HC5.out.r.froz 3 (by simp)
          have r4 := HC5.out.r.cell 4 (by simp)
          have z4 := HC5.out.r.froz 4 (by simp)
          have r5 := HC5.out.r.cell 5 (by simp)
          have z5 := HC5.out.r.froz 5 (by simp)
          simp only [List.getElem_cons_zero, List.getElem_cons_succ] at q0 q1 q2 q3 q4 q5 r0 r1 r2 r3 r4 r5
          refine hK _ _ ?_
          clear hK K
          refine wpAny_ready (rs := [6]) (by kernel_rfl) (by simp) ?_
          refine AllReady.cons rfl (fun K hK => ?_) ?_
          · have P1 := ownsF_below (HO0.out _ _) hb5 (Nat.le_refl _)
            have P2 := HC5.out
            have P3 := SliceAt.below H5.out (good_flat cLayer_len) P2.b (Nat.le_refl _)
            have P4 := P2.r.lt
            refine step_laysN rfl _ _ rfl (w.heap.size + 1 + 1) _ l _ sa sc ?_ P1 ?_ P3 ⟨_, _, rfl⟩ hm P4 ?_
            · simp [Act.eval, Act.put]
            · simp [Act.eval, Act.put]
            intro v4 w4 hO4 hg4
            obtain ⟨ua, uc, rfl⟩ := slice_of hO4
            have HC6 := Lib.hid (P2.grown hg4 (fun g hg => (World.ownsRow.lt P1 g hg).1))
            have lp := HC6.out.p.lt
            have lr := HC6.out.r.lt
            have np : ¬ w.heap.size = w4.heap.size := by omega
            have nr : ¬ w.heap.size + 1 = w4.heap.size := by omega
            have q0 := HC6.out.p.cell 0 (by simp)
            have q1 := HC6.out.p.cell 1 (by simp)
            have q2 := HC6.out.p.cell 2 (by simp)
            have q3 := HC6.out.p.cell 3 (by simp)
            have q4 := HC6.out.p.cell 4 (by simp)
            have q5 := HC6.out.p.cell 5 (by simp)
            have r0 := HC6.out.r.cell 0 (by simp)
            have z0 := HC6.out.r.froz 0 (by simp)
            have r1 := HC6.out.r.cell 1 (by simp)
            have z1 := HC6.out.r.froz 1 (by simp)
            have r2 := HC6.out.r.cell 2 (by simp)
            have z2 := HC6.out.r.froz 2 (by simp)
            have r3 := HC6.out.r.cell 3 (by simp)
            have z3 := HC6.out.r.froz 3 (by simp)
            have r4 := HC6.out.r.cell 4 (by simp)
            have z4 := HC6.out.r.froz 4 (by simp)
            have r5 := HC6.out.r.cell 5 (by simp)
            have z5 := HC6.out.r.froz 5 (by simp)
            simp only [List.getElem_cons_zero, List.getElem_cons_succ] at q0 q1 q2 q3 q4 q5 r0 r1 r2 r3 r4 r5
            refine hK _ _ ?_
            clear hK K
            refine wpAny_ready (rs := [7]) (by kernel_rfl) (by simp) ?_
            refine AllReady.cons rfl (fun K hK => ?_) ?_
            · go_simp
              refine hK _ _ ?_
              clear hK K
              refine wpAny_ready (rs := [8]) (by kernel_rfl) (by simp) ?_
              refine AllReady.cons rfl (fun K hK => ?_) ?_
              · go_simp
                refine hK _ _ ?_
                clear hK K
                refine wpAny_done (by kernel_rfl) ?_ _
                have OC0 := ownsF_keptF ho5 P1 hg4 (by decide)
                have E6 := l4_end (kd := kd) (on := on) (br := br) (cnt := cnt) HC6.out (ownsF_base OC0 (by have h1 := CS.out.b.size; simp at h1 ⊢; try omega)) hO4 hmc hm
                clear q0 r0 z0 q1 r1 z1 q2 r2 z2 q3 r3 z3 q4 r4 z4 q5 r5 z5
                generalize ((((((w4.setCell ⟨w.heap.size + 1, 0, none⟩ (.string ⟨kd.toArray⟩)).setCell ⟨w.heap.size + 1, 1, none⟩ (.bool on)).setCell ⟨w.heap.size + 1, 2, none⟩ (.bool br)).setCell ⟨w.heap.size + 1, 3, none⟩ (.slice ga cl.length gc)).setCell ⟨w.heap.size + 1, 4, none⟩ (.int .i64 cnt)).setCell ⟨w.heap.size + 1, 5, none⟩ (.slice ua l.length uc)) = WE at *
                go_wp2_with fail
                obtain ⟨BE, RE, HE⟩ := E6
                have e0 := BE.cell 0 (by simp)
                have e1 := BE.cell 1 (by simp)
                have e2 := BE.cell 2 (by simp)
                have e3 := BE.cell 3 (by simp)
                have e4 := BE.cell 4 (by simp)
                have e5 := BE.cell 5 (by simp)
                simp only [List.getElem_cons_zero, List.getElem_cons_succ] at e0 e1 e2 e3 e4 e5
                exact bodyPost_ret (v := .agg #[.string ⟨kd.toArray⟩, .bool on, .bool br, .slice ga cl.length gc, .int .i64 cnt, .slice ua l.length uc]) (by simp [results, Tryz.results47, go_sem, e0, e1, e2, e3, e4, e5]) rfl ⟨_, rfl, RE, HE⟩
              exact AllReady.nil
            exact AllReady.nil
          exact AllReady.nil
        exact AllReady.nil
      exact AllReady.nil
    exact AllReady.nil
  refine AllReady.cons rfl (fun K hK => ?_) ?_
  · go_simp
    refine hK _ _ ?_
    clear hK K
    refine wpAny_ready (rs := [1, 3]) (by kernel_rfl) (by simp) ?_
    refine AllReady.cons rfl (fun K hK => ?_) ?_
    · go_simp
      refine hK _ _ ?_
      clear hK K
      refine wpAny_ready (rs := [2, 3]) (by kernel_rfl) (by simp) ?_
      refine AllReady.cons rfl (fun K hK => ?_) ?_
      · go_simp
        refine (HCC.out _ CS.out.b).mono ?_
        rintro e w2 ⟨_, rfl, ⟨cv, rfl, ho5⟩, hb5⟩
        obtain ⟨ga, gc, rfl⟩ := slice_of ho5
        have HC5 := Lib.hid (CS.out.below hb5)
        have lp := HC5.out.p.lt
        have lr := HC5.out.r.lt
        have np : ¬ w.heap.size = w2.heap.size := by omega
        have nr : ¬ w.heap.size + 1 = w2.heap.size := by omega
        have q0 := HC5.out.p.cell 0 (by simp)
        have q1 := HC5.out.p.cell 1 (by simp)
        have q2 := HC5.out.p.cell 2 (by simp)
        have q3 := HC5.out.p.cell 3 (by simp)
        have q4 := HC5.out.p.cell 4 (by simp)
        have q5 := HC5.out.p.cell 5 (by simp)
        have r0 := HC5.out.r.cell 0 (by simp)
        have z0 := HC5.out.r.froz 0 (by simp)
        have r1 := HC5.out.r.cell 1 (by simp)
        have z1 := HC5.out.r.froz 1 (by simp)
        have r2 := HC5.out.r.cell 2 (by simp)
        have z2 := HC5.out.r.froz 2 (by simp)
        have r3 := HC5.out.r.cell 3 (by simp)
        have z3 := HC5.out.r.froz 3 (by simp)
        have r4 := HC5.out.r.cell 4 (by simp)
        have z4 := HC5.out.r.froz 4 (by simp)
        have r5 := HC5.out.r.cell 5 (by simp)
        have z5 := HC5.out.r.froz 5 (by simp)
        simp only [List.getElem_cons_zero, List.getElem_cons_succ] at q0 q1 q2 q3 q4 q5 r0 r1 r2 r3 r4 r5
        refine hK _ _ ?_
        clear hK K
        refine wpAny_ready (rs := [3]) (by kernel_rfl) (by simp) ?_
        refine AllReady.cons rfl (fun K hK => ?_) ?_
        · go_simp
          refine hK _ _ ?_
          clear hK K
          refine wpAny_ready (rs := [6]) (by kernel_rfl) (by simp) ?_
          refine AllReady.cons rfl (fun K hK => ?_) ?_
          · have P1 := ownsF_base (B' := w.heap.size + 1 + 1) (ownsF_new cLayer 89 2 w2) HC5.out.r.lt
            have P2 := HC5.out.alloc (.cells #[] 89)
            have P3 := SliceAt.below H5.out (good_flat cLayer_len) P2.b (Nat.le_refl _)
            have P4 := P2.r.lt
            refine step_laysN rfl _ _ rfl (w.heap.size + 1 + 1) _ l _ sa sc ?_ P1 ?_ P3 ⟨_, _, rfl⟩ hm P4 ?_
            · simp [Act.eval, Act.put]
            · simp [Act.eval, Act.put]
            intro v4 w4 hO4 hg4
            obtain ⟨ua, uc, rfl⟩ := slice_of hO4
            have HC6 := Lib.hid (P2.grown hg4 (fun g hg => (World.ownsRow.lt P1 g hg).1))
            have lp := HC6.out.p.lt
            have lr := HC6.out.r.lt
            have np : ¬ w.heap.size = w4.heap.size := by omega
            have nr : ¬ w.heap.size + 1 = w4.heap.size := by omega
            have q0 := HC6.out.p.cell 0 (by simp)
            have q1 := HC6.out.p.cell 1 (by simp)
            have q2 := HC6.out.p.cell 2 (by simp)
            have q3 := HC6.out.p.cell 3 (by simp)
            have q4 := HC6.out.p.cell 4 (by simp)
            have q5 := HC6.out.p.cell 5 (by simp)
            have r0 := HC6.out.r.cell 0 (by simp)
            have z0 := HC6.out.r.froz 0 (by simp)
            have r1 := HC6.out.r.cell 1 (by simp)
            have z1 := HC6.out.r.froz 1 (by simp)
            have r2 := HC6.out.r.cell 2 (by simp)
            have z2 := HC6.out.r.froz 2 (by simp)
            have r3 := HC6.out.r.cell 3 (by simp)
            have z3 := HC6.out.r.froz 3 (by simp)
            have r4 := HC6.out.r.cell 4 (by simp)
            have z4 := HC6.out.r.froz 4 (by simp)
            have r5 := HC6.out.r.cell 5 (by simp)
            have z5 := HC6.out.r.froz 5 (by simp)
            simp only [List.getElem_cons_zero, List.getElem_cons_succ] at q0 q1 q2 q3 q4 q5 r0 r1 r2 r3 r4 r5
            refine hK _ _ ?_
            clear hK K
            refine wpAny_ready (rs := [7]) (by kernel_rfl) (by simp) ?_
            refine AllReady.cons rfl (fun K hK => ?_) ?_
            · go_simp
              refine hK _ _ ?_
              clear hK K
              refine wpAny_ready (rs := [8]) (by kernel_rfl) (by simp) ?_
              refine AllReady.cons rfl (fun K hK => ?_) ?_
              · go_simp
                refine hK _ _ ?_
                clear hK K
                refine wpAny_done (by kernel_rfl) ?_ _
                have OC0 := ownsF_keptF (ownsF_alloc ho5 _) P1 hg4 (by decide)
                have E6 := l4_end (kd := kd) (on := on) (br := br) (cnt := cnt) HC6.out (ownsF_base OC0 (by have h1 := CS.out.b.size; simp at h1 ⊢; try omega)) hO4 hmc hm
                clear q0 r0 z0 q1 r1 z1 q2 r2 z2 q3 r3 z3 q4 r4 z4 q5 r5 z5
                generalize ((((((w4.setCell ⟨w.heap.size + 1, 0, none⟩ (.string ⟨kd.toArray⟩)).setCell ⟨w.heap.size + 1, 1, none⟩ (.bool on)).setCell ⟨w.heap.size + 1, 2, none⟩ (.bool br)).setCell ⟨w.heap.size + 1, 3, none⟩ (.slice ga cl.length gc)).setCell ⟨w.heap.size + 1, 4, none⟩ (.int .i64 cnt)).setCell ⟨w.heap.size + 1, 5, none⟩ (.slice ua l.length uc)) = WE at *
                go_wp2_with fail
                obtain ⟨BE, RE, HE⟩ := E6
                have e0 := BE.cell 0 (by simp)
                have e1 := BE.cell 1 (by simp)
                have e2 := BE.cell 2 (by simp)
                have e3 := BE.cell 3 (by simp)
                have e4 := BE.cell 4 (by simp)
                have e5 := BE.cell 5 (by simp)
                simp only [List.getElem_cons_zero, List.getElem_cons_succ] at e0 e1 e2 e3 e4 e5
                exact bodyPost_ret (v := .agg #[.string ⟨kd.toArray⟩, .bool on, .bool br, .slice ga cl.length gc, .int .i64 cnt, .slice ua l.length uc]) (by simp [results, Tryz.results47, go_sem, e0, e1, e2, e3, e4, e5]) rfl ⟨_, rfl, RE, HE⟩
              exact AllReady.nil
            exact AllReady.nil
          exact AllReady.nil
        exact AllReady.nil
      refine AllReady.cons rfl (fun K hK => ?_) ?_
      · go_simp
        refine hK _ _ ?_
        clear hK K
        refine wpAny_ready (rs := [2]) (by kernel_rfl) (by simp) ?_
        refine AllReady.cons rfl (fun K hK => ?_) ?_
        · go_simp
          refine (HCC.out _ (CS.out.alloc _).b).mono ?_
          rintro e w2 ⟨_, rfl, ⟨cv, rfl, ho5⟩, hb5⟩
          obtain ⟨ga, gc, rfl⟩ := slice_of ho5
          have HC5 := Lib.hid ((CS.out.alloc _).below hb5)
          have lp := HC5.out.p.lt
          have lr := HC5.out.r.lt
          have np : ¬ w.heap.size = w2.heap.size := by omega
          have nr : ¬ w.heap.size + 1 = w2.heap.size := by omega
          have q0 := HC5.out.p.cell 0 (by simp)
          have q1 := HC5.out.p.cell 1 (by simp)
          have q2 := HC5.out.p.cell 2 (by simp)
          have q3 := HC5.out.p.cell 3 (by simp)
          have q4 := HC5.out.p.cell 4 (by simp)
          have q5 := HC5.out.p.cell 5 (by simp)
          have r0 := HC5.out.r.cell 0 (by simp)
          have z0 := HC5.out.r.froz 0 (by simp)
          have r1 := HC5.out.r.cell 1 (by simp)
          have z1 := HC5.out.r.froz 1 (by simp)
          have r2 := HC5.out.r.cell 2 (by simp)
          have z2 := HC5.out.r.froz 2 (by simp)
          have r3 := HC5.out.r.cell 3 (by simp)
          have z3 := HC5.out.r.froz 3 (by simp)
          have r4 := HC5.out.r.cell 4 (by simp)
          have z4 := HC5.out.r.froz 4 (by simp)
          have r5 := HC5.out.r.cell 5 (by simp)
          have z5 := HC5.out.r.froz 5 (by simp)
          simp only [List.getElem_cons_zero, List.getElem_cons_succ] at q0 q1 q2 q3 q4 q5 r0 r1 r2 r3 r4 r5
          refine hK _ _ ?_
          clear hK K
          refine wpAny_ready (rs := [6]) (by kernel_rfl) (by simp) ?_
          refine AllReady.cons rfl (fun K hK => ?_) ?_
          · have P1 := ownsF_below (HO0.out _ _) hb5 (Nat.le_refl _)
            have P2 := HC5.out
            have P3 := SliceAt.below H5.out (good_flat cLayer_len) P2.b (Nat.le_refl _)
            have P4 := P2.r.lt
            refine step_laysN rfl _ _ rfl (w.heap.size + 1 + 1) _ l _ sa sc ?_ P1 ?_ P3 ⟨_, _, rfl⟩ hm P4 ?_
            · simp [Act.eval, Act.put]
            · simp [Act.eval, Act.put]
            intro v4 w4 hO4 hg4
            obtain ⟨ua, uc, rfl⟩ := slice_of hO4
            have HC6 := Lib.hid (P2.grown hg4 (fun g hg => (World.ownsRow.lt P1 g hg).1))
            have lp := HC6.out.p.lt
            have lr := HC6.out.r.lt
            have np : ¬ w.heap.size = w4.heap.size := by omega
            have nr : ¬ w.heap.size + 1 = w4.heap.size := by omega
            have q0 := HC6.out.p.cell 0 (by simp)
            have q1 := HC6.out.p.cell 1 (by simp)
            have q2 := HC6.out.p.cell 2 (by simp)
            have q3 := HC6.out.p.cell 3 (by simp)
            have q4 := HC6.out.p.cell 4 (by simp)
            have q5 := HC6.out.p.cell 5 (by simp)
            have r0 := HC6.out.r.cell 0 (by simp)
            have z0 := HC6.out.r.froz 0 (by simp)
            have r1 := HC6.out.r.cell 1 (by simp)
            have z1 := HC6.out.r.froz 1 (by simp)
            have r2 := HC6.out.r.cell 2 (by simp)
            have z2 := HC6.out.r.froz 2 (by simp)
            have r3 := HC6.out.r.cell 3 (by simp)
            have z3 := HC6.out.r.froz 3 (by simp)
            have r4 := HC6.out.r.cell 4 (by simp)
            have z4 := HC6.out.r.froz 4 (by simp)
            have r5 := HC6.out.r.cell 5 (by simp)
            have z5 := HC6.out.r.froz 5 (by simp)
            simp only [List.getElem_cons_zero, List.getElem_cons_succ] at q0 q1 q2 q3 q4 q5 r0 r1 r2 r3 r4 r5
            refine hK _ _ ?_
            clear hK K
            refine wpAny_ready (rs := [7]) (by kernel_rfl) (by simp) ?_
            refine AllReady.cons rfl (fun K hK => ?_) ?_
            · go_simp
              refine hK _ _ ?_
              clear hK K
              refine wpAny_ready (rs := [8]) (by kernel_rfl) (by simp) ?_
              refine AllReady.cons rfl (fun K hK => ?_) ?_
              · go_simp
                refine hK _ _ ?_
                clear hK K
                refine wpAny_done (by kernel_rfl) ?_ _
                have OC0 := ownsF_keptF ho5 P1 hg4 (by decide)
                have E6 := l4_end (kd := kd) (on := on) (br := br) (cnt := cnt) HC6.out (ownsF_base OC0 (by have h1 := CS.out.b.size; simp at h1 ⊢; try omega)) hO4 hmc hm
                clear q0 r0 z0 q1 r1 z1 q2 r2 z2 q3 r3 z3 q4 r4 z4 q5 r5 z5
                generalize ((((((w4.setCell ⟨w.heap.size + 1, 0, none⟩ (.string ⟨kd.toArray⟩)).setCell ⟨w.heap.size + 1, 1, none⟩ (.bool on)).setCell ⟨w.heap.size + 1, 2, none⟩ (.bool br)).setCell ⟨w.heap.size + 1, 3, none⟩ (.slice ga cl.length gc)).setCell ⟨w.heap.size + 1, 4, none⟩ (.int .i64 cnt)).setCell ⟨w.heap.size + 1, 5, none⟩ (.slice ua l.length uc)) = WE at *
                go_wp2_with fail
                obtain ⟨BE, RE, HE⟩ := E6
                have e0 := BE.cell 0 (by simp)
                have e1 := BE.cell 1 (by simp)
                have e2 := BE.cell 2 (by simp)
                have e3 := BE.cell 3 (by simp)
                have e4 := BE.cell 4 (by simp)
                have e5 := BE.cell 5 (by simp)
                simp only [List.getElem_cons_zero, List.getElem_cons_succ] at e0 e1 e2 e3 e4 e5
                exact bodyPost_ret (v := .agg #[.string ⟨kd.toArray⟩, .bool on, .bool br, .slice ga cl.length gc, .int .i64 cnt, .slice ua l.length uc]) (by simp [results, Tryz.results47, go_sem, e0, e1, e2, e3, e4, e5]) rfl ⟨_, rfl, RE, HE⟩
              exact AllReady.nil
            exact AllReady.nil
          exact AllReady.nil
        exact AllReady.nil
      exact AllReady.nil
    refine AllReady.cons rfl (fun K hK => ?_) ?_
    · go_simp
      refine hK _ _ ?_
      clear hK K
      refine wpAny_ready (rs := [1]) (by kernel_rfl) (by simp) ?_
      refine AllReady.cons rfl (fun K hK => ?_) ?_
      · go_simp
        refine hK _ _ ?_
        clear hK K
        refine wpAny_ready (rs := [2]) (by kernel_rfl) (by simp) ?_
        refine AllReady.cons rfl (fun K hK => ?_) ?_
        · go_simp
          refine (HCC.out _ (CS.out.alloc _).b).mono ?_
          rintro e w2 ⟨_, rfl, ⟨cv, rfl, ho5⟩, hb5⟩
          obtain ⟨ga, gc, rfl⟩ := slice_of ho5
          have HC5 := Lib.hid ((CS.out.alloc _).below hb5)
          have lp := HC5.out.p.lt
          have lr := HC5.out.r.lt
          have np : ¬ w.heap.size = w2.heap.size := by omega
          have nr : ¬ w.heap.size + 1 = w2.heap.size := by omega
          have q0 := HC5.out.p.cell 0 (by simp)
          have q1 := HC5.out.p.cell 1 (by simp)
          have q2 := HC5.out.p.cell 2 (by simp)
          have q3 := HC5.out.p.cell 3 (by simp)
          have q4 := HC5.out.p.cell 4 (by simp)
          have q5 := HC5.out.p.cell 5 (by simp)
          have r0 := HC5.out.r.cell 0 (by simp)
          have z0 := HC5.out.r.froz 0 (by simp)
          have r1 := HC5.out.r.cell 1 (by simp)
          have z1 := HC5.out.r.froz 1 (by simp)
          have r2 := HC5.out.r.cell 2 (by simp)
          have z2 := HC5.out.r.froz 2 (by simp)
          have r3 := HC5.out.r.cell 3 (by simp)
          have z3 := HC5.out.r.froz 3 (by simp)
          have r4 := HC5.out.r.cell 4 (by simp)
          have z4 := HC5.out.r.froz 4 (by simp)
          have r5 := HC5.out.r.cell 5 (by simp)
          have z5 := HC5.out.r.froz 5 (by simp)
          simp only [List.getElem_cons_zero, List.getElem_cons_succ] at q0 q1 q2 q3 q4 q5 r0 r1 r2 r3 r4 r5
          refine hK _ _ ?_
          clear hK K
          refine wpAny_ready (rs := [6]) (by kernel_rfl) (by simp) ?_
          refine AllReady.cons rfl (fun K hK => ?_) ?_
          · have P1 := ownsF_below (HO0.out _ _) hb5 (Nat.le_refl _)
            have P2 := HC5.out
            have P3 := SliceAt.below H5.out (good_flat cLayer_len) P2.b (Nat.le_refl _)
            have P4 := P2.r.lt
            refine step_laysN rfl _ _ rfl (w.heap.size + 1 + 1) _ l _ sa sc ?_ P1 ?_ P3 ⟨_, _, rfl⟩ hm P4 ?_
            · simp [Act.eval, Act.put]
            · simp [Act.eval, Act.put]
            intro v4 w4 hO4 hg4
            obtain ⟨ua, uc, rfl⟩ := slice_of hO4
            have HC6 := Lib.hid (P2.grown hg4 (fun g hg => (World.ownsRow.lt P1 g hg).1))
            have lp := HC6.out.p.lt
            have lr := HC6.out.r.lt
            have np : ¬ w.heap.size = w4.heap.size := by omega
            have nr : ¬ w.heap.size + 1 = w4.heap.size := by omega
            have q0 := HC6.out.p.cell 0 (by simp)
            have q1 := HC6.out.p.cell 1 (by simp)
            have q2 := HC6.out.p.cell 2 (by simp)
            have q3 := HC6.out.p.cell 3 (by simp)
            have q4 := HC6.out.p.cell 4 (by simp)
            have q5 := HC6.out.p.cell 5 (by simp)
            have r0 := HC6.out.r.cell 0 (by simp)
            have z0 := HC6.out.r.froz 0 (by simp)
            have r1 := HC6.out.r.cell 1 (by simp)
            have z1 := HC6.out.r.froz 1 (by simp)
            have r2 := HC6.out.r.cell 2 (by simp)
            have z2 := HC6.out.r.froz 2 (by simp)
            have r3 := HC6.out.r.cell 3 (by simp)
            have z3 := HC6.out.r.froz 3 (by simp)
            have r4 := HC6.out.r.cell 4 (by simp)
            have z4 := HC6.out.r.froz 4 (by simp)
            have r5 := HC6.out.r.cell 5 (by simp)
            have z5 := HC6.out.r.froz 5 (by simp)
            simp only [List.getElem_cons_zero, List.getElem_cons_succ] at q0 q1 q2 q3 q4 q5 r0 r1 r2 r3 r4 r5
            refine hK _ _ ?_
            clear hK K
            refine wpAny_ready (rs := [7]) (by kernel_rfl) (by simp) ?_
            refine AllReady.cons rfl (fun K hK => ?_) ?_
            · go_simp
              refine hK _ _ ?_
              clear hK K
              refine wpAny_ready (rs := [8]) (by kernel_rfl) (by simp) ?_
              refine AllReady.cons rfl (fun K hK => ?_) ?_
              · go_simp
                refine hK _ _ ?_
                clear hK K
                refine wpAny_done (by kernel_rfl) ?_ _
                have OC0 := ownsF_keptF ho5 P1 hg4 (by decide)
                have E6 := l4_end (kd := kd) (on := on) (br := br) (cnt := cnt) HC6.out (ownsF_base OC0 (by have h1 := CS.out.b.size; simp at h1 ⊢; try omega)) hO4 hmc hm
                clear q0 r0 z0 q1 r1 z1 q2 r2 z2 q3 r3 z3 q4 r4 z4 q5 r5 z5
                generalize ((((((w4.setCell ⟨w.heap.size + 1, 0, none⟩ (.string ⟨kd.toArray⟩)).setCell ⟨w.heap.size + 1, 1, none⟩ (.bool on)).setCell ⟨w.heap.size + 1, 2, none⟩ (.bool br)).setCell ⟨w.heap.size + 1, 3, none⟩ (.slice ga cl.length gc)).setCell ⟨w.heap.size + 1, 4, none⟩ (.int .i64 cnt)).setCell ⟨w.heap.size + 1, 5, none⟩ (.slice ua l.length uc)) = WE at *
                go_wp2_with fail
                obtain ⟨BE, RE, HE⟩ := E6
                have e0 := BE.cell 0 (by simp)
                have e1 := BE.cell 1 (by simp)
                have e2 := BE.cell 2 (by simp)
                have e3 := BE.cell 3 (by simp)
                have e4 := BE.cell 4 (by simp)
                have e5 := BE.cell 5 (by simp)
                simp only [List.getElem_cons_zero, List.getElem_cons_succ] at e0 e1 e2 e3 e4 e5
                exact bodyPost_ret (v := .agg #[.string ⟨kd.toArray⟩, .bool on, .bool br, .slice ga cl.length gc, .int .i64 cnt, .slice ua l.length uc]) (by simp [results, Tryz.results47, go_sem, e0, e1, e2, e3, e4, e5]) rfl ⟨_, rfl, RE, HE⟩
              exact AllReady.nil
            exact AllReady.nil
          exact AllReady.nil
        exact AllReady.nil
      exact AllReady.nil
    exact AllReady.nil
  exact AllReady.nil
end Go.Proofs.YtlkpinlkbikokaaGreat
namespace Go.Proofs.YtlkpinlkbikokaaGreat
open Go.RowKit
theorem l4Copy_any (v : Value) (x : PartD) (w : World) (hx : ValAt rPart 0 w v x) (hs : SmallP x) :
    Calls Tryz.prog 47 #[v] w fun e w' => GivesV rPart x w e w' :=
  (l4Copy_own v x w hx hs).mono fun e w' h => by
    obtain ⟨cs, h1, h2, h3⟩ := h
    exact ⟨cs, h1, oPart_r h2 hs, h3⟩
end Go.Proofs.YtlkpinlkbikokaaGreat
