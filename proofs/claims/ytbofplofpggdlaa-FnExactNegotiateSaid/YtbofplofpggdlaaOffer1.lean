/- Contracts of chapter 5: IsOffer, the program's. -/
import Derived.Test.YtbofplofpggdlaaOfferP
import Derived.Test.YtbofplofpggdlaaFace1
import Derived.Deep.RegionHeld3
import Derived.IntWalk
namespace Go.Proofs.Ytbofplofpggdlaa
set_option linter.unusedVariables false
set_option linter.unusedSimpArgs false
open Go.RowKit
set_option maxRecDepth 100000 in
set_option maxHeartbeats 1600000 in
theorem areVers_any (v : Value) (x : List VersionD) (w : World) (hx : FlatAt cVersion 2 w v x) :
    Calls Try.prog 74 #[v] w fun e w' => e = .returned (.bool (versB x)) ∧ Below w.heap.size w w' := by
  obtain ⟨a, c, rfl, hl⟩ := flatAt_len hx
  have HX := Lib.hid hx
  clear hx
  unfold maxLen at hl
  by_cases hlong : 4 < x.length
  · have HN := Lib.hid (versB_long x hlong)
    go_enter Try.func74, Try.ntmps74
    go_wp2
    go_ret
    exact ⟨ret_bool HN.out.symm, Below.refl _ _⟩
  · have HS4 := Lib.hid (show x.length ≤ 4 by omega)
    have hs4 : (x.length : Int) ≤ 4 := by omega
    clear hlong
    go_enter Try.func74, Try.ntmps74
    go_wp2
    go_loopw [3, 4, 10] (fun _ _ i wr => ∃ k : Nat, k ≤ x.length ∧ i = .int .i64 k ∧ okToV x k = true ∧ Below w.heap.size w wr) (fun _ _ i _ => x.length - (intOf i).toNat)
    case atStart => exact ⟨0, Nat.zero_le _, rfl, rfl, Below.refl _ _⟩
    case round =>
      obtain ⟨k, hk, rfl, ht, hbr⟩ := hrel
      have HT := Lib.hid ht
      have HB := Lib.hid hbr
      have HXr := Lib.hid (FlatAt.below HX.out hbr (Nat.le_refl _))
      clear ht hbr
      by_cases hlt : k < x.length
      · obtain ⟨b, o, rfl, hbw, hd⟩ := flatAt_cell cVersion_len HXr.out k hlt (by decide)
        have d0 := hd 0 (by decide)
        have d1 := hd 1 (by decide)
        clear hd
        have HBAD := Lib.hid (fun (h : okAtV x k = false) => versB_bad x k hlt h)
        have HGD := Lib.hid (fun (h : okAtV x k = true) => show okToV x (k + 1) = true by rw [okToV_succ, HT.out, h]; rfl)
        have HI := Lib.hid (implIsVer_any x[k])
        have h0k : (0 : Int) ≤ (k : Int) := by omega
        have hkx : (k : Int) < (x.length : Int) := by omega
        by_cases hk0 : k = 0
        · subst hk0
          rw [okAtV_zero x hlt] at HBAD HGD
          generalize x[0] = p at *
          obtain ⟨p0, p1⟩ := p
          unfold vVersion at HI
          simp only [cVersion, List.getElem?_cons_zero, List.getElem?_cons_succ, Nat.add_zero] at d0 d1 HI
          generalize verB ⟨p0, p1⟩ = vb at *
          cases vb with
          | false =>
            have HR := Lib.hid (HBAD.out rfl)
            clear HBAD HGD
            go_wp2_with fail
            refine (HI.out _).mono ?_
            rintro e w1 ⟨rfl, hb⟩
            have V1 := Lib.hid ((Var2.new wr p0 p1 27).below hb)
            have HB1 := Lib.hid (HB.out.trans ((bel_to (box1 wr _) hb).mono HB.out.size))
            clear hb
            go_wp2_with fail
            go_ret
            exact ⟨ret_bool HR.out.symm, HB1.out⟩
          | true =>
            have HR := Lib.hid (HGD.out rfl)
            clear HBAD HGD
            go_wp2_with fail
            refine (HI.out _).mono ?_
            rintro e w1 ⟨rfl, hb⟩
            have V1 := Lib.hid ((Var2.new wr p0 p1 27).below hb)
            have HB1 := Lib.hid (HB.out.trans ((bel_to (box1 wr _) hb).mono HB.out.size))
            clear hb
            go_wp2_with fail
            refine wp_region_held_drew (S := (fun w' => True)) (by kernel_rfl) ?_ (fun hHeld => ?_)
            · trivial
            refine wpAnyH_take (i := 0) (v := ?_) rfl (by kernel_rfl) (by kernel_rfl) (by kernel_rfl) (fun _ _ _ h => h) (Or.inl ⟨by rfl, ?_⟩) (by assumption) ?_
            rotate_left
            · intro w hSw; (try dsimp only at hSw); go_simp; with_reducible rfl
            try simp only [Act.put, List.getElem_toArray, List.getElem_cons_zero, List.getElem_cons_succ, List.setIfInBounds_toArray, List.set_cons_zero, List.set_cons_succ]
            refine wpAnyH_take (i := 1) (v := ?_) rfl (by kernel_rfl) (by kernel_rfl) (by kernel_rfl) (fun _ _ _ h => h) (Or.inl ⟨by rfl, ?_⟩) (by assumption) ?_
            rotate_left
            · intro w hSw; (try dsimp only at hSw); go_simp; with_reducible rfl
            try simp only [Act.put, List.getElem_toArray, List.getElem_cons_zero, List.getElem_cons_succ, List.setIfInBounds_toArray, List.set_cons_zero, List.set_cons_succ]
            refine wpAnyH_take (i := 2) (v := ?_) rfl (by kernel_rfl) (by kernel_rfl) (by kernel_rfl) (fun _ _ _ h => h) (Or.inl ⟨by rfl, ?_⟩) (by assumption) ?_
            rotate_left
            · intro w hSw; (try dsimp only at hSw); go_simp; with_reducible rfl
            try simp only [Act.put, List.getElem_toArray, List.getElem_cons_zero, List.getElem_cons_succ, List.setIfInBounds_toArray, List.set_cons_zero, List.set_cons_succ]
            refine wpAnyH_take (i := 3) (v := undef) rfl (by kernel_rfl) (by kernel_rfl) (by kernel_rfl) (fun _ _ _ h => h) (Or.inr ⟨by rfl, rfl⟩) (by assumption) ?_
            try simp only [Act.put, List.getElem_toArray, List.getElem_cons_zero, List.getElem_cons_succ, List.setIfInBounds_toArray, List.set_cons_zero, List.set_cons_succ]
            refine wpAnyH_take (i := 4) (v := undef) rfl (by kernel_rfl) (by kernel_rfl) (by kernel_rfl) (fun _ _ _ h => h) (Or.inr ⟨by rfl, rfl⟩) (by assumption) ?_
            try simp only [Act.put, List.getElem_toArray, List.getElem_cons_zero, List.getElem_cons_succ, List.setIfInBounds_toArray, List.set_cons_zero, List.set_cons_succ]
            refine wpAnyH_take (i := 5) (v := undef) rfl (by kernel_rfl) (by kernel_rfl) (by kernel_rfl) (fun _ _ _ h => h) (Or.inr ⟨by rfl, rfl⟩) (by assumption) ?_
            try simp only [Act.put, List.getElem_toArray, List.getElem_cons_zero, List.getElem_cons_succ, List.setIfInBounds_toArray, List.set_cons_zero, List.set_cons_succ]
            refine wpAnyH_take (i := 6) (v := undef) rfl (by kernel_rfl) (by kernel_rfl) (by kernel_rfl) (fun _ _ _ h => h) (Or.inr ⟨by rfl, rfl⟩) (by assumption) ?_
            try simp only [Act.put, List.getElem_toArray, List.getElem_cons_zero, List.getElem_cons_succ, List.setIfInBounds_toArray, List.set_cons_zero, List.set_cons_succ]
            refine wpAnyH_take (i := 7) (v := undef) rfl (by kernel_rfl) (by kernel_rfl) (by kernel_rfl) (fun _ _ _ h => h) (Or.inr ⟨by rfl, rfl⟩) (by assumption) ?_
            try simp only [Act.put, List.getElem_toArray, List.getElem_cons_zero, List.getElem_cons_succ, List.setIfInBounds_toArray, List.set_cons_zero, List.set_cons_succ]
            refine wpAnyH_take (i := 8) (v := undef) rfl (by kernel_rfl) (by kernel_rfl) (by kernel_rfl) (fun _ _ _ h => h) (Or.inr ⟨by rfl, rfl⟩) (by assumption) ?_
            try simp only [Act.put, List.getElem_toArray, List.getElem_cons_zero, List.getElem_cons_succ, List.setIfInBounds_toArray, List.set_cons_zero, List.set_cons_succ]
            refine wpAnyH_take (i := 9) (v := undef) rfl (by kernel_rfl) (by kernel_rfl) (by kernel_rfl) (fun _ _ _ h => h) (Or.inr ⟨by rfl, rfl⟩) (by assumption) ?_
            try simp only [Act.put, List.getElem_toArray, List.getElem_cons_zero, List.getElem_cons_succ, List.setIfInBounds_toArray, List.set_cons_zero, List.set_cons_succ]
            refine wpAnyH_take (i := 10) (v := undef) rfl (by kernel_rfl) (by kernel_rfl) (by kernel_rfl) (fun _ _ _ h => h) (Or.inr ⟨by rfl, rfl⟩) (by assumption) ?_
            try simp only [Act.put, List.getElem_toArray, List.getElem_cons_zero, List.getElem_cons_succ, List.setIfInBounds_toArray, List.set_cons_zero, List.set_cons_succ]
            refine wpAnyH_take (i := 11) (v := ?_) rfl (by kernel_rfl) (by kernel_rfl) (by kernel_rfl) (fun _ _ _ h => h) (Or.inl ⟨by rfl, ?_⟩) (by assumption) ?_
            rotate_left
            · intro w hSw; (try dsimp only at hSw); go_simp; with_reducible rfl
            try simp only [Act.put, List.getElem_toArray, List.getElem_cons_zero, List.getElem_cons_succ, List.setIfInBounds_toArray, List.set_cons_zero, List.set_cons_succ]
            refine wpAnyH_done (by kernel_rfl) ?_ _
            have HBD := Lib.hid (belDr HB1.out)
            go_wp2_with fail
            exact ⟨⟨0 + 1, by omega, by go_num, HR.out, HBD.out⟩, by simp [intOf]; omega⟩
        · obtain ⟨j, rfl⟩ : ∃ j, k = j + 1 := ⟨k - 1, by omega⟩
          rw [okAtV_succ x j hlt] at HBAD HGD
          have hjx : j < x.length := by omega
          obtain ⟨b2, o2, e2, hbw2, hd2⟩ := flatAt_cell cVersion_len HXr.out j hjx (by decide)
          injection e2 with e2
          injection e2 with e2 e3
          subst e2 e3
          have q0 := hd2 0 (by decide)
          have q1 := hd2 1 (by decide)
          clear hd2
          have HC := Lib.hid (implCmp_any x[j] x[j + 1])
          generalize x[j] = q at *
          generalize x[j + 1] = p at *
          obtain ⟨p0, p1⟩ := p
          obtain ⟨g0, g1⟩ := q
          unfold vVersion at HI HC
          simp only [cVersion, List.getElem?_cons_zero, List.getElem?_cons_succ, Nat.add_zero] at d0 d1 q0 q1 HI HC
          generalize verB ⟨p0, p1⟩ = vb at *
          generalize cmpV ⟨g0, g1⟩ ⟨p0, p1⟩ = r at *
          cases vb with
          | false =>
            have HR := Lib.hid (HBAD.out (by simp))
            clear HBAD HGD
            go_wp2_with fail
            refine (HI.out _).mono ?_
            rintro e w1 ⟨rfl, hb⟩
            have V1 := Lib.hid ((Var2.new wr p0 p1 27).below hb)
            have HB1 := Lib.hid (HB.out.trans ((bel_to (box1 wr _) hb).mono HB.out.size))
            clear hb
            go_wp2_with fail
            go_ret
            exact ⟨ret_bool HR.out.symm, HB1.out⟩
          | true =>
            go_wp2_with fail
            refine (HI.out _).mono ?_
            rintro e w1 ⟨rfl, hb⟩
            have V1 := Lib.hid ((Var2.new wr p0 p1 27).below hb)
            have HB1 := Lib.hid (HB.out.trans ((bel_to (box1 wr _) hb).mono HB.out.size))
            have k0 := (bel_to (box1 wr _) hb).cell (p := ⟨b, o + j * 2, none⟩) hbw2 |>.trans q0
            have k1 := (bel_to (box1 wr _) hb).cell (p := ⟨b, o + j * 2 + 1, none⟩) hbw2 |>.trans q1
            have hw1 := Nat.lt_of_lt_of_le hbw2 (bel_to (box1 wr _) hb).size
            obtain ⟨vl, v0, v1, _, _⟩ := V1.out
            clear hb
            go_wp2_with fail
            have hwr : IntKind.i64.wrap ((j : Int) + 1 - 1) = (j : Int) := by rw [Int.add_sub_cancel]; exact IntWalk.i64_in _ (by omega)
            have hwr2 : IntKind.i64.wrap (j : Int) = (j : Int) := IntWalk.i64_in _ (by omega)
            have hj0 : (0 : Int) ≤ (j : Int) := by omega
            have hj1 : (j : Int) < (x.length : Int) := by omega
            have hj2 : ((j : Int)).toNat = j := by omega
            by_cases hr : r < 0
            · have HR := Lib.hid (HGD.out (by rw [decide_eq_true hr]; rfl))
              have hrd : decide (0 ≤ r) = false := decide_eq_false (by omega)
              clear HBAD HGD
              go_region_held3 (fun w' => w'.cell? ⟨b, o + j * 2, none⟩ = some (.int .i64 g0) ∧ w'.cell? ⟨b, o + j * 2 + 1, none⟩ = some (.int .i64 g1) ∧ w'.cell? ⟨wr.heap.size, 0, none⟩ = some (.int .i64 p0) ∧ w'.cell? ⟨wr.heap.size, 1, none⟩ = some (.int .i64 p1))
                (first | go_keep | (rw [hb2.cell (p := ⟨b, o + j * 2, none⟩) hw1, hb2.cell (p := ⟨b, o + j * 2 + 1, none⟩) hw1, hb2.cell (p := ⟨wr.heap.size, 0, none⟩) vl, hb2.cell (p := ⟨wr.heap.size, 1, none⟩) vl]; first | assumption | exact ⟨by assumption, by assumption, by assumption, by assumption⟩))
                ((go_at_call 22; (with_reducible refine (HC.out _).mono ?_); rintro e w2 ⟨rfl, hb2⟩))
              have HB2 := Lib.hid ((belDr HB1.out).trans (hb2.mono HB1.out.size))
              rename_i hheld
              clear hb2 hheld
              go_wp2_with fail
              exact ⟨⟨j + 1 + 1, by omega, by go_num, HR.out, HB2.out⟩, by simp [intOf]; omega⟩
            · have HR := Lib.hid (HBAD.out (by rw [decide_eq_false hr]; rfl))
              have hr0 : 0 ≤ r := by omega
              clear HBAD HGD
              go_region_held3 (fun w' => w'.cell? ⟨b, o + j * 2, none⟩ = some (.int .i64 g0) ∧ w'.cell? ⟨b, o + j * 2 + 1, none⟩ = some (.int .i64 g1) ∧ w'.cell? ⟨wr.heap.size, 0, none⟩ = some (.int .i64 p0) ∧ w'.cell? ⟨wr.heap.size, 1, none⟩ = some (.int .i64 p1))
                (first | go_keep | (rw [hb2.cell (p := ⟨b, o + j * 2, none⟩) hw1, hb2.cell (p := ⟨b, o + j * 2 + 1, none⟩) hw1, hb2.cell (p := ⟨wr.heap.size, 0, none⟩) vl, hb2.cell (p := ⟨wr.heap.size, 1, none⟩) vl]; first | assumption | exact ⟨by assumption, by assumption, by assumption, by assumption⟩))
                ((go_at_call 22; (with_reducible refine (HC.out _).mono ?_); rintro e w2 ⟨rfl, hb2⟩))
              have HB2 := Lib.hid ((belDr HB1.out).trans (hb2.mono HB1.out.size))
              rename_i hheld
              clear hb2 hheld
              go_wp2_with fail
              go_ret
              exact ⟨ret_bool HR.out.symm, HB2.out⟩
      · have HN := Lib.hid (show versB x = true from by
          have hke : k = x.length := by omega
          have h := HT.out
          rw [hke] at h
          rw [versB_end x h]; exact decide_eq_true HS4.out)
        go_wp2
        go_ret
        exact ⟨ret_bool HN.out.symm, HB.out⟩
theorem areVers_b (v : Value) (x : List VersionD) (w : World) (hx : FlatAt cVersion 2 w v x) (r : Bool) (h : versB x = r) :
    Calls Try.prog 74 #[v] w fun e w' => e = .returned (.bool r) ∧ Below w.heap.size w w' := by subst h; exact areVers_any v x w hx
set_option maxHeartbeats 1600000 in
theorem implIsOffer_any (v : Value) (x : OfferD) (w : World) (hx : OfferAt w v x) :
    Calls Try.prog 61 #[v] w fun e w' => e = .returned (.bool (offerB x)) ∧ Below w.heap.size w w' := by
  obtain ⟨cv, rfl, hx⟩ := hx
  obtain ⟨a0, a1⟩ := x
  have HX := Lib.hid (fun o => FlatAt.below hx (box1 w o) (Nat.le_refl _))
  have HI := Lib.hid (implIsFace_any a1)
  have HV := Lib.hid (fun w1 h => areVers_b cv a0 w1 h _ rfl)
  unfold vOffer offerB
  simp only
  generalize isF a1 = p at *
  generalize versB a0 = q at *
  clear hx
  cases p
  · go_enter Try.func61, Try.ntmps61
    go_wp2_with (go_at_call 56; (with_reducible refine (HI.out _).mono ?_); rintro e w' ⟨rfl, rfl⟩)
    go_ret
    exact ⟨rfl, box1 w _⟩
  · go_enter Try.func61, Try.ntmps61
    go_wp2_with (go_at_call 56; (with_reducible refine (HI.out _).mono ?_); rintro e w' ⟨rfl, rfl⟩)
    refine (HV.out _ (HX.out _)).mono ?_
    rintro e w1 ⟨rfl, hb⟩
    go_wp2_with fail
    go_ret
    exact ⟨by simp, bel_to (box1 w _) hb⟩
theorem implIsOffer_b (v : Value) (x : OfferD) (r : Bool) (h : offerB x = r) (w : World) (hx : OfferAt w v x) :
    Calls Try.prog 61 #[v] w fun e w' => e = .returned (.bool r) ∧ Below w.heap.size w w' := by subst h; exact implIsOffer_any v x w hx
end Go.Proofs.Ytbofplofpggdlaa
