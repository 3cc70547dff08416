/- Contracts of chapter 5: deals of two, the program's. -/
import Derived.Test.YtaihdjdaamglnaaDealSidesFnM0
import Derived.StillTailTactics
import Derived.Deep.RegionHeld3
import Derived.IntWalk
/- Contracts of chapter 5: deals, the program's: where a version lies. -/
namespace Go.Proofs.Ytaihdjdaamglnaa
set_option linter.unusedVariables false
set_option linter.unusedSimpArgs false
open Go.RowKit
def FoundAt (r : Bool) (w : World) (e : Ending) (w' : World) : Prop := ∃ i : Int, e = .returned (.tuple #[.int .i64 i, .bool r]) ∧ Below w.heap.size w w'
set_option maxRecDepth 100000 in
set_option maxHeartbeats 1600000 in
theorem search_any (v : Value) (x : List VersionD) (t : VersionD) (w : World) (hx : FlatAt cVersion 2 w v x) (hs : versB x = true) :
    Calls Try.prog 123 #[v, vVersion t, .func (.func 26) #[] #[]] w fun e w' => FoundAt (inV x t) w e w' := by
  obtain ⟨a, c, rfl, hl⟩ := flatAt_len hx
  have HX := Lib.hid hx
  have hl4 := versB_len hs
  have HS := Lib.hid (sorted_of hs)
  obtain ⟨t0, t1⟩ := t
  unfold vVersion
  have HT := Lib.hid ((Var2.new w t0 t1 56))
  have HX1 := Lib.hid (FlatAt.below hx (box1 w (.cells #[.int .i64 t0, .int .i64 t1] 56)) (Nat.le_refl _))
  have HXB := Lib.hid (box1 w (.cells #[.int .i64 t0, .int .i64 t1] 56))
  clear hx hs hl
  go_enter Try.func123, Try.ntmps123
  go_wp2
  generalize w.alloc (.cells #[.int .i64 t0, .int .i64 t1] 56) = X at *
  go_loopw [9, 10] (fun s9 s10 wr => ∃ lo hi : Nat, s9 = .int .i64 lo ∧ s10 = .int .i64 hi ∧ lo ≤ hi ∧ hi ≤ x.length ∧ Below X.heap.size X wr ∧ ((∀ t, t < lo → cmpV (x.getD t default) ⟨t0, t1⟩ < 0) ∧ (∀ t, hi ≤ t → t < x.length → 0 ≤ cmpV (x.getD t default) ⟨t0, t1⟩))) (fun s9 s10 _ => (intOf s10).toNat - (intOf s9).toNat)
  case atStart => exact ⟨0, x.length, rfl, rfl, Nat.zero_le _, Nat.le_refl _, Below.refl _ _, fun t ht => absurd ht (Nat.not_lt_zero _), fun t h1 h2 => by omega⟩
  case round =>
    obtain ⟨lo, hi, rfl, rfl, hlh, hin, hbr, hinv⟩ := hrel
    have HB := Lib.hid hbr
    have HV := Lib.hid (HT.out.below hbr)
    have HXr := Lib.hid (FlatAt.below HX1.out hbr (Nat.le_refl _))
    have HI := Lib.hid hinv
    clear hbr hinv
    by_cases hlt : lo < hi
    · have hm : (lo + hi) / 2 < x.length := by omega
      obtain ⟨b, o, rfl, hbw, hd⟩ := flatAt_cell cVersion_len HXr.out ((lo + hi) / 2) hm (by decide)
      have HG := Lib.hid (getD_V x ((lo + hi) / 2) hm)
      have d0 := hd 0 (by decide)
      have d1 := hd 1 (by decide)
      clear hd
      have e0 := HV.out.c0
      have e1 := HV.out.c1
      have HC := Lib.hid (implCmp_any x[(lo + hi) / 2] ⟨t0, t1⟩)
      generalize hp : x[(lo + hi) / 2] = p at *
      clear hp
      obtain ⟨p0, p1⟩ := p
      simp only [cVersion, vVersion, List.getElem?_cons_zero, List.getElem?_cons_succ, Nat.add_zero] at d0 d1 HC
      have hh0 : ((lo : Int) + (hi : Int)) / 2 < (x.length : Int) := by omega
      have hh1 : 0 ≤ ((lo : Int) + (hi : Int)) / 2 := by omega
      have hh2 : (((lo : Int) + (hi : Int)) / 2).toNat = (lo + hi) / 2 := by omega
      go_wp2
      go_still_tail 6, (by kernel_rfl)
      have HB0 := Lib.hid (show Below wr.heap.size wr wr.drew from ⟨rfl, rfl, rfl, Nat.le_refl _, fun _ _ => rfl⟩)
      change wpList _ _ _ _ _ wr.drew
      generalize wr.drew = w1 at *
      go_wp2_with fail
      refine (HC.out _).mono ?_
      rintro e w2 ⟨rfl, hb0⟩
      have HB2 := Lib.hid (HB.out.trans ((bel_to HB0.out hb0).mono HB.out.size))
      clear hb0
      by_cases hc : cmpV ⟨p0, p1⟩ ⟨t0, t1⟩ < 0
      · have HN := Lib.hid (show (∀ t, t < (lo + hi) / 2 + 1 → cmpV (x.getD t default) ⟨t0, t1⟩ < 0) ∧ (∀ t, hi ≤ t → t < x.length → 0 ≤ cmpV (x.getD t default) ⟨t0, t1⟩) from ⟨fun t ht => by
          by_cases h : t = (lo + hi) / 2
          · rw [h, HG.out]; exact hc
          · have h2 := HS.out t ((lo + hi) / 2) (by omega) hm
            rw [HG.out] at h2
            exact cmpV_trans h2 hc, HI.out.2⟩)
        go_wp2_with fail
        exact ⟨⟨(lo + hi) / 2 + 1, hi, by rw [show ((lo : Int) + (hi : Int)) / 2 + 1 = (((lo + hi) / 2 + 1 : Nat) : Int) by omega], rfl, by omega, hin, HB2.out, HN.out⟩, by simp [intOf]; omega⟩
      · have HN := Lib.hid (show (∀ t, t < lo → cmpV (x.getD t default) ⟨t0, t1⟩ < 0) ∧ (∀ t, (lo + hi) / 2 ≤ t → t < x.length → 0 ≤ cmpV (x.getD t default) ⟨t0, t1⟩) from ⟨HI.out.1, fun t ht hl => Int.not_lt.1 fun h => by
          by_cases h2 : t = (lo + hi) / 2
          · rw [h2, HG.out] at h; exact hc h
          · have h3 := HS.out ((lo + hi) / 2) t (by omega) hl
            rw [HG.out] at h3
            exact hc (cmpV_trans h3 h)⟩)
        go_wp2_with fail
        exact ⟨⟨lo, (lo + hi) / 2, rfl, by rw [show ((lo : Int) + (hi : Int)) / 2 = (((lo + hi) / 2 : Nat) : Int) by omega], by omega, by omega, HB2.out, HN.out⟩, by simp [intOf]; omega⟩
    · obtain rfl : hi = lo := by omega
      have HF := Lib.hid (inV_of HS.out hin HI.out.1 fun t h1 h2 => Int.not_lt.2 (HI.out.2 t h1 h2))
      have HBw := Lib.hid (HXB.out.trans (HB.out.mono HXB.out.size))
      by_cases hn : hi < x.length
      · obtain ⟨b, o, rfl, hbw, hd⟩ := flatAt_cell cVersion_len HXr.out hi hn (by decide)
        have d0 := hd 0 (by decide)
        have d1 := hd 1 (by decide)
        clear hd
        have e0 := HV.out.c0
        have e1 := HV.out.c1
        rw [getD_V x hi hn] at HF
        have HC := Lib.hid (implCmp_any x[hi] ⟨t0, t1⟩)
        generalize hp : x[hi] = p at *
        clear hp
        obtain ⟨p0, p1⟩ := p
        simp only [cVersion, vVersion, List.getElem?_cons_zero, List.getElem?_cons_succ, Nat.add_zero] at d0 d1 HC
        have hn1 : (hi : Int) < (x.length : Int) := by omega
        have hn2 : decide ((hi : Nat) < x.length) = true := by simpa using hn
        have L0 : w.heap.size < wr.heap.size := HV.out.lt
        cases hz : decide (cmpV ⟨p0, p1⟩ ⟨t0, t1⟩ = 0) with
        | true =>
          have hz2 := of_decide_eq_true hz
          have HR := Lib.hid (show inV x ⟨t0, t1⟩ = true by rw [HF.out, hz, hn2]; rfl)
          rw [hz2] at HC
          clear hz hz2
          go_wp2
          go_region_held3 (fun w' => w'.cell? ⟨b, o + hi * 2, none⟩ = some (.int .i64 p0) ∧ w'.cell? ⟨b, o + hi * 2 + 1, none⟩ = some (.int .i64 p1) ∧ w'.cell? ⟨w.heap.size, 0, none⟩ = some (.int .i64 t0) ∧ w'.cell? ⟨w.heap.size, 1, none⟩ = some (.int .i64 t1))
            (first
              | exact ⟨(hb0.cell (p := ⟨b, o + hi * 2, none⟩) hbw).trans d0, (hb0.cell (p := ⟨b, o + hi * 2 + 1, none⟩) hbw).trans d1, (hb0.cell (p := ⟨w.heap.size, 0, none⟩) L0).trans e0, (hb0.cell (p := ⟨w.heap.size, 1, none⟩) L0).trans e1⟩
              | go_keep)
            ((go_at_call 26; (with_reducible refine (HC.out _).mono ?_); rintro e w2 ⟨rfl, hb0⟩))
          have HB2 := Lib.hid ((belDr HBw.out).trans (hb0.mono (belDr HBw.out).size))
          clear hb0
          go_wp2_with fail
          go_ret2
          exact ⟨hi, by rw [HR.out]; rfl, HB2.out⟩
        | false =>
          have hz2 : (cmpV ⟨p0, p1⟩ ⟨t0, t1⟩ == 0) = false := by simpa using hz
          have HR := Lib.hid (show inV x ⟨t0, t1⟩ = false by rw [HF.out, hz, hn2]; rfl)
          clear hz
          go_wp2
          go_region_held3 (fun w' => w'.cell? ⟨b, o + hi * 2, none⟩ = some (.int .i64 p0) ∧ w'.cell? ⟨b, o + hi * 2 + 1, none⟩ = some (.int .i64 p1) ∧ w'.cell? ⟨w.heap.size, 0, none⟩ = some (.int .i64 t0) ∧ w'.cell? ⟨w.heap.size, 1, none⟩ = some (.int .i64 t1))
            (first
              | exact ⟨(hb0.cell (p := ⟨b, o + hi * 2, none⟩) hbw).trans d0, (hb0.cell (p := ⟨b, o + hi * 2 + 1, none⟩) hbw).trans d1, (hb0.cell (p := ⟨w.heap.size, 0, none⟩) L0).trans e0, (hb0.cell (p := ⟨w.heap.size, 1, none⟩) L0).trans e1⟩
              | go_keep)
            ((go_at_call 26; (with_reducible refine (HC.out _).mono ?_); rintro e w2 ⟨rfl, hb0⟩))
          have HB2 := Lib.hid ((belDr HBw.out).trans (hb0.mono (belDr HBw.out).size))
          clear hb0
          go_wp2_with fail
          go_ret2
          exact ⟨hi, by rw [HR.out]; rfl, HB2.out⟩
      · have hn1 : ¬ (hi : Int) < (x.length : Int) := by omega
        have hn2 : decide ((hi : Nat) < x.length) = false := by simpa using hn
        have HR := Lib.hid (show inV x ⟨t0, t1⟩ = false by rw [HF.out, hn2]; rfl)
        go_wp2
        go_quiet (fail)
        go_wp2_with fail
        go_ret2
        exact ⟨hi, by rw [HR.out]; rfl, below_drewN HBw.out _⟩
end Go.Proofs.Ytaihdjdaamglnaa
/- Contracts of chapter 5: IsOffer, the program's. -/
namespace Go.Proofs.Ytaihdjdaamglnaa
set_option linter.unusedVariables false
set_option linter.unusedSimpArgs false
open Go.RowKit
set_option maxRecDepth 100000 in
set_option maxHeartbeats 1600000 in
theorem areVers_any (v : Value) (x : List VersionD) (w : World) (hx : FlatAt cVersion 2 w v x) :
    Calls Try.prog 122 #[v] w fun e w' => e = .returned (.bool (versB x)) ∧ Below w.heap.size w w' := by
  obtain ⟨a, c, rfl, hl⟩ := flatAt_len hx
  have HX := Lib.hid hx
  clear hx
  unfold maxLen at hl
  by_cases hlong : 4 < x.length
  · have HN := Lib.hid (versB_long x hlong)
    go_enter Try.func122, Try.ntmps122
    go_wp2
    go_ret
    exact ⟨ret_bool HN.out.symm, Below.refl _ _⟩
  · have HS4 := Lib.hid (show x.length ≤ 4 by omega)
    have hs4 : (x.length : Int) ≤ 4 := by omega
    clear hlong
    go_enter Try.func122, Try.ntmps122
    go_wp2
    go_loopw [3, 4, 10] (fun _ _ i wr => ∃ k : Nat, k ≤ x.length ∧ i = .int .i64 k ∧ okToV x k = true ∧ Below w.heap.size w wr) (fun _ _ i _ => x.length - (intOf i).toNat)
    case atStart => exact ⟨0, Nat.zero_le _, rfl, rfl, Below.refl _ _⟩
    case round =>
      obtain ⟨k, hk, rfl, ht, hbr⟩ := hrel
      have HT := Lib.hid ht
      have HB := Lib.hid hbr
      have HXr := Lib.hid (FlatAt.below HX.out hbr (Nat.le_refl _))
      clear ht hbr
      by_cases hlt : k < x.length
      · obtain ⟨b, o, rfl, hbw, hd⟩ := flatAt_cell cVersion_len HXr.out k hlt (by decide)
        have d0 := hd 0 (by decide)
        have d1 := hd 1 (by decide)
        clear hd
        have HBAD := Lib.hid (fun (h : okAtV x k = false) => versB_bad x k hlt h)
        have HGD := Lib.hid (fun (h : okAtV x k = true) => show okToV x (k + 1) = true by rw [okToV_succ, HT.out, h]; rfl)
        have HI := Lib.hid (implIsVer_any x[k])
        have h0k : (0 : Int) ≤ (k : Int) := by omega
        have hkx : (k : Int) < (x.length : Int) := by omega
        by_cases hk0 : k = 0
        · subst hk0
          rw [okAtV_zero x hlt] at HBAD HGD
          generalize x[0] = p at *
          obtain ⟨p0, p1⟩ := p
          unfold vVersion at HI
          simp only [cVersion, List.getElem?_cons_zero, List.getElem?_cons_succ, Nat.add_zero] at d0 d1 HI
          generalize verB ⟨p0, p1⟩ = vb at *
          cases vb with
          | false =>
            have HR := Lib.hid (HBAD.out rfl)
            clear HBAD HGD
            go_wp2_with fail
            refine (HI.out _).mono ?_
            rintro e w1 ⟨rfl, hb⟩
            have V1 := Lib.hid ((Var2.new wr p0 p1 56).below hb)
            have HB1 := Lib.hid (HB.out.trans ((bel_to (box1 wr _) hb).mono HB.out.size))
            clear hb
            go_wp2_with fail
            go_ret
            exact ⟨ret_bool HR.out.symm, HB1.out⟩
          | true =>
            have HR := Lib.hid (HGD.out rfl)
            clear HBAD HGD
            go_wp2_with fail
            refine (HI.out _).mono ?_
            rintro e w1 ⟨rfl, hb⟩
            have V1 := Lib.hid ((Var2.new wr p0 p1 56).below hb)
            have HB1 := Lib.hid (HB.out.trans ((bel_to (box1 wr _) hb).mono HB.out.size))
            clear hb
            go_wp2_with fail
            refine wp_region_held_drew (S := (fun w' => True)) (by kernel_rfl) ?_ (fun hHeld => ?_)
            · trivial
            refine wpAnyH_take (i := 0) (v := ?_) rfl (by kernel_rfl) (by kernel_rfl) (by kernel_rfl) (fun _ _ _ h => h) (Or.inl ⟨by rfl, ?_⟩) (by assumption) ?_
            rotate_left
            · intro w hSw; (try dsimp only at hSw); go_simp; with_reducible rfl
            try simp only [Act.put, List.getElem_toArray, List.getElem_cons_zero, List.getElem_cons_succ, List.setIfInBounds_toArray, List.set_cons_zero, List.set_cons_succ]
            refine wpAnyH_take (i := 1) (v := ?_) rfl (by kernel_rfl) (by kernel_rfl) (by kernel_rfl) (fun _ _ _ h => h) (Or.inl ⟨by rfl, ?_⟩) (by assumption) ?_
            rotate_left
            · intro w hSw; (try dsimp only at hSw); go_simp; with_reducible rfl
            try simp only [Act.put, List.getElem_toArray, List.getElem_cons_zero, List.getElem_cons_succ, List.setIfInBounds_toArray, List.set_cons_zero, List.set_cons_succ]
            refine wpAnyH_take (i := 2) (v := ?_) rfl (by kernel_rfl) (by kernel_rfl) (by kernel_rfl) (fun _ _ _ h => h) (Or.inl ⟨by rfl, ?_⟩) (by assumption) ?_
            rotate_left
            · intro w hSw; (try dsimp only at hSw); go_simp; with_reducible rfl
            try simp only [Act.put, List.getElem_toArray, List.getElem_cons_zero, List.getElem_cons_succ, List.setIfInBounds_toArray, List.set_cons_zero, List.set_cons_succ]
            refine wpAnyH_take (i := 3) (v := undef) rfl (by kernel_rfl) (by kernel_rfl) (by kernel_rfl) (fun _ _ _ h => h) (Or.inr ⟨by rfl, rfl⟩) (by assumption) ?_
            try simp only [Act.put, List.getElem_toArray, List.getElem_cons_zero, List.getElem_cons_succ, List.setIfInBounds_toArray, List.set_cons_zero, List.set_cons_succ]
            refine wpAnyH_take (i := 4) (v := undef) rfl (by kernel_rfl) (by kernel_rfl) (by kernel_rfl) (fun _ _ _ h => h) (Or.inr ⟨by rfl, rfl⟩) (by assumption) ?_
            try simp only [Act.put, List.getElem_toArray, List.getElem_cons_zero, List.getElem_cons_succ, List.setIfInBounds_toArray, List.set_cons_zero, List.set_cons_succ]
            refine wpAnyH_take (i := 5) (v := undef) rfl (by kernel_rfl) (by kernel_rfl) (by kernel_rfl) (fun _ _ _ h => h) (Or.inr ⟨by rfl, rfl⟩) (by assumption) ?_
            try simp only [Act.put, List.getElem_toArray, List.getElem_cons_zero, List.getElem_cons_succ, List.setIfInBounds_toArray, List.set_cons_zero, List.set_cons_succ]
            refine wpAnyH_take (i := 6) (v := undef) rfl (by kernel_rfl) (by kernel_rfl) (by kernel_rfl) (fun _ _ _ h => h) (Or.inr ⟨by rfl, rfl⟩) (by assumption) ?_
            try simp only [Act.put, List.getElem_toArray, List.getElem_cons_zero, List.getElem_cons_succ, List.setIfInBounds_toArray, List.set_cons_zero, List.set_cons_succ]
            refine wpAnyH_take (i := 7) (v := undef) rfl (by kernel_rfl) (by kernel_rfl) (by kernel_rfl) (fun _ _ _ h => h) (Or.inr ⟨by rfl, rfl⟩) (by assumption) ?_
            try simp only [Act.put, List.getElem_toArray, List.getElem_cons_zero, List.getElem_cons_succ, List.setIfInBounds_toArray, List.set_cons_zero, List.set_cons_succ]
            refine wpAnyH_take (i := 8) (v := undef) rfl (by kernel_rfl) (by kernel_rfl) (by kernel_rfl) (fun _ _ _ h => h) (Or.inr ⟨by rfl, rfl⟩) (by assumption) ?_
            try simp only [Act.put, List.getElem_toArray, List.getElem_cons_zero, List.getElem_cons_succ, List.setIfInBounds_toArray, List.set_cons_zero, List.set_cons_succ]
            refine wpAnyH_take (i := 9) (v := undef) rfl (by kernel_rfl) (by kernel_rfl) (by kernel_rfl) (fun _ _ _ h => h) (Or.inr ⟨by rfl, rfl⟩) (by assumption) ?_
            try simp only [Act.put, List.getElem_toArray, List.getElem_cons_zero, List.getElem_cons_succ, List.setIfInBounds_toArray, List.set_cons_zero, List.set_cons_succ]
            refine wpAnyH_take (i := 10) (v := undef) rfl (by kernel_rfl) (by kernel_rfl) (by kernel_rfl) (fun _ _ _ h => h) (Or.inr ⟨by rfl, rfl⟩) (by assumption) ?_
            try simp only [Act.put, List.getElem_toArray, List.getElem_cons_zero, List.getElem_cons_succ, List.setIfInBounds_toArray, List.set_cons_zero, List.set_cons_succ]
            refine wpAnyH_take (i := 11) (v := ?_) rfl (by kernel_rfl) (by kernel_rfl) (by kernel_rfl) (fun _ _ _ h => h) (Or.inl ⟨by rfl, ?_⟩) (by assumption) ?_
            rotate_left
            · intro w hSw; (try dsimp only at hSw); go_simp; with_reducible rfl
            try simp only [Act.put, List.getElem_toArray, List.getElem_cons_zero, List.getElem_cons_succ, List.setIfInBounds_toArray, List.set_cons_zero, List.set_cons_succ]
            refine wpAnyH_done (by kernel_rfl) ?_ _
            have HBD := Lib.hid (belDr HB1.out)
            go_wp2_with fail
            exact ⟨⟨0 + 1, by omega, by go_num, HR.out, HBD.out⟩, by simp [intOf]; omega⟩
        · obtain ⟨j, rfl⟩ : ∃ j, k = j + 1 := ⟨k - 1, by omega⟩
          rw [okAtV_succ x j hlt] at HBAD HGD
          have hjx : j < x.length := by omega
          obtain ⟨b2, o2, e2, hbw2, hd2⟩ := flatAt_cell cVersion_len HXr.out j hjx (by decide)
          injection e2 with e2
          injection e2 with e2 e3
          subst e2 e3
          have q0 := hd2 0 (by decide)
          have q1 := hd2 1 (by decide)
          clear hd2
          have HC := Lib.hid (implCmp_any x[j] x[j + 1])
          generalize x[j] = q at *
          generalize x[j + 1] = p at *
          obtain ⟨p0, p1⟩ := p
          obtain ⟨g0, g1⟩ := q
          unfold vVersion at HI HC
          simp only [cVersion, List.getElem?_cons_zero, List.getElem?_cons_succ, Nat.add_zero] at d0 d1 q0 q1 HI HC
          generalize verB ⟨p0, p1⟩ = vb at *
          generalize cmpV ⟨g0, g1⟩ ⟨p0, p1⟩ = r at *
          cases vb with
          | false =>
            have HR := Lib.hid (HBAD.out (by simp))
            clear HBAD HGD
            go_wp2_with fail
            refine (HI.out _).mono ?_
            rintro e w1 ⟨rfl, hb⟩
            have V1 := Lib.hid ((Var2.new wr p0 p1 56).below hb)
            have HB1 := Lib.hid (HB.out.trans ((bel_to (box1 wr _) hb).mono HB.out.size))
            clear hb
            go_wp2_with fail
            go_ret
            exact ⟨ret_bool HR.out.symm, HB1.out⟩
          | true =>
            go_wp2_with fail
            refine (HI.out _).mono ?_
            rintro e w1 ⟨rfl, hb⟩
            have V1 := Lib.hid ((Var2.new wr p0 p1 56).below hb)
            have HB1 := Lib.hid (HB.out.trans ((bel_to (box1 wr _) hb).mono HB.out.size))
            have k0 := (bel_to (box1 wr _) hb).cell (p := ⟨b, o + j * 2, none⟩) hbw2 |>.trans q0
            have k1 := (bel_to (box1 wr _) hb).cell (p := ⟨b, o + j * 2 + 1, none⟩) hbw2 |>.trans q1
            have hw1 := Nat.lt_of_lt_of_le hbw2 (bel_to (box1 wr _) hb).size
            obtain ⟨vl, v0, v1, _, _⟩ := V1.out
            clear hb
            go_wp2_with fail
            have hwr : IntKind.i64.wrap ((j : Int) + 1 - 1) = (j : Int) := by rw [Int.add_sub_cancel]; exact IntWalk.i64_in _ (by omega)
            have hwr2 : IntKind.i64.wrap (j : Int) = (j : Int) := IntWalk.i64_in _ (by omega)
            have hj0 : (0 : Int) ≤ (j : Int) := by omega
            have hj1 : (j : Int) < (x.length : Int) := by omega
            have hj2 : ((j : Int)).toNat = j := by omega
            by_cases hr : r < 0
            · have HR := Lib.hid (HGD.out (by rw [decide_eq_true hr]; rfl))
              have hrd : decide (0 ≤ r) = false := decide_eq_false (by omega)
              clear HBAD HGD
              go_region_held3 (fun w' => w'.cell? ⟨b, o + j * 2, none⟩ = some (.int .i64 g0) ∧ w'.cell? ⟨b, o + j * 2 + 1, none⟩ = some (.int .i64 g1) ∧ w'.cell? ⟨wr.heap.size, 0, none⟩ = some (.int .i64 p0) ∧ w'.cell? ⟨wr.heap.size, 1, none⟩ = some (.int .i64 p1))
                (first | go_keep | (rw [hb2.cell (p := ⟨b, o + j * 2, none⟩) hw1, hb2.cell (p := ⟨b, o + j * 2 + 1, none⟩) hw1, hb2.cell (p := ⟨wr.heap.size, 0, none⟩) vl, hb2.cell (p := ⟨wr.heap.size, 1, none⟩) vl]; first | assumption | exact ⟨by assumption, by assumption, by assumption, by assumption⟩))
                ((go_at_call 26; (with_reducible refine (HC.out _).mono ?_); rintro e w2 ⟨rfl, hb2⟩))
              have HB2 := Lib.hid ((belDr HB1.out).trans (hb2.mono HB1.out.size))
              rename_i hheld
              clear hb2 hheld
              go_wp2_with fail
              exact ⟨⟨j + 1 + 1, by omega, by go_num, HR.out, HB2.out⟩, by simp [intOf]; omega⟩
            · have HR := Lib.hid (HBAD.out (by rw [decide_eq_false hr]; rfl))
              have hr0 : 0 ≤ r := by omega
              clear HBAD HGD
              go_region_held3 (fun w' => w'.cell? ⟨b, o + j * 2, none⟩ = some (.int .i64 g0) ∧ w'.cell? ⟨b, o + j * 2 + 1, none⟩ = some (.int .i64 g1) ∧ w'.cell? ⟨wr.heap.size, 0, none⟩ = some (.int .i64 p0) ∧ w'.cell? ⟨wr.heap.size, 1, none⟩ = some (.int .i64 p1))
                (first | go_keep | (rw [hb2.cell (p := ⟨b, o + j * 2, none⟩) hw1, hb2.cell (p := ⟨b, o + j * 2 + 1, none⟩) hw1, hb2.cell (p := ⟨wr.heap.size, 0, none⟩) vl, hb2.cell (p := ⟨wr.heap.size, 1, none⟩) vl]; first | assumption | exact ⟨by assumption, by assumption, by assumption, by assumption⟩))
                ((go_at_call 26; (with_reducible refine (HC.out _).mono ?_); rintro e w2 ⟨rfl, hb2⟩))
              have HB2 := Lib.hid ((belDr HB1.out).trans (hb2.mono HB1.out.size))
              rename_i hheld
              clear hb2 hheld
              go_wp2_with fail
              go_ret
              exact ⟨ret_bool HR.out.symm, HB2.out⟩
      · have HN := Lib.hid (show versB x = true from by
          have hke : k = x.length := by omega
          have h := HT.out
          rw [hke] at h
          rw [versB_end x h]; exact decide_eq_true HS4.out)
        go_wp2
        go_ret
        exact ⟨ret_bool HN.out.symm, HB.out⟩
theorem areVers_b (v : Value) (x : List VersionD) (w : World) (hx : FlatAt cVersion 2 w v x) (r : Bool) (h : versB x = r) :
    Calls Try.prog 122 #[v] w fun e w' => e = .returned (.bool r) ∧ Below w.heap.size w w' := by subst h; exact areVers_any v x w hx
set_option maxHeartbeats 1600000 in
theorem implIsOffer_any (v : Value) (x : OfferD) (w : World) (hx : OfferAt w v x) :
    Calls Try.prog 109 #[v] w fun e w' => e = .returned (.bool (offerB x)) ∧ Below w.heap.size w w' := by
  obtain ⟨cv, rfl, hx⟩ := hx
  obtain ⟨a0, a1⟩ := x
  have HX := Lib.hid (fun o => FlatAt.below hx (box1 w o) (Nat.le_refl _))
  have HI := Lib.hid (implIsFace_any a1)
  have HV := Lib.hid (fun w1 h => areVers_b cv a0 w1 h _ rfl)
  unfold vOffer offerB
  simp only
  generalize isF a1 = p at *
  generalize versB a0 = q at *
  clear hx
  cases p
  · go_enter Try.func109, Try.ntmps109
    go_wp2_with (go_at_call 94; (with_reducible refine (HI.out _).mono ?_); rintro e w' ⟨rfl, rfl⟩)
    go_ret
    exact ⟨rfl, box1 w _⟩
  · go_enter Try.func109, Try.ntmps109
    go_wp2_with (go_at_call 94; (with_reducible refine (HI.out _).mono ?_); rintro e w' ⟨rfl, rfl⟩)
    refine (HV.out _ (HX.out _)).mono ?_
    rintro e w1 ⟨rfl, hb⟩
    go_wp2_with fail
    go_ret
    exact ⟨by simp, bel_to (box1 w _) hb⟩
theorem implIsOffer_b (v : Value) (x : OfferD) (r : Bool) (h : offerB x = r) (w : World) (hx : OfferAt w v x) :
    Calls Try.prog 109 #[v] w fun e w' => e = .returned (.bool r) ∧ Below w.heap.size w w' := by subst h; exact implIsOffer_any v x w hx
end Go.Proofs.Ytaihdjdaamglnaa
/- Contracts of chapter 5: AllowedFace, GainsOf, the program's and the model's. -/
namespace Go.Proofs.Ytaihdjdaamglnaa
set_option linter.unusedVariables false
open Go.RowKit
theorem pastC {X w1 : World} {b o : Nat} {v : Value} (hb : Below X.heap.size X w1) (hlt : b < X.heap.size) (h : X.cell? ⟨b, o, none⟩ = some v) : w1.cell? ⟨b, o, none⟩ = some v := (hb.cell (p := ⟨b, o, none⟩) hlt).trans h
theorem allocC {X : World} {b o : Nat} {v : Value} (hlt : b < X.heap.size) (h : X.cell? ⟨b, o, none⟩ = some v) (ob : Obj) : (X.alloc ob).cell? ⟨b, o, none⟩ = some v := (World.cell?_alloc_past ob b o hlt).trans h
theorem allowF_no {v : VersionD} (h : verB v = false) : allowF v = 0 := if_neg (by simp [h])
theorem allowF_yes {v : VersionD} (h : verB v = true) : allowF v = madeK (allowP v) 6 := if_pos h
theorem allowF_face (v : VersionD) : isF (allowF v) = true := by
  cases h : verB v with
  | false => rw [allowF_no h]; rfl
  | true => rw [allowF_yes h]; have := madeK_6 (allowP v); exact decide_eq_true this
set_option maxHeartbeats 1600000 in
theorem implAllow_any (v : VersionD) (w : World) :
    Calls Try.prog 28 #[vVersion v] w fun e w' => e = .returned (.int .i64 (allowF v)) ∧ Below w.heap.size w w' := by
  cases hv : verB v with
  | false =>
    have HI := Lib.hid (implIsVer_b v false hv)
    rw [allowF_no hv]
    obtain ⟨a, b⟩ := v
    unfold vVersion at *
    clear hv
    simp only at *
    go_enter Try.func28, Try.ntmps28
    go_wp2_with fail
    refine (HI.out _).mono ?_
    rintro e w1 ⟨rfl, hb⟩
    go_wp2_with fail
    go_ret
    exact ⟨rfl, bel_to (box1 _ _) hb⟩
  | true =>
    have HI := Lib.hid (implIsVer_b v true hv)
    have HF := Lib.hid (allowF_yes hv)
    have HC := Lib.hid (fun k => implCmp_any (sinceN k) v)
    have HP := Lib.hid (fun k => show allowP v k = decide (cmpV (sinceN k) v ≤ 0) from rfl)
    generalize allowF v = res at *
    generalize allowP v = p at *
    obtain ⟨a, b⟩ := v
    unfold vVersion at *
    clear hv
    simp only at *
    go_enter Try.func28, Try.ntmps28
    go_wp2_with fail
    refine (HI.out _).mono ?_
    rintro e w1 ⟨rfl, hb⟩
    have HX := Lib.hid (box1 w (.cells #[.int .i64 a, .int .i64 b] 56))
    have c0 := Lib.hid (show (w.alloc (.cells #[.int .i64 a, .int .i64 b] 56)).cell? ⟨w.heap.size, 0, none⟩ = some (.int .i64 a) by simp)
    have c1 := Lib.hid (show (w.alloc (.cells #[.int .i64 a, .int .i64 b] 56)).cell? ⟨w.heap.size, 1, none⟩ = some (.int .i64 b) by simp)
    have HL := Lib.hid (show w.heap.size < (w.alloc (.cells #[.int .i64 a, .int .i64 b] 56)).heap.size by simp)
    have HB := Lib.hid hb
    generalize w.alloc (.cells #[.int .i64 a, .int .i64 b] 56) = X at *
    clear hb HI
    go_wp2_with fail
    go_loopw [3, 4, 5, 6, 10] (fun f _ _ _ i wr => ∃ k : Nat, k ≤ 6 ∧ i = .int .i64 k ∧ f = .int .i64 (madeK p k) ∧ Below X.heap.size X wr) (fun _ _ _ _ i _ => 6 - (intOf i).toNat)
    case atStart => exact ⟨0, Nat.zero_le _, rfl, rfl, HB.out⟩
    case round =>
      obtain ⟨k, hk, rfl, rfl, hb⟩ := hrel
      have HBr := Lib.hid hb
      have d0 := pastC hb HL.out c0.out
      have d1 := pastC hb HL.out c1.out
      have hs := hb.size
      have HLr := Lib.hid (show w.heap.size < wr.heap.size by have := HL.out; omega)
      clear hb hs
      by_cases hlt : k < 6
      · have hm := madeK_step p k hlt
        have HS := Lib.hid (show madeK p (k + 1) = madeK p k + if p k = true then 2 ^ k else 0 from rfl)
        generalize madeK p k = z at *
        have HPW := Lib.hid (sum_pow z k hlt hm.1 hm.2)
        have HSI := Lib.hid (implSince_nat k hlt)
        have HCM := Lib.hid (HC.out k)
        have HPK := HP.out k
        generalize sinceN k = s at *
        obtain ⟨s0, s1⟩ := s
        unfold vVersion at HSI
        simp only at HSI HCM
        generalize cmpV ⟨s0, s1⟩ ⟨a, b⟩ = r at *
        have h6 : (k : Int) < 6 := by omega
        go_wp2_with fail
        refine (HSI.out _).mono ?_
        rintro e w2 ⟨rfl, hb⟩
        have hs2 := hb.size
        have e0 := allocC (by have := HLr.out; omega) (pastC hb HLr.out d0) (.cells #[.int .i64 s0, .int .i64 s1] 56)
        have e1 := allocC (by have := HLr.out; omega) (pastC hb HLr.out d1) (.cells #[.int .i64 s0, .int .i64 s1] 56)
        have HB2 := Lib.hid (HBr.out.trans (hb.mono HBr.out.size))
        have HL2 := Lib.hid (show w.heap.size < w2.heap.size by have := HLr.out; omega)
        clear hb hs2 d0 d1
        go_wp2_with fail
        refine (HCM.out _).mono ?_
        rintro e w3 ⟨rfl, hb⟩
        have HB3 := Lib.hid (HB2.out.trans ((bel_to (box1 _ _) hb).mono HB2.out.size))
        clear hb e0 e1
        by_cases hr : r ≤ 0
        · rw [decide_eq_true hr] at HPK
          rw [HPK, if_pos rfl] at HS
          clear HPK
          go_wp2_with fail
          exact ⟨⟨k + 1, by omega, by go_num, by rw [HS.out]; exact congrArg (Value.int .i64) HPW.out, HB3.out⟩, by simp [intOf]; omega⟩
        · rw [decide_eq_false hr] at HPK
          rw [HPK, if_neg (by simp), Int.add_zero] at HS
          clear HPK
          go_wp2_with fail
          exact ⟨⟨k + 1, by omega, by go_num, by rw [HS.out], HB3.out⟩, by simp [intOf]; omega⟩
      · have h6 : ¬ (k : Int) < 6 := by omega
        have HK := Lib.hid (show k = 6 by omega)
        go_wp2_with fail
        go_ret
        exact ⟨ret_int (by rw [HF.out, HK.out]), HX.out.trans (HBr.out.mono HX.out.size)⟩
set_option maxHeartbeats 1600000 in
theorem specAllow_any (v : VersionD) (w : World) :
    Calls Try.prog 66 #[vVersion v] w fun e w' => e = .returned (.int .i64 (allowF v)) ∧ Below w.heap.size w w' := by
  cases hv : verB v with
  | false =>
    have HI := Lib.hid (specIsVer_b v false hv)
    rw [allowF_no hv]
    obtain ⟨a, b⟩ := v
    unfold vVersion at *
    clear hv
    simp only at *
    go_enter Try.func66, Try.ntmps66
    go_wp2_with fail
    have HX := Lib.hid (box1 w (.cells #[.int .i64 a, .int .i64 b] 56))
    have c0 := Lib.hid (show (w.alloc (.cells #[.int .i64 a, .int .i64 b] 56)).cell? ⟨w.heap.size, 0, none⟩ = some (.int .i64 a) by simp)
    have c1 := Lib.hid (show (w.alloc (.cells #[.int .i64 a, .int .i64 b] 56)).cell? ⟨w.heap.size, 1, none⟩ = some (.int .i64 b) by simp)
    have HL := Lib.hid (show w.heap.size < (w.alloc (.cells #[.int .i64 a, .int .i64 b] 56)).heap.size by simp)
    generalize w.alloc (.cells #[.int .i64 a, .int .i64 b] 56) = X at *
    go_loopw [3, 4, 5, 6] (fun f i _ _ wr => i = .int .i64 0 ∧ f = .int .i64 0 ∧ wr = X) (fun _ _ _ _ _ => 0)
    case atStart => exact ⟨rfl, rfl, rfl⟩
    case round =>
      obtain ⟨rfl, rfl, rfl⟩ := hrel
      have d0 := c0.out
      have d1 := c1.out
      go_wp2_with fail
      refine (HI.out _).mono ?_
      rintro e w1 ⟨rfl, hb⟩
      go_wp2_with fail
      go_ret
      exact ⟨rfl, HX.out.trans (hb.mono HX.out.size)⟩
  | true =>
    have HI := Lib.hid (specIsVer_b v true hv)
    have HF := Lib.hid (allowF_yes hv)
    have HC := Lib.hid (fun k => specCmp_any (sinceN k) v)
    have HP := Lib.hid (fun k => show allowP v k = decide (cmpV (sinceN k) v ≤ 0) from rfl)
    generalize allowF v = res at *
    generalize allowP v = p at *
    obtain ⟨a, b⟩ := v
    unfold vVersion at *
    clear hv
    simp only at *
    go_enter Try.func66, Try.ntmps66
    go_wp2_with fail
    have HX := Lib.hid (box1 w (.cells #[.int .i64 a, .int .i64 b] 56))
    have c0 := Lib.hid (show (w.alloc (.cells #[.int .i64 a, .int .i64 b] 56)).cell? ⟨w.heap.size, 0, none⟩ = some (.int .i64 a) by simp)
    have c1 := Lib.hid (show (w.alloc (.cells #[.int .i64 a, .int .i64 b] 56)).cell? ⟨w.heap.size, 1, none⟩ = some (.int .i64 b) by simp)
    have HL := Lib.hid (show w.heap.size < (w.alloc (.cells #[.int .i64 a, .int .i64 b] 56)).heap.size by simp)
    generalize w.alloc (.cells #[.int .i64 a, .int .i64 b] 56) = X at *
    go_loopw [3, 4, 5, 6] (fun f i _ _ wr => ∃ k : Nat, k ≤ 6 ∧ i = .int .i64 k ∧ f = .int .i64 (madeK p k) ∧ Below X.heap.size X wr) (fun _ i _ _ _ => 6 - (intOf i).toNat)
    case atStart => exact ⟨0, Nat.zero_le _, rfl, rfl, Below.refl _ _⟩
    case round =>
      obtain ⟨k, hk, rfl, rfl, hb⟩ := hrel
      have HBr := Lib.hid hb
      have d0 := pastC hb HL.out c0.out
      have d1 := pastC hb HL.out c1.out
      have hs := hb.size
      have HLr := Lib.hid (show w.heap.size < wr.heap.size by have := HL.out; omega)
      clear hb hs
      by_cases hlt : k < 6
      · have hm := madeK_step p k hlt
        have HS := Lib.hid (show madeK p (k + 1) = madeK p k + if p k = true then 2 ^ k else 0 from rfl)
        generalize madeK p k = z at *
        have HPW := Lib.hid (sum_pow z k hlt hm.1 hm.2)
        have HSI := Lib.hid (specSince_nat k hlt)
        have HCM := Lib.hid (HC.out k)
        have HPK := HP.out k
        generalize sinceN k = s at *
        obtain ⟨s0, s1⟩ := s
        unfold vVersion at HSI
        simp only at HSI HCM
        generalize cmpV ⟨s0, s1⟩ ⟨a, b⟩ = r at *
        have h6 : (k : Int) < 6 := by omega
        go_wp2_with fail
        refine (HI.out _).mono ?_
        rintro e w1 ⟨rfl, hb⟩
        have HB1 := Lib.hid (HBr.out.trans (hb.mono HBr.out.size))
        have hs1 := hb.size
        have q0 := pastC hb HLr.out d0
        have q1 := pastC hb HLr.out d1
        have HL1 := Lib.hid (show w.heap.size < w1.heap.size by have := HLr.out; omega)
        clear hb hs1 d0 d1
        go_wp2_with fail
        refine (HSI.out _).mono ?_
        rintro e w2 ⟨rfl, hb⟩
        have hs2 := hb.size
        have e0 := allocC (by have := HL1.out; omega) (pastC hb HL1.out q0) (.cells #[.int .i64 s0, .int .i64 s1] 56)
        have e1 := allocC (by have := HL1.out; omega) (pastC hb HL1.out q1) (.cells #[.int .i64 s0, .int .i64 s1] 56)
        have HB2 := Lib.hid (HB1.out.trans (hb.mono HB1.out.size))
        clear hb hs2 q0 q1
        go_wp2_with fail
        refine (HCM.out _).mono ?_
        rintro e w3 ⟨rfl, hb⟩
        have HB3 := Lib.hid (HB2.out.trans ((bel_to (box1 _ _) hb).mono HB2.out.size))
        clear hb e0 e1
        by_cases hr : r ≤ 0
        · rw [decide_eq_true hr] at HPK
          rw [HPK, if_pos rfl] at HS
          clear HPK
          go_wp2_with fail
          exact ⟨⟨k + 1, by omega, by go_num, by rw [HS.out]; exact congrArg (Value.int .i64) HPW.out, HB3.out⟩, by simp [intOf]; omega⟩
        · rw [decide_eq_false hr] at HPK
          rw [HPK, if_neg (by simp), Int.add_zero] at HS
          clear HPK
          go_wp2_with fail
          exact ⟨⟨k + 1, by omega, by go_num, by rw [HS.out], HB3.out⟩, by simp [intOf]; omega⟩
      · have h6 : ¬ (k : Int) < 6 := by omega
        have HK := Lib.hid (show k = 6 by omega)
        go_wp2_with fail
        go_ret
        exact ⟨ret_int (by rw [HF.out, HK.out]), HX.out.trans (HBr.out.mono HX.out.size)⟩
def gainsF (x y : VersionD) : Int := lackF (allowF x) (allowF y)
end Go.Proofs.Ytaihdjdaamglnaa
/- Contracts of chapter 5: deals, the program's: what all sides have. -/
namespace Go.Proofs.Ytaihdjdaamglnaa
set_option linter.unusedVariables false
set_option linter.unusedSimpArgs false
open Go.RowKit
theorem all_take_succ {α : Type} (p : α → Bool) (l : List α) (k : Nat) (h : k < l.length) : (l.take (k + 1)).all p = ((l.take k).all p && p l[k]) := by
  rw [List.take_succ_eq_append_getElem h, List.all_append]; simp
theorem all_bad {α : Type} (p : α → Bool) (l : List α) (k : Nat) (h : k < l.length) (hp : p l[k] = false) : l.all p = false := by
  rw [List.all_eq_false]; exact ⟨l[k], List.getElem_mem h, by simp [hp]⟩
set_option maxRecDepth 100000 in
set_option maxHeartbeats 1600000 in
theorem areOffers_any (v : Value) (x : List OfferD) (w : World) (hx : SliceAt rOffer 2 0 w v x) :
    Calls Try.prog 67 #[v] w fun e w' => e = .returned (.bool (x.all offerB)) ∧ Below w.heap.size w w' := by
  obtain ⟨a, c, rfl, hl⟩ := sliceAt_len hx
  have HX := Lib.hid hx
  clear hx
  unfold maxLen at hl
  go_enter Try.func67, Try.ntmps67
  go_wp2
  go_loopw [4, 7] (fun _ i wr => ∃ k : Nat, k ≤ x.length ∧ i = .int .i64 k ∧ (x.take k).all offerB = true ∧ Below w.heap.size w wr) (fun _ i _ => x.length - (intOf i).toNat)
  case atStart => exact ⟨0, Nat.zero_le _, rfl, rfl, Below.refl _ _⟩
  case round =>
    obtain ⟨k, hk, rfl, ht, hbr⟩ := hrel
    have HT := Lib.hid ht
    have HB := Lib.hid hbr
    have HXr := Lib.hid (SliceAt.below HX.out goodOffer hbr (Nat.le_refl _))
    clear ht hbr
    by_cases hlt : k < x.length
    · obtain ⟨b, o, cs, rfl, hbw, hat, hd⟩ := sliceAt_cell HXr.out k hlt
      have HBAD := Lib.hid (fun (h : offerB x[k] = false) => all_bad offerB x k hlt h)
      have HGD := Lib.hid (fun (h : offerB x[k] = true) => show (x.take (k + 1)).all offerB = true by rw [all_take_succ offerB x k hlt, HT.out, h]; rfl)
      have HI := Lib.hid (fun o => implIsOffer_any _ x[k] (wr.alloc o) ((offerAt_of hat).below (box1 wr o) (Nat.le_refl _)))
      generalize x[k] = p at *
      obtain ⟨a0, a1⟩ := p
      obtain ⟨x0, rfl, hr0⟩ := hat
      obtain ⟨xa, xc, rfl, _⟩ := sliceAt_len hr0
      generalize offerB ⟨a0, a1⟩ = ob at *
      have d0 := hd 0 (by decide)
      have d1 := hd 1 (by decide)
      simp only [List.getElem?_cons_zero, List.getElem?_cons_succ, Nat.add_zero] at d0 d1 HI
      clear hd hr0
      cases ob with
      | false =>
        have HR := Lib.hid (HBAD.out rfl)
        clear HBAD HGD
        go_wp2_with fail
        refine (HI.out _).mono ?_
        rintro e w1 ⟨rfl, hb⟩
        have HB1 := Lib.hid (HB.out.trans ((bel_to (box1 wr _) hb).mono HB.out.size))
        clear hb
        go_wp2_with fail
        go_ret
        exact ⟨ret_bool HR.out.symm, HB1.out⟩
      | true =>
        have HR := Lib.hid (HGD.out rfl)
        clear HBAD HGD
        go_wp2_with fail
        refine (HI.out _).mono ?_
        rintro e w1 ⟨rfl, hb⟩
        have HB1 := Lib.hid (HB.out.trans ((bel_to (box1 wr _) hb).mono HB.out.size))
        clear hb
        go_wp2_with fail
        exact ⟨⟨k + 1, by omega, by go_num, HR.out, HB1.out⟩, by simp [intOf]; omega⟩
    · have HN := Lib.hid (show x.all offerB = true from by
        have h := HT.out
        rw [List.take_of_length_le (by omega)] at h
        exact h)
      go_wp2
      go_ret
      exact ⟨ret_bool HN.out.symm, HB.out⟩
set_option maxRecDepth 100000 in
set_option maxHeartbeats 1600000 in
theorem allHave_any (v : Value) (x : List OfferD) (t : VersionD) (w : World) (hx : SliceAt rOffer 2 0 w v x) (hv : x.all offerB = true) :
    Calls Try.prog 110 #[v, vVersion t] w fun e w' => e = .returned (.bool (allHaveB x t)) ∧ Below w.heap.size w w' := by
  obtain ⟨a, c, rfl, hl⟩ := sliceAt_len hx
  obtain ⟨t0, t1⟩ := t
  unfold vVersion
  have HT0 := Lib.hid ((Var2.new w t0 t1 56))
  have HX := Lib.hid (SliceAt.below hx goodOffer (box1 w (.cells #[.int .i64 t0, .int .i64 t1] 56)) (Nat.le_refl _))
  have HXB := Lib.hid (box1 w (.cells #[.int .i64 t0, .int .i64 t1] 56))
  have HV := Lib.hid (show ∀ i (h : i < x.length), versB (x[i]).fVersions = true from fun i h => by
    rw [List.all_eq_true] at hv
    have := hv x[i] (List.getElem_mem h)
    simp only [offerB, Bool.and_eq_true] at this
    exact this.2)
  clear hx hv
  unfold maxLen at hl
  go_enter Try.func110, Try.ntmps110
  go_wp2
  generalize w.alloc (.cells #[.int .i64 t0, .int .i64 t1] 56) = X at *
  go_loopw [6, 7, 8, 11] (fun _ _ _ i wr => ∃ k : Nat, k ≤ x.length ∧ i = .int .i64 k ∧ (x.take k).all (fun y => inV y.fVersions ⟨t0, t1⟩) = true ∧ Below X.heap.size X wr) (fun _ _ _ i _ => x.length - (intOf i).toNat)
  case atStart => exact ⟨0, Nat.zero_le _, rfl, rfl, Below.refl _ _⟩
  case round =>
    obtain ⟨k, hk, rfl, ht, hbr⟩ := hrel
    have HT := Lib.hid ht
    have HB := Lib.hid hbr
    have HTV := Lib.hid (HT0.out.below hbr)
    have HXr := Lib.hid (SliceAt.below HX.out goodOffer hbr (Nat.le_refl _))
    clear ht hbr
    by_cases hlt : k < x.length
    · obtain ⟨b, o, cs, rfl, hbw, hat, hd⟩ := sliceAt_cell HXr.out k hlt
      have HBAD := Lib.hid (fun (h : inV x[k].fVersions ⟨t0, t1⟩ = false) => all_bad (fun y => inV y.fVersions ⟨t0, t1⟩) x k hlt h)
      have HGD := Lib.hid (fun (h : inV x[k].fVersions ⟨t0, t1⟩ = true) => show (x.take (k + 1)).all (fun y => inV y.fVersions ⟨t0, t1⟩) = true by rw [all_take_succ _ x k hlt, HT.out, h]; rfl)
      have HVk := Lib.hid (HV.out k hlt)
      generalize x[k] = p at *
      obtain ⟨a0, a1⟩ := p
      obtain ⟨x0, rfl, hr0⟩ := hat
      simp only at HBAD HGD HVk hr0
      have HI := Lib.hid (fun o => search_any x0 a0 ⟨t0, t1⟩ (wr.alloc o) ((flatAt_of_slice cVersion_len (by decide) hr0).below (box1 wr o) (Nat.le_refl _)) HVk.out)
      generalize inV a0 ⟨t0, t1⟩ = ob at *
      obtain ⟨xa, xc, rfl, _⟩ := sliceAt_len hr0
      have d0 := hd 0 (by decide)
      have d1 := hd 1 (by decide)
      have e0 := HTV.out.c0
      have e1 := HTV.out.c1
      have hwl := HTV.out.lt
      simp only [List.getElem?_cons_zero, List.getElem?_cons_succ, Nat.add_zero, vVersion] at d0 d1 HI
      clear hd hr0
      cases ob with
      | false =>
        have HR := Lib.hid (HBAD.out rfl)
        clear HBAD HGD
        go_wp2_with fail
        refine (HI.out _).mono ?_
        rintro e w1 ⟨i, rfl, hb⟩
        have HB1 := Lib.hid (HXB.out.trans ((HB.out.trans ((bel_to (box1 wr _) hb).mono HB.out.size)).mono HXB.out.size))
        clear hb
        go_wp2_with fail
        go_ret
        exact ⟨ret_bool HR.out.symm, HB1.out⟩
      | true =>
        have HR := Lib.hid (HGD.out rfl)
        clear HBAD HGD
        go_wp2_with fail
        refine (HI.out _).mono ?_
        rintro e w1 ⟨i, rfl, hb⟩
        have HB1 := Lib.hid (HB.out.trans ((bel_to (box1 wr _) hb).mono HB.out.size))
        clear hb
        go_wp2_with fail
        exact ⟨⟨k + 1, by omega, by go_num, HR.out, HB1.out⟩, by simp [intOf]; omega⟩
    · have HN := Lib.hid (show allHaveB x ⟨t0, t1⟩ = true from by
        have h := HT.out
        rw [List.take_of_length_le (by omega)] at h
        exact h)
      have HB1 := Lib.hid (HXB.out.trans (HB.out.mono HXB.out.size))
      go_wp2
      go_ret
      exact ⟨ret_bool HN.out.symm, HB1.out⟩
theorem foldl_take_succ {α β : Type} (f : β → α → β) (z : β) (l : List α) (k : Nat) (h : k < l.length) : (l.take (k + 1)).foldl f z = f ((l.take k).foldl f z) l[k] := by
  rw [List.take_succ_eq_append_getElem h, List.foldl_append]; rfl
set_option maxRecDepth 100000 in
set_option maxHeartbeats 1600000 in
theorem comFace_any (v : Value) (x : List OfferD) (w : World) (hx : SliceAt rOffer 2 0 w v x) :
    Calls Try.prog 70 #[v] w fun e w' => e = .returned (.int .i64 (comF x)) ∧ Below w.heap.size w w' := by
  obtain ⟨a, c, rfl, hl⟩ := sliceAt_len hx
  have HX := Lib.hid hx
  clear hx
  unfold maxLen at hl
  go_enter Try.func70, Try.ntmps70
  go_wp2
  go_loopw [3, 5, 8] (fun f _ i wr => ∃ k : Nat, k ≤ x.length ∧ i = .int .i64 k ∧ f = .int .i64 ((x.take k).foldl (fun f y => bothF f y.fFace) 63) ∧ Below w.heap.size w wr) (fun _ _ i _ => x.length - (intOf i).toNat)
  case atStart => exact ⟨0, Nat.zero_le _, rfl, rfl, Below.refl _ _⟩
  case round =>
    obtain ⟨k, hk, rfl, rfl, hbr⟩ := hrel
    have HB := Lib.hid hbr
    have HXr := Lib.hid (SliceAt.below HX.out goodOffer hbr (Nat.le_refl _))
    clear hbr
    by_cases hlt : k < x.length
    · obtain ⟨b, o, cs, rfl, hbw, hat, hd⟩ := sliceAt_cell HXr.out k hlt
      have HS := Lib.hid (foldl_take_succ (fun f (y : OfferD) => bothF f y.fFace) 63 x k hlt)
      generalize x[k] = p at *
      obtain ⟨a0, a1⟩ := p
      obtain ⟨x0, rfl, hr0⟩ := hat
      obtain ⟨xa, xc, rfl, _⟩ := sliceAt_len hr0
      simp only at HS
      generalize (x.take k).foldl (fun f (y : OfferD) => bothF f y.fFace) 63 = f at *
      have HI := Lib.hid (implBoth_any f a1)
      have d0 := hd 0 (by decide)
      have d1 := hd 1 (by decide)
      simp only [List.getElem?_cons_zero, List.getElem?_cons_succ, Nat.add_zero] at d0 d1
      clear hd hr0
      go_wp2_with fail
      refine (HI.out _).mono ?_
      rintro e w1 ⟨rfl, rfl⟩
      have HB1 := Lib.hid (fun ob => HB.out.trans ((box1 wr ob).mono HB.out.size))
      go_wp2_with fail
      exact ⟨⟨k + 1, by omega, by go_num, by rw [HS.out], HB1.out _⟩, by simp [intOf]; omega⟩
    · have HN := Lib.hid (show (x.take k).foldl (fun f (y : OfferD) => bothF f y.fFace) 63 = comF x from by rw [List.take_of_length_le (by omega)]; rfl)
      go_wp2
      go_ret
      exact ⟨ret_int HN.out, HB.out⟩
end Go.Proofs.Ytaihdjdaamglnaa
/- Contracts of chapter 5: LeastVersion, the model's; the plain side of the program's. -/
namespace Go.Proofs.Ytaihdjdaamglnaa
set_option linter.unusedVariables false
open Go.RowKit
theorem leastK_is (f : Int) : ∀ k, leastK f k = ⟨0, 0⟩ ∨ ∃ j, j < k ∧ leastK f k = sinceN j := by
  intro k
  induction k with
  | zero => exact Or.inl rfl
  | succ k ih =>
    unfold leastK
    split
    · exact Or.inr ⟨k, by omega, rfl⟩
    · rcases ih with h | ⟨j, h1, h2⟩
      · exact Or.inl h
      · exact Or.inr ⟨j, by omega, h2⟩
theorem since_le : ∀ k : Fin 6, (0 < cmpV (sinceN k) ⟨0, 0⟩) ∧ ∀ j : Fin 6, j < k → (0 < cmpV (sinceN k) (sinceN j) ∨ sinceN k = sinceN j) := by decide
theorem leastK_step (f : Int) (k : Nat) (hk : k < 6) : leastK f (k + 1) = if hasI f k = true ∧ 0 < cmpV (sinceN k) (leastK f k) then sinceN k else leastK f k := by
  have hs := since_le ⟨k, hk⟩
  show (if hasI f k = true then sinceN k else leastK f k) = _
  by_cases hh : hasI f k = true
  · rw [if_pos hh]
    rcases leastK_is f k with h | ⟨j, h1, h2⟩
    · rw [h, if_pos ⟨hh, hs.1⟩]
    · rw [h2]
      rcases hs.2 ⟨j, by omega⟩ h1 with h3 | h3
      · rw [if_pos ⟨hh, h3⟩]
      · simp only at h3
        by_cases hc : hasI f k = true ∧ 0 < cmpV (sinceN k) (sinceN j)
        · rw [if_pos hc]
        · rw [if_neg hc, h3]
  · rw [if_neg hh, if_neg (by simp [hh])]
theorem leastV_no {f : Int} (h : isF f = false) : leastV f = ⟨0, 0⟩ := if_neg (by simp [h])
theorem leastV_yes {f : Int} (h : isF f = true) : leastV f = leastK f 6 := if_pos h
/-- what both give -/
def GivesLeast (f : Int) (w : World) (e : Ending) (w' : World) : Prop := e = .returned (.tuple #[vVersion (leastV f), .bool (isF f)]) ∧ Below w.heap.size w w'
end Go.Proofs.Ytaihdjdaamglnaa
/- Contracts of chapter 5: deals, the program's: the versions that all sides have. -/
namespace Go.Proofs.Ytaihdjdaamglnaa
set_option linter.unusedVariables false
set_option linter.unusedSimpArgs false
open Go.RowKit
theorem filter_take_succ {α : Type} (p : α → Bool) (l : List α) (k : Nat) (h : k < l.length) : (l.take (k + 1)).filter p = (l.take k).filter p ++ if p l[k] = true then [l[k]] else [] := by
  rw [List.take_succ_eq_append_getElem h, List.filter_append]
  by_cases hp : p l[k] = true
  · rw [if_pos hp, List.filter_cons_of_pos hp]; rfl
  · rw [if_neg hp, List.filter_cons_of_neg hp]; rfl
theorem comV_len {x : List OfferD} (hv : x.all offerB = true) : (comV x).length ≤ 4 := by
  cases x with
  | nil => simp [comV]
  | cons y r =>
    rw [List.all_eq_true] at hv
    have h := hv y (by simp)
    simp only [offerB, Bool.and_eq_true] at h
    exact Nat.le_trans (List.length_filter_le _ _) (versB_len h.2)
theorem append_verN {ops : Array Oper} {rest : List Oper} {o : Oper} {a : Act} {Q : Exit → Act → World → Prop} (hgd : o.guard = none) (s x : Operand)
    (ho : o.op = .call { callee := .builtin .append, args := #[s, x], argTypes := #[50, 50] }) (B : Nat) (v : Value) (l : List VersionD) (y : VersionD) (w : World) (blk : Nat)
    (hs : a.eval s = v) (hO : OwnsF cVersion 56 2 w B v l) (hx : a.eval x = .slice (some ⟨blk, 0, none⟩) 1 1) (hc : ∀ j, j < 2 → w.cell? ⟨blk, j, none⟩ = (cVersion y)[j]?) (hl : l.length ≤ 4194304) (hB : B ≤ w.heap.size)
    (h : ∀ v' w', OwnsF cVersion 56 2 w' B v' (l ++ [y]) → w.grownBy w' v.ownBlock → wpList Try.prog ops Q rest (a.put o.dst v') w') : wpList Try.prog ops Q (o :: rest) a w :=
  append_flat cVersion_len cVersion_one infoVersion rfl (by decide) (by decide) Try.underlying50 hgd s x ho B v l y w blk hs hO hx hc hl hB h
theorem ver_newN (w : World) (y : VersionD) (blk : Nat) (h : blk = w.heap.size) : ∀ j, j < 2 → (w.alloc (.cells #[.int .i64 y.fMajor, .int .i64 y.fMinor] 56)).cell? ⟨blk, j, none⟩ = (cVersion y)[j]? := by
  subst h
  intro j hj
  rw [cell_of_row _ _ _ _ 56 (0, 0) (heap_alloc_new w _)]
  simp [cVersion]
set_option maxRecDepth 100000 in
set_option maxHeartbeats 1600000 in
theorem comVers_any (v : Value) (x : List OfferD) (w : World) (hx : SliceAt rOffer 2 0 w v x) (hv : x.all offerB = true) :
    Calls Try.prog 68 #[v] w fun e w' => GivesF cVersion 56 2 (comV x) w e w' := by
  obtain ⟨a, c, rfl, hl⟩ := sliceAt_len hx
  have HO := Lib.hid (ownsF_new cVersion 56 2 w)
  have HXB := Lib.hid (box1 w (.cells #[] 56))
  cases x with
  | nil =>
    go_enter Try.func68, Try.ntmps68
    go_wp2
    go_ret
    exact ⟨_, rfl, HO.out, HXB.out⟩
  | cons y r =>
    obtain ⟨b, o, cs, rfl, hbw, hat, hd⟩ := sliceAt_cell hx 0 (by simp)
    have HX := Lib.hid hx
    have HV := Lib.hid hv
    have HL4 := Lib.hid (show y.fVersions.length ≤ 4 from by
      rw [List.all_eq_true] at hv
      have h := hv y (by simp)
      simp only [offerB, Bool.and_eq_true] at h
      exact versB_len h.2)
    simp only [List.getElem_cons_zero] at hat
    have HC := Lib.hid (show comV (y :: r) = y.fVersions.filter (allHaveB (y :: r)) from rfl)
    have hl0 : (0 : Int) < ((y :: r).length : Int) := by simp
    have hl1 : (((y :: r).length : Int) == 0) = false := by simp; omega
    generalize y :: r = x at *
    obtain ⟨a0, a1⟩ := y
    obtain ⟨x0, rfl, hr0⟩ := hat
    simp only at hr0 HC HL4
    have HR := Lib.hid (flatAt_of_slice cVersion_len (by decide) hr0)
    obtain ⟨xa, xc, rfl, _⟩ := sliceAt_len hr0
    have d0 := hd 0 (by decide)
    have d1 := hd 1 (by decide)
    simp only [List.getElem?_cons_zero, List.getElem?_cons_succ, Nat.add_zero, Nat.zero_mul] at d0 d1
    have hl4 := HL4.out
    clear hd hr0 hx hv
    unfold maxLen at hl
    go_enter Try.func68, Try.ntmps68
    go_wp2
    go_loopw [3, 5, 16] (fun sv _ i wr => ∃ k : Nat, k ≤ a0.length ∧ i = .int .i64 k ∧ OwnsF cVersion 56 2 wr w.heap.size sv ((a0.take k).filter (allHaveB x)) ∧ Below w.heap.size w wr) (fun _ _ i _ => a0.length - (intOf i).toNat)
    case atStart => exact ⟨0, Nat.zero_le _, rfl, HO.out, HXB.out⟩
    case round =>
      obtain ⟨k, hk, rfl, hO, hbr⟩ := hrel
      have HOr := Lib.hid hO
      have HB := Lib.hid hbr
      have HRr := Lib.hid (FlatAt.below HR.out hbr (Nat.le_refl _))
      have HXr := Lib.hid (SliceAt.below HX.out goodOffer hbr (Nat.le_refl _))
      have hws : w.heap.size ≤ wr.heap.size := hbr.size
      clear hO hbr
      by_cases hlt : k < a0.length
      · obtain ⟨b2, o2, e2, hbw2, hd2⟩ := flatAt_cell cVersion_len HRr.out k hlt (by decide)
        subst e2
        have HF := Lib.hid (filter_take_succ (allHaveB x) a0 k hlt)
        have HFL := Lib.hid (show ((a0.take k).filter (allHaveB x)).length ≤ 4 from Nat.le_trans (List.length_filter_le _ _) (by rw [List.length_take]; omega))
        have HI := Lib.hid (fun o => allHave_any _ x a0[k] (wr.alloc o) (HXr.out.below goodOffer (box1 wr o) (Nat.le_refl _)) HV.out)
        have q0 := hd2 0 (by decide)
        have q1 := hd2 1 (by decide)
        generalize a0[k] = p at *
        generalize (a0.take k).filter (allHaveB x) = F at *
        obtain ⟨p0, p1⟩ := p
        simp only [cVersion, vVersion, List.getElem?_cons_zero, List.getElem?_cons_succ, Nat.add_zero] at q0 q1 HI
        generalize allHaveB x ⟨p0, p1⟩ = ob at *
        clear hd2
        cases ob with
        | false =>
          go_wp2_with fail
          refine (HI.out _).mono ?_
          rintro e w1 ⟨rfl, hb⟩
          have HB1 := Lib.hid (HB.out.trans ((bel_to (box1 wr _) hb).mono HB.out.size))
          have HO1 := Lib.hid (ownsF_below HOr.out (bel_to (box1 wr _) hb) (Nat.le_refl _))
          clear hb
          go_wp2_with fail
          exact ⟨⟨k + 1, by omega, by go_num, by rw [HF.out]; simpa using HO1.out, HB1.out⟩, by simp [intOf]; omega⟩
        | true =>
          go_wp2_with fail
          refine (HI.out _).mono ?_
          rintro e w1 ⟨rfl, hb⟩
          have HB1 := Lib.hid (HB.out.trans ((bel_to (box1 wr _) hb).mono HB.out.size))
          have HO1 := Lib.hid (ownsF_below HOr.out (bel_to (box1 wr _) hb) (Nat.le_refl _))
          have V1 := Lib.hid ((Var2.new wr p0 p1 56).below hb)
          have hws1 : w.heap.size ≤ w1.heap.size := HB1.out.size
          have HO2 := Lib.hid (ownsF_alloc HO1.out (.cells #[.int .i64 p0, .int .i64 p1] 56))
          have HB2 := Lib.hid (HB1.out.alloc hws1 (.cells #[.int .i64 p0, .int .i64 p1] 56))
          have e0 := V1.out.c0
          have e1 := V1.out.c1
          have hFL := HFL.out
          clear hb
          go_wp2_with (at_builtin; (refine append_verN rfl _ _ rfl w.heap.size u3 F ⟨p0, p1⟩ _ w1.heap.size rfl HO2.out rfl (ver_newN w1 ⟨p0, p1⟩ _ rfl) (by omega) (by simp; omega) ?_; intro v' w3 hO4 hg4))
          exact ⟨⟨k + 1, by omega, by go_num, by rw [HF.out]; simpa using hO4, below_appendF HB2.out HO2.out hg4 HB2.out.size⟩, by simp [intOf]; omega⟩
      · have HN := Lib.hid (show (a0.take k).filter (allHaveB x) = comV x from by rw [List.take_of_length_le (by omega), HC.out])
        rw [HN.out] at HOr
        go_wp2
        go_ret
        exact ⟨_, rfl, HOr.out, HB.out⟩
end Go.Proofs.Ytaihdjdaamglnaa
/- Contracts of chapter 5: IsOffer, the model's. -/
namespace Go.Proofs.Ytaihdjdaamglnaa
set_option linter.unusedVariables false
set_option linter.unusedSimpArgs false
open Go.RowKit
set_option maxRecDepth 100000 in
set_option maxHeartbeats 3200000 in
theorem specIsOffer_any (v : Value) (d : OfferD) (w : World) (hx : OfferAt w v d) :
    Calls Try.prog 59 #[v] w fun e w' => e = .returned (.bool (offerB d)) ∧ Below w.heap.size w w' := by
  obtain ⟨cv, rfl, hx⟩ := hx
  obtain ⟨x, fc⟩ := d
  obtain ⟨a, c, rfl, hl⟩ := flatAt_len hx
  have HX := Lib.hid (hx.below (box1 w (.cells #[.slice a x.length c, .int .i64 fc] 52)) (Nat.le_refl _))
  have HIF := Lib.hid (specIsFace_any fc)
  unfold vOffer offerB
  simp only
  clear hx
  unfold maxLen at hl
  have HXB := Lib.hid (box1 w (.cells #[.slice a x.length c, .int .i64 fc] 52))
  have c0 := Lib.hid (show (w.alloc (.cells #[.slice a x.length c, .int .i64 fc] 52)).cell? ⟨w.heap.size, 0, none⟩ = some (.slice a x.length c) by simp)
  have c1 := Lib.hid (show (w.alloc (.cells #[.slice a x.length c, .int .i64 fc] 52)).cell? ⟨w.heap.size, 1, none⟩ = some (.int .i64 fc) by simp)
  have HL := Lib.hid (show w.heap.size < (w.alloc (.cells #[.slice a x.length c, .int .i64 fc] 52)).heap.size by simp)
  go_enter Try.func59, Try.ntmps59
  go_wp2_with fail
  generalize w.alloc (.cells #[.slice a x.length c, .int .i64 fc] 52) = X at *
  go_loopw [3, 4, 8] (fun _ _ i wr => ∃ k : Nat, k ≤ x.length ∧ i = .int .i64 k ∧ okToV x k = true ∧ Below X.heap.size X wr) (fun _ _ i _ => x.length - (intOf i).toNat)
  case atStart => exact ⟨0, Nat.zero_le _, rfl, rfl, Below.refl _ _⟩
  case round =>
    obtain ⟨k, hk, rfl, ht, hbr⟩ := hrel
    have HT := Lib.hid ht
    have HB := Lib.hid hbr
    have HXr := Lib.hid (FlatAt.below HX.out hbr (Nat.le_refl _))
    have e0 := (hbr.cell (p := ⟨w.heap.size, 0, none⟩) HL.out).trans c0.out
    have e1 := (hbr.cell (p := ⟨w.heap.size, 1, none⟩) HL.out).trans c1.out
    have HWW := Lib.hid (Nat.lt_of_lt_of_le HL.out hbr.size)
    clear ht hbr
    by_cases hlt : k < x.length
    · obtain ⟨b, o, rfl, hbw, hd⟩ := flatAt_cell cVersion_len HXr.out k hlt (by decide)
      have d0 := hd 0 (by decide)
      have d1 := hd 1 (by decide)
      clear hd
      have HBAD := Lib.hid (fun (h : okAtV x k = false) => show (isF fc && versB x) = false by rw [versB_bad x k hlt h, Bool.and_false])
      have HGD := Lib.hid (fun (h : okAtV x k = true) => show okToV x (k + 1) = true by rw [okToV_succ, HT.out, h]; rfl)
      have HI := Lib.hid (specIsVer_any x[k])
      have h0k : (0 : Int) ≤ (k : Int) := by omega
      have hkx : (k : Int) < (x.length : Int) := by omega
      by_cases hk0 : k = 0
      · subst hk0
        rw [okAtV_zero x hlt] at HBAD HGD
        generalize x[0] = p at *
        obtain ⟨p0, p1⟩ := p
        unfold vVersion at HI
        simp only [cVersion, List.getElem?_cons_zero, List.getElem?_cons_succ, Nat.add_zero] at d0 d1 HI
        generalize verB ⟨p0, p1⟩ = vb at *
        cases vb with
        | false =>
          have HR := Lib.hid (HBAD.out rfl)
          clear HBAD HGD
          go_wp2_with fail
          refine wp_region_held_drew (S := (fun w' => w'.cell? ⟨wr.heap.size, 0, none⟩ = some (.int .i64 p0) ∧ w'.cell? ⟨wr.heap.size, 1, none⟩ = some (.int .i64 p1))) (by kernel_rfl) ?_ (fun hHeld => ?_)
          · go_keep
          refine wpAnyH_take (i := 0) (v := ?_) rfl (by kernel_rfl) (by kernel_rfl) (by kernel_rfl) (fun _ _ _ h => h) (Or.inl ⟨by rfl, ?_⟩) (by assumption) ?_
          rotate_left
          · intro w hSw; (try dsimp only at hSw); go_simp; with_reducible rfl
          try simp only [Act.put, List.getElem_toArray, List.getElem_cons_zero, List.getElem_cons_succ, List.setIfInBounds_toArray, List.set_cons_zero, List.set_cons_succ]
          refine wpAnyH_ready (rs := [1]) (by kernel_rfl) (by simp) ?_
          refine AllReadyH.cons rfl (fun K hK => ?_) AllReadyH.nil
          go_simp
          ((go_at_call 101; (with_reducible refine (HI.out _).mono ?_); rintro e w1 ⟨rfl, hb1⟩))
          refine hK.out _ _ ?_ (fun hHeld => ?_)
          · (rw [hb1.cell (p := ⟨wr.heap.size, 0, none⟩) (by simp), hb1.cell (p := ⟨wr.heap.size, 1, none⟩) (by simp)]; first | assumption | (simp; done))
          clear hK K
          try simp only [Act.put, List.getElem_toArray, List.getElem_cons_zero, List.getElem_cons_succ, List.setIfInBounds_toArray, List.set_cons_zero, List.set_cons_succ]
          refine wpAnyH_take (i := 2) (v := ?_) rfl (by kernel_rfl) (by kernel_rfl) (by kernel_rfl) (fun _ _ _ h => h) (Or.inl ⟨by rfl, ?_⟩) (by assumption) ?_
          rotate_left
          · intro w hSw; (try dsimp only at hSw); go_simp; with_reducible rfl
          try simp only [Act.put, List.getElem_toArray, List.getElem_cons_zero, List.getElem_cons_succ, List.setIfInBounds_toArray, List.set_cons_zero, List.set_cons_succ]
          refine wpAnyH_take (i := 3) (v := ?_) rfl (by kernel_rfl) (by kernel_rfl) (by kernel_rfl) (fun _ _ _ h => h) (Or.inl ⟨by rfl, ?_⟩) (by assumption) ?_
          rotate_left
          · intro w hSw; (try dsimp only at hSw); go_simp; with_reducible rfl
          try simp only [Act.put, List.getElem_toArray, List.getElem_cons_zero, List.getElem_cons_succ, List.setIfInBounds_toArray, List.set_cons_zero, List.set_cons_succ]
          refine wpAnyH_take (i := 4) (v := undef) rfl (by kernel_rfl) (by kernel_rfl) (by kernel_rfl) (fun _ _ _ h => h) (Or.inr ⟨by rfl, rfl⟩) (by assumption) ?_
          try simp only [Act.put, List.getElem_toArray, List.getElem_cons_zero, List.getElem_cons_succ, List.setIfInBounds_toArray, List.set_cons_zero, List.set_cons_succ]
          refine wpAnyH_take (i := 5) (v := undef) rfl (by kernel_rfl) (by kernel_rfl) (by kernel_rfl) (fun _ _ _ h => h) (Or.inr ⟨by rfl, rfl⟩) (by assumption) ?_
          try simp only [Act.put, List.getElem_toArray, List.getElem_cons_zero, List.getElem_cons_succ, List.setIfInBounds_toArray, List.set_cons_zero, List.set_cons_succ]
          refine wpAnyH_take (i := 6) (v := undef) rfl (by kernel_rfl) (by kernel_rfl) (by kernel_rfl) (fun _ _ _ h => h) (Or.inr ⟨by rfl, rfl⟩) (by assumption) ?_
          try simp only [Act.put, List.getElem_toArray, List.getElem_cons_zero, List.getElem_cons_succ, List.setIfInBounds_toArray, List.set_cons_zero, List.set_cons_succ]
          refine wpAnyH_take (i := 7) (v := undef) rfl (by kernel_rfl) (by kernel_rfl) (by kernel_rfl) (fun _ _ _ h => h) (Or.inr ⟨by rfl, rfl⟩) (by assumption) ?_
          try simp only [Act.put, List.getElem_toArray, List.getElem_cons_zero, List.getElem_cons_succ, List.setIfInBounds_toArray, List.set_cons_zero, List.set_cons_succ]
          refine wpAnyH_take (i := 8) (v := undef) rfl (by kernel_rfl) (by kernel_rfl) (by kernel_rfl) (fun _ _ _ h => h) (Or.inr ⟨by rfl, rfl⟩) (by assumption) ?_
          try simp only [Act.put, List.getElem_toArray, List.getElem_cons_zero, List.getElem_cons_succ, List.setIfInBounds_toArray, List.set_cons_zero, List.set_cons_succ]
          refine wpAnyH_take (i := 9) (v := undef) rfl (by kernel_rfl) (by kernel_rfl) (by kernel_rfl) (fun _ _ _ h => h) (Or.inr ⟨by rfl, rfl⟩) (by assumption) ?_
          try simp only [Act.put, List.getElem_toArray, List.getElem_cons_zero, List.getElem_cons_succ, List.setIfInBounds_toArray, List.set_cons_zero, List.set_cons_succ]
          refine wpAnyH_take (i := 10) (v := undef) rfl (by kernel_rfl) (by kernel_rfl) (by kernel_rfl) (fun _ _ _ h => h) (Or.inr ⟨by rfl, rfl⟩) (by assumption) ?_
          try simp only [Act.put, List.getElem_toArray, List.getElem_cons_zero, List.getElem_cons_succ, List.setIfInBounds_toArray, List.set_cons_zero, List.set_cons_succ]
          refine wpAnyH_take (i := 11) (v := undef) rfl (by kernel_rfl) (by kernel_rfl) (by kernel_rfl) (fun _ _ _ h => h) (Or.inr ⟨by rfl, rfl⟩) (by assumption) ?_
          try simp only [Act.put, List.getElem_toArray, List.getElem_cons_zero, List.getElem_cons_succ, List.setIfInBounds_toArray, List.set_cons_zero, List.set_cons_succ]
          refine wpAnyH_take (i := 12) (v := undef) rfl (by kernel_rfl) (by kernel_rfl) (by kernel_rfl) (fun _ _ _ h => h) (Or.inr ⟨by rfl, rfl⟩) (by assumption) ?_
          try simp only [Act.put, List.getElem_toArray, List.getElem_cons_zero, List.getElem_cons_succ, List.setIfInBounds_toArray, List.set_cons_zero, List.set_cons_succ]
          refine wpAnyH_take (i := 13) (v := undef) rfl (by kernel_rfl) (by kernel_rfl) (by kernel_rfl) (fun _ _ _ h => h) (Or.inr ⟨by rfl, rfl⟩) (by assumption) ?_
          try simp only [Act.put, List.getElem_toArray, List.getElem_cons_zero, List.getElem_cons_succ, List.setIfInBounds_toArray, List.set_cons_zero, List.set_cons_succ]
          refine wpAnyH_take (i := 14) (v := undef) rfl (by kernel_rfl) (by kernel_rfl) (by kernel_rfl) (fun _ _ _ h => h) (Or.inr ⟨by rfl, rfl⟩) (by assumption) ?_
          try simp only [Act.put, List.getElem_toArray, List.getElem_cons_zero, List.getElem_cons_succ, List.setIfInBounds_toArray, List.set_cons_zero, List.set_cons_succ]
          refine wpAnyH_take (i := 15) (v := undef) rfl (by kernel_rfl) (by kernel_rfl) (by kernel_rfl) (fun _ _ _ h => h) (Or.inr ⟨by rfl, rfl⟩) (by assumption) ?_
          try simp only [Act.put, List.getElem_toArray, List.getElem_cons_zero, List.getElem_cons_succ, List.setIfInBounds_toArray, List.set_cons_zero, List.set_cons_succ]
          refine wpAnyH_take (i := 16) (v := undef) rfl (by kernel_rfl) (by kernel_rfl) (by kernel_rfl) (fun _ _ _ h => h) (Or.inr ⟨by rfl, rfl⟩) (by assumption) ?_
          try simp only [Act.put, List.getElem_toArray, List.getElem_cons_zero, List.getElem_cons_succ, List.setIfInBounds_toArray, List.set_cons_zero, List.set_cons_succ]
          refine wpAnyH_take (i := 17) (v := ?_) rfl (by kernel_rfl) (by kernel_rfl) (by kernel_rfl) (fun _ _ _ h => h) (Or.inl ⟨by rfl, ?_⟩) (by assumption) ?_
          rotate_left
          · intro w hSw; (try dsimp only at hSw); go_simp; with_reducible rfl
          try simp only [Act.put, List.getElem_toArray, List.getElem_cons_zero, List.getElem_cons_succ, List.setIfInBounds_toArray, List.set_cons_zero, List.set_cons_succ]
          refine wpAnyH_done (by kernel_rfl) ?_ _
          have HB1 := Lib.hid ((belDr (bel_to HB.out (box1 wr (.cells #[.int .i64 p0, .int .i64 p1] 56)))).trans (hb1.mono (bel_to HB.out (box1 wr (.cells #[.int .i64 p0, .int .i64 p1] 56))).size))
          rename_i hheld
          clear hb1 hheld
          go_wp2_with fail
          go_ret
          exact ⟨ret_bool HR.out.symm, HXB.out.trans (HB1.out.mono HXB.out.size)⟩
        | true =>
          have HR := Lib.hid (HGD.out rfl)
          clear HBAD HGD
          go_wp2_with fail
          refine wp_region_held_drew (S := (fun w' => w'.cell? ⟨wr.heap.size, 0, none⟩ = some (.int .i64 p0) ∧ w'.cell? ⟨wr.heap.size, 1, none⟩ = some (.int .i64 p1))) (by kernel_rfl) ?_ (fun hHeld => ?_)
          · go_keep
          refine wpAnyH_take (i := 0) (v := ?_) rfl (by kernel_rfl) (by kernel_rfl) (by kernel_rfl) (fun _ _ _ h => h) (Or.inl ⟨by rfl, ?_⟩) (by assumption) ?_
          rotate_left
          · intro w hSw; (try dsimp only at hSw); go_simp; with_reducible rfl
          try simp only [Act.put, List.getElem_toArray, List.getElem_cons_zero, List.getElem_cons_succ, List.setIfInBounds_toArray, List.set_cons_zero, List.set_cons_succ]
          refine wpAnyH_ready (rs := [1]) (by kernel_rfl) (by simp) ?_
          refine AllReadyH.cons rfl (fun K hK => ?_) AllReadyH.nil
          go_simp
          ((go_at_call 101; (with_reducible refine (HI.out _).mono ?_); rintro e w1 ⟨rfl, hb1⟩))
          refine hK.out _ _ ?_ (fun hHeld => ?_)
          · (rw [hb1.cell (p := ⟨wr.heap.size, 0, none⟩) (by simp), hb1.cell (p := ⟨wr.heap.size, 1, none⟩) (by simp)]; first | assumption | (simp; done))
          clear hK K
          try simp only [Act.put, List.getElem_toArray, List.getElem_cons_zero, List.getElem_cons_succ, List.setIfInBounds_toArray, List.set_cons_zero, List.set_cons_succ]
          refine wpAnyH_take (i := 2) (v := ?_) rfl (by kernel_rfl) (by kernel_rfl) (by kernel_rfl) (fun _ _ _ h => h) (Or.inl ⟨by rfl, ?_⟩) (by assumption) ?_
          rotate_left
          · intro w hSw; (try dsimp only at hSw); go_simp; with_reducible rfl
          try simp only [Act.put, List.getElem_toArray, List.getElem_cons_zero, List.getElem_cons_succ, List.setIfInBounds_toArray, List.set_cons_zero, List.set_cons_succ]
          refine wpAnyH_take (i := 3) (v := ?_) rfl (by kernel_rfl) (by kernel_rfl) (by kernel_rfl) (fun _ _ _ h => h) (Or.inl ⟨by rfl, ?_⟩) (by assumption) ?_
          rotate_left
          · intro w hSw; (try dsimp only at hSw); go_simp; with_reducible rfl
          try simp only [Act.put, List.getElem_toArray, List.getElem_cons_zero, List.getElem_cons_succ, List.setIfInBounds_toArray, List.set_cons_zero, List.set_cons_succ]
          refine wpAnyH_take (i := 4) (v := ?_) rfl (by kernel_rfl) (by kernel_rfl) (by kernel_rfl) (fun _ _ _ h => h) (Or.inl ⟨by rfl, ?_⟩) (by assumption) ?_
          rotate_left
          · intro w hSw; (try dsimp only at hSw); go_simp; with_reducible rfl
          try simp only [Act.put, List.getElem_toArray, List.getElem_cons_zero, List.getElem_cons_succ, List.setIfInBounds_toArray, List.set_cons_zero, List.set_cons_succ]
          refine wpAnyH_take (i := 5) (v := ?_) rfl (by kernel_rfl) (by kernel_rfl) (by kernel_rfl) (fun _ _ _ h => h) (Or.inl ⟨by rfl, ?_⟩) (by assumption) ?_
          rotate_left
          · intro w hSw; (try dsimp only at hSw); go_simp; with_reducible rfl
          try simp only [Act.put, List.getElem_toArray, List.getElem_cons_zero, List.getElem_cons_succ, List.setIfInBounds_toArray, List.set_cons_zero, List.set_cons_succ]
          refine wpAnyH_take (i := 6) (v := ?_) rfl (by kernel_rfl) (by kernel_rfl) (by kernel_rfl) (fun _ _ _ h => h) (Or.inl ⟨by rfl, ?_⟩) (by assumption) ?_
          rotate_left
          · intro w hSw; (try dsimp only at hSw); go_simp; with_reducible rfl
          try simp only [Act.put, List.getElem_toArray, List.getElem_cons_zero, List.getElem_cons_succ, List.setIfInBounds_toArray, List.set_cons_zero, List.set_cons_succ]
          refine wpAnyH_take (i := 7) (v := undef) rfl (by kernel_rfl) (by kernel_rfl) (by kernel_rfl) (fun _ _ _ h => h) (Or.inr ⟨by rfl, rfl⟩) (by assumption) ?_
          try simp only [Act.put, List.getElem_toArray, List.getElem_cons_zero, List.getElem_cons_succ, List.setIfInBounds_toArray, List.set_cons_zero, List.set_cons_succ]
          refine wpAnyH_take (i := 8) (v := undef) rfl (by kernel_rfl) (by kernel_rfl) (by kernel_rfl) (fun _ _ _ h => h) (Or.inr ⟨by rfl, rfl⟩) (by assumption) ?_
          try simp only [Act.put, List.getElem_toArray, List.getElem_cons_zero, List.getElem_cons_succ, List.setIfInBounds_toArray, List.set_cons_zero, List.set_cons_succ]
          refine wpAnyH_take (i := 9) (v := undef) rfl (by kernel_rfl) (by kernel_rfl) (by kernel_rfl) (fun _ _ _ h => h) (Or.inr ⟨by rfl, rfl⟩) (by assumption) ?_
          try simp only [Act.put, List.getElem_toArray, List.getElem_cons_zero, List.getElem_cons_succ, List.setIfInBounds_toArray, List.set_cons_zero, List.set_cons_succ]
          refine wpAnyH_take (i := 10) (v := undef) rfl (by kernel_rfl) (by kernel_rfl) (by kernel_rfl) (fun _ _ _ h => h) (Or.inr ⟨by rfl, rfl⟩) (by assumption) ?_
          try simp only [Act.put, List.getElem_toArray, List.getElem_cons_zero, List.getElem_cons_succ, List.setIfInBounds_toArray, List.set_cons_zero, List.set_cons_succ]
          refine wpAnyH_take (i := 11) (v := undef) rfl (by kernel_rfl) (by kernel_rfl) (by kernel_rfl) (fun _ _ _ h => h) (Or.inr ⟨by rfl, rfl⟩) (by assumption) ?_
          try simp only [Act.put, List.getElem_toArray, List.getElem_cons_zero, List.getElem_cons_succ, List.setIfInBounds_toArray, List.set_cons_zero, List.set_cons_succ]
          refine wpAnyH_take (i := 12) (v := undef) rfl (by kernel_rfl) (by kernel_rfl) (by kernel_rfl) (fun _ _ _ h => h) (Or.inr ⟨by rfl, rfl⟩) (by assumption) ?_
          try simp only [Act.put, List.getElem_toArray, List.getElem_cons_zero, List.getElem_cons_succ, List.setIfInBounds_toArray, List.set_cons_zero, List.set_cons_succ]
          refine wpAnyH_take (i := 13) (v := undef) rfl (by kernel_rfl) (by kernel_rfl) (by kernel_rfl) (fun _ _ _ h => h) (Or.inr ⟨by rfl, rfl⟩) (by assumption) ?_
          try simp only [Act.put, List.getElem_toArray, List.getElem_cons_zero, List.getElem_cons_succ, List.setIfInBounds_toArray, List.set_cons_zero, List.set_cons_succ]
          refine wpAnyH_take (i := 14) (v := undef) rfl (by kernel_rfl) (by kernel_rfl) (by kernel_rfl) (fun _ _ _ h => h) (Or.inr ⟨by rfl, rfl⟩) (by assumption) ?_
          try simp only [Act.put, List.getElem_toArray, List.getElem_cons_zero, List.getElem_cons_succ, List.setIfInBounds_toArray, List.set_cons_zero, List.set_cons_succ]
          refine wpAnyH_take (i := 15) (v := undef) rfl (by kernel_rfl) (by kernel_rfl) (by kernel_rfl) (fun _ _ _ h => h) (Or.inr ⟨by rfl, rfl⟩) (by assumption) ?_
          try simp only [Act.put, List.getElem_toArray, List.getElem_cons_zero, List.getElem_cons_succ, List.setIfInBounds_toArray, List.set_cons_zero, List.set_cons_succ]
          refine wpAnyH_take (i := 16) (v := ?_) rfl (by kernel_rfl) (by kernel_rfl) (by kernel_rfl) (fun _ _ _ h => h) (Or.inl ⟨by rfl, ?_⟩) (by assumption) ?_
          rotate_left
          · intro w hSw; (try dsimp only at hSw); go_simp; with_reducible rfl
          try simp only [Act.put, List.getElem_toArray, List.getElem_cons_zero, List.getElem_cons_succ, List.setIfInBounds_toArray, List.set_cons_zero, List.set_cons_succ]
          refine wpAnyH_take (i := 17) (v := ?_) rfl (by kernel_rfl) (by kernel_rfl) (by kernel_rfl) (fun _ _ _ h => h) (Or.inl ⟨by rfl, ?_⟩) (by assumption) ?_
          rotate_left
          · intro w hSw; (try dsimp only at hSw); go_simp; with_reducible rfl
          try simp only [Act.put, List.getElem_toArray, List.getElem_cons_zero, List.getElem_cons_succ, List.setIfInBounds_toArray, List.set_cons_zero, List.set_cons_succ]
          refine wpAnyH_done (by kernel_rfl) ?_ _
          have HB1 := Lib.hid ((belDr (bel_to HB.out (box1 wr (.cells #[.int .i64 p0, .int .i64 p1] 56)))).trans (hb1.mono (bel_to HB.out (box1 wr (.cells #[.int .i64 p0, .int .i64 p1] 56))).size))
          rename_i hheld
          clear hb1 hheld
          go_wp2_with fail
          exact ⟨⟨0 + 1, by omega, by go_num, HR.out, HB1.out⟩, by simp [intOf]; omega⟩
      · obtain ⟨j, rfl⟩ : ∃ j, k = j + 1 := ⟨k - 1, by omega⟩
        rw [okAtV_succ x j hlt] at HBAD HGD
        have hjx : j < x.length := by omega
        obtain ⟨b2, o2, e2, hbw2, hd2⟩ := flatAt_cell cVersion_len HXr.out j hjx (by decide)
        injection e2 with e2
        injection e2 with e2 e3
        subst e2 e3
        have q0 := hd2 0 (by decide)
        have q1 := hd2 1 (by decide)
        clear hd2
        have HC := Lib.hid (specCmp_any x[j] x[j + 1])
        generalize x[j] = q at *
        generalize x[j + 1] = p at *
        obtain ⟨p0, p1⟩ := p
        obtain ⟨g0, g1⟩ := q
        unfold vVersion at HI HC
        simp only [cVersion, List.getElem?_cons_zero, List.getElem?_cons_succ, Nat.add_zero] at d0 d1 q0 q1 HI HC
        generalize verB ⟨p0, p1⟩ = vb at *
        generalize cmpV ⟨g0, g1⟩ ⟨p0, p1⟩ = r at *
        have HBW := Lib.hid hbw
        have HRW := Lib.hid (show wr.heap.size < wr.heap.size + 1 by omega)
        cases vb with
        | false =>
          have HR := Lib.hid (HBAD.out (by simp))
          clear HBAD HGD
          go_wp2_with fail
          refine wp_region_held_drew (S := (fun w' => w'.cell? ⟨wr.heap.size, 0, none⟩ = some (.int .i64 p0) ∧ w'.cell? ⟨wr.heap.size, 1, none⟩ = some (.int .i64 p1))) (by kernel_rfl) ?_ (fun hHeld => ?_)
          · go_keep
          refine wpAnyH_take (i := 0) (v := ?_) rfl (by kernel_rfl) (by kernel_rfl) (by kernel_rfl) (fun _ _ _ h => h) (Or.inl ⟨by rfl, ?_⟩) (by assumption) ?_
          rotate_left
          · intro w hSw; (try dsimp only at hSw); go_simp; with_reducible rfl
          try simp only [Act.put, List.getElem_toArray, List.getElem_cons_zero, List.getElem_cons_succ, List.setIfInBounds_toArray, List.set_cons_zero, List.set_cons_succ]
          refine wpAnyH_ready (rs := [1]) (by kernel_rfl) (by simp) ?_
          refine AllReadyH.cons rfl (fun K hK => ?_) AllReadyH.nil
          go_simp
          ((go_at_call 101; (with_reducible refine (HI.out _).mono ?_); rintro e w1 ⟨rfl, hb1⟩))
          refine hK.out _ _ ?_ (fun hHeld => ?_)
          · (rw [hb1.cell (p := ⟨wr.heap.size, 0, none⟩) (by simp), hb1.cell (p := ⟨wr.heap.size, 1, none⟩) (by simp)]; first | assumption | (simp; done))
          clear hK K
          try simp only [Act.put, List.getElem_toArray, List.getElem_cons_zero, List.getElem_cons_succ, List.setIfInBounds_toArray, List.set_cons_zero, List.set_cons_succ]
          refine wpAnyH_take (i := 2) (v := ?_) rfl (by kernel_rfl) (by kernel_rfl) (by kernel_rfl) (fun _ _ _ h => h) (Or.inl ⟨by rfl, ?_⟩) (by assumption) ?_
          rotate_left
          · intro w hSw; (try dsimp only at hSw); go_simp; with_reducible rfl
          try simp only [Act.put, List.getElem_toArray, List.getElem_cons_zero, List.getElem_cons_succ, List.setIfInBounds_toArray, List.set_cons_zero, List.set_cons_succ]
          refine wpAnyH_take (i := 3) (v := ?_) rfl (by kernel_rfl) (by kernel_rfl) (by kernel_rfl) (fun _ _ _ h => h) (Or.inl ⟨by rfl, ?_⟩) (by assumption) ?_
          rotate_left
          · intro w hSw; (try dsimp only at hSw); go_simp; with_reducible rfl
          try simp only [Act.put, List.getElem_toArray, List.getElem_cons_zero, List.getElem_cons_succ, List.setIfInBounds_toArray, List.set_cons_zero, List.set_cons_succ]
          refine wpAnyH_take (i := 4) (v := undef) rfl (by kernel_rfl) (by kernel_rfl) (by kernel_rfl) (fun _ _ _ h => h) (Or.inr ⟨by rfl, rfl⟩) (by assumption) ?_
          try simp only [Act.put, List.getElem_toArray, List.getElem_cons_zero, List.getElem_cons_succ, List.setIfInBounds_toArray, List.set_cons_zero, List.set_cons_succ]
          refine wpAnyH_take (i := 5) (v := undef) rfl (by kernel_rfl) (by kernel_rfl) (by kernel_rfl) (fun _ _ _ h => h) (Or.inr ⟨by rfl, rfl⟩) (by assumption) ?_
          try simp only [Act.put, List.getElem_toArray, List.getElem_cons_zero, List.getElem_cons_succ, List.setIfInBounds_toArray, List.set_cons_zero, List.set_cons_succ]
          refine wpAnyH_take (i := 6) (v := undef) rfl (by kernel_rfl) (by kernel_rfl) (by kernel_rfl) (fun _ _ _ h => h) (Or.inr ⟨by rfl, rfl⟩) (by assumption) ?_
          try simp only [Act.put, List.getElem_toArray, List.getElem_cons_zero, List.getElem_cons_succ, List.setIfInBounds_toArray, List.set_cons_zero, List.set_cons_succ]
          refine wpAnyH_take (i := 7) (v := undef) rfl (by kernel_rfl) (by kernel_rfl) (by kernel_rfl) (fun _ _ _ h => h) (Or.inr ⟨by rfl, rfl⟩) (by assumption) ?_
          try simp only [Act.put, List.getElem_toArray, List.getElem_cons_zero, List.getElem_cons_succ, List.setIfInBounds_toArray, List.set_cons_zero, List.set_cons_succ]
          refine wpAnyH_take (i := 8) (v := undef) rfl (by kernel_rfl) (by kernel_rfl) (by kernel_rfl) (fun _ _ _ h => h) (Or.inr ⟨by rfl, rfl⟩) (by assumption) ?_
          try simp only [Act.put, List.getElem_toArray, List.getElem_cons_zero, List.getElem_cons_succ, List.setIfInBounds_toArray, List.set_cons_zero, List.set_cons_succ]
          refine wpAnyH_take (i := 9) (v := undef) rfl (by kernel_rfl) (by kernel_rfl) (by kernel_rfl) (fun _ _ _ h => h) (Or.inr ⟨by rfl, rfl⟩) (by assumption) ?_
          try simp only [Act.put, List.getElem_toArray, List.getElem_cons_zero, List.getElem_cons_succ, List.setIfInBounds_toArray, List.set_cons_zero, List.set_cons_succ]
          refine wpAnyH_take (i := 10) (v := undef) rfl (by kernel_rfl) (by kernel_rfl) (by kernel_rfl) (fun _ _ _ h => h) (Or.inr ⟨by rfl, rfl⟩) (by assumption) ?_
          try simp only [Act.put, List.getElem_toArray, List.getElem_cons_zero, List.getElem_cons_succ, List.setIfInBounds_toArray, List.set_cons_zero, List.set_cons_succ]
          refine wpAnyH_take (i := 11) (v := undef) rfl (by kernel_rfl) (by kernel_rfl) (by kernel_rfl) (fun _ _ _ h => h) (Or.inr ⟨by rfl, rfl⟩) (by assumption) ?_
          try simp only [Act.put, List.getElem_toArray, List.getElem_cons_zero, List.getElem_cons_succ, List.setIfInBounds_toArray, List.set_cons_zero, List.set_cons_succ]
          refine wpAnyH_take (i := 12) (v := undef) rfl (by kernel_rfl) (by kernel_rfl) (by kernel_rfl) (fun _ _ _ h => h) (Or.inr ⟨by rfl, rfl⟩) (by assumption) ?_
          try simp only [Act.put, List.getElem_toArray, List.getElem_cons_zero, List.getElem_cons_succ, List.setIfInBounds_toArray, List.set_cons_zero, List.set_cons_succ]
          refine wpAnyH_take (i := 13) (v := undef) rfl (by kernel_rfl) (by kernel_rfl) (by kernel_rfl) (fun _ _ _ h => h) (Or.inr ⟨by rfl, rfl⟩) (by assumption) ?_
          try simp only [Act.put, List.getElem_toArray, List.getElem_cons_zero, List.getElem_cons_succ, List.setIfInBounds_toArray, List.set_cons_zero, List.set_cons_succ]
          refine wpAnyH_take (i := 14) (v := undef) rfl (by kernel_rfl) (by kernel_rfl) (by kernel_rfl) (fun _ _ _ h => h) (Or.inr ⟨by rfl, rfl⟩) (by assumption) ?_
          try simp only [Act.put, List.getElem_toArray, List.getElem_cons_zero, List.getElem_cons_succ, List.setIfInBounds_toArray, List.set_cons_zero, List.set_cons_succ]
          refine wpAnyH_take (i := 15) (v := undef) rfl (by kernel_rfl) (by kernel_rfl) (by kernel_rfl) (fun _ _ _ h => h) (Or.inr ⟨by rfl, rfl⟩) (by assumption) ?_
          try simp only [Act.put, List.getElem_toArray, List.getElem_cons_zero, List.getElem_cons_succ, List.setIfInBounds_toArray, List.set_cons_zero, List.set_cons_succ]
          refine wpAnyH_take (i := 16) (v := undef) rfl (by kernel_rfl) (by kernel_rfl) (by kernel_rfl) (fun _ _ _ h => h) (Or.inr ⟨by rfl, rfl⟩) (by assumption) ?_
          try simp only [Act.put, List.getElem_toArray, List.getElem_cons_zero, List.getElem_cons_succ, List.setIfInBounds_toArray, List.set_cons_zero, List.set_cons_succ]
          refine wpAnyH_take (i := 17) (v := ?_) rfl (by kernel_rfl) (by kernel_rfl) (by kernel_rfl) (fun _ _ _ h => h) (Or.inl ⟨by rfl, ?_⟩) (by assumption) ?_
          rotate_left
          · intro w hSw; (try dsimp only at hSw); go_simp; with_reducible rfl
          try simp only [Act.put, List.getElem_toArray, List.getElem_cons_zero, List.getElem_cons_succ, List.setIfInBounds_toArray, List.set_cons_zero, List.set_cons_succ]
          refine wpAnyH_done (by kernel_rfl) ?_ _
          have HB1 := Lib.hid ((belDr (bel_to HB.out (box1 wr (.cells #[.int .i64 p0, .int .i64 p1] 56)))).trans (hb1.mono (bel_to HB.out (box1 wr (.cells #[.int .i64 p0, .int .i64 p1] 56))).size))
          rename_i hheld
          clear hb1 hheld
          go_wp2_with fail
          go_ret
          exact ⟨ret_bool HR.out.symm, HXB.out.trans (HB1.out.mono HXB.out.size)⟩
        | true =>
          have hwr : IntKind.i64.wrap ((j : Int) + 1 - 1) = (j : Int) := by rw [Int.add_sub_cancel]; exact IntWalk.i64_in _ (by omega)
          have hwr2 : IntKind.i64.wrap (j : Int) = (j : Int) := IntWalk.i64_in _ (by omega)
          have hj0 : (0 : Int) ≤ (j : Int) := by omega
          have hj1 : (j : Int) < (x.length : Int) := by omega
          have hj2 : ((j : Int)).toNat = j := by omega
          by_cases hr : r < 0
          · have HR := Lib.hid (HGD.out (by rw [decide_eq_true hr]; rfl))
            have hrd : decide (0 ≤ r) = false := decide_eq_false (by omega)
            clear HBAD HGD
            go_wp2_with fail
            go_region_held3 (fun w' => w'.cell? ⟨b, o + j * 2, none⟩ = some (.int .i64 g0) ∧ w'.cell? ⟨b, o + j * 2 + 1, none⟩ = some (.int .i64 g1) ∧ w'.cell? ⟨wr.heap.size, 0, none⟩ = some (.int .i64 p0) ∧ w'.cell? ⟨wr.heap.size, 1, none⟩ = some (.int .i64 p1) ∧ w'.cell? ⟨w.heap.size, 0, none⟩ = some (.slice (some ⟨b, o, none⟩) x.length c))
              (first | go_keep | (rw [hb1.cell (p := ⟨b, o + j * 2, none⟩) (by have h := HBW.out; (try simp); try omega), hb1.cell (p := ⟨b, o + j * 2 + 1, none⟩) (by have h := HBW.out; (try simp); try omega), hb1.cell (p := ⟨wr.heap.size, 0, none⟩) (by have h := HRW.out; (try simp); try omega), hb1.cell (p := ⟨wr.heap.size, 1, none⟩) (by have h := HRW.out; (try simp); try omega), hb1.cell (p := ⟨w.heap.size, 0, none⟩) (by have h := HWW.out; (try simp); try omega)]; first | assumption | exact ⟨by assumption, by assumption, by assumption, by assumption, by assumption⟩) | (rw [hb2.cell (p := ⟨b, o + j * 2, none⟩) (by have h := HBW.out; have h1 := hb1.size; (try simp at h1); (try simp); try omega), hb2.cell (p := ⟨b, o + j * 2 + 1, none⟩) (by have h := HBW.out; have h1 := hb1.size; (try simp at h1); (try simp); try omega), hb2.cell (p := ⟨wr.heap.size, 0, none⟩) (by have h := HRW.out; have h1 := hb1.size; (try simp at h1); (try simp); try omega), hb2.cell (p := ⟨wr.heap.size, 1, none⟩) (by have h := HRW.out; have h1 := hb1.size; (try simp at h1); (try simp); try omega), hb2.cell (p := ⟨w.heap.size, 0, none⟩) (by have h := HWW.out; have h1 := hb1.size; (try simp at h1); (try simp); try omega)]; first | assumption | exact ⟨by assumption, by assumption, by assumption, by assumption, by assumption⟩))
              (first | (go_at_call 101; (with_reducible refine (HI.out _).mono ?_); rintro e w1 ⟨rfl, hb1⟩) | (go_at_call 102; (with_reducible refine (HC.out _).mono ?_); rintro e w2 ⟨rfl, hb2⟩))
            have HB1 := Lib.hid ((belDr (bel_to HB.out (box1 wr (.cells #[.int .i64 p0, .int .i64 p1] 56)))).trans (hb1.mono (bel_to HB.out (box1 wr (.cells #[.int .i64 p0, .int .i64 p1] 56))).size))
            have HB2 := Lib.hid (HB1.out.trans (hb2.mono HB1.out.size))
            rename_i hheld
            clear hb1 hb2 hheld
            go_wp2_with fail
            exact ⟨⟨j + 1 + 1, by omega, by go_num, HR.out, HB2.out⟩, by simp [intOf]; omega⟩
          · have HR := Lib.hid (HBAD.out (by rw [decide_eq_false hr]; rfl))
            have hr0 : 0 ≤ r := by omega
            clear HBAD HGD
            go_wp2_with fail
            go_region_held3 (fun w' => w'.cell? ⟨b, o + j * 2, none⟩ = some (.int .i64 g0) ∧ w'.cell? ⟨b, o + j * 2 + 1, none⟩ = some (.int .i64 g1) ∧ w'.cell? ⟨wr.heap.size, 0, none⟩ = some (.int .i64 p0) ∧ w'.cell? ⟨wr.heap.size, 1, none⟩ = some (.int .i64 p1) ∧ w'.cell? ⟨w.heap.size, 0, none⟩ = some (.slice (some ⟨b, o, none⟩) x.length c))
              (first | go_keep | (rw [hb1.cell (p := ⟨b, o + j * 2, none⟩) (by have h := HBW.out; (try simp); try omega), hb1.cell (p := ⟨b, o + j * 2 + 1, none⟩) (by have h := HBW.out; (try simp); try omega), hb1.cell (p := ⟨wr.heap.size, 0, none⟩) (by have h := HRW.out; (try simp); try omega), hb1.cell (p := ⟨wr.heap.size, 1, none⟩) (by have h := HRW.out; (try simp); try omega), hb1.cell (p := ⟨w.heap.size, 0, none⟩) (by have h := HWW.out; (try simp); try omega)]; first | assumption | exact ⟨by assumption, by assumption, by assumption, by assumption, by assumption⟩) | (rw [hb2.cell (p := ⟨b, o + j * 2, none⟩) (by have h := HBW.out; have h1 := hb1.size; (try simp at h1); (try simp); try omega), hb2.cell (p := ⟨b, o + j * 2 + 1, none⟩) (by have h := HBW.out; have h1 := hb1.size; (try simp at h1); (try simp); try omega), hb2.cell (p := ⟨wr.heap.size, 0, none⟩) (by have h := HRW.out; have h1 := hb1.size; (try simp at h1); (try simp); try omega), hb2.cell (p := ⟨wr.heap.size, 1, none⟩) (by have h := HRW.out; have h1 := hb1.size; (try simp at h1); (try simp); try omega), hb2.cell (p := ⟨w.heap.size, 0, none⟩) (by have h := HWW.out; have h1 := hb1.size; (try simp at h1); (try simp); try omega)]; first | assumption | exact ⟨by assumption, by assumption, by assumption, by assumption, by assumption⟩))
              (first | (go_at_call 101; (with_reducible refine (HI.out _).mono ?_); rintro e w1 ⟨rfl, hb1⟩) | (go_at_call 102; (with_reducible refine (HC.out _).mono ?_); rintro e w2 ⟨rfl, hb2⟩))
            have HB1 := Lib.hid ((belDr (bel_to HB.out (box1 wr (.cells #[.int .i64 p0, .int .i64 p1] 56)))).trans (hb1.mono (bel_to HB.out (box1 wr (.cells #[.int .i64 p0, .int .i64 p1] 56))).size))
            have HB2 := Lib.hid (HB1.out.trans (hb2.mono HB1.out.size))
            rename_i hheld
            clear hb1 hb2 hheld
            go_wp2_with fail
            go_ret
            exact ⟨ret_bool HR.out.symm, HXB.out.trans (HB2.out.mono HXB.out.size)⟩
    · have HN := Lib.hid (show versB x = decide (x.length ≤ 4) from by
        have hke : k = x.length := by omega
        have h := HT.out
        rw [hke] at h
        exact versB_end x h)
      by_cases h4 : x.length ≤ 4
      · have HR := Lib.hid (show (isF fc && versB x) = isF fc by rw [HN.out, decide_eq_true h4, Bool.and_true])
        have h4i : (x.length : Int) ≤ 4 := by omega
        go_wp2_with (go_at_call 103; (with_reducible refine (HIF.out _).mono ?_); rintro e w' ⟨rfl, rfl⟩)
        go_ret
        exact ⟨ret_bool (by rw [HR.out]), HXB.out.trans (HB.out.mono HXB.out.size)⟩
      · have HR := Lib.hid (show (isF fc && versB x) = false by rw [HN.out, decide_eq_false h4, Bool.and_false])
        have h4i : 4 < (x.length : Int) := by omega
        go_wp2_with (go_at_call 103; (with_reducible refine (HIF.out _).mono ?_); rintro e w' ⟨rfl, rfl⟩)
        go_ret
        exact ⟨ret_bool (by rw [HR.out]), HXB.out.trans (HB.out.mono HXB.out.size)⟩
theorem specIsOffer_b (v : Value) (x : OfferD) (r : Bool) (h : offerB x = r) (w : World) (hx : OfferAt w v x) :
    Calls Try.prog 59 #[v] w fun e w' => e = .returned (.bool r) ∧ Below w.heap.size w w' := by subst h; exact specIsOffer_any v x w hx
end Go.Proofs.Ytaihdjdaamglnaa
/- The draws of chapter 5: offers. -/
namespace Go.Proofs.Ytaihdjdaamglnaa
set_option linter.unusedVariables false
set_option linter.unusedSimpArgs false
open Go.RowKit
theorem I64p_bd {x : Int} (h0 : -1000 ≤ x) (h1 : x ≤ 1000) : I64p x := by unfold I64p; omega
def okO (d : OfferD) : Prop := d.fVersions.length ≤ 5 ∧ (∀ c ∈ d.fVersions, okV c) ∧ I64p d.fFace
def DrawnOffer (b : Nat) (v : Value) (l : List UInt8) (w : World) (e : Ending) (w' : World) : Prop := ∃ d vv, e = .returned (.agg #[vv, .int .i64 d.fFace]) ∧ OwnsF cVersion 56 2 w' w.heap.size vv d.fVersions ∧ okO d ∧ w.grownBy w' (some b) ∧ Cur w' b v l
/-- an offer that is being drawn: its variable in block B, the version's in C, the result's in R -/
structure OSt (w : World) (b : Nat) (v : Value) (l : List UInt8) (R B C : Nat) (f : Int) (vs : List VersionD) (vv : Value) (x y : Int) (wx : World) : Prop where
  grown : w.grownBy wx (some b)
  cur : Cur wx b v l
  res : Bx wx R [.slice none 0 0, .int .i64 0]
  box : Bx wx B [vv, .int .i64 f]
  ver : Bx wx C [.int .i64 x, .int .i64 y]
  own : OwnsF cVersion 56 2 wx (C + 1) vv vs
  bw : b < w.heap.size
  wR : w.heap.size ≤ R
  RB : R < B
  BC : B < C
theorem OSt.draw {w : World} {b : Nat} {v : Value} {l : List UInt8} {R B C : Nat} {f : Int} {vs : List VersionD} {vv : Value} {x y : Int} {wx w' : World} (h : OSt w b v l R B C f vs vv x y wx) (hg : wx.grownBy w' (some b)) (hC : Cur w' b v l) : OSt w b v l R B C f vs vv x y w' := by
  have h1 := h.bw; have h2 := h.wR; have h3 := h.RB; have h4 := h.BC
  exact ⟨grown_trans h.grown hg, hC, bx_gr h.res hg (by omega), bx_gr h.box hg (by omega), bx_gr h.ver hg (by omega), ownsF_gr h.own hg (by omega), h1, h2, h3, h4⟩
theorem OSt.below {w : World} {b : Nat} {v : Value} {l : List UInt8} {R B C : Nat} {f : Int} {vs : List VersionD} {vv : Value} {x y : Int} {wx w' : World} (h : OSt w b v l R B C f vs vv x y wx) (hb : Below wx.heap.size wx w') : OSt w b v l R B C f vs vv x y w' :=
  ⟨grown_below h.grown hb h.grown.size, h.cur.below hb h.cur.lt, h.res.below hb, h.box.below hb, h.ver.below hb, ownsF_below h.own hb (Nat.le_refl _), h.bw, h.wR, h.RB, h.BC⟩
theorem OSt.drew {w : World} {b : Nat} {v : Value} {l : List UInt8} {R B C : Nat} {f : Int} {vs : List VersionD} {vv : Value} {x y : Int} {wx : World} (h : OSt w b v l R B C f vs vv x y wx) : OSt w b v l R B C f vs vv x y wx.drew := h.below ((Below.refl _ _).drew)
theorem OSt.setF {w : World} {b : Nat} {v : Value} {l : List UInt8} {R B C : Nat} {f : Int} {vs : List VersionD} {vv : Value} {x y : Int} {wx : World} (h : OSt w b v l R B C f vs vv x y wx) (g : Int) : OSt w b v l R B C g vs vv x y (wx.setCell ⟨B, 1, none⟩ (.int .i64 g)) := by
  have h1 := h.bw; have h2 := h.wR; have h3 := h.RB; have h4 := h.BC
  exact ⟨gr_set h.grown (by omega) _ _, cur_so h.cur (by omega) _ _, h.res.other (by omega) _ _, h.box.set 1 (by simp) _, h.ver.other (by omega) _ _, ownsF_so h.own (ownsF_ne h.own (by omega)) _ _, h1, h2, h3, h4⟩
theorem OSt.set1 {w : World} {b : Nat} {v : Value} {l : List UInt8} {R B C : Nat} {f : Int} {vs : List VersionD} {vv : Value} {x y : Int} {wx : World} (h : OSt w b v l R B C f vs vv x y wx) (g : Int) : OSt w b v l R B C f vs vv x g (wx.setCell ⟨C, 1, none⟩ (.int .i64 g)) := by
  have h1 := h.bw; have h2 := h.wR; have h3 := h.RB; have h4 := h.BC
  exact ⟨gr_set h.grown (by omega) _ _, cur_so h.cur (by omega) _ _, h.res.other (by omega) _ _, h.box.other (by omega) _ _, h.ver.set 1 (by simp) _, ownsF_so h.own (ownsF_ne h.own (by omega)) _ _, h1, h2, h3, h4⟩
theorem OSt.set0 {w : World} {b : Nat} {v : Value} {l : List UInt8} {R B C : Nat} {f : Int} {vs : List VersionD} {vv : Value} {x y : Int} {wx : World} (h : OSt w b v l R B C f vs vv x y wx) (g : Int) : OSt w b v l R B C f vs vv g y (wx.setCell ⟨C, 0, none⟩ (.int .i64 g)) := by
  have h1 := h.bw; have h2 := h.wR; have h3 := h.RB; have h4 := h.BC
  exact ⟨gr_set h.grown (by omega) _ _, cur_so h.cur (by omega) _ _, h.res.other (by omega) _ _, h.box.other (by omega) _ _, h.ver.set 0 (by simp) _, ownsF_so h.own (ownsF_ne h.own (by omega)) _ _, h1, h2, h3, h4⟩
/-- the row is stored -/
theorem OSt.setV {w : World} {b : Nat} {v : Value} {l : List UInt8} {R B C : Nat} {f : Int} {vs' : List VersionD} {vv u : Value} {x y : Int} {wx : World} (hg : w.grownBy wx (some b)) (hC : Cur wx b v l) (hr : Bx wx R [.slice none 0 0, .int .i64 0]) (hb : Bx wx B [vv, .int .i64 f]) (hc : Bx wx C [.int .i64 x, .int .i64 y])
    (ho : OwnsF cVersion 56 2 wx (C + 1) u vs') (h1 : b < w.heap.size) (h2 : w.heap.size ≤ R) (h3 : R < B) (h4 : B < C) : OSt w b v l R B C f vs' u x y (wx.setCell ⟨B, 0, none⟩ u) :=
  ⟨gr_set hg (by omega) _ _, cur_so hC (by omega) _ _, hr.other (by omega) _ _, hb.set 0 (by simp) _, hc.other (by omega) _ _, ownsF_so ho (ownsF_ne ho (by omega)) _ _, h1, h2, h3, h4⟩
/-- behind an append to the row -/
theorem OSt.app {w : World} {b : Nat} {v : Value} {l : List UInt8} {R B C : Nat} {f : Int} {vs vs' : List VersionD} {vv u : Value} {x y : Int} {wx w' : World} (h : OSt w b v l R B C f vs vv x y wx) (hg : wx.grownBy w' vv.ownBlock) (ho : OwnsF cVersion 56 2 w' (C + 1) u vs') : OSt w b v l R B C f vs' u x y (w'.setCell ⟨B, 0, none⟩ u) := by
  have h1 := h.bw; have h2 := h.wR; have h3 := h.RB; have h4 := h.BC
  have hge : ∀ g, vv.ownBlock = some g → C + 1 ≤ g := fun g e => (World.ownsRow.lt h.own g e).1
  exact OSt.setV (gr_own h.grown hg (fun g e => by have := hge g e; omega)) (cur_own h.cur hg (fun g e => by have := hge g e; omega)) (bx_own h.res hg (ownsF_ne h.own (by omega))) (bx_own h.box hg (ownsF_ne h.own (by omega))) (bx_own h.ver hg (ownsF_ne h.own (by omega))) ho h1 h2 h3 h4
theorem OSt.fin {w : World} {b : Nat} {v : Value} {l : List UInt8} {R B C : Nat} {f : Int} {vs : List VersionD} {vv : Value} {x y : Int} {wx : World} (h : OSt w b v l R B C f vs vv x y wx) (hk : okO ⟨vs, f⟩) (u0 u1 : Value) :
    DrawnOffer b v l w (.returned (.agg #[vv, .int .i64 f])) ((wx.setCell ⟨R, 0, none⟩ u0).setCell ⟨R, 1, none⟩ u1) := by
  have h1 := h.bw; have h2 := h.wR; have h3 := h.RB; have h4 := h.BC
  have ho := ownsF_so (ownsF_so h.own (c := R) (ownsF_ne h.own (by omega)) 0 u0) (c := R) (ownsF_ne h.own (by omega)) 1 u1
  exact ⟨⟨vs, f⟩, vv, rfl, ownsF_base ho (by omega), hk, gr_set (gr_set h.grown h2 0 u0) h2 1 u1, cur_so (cur_so h.cur (by omega) 0 u0) (by omega) 1 u1⟩
set_option maxRecDepth 100000 in
set_option maxHeartbeats 6400000 in
theorem l5Offer_any (b : Nat) (v : Value) (l : List UInt8) (w : World) (hC : Cur w b v l) :
    Calls Try.prog 58 #[.pointer (some ⟨b, 0, none⟩)] w fun e w' => DrawnOffer b v l w e w' := by
  have hbl := hC.lt
  have HC0 := Lib.hid (cur_alloc hC (.cells #[.slice none 0 0, .int .i64 0] 52))
  have BR0 := Lib.hid (Bx.new w [.slice none 0 0, .int .i64 0] 52)
  have HG0 := Lib.hid (grown_alloc (grown_refl w (some b)) (.cells #[.slice none 0 0, .int .i64 0] 52))
  clear hC
  go_enter Try.func58, Try.ntmps58
  go_wp2_with fail
  refine (l2Face_any b v l _ HC0.out).mono ?_
  rintro e w1 ⟨f1, rfl, ⟨f10, f11⟩, hg, hC⟩
  have HG1 := Lib.hid (grown_trans HG0.out hg)
  have HC1 := Lib.hid hC
  have BR1 := Lib.hid (bx_gr BR0.out hg (by omega))
  clear hg hC HG0 HC0 BR0
  go_wp2_with fail
  refine (l2Face_any b v l _ HC1.out).mono ?_
  rintro e w2 ⟨f2, rfl, ⟨f20, f21⟩, hg, hC⟩
  have HG2 := Lib.hid (grown_trans HG1.out hg)
  have HC2 := Lib.hid hC
  have BR2 := Lib.hid (bx_gr BR1.out hg (by omega))
  clear hg hC HG1 HC1 BR1
  have hor := or_eq (a := f1) (b := f2) (decide_eq_true ⟨f10, f11⟩) (decide_eq_true ⟨f20, f21⟩)
  have hfb := madeK_6 (eitherP f1 f2)
  rw [← hor] at hfb
  obtain ⟨hf0, hf1⟩ := hfb
  clear hor f10 f11 f20 f21
  have hRl : w.heap.size < w2.heap.size := BR2.out.lt
  have HG3 := Lib.hid (grown_alloc HG2.out (.cells #[.slice none 0 0, .int .i64 (bits .or .i64 f1 f2)] 52))
  have HC3 := Lib.hid (cur_alloc HC2.out (.cells #[.slice none 0 0, .int .i64 (bits .or .i64 f1 f2)] 52))
  have BR3 := Lib.hid (BR2.out.alloc (.cells #[.slice none 0 0, .int .i64 (bits .or .i64 f1 f2)] 52))
  have BB3 := Lib.hid (Bx.new w2 [.slice none 0 0, .int .i64 (bits .or .i64 f1 f2)] 52)
  clear HG2 HC2 BR2
  go_wp2_with fail
  generalize bits .or .i64 f1 f2 = f at *
  refine (l1Below_any b v l _ _ HC3.out (by omega) (by omega)).mono ?_
  rintro e w4 ⟨x, rfl, ⟨x0, x1, x2⟩, hg, hC⟩
  have x3 := x2 (by omega)
  have HG4 := Lib.hid (grown_trans HG3.out hg)
  have HC4 := Lib.hid hC
  have BR4 := Lib.hid (bx_gr BR3.out hg (by omega))
  have BB4 := Lib.hid (bx_gr BB3.out hg (by omega))
  clear hg hC HG3 HC3 BR3 BB3 x1 x2
  go_wp2_with fail
  refine (l1Below_any b v l _ _ HC4.out (by omega) (by omega)).mono ?_
  rintro e w5 ⟨y, rfl, ⟨y0, y1, y2⟩, hg, hC⟩
  have y3 := y2 (by omega)
  have HG5 := Lib.hid (grown_trans HG4.out hg)
  have HC5 := Lib.hid hC
  have BR5 := Lib.hid (bx_gr BR4.out hg (by omega))
  have BB5 := Lib.hid (bx_gr BB4.out hg (by omega))
  have hBl := BB5.out.lt
  clear hg hC HG4 HC4 BR4 BB4 y1 y2
  have S := Lib.hid (show OSt w b v l w.heap.size w2.heap.size w5.heap.size f [] (.slice none 0 0) x y (w5.alloc (.cells #[.int .i64 x, .int .i64 y] 56)) from ⟨grown_alloc HG5.out _, cur_alloc HC5.out _, BR5.out.alloc _, BB5.out.alloc _, Bx.new w5 [.int .i64 x, .int .i64 y] 56, ownsF_no _ _ _ _ _, hbl, Nat.le_refl _, hRl, hBl⟩)
  clear HG5 HC5 BR5 BB5 hBl hRl
  go_wp2_with fail
  generalize w5.alloc (.cells #[.int .i64 x, .int .i64 y] 56) = w6 at *
  generalize w5.heap.size = C at *
  generalize w2.heap.size = B at *
  refine (l1Below_any b v l _ _ S.out.cur (by omega) (by omega)).mono ?_
  rintro e w7 ⟨n, rfl, ⟨n0, n1, n2⟩, hg, hC⟩
  have n3 := n2 (by omega)
  have S := Lib.hid (S.out.draw hg hC)
  clear hg hC n1 n2
  go_wp2_with fail
  go_loopw [5] (fun nv wr => ∃ (n x y : Int) (u : Value) (z : List VersionD), nv = .int .i64 n ∧ 0 ≤ n ∧ (z.length : Int) + n ≤ 4 ∧ 0 ≤ x ∧ x + n ≤ 6 ∧ 0 ≤ y ∧ y + n ≤ 6 ∧ (∀ c ∈ z, okV c) ∧ OSt w b v l w.heap.size B C f z u x y wr) (fun nv _ => (intOf nv).toNat)
  case atStart => exact ⟨n, x, y, _, [], rfl, by omega, by simp; omega, by omega, by omega, by omega, by omega, by simp, S.out⟩
  case round =>
    clear S x0 x3 y0 y3 n0 n3
    obtain ⟨n, x, y, u, z, rfl, n0, n4, x0, x6, y0, y6, hz, hS⟩ := hrel
    have S := Lib.hid hS
    have HZ := Lib.hid hz
    clear hS hz
    by_cases hp : 0 < n
    · have BB := Lib.hid S.out.box
      have BC := Lib.hid S.out.ver
      have p0 := BB.out.cell 0 (by simp)
      have p1 := BB.out.cell 1 (by simp)
      simp only [List.getElem_cons_zero, List.getElem_cons_succ] at p0 p1
      have q0 := BB.out.froz 0 (by simp)
      have q1 := BB.out.froz 1 (by simp)
      have r0 := BC.out.cell 0 (by simp)
      have r1 := BC.out.cell 1 (by simp)
      simp only [List.getElem_cons_zero, List.getElem_cons_succ] at r0 r1
      have lB := BB.out.lt
      have lC := BC.out.lt
      have SA := Lib.hid (fun o => S.out.below (bx_box _ o))
      have HZ2 := Lib.hid (show ∀ c ∈ z ++ [(⟨x, y⟩ : VersionD)], okV c from fun c hc => by
        rcases List.mem_append.1 hc with h | h
        · exact HZ.out c h
        · rw [List.mem_singleton.1 h]; exact okV_of (I64p_bd (by omega) (by omega)) (I64p_bd (by omega) (by omega)))
      have HZL := Lib.hid (show z.length ≤ 4194304 by omega)
      have HCA := Lib.hid (show C + 1 ≤ (wr.alloc (.cells #[.int .i64 x, .int .i64 y] 56)).heap.size by simp; omega)
      have SB := Lib.hid (SA.out (.cells #[.int .i64 x, .int .i64 y] 56))
      go_wp2_with (at_builtin; (refine append_verN rfl _ _ rfl (C + 1) u z ⟨x, y⟩ (wr.alloc (.cells #[.int .i64 x, .int .i64 y] 56)) wr.heap.size rfl SB.out.own rfl (ver_newN wr ⟨x, y⟩ _ rfl) HZL.out HCA.out ?_; intro v' w' ho hgr; obtain ⟨ub, ud, rfl⟩ := slice_lenB (m := z.length + 1) ho (by simp); have S2 := Lib.hid (SB.out.app hgr ho); have BN := Lib.hid (bx_own SB.out.box hgr (ownsF_ne SB.out.own (by have := S.out.BC; omega))); clear ho hgr; have e0 := BN.out.cell 0 (by simp); have z0 := BN.out.froz 0 (by simp); simp only [List.getElem_cons_zero, List.getElem_cons_succ] at e0))
      clear SA SB p0 p1 q0 q1 r0 r1 BB BC BN e0 z0 S HZ
      generalize w'.setCell ⟨B, 0, none⟩ (.slice ub (z.length + 1) ud) = w8 at *
      refine (l1Once_any b v l _ _ S2.out.cur (by omega) (by omega)).mono ?_
      rintro e w9 ⟨o, rfl, hg, hC⟩
      have S := Lib.hid (S2.out.draw hg hC)
      clear hg hC S2
      have BC := Lib.hid S.out.ver
      have r0 := BC.out.cell 0 (by simp)
      have r1 := BC.out.cell 1 (by simp)
      simp only [List.getElem_cons_zero, List.getElem_cons_succ] at r0 r1
      have t0 := BC.out.froz 0 (by simp)
      have t1 := BC.out.froz 1 (by simp)
      cases o
      case false =>
        have hy1 : IntKind.i64.wrap (y + 1) = y + 1 := by rw [IntKind.wrap_i64]; omega
        have S3 := Lib.hid (S.out.set1 (y + 1))
        go_wp2_with fail
        exact ⟨⟨n - 1, x, y + 1, _, _, by go_num, by omega, by simp; omega, by omega, by omega, by omega, by omega, HZ2.out, S3.out⟩, by simp [intOf]; omega⟩
      case true =>
        have hx1 : IntKind.i64.wrap (x + 1) = x + 1 := by rw [IntKind.wrap_i64]; omega
        go_wp2_with fail
        have S := Lib.hid S.out.drew
        clear r0 r1 t0 t1 BC
        refine region_T (S := fun w' => w'.cell? ⟨C, 0, none⟩ = some (.int .i64 x)) (t := 6) (by kernel_rfl) ?_ (fun hHeld => ?_)
        · exact S.out.ver.cell 0 (by simp)
        refine anyT_take (i := 0) (v := ?_) rfl (by kernel_rfl) (by kernel_rfl) (by kernel_rfl) (by kernel_rfl) (by kernel_rfl) (fun _ _ _ h => h) (Or.inl ⟨by rfl, ?_⟩) (by assumption) ?_
        rotate_left
        · intro w hSw; (try dsimp only at hSw); go_simp; with_reducible rfl
        try simp only [Act.put, List.getElem_toArray, List.getElem_cons_zero, List.getElem_cons_succ, List.setIfInBounds_toArray, List.set_cons_zero, List.set_cons_succ]
        refine anyT_take (i := 1) (v := ?_) rfl (by kernel_rfl) (by kernel_rfl) (by kernel_rfl) (by kernel_rfl) (by kernel_rfl) (fun _ _ _ h => h) (Or.inl ⟨by rfl, ?_⟩) (by assumption) ?_
        rotate_left
        · intro w hSw; (try dsimp only at hSw); go_simp; with_reducible rfl
        try simp only [Act.put, List.getElem_toArray, List.getElem_cons_zero, List.getElem_cons_succ, List.setIfInBounds_toArray, List.set_cons_zero, List.set_cons_succ]
        refine anyT_take (i := 2) (v := ?_) rfl (by kernel_rfl) (by kernel_rfl) (by kernel_rfl) (by kernel_rfl) (by kernel_rfl) (fun _ _ _ h => h) (Or.inl ⟨by rfl, ?_⟩) (by assumption) ?_
        rotate_left
        · intro w hSw; (try dsimp only at hSw); go_simp; with_reducible rfl
        try simp only [Act.put, List.getElem_toArray, List.getElem_cons_zero, List.getElem_cons_succ, List.setIfInBounds_toArray, List.set_cons_zero, List.set_cons_succ]
        refine anyT_take (i := 3) (v := ?_) rfl (by kernel_rfl) (by kernel_rfl) (by kernel_rfl) (by kernel_rfl) (by kernel_rfl) (fun _ _ _ h => h) (Or.inl ⟨by rfl, ?_⟩) (by assumption) ?_
        rotate_left
        · intro w hSw; (try dsimp only at hSw); go_simp; with_reducible rfl
        try simp only [Act.put, List.getElem_toArray, List.getElem_cons_zero, List.getElem_cons_succ, List.setIfInBounds_toArray, List.set_cons_zero, List.set_cons_succ]
        refine anyT_only (i := 4) (by kernel_rfl) rfl (fun K hK => ?_)
        go_simp
        go_at_call 56; refine (l1Below_any b v l _ _ S.out.cur (by omega) (by omega)).mono ?_; rintro e w10 ⟨m, rfl, ⟨m0, m1, m2⟩, hg, hC⟩; have m3 := m2 (by omega); have S := Lib.hid (S.out.draw hg hC); clear hg hC
        refine hK.out _ _ ?_ (fun hHeld => ?_)
        · exact S.out.ver.cell 0 (by simp)
        clear hK K
        try simp only [Act.put, List.getElem_toArray, List.getElem_cons_zero, List.getElem_cons_succ, List.setIfInBounds_toArray, List.set_cons_zero, List.set_cons_succ]
        refine anyT_take (i := 5) (v := ?_) rfl (by kernel_rfl) (by kernel_rfl) (by kernel_rfl) (by kernel_rfl) (by kernel_rfl) (fun _ _ _ h => h) (Or.inl ⟨by rfl, ?_⟩) (by assumption) ?_
        rotate_left
        · intro w hSw; (try dsimp only at hSw); go_simp; with_reducible rfl
        try simp only [Act.put, List.getElem_toArray, List.getElem_cons_zero, List.getElem_cons_succ, List.setIfInBounds_toArray, List.set_cons_zero, List.set_cons_succ]
        have BC := Lib.hid S.out.ver
        have r0 := BC.out.cell 0 (by simp)
        have r1 := BC.out.cell 1 (by simp)
        simp only [List.getElem_cons_zero, List.getElem_cons_succ] at r0 r1
        have t0 := BC.out.froz 0 (by simp)
        have t1 := BC.out.froz 1 (by simp)
        have S3 := Lib.hid ((S.out.set0 (x + 1)).set1 m)
        refine anyT_tail (by kernel_rfl) rfl (fun K hK => ?_)
        go_simp
        refine hK.out _ _ ?_
        clear hK K
        try simp only [Act.put, List.getElem_toArray, List.getElem_cons_zero, List.getElem_cons_succ, List.setIfInBounds_toArray, List.set_cons_zero, List.set_cons_succ]
        refine anyT_done (by kernel_rfl) ?_ _
        go_wp2_with fail
        exact ⟨⟨n - 1, x + 1, m, _, _, by go_num, by omega, by simp; omega, by omega, by omega, by omega, by omega, HZ2.out, S3.out⟩, by simp [intOf]; omega⟩
    · have hn : n = 0 := by omega
      subst hn
      obtain ⟨ua, uc, rfl⟩ := slice_of S.out.own
      have hzl : z.length ≤ 4 := by omega
      go_wp2_with fail
      refine (l1Below_any b v l _ _ S.out.cur (by omega) (by omega)).mono ?_
      rintro e w8 ⟨k, rfl, ⟨k0, k1, k2⟩, hg, hC⟩
      have S := Lib.hid (S.out.draw hg hC)
      clear hg hC k1 k2
      by_cases e0 : k = 0
      · subst e0
        go_wp2_with fail
        have S := Lib.hid S.out.drew
        refine region_T (S := fun w' => w'.cell? ⟨B, 0, none⟩ = some (.slice ua z.length uc)) (t := 7) (by kernel_rfl) ?_ (fun hHeld => ?_)
        · exact S.out.box.cell 0 (by simp)
        refine anyT_take (i := 0) (v := ?_) rfl (by kernel_rfl) (by kernel_rfl) (by kernel_rfl) (by kernel_rfl) (by kernel_rfl) (fun _ _ _ h => h) (Or.inl ⟨by rfl, ?_⟩) (by assumption) ?_
        rotate_left
        · intro w hSw; (try dsimp only at hSw); go_simp; with_reducible rfl
        try simp only [Act.put, List.getElem_toArray, List.getElem_cons_zero, List.getElem_cons_succ, List.setIfInBounds_toArray, List.set_cons_zero, List.set_cons_succ]
        refine anyT_take (i := 2) (v := ?_) rfl (by kernel_rfl) (by kernel_rfl) (by kernel_rfl) (by kernel_rfl) (by kernel_rfl) (fun _ _ _ h => h) (Or.inl ⟨by rfl, ?_⟩) (by assumption) ?_
        rotate_left
        · intro w hSw; (try dsimp only at hSw); go_simp; with_reducible rfl
        try simp only [Act.put, List.getElem_toArray, List.getElem_cons_zero, List.getElem_cons_succ, List.setIfInBounds_toArray, List.set_cons_zero, List.set_cons_succ]
        refine anyT_take (i := 1) (v := ?_) rfl (by kernel_rfl) (by kernel_rfl) (by kernel_rfl) (by kernel_rfl) (by kernel_rfl) (fun _ _ _ h => h) (Or.inl ⟨by rfl, ?_⟩) (by assumption) ?_
        rotate_left
        · intro w hSw; (try dsimp only at hSw); go_simp; with_reducible rfl
        try simp only [Act.put, List.getElem_toArray, List.getElem_cons_zero, List.getElem_cons_succ, List.setIfInBounds_toArray, List.set_cons_zero, List.set_cons_succ]
        refine anyT_only (i := 3) (by kernel_rfl) rfl (fun K hK => ?_)
        go_simp
        go_at_call 100; refine (l5Any_any b v l _ S.out.cur).mono ?_; rintro e w9 ⟨⟨p, q⟩, rfl, hpq, hg, hC⟩; have S := Lib.hid (S.out.draw hg hC); clear hg hC; unfold vVersion
        refine hK.out _ _ ?_ (fun hHeld => ?_)
        · exact S.out.box.cell 0 (by simp)
        clear hK K
        try simp only [Act.put, List.getElem_toArray, List.getElem_cons_zero, List.getElem_cons_succ, List.setIfInBounds_toArray, List.set_cons_zero, List.set_cons_succ]
        refine anyT_only (i := 4) (by kernel_rfl) rfl (fun K hK => ?_)
        go_simp
        have hba := bx_box w9 (.cells #[.int .i64 p, .int .i64 q] 56); have S7 := Lib.hid (S.out.below hba)
        refine hK.out _ _ ?_ (fun hHeld => ?_)
        · exact S7.out.box.cell 0 (by simp)
        clear hK K
        try simp only [Act.put, List.getElem_toArray, List.getElem_cons_zero, List.getElem_cons_succ, List.setIfInBounds_toArray, List.set_cons_zero, List.set_cons_succ]
        refine anyT_only (i := 5) (by kernel_rfl) rfl (fun K hK => ?_)
        refine step_flat cVersion_len cVersion_one infoVersion rfl (by decide) (by decide) Try.underlying50 rfl (.tmp 46) (.tmp 49) rfl (C + 1) (.slice ua z.length uc) z (⟨p, q⟩ : VersionD) _ w9.heap.size rfl S7.out.own rfl (ver_newN w9 (⟨p, q⟩ : VersionD) _ rfl) (by omega) (by have := S.out.ver.lt; simp; omega) ?_
        intro u w10 ho hgr hne
        have S9 := Lib.hid (S7.out.app hgr ho)
        have BN := Lib.hid (bx_own S7.out.box hgr (ownsF_ne S7.out.own (by have := S.out.BC; omega)))
        refine hK.out _ _ ?_ (fun hHeld => ?_)
        · exact BN.out.cell 0 (by simp)
        clear hK K
        try simp only [Act.put, List.getElem_toArray, List.getElem_cons_zero, List.getElem_cons_succ, List.setIfInBounds_toArray, List.set_cons_zero, List.set_cons_succ]
        have HZ2 := Lib.hid (show ∀ c ∈ z ++ [(⟨p, q⟩ : VersionD)], okV c from fun c hc => by
          rcases List.mem_append.1 hc with h | h
          · exact HZ.out c h
          · rw [List.mem_singleton.1 h]; exact hpq)
        have hz5 : (z ++ [(⟨p, q⟩ : VersionD)]).length ≤ 5 := by simp; omega
        generalize z ++ [(⟨p, q⟩ : VersionD)] = zz at *
        obtain ⟨ub, ud, rfl⟩ := slice_of ho
        have BR := Lib.hid (bx_own S7.out.res hgr (ownsF_ne S7.out.own (by have := S.out.BC; have := S.out.RB; omega)))
        clear ho hgr hne
        have p0 := BN.out.cell 0 (by simp)
        have p1 := BN.out.cell 1 (by simp)
        simp only [List.getElem_cons_zero, List.getElem_cons_succ] at p0 p1
        have q0 := BN.out.froz 0 (by simp)
        have q1 := BN.out.froz 1 (by simp)
        have r0 := BR.out.cell 0 (by simp)
        have r1 := BR.out.cell 1 (by simp)
        simp only [List.getElem_cons_zero, List.getElem_cons_succ] at r0 r1
        have t0 := BR.out.froz 0 (by simp)
        have t1 := BR.out.froz 1 (by simp)
        have lB := BN.out.lt
        have lR := BR.out.lt
        have hRB := S9.out.RB
        refine anyT_take (i := 6) (v := ?_) rfl (by kernel_rfl) (by kernel_rfl) (by kernel_rfl) (by kernel_rfl) (by kernel_rfl) (fun _ _ _ h => h) (Or.inl ⟨by rfl, ?_⟩) (by assumption) ?_
        rotate_left
        · intro w hSw; (try dsimp only at hSw); go_simp; with_reducible rfl
        try simp only [Act.put, List.getElem_toArray, List.getElem_cons_zero, List.getElem_cons_succ, List.setIfInBounds_toArray, List.set_cons_zero, List.set_cons_succ]
        refine anyT_tail (by kernel_rfl) rfl (fun K hK => ?_)
        go_simp
        refine hK.out _ _ ?_
        clear hK K
        try simp only [Act.put, List.getElem_toArray, List.getElem_cons_zero, List.getElem_cons_succ, List.setIfInBounds_toArray, List.set_cons_zero, List.set_cons_succ]
        refine anyT_done (by kernel_rfl) ?_ _
        go_wp2_with fail
        refine bodyPost_ret (v := .agg #[.slice ub zz.length ud, .int .i64 f]) (by simp [results, Try.results58, go_sem, cell_set_at, cell_set_ne, r0, r1]) rfl ?_
        exact OSt.fin S9.out ⟨hz5, HZ2.out, show I64p f from I64p_bd (by omega) (by omega)⟩ _ _
      have E0 : (k == 0) = false := by simpa using e0
      by_cases e1 : k = 1
      · subst e1
        go_wp2_with fail
        refine (l2Any_any b v l _ S.out.cur).mono ?_
        rintro e w9 ⟨g, rfl, hgf, hg, hC⟩
        have S := Lib.hid (S.out.draw hg hC)
        clear hg hC
        have S9 := Lib.hid (S.out.setF g)
        have BB := Lib.hid S.out.box
        have BR := Lib.hid S.out.res
        have p0 := BB.out.cell 0 (by simp)
        have p1 := BB.out.cell 1 (by simp)
        simp only [List.getElem_cons_zero, List.getElem_cons_succ] at p0 p1
        have q0 := BB.out.froz 0 (by simp)
        have q1 := BB.out.froz 1 (by simp)
        have r0 := BR.out.cell 0 (by simp)
        have r1 := BR.out.cell 1 (by simp)
        simp only [List.getElem_cons_zero, List.getElem_cons_succ] at r0 r1
        have t0 := BR.out.froz 0 (by simp)
        have t1 := BR.out.froz 1 (by simp)
        have lB := BB.out.lt
        have lR := BR.out.lt
        have hRB := S.out.RB
        go_wp2_with fail
        refine bodyPost_ret (v := .agg #[.slice ua z.length uc, .int .i64 g]) (by simp [results, Try.results58, go_sem, cell_set_at, cell_set_ne, r0, r1]) rfl ?_
        exact OSt.fin S9.out ⟨by simp only; omega, HZ.out, hgf⟩ _ _
      have E1 : (k == 1) = false := by simpa using e1
      by_cases e2 : k = 2
      · subst e2
        have HLIT := Lib.hid (ownsF_lit (f := cVersion) (E := 56) (k := 2) w8 (C + 1) #[.int .i64 1, .int .i64 0, .int .i64 1, .int .i64 1, .int .i64 1, .int .i64 2, .int .i64 2, .int .i64 0, .int .i64 3, .int .i64 0] [⟨1, 0⟩, ⟨1, 1⟩, ⟨1, 2⟩, ⟨2, 0⟩, ⟨3, 0⟩] rfl cVersion_len (by decide) (by have := S.out.ver.lt; omega))
        have SB := Lib.hid (S.out.below (bx_box w8 (.cells #[.int .i64 1, .int .i64 0, .int .i64 1, .int .i64 1, .int .i64 1, .int .i64 2, .int .i64 2, .int .i64 0, .int .i64 3, .int .i64 0] 56)))
        have S9 := Lib.hid (OSt.setV (u := .slice (some ⟨w8.heap.size, 0, none⟩) 5 5) SB.out.grown SB.out.cur SB.out.res SB.out.box SB.out.ver HLIT.out S.out.bw S.out.wR S.out.RB S.out.BC)
        have HF9 := Lib.hid (OSt.fin S9.out ⟨by simp, by intro c hc; simp only [List.mem_cons, List.not_mem_nil, or_false] at hc; rcases hc with rfl | rfl | rfl | rfl | rfl <;> exact okV_of (I64p_bd (by decide) (by decide)) (I64p_bd (by decide) (by decide)), show I64p f from I64p_bd (by omega) (by omega)⟩ (.slice (some ⟨w8.heap.size, 0, none⟩) 5 5) (.int .i64 f))
        have BB := Lib.hid S.out.box
        have BR := Lib.hid S.out.res
        have lB := BB.out.lt
        have lR := BR.out.lt
        have hRB := S.out.RB
        rw [World.setCell_alloc_past _ _ _ _ lB, World.setCell_alloc_past _ _ _ _ (by simpa using lR), World.setCell_alloc_past _ _ _ _ (by simpa using lR)] at HF9
        have p0 := BB.out.cell 0 (by simp)
        have p1 := BB.out.cell 1 (by simp)
        simp only [List.getElem_cons_zero, List.getElem_cons_succ] at p0 p1
        have q0 := BB.out.froz 0 (by simp)
        have q1 := BB.out.froz 1 (by simp)
        have r0 := BR.out.cell 0 (by simp)
        have r1 := BR.out.cell 1 (by simp)
        simp only [List.getElem_cons_zero, List.getElem_cons_succ] at r0 r1
        have t0 := BR.out.froz 0 (by simp)
        have t1 := BR.out.froz 1 (by simp)
        go_wp2_with fail
        refine bodyPost_ret (v := .agg #[.slice (some ⟨w8.heap.size, 0, none⟩) 5 5, .int .i64 f]) (by simp [results, Try.results58, go_sem, cell_set_at, cell_set_ne, r0, r1, past_cellB, lR]) rfl ?_
        exact HF9.out
      have E2 : (k == 2) = false := by simpa using e2
      clear e0 e1 e2
      have BB := Lib.hid S.out.box
      have BR := Lib.hid S.out.res
      have p0 := BB.out.cell 0 (by simp)
      have p1 := BB.out.cell 1 (by simp)
      simp only [List.getElem_cons_zero, List.getElem_cons_succ] at p0 p1
      have q0 := BB.out.froz 0 (by simp)
      have q1 := BB.out.froz 1 (by simp)
      have r0 := BR.out.cell 0 (by simp)
      have r1 := BR.out.cell 1 (by simp)
      simp only [List.getElem_cons_zero, List.getElem_cons_succ] at r0 r1
      have t0 := BR.out.froz 0 (by simp)
      have t1 := BR.out.froz 1 (by simp)
      have lB := BB.out.lt
      have lR := BR.out.lt
      have hRB := S.out.RB
      go_wp2_with fail
      refine bodyPost_ret (v := .agg #[.slice ua z.length uc, .int .i64 f]) (by simp [results, Try.results58, go_sem, cell_set_at, cell_set_ne, r0, r1]) rfl ?_
      exact OSt.fin S.out ⟨by simp only; omega, HZ.out, show I64p f from I64p_bd (by omega) (by omega)⟩ _ _
end Go.Proofs.Ytaihdjdaamglnaa
/- A draw's memory as one predicate: the cursor, variables in blocks of their own, rows of one's own; and what each step leaves of it. -/
namespace Go.Proofs.Ytaihdjdaamglnaa
set_option linter.unusedVariables false
open Go.RowKit
/-- something that is read in memory: the blocks that it lies in, and what keeps it -/
structure Held where
  own : Nat → Prop
  P : World → Prop
  keep : ∀ {w w' : World} {r : Option Nat}, P w → w.grownBy w' r → (∀ g, r = some g → ¬ own g) → P w'
  lt : ∀ {w : World} {g : Nat}, P w → own g → g < w.heap.size
/-- a row of one's own -/
def hRow {α : Type} (f : α → List Value) (E k B : Nat) (v : Value) (l : List α) : Held :=
  ⟨fun g => v.ownBlock = some g, fun w => OwnsF f E k w B v l, fun {w w' r} h hg hne => World.ownsRow.kept h hg (by
    cases hv : v.ownBlock with
    | none => exact Or.inl rfl
    | some g => exact Or.inr fun e => hne g e.symm hv), fun {w g} h hg => (World.ownsRow.lt h g hg).2⟩
/-- what lies in the blocks from F to T, and was read in the world w1 -/
def hSnap (Q : World → Prop) (F : Nat) (w1 : World) (hQ : ∀ {w : World}, (∀ k, F ≤ k → k < w1.heap.size → w.heap[k]? = w1.heap[k]?) → w1.heap.size ≤ w.heap.size → Q w) : Held :=
  ⟨fun g => F ≤ g ∧ g < w1.heap.size, fun w => w1.heap.size ≤ w.heap.size ∧ ∀ k, F ≤ k → k < w1.heap.size → w.heap[k]? = w1.heap[k]?,
    fun {w w' r} h hg hne => ⟨Nat.le_trans h.1 hg.size, fun k h1 h2 => (hg.block k (Nat.lt_of_lt_of_le h2 h.1) (fun e => hne k e.symm ⟨h1, h2⟩)).trans (h.2 k h1 h2)⟩, fun {w g} h hg => Nat.lt_of_lt_of_le hg.2 h.1⟩
structure Bag (w : World) (N b : Nat) (v : Value) (l : List UInt8) (bs : List (Nat × List Value)) (rs : List Held) (wx : World) : Prop where
  os : wx.os = w.os
  tape : wx.tape = w.tape
  output : wx.output = w.output
  size : w.heap.size ≤ wx.heap.size
  block : ∀ k, k < N → k ≠ b → wx.heap[k]? = w.heap[k]?
  nw : N ≤ w.heap.size
  code : l = [] ∨ ∀ a n c, v = .slice (some a) n c → a.block < N
  cur : Cur wx b v l
  box : ∀ p ∈ bs, Bx wx p.1 p.2
  row : ∀ r ∈ rs, r.P wx
  geB : ∀ p ∈ bs, N ≤ p.1 ∧ p.1 ≠ b
  geR : ∀ r ∈ rs, ∀ g, r.own g → N ≤ g ∧ b < g
  sep : ∀ p ∈ bs, ∀ r ∈ rs, ¬ r.own p.1
  dis : bs.Pairwise (fun p q => p.1 ≠ q.1)
  rdis : rs.Pairwise (fun r s => ∀ g, r.own g → ¬ s.own g)
section
variable {w : World} {N b : Nat} {v : Value} {l : List UInt8} {bs : List (Nat × List Value)} {rs : List Held} {wx : World}
theorem Bag.grown (h : Bag w w.heap.size b v l bs rs wx) : w.grownBy wx (some b) := ⟨h.os, h.tape, h.output, h.size, fun k hk hne => h.block k hk (fun e => hne (by rw [e]))⟩
theorem Bag.bel (h : Bag w N b v l bs rs wx) (hb : N ≤ b) : Below N w wx := ⟨h.os, h.tape, h.output, h.size, fun k hk => h.block k hk (by omega)⟩
/-- at the start of a draw -/
theorem bag_start (hC : Cur w b v l) : Bag w w.heap.size b v l [] [] w := by
  refine ⟨rfl, rfl, rfl, Nat.le_refl _, fun _ _ _ => rfl, Nat.le_refl _, ?_, hC, by simp, by simp, by simp, by simp, by simp, List.Pairwise.nil, List.Pairwise.nil⟩
  obtain ⟨_, _, hT, _, _, a, c, rfl, hr⟩ := hC
  refine hr.imp id ?_
  rintro ⟨cb, o, rfl, h1, _⟩ a' n' c' e
  injection e with e; injection e with e; subst e
  have := hT.lt; simp only; omega
theorem bag_code {w : World} {v : Value} {l : List UInt8} (hR : RowAt w v (Lib.byteCells l)) : l = [] ∨ ∀ a n c, v = .slice (some a) n c → a.block < w.heap.size := by
  obtain ⟨a, c, rfl, _, hr⟩ := hR
  rw [Lib.byteCells_length] at *
  rcases hr with h | ⟨b, o, rfl, h1, _⟩
  · left; cases l with
    | nil => rfl
    | cons x r => simp [Lib.byteCells] at h
  · right; intro a' n' c' e
    injection e with e; injection e with e; subst e; exact h1
/-- at the start of a whole draw: the results' boxes, then the cursor -/
theorem bag_new {w w1 w2 : World} {b : Nat} {v : Value} {l : List UInt8} {bs : List (Nat × List Value)} (hw1 : Below w.heap.size w w1) (hbs : ∀ p ∈ bs, Bx w1 p.1 p.2 ∧ w.heap.size ≤ p.1) (hd : bs.Pairwise (fun p q => p.1 ≠ q.1)) (hb : w1.heap.size ≤ b) (hB : Below w1.heap.size w1 w2) (hC : Cur w2 b v l)
    (hc : l = [] ∨ ∀ a n c, v = .slice (some a) n c → a.block < w.heap.size) : Bag w w.heap.size b v l bs [] w2 := by
  have h2 := belS hw1 hB
  refine ⟨h2.os, h2.tape, h2.output, h2.size, fun k hk _ => h2.block k hk, Nat.le_refl _, hc, hC, fun p hp => (hbs p hp).1.below hB, by simp, fun p hp => ⟨(hbs p hp).2, fun e => ?_⟩, by simp, by simp, hd, List.Pairwise.nil⟩
  have := (hbs p hp).1.lt; omega
/-- behind a call that draws -/
theorem Bag.draw {w' : World} (h : Bag w N b v l bs rs wx) (hg : wx.grownBy w' (some b)) (hC : Cur w' b v l) : Bag w N b v l bs rs w' :=
  ⟨hg.os.trans h.os, hg.tape.trans h.tape, hg.output.trans h.output, Nat.le_trans h.size hg.size, fun k hk hne => (hg.block k (Nat.lt_of_lt_of_le (Nat.lt_of_lt_of_le hk h.nw) h.size) (fun e => hne (by injection e))).trans (h.block k hk hne), h.nw, h.code, hC,
    fun p hp => bx_gr (h.box p hp) hg (h.geB p hp).2, fun r hr => r.keep (h.row r hr) hg (fun g e => by injection e with e; subst e; intro ho; have := (h.geR r hr _ ho).2; omega), h.geB, h.geR, h.sep, h.dis, h.rdis⟩
/-- behind a call that only makes memory -/
theorem Bag.below {w' : World} (h : Bag w N b v l bs rs wx) (hb : Below wx.heap.size wx w') : Bag w N b v l bs rs w' :=
  ⟨hb.os.trans h.os, hb.tape.trans h.tape, hb.output.trans h.output, Nat.le_trans h.size hb.size, fun k hk hne => (hb.block k (Nat.lt_of_lt_of_le (Nat.lt_of_lt_of_le hk h.nw) h.size)).trans (h.block k hk hne), h.nw, h.code, h.cur.below hb h.cur.lt,
    fun p hp => (h.box p hp).below hb, fun r hr => r.keep (r := none) (h.row r hr) ⟨hb.os, hb.tape, hb.output, hb.size, fun k hk _ => hb.block k hk⟩ (by simp), h.geB, h.geR, h.sep, h.dis, h.rdis⟩
theorem Bag.drew (h : Bag w N b v l bs rs wx) : Bag w N b v l bs rs wx.drew := h.below ((Below.refl _ _).drew)
theorem Bag.past (h : Bag w N b v l bs rs wx) (o : Obj) : Bag w N b v l bs rs (wx.alloc o) := h.below (bx_box _ o)
/-- a new variable -/
theorem Bag.var (h : Bag w N b v l bs rs wx) (cs : List Value) (t : TypeId) : Bag w N b v l ((wx.heap.size, cs) :: bs) rs (wx.alloc (.cells cs.toArray t)) := by
  have h1 := h.past (.cells cs.toArray t)
  have hn : N ≤ wx.heap.size := Nat.le_trans h.nw h.size
  have hc := h.cur.lt
  refine ⟨h1.os, h1.tape, h1.output, h1.size, h1.block, h1.nw, h1.code, h1.cur, ?_, h1.row, ?_, h.geR, ?_, ?_, h.rdis⟩
  · intro p hp
    rcases List.mem_cons.1 hp with rfl | hp
    · exact Bx.new wx cs t
    · exact h1.box p hp
  · intro p hp
    rcases List.mem_cons.1 hp with rfl | hp
    · exact ⟨hn, by simp only; omega⟩
    · exact h.geB p hp
  · intro p hp r hr ho
    rcases List.mem_cons.1 hp with rfl | hp
    · have := r.lt (h.row r hr) ho; simp only at this; omega
    · exact h.sep p hp r hr ho
  · refine List.pairwise_cons.2 ⟨fun p hp e => ?_, h.dis⟩
    have := (h.box p hp).lt
    simp only at e; omega
/-- something new that is one's own: its blocks are new ones -/
theorem Bag.hold {F : Nat} (h : Bag w N b v l bs rs wx) (r : Held) (hP : r.P wx) (hF : ∀ g, r.own g → F ≤ g) (hw : w.heap.size ≤ F) (hb : b < F) (hbs : ∀ p ∈ bs, p.1 < F) (hrs : ∀ s ∈ rs, ∀ g, s.own g → g < F) : Bag w N b v l bs (r :: rs) wx := by
  refine ⟨h.os, h.tape, h.output, h.size, h.block, h.nw, h.code, h.cur, h.box, ?_, h.geB, ?_, ?_, h.dis, ?_⟩
  · intro s hs
    rcases List.mem_cons.1 hs with rfl | hs
    · exact hP
    · exact h.row s hs
  · intro s hs g hg
    rcases List.mem_cons.1 hs with rfl | hs
    · have := hF g hg; have := h.nw; omega
    · exact h.geR s hs g hg
  · intro p hp s hs ho
    rcases List.mem_cons.1 hs with rfl | hs
    · have := hF _ ho; have := hbs p hp; omega
    · exact h.sep p hp s hs ho
  · refine List.pairwise_cons.2 ⟨fun s hs g hg hg2 => ?_, h.rdis⟩
    have := hF g hg; have := hrs s hs g hg2; omega
/-- what was held ahead lies below what a later call makes -/
theorem Bag.sizes (h : Bag w N b v l bs rs wx) : w.heap.size ≤ wx.heap.size ∧ b < wx.heap.size ∧ (∀ p ∈ bs, p.1 < wx.heap.size) ∧ (∀ s ∈ rs, ∀ g, s.own g → g < wx.heap.size) :=
  ⟨h.size, h.cur.lt, fun p hp => (h.box p hp).lt, fun s hs g hg => s.lt (h.row s hs) hg⟩
/-- behind a call that makes what is one's own -/
theorem Bag.made {w' : World} (h : Bag w N b v l bs rs wx) (hb : Below wx.heap.size wx w') (r : Held) (hP : r.P w') (hF : ∀ g, r.own g → wx.heap.size ≤ g) : Bag w N b v l bs (r :: rs) w' :=
  (h.below hb).hold r hP hF h.sizes.1 h.sizes.2.1 h.sizes.2.2.1 h.sizes.2.2.2
theorem Bag.drawn {w' : World} (h : Bag w N b v l bs rs wx) (hg : wx.grownBy w' (some b)) (hC : Cur w' b v l) (r : Held) (hP : r.P w') (hF : ∀ g, r.own g → wx.heap.size ≤ g) : Bag w N b v l bs (r :: rs) w' :=
  (h.draw hg hC).hold r hP hF h.sizes.1 h.sizes.2.1 h.sizes.2.2.1 h.sizes.2.2.2
/-- less is held -/
theorem Bag.less {bs' : List (Nat × List Value)} {rs' : List Held} (h : Bag w N b v l bs rs wx) (h1 : bs'.Sublist bs) (h2 : rs'.Sublist rs) : Bag w N b v l bs' rs' wx :=
  ⟨h.os, h.tape, h.output, h.size, h.block, h.nw, h.code, h.cur, fun p hp => h.box p (h1.subset hp), fun r hr => h.row r (h2.subset hr), fun p hp => h.geB p (h1.subset hp), fun r hr => h.geR r (h2.subset hr), fun p hp r hr => h.sep p (h1.subset hp) r (h2.subset hr), h.dis.sublist h1, h.rdis.sublist h2⟩
/-- the rows in another order -/
theorem Bag.perm {rs' : List Held} (h : Bag w N b v l bs rs wx) (hp : rs.Perm rs') : Bag w N b v l bs rs' wx :=
  ⟨h.os, h.tape, h.output, h.size, h.block, h.nw, h.code, h.cur, h.box, fun r hr => h.row r (hp.mem_iff.2 hr), h.geB, fun r hr => h.geR r (hp.mem_iff.2 hr), fun p hq r hr => h.sep p hq r (hp.mem_iff.2 hr), h.dis, hp.pairwise h.rdis (fun {r s} hrs g h1 h2 => hrs g h2 h1)⟩
/-- a cell of a variable is stored -/
theorem Bag.set {B j : Nat} {cs : List Value} (h : Bag w N b v l bs rs wx) (i : Nat) (hi : bs[i]? = some (B, cs)) (hj : j < cs.length) (u : Value) : Bag w N b v l (bs.set i (B, cs.set j u)) rs (wx.setCell ⟨B, j, none⟩ u) := by
  obtain ⟨hlt, he⟩ := List.getElem?_eq_some_iff.1 hi
  have hm : (B, cs) ∈ bs := by rw [← he]; exact List.getElem_mem hlt
  have hB := h.geB _ hm
  simp only at hB
  have hk : wx.grownBy (wx.setCell ⟨B, j, none⟩ u) (some B) := ⟨rfl, rfl, rfl, by simp, fun k hk hne => Below.heap_setCell wx ⟨B, j, none⟩ u k (fun e => hne (by rw [e]))⟩
  have hne : ∀ p ∈ bs.set i (B, cs.set j u), (p = (B, cs.set j u)) ∨ (p ∈ bs ∧ p.1 ≠ B) := by
    intro p hp
    obtain ⟨k, hk, rfl⟩ := List.mem_iff_getElem.1 hp
    rw [List.length_set] at hk
    by_cases hki : k = i
    · subst hki; left; simp
    · right
      rw [List.getElem_set_ne (by omega)]
      refine ⟨List.getElem_mem hk, fun e => ?_⟩
      have hd := List.pairwise_iff_getElem.1 h.dis
      have e2 : (bs[i]).1 = B := by rw [he]
      rcases Nat.lt_or_ge k i with hlt2 | hge
      · exact hd k i hk hlt hlt2 (by rw [e, e2])
      · exact hd i k hlt hk (by omega) (by rw [e, e2])
  have hfst : (bs.set i (B, cs.set j u)).map Prod.fst = bs.map Prod.fst := by
    rw [List.map_set]
    refine List.ext_getElem (by simp) fun k h1 h2 => ?_
    rw [List.getElem_set]
    split
    · rename_i e; subst e; simp [he]
    · rfl
  refine ⟨h.os, h.tape, h.output, by simpa using h.size, ?_, h.nw, h.code, ?_, ?_, ?_, ?_, h.geR, ?_, ?_, h.rdis⟩
  · intro k hk1 hk2
    rw [Below.heap_setCell wx ⟨B, j, none⟩ u k (fun e => by simp only at e; omega)]
    exact h.block k hk1 hk2
  · obtain ⟨i0, h0, hT, h3, h4, a, c, e, hr⟩ := h.cur
    refine ⟨i0, h0, hT.grown hk (by omega), h3, h4, a, c, e, hr.imp id ?_⟩
    rintro ⟨cb, o, e1, e2, e3⟩
    refine ⟨cb, o, e1, e2, fun k hk1 => ?_⟩
    rw [← e3 k hk1]
    refine bx_set_ne (Or.inl ?_)
    rcases h.code with h5 | h5
    · subst h5; simp at hk1
    · have := h5 ⟨cb, o, none⟩ _ _ (by rw [e, e1]); simp only at this; omega
  · intro p hp
    rcases hne p hp with rfl | ⟨h1, h2⟩
    · exact (h.box _ hm).set j hj u
    · exact (h.box p h1).other h2 j u
  · intro r hr
    exact r.keep (h.row r hr) hk (fun g e => by injection e with e; subst e; exact h.sep _ hm r hr)
  · intro p hp
    rcases hne p hp with rfl | ⟨h1, h2⟩
    · exact hB
    · exact h.geB p h1
  · intro p hp r hr
    rcases hne p hp with rfl | ⟨h1, h2⟩
    · exact h.sep _ hm r hr
    · exact h.sep p h1 r hr
  · have : (bs.map Prod.fst).Pairwise (· ≠ ·) := List.pairwise_map.2 h.dis
    rw [← hfst] at this
    exact List.pairwise_map.1 this
/-- behind an append to a row that is held -/
theorem Bag.app {α : Type} {f : α → List Value} {E k B : Nat} {u u' : Value} {x y : List α} {w' : World} (h : Bag w N b v l bs rs wx) (i : Nat) (hi : rs[i]? = some (hRow f E k B u x)) (hg : wx.grownBy w' u.ownBlock) (ho : OwnsF f E k w' B u' y) (hne : ∀ c, c < wx.heap.size → u.ownBlock ≠ some c → u'.ownBlock ≠ some c) :
    Bag w N b v l bs (rs.set i (hRow f E k B u' y)) w' := by
  obtain ⟨hlt, he⟩ := List.getElem?_eq_some_iff.1 hi
  have hm : hRow f E k B u x ∈ rs := by rw [← he]; exact List.getElem_mem hlt
  have hge : ∀ g, u.ownBlock = some g → N ≤ g ∧ b < g := fun g e => h.geR _ hm g e
  have hcl := h.cur.lt
  have hns : N ≤ wx.heap.size := Nat.le_trans h.nw h.size
  have hne2 : ∀ s ∈ rs.set i (hRow f E k B u' y), (s = hRow f E k B u' y) ∨ (s ∈ rs ∧ ∀ g, s.own g → ¬ (hRow f E k B u x).own g) := by
    intro s hs
    obtain ⟨j, hj, rfl⟩ := List.mem_iff_getElem.1 hs
    rw [List.length_set] at hj
    by_cases hji : j = i
    · subst hji; left; simp
    · right
      rw [List.getElem_set_ne (by omega)]
      refine ⟨List.getElem_mem hj, fun g h1 h2 => ?_⟩
      have hd := List.pairwise_iff_getElem.1 h.rdis
      rcases Nat.lt_or_ge j i with hlt2 | hge2
      · exact hd j i hj hlt hlt2 g h1 (by rw [he]; exact h2)
      · exact hd i j hlt hj (by omega) g (by rw [he]; exact h2) h1
  have hnew : ∀ g, (hRow f E k B u' y).own g → (u.ownBlock = some g) ∨ wx.heap.size ≤ g := by
    intro g hg2
    by_cases h1 : g < wx.heap.size
    · left
      refine Classical.byContradiction fun h2 => ?_
      exact hne g h1 h2 hg2
    · right; omega
  refine ⟨hg.os.trans h.os, hg.tape.trans h.tape, hg.output.trans h.output, Nat.le_trans h.size hg.size, ?_, h.nw, h.code, ?_, ?_, ?_, h.geB, ?_, ?_, h.dis, ?_⟩
  · intro j h1 h2
    rw [hg.block j (by omega) (fun e => by have := (hge j e.symm).1; omega)]
    exact h.block j h1 h2
  · exact cur_own h.cur hg (fun g e => (hge g e).2)
  · intro p hp
    exact bx_own (h.box p hp) hg (h.sep p hp _ hm)
  · intro s hs
    rcases hne2 s hs with rfl | ⟨h1, h2⟩
    · exact ho
    · exact s.keep (h.row s h1) hg (fun g e h3 => h2 g h3 e)
  · intro s hs g hg2
    rcases hne2 s hs with rfl | ⟨h1, h2⟩
    · rcases hnew g hg2 with h3 | h3
      · exact hge g h3
      · omega
    · exact h.geR s h1 g hg2
  · intro p hp s hs hg2
    rcases hne2 s hs with rfl | ⟨h1, h2⟩
    · rcases hnew _ hg2 with h3 | h3
      · exact h.sep p hp _ hm h3
      · have := (h.box p hp).lt; omega
    · exact h.sep p hp s h1 hg2
  · rw [List.pairwise_iff_getElem]
    intro j1 j2 h1 h2 h12 g hg1 hg2
    rw [List.length_set] at h1 h2
    have hd := List.pairwise_iff_getElem.1 h.rdis
    rw [List.getElem_set] at hg1 hg2
    split at hg1 <;> split at hg2
    · omega
    · rename_i e1 e2
      subst e1
      rcases hnew _ hg1 with h3 | h3
      · exact hd i j2 h1 h2 h12 g (by rw [he]; exact h3) hg2
      · have := (rs[j2]).lt (h.row _ (List.getElem_mem h2)) hg2; omega
    · rename_i e1 e2
      subst e2
      rcases hnew _ hg2 with h3 | h3
      · exact hd j1 i h1 h2 h12 g hg1 (by rw [he]; exact h3)
      · have := (rs[j1]).lt (h.row _ (List.getElem_mem h1)) hg1; omega
    · exact hd j1 j2 h1 h2 h12 g hg1 hg2
end
end Go.Proofs.Ytaihdjdaamglnaa
/- The draws of chapter 5: two offers, and several. Written by gen/ch5o2.py. -/
namespace Go.Proofs.Ytaihdjdaamglnaa
set_option linter.unusedVariables false
set_option linter.unusedSimpArgs false
open Go.RowKit
def GivesO2 (w : World) (e : Ending) (w' : World) : Prop := ∃ a c ua uc, e = .returned (.tuple #[.agg #[ua, .int .i64 a.fFace], .agg #[uc, .int .i64 c.fFace]]) ∧ OwnsF cVersion 56 2 w' w.heap.size ua a.fVersions ∧ OwnsF cVersion 56 2 w' w.heap.size uc c.fVersions ∧ okO a ∧ okO c ∧ offerB a = true ∧ offerB c = true ∧ Below w.heap.size w w'
theorem offer_z : offerB ⟨[], 0⟩ = true := by decide
theorem okO_z : okO ⟨[], 0⟩ := ⟨by simp, by simp, show I64p 0 from I64p_bd (by omega) (by omega)⟩
set_option maxRecDepth 100000 in
set_option maxHeartbeats 6400000 in
theorem drawOffers2_any (v : Value) (l : List UInt8) (w : World) (hR : RowAt w v (Lib.byteCells l)) :
    Calls Try.prog 24 #[v] w fun e w' => GivesO2 w e w' := by
  have hcode := Lib.hid (bag_code hR)
  obtain ⟨B1, B2, HB0⟩ := bx_start2 w [.slice none 0 0, .int .i64 0] [.slice none 0 0, .int .i64 0] 52 52
  have HR := Lib.hid (RowAt.below hR HB0 (Nat.le_refl _))
  have B1 := Lib.hid B1
  have B2 := Lib.hid B2
  have HB0 := Lib.hid HB0
  have HN := Lib.hid (l1New_any v l _ HR.out)
  clear hR
  go_enter Try.func24, Try.ntmps24
  go_wp2_with fail
  generalize (w.alloc (.cells #[.slice none 0 0, .int .i64 0] 52)).alloc (.cells #[.slice none 0 0, .int .i64 0] 52) = w0 at *
  refine HN.out.mono ?_
  rintro e w1 ⟨b, rfl, hb, hB, hC⟩
  have BG := Lib.hid (bag_new (bs := [(w.heap.size, [.slice none 0 0, .int .i64 0]), (w.heap.size + 1, [.slice none 0 0, .int .i64 0])]) HB0.out (by intro p hp; simp only [List.mem_cons, List.not_mem_nil, or_false] at hp; rcases hp with rfl | rfl; exact ⟨B1.out, Nat.le_refl _⟩; exact ⟨B2.out, Nat.le_succ _⟩) (by simp) hb hB hC hcode.out)
  have hbw : w.heap.size ≤ b := by have := B1.out.lt; omega
  clear hB hC hb HB0 HN HR B1 B2 hcode
  go_wp2_with fail
  refine (l5Offer_any b v l _ BG.out.cur).mono ?_
  rintro e w2 ⟨⟨a0, a1⟩, u, rfl, ho, hok, hg, hC⟩
  obtain ⟨pA, pC, rfl⟩ := slice_of ho
  simp only at ho
  have OKa := Lib.hid hok
  replace BG := Lib.hid (BG.out.drawn hg hC (hRow cVersion 56 2 w.heap.size (.slice pA a0.length pC) a0) (ownsF_base ho (BG.out.size)) (fun g e => (World.ownsRow.lt ho g e).1))
  clear ho hok hg hC
  replace BG := Lib.hid (BG.out.var [.slice pA a0.length pC, .int .i64 a1] 52)
  go_wp2_with fail
  generalize w2.alloc (.cells #[.slice pA a0.length pC, .int .i64 a1] 52) = w3 at *
  generalize w2.heap.size = A at *
  refine (l5Offer_any b v l _ BG.out.cur).mono ?_
  rintro e w4 ⟨⟨c0, c1⟩, u, rfl, ho, hok, hg, hC⟩
  obtain ⟨qA, qC, rfl⟩ := slice_of ho
  simp only at ho
  have OKc := Lib.hid hok
  replace BG := Lib.hid (BG.out.drawn hg hC (hRow cVersion 56 2 w.heap.size (.slice qA c0.length qC) c0) (ownsF_base ho (BG.out.size)) (fun g e => (World.ownsRow.lt ho g e).1))
  clear ho hok hg hC
  replace BG := Lib.hid (BG.out.var [.slice qA c0.length qC, .int .i64 c1] 52)
  replace BG := Lib.hid (BG.out.perm (List.Perm.swap _ _ _))
  go_wp2_with fail
  generalize w4.alloc (.cells #[.slice qA c0.length qC, .int .i64 c1] 52) = w5 at *
  generalize w4.heap.size = C at *
  go_loopw [7] (fun i wr => ∃ (k : Nat) (pA : Option Addr) (pC : Nat) (a0 : List VersionD) (a1 : Int), k ≤ 5 ∧ i = .int .i64 k ∧ okO ⟨a0, a1⟩ ∧ Bag w w.heap.size b v l [(C, [.slice qA c0.length qC, .int .i64 c1]), (A, [.slice pA a0.length pC, .int .i64 a1]), (w.heap.size, [.slice none 0 0, .int .i64 0]), (w.heap.size + 1, [.slice none 0 0, .int .i64 0])] [hRow cVersion 56 2 w.heap.size (.slice pA a0.length pC) a0, hRow cVersion 56 2 w.heap.size (.slice qA c0.length qC) c0] wr) (fun i _ => 5 - (intOf i).toNat)
  case atStart => exact ⟨0, pA, pC, a0, a1, by omega, rfl, OKa.out, BG.out⟩
  case round =>
    clear BG OKa
    obtain ⟨k, pA, pC, a0, a1, hk, rfl, hok, hbg⟩ := hrel
    have BG := Lib.hid hbg
    have OKa := Lib.hid hok
    clear hbg hok
    by_cases h5 : k < 5
    · skip
      have HOF := Lib.hid (specIsOffer_b (.agg #[.slice pA a0.length pC, .int .i64 a1]) ⟨a0, a1⟩ _ rfl _ ⟨_, rfl, ownsF_at (show OwnsF cVersion 56 2 _ w.heap.size (.slice pA a0.length pC) a0 from BG.out.row (hRow cVersion 56 2 w.heap.size (.slice pA a0.length pC) a0) (by simp)) (Nat.le_trans OKa.out.1 (by decide))⟩)
      have B_x := Lib.hid (BG.out.box (A, [.slice pA a0.length pC, .int .i64 a1]) (by simp))
      simp only at B_x
      have x0 := B_x.out.cell 0 (by simp)
      have x1 := B_x.out.cell 1 (by simp)
      simp only [List.getElem_cons_zero, List.getElem_cons_succ] at x0 x1
      have fx0 := B_x.out.froz 0 (by simp)
      have fx1 := B_x.out.froz 1 (by simp)
      have l_x := B_x.out.lt
      go_wp2_with fail
      clear B_x l_x x0 fx0 x1 fx1
      refine HOF.out.mono ?_
      rintro e w18 ⟨rfl, hb⟩
      replace BG := Lib.hid (BG.out.below hb)
      clear hb HOF
      cases hq : offerB ⟨a0, a1⟩
      case false =>
        go_wp2_with fail
        refine (l5Offer_any b v l _ BG.out.cur).mono ?_
        rintro e w9 ⟨⟨n0, n1⟩, u, rfl, ho, hok, hg, hC⟩
        obtain ⟨nA, nC, rfl⟩ := slice_of ho
        simp only at ho
        have OKn := Lib.hid hok
        replace BG := Lib.hid ((BG.out.drawn hg hC (hRow cVersion 56 2 w.heap.size (.slice nA n0.length nC) n0) (ownsF_base ho (BG.out.size)) (fun g e => (World.ownsRow.lt ho g e).1)).less (List.Sublist.refl _) (rs' := [hRow cVersion 56 2 w.heap.size (.slice nA n0.length nC) n0, hRow cVersion 56 2 w.heap.size (.slice qA c0.length qC) c0]) (.cons_cons _ (.cons _ (.cons_cons _ .slnil))))
        clear ho hok hg hC
        have B_x := Lib.hid (BG.out.box (A, [.slice pA a0.length pC, .int .i64 a1]) (by simp))
        simp only at B_x
        have x0 := B_x.out.cell 0 (by simp)
        have x1 := B_x.out.cell 1 (by simp)
        simp only [List.getElem_cons_zero, List.getElem_cons_succ] at x0 x1
        have fx0 := B_x.out.froz 0 (by simp)
        have fx1 := B_x.out.froz 1 (by simp)
        have l_x := B_x.out.lt
        have BG2 := Lib.hid ((BG.out.set 1 rfl (by simp) (.slice nA n0.length nC) (j := 0)).set 1 rfl (by simp) (.int .i64 n1) (j := 1))
        simp only [List.set_cons_zero, List.set_cons_succ] at BG2
        go_wp2_with fail
        exact ⟨⟨k + 1, nA, nC, n0, n1, by omega, by go_num, OKn.out, BG2.out⟩, by simp [intOf]; omega⟩
      case true =>
        go_wp2_with fail
        replace BG := Lib.hid (BG.out.perm (List.Perm.swap _ _ _))
        clear hk
        go_loopw [8] (fun i wr => ∃ (k : Nat) (qA : Option Addr) (qC : Nat) (c0 : List VersionD) (c1 : Int), k ≤ 5 ∧ i = .int .i64 k ∧ okO ⟨c0, c1⟩ ∧ Bag w w.heap.size b v l [(C, [.slice qA c0.length qC, .int .i64 c1]), (A, [.slice pA a0.length pC, .int .i64 a1]), (w.heap.size, [.slice none 0 0, .int .i64 0]), (w.heap.size + 1, [.slice none 0 0, .int .i64 0])] [hRow cVersion 56 2 w.heap.size (.slice qA c0.length qC) c0, hRow cVersion 56 2 w.heap.size (.slice pA a0.length pC) a0] wr) (fun i _ => 5 - (intOf i).toNat)
        case atStart => exact ⟨0, qA, qC, c0, c1, by omega, rfl, OKc.out, BG.out⟩
        case round =>
          clear BG OKc
          obtain ⟨k, qA, qC, c0, c1, hk, rfl, hok, hbg⟩ := hrel
          have BG := Lib.hid hbg
          have OKc := Lib.hid hok
          clear hbg hok
          by_cases h5 : k < 5
          · skip
            have HOF := Lib.hid (specIsOffer_b (.agg #[.slice qA c0.length qC, .int .i64 c1]) ⟨c0, c1⟩ _ rfl _ ⟨_, rfl, ownsF_at (show OwnsF cVersion 56 2 _ w.heap.size (.slice qA c0.length qC) c0 from BG.out.row (hRow cVersion 56 2 w.heap.size (.slice qA c0.length qC) c0) (by simp)) (Nat.le_trans OKc.out.1 (by decide))⟩)
            have B_y := Lib.hid (BG.out.box (C, [.slice qA c0.length qC, .int .i64 c1]) (by simp))
            simp only at B_y
            have y0 := B_y.out.cell 0 (by simp)
            have y1 := B_y.out.cell 1 (by simp)
            simp only [List.getElem_cons_zero, List.getElem_cons_succ] at y0 y1
            have fy0 := B_y.out.froz 0 (by simp)
            have fy1 := B_y.out.froz 1 (by simp)
            have l_y := B_y.out.lt
            go_wp2_with fail
            clear B_y l_y y0 fy0 y1 fy1
            refine HOF.out.mono ?_
            rintro e w19 ⟨rfl, hb⟩
            replace BG := Lib.hid (BG.out.below hb)
            clear hb HOF
            cases hq : offerB ⟨c0, c1⟩
            case false =>
              go_wp2_with fail
              refine (l5Offer_any b v l _ BG.out.cur).mono ?_
              rintro e w9 ⟨⟨n0, n1⟩, u, rfl, ho, hok, hg, hC⟩
              obtain ⟨nA, nC, rfl⟩ := slice_of ho
              simp only at ho
              have OKn := Lib.hid hok
              replace BG := Lib.hid ((BG.out.drawn hg hC (hRow cVersion 56 2 w.heap.size (.slice nA n0.length nC) n0) (ownsF_base ho (BG.out.size)) (fun g e => (World.ownsRow.lt ho g e).1)).less (List.Sublist.refl _) (rs' := [hRow cVersion 56 2 w.heap.size (.slice nA n0.length nC) n0, hRow cVersion 56 2 w.heap.size (.slice pA a0.length pC) a0]) (.cons_cons _ (.cons _ (.cons_cons _ .slnil))))
              clear ho hok hg hC
              have B_y := Lib.hid (BG.out.box (C, [.slice qA c0.length qC, .int .i64 c1]) (by simp))
              simp only at B_y
              have y0 := B_y.out.cell 0 (by simp)
              have y1 := B_y.out.cell 1 (by simp)
              simp only [List.getElem_cons_zero, List.getElem_cons_succ] at y0 y1
              have fy0 := B_y.out.froz 0 (by simp)
              have fy1 := B_y.out.froz 1 (by simp)
              have l_y := B_y.out.lt
              have BG2 := Lib.hid ((BG.out.set 0 rfl (by simp) (.slice nA n0.length nC) (j := 0)).set 0 rfl (by simp) (.int .i64 n1) (j := 1))
              simp only [List.set_cons_zero, List.set_cons_succ] at BG2
              go_wp2_with fail
              exact ⟨⟨k + 1, nA, nC, n0, n1, by omega, by go_num, OKn.out, BG2.out⟩, by simp [intOf]; omega⟩
            case true =>
              have HOF := Lib.hid (specIsOffer_b (.agg #[.slice pA a0.length pC, .int .i64 a1]) ⟨a0, a1⟩ _ rfl _ ⟨_, rfl, ownsF_at (show OwnsF cVersion 56 2 _ w.heap.size (.slice pA a0.length pC) a0 from BG.out.row (hRow cVersion 56 2 w.heap.size (.slice pA a0.length pC) a0) (by simp)) (Nat.le_trans OKa.out.1 (by decide))⟩)
              clear hk
              have B_x := Lib.hid (BG.out.box (A, [.slice pA a0.length pC, .int .i64 a1]) (by simp))
              simp only at B_x
              have x0 := B_x.out.cell 0 (by simp)
              have x1 := B_x.out.cell 1 (by simp)
              simp only [List.getElem_cons_zero, List.getElem_cons_succ] at x0 x1
              have fx0 := B_x.out.froz 0 (by simp)
              have fx1 := B_x.out.froz 1 (by simp)
              have l_x := B_x.out.lt
              go_wp2_with fail
              clear B_x l_x x0 fx0 x1 fx1
              refine HOF.out.mono ?_
              rintro e w20 ⟨rfl, hb⟩
              replace BG := Lib.hid (BG.out.below hb)
              clear hb HOF
              cases hqa : offerB ⟨a0, a1⟩
              case false =>
                have B_r := Lib.hid (BG.out.box (w.heap.size, [.slice none 0 0, .int .i64 0]) (by simp))
                simp only at B_r
                have r0 := B_r.out.cell 0 (by simp)
                have r1 := B_r.out.cell 1 (by simp)
                simp only [List.getElem_cons_zero, List.getElem_cons_succ] at r0 r1
                have fr0 := B_r.out.froz 0 (by simp)
                have fr1 := B_r.out.froz 1 (by simp)
                have l_r := B_r.out.lt
                have B_s := Lib.hid (BG.out.box (w.heap.size + 1, [.slice none 0 0, .int .i64 0]) (by simp))
                simp only at B_s
                have s0 := B_s.out.cell 0 (by simp)
                have s1 := B_s.out.cell 1 (by simp)
                simp only [List.getElem_cons_zero, List.getElem_cons_succ] at s0 s1
                have fs0 := B_s.out.froz 0 (by simp)
                have fs1 := B_s.out.froz 1 (by simp)
                have l_s := B_s.out.lt
                have BE := Lib.hid (BG.out.bel hbw)
                go_wp2_with fail
                refine bodyPost_ret (v := .tuple #[.agg #[.slice none 0 0, .int .i64 0], .agg #[.slice none 0 0, .int .i64 0]]) (by simp [results, Try.results24, go_sem, cell_set_at, cell_set_ne, bx_set_ne, r0, r1, s0, s1]) rfl ?_
                refine ⟨⟨[], 0⟩, ⟨[], 0⟩, _, _, rfl, ownsF_no _ _ _ _ _, ownsF_no _ _ _ _ _, okO_z, okO_z, offer_z, offer_z, ?_⟩
                repeat (first | with_reducible exact BE.out | with_reducible refine Below.setCell ?_ (by simp) _ | with_reducible refine Below.drew ?_)
              case true =>
                have HOF := Lib.hid (specIsOffer_b (.agg #[.slice qA c0.length qC, .int .i64 c1]) ⟨c0, c1⟩ _ rfl _ ⟨_, rfl, ownsF_at (show OwnsF cVersion 56 2 _ w.heap.size (.slice qA c0.length qC) c0 from BG.out.row (hRow cVersion 56 2 w.heap.size (.slice qA c0.length qC) c0) (by simp)) (Nat.le_trans OKc.out.1 (by decide))⟩)
                have B_y := Lib.hid (BG.out.box (C, [.slice qA c0.length qC, .int .i64 c1]) (by simp))
                simp only at B_y
                have y0 := B_y.out.cell 0 (by simp)
                have y1 := B_y.out.cell 1 (by simp)
                simp only [List.getElem_cons_zero, List.getElem_cons_succ] at y0 y1
                have fy0 := B_y.out.froz 0 (by simp)
                have fy1 := B_y.out.froz 1 (by simp)
                have l_y := B_y.out.lt
                go_wp2_with fail
                clear B_y l_y y0 fy0 y1 fy1
                refine HOF.out.mono ?_
                rintro e w21 ⟨rfl, hb⟩
                replace BG := Lib.hid (BG.out.below hb)
                clear hb HOF
                cases hqc : offerB ⟨c0, c1⟩
                case false =>
                  have B_r := Lib.hid (BG.out.box (w.heap.size, [.slice none 0 0, .int .i64 0]) (by simp))
                  simp only at B_r
                  have r0 := B_r.out.cell 0 (by simp)
                  have r1 := B_r.out.cell 1 (by simp)
                  simp only [List.getElem_cons_zero, List.getElem_cons_succ] at r0 r1
                  have fr0 := B_r.out.froz 0 (by simp)
                  have fr1 := B_r.out.froz 1 (by simp)
                  have l_r := B_r.out.lt
                  have B_s := Lib.hid (BG.out.box (w.heap.size + 1, [.slice none 0 0, .int .i64 0]) (by simp))
                  simp only at B_s
                  have s0 := B_s.out.cell 0 (by simp)
                  have s1 := B_s.out.cell 1 (by simp)
                  simp only [List.getElem_cons_zero, List.getElem_cons_succ] at s0 s1
                  have fs0 := B_s.out.froz 0 (by simp)
                  have fs1 := B_s.out.froz 1 (by simp)
                  have l_s := B_s.out.lt
                  have BE := Lib.hid (BG.out.bel hbw)
                  go_wp2_with fail
                  refine bodyPost_ret (v := .tuple #[.agg #[.slice none 0 0, .int .i64 0], .agg #[.slice none 0 0, .int .i64 0]]) (by simp [results, Try.results24, go_sem, cell_set_at, cell_set_ne, bx_set_ne, r0, r1, s0, s1]) rfl ?_
                  refine ⟨⟨[], 0⟩, ⟨[], 0⟩, _, _, rfl, ownsF_no _ _ _ _ _, ownsF_no _ _ _ _ _, okO_z, okO_z, offer_z, offer_z, ?_⟩
                  repeat (first | with_reducible exact BE.out | with_reducible refine Below.setCell ?_ (by simp) _ | with_reducible refine Below.drew ?_)
                case true =>
                  have B_x := Lib.hid (BG.out.box (A, [.slice pA a0.length pC, .int .i64 a1]) (by simp))
                  simp only at B_x
                  have x0 := B_x.out.cell 0 (by simp)
                  have x1 := B_x.out.cell 1 (by simp)
                  simp only [List.getElem_cons_zero, List.getElem_cons_succ] at x0 x1
                  have fx0 := B_x.out.froz 0 (by simp)
                  have fx1 := B_x.out.froz 1 (by simp)
                  have l_x := B_x.out.lt
                  have B_y := Lib.hid (BG.out.box (C, [.slice qA c0.length qC, .int .i64 c1]) (by simp))
                  simp only at B_y
                  have y0 := B_y.out.cell 0 (by simp)
                  have y1 := B_y.out.cell 1 (by simp)
                  simp only [List.getElem_cons_zero, List.getElem_cons_succ] at y0 y1
                  have fy0 := B_y.out.froz 0 (by simp)
                  have fy1 := B_y.out.froz 1 (by simp)
                  have l_y := B_y.out.lt
                  have B_r := Lib.hid (BG.out.box (w.heap.size, [.slice none 0 0, .int .i64 0]) (by simp))
                  simp only at B_r
                  have r0 := B_r.out.cell 0 (by simp)
                  have r1 := B_r.out.cell 1 (by simp)
                  simp only [List.getElem_cons_zero, List.getElem_cons_succ] at r0 r1
                  have fr0 := B_r.out.froz 0 (by simp)
                  have fr1 := B_r.out.froz 1 (by simp)
                  have l_r := B_r.out.lt
                  have B_s := Lib.hid (BG.out.box (w.heap.size + 1, [.slice none 0 0, .int .i64 0]) (by simp))
                  simp only at B_s
                  have s0 := B_s.out.cell 0 (by simp)
                  have s1 := B_s.out.cell 1 (by simp)
                  simp only [List.getElem_cons_zero, List.getElem_cons_succ] at s0 s1
                  have fs0 := B_s.out.froz 0 (by simp)
                  have fs1 := B_s.out.froz 1 (by simp)
                  have l_s := B_s.out.lt
                  have hpd := BG.out.dis
                  simp only [List.pairwise_cons, List.mem_cons, List.not_mem_nil, or_false, forall_eq_or_imp, forall_eq, List.Pairwise.nil, and_true] at hpd
                  obtain ⟨⟨d1, d2, d3⟩, ⟨d4, d5⟩, d6⟩ := hpd
                  have HRa := Lib.hid (show OwnsF cVersion 56 2 _ w.heap.size (.slice pA a0.length pC) a0 from BG.out.row (hRow cVersion 56 2 w.heap.size (.slice pA a0.length pC) a0) (by simp))
                  have sa1 := Lib.hid (show (Value.slice pA a0.length pC).ownBlock ≠ some (w.heap.size) from BG.out.sep (w.heap.size, [.slice none 0 0, .int .i64 0]) (by simp) (hRow cVersion 56 2 w.heap.size (.slice pA a0.length pC) a0) (by simp))
                  have sa2 := Lib.hid (show (Value.slice pA a0.length pC).ownBlock ≠ some (w.heap.size + 1) from BG.out.sep (w.heap.size + 1, [.slice none 0 0, .int .i64 0]) (by simp) (hRow cVersion 56 2 w.heap.size (.slice pA a0.length pC) a0) (by simp))
                  have HRc := Lib.hid (show OwnsF cVersion 56 2 _ w.heap.size (.slice qA c0.length qC) c0 from BG.out.row (hRow cVersion 56 2 w.heap.size (.slice qA c0.length qC) c0) (by simp))
                  have sc1 := Lib.hid (show (Value.slice qA c0.length qC).ownBlock ≠ some (w.heap.size) from BG.out.sep (w.heap.size, [.slice none 0 0, .int .i64 0]) (by simp) (hRow cVersion 56 2 w.heap.size (.slice qA c0.length qC) c0) (by simp))
                  have sc2 := Lib.hid (show (Value.slice qA c0.length qC).ownBlock ≠ some (w.heap.size + 1) from BG.out.sep (w.heap.size + 1, [.slice none 0 0, .int .i64 0]) (by simp) (hRow cVersion 56 2 w.heap.size (.slice qA c0.length qC) c0) (by simp))
                  have BE := Lib.hid (BG.out.bel hbw)
                  go_wp2_with fail
                  go_region
                  all_goals (try go_wp2_with fail)
                  all_goals
                    refine bodyPost_ret (v := .tuple #[.agg #[.slice pA a0.length pC, .int .i64 a1], .agg #[.slice qA c0.length qC, .int .i64 c1]]) (by simp [results, Try.results24, go_sem, cell_set_at, cell_set_ne, bx_set_ne, r0, r1, s0, s1]) rfl ?_
                    refine ⟨⟨a0, a1⟩, ⟨c0, c1⟩, _, _, rfl, ?_, ?_, OKa.out, OKc.out, hqa, hqc, ?_⟩
                    · show OwnsF _ _ _ _ _ _ a0
                      repeat (first | with_reducible exact HRa.out | with_reducible refine ownsF_so ?_ sa1.out _ _ | with_reducible refine ownsF_so ?_ sa2.out _ _ | with_reducible refine ownsF_drB ?_)
                    · show OwnsF _ _ _ _ _ _ c0
                      repeat (first | with_reducible exact HRc.out | with_reducible refine ownsF_so ?_ sc1.out _ _ | with_reducible refine ownsF_so ?_ sc2.out _ _ | with_reducible refine ownsF_drB ?_)
                    · repeat (first | with_reducible exact BE.out | with_reducible refine Below.setCell ?_ (by simp) _ | with_reducible refine Below.drew ?_)
          · skip
            have HOF := Lib.hid (specIsOffer_b (.agg #[.slice pA a0.length pC, .int .i64 a1]) ⟨a0, a1⟩ _ rfl _ ⟨_, rfl, ownsF_at (show OwnsF cVersion 56 2 _ w.heap.size (.slice pA a0.length pC) a0 from BG.out.row (hRow cVersion 56 2 w.heap.size (.slice pA a0.length pC) a0) (by simp)) (Nat.le_trans OKa.out.1 (by decide))⟩)
            clear hk
            have B_x := Lib.hid (BG.out.box (A, [.slice pA a0.length pC, .int .i64 a1]) (by simp))
            simp only at B_x
            have x0 := B_x.out.cell 0 (by simp)
            have x1 := B_x.out.cell 1 (by simp)
            simp only [List.getElem_cons_zero, List.getElem_cons_succ] at x0 x1
            have fx0 := B_x.out.froz 0 (by simp)
            have fx1 := B_x.out.froz 1 (by simp)
            have l_x := B_x.out.lt
            go_wp2_with fail
            clear B_x l_x x0 fx0 x1 fx1
            refine HOF.out.mono ?_
            rintro e w20 ⟨rfl, hb⟩
            replace BG := Lib.hid (BG.out.below hb)
            clear hb HOF
            cases hqa : offerB ⟨a0, a1⟩
            case false =>
              have B_r := Lib.hid (BG.out.box (w.heap.size, [.slice none 0 0, .int .i64 0]) (by simp))
              simp only at B_r
              have r0 := B_r.out.cell 0 (by simp)
              have r1 := B_r.out.cell 1 (by simp)
              simp only [List.getElem_cons_zero, List.getElem_cons_succ] at r0 r1
              have fr0 := B_r.out.froz 0 (by simp)
              have fr1 := B_r.out.froz 1 (by simp)
              have l_r := B_r.out.lt
              have B_s := Lib.hid (BG.out.box (w.heap.size + 1, [.slice none 0 0, .int .i64 0]) (by simp))
              simp only at B_s
              have s0 := B_s.out.cell 0 (by simp)
              have s1 := B_s.out.cell 1 (by simp)
              simp only [List.getElem_cons_zero, List.getElem_cons_succ] at s0 s1
              have fs0 := B_s.out.froz 0 (by simp)
              have fs1 := B_s.out.froz 1 (by simp)
              have l_s := B_s.out.lt
              have BE := Lib.hid (BG.out.bel hbw)
              go_wp2_with fail
              refine bodyPost_ret (v := .tuple #[.agg #[.slice none 0 0, .int .i64 0], .agg #[.slice none 0 0, .int .i64 0]]) (by simp [results, Try.results24, go_sem, cell_set_at, cell_set_ne, bx_set_ne, r0, r1, s0, s1]) rfl ?_
              refine ⟨⟨[], 0⟩, ⟨[], 0⟩, _, _, rfl, ownsF_no _ _ _ _ _, ownsF_no _ _ _ _ _, okO_z, okO_z, offer_z, offer_z, ?_⟩
              repeat (first | with_reducible exact BE.out | with_reducible refine Below.setCell ?_ (by simp) _ | with_reducible refine Below.drew ?_)
            case true =>
              have HOF := Lib.hid (specIsOffer_b (.agg #[.slice qA c0.length qC, .int .i64 c1]) ⟨c0, c1⟩ _ rfl _ ⟨_, rfl, ownsF_at (show OwnsF cVersion 56 2 _ w.heap.size (.slice qA c0.length qC) c0 from BG.out.row (hRow cVersion 56 2 w.heap.size (.slice qA c0.length qC) c0) (by simp)) (Nat.le_trans OKc.out.1 (by decide))⟩)
              have B_y := Lib.hid (BG.out.box (C, [.slice qA c0.length qC, .int .i64 c1]) (by simp))
              simp only at B_y
              have y0 := B_y.out.cell 0 (by simp)
              have y1 := B_y.out.cell 1 (by simp)
              simp only [List.getElem_cons_zero, List.getElem_cons_succ] at y0 y1
              have fy0 := B_y.out.froz 0 (by simp)
              have fy1 := B_y.out.froz 1 (by simp)
              have l_y := B_y.out.lt
              go_wp2_with fail
              clear B_y l_y y0 fy0 y1 fy1
              refine HOF.out.mono ?_
              rintro e w21 ⟨rfl, hb⟩
              replace BG := Lib.hid (BG.out.below hb)
              clear hb HOF
              cases hqc : offerB ⟨c0, c1⟩
              case false =>
                have B_r := Lib.hid (BG.out.box (w.heap.size, [.slice none 0 0, .int .i64 0]) (by simp))
                simp only at B_r
                have r0 := B_r.out.cell 0 (by simp)
                have r1 := B_r.out.cell 1 (by simp)
                simp only [List.getElem_cons_zero, List.getElem_cons_succ] at r0 r1
                have fr0 := B_r.out.froz 0 (by simp)
                have fr1 := B_r.out.froz 1 (by simp)
                have l_r := B_r.out.lt
                have B_s := Lib.hid (BG.out.box (w.heap.size + 1, [.slice none 0 0, .int .i64 0]) (by simp))
                simp only at B_s
                have s0 := B_s.out.cell 0 (by simp)
                have s1 := B_s.out.cell 1 (by simp)
                simp only [List.getElem_cons_zero, List.getElem_cons_succ] at s0 s1
                have fs0 := B_s.out.froz 0 (by simp)
                have fs1 := B_s.out.froz 1 (by simp)
                have l_s := B_s.out.lt
                have BE := Lib.hid (BG.out.bel hbw)
                go_wp2_with fail
                refine bodyPost_ret (v := .tuple #[.agg #[.slice none 0 0, .int .i64 0], .agg #[.slice none 0 0, .int .i64 0]]) (by simp [results, Try.results24, go_sem, cell_set_at, cell_set_ne, bx_set_ne, r0, r1, s0, s1]) rfl ?_
                refine ⟨⟨[], 0⟩, ⟨[], 0⟩, _, _, rfl, ownsF_no _ _ _ _ _, ownsF_no _ _ _ _ _, okO_z, okO_z, offer_z, offer_z, ?_⟩
                repeat (first | with_reducible exact BE.out | with_reducible refine Below.setCell ?_ (by simp) _ | with_reducible refine Below.drew ?_)
              case true =>
                have B_x := Lib.hid (BG.out.box (A, [.slice pA a0.length pC, .int .i64 a1]) (by simp))
                simp only at B_x
                have x0 := B_x.out.cell 0 (by simp)
                have x1 := B_x.out.cell 1 (by simp)
                simp only [List.getElem_cons_zero, List.getElem_cons_succ] at x0 x1
                have fx0 := B_x.out.froz 0 (by simp)
                have fx1 := B_x.out.froz 1 (by simp)
                have l_x := B_x.out.lt
                have B_y := Lib.hid (BG.out.box (C, [.slice qA c0.length qC, .int .i64 c1]) (by simp))
                simp only at B_y
                have y0 := B_y.out.cell 0 (by simp)
                have y1 := B_y.out.cell 1 (by simp)
                simp only [List.getElem_cons_zero, List.getElem_cons_succ] at y0 y1
                have fy0 := B_y.out.froz 0 (by simp)
                have fy1 := B_y.out.froz 1 (by simp)
                have l_y := B_y.out.lt
                have B_r := Lib.hid (BG.out.box (w.heap.size, [.slice none 0 0, .int .i64 0]) (by simp))
                simp only at B_r
                have r0 := B_r.out.cell 0 (by simp)
                have r1 := B_r.out.cell 1 (by simp)
                simp only [List.getElem_cons_zero, List.getElem_cons_succ] at r0 r1
                have fr0 := B_r.out.froz 0 (by simp)
                have fr1 := B_r.out.froz 1 (by simp)
                have l_r := B_r.out.lt
                have B_s := Lib.hid (BG.out.box (w.heap.size + 1, [.slice none 0 0, .int .i64 0]) (by simp))
                simp only at B_s
                have s0 := B_s.out.cell 0 (by simp)
                have s1 := B_s.out.cell 1 (by simp)
                simp only [List.getElem_cons_zero, List.getElem_cons_succ] at s0 s1
                have fs0 := B_s.out.froz 0 (by simp)
                have fs1 := B_s.out.froz 1 (by simp)
                have l_s := B_s.out.lt
                have hpd := BG.out.dis
                simp only [List.pairwise_cons, List.mem_cons, List.not_mem_nil, or_false, forall_eq_or_imp, forall_eq, List.Pairwise.nil, and_true] at hpd
                obtain ⟨⟨d1, d2, d3⟩, ⟨d4, d5⟩, d6⟩ := hpd
                have HRa := Lib.hid (show OwnsF cVersion 56 2 _ w.heap.size (.slice pA a0.length pC) a0 from BG.out.row (hRow cVersion 56 2 w.heap.size (.slice pA a0.length pC) a0) (by simp))
                have sa1 := Lib.hid (show (Value.slice pA a0.length pC).ownBlock ≠ some (w.heap.size) from BG.out.sep (w.heap.size, [.slice none 0 0, .int .i64 0]) (by simp) (hRow cVersion 56 2 w.heap.size (.slice pA a0.length pC) a0) (by simp))
                have sa2 := Lib.hid (show (Value.slice pA a0.length pC).ownBlock ≠ some (w.heap.size + 1) from BG.out.sep (w.heap.size + 1, [.slice none 0 0, .int .i64 0]) (by simp) (hRow cVersion 56 2 w.heap.size (.slice pA a0.length pC) a0) (by simp))
                have HRc := Lib.hid (show OwnsF cVersion 56 2 _ w.heap.size (.slice qA c0.length qC) c0 from BG.out.row (hRow cVersion 56 2 w.heap.size (.slice qA c0.length qC) c0) (by simp))
                have sc1 := Lib.hid (show (Value.slice qA c0.length qC).ownBlock ≠ some (w.heap.size) from BG.out.sep (w.heap.size, [.slice none 0 0, .int .i64 0]) (by simp) (hRow cVersion 56 2 w.heap.size (.slice qA c0.length qC) c0) (by simp))
                have sc2 := Lib.hid (show (Value.slice qA c0.length qC).ownBlock ≠ some (w.heap.size + 1) from BG.out.sep (w.heap.size + 1, [.slice none 0 0, .int .i64 0]) (by simp) (hRow cVersion 56 2 w.heap.size (.slice qA c0.length qC) c0) (by simp))
                have BE := Lib.hid (BG.out.bel hbw)
                go_wp2_with fail
                go_region
                all_goals (try go_wp2_with fail)
                all_goals
                  refine bodyPost_ret (v := .tuple #[.agg #[.slice pA a0.length pC, .int .i64 a1], .agg #[.slice qA c0.length qC, .int .i64 c1]]) (by simp [results, Try.results24, go_sem, cell_set_at, cell_set_ne, bx_set_ne, r0, r1, s0, s1]) rfl ?_
                  refine ⟨⟨a0, a1⟩, ⟨c0, c1⟩, _, _, rfl, ?_, ?_, OKa.out, OKc.out, hqa, hqc, ?_⟩
                  · show OwnsF _ _ _ _ _ _ a0
                    repeat (first | with_reducible exact HRa.out | with_reducible refine ownsF_so ?_ sa1.out _ _ | with_reducible refine ownsF_so ?_ sa2.out _ _ | with_reducible refine ownsF_drB ?_)
                  · show OwnsF _ _ _ _ _ _ c0
                    repeat (first | with_reducible exact HRc.out | with_reducible refine ownsF_so ?_ sc1.out _ _ | with_reducible refine ownsF_so ?_ sc2.out _ _ | with_reducible refine ownsF_drB ?_)
                  · repeat (first | with_reducible exact BE.out | with_reducible refine Below.setCell ?_ (by simp) _ | with_reducible refine Below.drew ?_)
    · skip
      go_wp2_with fail
      replace BG := Lib.hid (BG.out.perm (List.Perm.swap _ _ _))
      clear hk
      go_loopw [8] (fun i wr => ∃ (k : Nat) (qA : Option Addr) (qC : Nat) (c0 : List VersionD) (c1 : Int), k ≤ 5 ∧ i = .int .i64 k ∧ okO ⟨c0, c1⟩ ∧ Bag w w.heap.size b v l [(C, [.slice qA c0.length qC, .int .i64 c1]), (A, [.slice pA a0.length pC, .int .i64 a1]), (w.heap.size, [.slice none 0 0, .int .i64 0]), (w.heap.size + 1, [.slice none 0 0, .int .i64 0])] [hRow cVersion 56 2 w.heap.size (.slice qA c0.length qC) c0, hRow cVersion 56 2 w.heap.size (.slice pA a0.length pC) a0] wr) (fun i _ => 5 - (intOf i).toNat)
      case atStart => exact ⟨0, qA, qC, c0, c1, by omega, rfl, OKc.out, BG.out⟩
      case round =>
        clear BG OKc
        obtain ⟨k, qA, qC, c0, c1, hk, rfl, hok, hbg⟩ := hrel
        have BG := Lib.hid hbg
        have OKc := Lib.hid hok
        clear hbg hok
        by_cases h5 : k < 5
        · skip
          have HOF := Lib.hid (specIsOffer_b (.agg #[.slice qA c0.length qC, .int .i64 c1]) ⟨c0, c1⟩ _ rfl _ ⟨_, rfl, ownsF_at (show OwnsF cVersion 56 2 _ w.heap.size (.slice qA c0.length qC) c0 from BG.out.row (hRow cVersion 56 2 w.heap.size (.slice qA c0.length qC) c0) (by simp)) (Nat.le_trans OKc.out.1 (by decide))⟩)
          have B_y := Lib.hid (BG.out.box (C, [.slice qA c0.length qC, .int .i64 c1]) (by simp))
          simp only at B_y
          have y0 := B_y.out.cell 0 (by simp)
          have y1 := B_y.out.cell 1 (by simp)
          simp only [List.getElem_cons_zero, List.getElem_cons_succ] at y0 y1
          have fy0 := B_y.out.froz 0 (by simp)
          have fy1 := B_y.out.froz 1 (by simp)
          have l_y := B_y.out.lt
          go_wp2_with fail
          clear B_y l_y y0 fy0 y1 fy1
          refine HOF.out.mono ?_
          rintro e w19 ⟨rfl, hb⟩
          replace BG := Lib.hid (BG.out.below hb)
          clear hb HOF
          cases hq : offerB ⟨c0, c1⟩
          case false =>
            go_wp2_with fail
            refine (l5Offer_any b v l _ BG.out.cur).mono ?_
            rintro e w9 ⟨⟨n0, n1⟩, u, rfl, ho, hok, hg, hC⟩
            obtain ⟨nA, nC, rfl⟩ := slice_of ho
            simp only at ho
            have OKn := Lib.hid hok
            replace BG := Lib.hid ((BG.out.drawn hg hC (hRow cVersion 56 2 w.heap.size (.slice nA n0.length nC) n0) (ownsF_base ho (BG.out.size)) (fun g e => (World.ownsRow.lt ho g e).1)).less (List.Sublist.refl _) (rs' := [hRow cVersion 56 2 w.heap.size (.slice nA n0.length nC) n0, hRow cVersion 56 2 w.heap.size (.slice pA a0.length pC) a0]) (.cons_cons _ (.cons _ (.cons_cons _ .slnil))))
            clear ho hok hg hC
            have B_y := Lib.hid (BG.out.box (C, [.slice qA c0.length qC, .int .i64 c1]) (by simp))
            simp only at B_y
            have y0 := B_y.out.cell 0 (by simp)
            have y1 := B_y.out.cell 1 (by simp)
            simp only [List.getElem_cons_zero, List.getElem_cons_succ] at y0 y1
            have fy0 := B_y.out.froz 0 (by simp)
            have fy1 := B_y.out.froz 1 (by simp)
            have l_y := B_y.out.lt
            have BG2 := Lib.hid ((BG.out.set 0 rfl (by simp) (.slice nA n0.length nC) (j := 0)).set 0 rfl (by simp) (.int .i64 n1) (j := 1))
            simp only [List.set_cons_zero, List.set_cons_succ] at BG2
            go_wp2_with fail
            exact ⟨⟨k + 1, nA, nC, n0, n1, by omega, by go_num, OKn.out, BG2.out⟩, by simp [intOf]; omega⟩
          case true =>
            have HOF := Lib.hid (specIsOffer_b (.agg #[.slice pA a0.length pC, .int .i64 a1]) ⟨a0, a1⟩ _ rfl _ ⟨_, rfl, ownsF_at (show OwnsF cVersion 56 2 _ w.heap.size (.slice pA a0.length pC) a0 from BG.out.row (hRow cVersion 56 2 w.heap.size (.slice pA a0.length pC) a0) (by simp)) (Nat.le_trans OKa.out.1 (by decide))⟩)
            clear hk
            have B_x := Lib.hid (BG.out.box (A, [.slice pA a0.length pC, .int .i64 a1]) (by simp))
            simp only at B_x
            have x0 := B_x.out.cell 0 (by simp)
            have x1 := B_x.out.cell 1 (by simp)
            simp only [List.getElem_cons_zero, List.getElem_cons_succ] at x0 x1
            have fx0 := B_x.out.froz 0 (by simp)
            have fx1 := B_x.out.froz 1 (by simp)
            have l_x := B_x.out.lt
            go_wp2_with fail
            clear B_x l_x x0 fx0 x1 fx1
            refine HOF.out.mono ?_
            rintro e w20 ⟨rfl, hb⟩
            replace BG := Lib.hid (BG.out.below hb)
            clear hb HOF
            cases hqa : offerB ⟨a0, a1⟩
            case false =>
              have B_r := Lib.hid (BG.out.box (w.heap.size, [.slice none 0 0, .int .i64 0]) (by simp))
              simp only at B_r
              have r0 := B_r.out.cell 0 (by simp)
              have r1 := B_r.out.cell 1 (by simp)
              simp only [List.getElem_cons_zero, List.getElem_cons_succ] at r0 r1
              have fr0 := B_r.out.froz 0 (by simp)
              have fr1 := B_r.out.froz 1 (by simp)
              have l_r := B_r.out.lt
              have B_s := Lib.hid (BG.out.box (w.heap.size + 1, [.slice none 0 0, .int .i64 0]) (by simp))
              simp only at B_s
              have s0 := B_s.out.cell 0 (by simp)
              have s1 := B_s.out.cell 1 (by simp)
              simp only [List.getElem_cons_zero, List.getElem_cons_succ] at s0 s1
              have fs0 := B_s.out.froz 0 (by simp)
              have fs1 := B_s.out.froz 1 (by simp)
              have l_s := B_s.out.lt
              have BE := Lib.hid (BG.out.bel hbw)
              go_wp2_with fail
              refine bodyPost_ret (v := .tuple #[.agg #[.slice none 0 0, .int .i64 0], .agg #[.slice none 0 0, .int .i64 0]]) (by simp [results, Try.results24, go_sem, cell_set_at, cell_set_ne, bx_set_ne, r0, r1, s0, s1]) rfl ?_
              refine ⟨⟨[], 0⟩, ⟨[], 0⟩, _, _, rfl, ownsF_no _ _ _ _ _, ownsF_no _ _ _ _ _, okO_z, okO_z, offer_z, offer_z, ?_⟩
              repeat (first | with_reducible exact BE.out | with_reducible refine Below.setCell ?_ (by simp) _ | with_reducible refine Below.drew ?_)
            case true =>
              have HOF := Lib.hid (specIsOffer_b (.agg #[.slice qA c0.length qC, .int .i64 c1]) ⟨c0, c1⟩ _ rfl _ ⟨_, rfl, ownsF_at (show OwnsF cVersion 56 2 _ w.heap.size (.slice qA c0.length qC) c0 from BG.out.row (hRow cVersion 56 2 w.heap.size (.slice qA c0.length qC) c0) (by simp)) (Nat.le_trans OKc.out.1 (by decide))⟩)
              have B_y := Lib.hid (BG.out.box (C, [.slice qA c0.length qC, .int .i64 c1]) (by simp))
              simp only at B_y
              have y0 := B_y.out.cell 0 (by simp)
              have y1 := B_y.out.cell 1 (by simp)
              simp only [List.getElem_cons_zero, List.getElem_cons_succ] at y0 y1
              have fy0 := B_y.out.froz 0 (by simp)
              have fy1 := B_y.out.froz 1 (by simp)
              have l_y := B_y.out.lt
              go_wp2_with fail
              clear B_y l_y y0 fy0 y1 fy1
              refine HOF.out.mono ?_
              rintro e w21 ⟨rfl, hb⟩
              replace BG := Lib.hid (BG.out.below hb)
              clear hb HOF
              cases hqc : offerB ⟨c0, c1⟩
              case false =>
                have B_r := Lib.hid (BG.out.box (w.heap.size, [.slice none 0 0, .int .i64 0]) (by simp))
                simp only at B_r
                have r0 := B_r.out.cell 0 (by simp)
                have r1 := B_r.out.cell 1 (by simp)
                simp only [List.getElem_cons_zero, List.getElem_cons_succ] at r0 r1
                have fr0 := B_r.out.froz 0 (by simp)
                have fr1 := B_r.out.froz 1 (by simp)
                have l_r := B_r.out.lt
                have B_s := Lib.hid (BG.out.box (w.heap.size + 1, [.slice none 0 0, .int .i64 0]) (by simp))
                simp only at B_s
                have s0 := B_s.out.cell 0 (by simp)
                have s1 := B_s.out.cell 1 (by simp)
                simp only [List.getElem_cons_zero, List.getElem_cons_succ] at s0 s1
                have fs0 := B_s.out.froz 0 (by simp)
                have fs1 := B_s.out.froz 1 (by simp)
                have l_s := B_s.out.lt
                have BE := Lib.hid (BG.out.bel hbw)
                go_wp2_with fail
                refine bodyPost_ret (v := .tuple #[.agg #[.slice none 0 0, .int .i64 0], .agg #[.slice none 0 0, .int .i64 0]]) (by simp [results, Try.results24, go_sem, cell_set_at, cell_set_ne, bx_set_ne, r0, r1, s0, s1]) rfl ?_
                refine ⟨⟨[], 0⟩, ⟨[], 0⟩, _, _, rfl, ownsF_no _ _ _ _ _, ownsF_no _ _ _ _ _, okO_z, okO_z, offer_z, offer_z, ?_⟩
                repeat (first | with_reducible exact BE.out | with_reducible refine Below.setCell ?_ (by simp) _ | with_reducible refine Below.drew ?_)
              case true =>
                have B_x := Lib.hid (BG.out.box (A, [.slice pA a0.length pC, .int .i64 a1]) (by simp))
                simp only at B_x
                have x0 := B_x.out.cell 0 (by simp)
                have x1 := B_x.out.cell 1 (by simp)
                simp only [List.getElem_cons_zero, List.getElem_cons_succ] at x0 x1
                have fx0 := B_x.out.froz 0 (by simp)
                have fx1 := B_x.out.froz 1 (by simp)
                have l_x := B_x.out.lt
                have B_y := Lib.hid (BG.out.box (C, [.slice qA c0.length qC, .int .i64 c1]) (by simp))
                simp only at B_y
                have y0 := B_y.out.cell 0 (by simp)
                have y1 := B_y.out.cell 1 (by simp)
                simp only [List.getElem_cons_zero, List.getElem_cons_succ] at y0 y1
                have fy0 := B_y.out.froz 0 (by simp)
                have fy1 := B_y.out.froz 1 (by simp)
                have l_y := B_y.out.lt
                have B_r := Lib.hid (BG.out.box (w.heap.size, [.slice none 0 0, .int .i64 0]) (by simp))
                simp only at B_r
                have r0 := B_r.out.cell 0 (by simp)
                have r1 := B_r.out.cell 1 (by simp)
                simp only [List.getElem_cons_zero, List.getElem_cons_succ] at r0 r1
                have fr0 := B_r.out.froz 0 (by simp)
                have fr1 := B_r.out.froz 1 (by simp)
                have l_r := B_r.out.lt
                have B_s := Lib.hid (BG.out.box (w.heap.size + 1, [.slice none 0 0, .int .i64 0]) (by simp))
                simp only at B_s
                have s0 := B_s.out.cell 0 (by simp)
                have s1 := B_s.out.cell 1 (by simp)
                simp only [List.getElem_cons_zero, List.getElem_cons_succ] at s0 s1
                have fs0 := B_s.out.froz 0 (by simp)
                have fs1 := B_s.out.froz 1 (by simp)
                have l_s := B_s.out.lt
                have hpd := BG.out.dis
                simp only [List.pairwise_cons, List.mem_cons, List.not_mem_nil, or_false, forall_eq_or_imp, forall_eq, List.Pairwise.nil, and_true] at hpd
                obtain ⟨⟨d1, d2, d3⟩, ⟨d4, d5⟩, d6⟩ := hpd
                have HRa := Lib.hid (show OwnsF cVersion 56 2 _ w.heap.size (.slice pA a0.length pC) a0 from BG.out.row (hRow cVersion 56 2 w.heap.size (.slice pA a0.length pC) a0) (by simp))
                have sa1 := Lib.hid (show (Value.slice pA a0.length pC).ownBlock ≠ some (w.heap.size) from BG.out.sep (w.heap.size, [.slice none 0 0, .int .i64 0]) (by simp) (hRow cVersion 56 2 w.heap.size (.slice pA a0.length pC) a0) (by simp))
                have sa2 := Lib.hid (show (Value.slice pA a0.length pC).ownBlock ≠ some (w.heap.size + 1) from BG.out.sep (w.heap.size + 1, [.slice none 0 0, .int .i64 0]) (by simp) (hRow cVersion 56 2 w.heap.size (.slice pA a0.length pC) a0) (by simp))
                have HRc := Lib.hid (show OwnsF cVersion 56 2 _ w.heap.size (.slice qA c0.length qC) c0 from BG.out.row (hRow cVersion 56 2 w.heap.size (.slice qA c0.length qC) c0) (by simp))
                have sc1 := Lib.hid (show (Value.slice qA c0.length qC).ownBlock ≠ some (w.heap.size) from BG.out.sep (w.heap.size, [.slice none 0 0, .int .i64 0]) (by simp) (hRow cVersion 56 2 w.heap.size (.slice qA c0.length qC) c0) (by simp))
                have sc2 := Lib.hid (show (Value.slice qA c0.length qC).ownBlock ≠ some (w.heap.size + 1) from BG.out.sep (w.heap.size + 1, [.slice none 0 0, .int .i64 0]) (by simp) (hRow cVersion 56 2 w.heap.size (.slice qA c0.length qC) c0) (by simp))
                have BE := Lib.hid (BG.out.bel hbw)
                go_wp2_with fail
                go_region
                all_goals (try go_wp2_with fail)
                all_goals
                  refine bodyPost_ret (v := .tuple #[.agg #[.slice pA a0.length pC, .int .i64 a1], .agg #[.slice qA c0.length qC, .int .i64 c1]]) (by simp [results, Try.results24, go_sem, cell_set_at, cell_set_ne, bx_set_ne, r0, r1, s0, s1]) rfl ?_
                  refine ⟨⟨a0, a1⟩, ⟨c0, c1⟩, _, _, rfl, ?_, ?_, OKa.out, OKc.out, hqa, hqc, ?_⟩
                  · show OwnsF _ _ _ _ _ _ a0
                    repeat (first | with_reducible exact HRa.out | with_reducible refine ownsF_so ?_ sa1.out _ _ | with_reducible refine ownsF_so ?_ sa2.out _ _ | with_reducible refine ownsF_drB ?_)
                  · show OwnsF _ _ _ _ _ _ c0
                    repeat (first | with_reducible exact HRc.out | with_reducible refine ownsF_so ?_ sc1.out _ _ | with_reducible refine ownsF_so ?_ sc2.out _ _ | with_reducible refine ownsF_drB ?_)
                  · repeat (first | with_reducible exact BE.out | with_reducible refine Below.setCell ?_ (by simp) _ | with_reducible refine Below.drew ?_)
        · skip
          have HOF := Lib.hid (specIsOffer_b (.agg #[.slice pA a0.length pC, .int .i64 a1]) ⟨a0, a1⟩ _ rfl _ ⟨_, rfl, ownsF_at (show OwnsF cVersion 56 2 _ w.heap.size (.slice pA a0.length pC) a0 from BG.out.row (hRow cVersion 56 2 w.heap.size (.slice pA a0.length pC) a0) (by simp)) (Nat.le_trans OKa.out.1 (by decide))⟩)
          clear hk
          have B_x := Lib.hid (BG.out.box (A, [.slice pA a0.length pC, .int .i64 a1]) (by simp))
          simp only at B_x
          have x0 := B_x.out.cell 0 (by simp)
          have x1 := B_x.out.cell 1 (by simp)
          simp only [List.getElem_cons_zero, List.getElem_cons_succ] at x0 x1
          have fx0 := B_x.out.froz 0 (by simp)
          have fx1 := B_x.out.froz 1 (by simp)
          have l_x := B_x.out.lt
          go_wp2_with fail
          clear B_x l_x x0 fx0 x1 fx1
          refine HOF.out.mono ?_
          rintro e w20 ⟨rfl, hb⟩
          replace BG := Lib.hid (BG.out.below hb)
          clear hb HOF
          cases hqa : offerB ⟨a0, a1⟩
          case false =>
            have B_r := Lib.hid (BG.out.box (w.heap.size, [.slice none 0 0, .int .i64 0]) (by simp))
            simp only at B_r
            have r0 := B_r.out.cell 0 (by simp)
            have r1 := B_r.out.cell 1 (by simp)
            simp only [List.getElem_cons_zero, List.getElem_cons_succ] at r0 r1
            have fr0 := B_r.out.froz 0 (by simp)
            have fr1 := B_r.out.froz 1 (by simp)
            have l_r := B_r.out.lt
            have B_s := Lib.hid (BG.out.box (w.heap.size + 1, [.slice none 0 0, .int .i64 0]) (by simp))
            simp only at B_s
            have s0 := B_s.out.cell 0 (by simp)
            have s1 := B_s.out.cell 1 (by simp)
            simp only [List.getElem_cons_zero, List.getElem_cons_succ] at s0 s1
            have fs0 := B_s.out.froz 0 (by simp)
            have fs1 := B_s.out.froz 1 (by simp)
            have l_s := B_s.out.lt
            have BE := Lib.hid (BG.out.bel hbw)
            go_wp2_with fail
            refine bodyPost_ret (v := .tuple #[.agg #[.slice none 0 0, .int .i64 0], .agg #[.slice none 0 0, .int .i64 0]]) (by simp [results, Try.results24, go_sem, cell_set_at, cell_set_ne, bx_set_ne, r0, r1, s0, s1]) rfl ?_
            refine ⟨⟨[], 0⟩, ⟨[], 0⟩, _, _, rfl, ownsF_no _ _ _ _ _, ownsF_no _ _ _ _ _, okO_z, okO_z, offer_z, offer_z, ?_⟩
            repeat (first | with_reducible exact BE.out | with_reducible refine Below.setCell ?_ (by simp) _ | with_reducible refine Below.drew ?_)
          case true =>
            have HOF := Lib.hid (specIsOffer_b (.agg #[.slice qA c0.length qC, .int .i64 c1]) ⟨c0, c1⟩ _ rfl _ ⟨_, rfl, ownsF_at (show OwnsF cVersion 56 2 _ w.heap.size (.slice qA c0.length qC) c0 from BG.out.row (hRow cVersion 56 2 w.heap.size (.slice qA c0.length qC) c0) (by simp)) (Nat.le_trans OKc.out.1 (by decide))⟩)
            have B_y := Lib.hid (BG.out.box (C, [.slice qA c0.length qC, .int .i64 c1]) (by simp))
            simp only at B_y
            have y0 := B_y.out.cell 0 (by simp)
            have y1 := B_y.out.cell 1 (by simp)
            simp only [List.getElem_cons_zero, List.getElem_cons_succ] at y0 y1
            have fy0 := B_y.out.froz 0 (by simp)
            have fy1 := B_y.out.froz 1 (by simp)
            have l_y := B_y.out.lt
            go_wp2_with fail
            clear B_y l_y y0 fy0 y1 fy1
            refine HOF.out.mono ?_
            rintro e w21 ⟨rfl, hb⟩
            replace BG := Lib.hid (BG.out.below hb)
            clear hb HOF
            cases hqc : offerB ⟨c0, c1⟩
            case false =>
              have B_r := Lib.hid (BG.out.box (w.heap.size, [.slice none 0 0, .int .i64 0]) (by simp))
              simp only at B_r
              have r0 := B_r.out.cell 0 (by simp)
              have r1 := B_r.out.cell 1 (by simp)
              simp only [List.getElem_cons_zero, List.getElem_cons_succ] at r0 r1
              have fr0 := B_r.out.froz 0 (by simp)
              have fr1 := B_r.out.froz 1 (by simp)
              have l_r := B_r.out.lt
              have B_s := Lib.hid (BG.out.box (w.heap.size + 1, [.slice none 0 0, .int .i64 0]) (by simp))
              simp only at B_s
              have s0 := B_s.out.cell 0 (by simp)
              have s1 := B_s.out.cell 1 (by simp)
              simp only [List.getElem_cons_zero, List.getElem_cons_succ] at s0 s1
              have fs0 := B_s.out.froz 0 (by simp)
              have fs1 := B_s.out.froz 1 (by simp)
              have l_s := B_s.out.lt
              have BE := Lib.hid (BG.out.bel hbw)
              go_wp2_with fail
              refine bodyPost_ret (v := .tuple #[.agg #[.slice none 0 0, .int .i64 0], .agg #[.slice none 0 0, .int .i64 0]]) (by simp [results, Try.results24, go_sem, cell_set_at, cell_set_ne, bx_set_ne, r0, r1, s0, s1]) rfl ?_
              refine ⟨⟨[], 0⟩, ⟨[], 0⟩, _, _, rfl, ownsF_no _ _ _ _ _, ownsF_no _ _ _ _ _, okO_z, okO_z, offer_z, offer_z, ?_⟩
              repeat (first | with_reducible exact BE.out | with_reducible refine Below.setCell ?_ (by simp) _ | with_reducible refine Below.drew ?_)
            case true =>
              have B_x := Lib.hid (BG.out.box (A, [.slice pA a0.length pC, .int .i64 a1]) (by simp))
              simp only at B_x
              have x0 := B_x.out.cell 0 (by simp)
              have x1 := B_x.out.cell 1 (by simp)
              simp only [List.getElem_cons_zero, List.getElem_cons_succ] at x0 x1
              have fx0 := B_x.out.froz 0 (by simp)
              have fx1 := B_x.out.froz 1 (by simp)
              have l_x := B_x.out.lt
              have B_y := Lib.hid (BG.out.box (C, [.slice qA c0.length qC, .int .i64 c1]) (by simp))
              simp only at B_y
              have y0 := B_y.out.cell 0 (by simp)
              have y1 := B_y.out.cell 1 (by simp)
              simp only [List.getElem_cons_zero, List.getElem_cons_succ] at y0 y1
              have fy0 := B_y.out.froz 0 (by simp)
              have fy1 := B_y.out.froz 1 (by simp)
              have l_y := B_y.out.lt
              have B_r := Lib.hid (BG.out.box (w.heap.size, [.slice none 0 0, .int .i64 0]) (by simp))
              simp only at B_r
              have r0 := B_r.out.cell 0 (by simp)
              have r1 := B_r.out.cell 1 (by simp)
              simp only [List.getElem_cons_zero, List.getElem_cons_succ] at r0 r1
              have fr0 := B_r.out.froz 0 (by simp)
              have fr1 := B_r.out.froz 1 (by simp)
              have l_r := B_r.out.lt
              have B_s := Lib.hid (BG.out.box (w.heap.size + 1, [.slice none 0 0, .int .i64 0]) (by simp))
              simp only at B_s
              have s0 := B_s.out.cell 0 (by simp)
              have s1 := B_s.out.cell 1 (by simp)
              simp only [List.getElem_cons_zero, List.getElem_cons_succ] at s0 s1
              have fs0 := B_s.out.froz 0 (by simp)
              have fs1 := B_s.out.froz 1 (by simp)
              have l_s := B_s.out.lt
              have hpd := BG.out.dis
              simp only [List.pairwise_cons, List.mem_cons, List.not_mem_nil, or_false, forall_eq_or_imp, forall_eq, List.Pairwise.nil, and_true] at hpd
              obtain ⟨⟨d1, d2, d3⟩, ⟨d4, d5⟩, d6⟩ := hpd
              have HRa := Lib.hid (show OwnsF cVersion 56 2 _ w.heap.size (.slice pA a0.length pC) a0 from BG.out.row (hRow cVersion 56 2 w.heap.size (.slice pA a0.length pC) a0) (by simp))
              have sa1 := Lib.hid (show (Value.slice pA a0.length pC).ownBlock ≠ some (w.heap.size) from BG.out.sep (w.heap.size, [.slice none 0 0, .int .i64 0]) (by simp) (hRow cVersion 56 2 w.heap.size (.slice pA a0.length pC) a0) (by simp))
              have sa2 := Lib.hid (show (Value.slice pA a0.length pC).ownBlock ≠ some (w.heap.size + 1) from BG.out.sep (w.heap.size + 1, [.slice none 0 0, .int .i64 0]) (by simp) (hRow cVersion 56 2 w.heap.size (.slice pA a0.length pC) a0) (by simp))
              have HRc := Lib.hid (show OwnsF cVersion 56 2 _ w.heap.size (.slice qA c0.length qC) c0 from BG.out.row (hRow cVersion 56 2 w.heap.size (.slice qA c0.length qC) c0) (by simp))
              have sc1 := Lib.hid (show (Value.slice qA c0.length qC).ownBlock ≠ some (w.heap.size) from BG.out.sep (w.heap.size, [.slice none 0 0, .int .i64 0]) (by simp) (hRow cVersion 56 2 w.heap.size (.slice qA c0.length qC) c0) (by simp))
              have sc2 := Lib.hid (show (Value.slice qA c0.length qC).ownBlock ≠ some (w.heap.size + 1) from BG.out.sep (w.heap.size + 1, [.slice none 0 0, .int .i64 0]) (by simp) (hRow cVersion 56 2 w.heap.size (.slice qA c0.length qC) c0) (by simp))
              have BE := Lib.hid (BG.out.bel hbw)
              go_wp2_with fail
              go_region
              all_goals (try go_wp2_with fail)
              all_goals
                refine bodyPost_ret (v := .tuple #[.agg #[.slice pA a0.length pC, .int .i64 a1], .agg #[.slice qA c0.length qC, .int .i64 c1]]) (by simp [results, Try.results24, go_sem, cell_set_at, cell_set_ne, bx_set_ne, r0, r1, s0, s1]) rfl ?_
                refine ⟨⟨a0, a1⟩, ⟨c0, c1⟩, _, _, rfl, ?_, ?_, OKa.out, OKc.out, hqa, hqc, ?_⟩
                · show OwnsF _ _ _ _ _ _ a0
                  repeat (first | with_reducible exact HRa.out | with_reducible refine ownsF_so ?_ sa1.out _ _ | with_reducible refine ownsF_so ?_ sa2.out _ _ | with_reducible refine ownsF_drB ?_)
                · show OwnsF _ _ _ _ _ _ c0
                  repeat (first | with_reducible exact HRc.out | with_reducible refine ownsF_so ?_ sc1.out _ _ | with_reducible refine ownsF_so ?_ sc2.out _ _ | with_reducible refine ownsF_drB ?_)
                · repeat (first | with_reducible exact BE.out | with_reducible refine Below.setCell ?_ (by simp) _ | with_reducible refine Below.drew ?_)
end Go.Proofs.Ytaihdjdaamglnaa
/- Deals, plain: what is common hangs on the sides alone, not on their order nor on how often they stand there. -/
namespace Go.Proofs.Ytaihdjdaamglnaa
set_option linter.unusedVariables false
open Go.RowKit
theorem inV_iff {l : List VersionD} {v : VersionD} : inV l v = true ↔ v ∈ l := by unfold inV; exact decide_eq_true_iff
theorem comV_mem {l : List OfferD} (hne : l ≠ []) (v : VersionD) : v ∈ comV l ↔ ∀ o ∈ l, v ∈ o.fVersions := by
  cases l with
  | nil => exact absurd rfl hne
  | cons x r =>
    unfold comV allHaveB
    rw [List.mem_filter, List.all_eq_true]
    constructor
    · rintro ⟨_, h⟩ o ho; exact inV_iff.1 (h o ho)
    · intro h; exact ⟨h x List.mem_cons_self, fun o ho => inV_iff.2 (h o ho)⟩
def SortP (l : List VersionD) : Prop := l.Pairwise (fun a b => cmpV a b < 0)
theorem sortP_of {l : List VersionD} (h : versB l = true) : SortP l := by
  have hs := sorted_of h
  unfold SortP
  rw [List.pairwise_iff_getElem]
  intro i j hi hj hij
  have := hs i j hij hj
  rwa [getD_V l i hi, getD_V l j hj] at this
theorem comV_sort {l : List OfferD} (h : l.all offerB = true) : SortP (comV l) := by
  cases l with
  | nil => exact List.Pairwise.nil
  | cons x r =>
    rw [List.all_eq_true] at h
    have hx := h x List.mem_cons_self
    simp only [offerB, Bool.and_eq_true] at hx
    exact (sortP_of hx.2).filter _
theorem cmpV_irr (a : VersionD) : ¬ cmpV a a < 0 := by rw [cmpV_self]; omega
theorem sortP_ext : ∀ {a b : List VersionD}, SortP a → SortP b → (∀ v, v ∈ a ↔ v ∈ b) → a = b
  | [], [], _, _, _ => rfl
  | [], y :: s, _, _, h => absurd ((h y).2 List.mem_cons_self) (by simp)
  | x :: r, [], _, _, h => absurd ((h x).1 List.mem_cons_self) (by simp)
  | x :: r, y :: s, ha, hb, h => by
    unfold SortP at ha hb
    rw [List.pairwise_cons] at ha hb
    have exy : x = y := by
      rcases List.mem_cons.1 ((h x).1 List.mem_cons_self) with e | hx
      · exact e
      · rcases List.mem_cons.1 ((h y).2 List.mem_cons_self) with e | hy
        · exact e.symm
        · exact absurd (cmpV_trans (ha.1 y hy) (hb.1 x hx)) (cmpV_irr x)
    subst exy
    have hx : x ∉ r := fun hm => cmpV_irr x (ha.1 x hm)
    have hy : x ∉ s := fun hm => cmpV_irr x (hb.1 x hm)
    rw [sortP_ext ha.2 hb.2 (fun v => by
      constructor
      · intro hv
        rcases List.mem_cons.1 ((h v).1 (List.mem_cons_of_mem _ hv)) with e | e
        · subst e; exact absurd hv hx
        · exact e
      · intro hv
        rcases List.mem_cons.1 ((h v).2 (List.mem_cons_of_mem _ hv)) with e | e
        · subst e; exact absurd hv hy
        · exact e)]
theorem comF_has : ∀ (l : List OfferD) (f : Int), isF f = true → (∀ o ∈ l, isF o.fFace = true) → ∀ j, j < 6 → (hasI (l.foldl (fun f x => bothF f x.fFace) f) j = true ↔ hasI f j = true ∧ ∀ o ∈ l, hasI o.fFace j = true) := by
  intro l
  induction l with
  | nil => intro f hf _ j hj; simp
  | cons x r ih =>
    intro f hf ho j hj
    have hx := ho x List.mem_cons_self
    rw [List.foldl_cons, ih _ (isF_both hf hx) (fun o h => ho o (List.mem_cons_of_mem _ h)) j hj, both_is hf hx, hasI_made _ j hj]
    unfold bothP
    simp only [Bool.and_eq_true, List.mem_cons, forall_eq_or_imp, and_assoc]
theorem deal_same {l m : List OfferD} (hl : l ≠ []) (hm : m ≠ []) (h : ∀ o, o ∈ l ↔ o ∈ m) : dealV l = dealV m ∧ dealB l = dealB m := by
  have hall : l.all offerB = m.all offerB := by
    rw [Bool.eq_iff_iff, List.all_eq_true, List.all_eq_true]
    exact ⟨fun q o ho => q o ((h o).2 ho), fun q o ho => q o ((h o).1 ho)⟩
  have hO : dealO l = dealO m := by
    unfold dealO
    rw [hall]
    by_cases ha : m.all offerB = true
    · rw [if_pos ha, if_pos ha, sortP_ext (comV_sort (hall ▸ ha)) (comV_sort ha) (fun v => by rw [comV_mem hl, comV_mem hm]; exact ⟨fun q o ho => q o ((h o).2 ho), fun q o ho => q o ((h o).1 ho)⟩)]
    · rw [if_neg ha, if_neg ha]
  refine ⟨?_, by unfold dealB; rw [hO]⟩
  unfold dealV
  rw [hO]
  cases hd : dealO m with
  | none => rfl
  | some v =>
    have ha : m.all offerB = true := by
      unfold dealO at hd
      by_cases ha : m.all offerB = true
      · exact ha
      · rw [if_neg ha] at hd; cases hd
    have hf : ∀ o ∈ m, isF o.fFace = true := fun o ho => by
      have := List.all_eq_true.1 ha o ho
      simp only [offerB, Bool.and_eq_true] at this
      exact this.1
    have e : comF l = comF m := face_ext (comF_face l) (comF_face m) fun j hj => by
      rw [Bool.eq_iff_iff]
      unfold comF
      rw [comF_has l 63 rfl (fun o ho => hf o ((h o).1 ho)) j hj, comF_has m 63 rfl hf j hj]
      exact ⟨fun q => ⟨q.1, fun o ho => q.2 o ((h o).2 ho)⟩, fun q => ⟨q.1, fun o ho => q.2 o ((h o).1 ho)⟩⟩
    unfold dealOf
    rw [e]
/-- both sides make the same deal, in whatever order, and with one of them twice -/
theorem deal_sides (a b : OfferD) : (dealV [b, a] = dealV [a, b] ∧ dealB [b, a] = dealB [a, b]) ∧ (dealV [b, a, b] = dealV [a, b] ∧ dealB [b, a, b] = dealB [a, b]) :=
  ⟨deal_same (by simp) (by simp) (fun o => by simp [or_comm]), deal_same (by simp) (by simp) (fun o => by
    simp only [List.mem_cons, List.not_mem_nil, or_false]
    constructor
    · rintro (h | h | h)
      · exact Or.inr h
      · exact Or.inl h
      · exact Or.inr h
    · rintro (h | h)
      · exact Or.inr (Or.inl h)
      · exact Or.inl h)⟩
end Go.Proofs.Ytaihdjdaamglnaa
/- Contracts of chapter 5: deals, the program's. -/
namespace Go.Proofs.Ytaihdjdaamglnaa
set_option linter.unusedVariables false
set_option linter.unusedSimpArgs false
open Go.RowKit
def vDeal (d : DealD) : Value := .agg #[.int .i64 d.fMajor, .int .i64 d.fMinor, .int .i64 d.fFace]
/-- a variable of three cells -/
structure Var3 (w : World) (b : Nat) (x y z : Value) : Prop where
  lt : b < w.heap.size
  c0 : w.cell? ⟨b, 0, none⟩ = some x
  c1 : w.cell? ⟨b, 1, none⟩ = some y
  c2 : w.cell? ⟨b, 2, none⟩ = some z
  f0 : w.frozen? ⟨b, 0, none⟩ = false
  f1 : w.frozen? ⟨b, 1, none⟩ = false
  f2 : w.frozen? ⟨b, 2, none⟩ = false
theorem Var3.below {w w' : World} {b : Nat} {x y z : Value} (h : Var3 w b x y z) (hb : Below w.heap.size w w') : Var3 w' b x y z :=
  ⟨Nat.lt_of_lt_of_le h.lt hb.size, (hb.cell (p := ⟨b, 0, none⟩) h.lt).trans h.c0, (hb.cell (p := ⟨b, 1, none⟩) h.lt).trans h.c1, (hb.cell (p := ⟨b, 2, none⟩) h.lt).trans h.c2, (hb.frozen (p := ⟨b, 0, none⟩) h.lt).trans h.f0, (hb.frozen (p := ⟨b, 1, none⟩) h.lt).trans h.f1, (hb.frozen (p := ⟨b, 2, none⟩) h.lt).trans h.f2⟩
theorem Var3.new (w : World) (x y z : Value) (t : TypeId) : Var3 (w.alloc (.cells #[x, y, z] t)) w.heap.size x y z := ⟨by simp, by simp, by simp, by simp, by simp, by simp, by simp⟩
theorem Var3.one {w : World} {b c : Nat} {x y z : Value} (h : Var3 w b x y z) (hne : b ≠ c) (i : Nat) (u : Value) : Var3 (w.setCell ⟨c, i, none⟩ u) b x y z := by
  obtain ⟨h1, h2, h3, h4, h5, h6, h7⟩ := h
  exact ⟨by simpa using h1, (set_ne (Or.inl hne)).trans h2, (set_ne (Or.inl hne)).trans h3, (set_ne (Or.inl hne)).trans h4, by simpa using h5, by simpa using h6, by simpa using h7⟩
theorem Var3.set {w : World} {b : Nat} {x y z : Value} (h : Var3 w b x y z) (x' y' z' : Value) : Var3 (((w.setCell ⟨b, 0, none⟩ x').setCell ⟨b, 1, none⟩ y').setCell ⟨b, 2, none⟩ z') b x' y' z' := by
  obtain ⟨h1, h2, h3, h4, h5, h6, h7⟩ := h
  refine ⟨by simpa using h1, ?_, ?_, ?_, ?_, ?_, ?_⟩
  · rw [set_ne (Or.inr (by decide)), set_ne (Or.inr (by decide)), set_at h2]
  · rw [set_ne (Or.inr (by decide)), set_at ((set_ne (Or.inr (by decide))).trans h3)]
  · exact set_at ((set_ne (Or.inr (by decide))).trans ((set_ne (Or.inr (by decide))).trans h4))
  · simpa using h5
  · simpa using h6
  · simpa using h7
def DealS (N B : Nat) (w w' : World) : Prop := N < B ∧ B < w'.heap.size ∧ Below w.heap.size w w' ∧ ∃ q0 q1 q2, Var3 w' N q0 q1 q2
theorem DealS.below {N B : Nat} {w w1 w2 : World} (h : DealS N B w w1) (hb : Below w1.heap.size w1 w2) : DealS N B w w2 := by
  obtain ⟨h0, h1, h2, q0, q1, q2, h3⟩ := h
  exact ⟨h0, Nat.lt_of_lt_of_le h1 hb.size, h2.trans (hb.mono h2.size), q0, q1, q2, h3.below hb⟩
theorem DealS.set {N B : Nat} {w w1 : World} (h : DealS N B w w1) (hN : w.heap.size ≤ N) (x y z : Value) : DealS N B w (((w1.setCell ⟨N, 0, none⟩ x).setCell ⟨N, 1, none⟩ y).setCell ⟨N, 2, none⟩ z) := by
  obtain ⟨h0, h1, h2, q0, q1, q2, h3⟩ := h
  exact ⟨h0, by simpa using h1, ((h2.setCell hN _).setCell hN _).setCell hN _, _, _, _, h3.set x y z⟩
theorem DealS.bel {N B : Nat} {w w1 : World} (h : DealS N B w w1) : Below w.heap.size w w1 := h.2.2.1
theorem DealS.drw {N B : Nat} {w w1 : World} (h : DealS N B w w1) : DealS N B w w1.drew := by
  obtain ⟨h0, h1, h2, q0, q1, q2, h3⟩ := h
  exact ⟨h0, h1, belDr h2, q0, q1, q2, ⟨h3.lt, h3.c0, h3.c1, h3.c2, h3.f0, h3.f1, h3.f2⟩⟩
theorem dealO_no {x : List OfferD} (h : x.all offerB = false) : dealO x = none := by unfold dealO; rw [h]; rfl
theorem dealO_nil {x : List OfferD} (h : x.all offerB = true) (h2 : (comV x).length = 0) : dealO x = none := by
  unfold dealO; rw [if_pos h, List.eq_nil_of_length_eq_zero h2]; rfl
theorem dealO_yes {x : List OfferD} (h : x.all offerB = true) (k : Nat) (h2 : (comV x).length = k + 1) : dealO x = some ((comV x)[k]'(by omega)) := by
  unfold dealO; rw [if_pos h, List.getLast?_eq_getElem?, show (comV x).length - 1 = k by omega, List.getElem?_eq_getElem (by omega)]
set_option maxRecDepth 100000 in
set_option maxHeartbeats 1600000 in
theorem implNegAll_any (v : Value) (x : List OfferD) (w : World) (hx : SliceAt rOffer 2 0 w v x) :
    Calls Try.prog 30 #[v] w fun e w' => e = .returned (.tuple #[vDeal (dealV x), .bool (dealB x)]) ∧ Below w.heap.size w w' := by
  have HXB := Lib.hid (box1 w (.cells #[.int .i64 0, .int .i64 0, .int .i64 0] 58))
  have V0 := Lib.hid (Var3.new w (.int .i64 0) (.int .i64 0) (.int .i64 0) 58)
  have HX := Lib.hid hx
  have HA := Lib.hid (areOffers_any v x _ (hx.below goodOffer HXB.out (Nat.le_refl _)))
  have HE := Lib.hid (show dealV x = dealOf x (dealO x) ∧ dealB x = (dealO x).isSome from ⟨rfl, rfl⟩)
  cases hv : x.all offerB with
  | false =>
    rw [hv] at HA
    have HN := Lib.hid (dealO_no hv)
    rw [HE.out.1, HE.out.2, HN.out]
    simp only [dealOf, vDeal, Option.isSome]
    clear hx hv
    go_enter Try.func30, Try.ntmps30
    go_wp2_with fail
    refine HA.out.mono ?_
    rintro e w1 ⟨rfl, hb⟩
    have V1 := Lib.hid (V0.out.below hb)
    have HB := Lib.hid (bel_to HXB.out hb)
    have e0 := V1.out.c0
    have e1 := V1.out.c1
    have e2 := V1.out.c2
    have g0 := V1.out.f0
    have g1 := V1.out.f1
    have g2 := V1.out.f2
    clear hb
    go_wp2_with fail
    refine bodyPost_ret (v := .tuple #[.agg #[.int .i64 0, .int .i64 0, .int .i64 0], .bool false]) (by simp [results, Try.results30, go_sem, e0, e1, e2]) rfl ⟨rfl, ?_⟩
    exact ((HB.out.setCell (Nat.le_refl _) _).setCell (Nat.le_refl _) _).setCell (Nat.le_refl _) _
  | true =>
    rw [hv] at HA
    have HV := Lib.hid hv
    have HC := Lib.hid (fun w1 hw => comVers_any v x w1 (hx.below goodOffer (w' := w1) hw (Nat.le_refl _)) hv)
    have HL := Lib.hid (comV_len hv)
    have HCF := Lib.hid (fun w1 hw => comFace_any v x w1 (hx.below goodOffer (w' := w1) hw (Nat.le_refl _)))
    cases hn : (comV x).length with
    | zero =>
      have HN := Lib.hid (dealO_nil hv hn)
      rw [HE.out.1, HE.out.2, HN.out]
      simp only [dealOf, vDeal, Option.isSome]
      have HCN := Lib.hid (List.eq_nil_of_length_eq_zero hn)
      clear hx hv hn
      go_enter Try.func30, Try.ntmps30
      go_wp2_with fail
      refine HA.out.mono ?_
      rintro e w1 ⟨rfl, hb⟩
      have V1 := Lib.hid (V0.out.below hb)
      have HB := Lib.hid (bel_to HXB.out hb)
      clear hb
      go_wp2_with fail
      refine (HC.out _ HB.out).mono ?_
      rintro e w2 ⟨u, rfl, ho, hb⟩
      have V2 := Lib.hid (V1.out.below hb)
      have HB2 := Lib.hid (bel_to HB.out hb)
      rw [HCN.out] at ho
      obtain ⟨a2, c2, rfl, _⟩ := flatAt_len (ownsF_at ho (by simp))
      have e0 := V2.out.c0
      have e1 := V2.out.c1
      have e2 := V2.out.c2
      have g0 := V2.out.f0
      have g1 := V2.out.f1
      have g2 := V2.out.f2
      clear hb ho
      go_wp2_with fail
      refine bodyPost_ret (v := .tuple #[.agg #[.int .i64 0, .int .i64 0, .int .i64 0], .bool false]) (by simp [results, Try.results30, go_sem, e0, e1, e2]) rfl ⟨rfl, ?_⟩
      exact ((HB2.out.setCell (Nat.le_refl _) _).setCell (Nat.le_refl _) _).setCell (Nat.le_refl _) _
    | succ k =>
      have HN := Lib.hid (dealO_yes hv k hn)
      rw [HE.out.1, HE.out.2, HN.out]
      simp only [dealOf, vDeal, Option.isSome]
      have hk4 : k + 1 ≤ 4 := by have := HL.out; omega
      have HAL := Lib.hid (fun w1 => implAllow_any ((comV x)[k]'(by omega)) w1)
      have HBF := Lib.hid (implBoth_any (comF x) (allowF ((comV x)[k]'(by omega))))
      have HG := Lib.hid (show ∀ (w1 : World) (a : Option Addr) (n c : Nat), FlatAt cVersion 2 w1 (.slice a n c) (comV x) → ∃ b o, a = some ⟨b, o, none⟩ ∧ b < w1.heap.size ∧ ∀ j, j < 2 → w1.cell? ⟨b, o + k * 2 + j, none⟩ = (cVersion ((comV x)[k]'(by omega)))[j]? from fun w1 a n c h => flatAt_cell cVersion_len h k (by omega) (by decide))
      generalize (comV x)[k]'(by omega) = t at *
      generalize comF x = cf at *
      generalize allowF t = al at *
      obtain ⟨t0, t1⟩ := t
      simp only [cVersion, vVersion] at HAL HG ⊢
      have HLN := Lib.hid hn
      clear hx hv hn
      go_enter Try.func30, Try.ntmps30
      go_wp2_with fail
      refine HA.out.mono ?_
      rintro e w1 ⟨rfl, hb⟩
      have V1 := Lib.hid (V0.out.below hb)
      have HB := Lib.hid (bel_to HXB.out hb)
      clear hb
      go_wp2_with fail
      refine (HC.out _ HB.out).mono ?_
      rintro e w2 ⟨u, rfl, ho, hb⟩
      have V2 := Lib.hid (V1.out.below hb)
      have HB2 := Lib.hid (bel_to HB.out hb)
      have hfl := ownsF_at ho (by have := HLN.out; omega)
      obtain ⟨a2, c2, rfl, _⟩ := flatAt_len hfl
      obtain ⟨b, o, rfl, hbw, hd⟩ := HG.out _ _ _ _ hfl
      rw [HLN.out]
      have d0 := hd 0 (by decide)
      have d1 := hd 1 (by decide)
      simp only [List.getElem?_cons_zero, List.getElem?_cons_succ, Nat.add_zero] at d0 d1
      have VT := Lib.hid (Var2.new w2 t0 t1 56)
      have HS0 := Lib.hid (show DealS w.heap.size w2.heap.size w (w2.alloc (.cells #[.int .i64 t0, .int .i64 t1] 56)) from ⟨V2.out.lt, by simp, bel_to HB2.out (box1 w2 _), _, _, _, V2.out.below (box1 w2 _)⟩)
      have HLT := V2.out.lt
      clear hb ho hfl hd
      go_wp2_with fail
      generalize hW : w2.alloc (.cells #[.int .i64 t0, .int .i64 t1] 56) = W at *
      clear hW
      generalize hBB : w2.heap.size = B at *
      clear hBB
      have m0 := VT.out.c0
      have m1 := VT.out.c1
      have hwB : w.heap.size < B := HS0.out.1
      have HDS := HS0.out
      go_region_held3 (fun w' => w'.cell? ⟨B, 0, none⟩ = some (.int .i64 t0) ∧ w'.cell? ⟨B, 1, none⟩ = some (.int .i64 t1) ∧ DealS w.heap.size B w w')
        (first
          | exact ⟨m0, m1, HDS.drw⟩
          | assumption
          | (have hN := ‹_ ∧ _ ∧ DealS w.heap.size B w _›; exact ⟨(hb0.cell (p := ⟨B, 0, none⟩) hN.2.2.2.1).trans hN.1, (hb0.cell (p := ⟨B, 1, none⟩) hN.2.2.2.1).trans hN.2.1, hN.2.2.below hb0⟩)
          | (have hN := ‹_ ∧ _ ∧ DealS w.heap.size B w _›; exact ⟨(set_ne (Or.inl (by omega))).trans ((set_ne (Or.inl (by omega))).trans ((set_ne (Or.inl (by omega))).trans hN.1)), (set_ne (Or.inl (by omega))).trans ((set_ne (Or.inl (by omega))).trans ((set_ne (Or.inl (by omega))).trans hN.2.1)), hN.2.2.set (Nat.le_refl _) _ _ _⟩))
        (first
          | (go_at_call 70; (with_reducible refine (HCF.out _ (DealS.bel (‹_ ∧ _ ∧ DealS w.heap.size B w _›).2.2)).mono ?_); rintro e wN ⟨rfl, hb0⟩)
          | (go_at_call 28; (with_reducible refine (HAL.out _).mono ?_); rintro e wN ⟨rfl, hb0⟩)
          | (go_at_call 69; (with_reducible refine (HBF.out _).mono ?_); rintro e wN ⟨rfl, rfl⟩; obtain ⟨_, _, _, q0, q1, q2, hvv⟩ := (‹_ ∧ _ ∧ DealS w.heap.size B w _›).2.2; have g0 := hvv.c0; have g1 := hvv.c1; have g2 := hvv.c2; have g3 := hvv.f0; have g4 := hvv.f1; have g5 := hvv.f2))
      have HBE := Lib.hid (DealS.bel (‹_ ∧ _ ∧ DealS w.heap.size B w _›).2.2)
      have HVE := Lib.hid (hvv.set (.int .i64 t0) (.int .i64 t1) (.int .i64 (bothF cf al)))
      clear g0 g1 g2 g3 g4 g5 hvv m0 m1 HDS
      generalize ((wN.setCell ⟨w.heap.size, 0, none⟩ (.int .i64 t0)).setCell ⟨w.heap.size, 1, none⟩ (.int .i64 t1)).setCell ⟨w.heap.size, 2, none⟩ (.int .i64 (bothF cf al)) = WE at *
      have e0 := HVE.out.c0
      have e1 := HVE.out.c1
      have e2 := HVE.out.c2
      go_wp2_with fail
      exact bodyPost_ret (v := .tuple #[.agg #[.int .i64 t0, .int .i64 t1, .int .i64 (bothF cf al)], .bool true]) (by simp [results, Try.results30, go_sem, e0, e1, e2]) rfl ⟨rfl, HBE.out⟩
theorem implNegAll_b (v : Value) (x : List OfferD) (d : DealD) (r : Bool) (hd : dealV x = d) (hr : dealB x = r) (w : World) (hx : SliceAt rOffer 2 0 w v x) :
    Calls Try.prog 30 #[v] w fun e w' => e = .returned (.tuple #[vDeal d, .bool r]) ∧ Below w.heap.size w w' := by subst hd hr; exact implNegAll_any v x w hx
end Go.Proofs.Ytaihdjdaamglnaa
/- Contracts of chapter 5: deals, the model's: the plain side, and where a version lies. -/
namespace Go.Proofs.Ytaihdjdaamglnaa
set_option linter.unusedVariables false
set_option linter.unusedSimpArgs false
open Go.RowKit
theorem both_swap {f a y : Int} (hf : isF f = true) (ha : isF a = true) (hy : isF y = true) : bothF (bothF f a) y = bothF (bothF f y) a := by
  refine face_ext (isF_both (isF_both hf ha) hy) (isF_both (isF_both hf hy) ha) fun j hj => ?_
  rw [both_is (isF_both hf ha) hy, both_is (isF_both hf hy) ha, hasI_made _ j hj, hasI_made _ j hj]
  simp only [bothP]
  rw [both_is hf ha, both_is hf hy, hasI_made _ j hj, hasI_made _ j hj]
  simp only [bothP]
  cases hasI f j <;> cases hasI a j <;> cases hasI y j <;> rfl
theorem both_all {a : Int} (ha : isF a = true) : bothF 63 a = a := by
  refine face_ext (isF_both (by decide) ha) ha fun j hj => ?_
  rw [both_is (by decide) ha, hasI_made _ j hj]
  simp only [bothP]
  have : ∀ j : Fin 6, hasI 63 (j : Nat) = true := by decide
  rw [this ⟨j, hj⟩, Bool.true_and]
theorem fold_swap {a : Int} (ha : isF a = true) (l : List OfferD) (hl : ∀ y ∈ l, isF y.fFace = true) : ∀ f, isF f = true → l.foldl (fun f y => bothF f y.fFace) (bothF f a) = bothF (l.foldl (fun f y => bothF f y.fFace) f) a := by
  induction l with
  | nil => intro f _; rfl
  | cons y r ih =>
    intro f hf
    have hy := hl y (by simp)
    rw [List.foldl_cons, List.foldl_cons, both_swap hf ha hy]
    exact ih (fun z hz => hl z (by simp [hz])) _ (isF_both hf hy)
theorem fold_com {a : Int} (ha : isF a = true) (l : List OfferD) (hl : ∀ y ∈ l, isF y.fFace = true) : l.foldl (fun f y => bothF f y.fFace) a = bothF (comF l) a := by
  have h := fold_swap ha l hl 63 (by decide)
  rw [both_all ha] at h
  exact h
def candB (l : List OfferD) (v : VersionD) : Bool := l.all fun y => offerB y && inV y.fVersions v
theorem candB_is (l : List OfferD) (v : VersionD) : candB l v = (l.all offerB && allHaveB l v) := by
  unfold candB allHaveB
  induction l with
  | nil => rfl
  | cons y r ih =>
    simp only [List.all_cons, ih]
    cases offerB y <;> cases inV y.fVersions v <;> cases r.all offerB <;> simp
theorem offers_faces {l : List OfferD} (h : l.all offerB = true) : ∀ y ∈ l, isF y.fFace = true := by
  intro y hy
  rw [List.all_eq_true] at h
  have := h y hy
  simp only [offerB, Bool.and_eq_true] at this
  exact this.1
/-- what the model keeps behind some versions -/
def dealM (l : List OfferD) : Option VersionD → DealD
  | none => ⟨0, 0, 0⟩
  | some v => ⟨v.fMajor, v.fMinor, l.foldl (fun f y => bothF f y.fFace) (allowF v)⟩
def lastM (l : List OfferD) (vs : List VersionD) (k : Nat) : Option VersionD := ((vs.take k).filter (candB l)).getLast?
theorem lastM_succ (l : List OfferD) (vs : List VersionD) (k : Nat) (h : k < vs.length) : lastM l vs (k + 1) = if candB l vs[k] = true then some vs[k] else lastM l vs k := by
  unfold lastM
  rw [filter_take_succ _ _ _ h]
  by_cases hc : candB l vs[k] = true
  · rw [if_pos hc, if_pos hc, List.getLast?_append]; rfl
  · rw [if_neg hc, if_neg hc, List.append_nil]
theorem lastM_end (y : OfferD) (r : List OfferD) : lastM (y :: r) y.fVersions y.fVersions.length = dealO (y :: r) := by
  unfold lastM dealO
  rw [List.take_length]
  cases h : (y :: r).all offerB with
  | false =>
    rw [if_neg (by simp), List.filter_eq_nil_iff.2]; rfl
    intro v _; rw [candB_is, h]; simp
  | true =>
    rw [if_pos rfl]
    unfold comV
    congr 2
    funext v; rw [candB_is, h, Bool.true_and]
theorem dealM_end (y : OfferD) (r : List OfferD) : dealM (y :: r) (dealO (y :: r)) = dealV (y :: r) := by
  unfold dealV
  cases h : dealO (y :: r) with
  | none => rfl
  | some v =>
    have hv : (y :: r).all offerB = true := by
      cases h2 : (y :: r).all offerB with
      | true => rfl
      | false => rw [dealO_no h2] at h; exact absurd h (by simp)
    simp only [dealM, dealOf]
    rw [fold_com (allowF_face v) _ (offers_faces hv)]
set_option maxRecDepth 100000 in
set_option maxHeartbeats 1600000 in
theorem specIn_any (v : Value) (x : List VersionD) (t : VersionD) (w : World) (hx : FlatAt cVersion 2 w v x) :
    Calls Try.prog 64 #[v, vVersion t] w fun e w' => e = .returned (.bool (inV x t)) ∧ Below w.heap.size w w' := by
  obtain ⟨a, c, rfl, hl⟩ := flatAt_len hx
  obtain ⟨t0, t1⟩ := t
  unfold vVersion
  have HT0 := Lib.hid ((Var2.new w t0 t1 56))
  have HX := Lib.hid (FlatAt.below hx (box1 w (.cells #[.int .i64 t0, .int .i64 t1] 56)) (Nat.le_refl _))
  have HXB := Lib.hid (box1 w (.cells #[.int .i64 t0, .int .i64 t1] 56))
  clear hx
  unfold maxLen at hl
  go_enter Try.func64, Try.ntmps64
  go_wp2
  generalize w.alloc (.cells #[.int .i64 t0, .int .i64 t1] 56) = X at *
  go_loopw [6, 9] (fun _ i wr => ∃ k : Nat, k ≤ x.length ∧ i = .int .i64 k ∧ inV (x.take k) ⟨t0, t1⟩ = false ∧ Below X.heap.size X wr) (fun _ i _ => x.length - (intOf i).toNat)
  case atStart => exact ⟨0, Nat.zero_le _, rfl, rfl, Below.refl _ _⟩
  case round =>
    obtain ⟨k, hk, rfl, ht, hbr⟩ := hrel
    have HT := Lib.hid ht
    have HB := Lib.hid hbr
    have HTV := Lib.hid (HT0.out.below hbr)
    have HXr := Lib.hid (FlatAt.below HX.out hbr (Nat.le_refl _))
    clear ht hbr
    by_cases hlt : k < x.length
    · obtain ⟨b, o, rfl, hbw, hd⟩ := flatAt_cell cVersion_len HXr.out k hlt (by decide)
      have HY := Lib.hid (fun (h : x[k] = ⟨t0, t1⟩) => show inV x ⟨t0, t1⟩ = true from decide_eq_true (by rw [← h]; exact List.getElem_mem hlt))
      have HNO := Lib.hid (fun (h : x[k] ≠ ⟨t0, t1⟩) => show inV (x.take (k + 1)) ⟨t0, t1⟩ = false from by
        have h2 := HT.out
        simp only [inV, decide_eq_false_iff_not] at h2 ⊢
        rw [List.take_succ_eq_append_getElem hlt, List.mem_append]
        rintro (h3 | h3)
        · exact h2 h3
        · simp at h3; exact h h3.symm)
      generalize x[k] = p at *
      have d0 := hd 0 (by decide)
      have d1 := hd 1 (by decide)
      clear hd
      obtain ⟨p0, p1⟩ := p
      simp only [cVersion, List.getElem?_cons_zero, List.getElem?_cons_succ, Nat.add_zero] at d0 d1
      have e0 := HTV.out.c0
      have e1 := HTV.out.c1
      have hwl := HTV.out.lt
      have HB1 := Lib.hid (fun o => HB.out.trans ((box1 wr o).mono HB.out.size))
      by_cases h0 : p0 = t0
      · by_cases h1 : p1 = t1
        · subst h0 h1
          have HR := Lib.hid (HY.out rfl)
          have HBx := Lib.hid (fun o => HXB.out.trans ((HB1.out o).mono HXB.out.size))
          go_wp2_with fail
          go_ret
          exact ⟨ret_bool HR.out.symm, HBx.out _⟩
        · have HR := Lib.hid (HNO.out (fun e => h1 (by injection e)))
          subst h0
          have hne : (p1 == t1) = false := by simpa using h1
          clear h1
          go_wp2_with fail
          exact ⟨⟨k + 1, by omega, by go_num, HR.out, HB1.out _⟩, by simp [intOf]; omega⟩
      · have HR := Lib.hid (HNO.out (fun e => h0 (by injection e)))
        have hne : (p0 == t0) = false := by simpa using h0
        clear h0
        go_wp2_with fail
        exact ⟨⟨k + 1, by omega, by go_num, HR.out, HB1.out _⟩, by simp [intOf]; omega⟩
    · have HN := Lib.hid (show inV x ⟨t0, t1⟩ = false from by
        have h := HT.out
        rw [List.take_of_length_le (by omega)] at h
        exact h)
      have HB1 := Lib.hid (HXB.out.trans (HB.out.mono HXB.out.size))
      go_wp2
      go_ret
      exact ⟨ret_bool HN.out.symm, HB1.out⟩
end Go.Proofs.Ytaihdjdaamglnaa
/- Contracts of chapter 5: deals, the model's. -/
namespace Go.Proofs.Ytaihdjdaamglnaa
set_option linter.unusedVariables false
set_option linter.unusedSimpArgs false
open Go.RowKit
def c3 (d : DealD) (w : World) (b : Nat) : Prop := Var3 w b (.int .i64 d.fMajor) (.int .i64 d.fMinor) (.int .i64 d.fFace)
theorem Var3.drw {w : World} {b : Nat} {x y z : Value} (h : Var3 w b x y z) : Var3 w.drew b x y z := ⟨h.lt, h.c0, h.c1, h.c2, h.f0, h.f1, h.f2⟩
theorem Var3.thr {w : World} {b c : Nat} {x y z : Value} (h : Var3 w b x y z) (hne : b ≠ c) (u0 u1 u2 : Value) : Var3 (((w.setCell ⟨c, 0, none⟩ u0).setCell ⟨c, 1, none⟩ u1).setCell ⟨c, 2, none⟩ u2) b x y z := ((h.one hne 0 u0).one hne 1 u1).one hne 2 u2
theorem bcellN {W w1 : World} (hb : Below W.heap.size W w1) : (∀ b o, b < W.heap.size → w1.cell? ⟨b, o, none⟩ = W.cell? ⟨b, o, none⟩) ∧ (∀ b o, b < W.heap.size → w1.frozen? ⟨b, o, none⟩ = W.frozen? ⟨b, o, none⟩) :=
  ⟨fun b o h => hb.cell (p := ⟨b, o, none⟩) h, fun b o h => hb.frozen (p := ⟨b, o, none⟩) h⟩
end Go.Proofs.Ytaihdjdaamglnaa
/- Contracts of chapter 5: deals of two, the model's. -/
namespace Go.Proofs.Ytaihdjdaamglnaa
set_option linter.unusedVariables false
set_option linter.unusedSimpArgs false
open Go.RowKit
/-- a variable of two cells that nobody writes -/
structure Par2 (w : World) (b : Nat) (x y : Value) : Prop where
  lt : b < w.heap.size
  c0 : w.cell? ⟨b, 0, none⟩ = some x
  c1 : w.cell? ⟨b, 1, none⟩ = some y
theorem Par2.below {w w' : World} {b : Nat} {x y : Value} (h : Par2 w b x y) (hb : Below w.heap.size w w') : Par2 w' b x y :=
  ⟨Nat.lt_of_lt_of_le h.lt hb.size, (hb.cell (p := ⟨b, 0, none⟩) h.lt).trans h.c0, (hb.cell (p := ⟨b, 1, none⟩) h.lt).trans h.c1⟩
theorem Par2.new (w : World) (x y : Value) (t : TypeId) : Par2 (w.alloc (.cells #[x, y] t)) w.heap.size x y := ⟨by simp, by simp, by simp⟩
theorem Par2.one {w : World} {b c : Nat} {x y : Value} (h : Par2 w b x y) (hne : b ≠ c) (i : Nat) (u : Value) : Par2 (w.setCell ⟨c, i, none⟩ u) b x y := by
  obtain ⟨h1, h2, h3⟩ := h
  exact ⟨by simpa using h1, (set_ne (Or.inl hne)).trans h2, (set_ne (Or.inl hne)).trans h3⟩
theorem Par2.thr {w : World} {b c : Nat} {x y : Value} (h : Par2 w b x y) (hne : b ≠ c) (u0 u1 u2 : Value) : Par2 (((w.setCell ⟨c, 0, none⟩ u0).setCell ⟨c, 1, none⟩ u1).setCell ⟨c, 2, none⟩ u2) b x y := ((h.one hne 0 u0).one hne 1 u1).one hne 2 u2
theorem Par2.drw {w : World} {b : Nat} {x y : Value} (h : Par2 w b x y) : Par2 w.drew b x y := ⟨h.lt, h.c0, h.c1⟩
structure NS (w : World) (xa fa xb fb q0 q1 q2 : Value) (w' : World) : Prop where
  a : Par2 w' w.heap.size xa fa
  b : Par2 w' (w.heap.size + 1) xb fb
  r : Var3 w' (w.heap.size + 1 + 1) (.int .i64 0) (.int .i64 0) (.int .i64 0)
  d : Var3 w' (w.heap.size + 1 + 1 + 1) q0 q1 q2
  bel : Below w.heap.size w w'
variable {w w1 w2 : World} {xa fa xb fb q0 q1 q2 : Value}
theorem NS.below (h : NS w xa fa xb fb q0 q1 q2 w1) (hb : Below w1.heap.size w1 w2) : NS w xa fa xb fb q0 q1 q2 w2 :=
  ⟨h.a.below hb, h.b.below hb, h.r.below hb, h.d.below hb, h.bel.trans (hb.mono h.bel.size)⟩
theorem NS.drw (h : NS w xa fa xb fb q0 q1 q2 w1) : NS w xa fa xb fb q0 q1 q2 w1.drew := ⟨h.a.drw, h.b.drw, h.r.drw, h.d.drw, belDr h.bel⟩
theorem NS.set (h : NS w xa fa xb fb q0 q1 q2 w1) (x y z : Value) : NS w xa fa xb fb x y z (((w1.setCell ⟨w.heap.size + 1 + 1 + 1, 0, none⟩ x).setCell ⟨w.heap.size + 1 + 1 + 1, 1, none⟩ y).setCell ⟨w.heap.size + 1 + 1 + 1, 2, none⟩ z) :=
  ⟨h.a.thr (by omega) _ _ _, h.b.thr (by omega) _ _ _, h.r.thr (by omega) _ _ _, h.d.set _ _ _, ((h.bel.setCell (by simp; omega) _).setCell (by simp; omega) _).setCell (by simp; omega) _⟩
theorem NS.start (w : World) (xa fa xb fb : Value) (t1 t2 t3 t4 : TypeId) : NS w xa fa xb fb (.int .i64 0) (.int .i64 0) (.int .i64 0) ((((w.alloc (.cells #[xa, fa] t1)).alloc (.cells #[xb, fb] t2)).alloc (.cells #[.int .i64 0, .int .i64 0, .int .i64 0] t3)).alloc (.cells #[.int .i64 0, .int .i64 0, .int .i64 0] t4)) := by
  have s1 : (w.alloc (.cells #[xa, fa] t1)).heap.size = w.heap.size + 1 := by simp
  have s2 : ((w.alloc (.cells #[xa, fa] t1)).alloc (.cells #[xb, fb] t2)).heap.size = w.heap.size + 1 + 1 := by simp
  have s3 : (((w.alloc (.cells #[xa, fa] t1)).alloc (.cells #[xb, fb] t2)).alloc (.cells #[.int .i64 0, .int .i64 0, .int .i64 0] t3)).heap.size = w.heap.size + 1 + 1 + 1 := by simp
  refine ⟨(((Par2.new w xa fa t1).below (box1 _ _)).below (box1 _ _)).below (box1 _ _), ?_, ?_, ?_, bel_to (box2 w _ _) (box2 _ _ _)⟩
  · have h := ((Par2.new (w.alloc (.cells #[xa, fa] t1)) xb fb t2).below (box1 _ (.cells #[.int .i64 0, .int .i64 0, .int .i64 0] t3))).below (box1 _ (.cells #[.int .i64 0, .int .i64 0, .int .i64 0] t4))
    rw [s1] at h; exact h
  · have h := (Var3.new ((w.alloc (.cells #[xa, fa] t1)).alloc (.cells #[xb, fb] t2)) (.int .i64 0) (.int .i64 0) (.int .i64 0) t3).below (box1 _ (.cells #[.int .i64 0, .int .i64 0, .int .i64 0] t4))
    rw [s2] at h; exact h
  · have h := Var3.new (((w.alloc (.cells #[xa, fa] t1)).alloc (.cells #[xb, fb] t2)).alloc (.cells #[.int .i64 0, .int .i64 0, .int .i64 0] t3)) (.int .i64 0) (.int .i64 0) (.int .i64 0) t4
    rw [s3] at h; exact h
theorem comF_two (a b : OfferD) (ha : offerB a = true) : comF [a, b] = bothF a.fFace b.fFace := by
  simp only [offerB, Bool.and_eq_true] at ha
  unfold comF; rw [List.foldl_cons, List.foldl_cons, both_all ha.1]; rfl
theorem candB_two {a b : OfferD} {v : VersionD} (ha : offerB a = true) (hb : offerB b = true) (hv : v ∈ a.fVersions) : candB [a, b] v = inV b.fVersions v := by
  unfold candB
  simp only [List.all_cons, List.all_nil, ha, hb, Bool.true_and, Bool.and_true]
  rw [show inV a.fVersions v = true from decide_eq_true hv, Bool.true_and]
theorem dealO_two {a b : OfferD} (h : offerB a = false ∨ offerB b = false) : dealO [a, b] = none := by
  refine dealO_no ?_
  simp only [List.all_cons, List.all_nil, Bool.and_true]
  rcases h with h | h <;> rw [h] <;> simp
set_option maxRecDepth 100000 in
set_option maxHeartbeats 3200000 in
theorem specNeg_any (v u : Value) (a b : OfferD) (w : World) (ha : ValAt rOffer 0 w v a) (hb : ValAt rOffer 0 w u b) :
    Calls Try.prog 29 #[v, u] w fun e w' => e = .returned (.tuple #[vDeal (dealV [a, b]), .bool (dealB [a, b])]) ∧ Below w.heap.size w w' := by
  obtain ⟨_, rfl, x, rfl, hx⟩ := ha
  obtain ⟨_, rfl, y, rfl, hy⟩ := hb
  have HDV := Lib.hid (show dealV [a, b] = dealOf [a, b] (dealO [a, b]) ∧ dealB [a, b] = (dealO [a, b]).isSome from ⟨rfl, rfl⟩)
  rw [HDV.out.2]
  have HLE := Lib.hid (lastM_end a [b])
  have HIA := Lib.hid (fun w1 hw => specIsOffer_any (.agg #[x, .int .i64 a.fFace]) a w1 ⟨x, rfl, (flatAt_of_slice cVersion_len (by decide) hx).below (w' := w1) hw (Nat.le_refl _)⟩)
  have HIB := Lib.hid (fun w1 hw => specIsOffer_any (.agg #[y, .int .i64 b.fFace]) b w1 ⟨y, rfl, (flatAt_of_slice cVersion_len (by decide) hy).below (w' := w1) hw (Nat.le_refl _)⟩)
  have HIN := Lib.hid (fun t w1 hw => specIn_any y b.fVersions t w1 ((flatAt_of_slice cVersion_len (by decide) hy).below (w' := w1) hw (Nat.le_refl _)))
  have HX := Lib.hid (flatAt_of_slice cVersion_len (by decide) hx)
  have HS0 := Lib.hid (NS.start w x (.int .i64 a.fFace) y (.int .i64 b.fFace) 52 52 58 58)
  obtain ⟨xa, xc, rfl, hla⟩ := sliceAt_len hx
  obtain ⟨ya, yc, rfl, hlb⟩ := sliceAt_len hy
  unfold maxLen at hla hlb
  clear hx hy
  cases hoa : offerB a with
  | false =>
    have HN := Lib.hid (dealO_two (b := b) (Or.inl hoa))
    rw [HDV.out.1, HN.out]
    rw [hoa] at HIA
    simp only [dealOf, vDeal, Option.isSome]
    clear hoa
    obtain ⟨a0, a1⟩ := a
    obtain ⟨b0, b1⟩ := b
    simp only at *
    go_enter Try.func29, Try.ntmps29
    go_wp2_with fail
    refine (HIA.out _ HS0.out.bel).mono ?_
    rintro e w1 ⟨rfl, hb⟩
    have HS := Lib.hid (HS0.out.below hb)
    have e0 := HS.out.d.c0
    have e1 := HS.out.d.c1
    have e2 := HS.out.d.c2
    have m0 := HS.out.r.c0
    have m1 := HS.out.r.c1
    have m2 := HS.out.r.c2
    have n0 := HS.out.r.f0
    have n1 := HS.out.r.f1
    have n2 := HS.out.r.f2
    clear hb
    go_wp2_with fail
    refine bodyPost_ret (v := .tuple #[.agg #[.int .i64 0, .int .i64 0, .int .i64 0], .bool false]) (by simp [results, Try.results29, go_sem, m0, m1, m2]) rfl ⟨rfl, ?_⟩
    exact ((HS.out.bel.setCell (by simp; omega) _).setCell (by simp; omega) _).setCell (by simp; omega) _
  | true =>
    cases hob : offerB b with
    | false =>
      have HN := Lib.hid (dealO_two (a := a) (Or.inr hob))
      rw [HDV.out.1, HN.out]
      rw [hoa] at HIA
      rw [hob] at HIB
      simp only [dealOf, vDeal, Option.isSome]
      clear hoa hob
      obtain ⟨a0, a1⟩ := a
      obtain ⟨b0, b1⟩ := b
      simp only at *
      go_enter Try.func29, Try.ntmps29
      go_wp2_with fail
      refine (HIA.out _ HS0.out.bel).mono ?_
      rintro e w1 ⟨rfl, hb⟩
      have HS1 := Lib.hid (HS0.out.below hb)
      have k0 := HS1.out.b.c0
      have k1 := HS1.out.b.c1
      clear hb
      go_wp2_with fail
      refine (HIB.out _ HS1.out.bel).mono ?_
      rintro e w2 ⟨rfl, hb⟩
      have HS := Lib.hid (HS1.out.below hb)
      have e0 := HS.out.d.c0
      have e1 := HS.out.d.c1
      have e2 := HS.out.d.c2
      have m0 := HS.out.r.c0
      have m1 := HS.out.r.c1
      have m2 := HS.out.r.c2
      have n0 := HS.out.r.f0
      have n1 := HS.out.r.f1
      have n2 := HS.out.r.f2
      clear hb k0 k1
      go_wp2_with fail
      refine bodyPost_ret (v := .tuple #[.agg #[.int .i64 0, .int .i64 0, .int .i64 0], .bool false]) (by simp [results, Try.results29, go_sem, m0, m1, m2]) rfl ⟨rfl, ?_⟩
      exact ((HS.out.bel.setCell (by simp; omega) _).setCell (by simp; omega) _).setCell (by simp; omega) _
    | true =>
      have HCF := Lib.hid (comF_two a b hoa)
      have HCB := Lib.hid (fun v (hv : v ∈ a.fVersions) => candB_two hoa hob hv)
      have HDO := Lib.hid (show ∀ v, dealOf [a, b] (some v) = ⟨v.fMajor, v.fMinor, bothF (bothF a.fFace b.fFace) (allowF v)⟩ from fun v => by simp only [dealOf]; rw [HCF.out])
      have HD0 := Lib.hid (show dealOf [a, b] none = ⟨0, 0, 0⟩ from rfl)
      have HL0 := Lib.hid (show lastM [a, b] a.fVersions 0 = none from rfl)
      have HLS := Lib.hid (lastM_succ [a, b] a.fVersions)
      rw [hoa] at HIA
      rw [hob] at HIB
      clear hoa hob HCF
      generalize dealV [a, b] = dv at *
      generalize dealO [a, b] = dO at *
      generalize hDF : dealOf [a, b] = DF at *
      generalize hLM : lastM [a, b] = LM at *
      clear hDF
      clear hLM
      have HDA := Lib.hid (show bothF a.fFace b.fFace = bothF a.fFace b.fFace from rfl)
      obtain ⟨a0, a1⟩ := a
      obtain ⟨b0, b1⟩ := b
      obtain ⟨u0, u1, u2⟩ := dv
      unfold vDeal
      simp only at *
      go_enter Try.func29, Try.ntmps29
      go_wp2_with fail
      refine (HIA.out _ HS0.out.bel).mono ?_
      rintro e w1 ⟨rfl, hb⟩
      have HS1 := Lib.hid (HS0.out.below hb)
      have k0 := HS1.out.b.c0
      have k1 := HS1.out.b.c1
      clear hb
      go_wp2_with fail
      refine (HIB.out _ HS1.out.bel).mono ?_
      rintro e w2 ⟨rfl, hb⟩
      have HS := Lib.hid (HS1.out.below hb)
      have l0 := HS.out.a.c0
      clear hb k0 k1
      go_wp2_with fail
      clear l0
      go_loopw [7, 9, 23] (fun fd _ i wr => ∃ k : Nat, k ≤ a0.length ∧ i = .int .i64 k ∧ fd = .bool (LM a0 k).isSome ∧ NS w (.slice xa a0.length xc) (.int .i64 a1) (.slice ya b0.length yc) (.int .i64 b1) (.int .i64 (DF (LM a0 k)).fMajor) (.int .i64 (DF (LM a0 k)).fMinor) (.int .i64 (DF (LM a0 k)).fFace) wr) (fun _ _ i _ => a0.length - (intOf i).toNat)
      case atStart => exact ⟨0, Nat.zero_le _, rfl, by rw [HL0.out]; rfl, by rw [HL0.out, HD0.out]; exact HS.out⟩
      case round =>
        obtain ⟨k, hk, rfl, rfl, hns⟩ := hrel
        have HNr := Lib.hid hns
        have HXr := Lib.hid (HX.out.below hns.bel (Nat.le_refl _))
        have hN3 := hns.d.lt
        clear hns
        by_cases hlt : k < a0.length
        · obtain ⟨b2, o2, e2, hbw2, hd2⟩ := flatAt_cell cVersion_len HXr.out k hlt (by decide)
          subst e2
          have HSS := Lib.hid (HLS.out k hlt)
          have HCK := Lib.hid (HCB.out a0[k] (List.getElem_mem hlt))
          have q0 := hd2 0 (by decide)
          have q1 := hd2 1 (by decide)
          generalize a0[k] = p at *
          have HII := Lib.hid (HIN.out p)
          have HAL := Lib.hid (specAllow_any p)
          have HDP := Lib.hid (HDO.out p)
          have HBF := Lib.hid (specBoth_any (bothF a1 b1) (allowF p))
          have HBG := Lib.hid (specBoth_any a1 b1)
          rw [HCK.out] at HSS
          generalize inV b0 p = iv at *
          generalize allowF p = al at *
          obtain ⟨p0, p1⟩ := p
          simp only [cVersion, vVersion, List.getElem?_cons_zero, List.getElem?_cons_succ, Nat.add_zero] at q0 q1 HAL HDP HII
          have HN1 := Lib.hid (HNr.out.below (box1 wr (.cells #[.int .i64 p0, .int .i64 p1] 56)))
          have k0 := HN1.out.b.c0
          clear hd2
          go_wp2_with fail
          refine (HII.out _ HN1.out.bel).mono ?_
          rintro e w3 ⟨rfl, hb⟩
          have HN3 := Lib.hid (HN1.out.below hb)
          have HVV := Lib.hid ((Var2.new wr p0 p1 56).below hb)
          clear hb k0
          cases iv with
          | false =>
            have HLN := Lib.hid (show LM a0 (k + 1) = LM a0 k from by rw [HSS.out, if_neg (by simp)])
            go_wp2_with fail
            exact ⟨⟨k + 1, by omega, by go_num, by rw [HLN.out], by rw [HLN.out]; exact HN3.out⟩, by simp [intOf]; omega⟩
          | true =>
            have HLN := Lib.hid (show LM a0 (k + 1) = some ⟨p0, p1⟩ from by rw [HSS.out, if_pos rfl])
            go_wp2_with fail
            generalize wr.heap.size = B at *
            generalize DF (LM a0 k) = dd at *
            have m0 := HVV.out.c0
            have m1 := HVV.out.c1
            have l0 := HN3.out.a.c1
            have l1 := HN3.out.b.c1
            have hBl := HVV.out.lt
            have HDS := HN3.out
            go_region_held3 (fun w' => w'.cell? ⟨B, 0, none⟩ = some (.int .i64 p0) ∧ w'.cell? ⟨B, 1, none⟩ = some (.int .i64 p1) ∧ w'.cell? ⟨w.heap.size, 1, none⟩ = some (.int .i64 a1) ∧ w'.cell? ⟨w.heap.size + 1, 1, none⟩ = some (.int .i64 b1) ∧ B < w'.heap.size ∧ ∃ q0 q1 q2, NS w (.slice (some ⟨b2, o2, none⟩) a0.length xc) (.int .i64 a1) (.slice ya b0.length yc) (.int .i64 b1) q0 q1 q2 w')
              (first
                | exact ⟨m0, m1, l0, l1, hBl, _, _, _, HDS.drw⟩
                | assumption
                | (obtain ⟨s0, s1, _, _, s4, _, _, _, s5⟩ := ‹_ ∧ _ ∧ _ ∧ _ ∧ B < _ ∧ (∃ q0 q1 q2, NS w _ _ _ _ q0 q1 q2 _)›; exact ⟨(hb0.cell (p := ⟨B, 0, none⟩) s4).trans s0, (hb0.cell (p := ⟨B, 1, none⟩) s4).trans s1, (s5.below hb0).a.c1, (s5.below hb0).b.c1, Nat.lt_of_lt_of_le s4 hb0.size, _, _, _, s5.below hb0⟩)
                | (obtain ⟨s0, s1, _, _, s4, _, _, _, s5⟩ := ‹_ ∧ _ ∧ _ ∧ _ ∧ B < _ ∧ (∃ q0 q1 q2, NS w _ _ _ _ q0 q1 q2 _)›; exact ⟨(set_ne (Or.inl (by omega))).trans ((set_ne (Or.inl (by omega))).trans ((set_ne (Or.inl (by omega))).trans s0)), (set_ne (Or.inl (by omega))).trans ((set_ne (Or.inl (by omega))).trans ((set_ne (Or.inl (by omega))).trans s1)), (s5.set _ _ _).a.c1, (s5.set _ _ _).b.c1, by simpa using s4, _, _, _, s5.set _ _ _⟩))
              (first
                | (go_at_call 66; (with_reducible refine (HAL.out _).mono ?_); rintro e wN ⟨rfl, hb0⟩)
                | (go_at_call 65; (with_reducible refine (HBG.out _).mono ?_); rintro e wN ⟨rfl, rfl⟩)
                | (go_at_call 65; (with_reducible refine (HBF.out _).mono ?_); rintro e wN ⟨rfl, rfl⟩; obtain ⟨_, _, _, _, _, r0, r1, r2, hvv⟩ := ‹_ ∧ _ ∧ _ ∧ _ ∧ B < _ ∧ (∃ q0 q1 q2, NS w _ _ _ _ q0 q1 q2 _)›; have g0 := hvv.d.c0; have g1 := hvv.d.c1; have g2 := hvv.d.c2; have g3 := hvv.d.f0; have g4 := hvv.d.f1; have g5 := hvv.d.f2))
            have HNE := Lib.hid (hvv.set (.int .i64 p0) (.int .i64 p1) (.int .i64 (bothF (bothF a1 b1) al)))
            clear g0 g1 g2 g3 g4 g5 hvv m0 m1 l0 l1 HDS
            generalize ((wN.setCell ⟨w.heap.size + 1 + 1 + 1, 0, none⟩ (.int .i64 p0)).setCell ⟨w.heap.size + 1 + 1 + 1, 1, none⟩ (.int .i64 p1)).setCell ⟨w.heap.size + 1 + 1 + 1, 2, none⟩ (.int .i64 (bothF (bothF a1 b1) al)) = WE at *
            go_wp2_with fail
            exact ⟨⟨k + 1, by omega, by go_num, by rw [HLN.out]; rfl, by rw [HLN.out, HDP.out]; exact HNE.out⟩, by simp [intOf]; omega⟩
        · have hke : k = a0.length := by omega
          subst hke
          have HN := Lib.hid (show LM a0 a0.length = dO from HLE.out)
          rw [HN.out, ← HDV.out.1] at HNr
          rw [HN.out]
          simp only at HNr
          have e0 := HNr.out.d.c0
          have e1 := HNr.out.d.c1
          have e2 := HNr.out.d.c2
          have m0 := HNr.out.r.c0
          have m1 := HNr.out.r.c1
          have m2 := HNr.out.r.c2
          have n0 := HNr.out.r.f0
          have n1 := HNr.out.r.f1
          have n2 := HNr.out.r.f2
          go_wp2_with fail
          refine bodyPost_ret (v := .tuple #[.agg #[.int .i64 u0, .int .i64 u1, .int .i64 u2], .bool dO.isSome]) (by simp [results, Try.results29, go_sem, m0, m1, m2]) rfl ⟨rfl, ?_⟩
          exact ((HNr.out.bel.setCell (by simp; omega) _).setCell (by simp; omega) _).setCell (by simp; omega) _
end Go.Proofs.Ytaihdjdaamglnaa
/- Deals, plain: when there is one, that it is the greatest, what it offers, and what one more side makes of it. -/
namespace Go.Proofs.Ytaihdjdaamglnaa
set_option linter.unusedVariables false
set_option linter.unusedSimpArgs false
open Go.RowKit
def verD (d : DealD) : VersionD := ⟨d.fMajor, d.fMinor⟩
theorem dealB_com {l : List OfferD} (h : l.all offerB = true) : dealB l = decide (comV l ≠ []) := by
  unfold dealB dealO
  rw [if_pos h]
  cases hc : comV l with
  | nil => rfl
  | cons x r => simp [List.getLast?_cons]
theorem dealB_all {l : List OfferD} (h : dealB l = true) : l.all offerB = true := by
  unfold dealB dealO at h
  by_cases ha : l.all offerB = true
  · exact ha
  · rw [if_neg ha] at h; cases h
theorem verD_dealOf {l : List OfferD} {v : VersionD} : verD (dealOf l (some v)) = v := rfl
/-- the version of a deal is the greatest common one -/
theorem deal_last {l : List OfferD} (h : dealB l = true) : verD (dealV l) ∈ comV l ∧ ∀ v ∈ comV l, cmpV v (verD (dealV l)) ≤ 0 := by
  have ha := dealB_all h
  have hs := comV_sort ha
  unfold dealB dealO at h
  rw [if_pos ha] at h
  have he : dealV l = dealOf l (comV l).getLast? := by unfold dealV dealO; rw [if_pos ha]
  rw [he]
  cases hl : (comV l).getLast? with
  | none => rw [hl] at h; cases h
  | some z =>
    show z ∈ comV l ∧ ∀ v ∈ comV l, cmpV v z ≤ 0
    obtain ⟨r, hr⟩ := List.getLast?_eq_some_iff.1 hl
    rw [hr] at hs ⊢
    refine ⟨by simp, fun v hv => ?_⟩
    rcases List.mem_append.1 hv with hv | hv
    · have := (List.pairwise_append.1 hs).2.2 v hv z (by simp)
      omega
    · rw [List.mem_singleton.1 hv, cmpV_self]; omega
theorem deal_face {l : List OfferD} (h : dealB l = true) : (dealV l).fFace = bothF (comF l) (allowF (verD (dealV l))) := by
  have ha := dealB_all h
  unfold dealB dealO at h
  rw [if_pos ha] at h
  have he : dealV l = dealOf l (comV l).getLast? := by unfold dealV dealO; rw [if_pos ha]
  rw [he]
  cases hl : (comV l).getLast? with
  | none => rw [hl] at h; cases h
  | some z => rfl
/-- two sides: there is a deal exactly if a version is common -/
theorem deal_two {a b : OfferD} (ha : offerB a = true) (hb : offerB b = true) : dealB [a, b] = decide (∃ v ∈ a.fVersions, v ∈ b.fVersions) := by
  rw [dealB_com (by simp [ha, hb])]
  refine decide_eq_decide.2 ?_
  constructor
  · intro h
    obtain ⟨v, hv⟩ := List.exists_mem_of_ne_nil _ h
    have := (comV_mem (l := [a, b]) (by simp) v).1 hv
    exact ⟨v, this a (by simp), this b (by simp)⟩
  · rintro ⟨v, h1, h2⟩
    refine List.ne_nil_of_mem ((comV_mem (l := [a, b]) (by simp) v).2 ?_)
    intro o ho
    rcases List.mem_cons.1 ho with rfl | ho
    · exact h1
    · rw [List.mem_singleton.1 ho]; exact h2
theorem deal_two_max {a b : OfferD} (ha : offerB a = true) (hb : offerB b = true) {v : VersionD} (h1 : v ∈ a.fVersions) (h2 : v ∈ b.fVersions) : cmpV v (verD (dealV [a, b])) ≤ 0 := by
  have hd : dealB [a, b] = true := by rw [deal_two ha hb]; exact decide_eq_true ⟨v, h1, h2⟩
  refine (deal_last hd).2 v ((comV_mem (l := [a, b]) (by simp) v).2 ?_)
  intro o ho
  rcases List.mem_cons.1 ho with rfl | ho
  · exact h1
  · rw [List.mem_singleton.1 ho]; exact h2
theorem offersF_bad {f w : Int} (h : isF w = false) : offersF f w = false := by unfold offersF; rw [h]; simp
theorem deal_two_face {a b : OfferD} (ha : offerB a = true) (hb : offerB b = true) (h : dealB [a, b] = true) (f : Int) :
    offersF (dealV [a, b]).fFace f = (offersF a.fFace f && offersF b.fFace f && offersF (allowF (verD (dealV [a, b]))) f) := by
  have fa : isF a.fFace = true := by simp only [offerB, Bool.and_eq_true] at ha; exact ha.1
  have fb : isF b.fFace = true := by simp only [offerB, Bool.and_eq_true] at hb; exact hb.1
  rw [deal_face h, comF_two a b ha]
  cases hf : isF f with
  | false => rw [offersF_bad hf, offersF_bad hf, offersF_bad hf, offersF_bad hf]; rfl
  | true => rw [offers_both (isF_both fa fb) (allowF_face _) hf, offers_both fa fb hf]
/-- one more side -/
theorem deal_one {a : OfferD} (ha : offerB a = true) : dealB [a] = decide (0 < a.fVersions.length) := by
  rw [dealB_com (by simp [ha])]
  refine decide_eq_decide.2 ?_
  constructor
  · intro h
    obtain ⟨v, hv⟩ := List.exists_mem_of_ne_nil _ h
    exact List.length_pos_of_mem ((comV_mem (l := [a]) (by simp) v).1 hv a (by simp))
  · intro h
    refine List.ne_nil_of_mem (a := a.fVersions[0]) ((comV_mem (l := [a]) (by simp) _).2 ?_)
    intro o ho
    rw [List.mem_singleton.1 ho]; exact List.getElem_mem h
theorem more_sub {l : List OfferD} {a : OfferD} (hl : l ≠ []) {v : VersionD} (h : v ∈ comV (l ++ [a])) : v ∈ comV l :=
  (comV_mem hl v).2 fun o ho => (comV_mem (by simp) v).1 h o (List.mem_append_left _ ho)
theorem more_ok {l : List OfferD} {a : OfferD} (hl : l ≠ []) (h : dealB (l ++ [a]) = true) : dealB l = true := by
  have ha := dealB_all h
  rw [List.all_append, Bool.and_eq_true] at ha
  rw [dealB_com ha.1]
  exact decide_eq_true (List.ne_nil_of_mem (more_sub hl (deal_last h).1))
theorem more_le {l : List OfferD} {a : OfferD} (hl : l ≠ []) (h : dealB (l ++ [a]) = true) : cmpV (verD (dealV (l ++ [a]))) (verD (dealV l)) ≤ 0 :=
  (deal_last (more_ok hl h)).2 _ (more_sub hl (deal_last h).1)
theorem more_face {l : List OfferD} {a : OfferD} (hl : l ≠ []) (h : dealB (l ++ [a]) = true) (he : verD (dealV (l ++ [a])) = verD (dealV l)) : offersF (dealV l).fFace (dealV (l ++ [a])).fFace = true := by
  have ha := dealB_all h
  rw [List.all_append, Bool.and_eq_true] at ha
  have hb : isF a.fFace = true := by
    have := ha.2; simp only [List.all_cons, List.all_nil, Bool.and_true, offerB, Bool.and_eq_true] at this; exact this.1
  rw [deal_face h, deal_face (more_ok hl h), he, show comF (l ++ [a]) = bothF (comF l) a.fFace by unfold comF; rw [List.foldl_append]; rfl]
  have f1 := comF_face l
  have f2 := allowF_face (verD (dealV l))
  have f3 := isF_both f1 hb
  rw [offers_iff (isF_both f1 f2) (isF_both f3 f2)]
  intro j hj
  rw [both_is f3 f2, hasI_made _ j hj, both_is f1 f2, hasI_made _ j hj]
  unfold bothP
  rw [both_is f1 hb, hasI_made _ j hj]
  unfold bothP
  simp only [Bool.and_eq_true]
  rintro ⟨⟨h1, h2⟩, h3⟩
  exact ⟨h1, h3⟩
end Go.Proofs.Ytaihdjdaamglnaa
namespace Go.Proofs.Ytaihdjdaamglnaa
set_option linter.unusedVariables false
set_option linter.unusedSimpArgs false
open Go.RowKit
theorem two_offers (W : World) (a0 b0 : List VersionD) (a1 b1 : Int) (x y : Value) (hx : SliceAt (rFlat cVersion) 2 0 W x a0) (hy : SliceAt (rFlat cVersion) 2 0 W y b0) (blk : Nat) (hb : blk = W.heap.size) :
    SliceAt rOffer 2 0 (W.alloc (.cells #[x, .int .i64 a1, y, .int .i64 b1] 52)) (.slice (some ⟨blk, 0, none⟩) 2 2) [⟨a0, a1⟩, ⟨b0, b1⟩] := by
  subst hb
  refine ⟨_, 0, rfl, by unfold maxLen; simp, Or.inr ⟨W.heap.size, 0, rfl, Nat.zero_le _, by simp, fun i hi => ?_⟩⟩
  have h : i = 0 ∨ i = 1 := by simp at hi; omega
  rcases h with rfl | rfl
  · refine ⟨[x, .int .i64 a1], ⟨x, rfl, hx.below (good_flat cVersion_len) (box1 W _) (Nat.le_refl _)⟩, fun j hj => ?_⟩
    have hj2 : j = 0 ∨ j = 1 := by omega
    rcases hj2 with rfl | rfl <;> simp
  · refine ⟨[y, .int .i64 b1], ⟨y, rfl, hy.below (good_flat cVersion_len) (box1 W _) (Nat.le_refl _)⟩, fun j hj => ?_⟩
    have hj2 : j = 0 ∨ j = 1 := by omega
    rcases hj2 with rfl | rfl <;> simp
set_option maxRecDepth 100000 in
set_option maxHeartbeats 1600000 in
theorem implNeg_any (v u : Value) (a b : OfferD) (w : World) (ha : ValAt rOffer 0 w v a) (hb : ValAt rOffer 0 w u b) :
    Calls Try.prog 25 #[v, u] w fun e w' => e = .returned (.tuple #[vDeal (dealV [a, b]), .bool (dealB [a, b])]) ∧ Below w.heap.size w w' := by
  obtain ⟨_, rfl, x, rfl, hx⟩ := ha
  obtain ⟨_, rfl, y, rfl, hy⟩ := hb
  obtain ⟨xa, xc, rfl, _⟩ := sliceAt_len hx
  obtain ⟨ya, yc, rfl, _⟩ := sliceAt_len hy
  obtain ⟨a0, a1⟩ := a
  obtain ⟨b0, b1⟩ := b
  simp only at *
  have HB3 := Lib.hid (fun o1 o2 o3 => ((box2 w o1 o2).alloc (by simp; omega) o3 : Below w.heap.size w (((w.alloc o1).alloc o2).alloc o3)))
  have HS := Lib.hid (fun o1 o2 o3 => two_offers (((w.alloc o1).alloc o2).alloc o3) a0 b0 a1 b1 _ _ (hx.below (good_flat cVersion_len) (HB3.out o1 o2 o3) (Nat.le_refl _)) (hy.below (good_flat cVersion_len) (HB3.out o1 o2 o3) (Nat.le_refl _)) (w.heap.size + 1 + 1 + 1) (by simp))
  have HB4 := Lib.hid (fun o1 o2 o3 o4 => ((HB3.out o1 o2 o3).alloc (by simp; omega) o4 : Below w.heap.size w ((((w.alloc o1).alloc o2).alloc o3).alloc o4)))
  have V0 := Lib.hid (fun (o1 o2 : Obj) => show Var3 (((w.alloc o1).alloc o2).alloc (.cells #[.int .i64 0, .int .i64 0, .int .i64 0] 58)) (w.heap.size + 1 + 1) (.int .i64 0) (.int .i64 0) (.int .i64 0) from by
    have h := Var3.new ((w.alloc o1).alloc o2) (.int .i64 0) (.int .i64 0) (.int .i64 0) 58
    rw [show ((w.alloc o1).alloc o2).heap.size = w.heap.size + 1 + 1 by simp] at h
    exact h)
  have HD := Lib.hid (implNegAll_b · [⟨a0, a1⟩, ⟨b0, b1⟩] _ _ rfl rfl)
  generalize dealV [⟨a0, a1⟩, ⟨b0, b1⟩] = d at *
  generalize dealB [⟨a0, a1⟩, ⟨b0, b1⟩] = r at *
  clear hx hy
  go_enter Try.func25, Try.ntmps25
  go_wp2_with fail
  refine (HD.out _ _ (HS.out _ _ _)).mono ?_
  rintro e w1 ⟨rfl, hb⟩
  have V1 := Lib.hid (((V0.out _ _).below (box1 _ _)).below hb)
  have HB := Lib.hid (bel_to (HB4.out _ _ _ _) hb)
  have e0 := V1.out.c0
  have e1 := V1.out.c1
  have e2 := V1.out.c2
  have g0 := V1.out.f0
  have g1 := V1.out.f1
  have g2 := V1.out.f2
  clear hb
  obtain ⟨d0, d1, d2⟩ := d
  unfold vDeal
  go_wp2_with fail
  refine bodyPost_ret (v := .tuple #[.agg #[.int .i64 d0, .int .i64 d1, .int .i64 d2], .bool r]) (by simp [results, Try.results25, go_sem, e0, e1, e2]) rfl ⟨rfl, ?_⟩
  exact ((HB.out.setCell (by simp; omega) _).setCell (by simp; omega) _).setCell (by simp; omega) _
end Go.Proofs.Ytaihdjdaamglnaa
