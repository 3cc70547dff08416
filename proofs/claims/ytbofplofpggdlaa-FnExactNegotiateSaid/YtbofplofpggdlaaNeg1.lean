/- Contracts of chapter 5: deals, the program's: where a version lies. -/
import Derived.Test.YtbofplofpggdlaaNegP
import Derived.Test.YtbofplofpggdlaaVar2
import Derived.StillTailTactics
import Derived.Deep.RegionHeld3
import Derived.IntWalk
namespace Go.Proofs.Ytbofplofpggdlaa
set_option linter.unusedVariables false
set_option linter.unusedSimpArgs false
open Go.RowKit
def FoundAt (r : Bool) (w : World) (e : Ending) (w' : World) : Prop := ∃ i : Int, e = .returned (.tuple #[.int .i64 i, .bool r]) ∧ Below w.heap.size w w'
set_option maxRecDepth 100000 in
set_option maxHeartbeats 1600000 in
theorem search_any (v : Value) (x : List VersionD) (t : VersionD) (w : World) (hx : FlatAt cVersion 2 w v x) (hs : versB x = true) :
    Calls Try.prog 75 #[v, vVersion t, .func (.func 22) #[] #[]] w fun e w' => FoundAt (inV x t) w e w' := by
  obtain ⟨a, c, rfl, hl⟩ := flatAt_len hx
  have HX := Lib.hid hx
  have hl4 := versB_len hs
  have HS := Lib.hid (sorted_of hs)
  obtain ⟨t0, t1⟩ := t
  unfold vVersion
  have HT := Lib.hid ((Var2.new w t0 t1 27))
  have HX1 := Lib.hid (FlatAt.below hx (box1 w (.cells #[.int .i64 t0, .int .i64 t1] 27)) (Nat.le_refl _))
  have HXB := Lib.hid (box1 w (.cells #[.int .i64 t0, .int .i64 t1] 27))
  clear hx hs hl
  go_enter Try.func75, Try.ntmps75
  go_wp2
  generalize w.alloc (.cells #[.int .i64 t0, .int .i64 t1] 27) = X at *
  go_loopw [9, 10] (fun s9 s10 wr => ∃ lo hi : Nat, s9 = .int .i64 lo ∧ s10 = .int .i64 hi ∧ lo ≤ hi ∧ hi ≤ x.length ∧ Below X.heap.size X wr ∧ ((∀ t, t < lo → cmpV (x.getD t default) ⟨t0, t1⟩ < 0) ∧ (∀ t, hi ≤ t → t < x.length → 0 ≤ cmpV (x.getD t default) ⟨t0, t1⟩))) (fun s9 s10 _ => (intOf s10).toNat - (intOf s9).toNat)
  case atStart => exact ⟨0, x.length, rfl, rfl, Nat.zero_le _, Nat.le_refl _, Below.refl _ _, fun t ht => absurd ht (Nat.not_lt_zero _), fun t h1 h2 => by omega⟩
  case round =>
    obtain ⟨lo, hi, rfl, rfl, hlh, hin, hbr, hinv⟩ := hrel
    have HB := Lib.hid hbr
    have HV := Lib.hid (HT.out.below hbr)
    have HXr := Lib.hid (FlatAt.below HX1.out hbr (Nat.le_refl _))
    have HI := Lib.hid hinv
    clear hbr hinv
    by_cases hlt : lo < hi
    · have hm : (lo + hi) / 2 < x.length := by omega
      obtain ⟨b, o, rfl, hbw, hd⟩ := flatAt_cell cVersion_len HXr.out ((lo + hi) / 2) hm (by decide)
      have HG := Lib.hid (getD_V x ((lo + hi) / 2) hm)
      have d0 := hd 0 (by decide)
      have d1 := hd 1 (by decide)
      clear hd
      have e0 := HV.out.c0
      have e1 := HV.out.c1
      have HC := Lib.hid (implCmp_any x[(lo + hi) / 2] ⟨t0, t1⟩)
      generalize hp : x[(lo + hi) / 2] = p at *
      clear hp
      obtain ⟨p0, p1⟩ := p
      simp only [cVersion, vVersion, List.getElem?_cons_zero, List.getElem?_cons_succ, Nat.add_zero] at d0 d1 HC
      have hh0 : ((lo : Int) + (hi : Int)) / 2 < (x.length : Int) := by omega
      have hh1 : 0 ≤ ((lo : Int) + (hi : Int)) / 2 := by omega
      have hh2 : (((lo : Int) + (hi : Int)) / 2).toNat = (lo + hi) / 2 := by omega
      go_wp2
      go_still_tail 6, (by kernel_rfl)
      have HB0 := Lib.hid (show Below wr.heap.size wr wr.drew from ⟨rfl, rfl, rfl, Nat.le_refl _, fun _ _ => rfl⟩)
      change wpList _ _ _ _ _ wr.drew
      generalize wr.drew = w1 at *
      go_wp2_with fail
      refine (HC.out _).mono ?_
      rintro e w2 ⟨rfl, hb0⟩
      have HB2 := Lib.hid (HB.out.trans ((bel_to HB0.out hb0).mono HB.out.size))
      clear hb0
      by_cases hc : cmpV ⟨p0, p1⟩ ⟨t0, t1⟩ < 0
      · have HN := Lib.hid (show (∀ t, t < (lo + hi) / 2 + 1 → cmpV (x.getD t default) ⟨t0, t1⟩ < 0) ∧ (∀ t, hi ≤ t → t < x.length → 0 ≤ cmpV (x.getD t default) ⟨t0, t1⟩) from ⟨fun t ht => by
          by_cases h : t = (lo + hi) / 2
          · rw [h, HG.out]; exact hc
          · have h2 := HS.out t ((lo + hi) / 2) (by omega) hm
            rw [HG.out] at h2
            exact cmpV_trans h2 hc, HI.out.2⟩)
        go_wp2_with fail
        exact ⟨⟨(lo + hi) / 2 + 1, hi, by rw [show ((lo : Int) + (hi : Int)) / 2 + 1 = (((lo + hi) / 2 + 1 : Nat) : Int) by omega], rfl, by omega, hin, HB2.out, HN.out⟩, by simp [intOf]; omega⟩
      · have HN := Lib.hid (show (∀ t, t < lo → cmpV (x.getD t default) ⟨t0, t1⟩ < 0) ∧ (∀ t, (lo + hi) / 2 ≤ t → t < x.length → 0 ≤ cmpV (x.getD t default) ⟨t0, t1⟩) from ⟨HI.out.1, fun t ht hl => Int.not_lt.1 fun h => by
          by_cases h2 : t = (lo + hi) / 2
          · rw [h2, HG.out] at h; exact hc h
          · have h3 := HS.out ((lo + hi) / 2) t (by omega) hl
            rw [HG.out] at h3
            exact hc (cmpV_trans h3 h)⟩)
        go_wp2_with fail
        exact ⟨⟨lo, (lo + hi) / 2, rfl, by rw [show ((lo : Int) + (hi : Int)) / 2 = (((lo + hi) / 2 : Nat) : Int) by omega], by omega, by omega, HB2.out, HN.out⟩, by simp [intOf]; omega⟩
    · obtain rfl : hi = lo := by omega
      have HF := Lib.hid (inV_of HS.out hin HI.out.1 fun t h1 h2 => Int.not_lt.2 (HI.out.2 t h1 h2))
      have HBw := Lib.hid (HXB.out.trans (HB.out.mono HXB.out.size))
      by_cases hn : hi < x.length
      · obtain ⟨b, o, rfl, hbw, hd⟩ := flatAt_cell cVersion_len HXr.out hi hn (by decide)
        have d0 := hd 0 (by decide)
        have d1 := hd 1 (by decide)
        clear hd
        have e0 := HV.out.c0
        have e1 := HV.out.c1
        rw [getD_V x hi hn] at HF
        have HC := Lib.hid (implCmp_any x[hi] ⟨t0, t1⟩)
        generalize hp : x[hi] = p at *
        clear hp
        obtain ⟨p0, p1⟩ := p
        simp only [cVersion, vVersion, List.getElem?_cons_zero, List.getElem?_cons_succ, Nat.add_zero] at d0 d1 HC
        have hn1 : (hi : Int) < (x.length : Int) := by omega
        have hn2 : decide ((hi : Nat) < x.length) = true := by simpa using hn
        have L0 : w.heap.size < wr.heap.size := HV.out.lt
        cases hz : decide (cmpV ⟨p0, p1⟩ ⟨t0, t1⟩ = 0) with
        | true =>
          have hz2 := of_decide_eq_true hz
          have HR := Lib.hid (show inV x ⟨t0, t1⟩ = true by rw [HF.out, hz, hn2]; rfl)
          rw [hz2] at HC
          clear hz hz2
          go_wp2
          go_region_held3 (fun w' => w'.cell? ⟨b, o + hi * 2, none⟩ = some (.int .i64 p0) ∧ w'.cell? ⟨b, o + hi * 2 + 1, none⟩ = some (.int .i64 p1) ∧ w'.cell? ⟨w.heap.size, 0, none⟩ = some (.int .i64 t0) ∧ w'.cell? ⟨w.heap.size, 1, none⟩ = some (.int .i64 t1))
            (first
              | exact ⟨(hb0.cell (p := ⟨b, o + hi * 2, none⟩) hbw).trans d0, (hb0.cell (p := ⟨b, o + hi * 2 + 1, none⟩) hbw).trans d1, (hb0.cell (p := ⟨w.heap.size, 0, none⟩) L0).trans e0, (hb0.cell (p := ⟨w.heap.size, 1, none⟩) L0).trans e1⟩
              | go_keep)
            ((go_at_call 22; (with_reducible refine (HC.out _).mono ?_); rintro e w2 ⟨rfl, hb0⟩))
          have HB2 := Lib.hid ((belDr HBw.out).trans (hb0.mono (belDr HBw.out).size))
          clear hb0
          go_wp2_with fail
          go_ret2
          exact ⟨hi, by rw [HR.out]; rfl, HB2.out⟩
        | false =>
          have hz2 : (cmpV ⟨p0, p1⟩ ⟨t0, t1⟩ == 0) = false := by simpa using hz
          have HR := Lib.hid (show inV x ⟨t0, t1⟩ = false by rw [HF.out, hz, hn2]; rfl)
          clear hz
          go_wp2
          go_region_held3 (fun w' => w'.cell? ⟨b, o + hi * 2, none⟩ = some (.int .i64 p0) ∧ w'.cell? ⟨b, o + hi * 2 + 1, none⟩ = some (.int .i64 p1) ∧ w'.cell? ⟨w.heap.size, 0, none⟩ = some (.int .i64 t0) ∧ w'.cell? ⟨w.heap.size, 1, none⟩ = some (.int .i64 t1))
            (first
              | exact ⟨(hb0.cell (p := ⟨b, o + hi * 2, none⟩) hbw).trans d0, (hb0.cell (p := ⟨b, o + hi * 2 + 1, none⟩) hbw).trans d1, (hb0.cell (p := ⟨w.heap.size, 0, none⟩) L0).trans e0, (hb0.cell (p := ⟨w.heap.size, 1, none⟩) L0).trans e1⟩
              | go_keep)
            ((go_at_call 22; (with_reducible refine (HC.out _).mono ?_); rintro e w2 ⟨rfl, hb0⟩))
          have HB2 := Lib.hid ((belDr HBw.out).trans (hb0.mono (belDr HBw.out).size))
          clear hb0
          go_wp2_with fail
          go_ret2
          exact ⟨hi, by rw [HR.out]; rfl, HB2.out⟩
      · have hn1 : ¬ (hi : Int) < (x.length : Int) := by omega
        have hn2 : decide ((hi : Nat) < x.length) = false := by simpa using hn
        have HR := Lib.hid (show inV x ⟨t0, t1⟩ = false by rw [HF.out, hn2]; rfl)
        go_wp2
        go_quiet (fail)
        go_wp2_with fail
        go_ret2
        exact ⟨hi, by rw [HR.out]; rfl, below_drewN HBw.out _⟩
end Go.Proofs.Ytbofplofpggdlaa
