/- Contracts of chapter 6: FindEntry, both sides. -/
import Derived.Test.YtbofplofpggdladDEntry
namespace Go.Proofs.Ytbofplofpggdlad
set_option linter.unusedVariables false
set_option linter.unusedSimpArgs false
open Go.RowKit
def idxE (l : List EntryD) (s : List UInt8) : Int := match l.findIdx? (fun e => e.fName == s) with | some i => i | none => -1
def NoneTo (l : List EntryD) (s : List UInt8) (k : Nat) : Prop := ∀ i (h : i < l.length), i < k → l[i].fName ≠ s
theorem idxE_hit {l : List EntryD} {s : List UInt8} {k : Nat} (h : k < l.length) (h1 : l[k].fName = s) (h2 : NoneTo l s k) : idxE l s = k := by
  unfold idxE
  rw [List.findIdx?_eq_some_iff_getElem.2 ⟨h, by simp [h1], fun j hj => by simpa using h2 j (by omega) hj⟩]
theorem idxE_none {l : List EntryD} {s : List UInt8} (h2 : NoneTo l s l.length) : idxE l s = -1 := by
  unfold idxE
  rw [List.findIdx?_eq_none_iff.2 (fun x hx => by
    obtain ⟨i, hi, rfl⟩ := List.getElem_of_mem hx
    simpa using h2 i hi hi)]
theorem noneTo_succ {l : List EntryD} {s : List UInt8} {k : Nat} (h : k < l.length) (h1 : l[k].fName ≠ s) (h2 : NoneTo l s k) : NoneTo l s (k + 1) := by
  intro i hi hik
  by_cases e : i = k
  · subst e; exact h1
  · exact h2 i hi (by omega)
theorem find_box (w : World) (o : Obj) : Below w.heap.size w (w.alloc o) := (Below.refl _ _).alloc (Nat.le_refl _) o
set_option maxHeartbeats 800000 in
theorem closE_any (n t : List UInt8) (a1 a2 : Option Addr) (n1 c1 n2 c2 : Nat) (x y : Int) (b : Nat) (w : World) (hc : w.cell? ⟨b, 0, none⟩ = some (.string ⟨t.toArray⟩)) (hb : b < w.heap.size) :
    Calls Try.prog 29 #[.agg #[.string ⟨n.toArray⟩, .slice a1 n1 c1, .int .i64 x, .int .i64 y, .slice a2 n2 c2], .pointer (some ⟨b, 0, none⟩)] w fun e w' => e = .returned (.bool (n == t)) ∧ Below w.heap.size w w' := by
  go_enter Try.func29, Try.ntmps29
  go_wp2_with fail
  go_ret
  exact ⟨by simp, find_box w _⟩
set_option maxRecDepth 100000 in
set_option maxHeartbeats 1600000 in
theorem indexE_any (v : Value) (x : List EntryD) (t : List UInt8) (b0 : Nat) (w : World) (hx : SliceAt rEntry 5 0 w v x) (hc : w.cell? ⟨b0, 0, none⟩ = some (.string ⟨t.toArray⟩)) (hb0 : b0 < w.heap.size) :
    Calls Try.prog 28 #[v, .func (.func 29) #[] #[.pointer (some ⟨b0, 0, none⟩)]] w fun e w' => e = .returned (.int .i64 (idxE x t)) ∧ Below w.heap.size w w' := by
  obtain ⟨a, c, rfl, hl⟩ := sliceAt_len hx
  have HX := Lib.hid hx
  have HC := Lib.hid hc
  have HB0 := Lib.hid hb0
  clear hx hc hb0
  unfold maxLen at hl
  go_enter Try.func28, Try.ntmps28
  go_wp2
  go_loopw [5, 8] (fun _ i wr => ∃ k : Nat, k ≤ x.length ∧ i = .int .i64 k ∧ NoneTo x t k ∧ Below w.heap.size w wr) (fun _ i _ => x.length - (intOf i).toNat)
  case atStart => exact ⟨0, Nat.zero_le _, rfl, fun i _ h => absurd h (Nat.not_lt_zero _), Below.refl _ _⟩
  case round =>
    obtain ⟨k, hk, rfl, ht, hbr⟩ := hrel
    have HT := Lib.hid ht
    have HB := Lib.hid hbr
    have HXr := Lib.hid (SliceAt.below HX.out goodEntry hbr (Nat.le_refl _))
    have HCr := Lib.hid ((hbr.cell (p := ⟨b0, 0, none⟩) HB0.out).trans HC.out)
    have HBr := Lib.hid (Nat.lt_of_lt_of_le HB0.out hbr.size)
    clear ht hbr
    by_cases hlt : k < x.length
    · obtain ⟨b, o, cs, rfl, hbw, hat, hd⟩ := sliceAt_cell HXr.out k hlt
      have HY := Lib.hid (fun h : x[k].fName = t => idxE_hit hlt h HT.out)
      have HN := Lib.hid (fun h : x[k].fName ≠ t => noneTo_succ hlt h HT.out)
      generalize x[k] = p at *
      obtain ⟨m0, m1, ⟨m2, m3⟩, m4⟩ := p
      obtain ⟨x1, x4, rfl, hr1, hr4⟩ := hat
      obtain ⟨xa1, xc1, rfl, _⟩ := sliceAt_len hr1
      obtain ⟨xa4, xc4, rfl, _⟩ := sliceAt_len hr4
      have d0 := hd 0 (by decide)
      have d1 := hd 1 (by decide)
      have d2 := hd 2 (by decide)
      have d3 := hd 3 (by decide)
      have d4 := hd 4 (by decide)
      simp only [List.getElem?_cons_zero, List.getElem?_cons_succ, Nat.add_zero] at d0 d1 d2 d3 d4 HY HN
      have HI := Lib.hid (closE_any m0 t xa1 xa4 m1.length xc1 m4.length xc4 m2 m3 b0 wr HCr.out HBr.out)
      clear hd hr1 hr4
      by_cases h : m0 = t
      · have HR := Lib.hid (HY.out h)
        rw [show (m0 == t) = true by simp [h]] at HI
        clear h HY HN
        go_wp2_with fail
        refine HI.out.mono ?_
        rintro e w1 ⟨rfl, hb⟩
        have HB1 := Lib.hid (HB.out.trans (hb.mono HB.out.size))
        clear hb
        go_wp2_with fail
        go_ret
        exact ⟨ret_int HR.out.symm, HB1.out⟩
      · have HR := Lib.hid (HN.out h)
        rw [show (m0 == t) = false by simp [h]] at HI
        clear h HY HN
        go_wp2_with fail
        refine HI.out.mono ?_
        rintro e w1 ⟨rfl, hb⟩
        have HB1 := Lib.hid (HB.out.trans (hb.mono HB.out.size))
        clear hb
        go_wp2_with fail
        exact ⟨⟨k + 1, by omega, by go_num, HR.out, HB1.out⟩, by simp [intOf]; omega⟩
    · have HR := Lib.hid (idxE_none (l := x) (s := t) (by have h := HT.out; rwa [show k = x.length by omega] at h))
      go_wp2
      go_ret
      exact ⟨ret_int HR.out.symm, HB.out⟩
set_option maxRecDepth 100000 in
set_option maxHeartbeats 800000 in
theorem implFind_any (v : Value) (x : List EntryD) (t : List UInt8) (w : World) (hx : SliceAt rEntry 5 0 w v x) :
    Calls Try.prog 13 #[v, .string ⟨t.toArray⟩] w fun e w' => e = .returned (.int .i64 (idxE x t)) ∧ Below w.heap.size w w' := by
  have HI := Lib.hid (indexE_any v x t w.heap.size (w.alloc (.cells #[.string ⟨t.toArray⟩] 9)) (hx.below goodEntry (find_box w _) (Nat.le_refl _)) (by simp) (by simp))
  clear hx
  go_enter Try.func13, Try.ntmps13
  go_wp2_with fail
  refine HI.out.mono ?_
  rintro e w1 ⟨rfl, hb⟩
  have HB := Lib.hid (belS (find_box w _) hb)
  clear hb
  go_wp2_with fail
  go_ret
  exact ⟨rfl, HB.out⟩
set_option maxRecDepth 100000 in
set_option maxHeartbeats 1600000 in
theorem specFind_any (v : Value) (x : List EntryD) (t : List UInt8) (w : World) (hx : SliceAt rEntry 5 0 w v x) :
    Calls Try.prog 11 #[v, .string ⟨t.toArray⟩] w fun e w' => e = .returned (.int .i64 (idxE x t)) ∧ Below w.heap.size w w' := by
  obtain ⟨a, c, rfl, hl⟩ := sliceAt_len hx
  have HX := Lib.hid hx
  clear hx
  unfold maxLen at hl
  go_enter Try.func11, Try.ntmps11
  go_wp2
  go_loopw [5, 6, 9] (fun _ _ i wr => ∃ k : Nat, k ≤ x.length ∧ i = .int .i64 k ∧ NoneTo x t k ∧ Below w.heap.size w wr) (fun _ _ i _ => x.length - (intOf i).toNat)
  case atStart => exact ⟨0, Nat.zero_le _, rfl, fun i _ h => absurd h (Nat.not_lt_zero _), Below.refl _ _⟩
  case round =>
    obtain ⟨k, hk, rfl, ht, hbr⟩ := hrel
    have HT := Lib.hid ht
    have HB := Lib.hid hbr
    have HXr := Lib.hid (SliceAt.below HX.out goodEntry hbr (Nat.le_refl _))
    clear ht hbr
    by_cases hlt : k < x.length
    · obtain ⟨b, o, cs, rfl, hbw, hat, hd⟩ := sliceAt_cell HXr.out k hlt
      have HY := Lib.hid (fun h : x[k].fName = t => idxE_hit hlt h HT.out)
      have HN := Lib.hid (fun h : x[k].fName ≠ t => noneTo_succ hlt h HT.out)
      generalize x[k] = p at *
      obtain ⟨m0, m1, ⟨m2, m3⟩, m4⟩ := p
      obtain ⟨x1, x4, rfl, hr1, hr4⟩ := hat
      obtain ⟨xa1, xc1, rfl, _⟩ := sliceAt_len hr1
      obtain ⟨xa4, xc4, rfl, _⟩ := sliceAt_len hr4
      have d0 := hd 0 (by decide)
      have d1 := hd 1 (by decide)
      have d2 := hd 2 (by decide)
      have d3 := hd 3 (by decide)
      have d4 := hd 4 (by decide)
      simp only [List.getElem?_cons_zero, List.getElem?_cons_succ, Nat.add_zero] at d0 d1 d2 d3 d4 HY HN
      have HB1 := Lib.hid (fun ob => HB.out.trans ((find_box wr ob).mono HB.out.size))
      clear hd hr1 hr4
      by_cases h : m0 = t
      · have HR := Lib.hid (HY.out h)
        subst h
        clear HY HN
        go_wp2_with fail
        go_ret
        exact ⟨ret_int HR.out.symm, HB1.out _⟩
      · have HR := Lib.hid (HN.out h)
        have hne : (m0 == t) = false := by simp [h]
        clear h HY HN
        go_wp2_with fail
        exact ⟨⟨k + 1, by omega, by go_num, HR.out, HB1.out _⟩, by simp [intOf]; omega⟩
    · have HR := Lib.hid (idxE_none (l := x) (s := t) (by have h := HT.out; rwa [show k = x.length by omega] at h))
      go_wp2
      go_ret
      exact ⟨ret_int HR.out.symm, HB.out⟩
end Go.Proofs.Ytbofplofpggdlad
