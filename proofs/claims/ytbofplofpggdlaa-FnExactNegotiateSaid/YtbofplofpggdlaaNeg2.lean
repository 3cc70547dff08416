/- Contracts of chapter 5: deals, the program's: what all sides have. -/
import Derived.Test.YtbofplofpggdlaaNeg1
import Derived.Test.YtbofplofpggdlaaDOffer
import Derived.Test.YtbofplofpggdlaaOffer1
import Derived.Test.YtbofplofpggdlaaVer5
import Derived.Test.YtbofplofpggdlaaFace2
namespace Go.Proofs.Ytbofplofpggdlaa
set_option linter.unusedVariables false
set_option linter.unusedSimpArgs false
open Go.RowKit
theorem all_take_succ {α : Type} (p : α → Bool) (l : List α) (k : Nat) (h : k < l.length) : (l.take (k + 1)).all p = ((l.take k).all p && p l[k]) := by
  rw [List.take_succ_eq_append_getElem h, List.all_append]; simp
theorem all_bad {α : Type} (p : α → Bool) (l : List α) (k : Nat) (h : k < l.length) (hp : p l[k] = false) : l.all p = false := by
  rw [List.all_eq_false]; exact ⟨l[k], List.getElem_mem h, by simp [hp]⟩
set_option maxRecDepth 100000 in
set_option maxHeartbeats 1600000 in
theorem areOffers_any (v : Value) (x : List OfferD) (w : World) (hx : SliceAt rOffer 2 0 w v x) :
    Calls Try.prog 39 #[v] w fun e w' => e = .returned (.bool (x.all offerB)) ∧ Below w.heap.size w w' := by
  obtain ⟨a, c, rfl, hl⟩ := sliceAt_len hx
  have HX := Lib.hid hx
  clear hx
  unfold maxLen at hl
  go_enter Try.func39, Try.ntmps39
  go_wp2
  go_loopw [4, 7] (fun _ i wr => ∃ k : Nat, k ≤ x.length ∧ i = .int .i64 k ∧ (x.take k).all offerB = true ∧ Below w.heap.size w wr) (fun _ i _ => x.length - (intOf i).toNat)
  case atStart => exact ⟨0, Nat.zero_le _, rfl, rfl, Below.refl _ _⟩
  case round =>
    obtain ⟨k, hk, rfl, ht, hbr⟩ := hrel
    have HT := Lib.hid ht
    have HB := Lib.hid hbr
    have HXr := Lib.hid (SliceAt.below HX.out goodOffer hbr (Nat.le_refl _))
    clear ht hbr
    by_cases hlt : k < x.length
    · obtain ⟨b, o, cs, rfl, hbw, hat, hd⟩ := sliceAt_cell HXr.out k hlt
      have HBAD := Lib.hid (fun (h : offerB x[k] = false) => all_bad offerB x k hlt h)
      have HGD := Lib.hid (fun (h : offerB x[k] = true) => show (x.take (k + 1)).all offerB = true by rw [all_take_succ offerB x k hlt, HT.out, h]; rfl)
      have HI := Lib.hid (fun o => implIsOffer_any _ x[k] (wr.alloc o) ((offerAt_of hat).below (box1 wr o) (Nat.le_refl _)))
      generalize x[k] = p at *
      obtain ⟨a0, a1⟩ := p
      obtain ⟨x0, rfl, hr0⟩ := hat
      obtain ⟨xa, xc, rfl, _⟩ := sliceAt_len hr0
      generalize offerB ⟨a0, a1⟩ = ob at *
      have d0 := hd 0 (by decide)
      have d1 := hd 1 (by decide)
      simp only [List.getElem?_cons_zero, List.getElem?_cons_succ, Nat.add_zero] at d0 d1 HI
      clear hd hr0
      cases ob with
      | false =>
        have HR := Lib.hid (HBAD.out rfl)
        clear HBAD HGD
        go_wp2_with fail
        refine (HI.out _).mono ?_
        rintro e w1 ⟨rfl, hb⟩
        have HB1 := Lib.hid (HB.out.trans ((bel_to (box1 wr _) hb).mono HB.out.size))
        clear hb
        go_wp2_with fail
        go_ret
        exact ⟨ret_bool HR.out.symm, HB1.out⟩
      | true =>
        have HR := Lib.hid (HGD.out rfl)
        clear HBAD HGD
        go_wp2_with fail
        refine (HI.out _).mono ?_
        rintro e w1 ⟨rfl, hb⟩
        have HB1 := Lib.hid (HB.out.trans ((bel_to (box1 wr _) hb).mono HB.out.size))
        clear hb
        go_wp2_with fail
        exact ⟨⟨k + 1, by omega, by go_num, HR.out, HB1.out⟩, by simp [intOf]; omega⟩
    · have HN := Lib.hid (show x.all offerB = true from by
        have h := HT.out
        rw [List.take_of_length_le (by omega)] at h
        exact h)
      go_wp2
      go_ret
      exact ⟨ret_bool HN.out.symm, HB.out⟩
set_option maxRecDepth 100000 in
set_option maxHeartbeats 1600000 in
theorem allHave_any (v : Value) (x : List OfferD) (t : VersionD) (w : World) (hx : SliceAt rOffer 2 0 w v x) (hv : x.all offerB = true) :
    Calls Try.prog 62 #[v, vVersion t] w fun e w' => e = .returned (.bool (allHaveB x t)) ∧ Below w.heap.size w w' := by
  obtain ⟨a, c, rfl, hl⟩ := sliceAt_len hx
  obtain ⟨t0, t1⟩ := t
  unfold vVersion
  have HT0 := Lib.hid ((Var2.new w t0 t1 27))
  have HX := Lib.hid (SliceAt.below hx goodOffer (box1 w (.cells #[.int .i64 t0, .int .i64 t1] 27)) (Nat.le_refl _))
  have HXB := Lib.hid (box1 w (.cells #[.int .i64 t0, .int .i64 t1] 27))
  have HV := Lib.hid (show ∀ i (h : i < x.length), versB (x[i]).fVersions = true from fun i h => by
    rw [List.all_eq_true] at hv
    have := hv x[i] (List.getElem_mem h)
    simp only [offerB, Bool.and_eq_true] at this
    exact this.2)
  clear hx hv
  unfold maxLen at hl
  go_enter Try.func62, Try.ntmps62
  go_wp2
  generalize w.alloc (.cells #[.int .i64 t0, .int .i64 t1] 27) = X at *
  go_loopw [6, 7, 8, 11] (fun _ _ _ i wr => ∃ k : Nat, k ≤ x.length ∧ i = .int .i64 k ∧ (x.take k).all (fun y => inV y.fVersions ⟨t0, t1⟩) = true ∧ Below X.heap.size X wr) (fun _ _ _ i _ => x.length - (intOf i).toNat)
  case atStart => exact ⟨0, Nat.zero_le _, rfl, rfl, Below.refl _ _⟩
  case round =>
    obtain ⟨k, hk, rfl, ht, hbr⟩ := hrel
    have HT := Lib.hid ht
    have HB := Lib.hid hbr
    have HTV := Lib.hid (HT0.out.below hbr)
    have HXr := Lib.hid (SliceAt.below HX.out goodOffer hbr (Nat.le_refl _))
    clear ht hbr
    by_cases hlt : k < x.length
    · obtain ⟨b, o, cs, rfl, hbw, hat, hd⟩ := sliceAt_cell HXr.out k hlt
      have HBAD := Lib.hid (fun (h : inV x[k].fVersions ⟨t0, t1⟩ = false) => all_bad (fun y => inV y.fVersions ⟨t0, t1⟩) x k hlt h)
      have HGD := Lib.hid (fun (h : inV x[k].fVersions ⟨t0, t1⟩ = true) => show (x.take (k + 1)).all (fun y => inV y.fVersions ⟨t0, t1⟩) = true by rw [all_take_succ _ x k hlt, HT.out, h]; rfl)
      have HVk := Lib.hid (HV.out k hlt)
      generalize x[k] = p at *
      obtain ⟨a0, a1⟩ := p
      obtain ⟨x0, rfl, hr0⟩ := hat
      simp only at HBAD HGD HVk hr0
      have HI := Lib.hid (fun o => search_any x0 a0 ⟨t0, t1⟩ (wr.alloc o) ((flatAt_of_slice cVersion_len (by decide) hr0).below (box1 wr o) (Nat.le_refl _)) HVk.out)
      generalize inV a0 ⟨t0, t1⟩ = ob at *
      obtain ⟨xa, xc, rfl, _⟩ := sliceAt_len hr0
      have d0 := hd 0 (by decide)
      have d1 := hd 1 (by decide)
      have e0 := HTV.out.c0
      have e1 := HTV.out.c1
      have hwl := HTV.out.lt
      simp only [List.getElem?_cons_zero, List.getElem?_cons_succ, Nat.add_zero, vVersion] at d0 d1 HI
      clear hd hr0
      cases ob with
      | false =>
        have HR := Lib.hid (HBAD.out rfl)
        clear HBAD HGD
        go_wp2_with fail
        refine (HI.out _).mono ?_
        rintro e w1 ⟨i, rfl, hb⟩
        have HB1 := Lib.hid (HXB.out.trans ((HB.out.trans ((bel_to (box1 wr _) hb).mono HB.out.size)).mono HXB.out.size))
        clear hb
        go_wp2_with fail
        go_ret
        exact ⟨ret_bool HR.out.symm, HB1.out⟩
      | true =>
        have HR := Lib.hid (HGD.out rfl)
        clear HBAD HGD
        go_wp2_with fail
        refine (HI.out _).mono ?_
        rintro e w1 ⟨i, rfl, hb⟩
        have HB1 := Lib.hid (HB.out.trans ((bel_to (box1 wr _) hb).mono HB.out.size))
        clear hb
        go_wp2_with fail
        exact ⟨⟨k + 1, by omega, by go_num, HR.out, HB1.out⟩, by simp [intOf]; omega⟩
    · have HN := Lib.hid (show allHaveB x ⟨t0, t1⟩ = true from by
        have h := HT.out
        rw [List.take_of_length_le (by omega)] at h
        exact h)
      have HB1 := Lib.hid (HXB.out.trans (HB.out.mono HXB.out.size))
      go_wp2
      go_ret
      exact ⟨ret_bool HN.out.symm, HB1.out⟩
theorem foldl_take_succ {α β : Type} (f : β → α → β) (z : β) (l : List α) (k : Nat) (h : k < l.length) : (l.take (k + 1)).foldl f z = f ((l.take k).foldl f z) l[k] := by
  rw [List.take_succ_eq_append_getElem h, List.foldl_append]; rfl
set_option maxRecDepth 100000 in
set_option maxHeartbeats 1600000 in
theorem comFace_any (v : Value) (x : List OfferD) (w : World) (hx : SliceAt rOffer 2 0 w v x) :
    Calls Try.prog 42 #[v] w fun e w' => e = .returned (.int .i64 (comF x)) ∧ Below w.heap.size w w' := by
  obtain ⟨a, c, rfl, hl⟩ := sliceAt_len hx
  have HX := Lib.hid hx
  clear hx
  unfold maxLen at hl
  go_enter Try.func42, Try.ntmps42
  go_wp2
  go_loopw [3, 5, 8] (fun f _ i wr => ∃ k : Nat, k ≤ x.length ∧ i = .int .i64 k ∧ f = .int .i64 ((x.take k).foldl (fun f y => bothF f y.fFace) 63) ∧ Below w.heap.size w wr) (fun _ _ i _ => x.length - (intOf i).toNat)
  case atStart => exact ⟨0, Nat.zero_le _, rfl, rfl, Below.refl _ _⟩
  case round =>
    obtain ⟨k, hk, rfl, rfl, hbr⟩ := hrel
    have HB := Lib.hid hbr
    have HXr := Lib.hid (SliceAt.below HX.out goodOffer hbr (Nat.le_refl _))
    clear hbr
    by_cases hlt : k < x.length
    · obtain ⟨b, o, cs, rfl, hbw, hat, hd⟩ := sliceAt_cell HXr.out k hlt
      have HS := Lib.hid (foldl_take_succ (fun f (y : OfferD) => bothF f y.fFace) 63 x k hlt)
      generalize x[k] = p at *
      obtain ⟨a0, a1⟩ := p
      obtain ⟨x0, rfl, hr0⟩ := hat
      obtain ⟨xa, xc, rfl, _⟩ := sliceAt_len hr0
      simp only at HS
      generalize (x.take k).foldl (fun f (y : OfferD) => bothF f y.fFace) 63 = f at *
      have HI := Lib.hid (implBoth_any f a1)
      have d0 := hd 0 (by decide)
      have d1 := hd 1 (by decide)
      simp only [List.getElem?_cons_zero, List.getElem?_cons_succ, Nat.add_zero] at d0 d1
      clear hd hr0
      go_wp2_with fail
      refine (HI.out _).mono ?_
      rintro e w1 ⟨rfl, rfl⟩
      have HB1 := Lib.hid (fun ob => HB.out.trans ((box1 wr ob).mono HB.out.size))
      go_wp2_with fail
      exact ⟨⟨k + 1, by omega, by go_num, by rw [HS.out], HB1.out _⟩, by simp [intOf]; omega⟩
    · have HN := Lib.hid (show (x.take k).foldl (fun f (y : OfferD) => bothF f y.fFace) 63 = comF x from by rw [List.take_of_length_le (by omega)]; rfl)
      go_wp2
      go_ret
      exact ⟨ret_int HN.out, HB.out⟩
end Go.Proofs.Ytbofplofpggdlaa
