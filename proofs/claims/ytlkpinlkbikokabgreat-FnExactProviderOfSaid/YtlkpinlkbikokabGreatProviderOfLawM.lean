/- FnExactProviderOf: at every list of entries, text and need the program's ProviderOf answers as the model's (a text longer than 2^20 is not asked, nor lists and needs of more than 2^20 entries, texts, needs and signs together). No condition. -/
import Derived.Test.YtlkpinlkbikokabGreatServesLawM4
import Derived.Test.YtlkpinlkbikokabGreatServesLawM2
import Derived.Test.YtlkpinlkbikokabGreatServesLawM3
import Derived.Test.YtlkpinlkbikokabGreatServesLawM5
import Derived.Test.YtlkpinlkbikokabGreatServesLawM0
import Derived.Test.YtlkpinlkbikokabGreatServesLawM1
import Derived.Deep.Slices
import Derived.StillTailTactics
/- Contracts of chapter 6: ProviderOf, the program's. Written by gen/ch6s.py. -/
namespace Go.Proofs.YtlkpinlkbikokabGreat
set_option linter.unusedVariables false
set_option linter.unusedSimpArgs false
open Go.RowKit
set_option maxRecDepth 100000 in
set_option maxHeartbeats 3200000 in
theorem implProv_any (v : Value) (l : List EntryD) (t : List UInt8) (d : NeedD) (w : World) (hx : SliceAt rEntry 5 0 w v l) (hg : ∀ e ∈ l, e.fName.length ≤ 1048576 ∧ (∀ d ∈ e.fNeeds, d.fFrom.length ≤ maxLen) ∧ ∀ s ∈ e.fRecipe, s.length ≤ 1048576) (hf : d.fFrom.length ≤ maxLen) :
    Calls Tryz.prog 18 #[v, .string ⟨t.toArray⟩, vNeed d] w fun e w' => e = .returned (.string ⟨(provL l t d).toArray⟩) ∧ Below w.heap.size w w' := by
  obtain ⟨a, c, rfl, hl⟩ := sliceAt_len hx
  have HX := Lib.hid hx
  have HG := Lib.hid hg
  have HSV := Lib.hid (fun cs (x : EntryD) W (h : rEntry 0 W cs x) (hq : x ∈ l) => implServes_any (.agg cs.toArray) x d W ⟨cs, rfl, h⟩ (Nat.le_trans (hg x hq).1 (by decide)) (hg x hq).2.1 (hg x hq).2.2 hf)
  unfold maxLen at hl
  generalize hres : provL l t d = res
  have HRES := Lib.hid hres.symm
  clear hx hg hf hres
  obtain ⟨m0, m1, m2, m3⟩ := d
  simp only [vNeed] at HSV ⊢
  have HCT := Lib.hid (fun (s : ByteArray) W (h : s.size ≤ 140737488355328) => copyText_any s W h)
  have BS := Lib.hid (bx_start1 w [.int .i64 m0, .string ⟨m1.toArray⟩, .int .i64 m2, .int .i64 m3] 39)
  go_enter Tryz.func18, Tryz.ntmps18
  go_wp2_with fail
  go_loopw [8, 11] (fun _ i wr => ∃ k : Nat, k ≤ l.length ∧ i = .int .i64 k ∧ res = provL (l.drop k) t ⟨m0, m1, m2, m3⟩ ∧ Below w.heap.size w wr ∧ Bx wr w.heap.size [.int .i64 m0, .string ⟨m1.toArray⟩, .int .i64 m2, .int .i64 m3]) (fun _ i _ => l.length - (intOf i).toNat)
  case atStart => exact ⟨0, Nat.zero_le _, rfl, HRES.out, BS.out.2, BS.out.1⟩
  case round =>
    obtain ⟨k, hk, rfl, hres, hbr, hbx⟩ := hrel
    have HRS := Lib.hid hres
    have HBr := Lib.hid hbr
    have BNr := Lib.hid hbx
    have HXr := Lib.hid (SliceAt.below HX.out goodEntry hbr (Nat.le_refl _))
    have hszr := hbr.size
    clear hres hbr hbx
    by_cases hlt : k < l.length
    · obtain ⟨b, o, cs, rfl, hbw, hat, hd⟩ := sliceAt_cell HXr.out k hlt
      have HM := Lib.hid (List.getElem_mem hlt)
      have HDR := Lib.hid (show l.drop k = l[k] :: l.drop (k + 1) from List.drop_eq_getElem_cons hlt)
      have HS1 := Lib.hid (fun W (h : rEntry 0 W cs l[k]) => HSV.out cs l[k] W h HM.out)
      have HNL := Lib.hid (HG.out _ HM.out).1
      have HAT := Lib.hid (fun W (hb : Below wr.heap.size wr W) => goodEntry.keep hat (kept_below hb (Nat.le_refl _)))
      clear HM
      generalize l[k] = z at *
      obtain ⟨a0, a1, ⟨a2, a3⟩, l2⟩ := z
      obtain ⟨v1, v4, rfl, h1, h4⟩ := hat
      simp only at h1 h4
      obtain ⟨ra, rc, rfl, _⟩ := sliceAt_len h1
      obtain ⟨sa, sc, rfl, _⟩ := sliceAt_len h4
      have d0 := hd 0 (by decide)
      have d1 := hd 1 (by decide)
      have d2 := hd 2 (by decide)
      have d3 := hd 3 (by decide)
      have d4 := hd 4 (by decide)
      simp only [List.getElem?_cons_zero, List.getElem?_cons_succ, Nat.add_zero] at d0 d1 d2 d3 d4
      have HRS2 := Lib.hid (show res = if a0 ≠ t ∧ servesB ⟨a0, a1, ⟨a2, a3⟩, l2⟩ ⟨m0, m1, m2, m3⟩ = true then a0 else provL (l.drop (k + 1)) t ⟨m0, m1, m2, m3⟩ by rw [HRS.out, HDR.out]; rfl)
      generalize servesB ⟨a0, a1, ⟨a2, a3⟩, l2⟩ ⟨m0, m1, m2, m3⟩ = sb at *
      have BE := Lib.hid (Bx.new wr [.string ⟨a0.toArray⟩, .slice ra a1.length rc, .int .i64 a2, .int .i64 a3, .slice sa l2.length sc] 36)
      have HBN := Lib.hid (belS HBr.out (bx_box wr (.cells #[.string ⟨a0.toArray⟩, .slice ra a1.length rc, .int .i64 a2, .int .i64 a3, .slice sa l2.length sc] 36)))
      have BN1 := Lib.hid (BNr.out.alloc (.cells #[.string ⟨a0.toArray⟩, .slice ra a1.length rc, .int .i64 a2, .int .i64 a3, .slice sa l2.length sc] 36))
      have HAT1 := Lib.hid (HAT.out _ (bx_box wr (.cells #[.string ⟨a0.toArray⟩, .slice ra a1.length rc, .int .i64 a2, .int .i64 a3, .slice sa l2.length sc] 36)))
      have hkl : (k : Int) < (l.length : Int) := by omega
      clear hd HRS HDR h1 h4 HAT
      by_cases he : a0 = t
      · have HR3 := Lib.hid (show res = provL (l.drop (k + 1)) t ⟨m0, m1, m2, m3⟩ by have h := HRS2.out; rw [if_neg (by simp [he])] at h; exact h)
        have heq : (a0 == t) = true := by simp [he]
        have hne : (a0 != t) = false := by simp [he]
        clear HRS2 he
        have e0 := BE.out.cell 0 (by simp)
        have e1 := BE.out.cell 1 (by simp)
        have e2 := BE.out.cell 2 (by simp)
        have e3 := BE.out.cell 3 (by simp)
        have e4 := BE.out.cell 4 (by simp)
        simp only [List.getElem_cons_zero, List.getElem_cons_succ] at e0 e1 e2 e3 e4
        go_wp2_with fail
        exact ⟨⟨k + 1, by omega, by go_num, HR3.out, HBN.out, BN1.out⟩, by simp [intOf]; omega⟩
      · have heq : (a0 == t) = false := by simp [he]
        have hne : (a0 != t) = true := by simp [he]
        cases sb
        · have HR3 := Lib.hid (show res = provL (l.drop (k + 1)) t ⟨m0, m1, m2, m3⟩ by have h := HRS2.out; rw [if_neg (by simp)] at h; exact h)
          clear HRS2 he
          have e0 := BE.out.cell 0 (by simp)
          have e1 := BE.out.cell 1 (by simp)
          have e2 := BE.out.cell 2 (by simp)
          have e3 := BE.out.cell 3 (by simp)
          have e4 := BE.out.cell 4 (by simp)
          simp only [List.getElem_cons_zero, List.getElem_cons_succ] at e0 e1 e2 e3 e4
          have n0 := BN1.out.cell 0 (by simp)
          have n1 := BN1.out.cell 1 (by simp)
          have n2 := BN1.out.cell 2 (by simp)
          have n3 := BN1.out.cell 3 (by simp)
          simp only [List.getElem_cons_zero, List.getElem_cons_succ] at n0 n1 n2 n3
          go_wp2_with fail
          refine (HS1.out _ HAT1.out).mono ?_
          rintro e w2 ⟨rfl, hb⟩
          have HB2 := Lib.hid (belS HBN.out hb)
          have BN2 := Lib.hid (BN1.out.below hb)
          clear hb
          go_wp2_with fail
          exact ⟨⟨k + 1, by omega, by go_num, HR3.out, HB2.out, BN2.out⟩, by simp [intOf]; omega⟩
        · obtain rfl : res = a0 := by have h := HRS2.out; rw [if_pos ⟨he, rfl⟩] at h; exact h
          clear HRS2 he
          have e0 := BE.out.cell 0 (by simp)
          have e1 := BE.out.cell 1 (by simp)
          have e2 := BE.out.cell 2 (by simp)
          have e3 := BE.out.cell 3 (by simp)
          have e4 := BE.out.cell 4 (by simp)
          simp only [List.getElem_cons_zero, List.getElem_cons_succ] at e0 e1 e2 e3 e4
          have n0 := BN1.out.cell 0 (by simp)
          have n1 := BN1.out.cell 1 (by simp)
          have n2 := BN1.out.cell 2 (by simp)
          have n3 := BN1.out.cell 3 (by simp)
          simp only [List.getElem_cons_zero, List.getElem_cons_succ] at n0 n1 n2 n3
          go_wp2_with fail
          refine (HS1.out _ HAT1.out).mono ?_
          rintro e w2 ⟨rfl, hb⟩
          have HB2 := Lib.hid (belS HBN.out hb)
          have BE2 := Lib.hid (BE.out.below hb)
          clear hb e0 e1 e2 e3 e4
          have e0 := BE2.out.cell 0 (by simp)
          have e1 := BE2.out.cell 1 (by simp)
          have e2 := BE2.out.cell 2 (by simp)
          have e3 := BE2.out.cell 3 (by simp)
          have e4 := BE2.out.cell 4 (by simp)
          simp only [List.getElem_cons_zero, List.getElem_cons_succ] at e0 e1 e2 e3 e4
          go_wp2_with fail
          refine (HCT.out ⟨res.toArray⟩ _ (show res.length ≤ 140737488355328 from Nat.le_trans HNL.out (by decide))).mono ?_
          rintro e w3 ⟨rfl, hb⟩
          have HB3 := Lib.hid (belS HB2.out hb)
          clear hb
          go_wp2_with fail
          go_ret
          exact ⟨rfl, HB3.out⟩
    · obtain rfl : res = [] := by have h := HRS.out; rw [List.drop_eq_nil_of_le (by omega)] at h; exact h
      have hkl : ¬ (k : Int) < (l.length : Int) := by omega
      go_wp2_with fail
      go_ret
      exact ⟨rfl, HBr.out⟩
end Go.Proofs.YtlkpinlkbikokabGreat
/- Contracts of chapter 4: MakePart, the model's. Written by gen/ch4mk.py. -/
namespace Go.Proofs.YtlkpinlkbikokabGreat
set_option linter.unusedVariables false
set_option linter.unusedSimpArgs false
open Go.RowKit
set_option maxRecDepth 100000 in
set_option maxHeartbeats 3200000 in
theorem specMake_nil (a : Option Addr) (c : Nat) (w : World) :
    Calls Tryz.prog 73 #[.slice a 0 c] w fun e w' => GivesOPR zeroP ⟨7, 0, [], 0, 0⟩ w e w' := by
  unfold GivesOPR zeroP vReply
  have BS := Lib.hid (bx_start2 w [.string ⟨#[]⟩, .bool false, .bool false, .slice none 0 0, .int .i64 0, .slice none 0 0] [.int .i64 0, .int .i64 0, .string ⟨#[]⟩, .int .i64 0, .int .i64 0] 103 105)
  have B2 := Lib.hid BS.out.1
  have B3 := Lib.hid BS.out.2.1
  go_enter Tryz.func73, Tryz.ntmps73
  go_wp2_with fail
  exact bodyPost_ret (v := .tuple #[.agg #[.string ⟨#[]⟩, .bool false, .bool false, .slice none 0 0, .int .i64 0, .slice none 0 0], .agg #[.int .i64 7, .int .i64 0, .string ⟨#[]⟩, .int .i64 0, .int .i64 0]]) (by simp [results, Tryz.results73, go_sem]) rfl ⟨_, rfl, ⟨_, _, rfl, ownsF_nil _ _ _ _ _, ownsF_nil _ _ _ _ _⟩, (bx_start2 w [.string ⟨#[]⟩, .bool false, .bool false, .slice none 0 0, .int .i64 0, .slice none 0 0] [.int .i64 7, .int .i64 0, .string ⟨#[]⟩, .int .i64 0, .int .i64 0] 103 105).2.2⟩
set_option maxRecDepth 100000 in
set_option maxHeartbeats 3200000 in
theorem specMake_bad (b o c : Nat) (k : List UInt8) (r : List (List UInt8)) (w : World) (hR : RowAt w (.slice (some ⟨b, o, none⟩) (r.length + 1) c) ((k :: r).map strV)) (hz : ∀ s ∈ k :: r, s.length ≤ 1048576) (hc : r.length + 1 ≤ c) (hm : r.length + 1 ≤ maxLen) (hk : ¬ 0 ≤ kindI k) :
    Calls Tryz.prog 73 #[.slice (some ⟨b, o, none⟩) (r.length + 1) c] w fun e w' => GivesOPR zeroP ⟨7, 0, [], 0, 0⟩ w e w' := by
  have d0 := rowAt_cellS hR 0 (by simp)
  simp only [List.map_cons, List.getElem_cons_zero, strV, Nat.add_zero] at d0
  have hbw : b < w.heap.size := by
    obtain ⟨b', o', e, hlt, _⟩ := rowAt_cell hR 0 (by simp)
    injection e with e; injection e with e1 e2; subst e1; exact hlt
  have HNP := Lib.hid (fun W => specNewPart_own ⟨k.toArray⟩ W (by have := hz k (List.mem_cons_self ..); simpa [ByteArray.size] using this))
  simp only [GivesNPO, vNP] at HNP
  have HR := Lib.hid hR
  have HZ := Lib.hid hz
  have HM := Lib.hid hm
  clear hR hz hm
  unfold GivesOPR zeroP vReply
  rw [show decide (0 ≤ kindI (⟨k.toArray⟩ : ByteArray).data.toList) = false from decide_eq_false hk] at HNP
  generalize nmK (⟨k.toArray⟩ : ByteArray).data.toList = nk at *
  have BS := Lib.hid (bx_start2 w [.string ⟨#[]⟩, .bool false, .bool false, .slice none 0 0, .int .i64 0, .slice none 0 0] [.int .i64 0, .int .i64 0, .string ⟨#[]⟩, .int .i64 0, .int .i64 0] 103 105)
  have HD := Lib.hid d0
  clear d0
  have d0 := (BS.out.2.2.cell (p := ⟨b, o, none⟩) hbw).trans HD.out
  go_enter Tryz.func73, Tryz.ntmps73
  go_wp2_with fail
  refine (HNP.out _).mono ?_
  rintro e w1 ⟨a1, c1, rfl, ho, hb⟩
  have HB1 := Lib.hid ((belS BS.out.2.2 hb).alloc (belS BS.out.2.2 hb).size (.cells #[.string ⟨nk.toArray⟩, .bool false, .bool false, .slice a1 0 c1, .int .i64 0, .slice none 0 0] 103))
  have B2 := Lib.hid ((BS.out.1.below hb).alloc (.cells #[.string ⟨nk.toArray⟩, .bool false, .bool false, .slice a1 0 c1, .int .i64 0, .slice none 0 0] 103))
  have B3 := Lib.hid ((BS.out.2.1.below hb).alloc (.cells #[.string ⟨nk.toArray⟩, .bool false, .bool false, .slice a1 0 c1, .int .i64 0, .slice none 0 0] 103))
  clear ho hb d0
  have r0 := B2.out.cell 0 (by simp)
  have r1 := B2.out.cell 1 (by simp)
  have r2 := B2.out.cell 2 (by simp)
  have r3 := B2.out.cell 3 (by simp)
  have r4 := B2.out.cell 4 (by simp)
  have r5 := B2.out.cell 5 (by simp)
  simp only [List.getElem_cons_zero, List.getElem_cons_succ] at r0 r1 r2 r3 r4 r5
  have z0 := B2.out.froz 0 (by simp)
  have z1 := B2.out.froz 1 (by simp)
  have z2 := B2.out.froz 2 (by simp)
  have z3 := B2.out.froz 3 (by simp)
  have z4 := B2.out.froz 4 (by simp)
  have z5 := B2.out.froz 5 (by simp)
  have s0 := B3.out.cell 0 (by simp)
  have s1 := B3.out.cell 1 (by simp)
  have s2 := B3.out.cell 2 (by simp)
  have s3 := B3.out.cell 3 (by simp)
  have s4 := B3.out.cell 4 (by simp)
  simp only [List.getElem_cons_zero, List.getElem_cons_succ] at s0 s1 s2 s3 s4
  have y0 := B3.out.froz 0 (by simp)
  have y1 := B3.out.froz 1 (by simp)
  have y2 := B3.out.froz 2 (by simp)
  have y3 := B3.out.froz 3 (by simp)
  have y4 := B3.out.froz 4 (by simp)
  go_wp2_with fail
  clear r0 r1 r2 r3 r4 r5 z0 z1 z2 z3 z4 z5 s0 s1 s2 s3 s4 y0 y1 y2 y3 y4
  have E4 := Lib.hid ((B2.out.put6 (.string ⟨#[]⟩) (.bool false) (.bool false) (.slice none 0 0) (.int .i64 0) (.slice none 0 0)).put5o (c := w.heap.size + 1) (by omega) (.int .i64 7) (.int .i64 0) (.string ⟨#[]⟩) (.int .i64 0) (.int .i64 0))
  have E5 := Lib.hid ((B3.out.put6o (c := w.heap.size) (by omega) (.string ⟨#[]⟩) (.bool false) (.bool false) (.slice none 0 0) (.int .i64 0) (.slice none 0 0)).put5 (.int .i64 7) (.int .i64 0) (.string ⟨#[]⟩) (.int .i64 0) (.int .i64 0))
  have EB := Lib.hid (below_put5 (below_put6 HB1.out w.heap.size (by omega) (.string ⟨#[]⟩) (.bool false) (.bool false) (.slice none 0 0) (.int .i64 0) (.slice none 0 0)) (w.heap.size + 1) (by omega) (.int .i64 7) (.int .i64 0) (.string ⟨#[]⟩) (.int .i64 0) (.int .i64 0))
  generalize ((((((((((((w1.alloc (.cells #[.string ⟨nk.toArray⟩, .bool false, .bool false, .slice a1 0 c1, .int .i64 0, .slice none 0 0] 103)).setCell ⟨w.heap.size, 0, none⟩ (.string ⟨#[]⟩)).setCell ⟨w.heap.size, 1, none⟩ (.bool false)).setCell ⟨w.heap.size, 2, none⟩ (.bool false)).setCell ⟨w.heap.size, 3, none⟩ (.slice none 0 0)).setCell ⟨w.heap.size, 4, none⟩ (.int .i64 0)).setCell ⟨w.heap.size, 5, none⟩ (.slice none 0 0)).setCell ⟨w.heap.size + 1, 0, none⟩ (.int .i64 7)).setCell ⟨w.heap.size + 1, 1, none⟩ (.int .i64 0)).setCell ⟨w.heap.size + 1, 2, none⟩ (.string ⟨#[]⟩)).setCell ⟨w.heap.size + 1, 3, none⟩ (.int .i64 0)).setCell ⟨w.heap.size + 1, 4, none⟩ (.int .i64 0)) = WE at *
  have r0 := E4.out.cell 0 (by simp)
  have r1 := E4.out.cell 1 (by simp)
  have r2 := E4.out.cell 2 (by simp)
  have r3 := E4.out.cell 3 (by simp)
  have r4 := E4.out.cell 4 (by simp)
  have r5 := E4.out.cell 5 (by simp)
  simp only [List.getElem_cons_zero, List.getElem_cons_succ] at r0 r1 r2 r3 r4 r5
  have s0 := E5.out.cell 0 (by simp)
  have s1 := E5.out.cell 1 (by simp)
  have s2 := E5.out.cell 2 (by simp)
  have s3 := E5.out.cell 3 (by simp)
  have s4 := E5.out.cell 4 (by simp)
  simp only [List.getElem_cons_zero, List.getElem_cons_succ] at s0 s1 s2 s3 s4
  exact bodyPost_ret (v := .tuple #[.agg #[.string ⟨#[]⟩, .bool false, .bool false, .slice none 0 0, .int .i64 0, .slice none 0 0], .agg #[.int .i64 7, .int .i64 0, .string ⟨#[]⟩, .int .i64 0, .int .i64 0]]) (by simp [results, Tryz.results73, go_sem, r0, r1, r2, r3, r4, r5, s0, s1, s2, s3, s4]) rfl ⟨_, rfl, ⟨_, _, rfl, ownsF_nil _ _ _ _ _, ownsF_nil _ _ _ _ _⟩, EB.out⟩
set_option maxRecDepth 100000 in
set_option maxHeartbeats 3200000 in
theorem specMake_one (b o c : Nat) (k : List UInt8) (r : List (List UInt8)) (w : World) (hR : RowAt w (.slice (some ⟨b, o, none⟩) (r.length + 1) c) ((k :: r).map strV)) (hz : ∀ s ∈ k :: r, s.length ≤ 1048576) (hc : r.length + 1 ≤ c) (hm : r.length + 1 ≤ maxLen) (h1 : c = 1) (hk : 0 ≤ kindI k) :
    Calls Tryz.prog 73 #[.slice (some ⟨b, o, none⟩) (r.length + 1) c] w fun e w' => GivesOPR (makeGo (newP k) r).1 (makeGo (newP k) r).2 w e w' := by
  have d0 := rowAt_cellS hR 0 (by simp)
  simp only [List.map_cons, List.getElem_cons_zero, strV, Nat.add_zero] at d0
  have hbw : b < w.heap.size := by
    obtain ⟨b', o', e, hlt, _⟩ := rowAt_cell hR 0 (by simp)
    injection e with e; injection e with e1 e2; subst e1; exact hlt
  have HNP := Lib.hid (fun W => specNewPart_own ⟨k.toArray⟩ W (by have := hz k (List.mem_cons_self ..); simpa [ByteArray.size] using this))
  simp only [GivesNPO, vNP] at HNP
  have HR := Lib.hid hR
  have HZ := Lib.hid hz
  have HM := Lib.hid hm
  clear hR hz hm
  rw [show decide (0 ≤ kindI (⟨k.toArray⟩ : ByteArray).data.toList) = true from decide_eq_true hk, show nmK (⟨k.toArray⟩ : ByteArray).data.toList = k from if_pos hk] at HNP
  subst h1
  obtain rfl : r = [] := List.eq_nil_of_length_eq_zero (by omega)
  simp only [List.length_nil, Nat.zero_add] at *
  rw [show makeGo (newP k) [] = (newP k, ⟨0, faceP (newP k), [], 0, 0⟩) from rfl]
  unfold GivesOPR vReply
  simp only
  generalize hp0 : newP k = p
  have HPK := Lib.hid hp0
  clear hp0
  generalize hfp : faceP p = fp
  have HFP := Lib.hid hfp
  clear hfp
  have BS := Lib.hid (bx_start2 w [.string ⟨#[]⟩, .bool false, .bool false, .slice none 0 0, .int .i64 0, .slice none 0 0] [.int .i64 0, .int .i64 0, .string ⟨#[]⟩, .int .i64 0, .int .i64 0] 103 105)
  have HD := Lib.hid d0
  clear d0
  have d0 := (BS.out.2.2.cell (p := ⟨b, o, none⟩) hbw).trans HD.out
  go_enter Tryz.func73, Tryz.ntmps73
  go_wp2_with fail
  refine (HNP.out _).mono ?_
  rintro e w1 ⟨a1, c1, rfl, ho, hb⟩
  have HB1 := Lib.hid ((belS BS.out.2.2 hb).alloc (belS BS.out.2.2 hb).size (.cells #[.string ⟨k.toArray⟩, .bool false, .bool false, .slice a1 0 c1, .int .i64 0, .slice none 0 0] 103))
  have h1s := hb.size
  simp at h1s
  have ST0 := Lib.hid (show MkSt w w1.heap.size p (w1.alloc (.cells #[.string ⟨k.toArray⟩, .bool false, .bool false, .slice a1 0 c1, .int .i64 0, .slice none 0 0] 103)) by rw [← HPK.out]; exact ⟨newP_small (HZ.out k (List.mem_cons_self ..)), rfl, ⟨_, Bx.new w1 [.string ⟨k.toArray⟩, .bool false, .bool false, .slice a1 0 c1, .int .i64 0, .slice none 0 0] 103, _, _, rfl, ownsF_alloc (ownsF_base ho (by simp)) _, ownsF_nil _ _ _ _ _⟩, (BS.out.1.below hb).alloc (.cells #[.string ⟨k.toArray⟩, .bool false, .bool false, .slice a1 0 c1, .int .i64 0, .slice none 0 0] 103), (BS.out.2.1.below hb).alloc (.cells #[.string ⟨k.toArray⟩, .bool false, .bool false, .slice a1 0 c1, .int .i64 0, .slice none 0 0] 103), HB1.out⟩)
  clear ho hb d0
  go_wp2_with fail
  generalize w1.alloc (.cells #[.string ⟨k.toArray⟩, .bool false, .bool false, .slice a1 0 c1, .int .i64 0, .slice none 0 0] 103) = wr at *
  have hst := ST0.out
  obtain ⟨hsm, hbare, ⟨cs, hq, hown⟩, hr2, hr3, hbw2⟩ := hst
  refine wp_loop_rounds 1 ?_
  rw [rounds_succ]
  obtain ⟨⟨a0, a1, a2, a3, a4⟩, l⟩ := p
  obtain rfl : a3 = [] := hbare
  obtain ⟨u3, u5, rfl, ho3, ho5⟩ := hown
  simp only at ho3 ho5 hq
  obtain ⟨ga, gc, rfl⟩ := slice_of ho3
  obtain ⟨ua, uc, rfl⟩ := slice_of ho5
  simp only [List.length_nil] at *
  have O3 := Lib.hid ho3
  have O5 := Lib.hid ho5
  have HSM := Lib.hid hsm
  have BQ := Lib.hid hq
  have B2 := Lib.hid hr2
  have B3 := Lib.hid hr3
  have HBr := Lib.hid hbw2
  have hlq := hq.lt
  have hls := hbw2.size
  clear hsm ho3 ho5 hq hr2 hr3 hbw2
  have HRP := Lib.hid (fun W (hb : Below wr.heap.size wr W) => (show rPart 0 W [.string ⟨a0.toArray⟩, .bool a1, .bool a2, .slice ga 0 gc, .int .i64 a4, .slice ua l.length uc] (⟨⟨a0, a1, a2, [], a4⟩, l⟩ : PartD) from goodPart.mono (oPart_r ⟨_, _, rfl, ownsF_below O3.out hb (Nat.le_refl _), ownsF_below O5.out hb (Nat.le_refl _)⟩ HSM.out) (Nat.zero_le _)))
  have HFO := Lib.hid (fun W (h : rPart 0 W [.string ⟨a0.toArray⟩, .bool a1, .bool a2, .slice ga 0 gc, .int .i64 a4, .slice ua l.length uc] (⟨⟨a0, a1, a2, [], a4⟩, l⟩ : PartD)) => (show Calls Tryz.prog 106 #[.agg #[.string ⟨a0.toArray⟩, .bool a1, .bool a2, .slice ga 0 gc, .int .i64 a4, .slice ua l.length uc]] W fun e w' => e = .returned (.int .i64 (faceP (⟨⟨a0, a1, a2, [], a4⟩, l⟩ : PartD))) ∧ Below W.heap.size W w' from specFaceOf_any (.agg #[.string ⟨a0.toArray⟩, .bool a1, .bool a2, .slice ga 0 gc, .int .i64 a4, .slice ua l.length uc]) (⟨⟨a0, a1, a2, [], a4⟩, l⟩ : PartD) W ⟨[.string ⟨a0.toArray⟩, .bool a1, .bool a2, .slice ga 0 gc, .int .i64 a4, .slice ua l.length uc], rfl, h⟩))
  rw [HFP.out] at HFO
  have BQd := Lib.hid (bx_dr BQ.out)
  have B2d := Lib.hid (bx_dr B2.out)
  have B3d := Lib.hid (bx_dr B3.out)
  have q0 := BQd.out.cell 0 (by simp)
  have q1 := BQd.out.cell 1 (by simp)
  have q2 := BQd.out.cell 2 (by simp)
  have q3 := BQd.out.cell 3 (by simp)
  have q4 := BQd.out.cell 4 (by simp)
  have q5 := BQd.out.cell 5 (by simp)
  simp only [List.getElem_cons_zero, List.getElem_cons_succ] at q0 q1 q2 q3 q4 q5
  go_wp2_with fail
  go_region_with (first
      | (go_at_call 106; (with_reducible refine (HFO.out _ (HRP.out _ (bel_dr (Below.refl _ _)))).mono ?_); rintro e w6 ⟨rfl, hb6⟩; have BQ6 := Lib.hid (BQd.out.below hb6); have B26 := Lib.hid (B2d.out.below hb6); have B36 := Lib.hid (B3d.out.below hb6); have q0' := BQ6.out.cell 0 (by simp); have q1' := BQ6.out.cell 1 (by simp); have q2' := BQ6.out.cell 2 (by simp); have q3' := BQ6.out.cell 3 (by simp); have q4' := BQ6.out.cell 4 (by simp); have q5' := BQ6.out.cell 5 (by simp); have r0 := B26.out.cell 0 (by simp); have z0 := B26.out.froz 0 (by simp); have r1 := B26.out.cell 1 (by simp); have z1 := B26.out.froz 1 (by simp); have r2 := B26.out.cell 2 (by simp); have z2 := B26.out.froz 2 (by simp); have r3 := B26.out.cell 3 (by simp); have z3 := B26.out.froz 3 (by simp); have r4 := B26.out.cell 4 (by simp); have z4 := B26.out.froz 4 (by simp); have r5 := B26.out.cell 5 (by simp); have z5 := B26.out.froz 5 (by simp); have s0 := B36.out.cell 0 (by simp); have y0 := B36.out.froz 0 (by simp); have s1 := B36.out.cell 1 (by simp); have y1 := B36.out.froz 1 (by simp); have s2 := B36.out.cell 2 (by simp); have y2 := B36.out.froz 2 (by simp); have s3 := B36.out.cell 3 (by simp); have y3 := B36.out.froz 3 (by simp); have s4 := B36.out.cell 4 (by simp); have y4 := B36.out.froz 4 (by simp); simp only [List.getElem_cons_zero, List.getElem_cons_succ] at q0' q1' q2' q3' q4' q5' r0 r1 r2 r3 r4 r5 s0 s1 s2 s3 s4))
  all_goals (try go_wp2_with fail)
  all_goals
    have HB6 := Lib.hid (belS (bel_dr HBr.out) hb6)
    have T3 := Lib.hid (ownsF_below (ownsF_drew O3.out) hb6 (Nat.le_refl _))
    have T5 := Lib.hid (ownsF_below (ownsF_drew O5.out) hb6 (Nat.le_refl _))
    refine bodyPost_ret (v := .tuple #[.agg #[.string ⟨a0.toArray⟩, .bool a1, .bool a2, .slice ga 0 gc, .int .i64 a4, .slice ua l.length uc], .agg #[.int .i64 0, .int .i64 fp, .string ⟨#[]⟩, .int .i64 0, .int .i64 0]]) (by simp [results, Tryz.results73, go_sem, cell_set_at, cell_set_ne, r0, r1, r2, r3, r4, r5, s0, s1, s2, s3, s4]) rfl ⟨_, rfl, ⟨_, _, rfl, ?_, ?_⟩, ?_⟩
    · refine ownsF_base (B := ((w.heap.size + 1) + 1)) ?_ (by omega)
      repeat (first | with_reducible exact T3.out | with_reducible refine ownsF_set ?_ (by simp; try omega) | with_reducible refine ownsF_drew ?_)
    · refine ownsF_base (B := ((w.heap.size + 1) + 1)) ?_ (by omega)
      repeat (first | with_reducible exact T5.out | with_reducible refine ownsF_set ?_ (by simp; try omega) | with_reducible refine ownsF_drew ?_)
    · repeat (first | with_reducible exact HB6.out | with_reducible refine Below.setCell ?_ (by simp; try omega) _ | with_reducible refine Below.drew ?_)
set_option maxRecDepth 100000 in
set_option maxHeartbeats 3200000 in
theorem specMake_go (b o c : Nat) (k : List UInt8) (r : List (List UInt8)) (w : World) (hR : RowAt w (.slice (some ⟨b, o, none⟩) (r.length + 1) c) ((k :: r).map strV)) (hz : ∀ s ∈ k :: r, s.length ≤ 1048576) (hc : r.length + 1 ≤ c) (hm : r.length + 1 ≤ maxLen) (h1 : ¬ (c : Int) = 1) (hk : 0 ≤ kindI k) :
    Calls Tryz.prog 73 #[.slice (some ⟨b, o, none⟩) (r.length + 1) c] w fun e w' => GivesOPR (makeGo (newP k) r).1 (makeGo (newP k) r).2 w e w' := by
  have d0 := rowAt_cellS hR 0 (by simp)
  simp only [List.map_cons, List.getElem_cons_zero, strV, Nat.add_zero] at d0
  have hbw : b < w.heap.size := by
    obtain ⟨b', o', e, hlt, _⟩ := rowAt_cell hR 0 (by simp)
    injection e with e; injection e with e1 e2; subst e1; exact hlt
  have HNP := Lib.hid (fun W => specNewPart_own ⟨k.toArray⟩ W (by have := hz k (List.mem_cons_self ..); simpa [ByteArray.size] using this))
  simp only [GivesNPO, vNP] at HNP
  have HR := Lib.hid hR
  have HZ := Lib.hid hz
  have HM := Lib.hid hm
  clear hR hz hm
  rw [show decide (0 ≤ kindI (⟨k.toArray⟩ : ByteArray).data.toList) = true from decide_eq_true hk, show nmK (⟨k.toArray⟩ : ByteArray).data.toList = k from if_pos hk] at HNP
  generalize hp0 : newP k = p0
  have HPK := Lib.hid hp0
  clear hp0
  generalize hres : makeGo p0 r = res
  obtain ⟨rp, t0, fp, t2, t3, t4⟩ := res
  have HRES := Lib.hid hres.symm
  clear hres
  unfold GivesOPR vReply
  simp only
  have BS := Lib.hid (bx_start2 w [.string ⟨#[]⟩, .bool false, .bool false, .slice none 0 0, .int .i64 0, .slice none 0 0] [.int .i64 0, .int .i64 0, .string ⟨#[]⟩, .int .i64 0, .int .i64 0] 103 105)
  have HD := Lib.hid d0
  clear d0
  have d0 := (BS.out.2.2.cell (p := ⟨b, o, none⟩) hbw).trans HD.out
  go_enter Tryz.func73, Tryz.ntmps73
  go_wp2_with fail
  refine (HNP.out _).mono ?_
  rintro e w1 ⟨a1, c1, rfl, ho, hb⟩
  have HB1 := Lib.hid ((belS BS.out.2.2 hb).alloc (belS BS.out.2.2 hb).size (.cells #[.string ⟨k.toArray⟩, .bool false, .bool false, .slice a1 0 c1, .int .i64 0, .slice none 0 0] 103))
  have h1s := hb.size
  simp at h1s
  have ST0 := Lib.hid (show MkSt w w1.heap.size p0 (w1.alloc (.cells #[.string ⟨k.toArray⟩, .bool false, .bool false, .slice a1 0 c1, .int .i64 0, .slice none 0 0] 103)) by rw [← HPK.out]; exact ⟨newP_small (HZ.out k (List.mem_cons_self ..)), rfl, ⟨_, Bx.new w1 [.string ⟨k.toArray⟩, .bool false, .bool false, .slice a1 0 c1, .int .i64 0, .slice none 0 0] 103, _, _, rfl, ownsF_alloc (ownsF_base ho (by simp)) _, ownsF_nil _ _ _ _ _⟩, (BS.out.1.below hb).alloc (.cells #[.string ⟨k.toArray⟩, .bool false, .bool false, .slice a1 0 c1, .int .i64 0, .slice none 0 0] 103), (BS.out.2.1.below hb).alloc (.cells #[.string ⟨k.toArray⟩, .bool false, .bool false, .slice a1 0 c1, .int .i64 0, .slice none 0 0] 103), HB1.out⟩)
  clear ho hb d0
  go_wp2_with fail
  have HRT := Lib.hid (fun W (hb : Below w.heap.size w W) => RowAt.below HR.out hb (Nat.le_refl _))
  generalize w1.alloc (.cells #[.string ⟨k.toArray⟩, .bool false, .bool false, .slice a1 0 c1, .int .i64 0, .slice none 0 0] 103) = w2 at *
  go_loopw [7, 8, 9, 29] (fun _ _ _ i wr => ∃ j : Nat, ∃ p : PartD, j ≤ r.length ∧ i = .int .i64 j ∧ (rp, (⟨t0, fp, t2, t3, t4⟩ : ReplyD)) = makeGo p (r.drop j) ∧ MkSt w w1.heap.size p wr) (fun _ _ _ i _ => r.length - (intOf i).toNat)
  case atStart => exact ⟨0, p0, Nat.zero_le _, rfl, HRES.out, ST0.out⟩
  case round =>
    obtain ⟨j, p, hj, rfl, hgo, hst⟩ := hrel
    obtain ⟨hsm, hbare, ⟨cs, hq, hown⟩, hr2, hr3, hbw2⟩ := hst
    by_cases hlt : j < r.length
    · have d1 := rowAt_cellS (HRT.out _ hbw2) (j + 1) (by simp; omega)
      simp only [List.map_cons, List.getElem_cons_succ, List.getElem_map, strV] at d1
      rw [show o + (j + 1) = o + 1 + j by omega] at d1
      have hzs := HZ.out (r[j]) (List.mem_cons_of_mem _ (List.getElem_mem hlt))
      have hdr : r.drop j = r[j] :: r.drop (j + 1) := List.drop_eq_getElem_cons hlt
      rw [hdr] at hgo
      clear hdr
      generalize r[j] = s at *
      have HW := Lib.hid (fun cs W (h : rPart 0 W cs p) => (show Calls Tryz.prog 105 #[.agg cs.toArray, .string ⟨s.toArray⟩] W fun e w' => GivesOPR (wrapP p s) (wrapR p s) W e w' from specWrap_any (.agg cs.toArray) p ⟨s.toArray⟩ W ⟨cs, rfl, h⟩ hsm (by rw [hbare]; intro c hc; cases hc) (by simpa [ByteArray.size] using hzs)))
      have HSM2 := Lib.hid (wrapP_small hsm s)
      have hb2 : (wrapP p s).fCore.fCells = [] := by rw [wrapP_core]; exact hbare
      have hyes : wrapI p s = 0 → (rp, (⟨t0, fp, t2, t3, t4⟩ : ReplyD)) = makeGo (wrapP p s) (r.drop (j + 1)) := fun h => hgo.trans (makeGo_on h)
      have hno : ¬ wrapI p s = 0 → (rp, (⟨t0, fp, t2, t3, t4⟩ : ReplyD)) = (zeroP, wrapR p s) := fun h => hgo.trans (makeGo_stop h)
      obtain ⟨m1, m3, m4, hrr⟩ : ∃ m1 m3 m4, wrapR p s = ⟨wrapI p s, m1, [], m3, m4⟩ := ⟨_, _, _, rfl⟩
      simp only [hrr] at HW hno
      unfold GivesOPR vReply at HW
      simp only at HW
      clear hgo hrr
      generalize wrapI p s = m0 at *
      generalize wrapP p s = p2 at *
      obtain ⟨⟨a0, a1, a2, a3, a4⟩, l⟩ := p
      obtain rfl : a3 = [] := hbare
      obtain ⟨u3, u5, rfl, ho3, ho5⟩ := hown
      simp only at ho3 ho5 hq
      obtain ⟨ga, gc, rfl⟩ := slice_of ho3
      obtain ⟨ua, uc, rfl⟩ := slice_of ho5
      simp only [List.length_nil] at *
      have O3 := Lib.hid ho3
      have O5 := Lib.hid ho5
      have HSM := Lib.hid hsm
      have BQ := Lib.hid hq
      have B2 := Lib.hid hr2
      have B3 := Lib.hid hr3
      have HBr := Lib.hid hbw2
      have hlq := hq.lt
      have hls := hbw2.size
      clear hsm ho3 ho5 hq hr2 hr3 hbw2
      have HRP := Lib.hid (goodPart.mono (oPart_r ⟨_, _, rfl, O3.out, O5.out⟩ HSM.out) (Nat.zero_le _))
      have HYES := Lib.hid hyes
      have HNO := Lib.hid hno
      have hjr : (j : Int) < (r.length : Int) := by omega
      have hml := HM.out
      unfold maxLen at hml
      clear hyes hno
      have q0 := BQ.out.cell 0 (by simp)
      have q1 := BQ.out.cell 1 (by simp)
      have q2 := BQ.out.cell 2 (by simp)
      have q3 := BQ.out.cell 3 (by simp)
      have q4 := BQ.out.cell 4 (by simp)
      have q5 := BQ.out.cell 5 (by simp)
      simp only [List.getElem_cons_zero, List.getElem_cons_succ] at q0 q1 q2 q3 q4 q5
      go_wp2_with fail
      refine (HW.out _ _ HRP.out).mono ?_
      rintro e w4 ⟨_, rfl, ho, hb⟩
      obtain ⟨⟨b0, b1, b2, b3, b4⟩, l2⟩ := p2
      obtain rfl : b3 = [] := hb2
      obtain ⟨u3, u5, rfl, ho3, ho5⟩ := ho
      simp only at ho3 ho5
      obtain ⟨ha, hc2, rfl⟩ := slice_of ho3
      obtain ⟨va, vc, rfl⟩ := slice_of ho5
      simp only [List.length_nil] at *
      have N3 := Lib.hid ho3
      have N5 := Lib.hid ho5
      have HB4 := Lib.hid (belS HBr.out hb)
      have BQ4 := Lib.hid (BQ.out.below hb)
      have B24 := Lib.hid (B2.out.below hb)
      have B34 := Lib.hid (B3.out.below hb)
      have hs4 := hb.size
      have hq4 := BQ4.out.lt
      clear hb ho3 ho5 q0 q1 q2 q3 q4 q5 BQ B2 B3
      by_cases hcd : m0 = 0
      · subst hcd
        have HG := Lib.hid (HYES.out rfl)
        clear HNO HYES
        have q0 := BQ4.out.cell 0 (by simp)
        have q1 := BQ4.out.cell 1 (by simp)
        have q2 := BQ4.out.cell 2 (by simp)
        have q3 := BQ4.out.cell 3 (by simp)
        have q4 := BQ4.out.cell 4 (by simp)
        have q5 := BQ4.out.cell 5 (by simp)
        simp only [List.getElem_cons_zero, List.getElem_cons_succ] at q0 q1 q2 q3 q4 q5
        have p0 := BQ4.out.froz 0 (by simp)
        have p1 := BQ4.out.froz 1 (by simp)
        have p2 := BQ4.out.froz 2 (by simp)
        have p3 := BQ4.out.froz 3 (by simp)
        have p4 := BQ4.out.froz 4 (by simp)
        have p5 := BQ4.out.froz 5 (by simp)
        go_wp2_with fail
        refine ⟨⟨j + 1, ⟨⟨b0, b1, b2, [], b4⟩, l2⟩, by omega, by go_num, HG.out, ?_⟩, by simp [intOf]; omega⟩
        exact ⟨HSM2.out, rfl, ⟨_, ((BQ4.out.put6 (.string ⟨b0.toArray⟩) (.bool b1) (.bool b2) (.slice ha 0 hc2) (.int .i64 b4) (.slice va l2.length vc)).alloc _).alloc _, _, _, rfl, ownsF_alloc (ownsF_alloc (ownsF_base (ownsF_put6 N3.out w1.heap.size hlq (.string ⟨b0.toArray⟩) (.bool b1) (.bool b2) (.slice ha 0 hc2) (.int .i64 b4) (.slice va l2.length vc)) (by omega)) _) _, ownsF_alloc (ownsF_alloc (ownsF_base (ownsF_put6 N5.out w1.heap.size hlq (.string ⟨b0.toArray⟩) (.bool b1) (.bool b2) (.slice ha 0 hc2) (.int .i64 b4) (.slice va l2.length vc)) (by omega)) _) _⟩,
          ((B24.out.put6o (c := w1.heap.size) (by omega) (.string ⟨b0.toArray⟩) (.bool b1) (.bool b2) (.slice ha 0 hc2) (.int .i64 b4) (.slice va l2.length vc)).alloc _).alloc _, ((B34.out.put6o (c := w1.heap.size) (by omega) (.string ⟨b0.toArray⟩) (.bool b1) (.bool b2) (.slice ha 0 hc2) (.int .i64 b4) (.slice va l2.length vc)).alloc _).alloc _,
          belS (belS (below_put6 HB4.out w1.heap.size (by omega) (.string ⟨b0.toArray⟩) (.bool b1) (.bool b2) (.slice ha 0 hc2) (.int .i64 b4) (.slice va l2.length vc)) (bx_box _ _)) (bx_box _ _)⟩
      · have HG := Lib.hid (HNO.out hcd)
        have hg := HG.out
        simp only [Prod.mk.injEq, ReplyD.mk.injEq] at hg
        obtain ⟨g1, g2, g3, g4, g5, g6⟩ := hg
        subst g1
        subst g4
        have g2 := g2.symm
        have g3 := g3.symm
        have g5 := g5.symm
        have g6 := g6.symm
        subst g2
        subst g3
        subst g5
        subst g6
        clear HNO HYES HG
        have B25 := Lib.hid ((B24.out.alloc (.cells #[.string ⟨b0.toArray⟩, .bool b1, .bool b2, .slice ha 0 hc2, .int .i64 b4, .slice va l2.length vc] 103)).alloc (.cells #[.int .i64 m0, .int .i64 m1, .string ⟨#[]⟩, .int .i64 m3, .int .i64 m4] 105))
        have B35 := Lib.hid ((B34.out.alloc (.cells #[.string ⟨b0.toArray⟩, .bool b1, .bool b2, .slice ha 0 hc2, .int .i64 b4, .slice va l2.length vc] 103)).alloc (.cells #[.int .i64 m0, .int .i64 m1, .string ⟨#[]⟩, .int .i64 m3, .int .i64 m4] 105))
        have r0 := B25.out.cell 0 (by simp)
        have r1 := B25.out.cell 1 (by simp)
        have r2 := B25.out.cell 2 (by simp)
        have r3 := B25.out.cell 3 (by simp)
        have r4 := B25.out.cell 4 (by simp)
        have r5 := B25.out.cell 5 (by simp)
        simp only [List.getElem_cons_zero, List.getElem_cons_succ] at r0 r1 r2 r3 r4 r5
        have z0 := B25.out.froz 0 (by simp)
        have z1 := B25.out.froz 1 (by simp)
        have z2 := B25.out.froz 2 (by simp)
        have z3 := B25.out.froz 3 (by simp)
        have z4 := B25.out.froz 4 (by simp)
        have z5 := B25.out.froz 5 (by simp)
        have s0 := B35.out.cell 0 (by simp)
        have s1 := B35.out.cell 1 (by simp)
        have s2 := B35.out.cell 2 (by simp)
        have s3 := B35.out.cell 3 (by simp)
        have s4 := B35.out.cell 4 (by simp)
        simp only [List.getElem_cons_zero, List.getElem_cons_succ] at s0 s1 s2 s3 s4
        have y0 := B35.out.froz 0 (by simp)
        have y1 := B35.out.froz 1 (by simp)
        have y2 := B35.out.froz 2 (by simp)
        have y3 := B35.out.froz 3 (by simp)
        have y4 := B35.out.froz 4 (by simp)
        go_wp2_with fail
        go_region
        all_goals (try go_wp2_with fail)
        all_goals
          refine bodyPost_ret (v := .tuple #[.agg #[.string ⟨#[]⟩, .bool false, .bool false, .slice none 0 0, .int .i64 0, .slice none 0 0], .agg #[.int .i64 m0, .int .i64 m1, .string ⟨#[]⟩, .int .i64 m3, .int .i64 m4]]) (by simp [results, Tryz.results73, go_sem, cell_set_at, cell_set_ne, r0, r1, r2, r3, r4, r5, s0, s1, s2, s3, s4]) rfl ⟨_, rfl, ⟨_, _, rfl, ownsF_nil _ _ _ _ _, ownsF_nil _ _ _ _ _⟩, ?_⟩
          repeat (first | with_reducible exact HB4.out | with_reducible refine Below.setCell ?_ (by simp; try omega) _ | with_reducible refine Below.alloc ?_ (by first | omega | (simp; omega)) _ | with_reducible refine Below.drew ?_)
    · rw [show r.drop j = [] from List.drop_eq_nil_of_le (by omega)] at hgo
      replace hgo : (rp, (⟨t0, fp, t2, t3, t4⟩ : ReplyD)) = (p, ⟨0, faceP p, [], 0, 0⟩) := hgo
      simp only [Prod.mk.injEq, ReplyD.mk.injEq] at hgo
      obtain ⟨g1, g2, g3, g4, g5, g6⟩ := hgo
      have g1 := g1.symm
      subst g1
      subst g2
      subst g4
      subst g5
      subst g6
      have HFP := Lib.hid g3.symm
      clear g3
      have hjr : ¬ (j : Int) < (r.length : Int) := by omega
      obtain ⟨⟨a0, a1, a2, a3, a4⟩, l⟩ := p
      obtain rfl : a3 = [] := hbare
      obtain ⟨u3, u5, rfl, ho3, ho5⟩ := hown
      simp only at ho3 ho5 hq
      obtain ⟨ga, gc, rfl⟩ := slice_of ho3
      obtain ⟨ua, uc, rfl⟩ := slice_of ho5
      simp only [List.length_nil] at *
      have O3 := Lib.hid ho3
      have O5 := Lib.hid ho5
      have HSM := Lib.hid hsm
      have BQ := Lib.hid hq
      have B2 := Lib.hid hr2
      have B3 := Lib.hid hr3
      have HBr := Lib.hid hbw2
      have hlq := hq.lt
      have hls := hbw2.size
      clear hsm ho3 ho5 hq hr2 hr3 hbw2
      have HRP := Lib.hid (fun W (hb : Below wr.heap.size wr W) => (show rPart 0 W [.string ⟨a0.toArray⟩, .bool a1, .bool a2, .slice ga 0 gc, .int .i64 a4, .slice ua l.length uc] (⟨⟨a0, a1, a2, [], a4⟩, l⟩ : PartD) from goodPart.mono (oPart_r ⟨_, _, rfl, ownsF_below O3.out hb (Nat.le_refl _), ownsF_below O5.out hb (Nat.le_refl _)⟩ HSM.out) (Nat.zero_le _)))
      have HFO := Lib.hid (fun W (h : rPart 0 W [.string ⟨a0.toArray⟩, .bool a1, .bool a2, .slice ga 0 gc, .int .i64 a4, .slice ua l.length uc] (⟨⟨a0, a1, a2, [], a4⟩, l⟩ : PartD)) => (show Calls Tryz.prog 106 #[.agg #[.string ⟨a0.toArray⟩, .bool a1, .bool a2, .slice ga 0 gc, .int .i64 a4, .slice ua l.length uc]] W fun e w' => e = .returned (.int .i64 (faceP (⟨⟨a0, a1, a2, [], a4⟩, l⟩ : PartD))) ∧ Below W.heap.size W w' from specFaceOf_any (.agg #[.string ⟨a0.toArray⟩, .bool a1, .bool a2, .slice ga 0 gc, .int .i64 a4, .slice ua l.length uc]) (⟨⟨a0, a1, a2, [], a4⟩, l⟩ : PartD) W ⟨[.string ⟨a0.toArray⟩, .bool a1, .bool a2, .slice ga 0 gc, .int .i64 a4, .slice ua l.length uc], rfl, h⟩))
      rw [HFP.out] at HFO
      have BQd := Lib.hid (bx_dr BQ.out)
      have B2d := Lib.hid (bx_dr B2.out)
      have B3d := Lib.hid (bx_dr B3.out)
      have q0 := BQd.out.cell 0 (by simp)
      have q1 := BQd.out.cell 1 (by simp)
      have q2 := BQd.out.cell 2 (by simp)
      have q3 := BQd.out.cell 3 (by simp)
      have q4 := BQd.out.cell 4 (by simp)
      have q5 := BQd.out.cell 5 (by simp)
      simp only [List.getElem_cons_zero, List.getElem_cons_succ] at q0 q1 q2 q3 q4 q5
      go_wp2_with fail
      go_region_with (first
          | (go_at_call 106; (with_reducible refine (HFO.out _ (HRP.out _ (bel_dr (Below.refl _ _)))).mono ?_); rintro e w6 ⟨rfl, hb6⟩; have BQ6 := Lib.hid (BQd.out.below hb6); have B26 := Lib.hid (B2d.out.below hb6); have B36 := Lib.hid (B3d.out.below hb6); have q0' := BQ6.out.cell 0 (by simp); have q1' := BQ6.out.cell 1 (by simp); have q2' := BQ6.out.cell 2 (by simp); have q3' := BQ6.out.cell 3 (by simp); have q4' := BQ6.out.cell 4 (by simp); have q5' := BQ6.out.cell 5 (by simp); have r0 := B26.out.cell 0 (by simp); have z0 := B26.out.froz 0 (by simp); have r1 := B26.out.cell 1 (by simp); have z1 := B26.out.froz 1 (by simp); have r2 := B26.out.cell 2 (by simp); have z2 := B26.out.froz 2 (by simp); have r3 := B26.out.cell 3 (by simp); have z3 := B26.out.froz 3 (by simp); have r4 := B26.out.cell 4 (by simp); have z4 := B26.out.froz 4 (by simp); have r5 := B26.out.cell 5 (by simp); have z5 := B26.out.froz 5 (by simp); have s0 := B36.out.cell 0 (by simp); have y0 := B36.out.froz 0 (by simp); have s1 := B36.out.cell 1 (by simp); have y1 := B36.out.froz 1 (by simp); have s2 := B36.out.cell 2 (by simp); have y2 := B36.out.froz 2 (by simp); have s3 := B36.out.cell 3 (by simp); have y3 := B36.out.froz 3 (by simp); have s4 := B36.out.cell 4 (by simp); have y4 := B36.out.froz 4 (by simp); simp only [List.getElem_cons_zero, List.getElem_cons_succ] at q0' q1' q2' q3' q4' q5' r0 r1 r2 r3 r4 r5 s0 s1 s2 s3 s4))
      all_goals (try go_wp2_with fail)
      all_goals
        have HB6 := Lib.hid (belS (bel_dr HBr.out) hb6)
        have T3 := Lib.hid (ownsF_below (ownsF_drew O3.out) hb6 (Nat.le_refl _))
        have T5 := Lib.hid (ownsF_below (ownsF_drew O5.out) hb6 (Nat.le_refl _))
        refine bodyPost_ret (v := .tuple #[.agg #[.string ⟨a0.toArray⟩, .bool a1, .bool a2, .slice ga 0 gc, .int .i64 a4, .slice ua l.length uc], .agg #[.int .i64 0, .int .i64 fp, .string ⟨#[]⟩, .int .i64 0, .int .i64 0]]) (by simp [results, Tryz.results73, go_sem, cell_set_at, cell_set_ne, r0, r1, r2, r3, r4, r5, s0, s1, s2, s3, s4]) rfl ⟨_, rfl, ⟨_, _, rfl, ?_, ?_⟩, ?_⟩
        · refine ownsF_base (B := ((w.heap.size + 1) + 1)) ?_ (by omega)
          repeat (first | with_reducible exact T3.out | with_reducible refine ownsF_set ?_ (by simp; try omega) | with_reducible refine ownsF_drew ?_)
        · refine ownsF_base (B := ((w.heap.size + 1) + 1)) ?_ (by omega)
          repeat (first | with_reducible exact T5.out | with_reducible refine ownsF_set ?_ (by simp; try omega) | with_reducible refine ownsF_drew ?_)
        · repeat (first | with_reducible exact HB6.out | with_reducible refine Below.setCell ?_ (by simp; try omega) _ | with_reducible refine Below.drew ?_)
theorem specMakePart_any (v : Value) (x : List (List UInt8)) (w : World) (hR : RowAt w v (x.map strV)) (hz : ∀ s ∈ x, s.length ≤ 1048576) :
    Calls Tryz.prog 73 #[v] w fun e w' => GivesOPR (makePR x).1 (makePR x).2 w e w' := by
  obtain ⟨a, c, rfl, hl, hcap⟩ := rowAt_cap hR
  cases x with
  | nil => exact specMake_nil a c w
  | cons k r =>
    obtain ⟨b, o, rfl, hbw, _⟩ := rowAt_cell hR 0 (by simp)
    simp only [List.length_map, List.length_cons] at hR hl hcap ⊢
    by_cases hk : 0 ≤ kindI k
    · rw [show makePR (k :: r) = makeGo (newP k) r from if_pos hk]
      by_cases h1 : c = 1
      · exact specMake_one b o c k r w hR hz hcap hl h1 hk
      · exact specMake_go b o c k r w hR hz hcap hl (by omega) hk
    · rw [show makePR (k :: r) = (zeroP, ⟨7, 0, [], 0, 0⟩) from if_neg hk]
      exact specMake_bad b o c k r w hR hz hcap hl hk
set_option maxRecDepth 100000 in
set_option maxHeartbeats 1600000 in
theorem specRecipeFace_any (v : Value) (x : List (List UInt8)) (w : World) (hR : RowAt w v (x.map strV)) (hz : ∀ s ∈ x, s.length ≤ 1048576) :
    Calls Tryz.prog 35 #[v] w fun e w' => e = .returned (.tuple #[.int .i64 (recI x), .bool (recB x)]) ∧ Below w.heap.size w w' := by
  have HMK := Lib.hid (specMakePart_any v x w hR hz)
  have HSM := Lib.hid (makePR_small hz)
  have HV := Lib.hid (@makePR_val x)
  unfold recI recB
  generalize makePR x = res at *
  obtain ⟨⟨⟨a0, a1, a2, a3, a4⟩, l⟩, m0, m1, m2, m3, m4⟩ := res
  unfold GivesOPR vReply at HMK
  simp only at HMK HSM ⊢
  have HFO := Lib.hid (fun cs W (h : rPart 0 W cs ⟨⟨a0, a1, a2, a3, a4⟩, l⟩) => specFaceOf_any (.agg cs.toArray) ⟨⟨a0, a1, a2, a3, a4⟩, l⟩ W ⟨cs, rfl, h⟩)
  generalize hfp : faceP ⟨⟨a0, a1, a2, a3, a4⟩, l⟩ = fp at *
  clear hfp hR hz
  by_cases hc : m0 = 0
  · subst hc
    have hv : m1 = fp := HV.out rfl
    subst hv
    simp only [if_true, decide_true]
    clear HV
    go_enter Tryz.func35, Tryz.ntmps35
    go_wp2_with fail
    refine HMK.out.mono ?_
    rintro e w1 ⟨_, rfl, ⟨u3, u5, rfl, ho3, ho5⟩, hb⟩
    simp only at ho3 ho5
    obtain ⟨ga, gc, rfl⟩ := slice_of ho3
    obtain ⟨ua, uc, rfl⟩ := slice_of ho5
    have HB1 := Lib.hid (belS (belS hb (bx_box w1 (.cells #[.string ⟨a0.toArray⟩, .bool a1, .bool a2, .slice ga a3.length gc, .int .i64 a4, .slice ua l.length uc] 103))) (bx_box _ (.cells #[.int .i64 0, .int .i64 m1, .string ⟨m2.toArray⟩, .int .i64 m3, .int .i64 m4] 105)))
    have O3 := Lib.hid (ownsF_alloc (ownsF_alloc ho3 (.cells #[.string ⟨a0.toArray⟩, .bool a1, .bool a2, .slice ga a3.length gc, .int .i64 a4, .slice ua l.length uc] 103)) (.cells #[.int .i64 0, .int .i64 m1, .string ⟨m2.toArray⟩, .int .i64 m3, .int .i64 m4] 105))
    have O5 := Lib.hid (ownsF_alloc (ownsF_alloc ho5 (.cells #[.string ⟨a0.toArray⟩, .bool a1, .bool a2, .slice ga a3.length gc, .int .i64 a4, .slice ua l.length uc] 103)) (.cells #[.int .i64 0, .int .i64 m1, .string ⟨m2.toArray⟩, .int .i64 m3, .int .i64 m4] 105))
    have HRP := Lib.hid (show rPart 0 ((w1.alloc (.cells #[.string ⟨a0.toArray⟩, .bool a1, .bool a2, .slice ga a3.length gc, .int .i64 a4, .slice ua l.length uc] 103)).alloc (.cells #[.int .i64 0, .int .i64 m1, .string ⟨m2.toArray⟩, .int .i64 m3, .int .i64 m4] 105)) [.string ⟨a0.toArray⟩, .bool a1, .bool a2, .slice ga a3.length gc, .int .i64 a4, .slice ua l.length uc] ⟨⟨a0, a1, a2, a3, a4⟩, l⟩ from goodPart.mono (oPart_r ⟨_, _, rfl, O3.out, O5.out⟩ HSM.out) (Nat.zero_le _))
    clear ho3 ho5 hb
    go_wp2_with fail
    exact bodyPost_ret (v := .tuple #[.int .i64 m1, .bool true]) (by simp [results, Tryz.results35, go_sem]) rfl ⟨rfl, HB1.out⟩
  · simp only [if_neg hc, decide_eq_false hc]
    clear HV
    go_enter Tryz.func35, Tryz.ntmps35
    go_wp2_with fail
    refine HMK.out.mono ?_
    rintro e w1 ⟨_, rfl, ⟨u3, u5, rfl, ho3, ho5⟩, hb⟩
    simp only at ho3 ho5
    obtain ⟨ga, gc, rfl⟩ := slice_of ho3
    obtain ⟨ua, uc, rfl⟩ := slice_of ho5
    have HB1 := Lib.hid (belS (belS hb (bx_box w1 (.cells #[.string ⟨a0.toArray⟩, .bool a1, .bool a2, .slice ga a3.length gc, .int .i64 a4, .slice ua l.length uc] 103))) (bx_box _ (.cells #[.int .i64 m0, .int .i64 m1, .string ⟨m2.toArray⟩, .int .i64 m3, .int .i64 m4] 105)))
    clear ho3 ho5 hb
    go_wp2_with fail
    exact bodyPost_ret (v := .tuple #[.int .i64 0, .bool false]) (by simp [results, Tryz.results35, go_sem]) rfl ⟨rfl, HB1.out⟩
end Go.Proofs.YtlkpinlkbikokabGreat
/- Contracts of chapter 6: IsEntry, the model's. Written by gen/ch6e.py. -/
namespace Go.Proofs.YtlkpinlkbikokabGreat
set_option linter.unusedVariables false
set_option linter.unusedSimpArgs false
open Go.RowKit
set_option maxRecDepth 100000 in
set_option maxHeartbeats 3200000 in
theorem specIsEntry_any (v : Value) (x : EntryD) (w : World) (hx : ValAt rEntry 0 w v x) (hn : x.fName.length ≤ maxLen) (hk : ∀ d ∈ x.fNeeds, d.fFrom.length ≤ maxLen) (hr : ∀ s ∈ x.fRecipe, s.length ≤ 1048576) :
    Calls Tryz.prog 36 #[v] w fun e w' => e = .returned (.bool (entryB x)) ∧ Below w.heap.size w w' := by
  have HRF := Lib.hid (fun v W (h : RowAt W v (x.fRecipe.map strV)) => specRecipeFace_any v x.fRecipe W h hr)
  have HNM := Lib.hid (fun W => specIsName_any ⟨x.fName.toArray⟩ W (by simpa [ByteArray.size] using hn))
  have HVR := Lib.hid (fun W => specIsVer_any x.fVersion W)
  unfold entryB headB
  generalize recI x.fRecipe = fi at *
  generalize recB x.fRecipe = fb at *
  obtain ⟨_, rfl, hx⟩ := hx
  have HX := Lib.hid (fun W (hb : Below w.heap.size w W) => goodEntry.keep hx (kept_below hb (Nat.le_refl _)))
  obtain ⟨a0, a1, ⟨a2, a3⟩, l⟩ := x
  obtain ⟨v1, v4, rfl, h1, h4⟩ := hx
  simp only at h1 h4 hk hn hr
  obtain ⟨ra, rc, rfl, _⟩ := sliceAt_len h1
  obtain ⟨sa, sc, rfl, hl⟩ := sliceAt_len h4
  have H1 := Lib.hid h1
  have H4 := Lib.hid h4
  have HK := Lib.hid hk
  unfold maxLen at hl
  have BS := Lib.hid (bx_start1 w [.string ⟨a0.toArray⟩, .slice ra a1.length rc, .int .i64 a2, .int .i64 a3, .slice sa l.length sc] 36)
  simp only [List.toList_toArray, vVersion] at *
  generalize nameB a0 = nb at *
  generalize verB ⟨a2, a3⟩ = vb at *
  have BX0 := Lib.hid BS.out.1
  have HB0 := Lib.hid BS.out.2
  clear h1 h4 hk hn hr
  cases nb
  · change Calls Tryz.prog 36 _ w (fun e w' => e = .returned (.bool false) ∧ Below w.heap.size w w')
    go_enter Tryz.func36, Tryz.ntmps36
    go_wp2_with fail
    refine (HRF.out _ _ (row_of_slice (SliceAt.below H1.out good_str HB0.out (Nat.le_refl _)))).mono ?_
    rintro e w1 ⟨rfl, hb⟩
    have HB1 := Lib.hid (belS HB0.out hb)
    have BX1 := Lib.hid (BX0.out.below hb)
    clear hb
    have y0 := BX1.out.cell 0 (by simp)
    have y1 := BX1.out.cell 1 (by simp)
    have y2 := BX1.out.cell 2 (by simp)
    have y3 := BX1.out.cell 3 (by simp)
    have y4 := BX1.out.cell 4 (by simp)
    simp only [List.getElem_cons_zero, List.getElem_cons_succ] at y0 y1 y2 y3 y4
    go_wp2_with (first | (go_at_call 67; (with_reducible refine (HNM.out _).mono ?_); rintro e w' ⟨rfl, rfl⟩))
    go_ret
    exact ⟨rfl, HB1.out⟩
  cases fb
  · rw [Bool.and_false]
    change Calls Tryz.prog 36 _ w (fun e w' => e = .returned (.bool false) ∧ Below w.heap.size w w')
    go_enter Tryz.func36, Tryz.ntmps36
    go_wp2_with fail
    refine (HRF.out _ _ (row_of_slice (SliceAt.below H1.out good_str HB0.out (Nat.le_refl _)))).mono ?_
    rintro e w1 ⟨rfl, hb⟩
    have HB1 := Lib.hid (belS HB0.out hb)
    have BX1 := Lib.hid (BX0.out.below hb)
    clear hb
    have y0 := BX1.out.cell 0 (by simp)
    have y1 := BX1.out.cell 1 (by simp)
    have y2 := BX1.out.cell 2 (by simp)
    have y3 := BX1.out.cell 3 (by simp)
    have y4 := BX1.out.cell 4 (by simp)
    simp only [List.getElem_cons_zero, List.getElem_cons_succ] at y0 y1 y2 y3 y4
    go_wp2_with (first | (go_at_call 67; (with_reducible refine (HNM.out _).mono ?_); rintro e w' ⟨rfl, rfl⟩))
    go_ret
    exact ⟨rfl, HB1.out⟩
  cases vb
  · change Calls Tryz.prog 36 _ w (fun e w' => e = .returned (.bool false) ∧ Below w.heap.size w w')
    go_enter Tryz.func36, Tryz.ntmps36
    go_wp2_with fail
    refine (HRF.out _ _ (row_of_slice (SliceAt.below H1.out good_str HB0.out (Nat.le_refl _)))).mono ?_
    rintro e w1 ⟨rfl, hb⟩
    have HB1 := Lib.hid (belS HB0.out hb)
    have BX1 := Lib.hid (BX0.out.below hb)
    clear hb
    have y0 := BX1.out.cell 0 (by simp)
    have y1 := BX1.out.cell 1 (by simp)
    have y2 := BX1.out.cell 2 (by simp)
    have y3 := BX1.out.cell 3 (by simp)
    have y4 := BX1.out.cell 4 (by simp)
    simp only [List.getElem_cons_zero, List.getElem_cons_succ] at y0 y1 y2 y3 y4
    go_wp2_with (first | (go_at_call 67; (with_reducible refine (HNM.out _).mono ?_); rintro e w' ⟨rfl, rfl⟩))
    refine (HVR.out _).mono ?_
    rintro e w2 ⟨rfl, hb⟩
    have HB2 := Lib.hid (belS HB1.out hb)
    have BX2 := Lib.hid (BX1.out.below hb)
    clear hb y0 y1 y2 y3 y4
    have y0 := BX2.out.cell 0 (by simp)
    have y1 := BX2.out.cell 1 (by simp)
    have y2 := BX2.out.cell 2 (by simp)
    have y3 := BX2.out.cell 3 (by simp)
    have y4 := BX2.out.cell 4 (by simp)
    simp only [List.getElem_cons_zero, List.getElem_cons_succ] at y0 y1 y2 y3 y4
    go_wp2_with fail
    go_ret
    exact ⟨rfl, HB2.out⟩
  simp only [Bool.true_and, Bool.and_true]
  by_cases h3 : 3 < l.length
  · rw [show needsB ⟨a0, a1, ⟨a2, a3⟩, l⟩ = false by unfold needsB; rw [decide_eq_false (by simp only; omega)]; rfl]
    have hgt : (3 : Int) < (l.length : Int) := by omega
    clear h3
    go_enter Tryz.func36, Tryz.ntmps36
    go_wp2_with fail
    refine (HRF.out _ _ (row_of_slice (SliceAt.below H1.out good_str HB0.out (Nat.le_refl _)))).mono ?_
    rintro e w1 ⟨rfl, hb⟩
    have HB1 := Lib.hid (belS HB0.out hb)
    have BX1 := Lib.hid (BX0.out.below hb)
    clear hb
    have y0 := BX1.out.cell 0 (by simp)
    have y1 := BX1.out.cell 1 (by simp)
    have y2 := BX1.out.cell 2 (by simp)
    have y3 := BX1.out.cell 3 (by simp)
    have y4 := BX1.out.cell 4 (by simp)
    simp only [List.getElem_cons_zero, List.getElem_cons_succ] at y0 y1 y2 y3 y4
    go_wp2_with (first | (go_at_call 67; (with_reducible refine (HNM.out _).mono ?_); rintro e w' ⟨rfl, rfl⟩))
    refine (HVR.out _).mono ?_
    rintro e w2 ⟨rfl, hb⟩
    have HB2 := Lib.hid (belS HB1.out hb)
    have BX2 := Lib.hid (BX1.out.below hb)
    clear hb y0 y1 y2 y3 y4
    have y0 := BX2.out.cell 0 (by simp)
    have y1 := BX2.out.cell 1 (by simp)
    have y2 := BX2.out.cell 2 (by simp)
    have y3 := BX2.out.cell 3 (by simp)
    have y4 := BX2.out.cell 4 (by simp)
    simp only [List.getElem_cons_zero, List.getElem_cons_succ] at y0 y1 y2 y3 y4
    go_wp2_with fail
    go_ret
    exact ⟨rfl, HB2.out⟩
  · rw [show needsB ⟨a0, a1, ⟨a2, a3⟩, l⟩ = l.all (needOk a0) by unfold needsB; rw [decide_eq_true (by simp only; omega)]; rfl]
    generalize hres : l.all (needOk a0) = res
    have HRES := Lib.hid (show res = (l.drop 0).all (needOk a0) from hres.symm)
    have hgt : ¬ (3 : Int) < (l.length : Int) := by omega
    clear h3 hres
    go_enter Tryz.func36, Tryz.ntmps36
    go_wp2_with fail
    refine (HRF.out _ _ (row_of_slice (SliceAt.below H1.out good_str HB0.out (Nat.le_refl _)))).mono ?_
    rintro e w1 ⟨rfl, hb⟩
    have HB1 := Lib.hid (belS HB0.out hb)
    have BX1 := Lib.hid (BX0.out.below hb)
    clear hb
    have y0 := BX1.out.cell 0 (by simp)
    have y1 := BX1.out.cell 1 (by simp)
    have y2 := BX1.out.cell 2 (by simp)
    have y3 := BX1.out.cell 3 (by simp)
    have y4 := BX1.out.cell 4 (by simp)
    simp only [List.getElem_cons_zero, List.getElem_cons_succ] at y0 y1 y2 y3 y4
    go_wp2_with (first | (go_at_call 67; (with_reducible refine (HNM.out _).mono ?_); rintro e w' ⟨rfl, rfl⟩))
    refine (HVR.out _).mono ?_
    rintro e w2 ⟨rfl, hb⟩
    have HB2 := Lib.hid (belS HB1.out hb)
    have BX2 := Lib.hid (BX1.out.below hb)
    clear hb y0 y1 y2 y3 y4
    have y0 := BX2.out.cell 0 (by simp)
    have y1 := BX2.out.cell 1 (by simp)
    have y2 := BX2.out.cell 2 (by simp)
    have y3 := BX2.out.cell 3 (by simp)
    have y4 := BX2.out.cell 4 (by simp)
    simp only [List.getElem_cons_zero, List.getElem_cons_succ] at y0 y1 y2 y3 y4
    go_wp2_with fail
    go_loopw [6, 36] (fun _ i wr => ∃ k : Nat, k ≤ l.length ∧ i = .int .i64 k ∧ res = (l.drop k).all (needOk a0) ∧ Below w.heap.size w wr ∧ Bx wr w.heap.size [.string ⟨a0.toArray⟩, .slice ra a1.length rc, .int .i64 a2, .int .i64 a3, .slice sa l.length sc]) (fun _ i _ => l.length - (intOf i).toNat)
    case atStart => exact ⟨0, Nat.zero_le _, rfl, HRES.out, HB2.out, BX2.out⟩
    case round =>
      obtain ⟨k, hk, rfl, hres, hbr, hbx⟩ := hrel
      have HRS := Lib.hid hres
      have HBr := Lib.hid hbr
      have BXr := Lib.hid hbx
      have HXr := Lib.hid (SliceAt.below H4.out (good_flat cNeed_len) hbr (Nat.le_refl _))
      have hszr := hbr.size
      clear hres hbr hbx
      by_cases hlt : k < l.length
      · obtain ⟨b, o, cs, rfl, hbw, hat, hd⟩ := sliceAt_cell HXr.out k hlt
        have HM := Lib.hid (HK.out _ (List.getElem_mem hlt))
        have HDR := Lib.hid (show l.drop k = l[k] :: l.drop (k + 1) from List.drop_eq_getElem_cons hlt)
        generalize l[k] = z at *
        obtain ⟨m0, m1, m2, m3⟩ := z
        simp only [rFlat, cNeed] at hat
        subst hat
        have d0 := hd 0 (by decide)
        have d1 := hd 1 (by decide)
        have d2 := hd 2 (by decide)
        have d3 := hd 3 (by decide)
        simp only [List.getElem?_cons_zero, List.getElem?_cons_succ, Nat.add_zero] at d0 d1 d2 d3
        have HIN := Lib.hid (fun W => specIsNeed_any ⟨m0, m1, m2, m3⟩ W HM.out)
        unfold vNeed at HIN
        simp only at HIN
        have HRS2 := Lib.hid (show res = ((needB ⟨m0, m1, m2, m3⟩ && !(m1 == a0)) && (l.drop (k + 1)).all (needOk a0)) by rw [HRS.out, HDR.out]; rfl)
        generalize needB ⟨m0, m1, m2, m3⟩ = nb at *
        have BN := Lib.hid (Bx.new wr [.int .i64 m0, .string ⟨m1.toArray⟩, .int .i64 m2, .int .i64 m3] 39)
        have HBN := Lib.hid (belS HBr.out (bx_box wr (.cells #[.int .i64 m0, .string ⟨m1.toArray⟩, .int .i64 m2, .int .i64 m3] 39)))
        have BXN := Lib.hid (BXr.out.alloc (.cells #[.int .i64 m0, .string ⟨m1.toArray⟩, .int .i64 m2, .int .i64 m3] 39))
        have hkl : (k : Int) < (l.length : Int) := by omega
        clear hd HRS HDR
        cases nb
        · obtain rfl : res = false := by have h := HRS2.out; simpa using h
          clear HRS2
          have n0 := BN.out.cell 0 (by simp)
          have n1 := BN.out.cell 1 (by simp)
          have n2 := BN.out.cell 2 (by simp)
          have n3 := BN.out.cell 3 (by simp)
          simp only [List.getElem_cons_zero, List.getElem_cons_succ] at n0 n1 n2 n3
          go_wp2_with fail
          refine (HIN.out _).mono ?_
          rintro e w2 ⟨rfl, hb⟩
          have HB2 := Lib.hid (belS HBN.out hb)
          clear hb
          go_wp2_with fail
          go_ret
          exact ⟨rfl, HB2.out⟩
        · by_cases he : m1 = a0
          · obtain rfl : res = false := by have h := HRS2.out; rw [show (m1 == a0) = true by simp [he]] at h; simpa using h
            have heq : (m1 == a0) = true := by simp [he]
            clear HRS2 he
            have n0 := BN.out.cell 0 (by simp)
            have n1 := BN.out.cell 1 (by simp)
            have n2 := BN.out.cell 2 (by simp)
            have n3 := BN.out.cell 3 (by simp)
            simp only [List.getElem_cons_zero, List.getElem_cons_succ] at n0 n1 n2 n3
            go_wp2_with fail
            refine (HIN.out _).mono ?_
            rintro e w2 ⟨rfl, hb⟩
            have HB2 := Lib.hid (belS HBN.out hb)
            have BN2 := Lib.hid (BN.out.below hb)
            have BX2 := Lib.hid (BXN.out.below hb)
            clear hb n0 n1 n2 n3
            have n0 := BN2.out.cell 0 (by simp)
            have n1 := BN2.out.cell 1 (by simp)
            have n2 := BN2.out.cell 2 (by simp)
            have n3 := BN2.out.cell 3 (by simp)
            simp only [List.getElem_cons_zero, List.getElem_cons_succ] at n0 n1 n2 n3
            have x0 := BX2.out.cell 0 (by simp)
            have x1 := BX2.out.cell 1 (by simp)
            have x2 := BX2.out.cell 2 (by simp)
            have x3 := BX2.out.cell 3 (by simp)
            have x4 := BX2.out.cell 4 (by simp)
            simp only [List.getElem_cons_zero, List.getElem_cons_succ] at x0 x1 x2 x3 x4
            go_wp2_with fail
            go_ret
            exact ⟨rfl, HB2.out⟩
          · have HR3 := Lib.hid (show res = (l.drop (k + 1)).all (needOk a0) by have h := HRS2.out; rw [show (m1 == a0) = false by simp [he]] at h; simpa using h)
            have heq : (m1 == a0) = false := by simp [he]
            clear HRS2 he
            have n0 := BN.out.cell 0 (by simp)
            have n1 := BN.out.cell 1 (by simp)
            have n2 := BN.out.cell 2 (by simp)
            have n3 := BN.out.cell 3 (by simp)
            simp only [List.getElem_cons_zero, List.getElem_cons_succ] at n0 n1 n2 n3
            go_wp2_with fail
            refine (HIN.out _).mono ?_
            rintro e w2 ⟨rfl, hb⟩
            have HB2 := Lib.hid (belS HBN.out hb)
            have BN2 := Lib.hid (BN.out.below hb)
            have BX2 := Lib.hid (BXN.out.below hb)
            clear hb n0 n1 n2 n3
            have n0 := BN2.out.cell 0 (by simp)
            have n1 := BN2.out.cell 1 (by simp)
            have n2 := BN2.out.cell 2 (by simp)
            have n3 := BN2.out.cell 3 (by simp)
            simp only [List.getElem_cons_zero, List.getElem_cons_succ] at n0 n1 n2 n3
            have x0 := BX2.out.cell 0 (by simp)
            have x1 := BX2.out.cell 1 (by simp)
            have x2 := BX2.out.cell 2 (by simp)
            have x3 := BX2.out.cell 3 (by simp)
            have x4 := BX2.out.cell 4 (by simp)
            simp only [List.getElem_cons_zero, List.getElem_cons_succ] at x0 x1 x2 x3 x4
            go_wp2_with fail
            exact ⟨⟨k + 1, by omega, by go_num, HR3.out, HB2.out, BX2.out⟩, by simp [intOf]; omega⟩
      · obtain rfl : res = true := by have h := HRS.out; rw [List.drop_eq_nil_of_le (by omega)] at h; simpa using h
        have hkl : ¬ (k : Int) < (l.length : Int) := by omega
        go_wp2_with fail
        go_ret
        exact ⟨rfl, HBr.out⟩
end Go.Proofs.YtlkpinlkbikokabGreat
/- Contracts of chapter 6: Serves, the model's. Written by gen/ch6s.py. -/
namespace Go.Proofs.YtlkpinlkbikokabGreat
set_option linter.unusedVariables false
set_option linter.unusedSimpArgs false
open Go.RowKit
set_option maxRecDepth 100000 in
set_option maxHeartbeats 3200000 in
theorem specServes_any (v : Value) (x : EntryD) (d : NeedD) (w : World) (hx : ValAt rEntry 0 w v x) (hn : x.fName.length ≤ maxLen) (hk : ∀ d ∈ x.fNeeds, d.fFrom.length ≤ maxLen) (hr : ∀ s ∈ x.fRecipe, s.length ≤ 1048576) (hf : d.fFrom.length ≤ maxLen) :
    Calls Tryz.prog 10 #[v, vNeed d] w fun e w' => e = .returned (.bool (servesB x d)) ∧ Below w.heap.size w w' := by
  have HRF := Lib.hid (fun v W (h : RowAt W v (x.fRecipe.map strV)) => specRecipeFace_any v x.fRecipe W h hr)
  have HIN := Lib.hid (fun W => specIsNeed_any d W hf)
  have HME := Lib.hid (fun W => specMeets_any x.fVersion ⟨d.fMajor, d.fMinor⟩ W)
  have HIE := Lib.hid (fun cs W (h : rEntry 0 W cs x) => specIsEntry_any (.agg cs.toArray) x W ⟨cs, rfl, h⟩ hn hk hr)
  have HOF := Lib.hid (fun W => specOffers_any (recI x.fRecipe) d.fFace W)
  unfold servesB
  generalize needB d = nb at *
  generalize meetsB x.fVersion ⟨d.fMajor, d.fMinor⟩ = mb at *
  generalize entryB x = eb at *
  generalize recI x.fRecipe = ri at *
  generalize recB x.fRecipe = rb at *
  generalize offersF ri d.fFace = ob at *
  obtain ⟨_, rfl, hx⟩ := hx
  have HX := Lib.hid (fun W (hb : Below w.heap.size w W) => goodEntry.keep hx (kept_below hb (Nat.le_refl _)))
  obtain ⟨a0, a1, ⟨a2, a3⟩, l⟩ := x
  obtain ⟨m0, m1, m2, m3⟩ := d
  obtain ⟨v1, v4, rfl, h1, h4⟩ := hx
  simp only at h1 h4 hk hn hr hf
  obtain ⟨ra, rc, rfl, _⟩ := sliceAt_len h1
  obtain ⟨sa, sc, rfl, hl⟩ := sliceAt_len h4
  have H1 := Lib.hid h1
  unfold maxLen at hl
  have BS := Lib.hid (bx_start2 w [.string ⟨a0.toArray⟩, .slice ra a1.length rc, .int .i64 a2, .int .i64 a3, .slice sa l.length sc] [.int .i64 m0, .string ⟨m1.toArray⟩, .int .i64 m2, .int .i64 m3] 36 39)
  have BX0 := Lib.hid BS.out.1
  have BN0 := Lib.hid BS.out.2.1
  have HB0 := Lib.hid BS.out.2.2
  clear h1 h4 hk hn hr hf BS
  simp only [vVersion, vNeed] at *
  cases eb
  · simp only [Bool.false_and]
    go_enter Tryz.func10, Tryz.ntmps10
    have x0 := BX0.out.cell 0 (by simp)
    have x1 := BX0.out.cell 1 (by simp)
    have x2 := BX0.out.cell 2 (by simp)
    have x3 := BX0.out.cell 3 (by simp)
    have x4 := BX0.out.cell 4 (by simp)
    simp only [List.getElem_cons_zero, List.getElem_cons_succ] at x0 x1 x2 x3 x4
    have n0 := BN0.out.cell 0 (by simp)
    have n1 := BN0.out.cell 1 (by simp)
    have n2 := BN0.out.cell 2 (by simp)
    have n3 := BN0.out.cell 3 (by simp)
    simp only [List.getElem_cons_zero, List.getElem_cons_succ] at n0 n1 n2 n3
    go_wp2_with fail
    refine (HRF.out _ _ (row_of_slice (SliceAt.below H1.out good_str HB0.out (Nat.le_refl _)))).mono ?_
    rintro e w1 ⟨rfl, hb⟩
    have HB1 := Lib.hid (belS HB0.out hb)
    have BX1 := Lib.hid (BX0.out.below hb)
    have BN1 := Lib.hid (BN0.out.below hb)
    clear hb
    clear x0 x1 x2 x3 x4 n0 n1 n2 n3
    have x0 := BX1.out.cell 0 (by simp)
    have x1 := BX1.out.cell 1 (by simp)
    have x2 := BX1.out.cell 2 (by simp)
    have x3 := BX1.out.cell 3 (by simp)
    have x4 := BX1.out.cell 4 (by simp)
    simp only [List.getElem_cons_zero, List.getElem_cons_succ] at x0 x1 x2 x3 x4
    have n0 := BN1.out.cell 0 (by simp)
    have n1 := BN1.out.cell 1 (by simp)
    have n2 := BN1.out.cell 2 (by simp)
    have n3 := BN1.out.cell 3 (by simp)
    simp only [List.getElem_cons_zero, List.getElem_cons_succ] at n0 n1 n2 n3
    go_wp2_with fail
    refine (HIE.out _ _ (HX.out _ HB1.out)).mono ?_
    rintro e w2 ⟨rfl, hb⟩
    have HB2 := Lib.hid (belS HB1.out hb)
    have BX2 := Lib.hid (BX1.out.below hb)
    have BN2 := Lib.hid (BN1.out.below hb)
    clear hb
    clear x0 x1 x2 x3 x4 n0 n1 n2 n3
    have x0 := BX2.out.cell 0 (by simp)
    have x1 := BX2.out.cell 1 (by simp)
    have x2 := BX2.out.cell 2 (by simp)
    have x3 := BX2.out.cell 3 (by simp)
    have x4 := BX2.out.cell 4 (by simp)
    simp only [List.getElem_cons_zero, List.getElem_cons_succ] at x0 x1 x2 x3 x4
    have n0 := BN2.out.cell 0 (by simp)
    have n1 := BN2.out.cell 1 (by simp)
    have n2 := BN2.out.cell 2 (by simp)
    have n3 := BN2.out.cell 3 (by simp)
    simp only [List.getElem_cons_zero, List.getElem_cons_succ] at n0 n1 n2 n3
    go_wp2_with fail
    go_ret
    exact ⟨rfl, HB2.out⟩
  cases nb
  · simp only [Bool.and_false, Bool.false_and]
    go_enter Tryz.func10, Tryz.ntmps10
    have x0 := BX0.out.cell 0 (by simp)
    have x1 := BX0.out.cell 1 (by simp)
    have x2 := BX0.out.cell 2 (by simp)
    have x3 := BX0.out.cell 3 (by simp)
    have x4 := BX0.out.cell 4 (by simp)
    simp only [List.getElem_cons_zero, List.getElem_cons_succ] at x0 x1 x2 x3 x4
    have n0 := BN0.out.cell 0 (by simp)
    have n1 := BN0.out.cell 1 (by simp)
    have n2 := BN0.out.cell 2 (by simp)
    have n3 := BN0.out.cell 3 (by simp)
    simp only [List.getElem_cons_zero, List.getElem_cons_succ] at n0 n1 n2 n3
    go_wp2_with fail
    refine (HRF.out _ _ (row_of_slice (SliceAt.below H1.out good_str HB0.out (Nat.le_refl _)))).mono ?_
    rintro e w1 ⟨rfl, hb⟩
    have HB1 := Lib.hid (belS HB0.out hb)
    have BX1 := Lib.hid (BX0.out.below hb)
    have BN1 := Lib.hid (BN0.out.below hb)
    clear hb
    clear x0 x1 x2 x3 x4 n0 n1 n2 n3
    have x0 := BX1.out.cell 0 (by simp)
    have x1 := BX1.out.cell 1 (by simp)
    have x2 := BX1.out.cell 2 (by simp)
    have x3 := BX1.out.cell 3 (by simp)
    have x4 := BX1.out.cell 4 (by simp)
    simp only [List.getElem_cons_zero, List.getElem_cons_succ] at x0 x1 x2 x3 x4
    have n0 := BN1.out.cell 0 (by simp)
    have n1 := BN1.out.cell 1 (by simp)
    have n2 := BN1.out.cell 2 (by simp)
    have n3 := BN1.out.cell 3 (by simp)
    simp only [List.getElem_cons_zero, List.getElem_cons_succ] at n0 n1 n2 n3
    go_wp2_with fail
    refine (HIE.out _ _ (HX.out _ HB1.out)).mono ?_
    rintro e w2 ⟨rfl, hb⟩
    have HB2 := Lib.hid (belS HB1.out hb)
    have BX2 := Lib.hid (BX1.out.below hb)
    have BN2 := Lib.hid (BN1.out.below hb)
    clear hb
    clear x0 x1 x2 x3 x4 n0 n1 n2 n3
    have x0 := BX2.out.cell 0 (by simp)
    have x1 := BX2.out.cell 1 (by simp)
    have x2 := BX2.out.cell 2 (by simp)
    have x3 := BX2.out.cell 3 (by simp)
    have x4 := BX2.out.cell 4 (by simp)
    simp only [List.getElem_cons_zero, List.getElem_cons_succ] at x0 x1 x2 x3 x4
    have n0 := BN2.out.cell 0 (by simp)
    have n1 := BN2.out.cell 1 (by simp)
    have n2 := BN2.out.cell 2 (by simp)
    have n3 := BN2.out.cell 3 (by simp)
    simp only [List.getElem_cons_zero, List.getElem_cons_succ] at n0 n1 n2 n3
    go_wp2_with fail
    refine (HIN.out _).mono ?_
    rintro e w3 ⟨rfl, hb⟩
    have HB3 := Lib.hid (belS HB2.out hb)
    have BX3 := Lib.hid (BX2.out.below hb)
    have BN3 := Lib.hid (BN2.out.below hb)
    clear hb
    clear x0 x1 x2 x3 x4 n0 n1 n2 n3
    have x0 := BX3.out.cell 0 (by simp)
    have x1 := BX3.out.cell 1 (by simp)
    have x2 := BX3.out.cell 2 (by simp)
    have x3 := BX3.out.cell 3 (by simp)
    have x4 := BX3.out.cell 4 (by simp)
    simp only [List.getElem_cons_zero, List.getElem_cons_succ] at x0 x1 x2 x3 x4
    have n0 := BN3.out.cell 0 (by simp)
    have n1 := BN3.out.cell 1 (by simp)
    have n2 := BN3.out.cell 2 (by simp)
    have n3 := BN3.out.cell 3 (by simp)
    simp only [List.getElem_cons_zero, List.getElem_cons_succ] at n0 n1 n2 n3
    go_wp2_with fail
    go_ret
    exact ⟨rfl, HB3.out⟩
  cases m1 with
  | nil =>
    rw [show (true && true && (decide (([] : List UInt8) = []) || ([] : List UInt8) == a0) && ob && mb) = (ob && mb) by simp]
    cases ob
    · simp only [Bool.false_and]
      go_enter Tryz.func10, Tryz.ntmps10
      have x0 := BX0.out.cell 0 (by simp)
      have x1 := BX0.out.cell 1 (by simp)
      have x2 := BX0.out.cell 2 (by simp)
      have x3 := BX0.out.cell 3 (by simp)
      have x4 := BX0.out.cell 4 (by simp)
      simp only [List.getElem_cons_zero, List.getElem_cons_succ] at x0 x1 x2 x3 x4
      have n0 := BN0.out.cell 0 (by simp)
      have n1 := BN0.out.cell 1 (by simp)
      have n2 := BN0.out.cell 2 (by simp)
      have n3 := BN0.out.cell 3 (by simp)
      simp only [List.getElem_cons_zero, List.getElem_cons_succ] at n0 n1 n2 n3
      go_wp2_with fail
      refine (HRF.out _ _ (row_of_slice (SliceAt.below H1.out good_str HB0.out (Nat.le_refl _)))).mono ?_
      rintro e w1 ⟨rfl, hb⟩
      have HB1 := Lib.hid (belS HB0.out hb)
      have BX1 := Lib.hid (BX0.out.below hb)
      have BN1 := Lib.hid (BN0.out.below hb)
      clear hb
      clear x0 x1 x2 x3 x4 n0 n1 n2 n3
      have x0 := BX1.out.cell 0 (by simp)
      have x1 := BX1.out.cell 1 (by simp)
      have x2 := BX1.out.cell 2 (by simp)
      have x3 := BX1.out.cell 3 (by simp)
      have x4 := BX1.out.cell 4 (by simp)
      simp only [List.getElem_cons_zero, List.getElem_cons_succ] at x0 x1 x2 x3 x4
      have n0 := BN1.out.cell 0 (by simp)
      have n1 := BN1.out.cell 1 (by simp)
      have n2 := BN1.out.cell 2 (by simp)
      have n3 := BN1.out.cell 3 (by simp)
      simp only [List.getElem_cons_zero, List.getElem_cons_succ] at n0 n1 n2 n3
      go_wp2_with fail
      refine (HIE.out _ _ (HX.out _ HB1.out)).mono ?_
      rintro e w2 ⟨rfl, hb⟩
      have HB2 := Lib.hid (belS HB1.out hb)
      have BX2 := Lib.hid (BX1.out.below hb)
      have BN2 := Lib.hid (BN1.out.below hb)
      clear hb
      clear x0 x1 x2 x3 x4 n0 n1 n2 n3
      have x0 := BX2.out.cell 0 (by simp)
      have x1 := BX2.out.cell 1 (by simp)
      have x2 := BX2.out.cell 2 (by simp)
      have x3 := BX2.out.cell 3 (by simp)
      have x4 := BX2.out.cell 4 (by simp)
      simp only [List.getElem_cons_zero, List.getElem_cons_succ] at x0 x1 x2 x3 x4
      have n0 := BN2.out.cell 0 (by simp)
      have n1 := BN2.out.cell 1 (by simp)
      have n2 := BN2.out.cell 2 (by simp)
      have n3 := BN2.out.cell 3 (by simp)
      simp only [List.getElem_cons_zero, List.getElem_cons_succ] at n0 n1 n2 n3
      go_wp2_with fail
      refine (HIN.out _).mono ?_
      rintro e w3 ⟨rfl, hb⟩
      have HB3 := Lib.hid (belS HB2.out hb)
      have BX3 := Lib.hid (BX2.out.below hb)
      have BN3 := Lib.hid (BN2.out.below hb)
      clear hb
      clear x0 x1 x2 x3 x4 n0 n1 n2 n3
      have x0 := BX3.out.cell 0 (by simp)
      have x1 := BX3.out.cell 1 (by simp)
      have x2 := BX3.out.cell 2 (by simp)
      have x3 := BX3.out.cell 3 (by simp)
      have x4 := BX3.out.cell 4 (by simp)
      simp only [List.getElem_cons_zero, List.getElem_cons_succ] at x0 x1 x2 x3 x4
      have n0 := BN3.out.cell 0 (by simp)
      have n1 := BN3.out.cell 1 (by simp)
      have n2 := BN3.out.cell 2 (by simp)
      have n3 := BN3.out.cell 3 (by simp)
      simp only [List.getElem_cons_zero, List.getElem_cons_succ] at n0 n1 n2 n3
      go_wp2_with (first | (go_at_call 38; (with_reducible refine (HOF.out _).mono ?_); rintro e w' ⟨rfl, rfl⟩))
      go_ret
      exact ⟨rfl, HB3.out⟩
    simp only [Bool.true_and]
    go_enter Tryz.func10, Tryz.ntmps10
    have x0 := BX0.out.cell 0 (by simp)
    have x1 := BX0.out.cell 1 (by simp)
    have x2 := BX0.out.cell 2 (by simp)
    have x3 := BX0.out.cell 3 (by simp)
    have x4 := BX0.out.cell 4 (by simp)
    simp only [List.getElem_cons_zero, List.getElem_cons_succ] at x0 x1 x2 x3 x4
    have n0 := BN0.out.cell 0 (by simp)
    have n1 := BN0.out.cell 1 (by simp)
    have n2 := BN0.out.cell 2 (by simp)
    have n3 := BN0.out.cell 3 (by simp)
    simp only [List.getElem_cons_zero, List.getElem_cons_succ] at n0 n1 n2 n3
    go_wp2_with fail
    refine (HRF.out _ _ (row_of_slice (SliceAt.below H1.out good_str HB0.out (Nat.le_refl _)))).mono ?_
    rintro e w1 ⟨rfl, hb⟩
    have HB1 := Lib.hid (belS HB0.out hb)
    have BX1 := Lib.hid (BX0.out.below hb)
    have BN1 := Lib.hid (BN0.out.below hb)
    clear hb
    clear x0 x1 x2 x3 x4 n0 n1 n2 n3
    have x0 := BX1.out.cell 0 (by simp)
    have x1 := BX1.out.cell 1 (by simp)
    have x2 := BX1.out.cell 2 (by simp)
    have x3 := BX1.out.cell 3 (by simp)
    have x4 := BX1.out.cell 4 (by simp)
    simp only [List.getElem_cons_zero, List.getElem_cons_succ] at x0 x1 x2 x3 x4
    have n0 := BN1.out.cell 0 (by simp)
    have n1 := BN1.out.cell 1 (by simp)
    have n2 := BN1.out.cell 2 (by simp)
    have n3 := BN1.out.cell 3 (by simp)
    simp only [List.getElem_cons_zero, List.getElem_cons_succ] at n0 n1 n2 n3
    go_wp2_with fail
    refine (HIE.out _ _ (HX.out _ HB1.out)).mono ?_
    rintro e w2 ⟨rfl, hb⟩
    have HB2 := Lib.hid (belS HB1.out hb)
    have BX2 := Lib.hid (BX1.out.below hb)
    have BN2 := Lib.hid (BN1.out.below hb)
    clear hb
    clear x0 x1 x2 x3 x4 n0 n1 n2 n3
    have x0 := BX2.out.cell 0 (by simp)
    have x1 := BX2.out.cell 1 (by simp)
    have x2 := BX2.out.cell 2 (by simp)
    have x3 := BX2.out.cell 3 (by simp)
    have x4 := BX2.out.cell 4 (by simp)
    simp only [List.getElem_cons_zero, List.getElem_cons_succ] at x0 x1 x2 x3 x4
    have n0 := BN2.out.cell 0 (by simp)
    have n1 := BN2.out.cell 1 (by simp)
    have n2 := BN2.out.cell 2 (by simp)
    have n3 := BN2.out.cell 3 (by simp)
    simp only [List.getElem_cons_zero, List.getElem_cons_succ] at n0 n1 n2 n3
    go_wp2_with fail
    refine (HIN.out _).mono ?_
    rintro e w3 ⟨rfl, hb⟩
    have HB3 := Lib.hid (belS HB2.out hb)
    have BX3 := Lib.hid (BX2.out.below hb)
    have BN3 := Lib.hid (BN2.out.below hb)
    clear hb
    clear x0 x1 x2 x3 x4 n0 n1 n2 n3
    have x0 := BX3.out.cell 0 (by simp)
    have x1 := BX3.out.cell 1 (by simp)
    have x2 := BX3.out.cell 2 (by simp)
    have x3 := BX3.out.cell 3 (by simp)
    have x4 := BX3.out.cell 4 (by simp)
    simp only [List.getElem_cons_zero, List.getElem_cons_succ] at x0 x1 x2 x3 x4
    have n0 := BN3.out.cell 0 (by simp)
    have n1 := BN3.out.cell 1 (by simp)
    have n2 := BN3.out.cell 2 (by simp)
    have n3 := BN3.out.cell 3 (by simp)
    simp only [List.getElem_cons_zero, List.getElem_cons_succ] at n0 n1 n2 n3
    go_wp2_with (first | (go_at_call 38; (with_reducible refine (HOF.out _).mono ?_); rintro e w' ⟨rfl, rfl⟩))
    refine (HME.out _).mono ?_
    rintro e w4 ⟨rfl, hb⟩
    have HB4 := Lib.hid (belS HB3.out hb)
    have BX4 := Lib.hid (BX3.out.below hb)
    have BN4 := Lib.hid (BN3.out.below hb)
    clear hb
    go_wp2_with fail
    go_ret
    exact ⟨rfl, HB4.out⟩
  | cons c r =>
    by_cases he : (c :: r) = a0
    · rw [show (true && true && (decide ((c :: r) = ([] : List UInt8)) || (c :: r) == a0) && ob && mb) = (ob && mb) by simp [he]]
      have heq : ((c :: r) == a0) = true := by simp [he]
      clear he
      cases ob
      · simp only [Bool.false_and]
        go_enter Tryz.func10, Tryz.ntmps10
        have x0 := BX0.out.cell 0 (by simp)
        have x1 := BX0.out.cell 1 (by simp)
        have x2 := BX0.out.cell 2 (by simp)
        have x3 := BX0.out.cell 3 (by simp)
        have x4 := BX0.out.cell 4 (by simp)
        simp only [List.getElem_cons_zero, List.getElem_cons_succ] at x0 x1 x2 x3 x4
        have n0 := BN0.out.cell 0 (by simp)
        have n1 := BN0.out.cell 1 (by simp)
        have n2 := BN0.out.cell 2 (by simp)
        have n3 := BN0.out.cell 3 (by simp)
        simp only [List.getElem_cons_zero, List.getElem_cons_succ] at n0 n1 n2 n3
        go_wp2_with fail
        refine (HRF.out _ _ (row_of_slice (SliceAt.below H1.out good_str HB0.out (Nat.le_refl _)))).mono ?_
        rintro e w1 ⟨rfl, hb⟩
        have HB1 := Lib.hid (belS HB0.out hb)
        have BX1 := Lib.hid (BX0.out.below hb)
        have BN1 := Lib.hid (BN0.out.below hb)
        clear hb
        clear x0 x1 x2 x3 x4 n0 n1 n2 n3
        have x0 := BX1.out.cell 0 (by simp)
        have x1 := BX1.out.cell 1 (by simp)
        have x2 := BX1.out.cell 2 (by simp)
        have x3 := BX1.out.cell 3 (by simp)
        have x4 := BX1.out.cell 4 (by simp)
        simp only [List.getElem_cons_zero, List.getElem_cons_succ] at x0 x1 x2 x3 x4
        have n0 := BN1.out.cell 0 (by simp)
        have n1 := BN1.out.cell 1 (by simp)
        have n2 := BN1.out.cell 2 (by simp)
        have n3 := BN1.out.cell 3 (by simp)
        simp only [List.getElem_cons_zero, List.getElem_cons_succ] at n0 n1 n2 n3
        go_wp2_with fail
        refine (HIE.out _ _ (HX.out _ HB1.out)).mono ?_
        rintro e w2 ⟨rfl, hb⟩
        have HB2 := Lib.hid (belS HB1.out hb)
        have BX2 := Lib.hid (BX1.out.below hb)
        have BN2 := Lib.hid (BN1.out.below hb)
        clear hb
        clear x0 x1 x2 x3 x4 n0 n1 n2 n3
        have x0 := BX2.out.cell 0 (by simp)
        have x1 := BX2.out.cell 1 (by simp)
        have x2 := BX2.out.cell 2 (by simp)
        have x3 := BX2.out.cell 3 (by simp)
        have x4 := BX2.out.cell 4 (by simp)
        simp only [List.getElem_cons_zero, List.getElem_cons_succ] at x0 x1 x2 x3 x4
        have n0 := BN2.out.cell 0 (by simp)
        have n1 := BN2.out.cell 1 (by simp)
        have n2 := BN2.out.cell 2 (by simp)
        have n3 := BN2.out.cell 3 (by simp)
        simp only [List.getElem_cons_zero, List.getElem_cons_succ] at n0 n1 n2 n3
        go_wp2_with fail
        refine (HIN.out _).mono ?_
        rintro e w3 ⟨rfl, hb⟩
        have HB3 := Lib.hid (belS HB2.out hb)
        have BX3 := Lib.hid (BX2.out.below hb)
        have BN3 := Lib.hid (BN2.out.below hb)
        clear hb
        clear x0 x1 x2 x3 x4 n0 n1 n2 n3
        have x0 := BX3.out.cell 0 (by simp)
        have x1 := BX3.out.cell 1 (by simp)
        have x2 := BX3.out.cell 2 (by simp)
        have x3 := BX3.out.cell 3 (by simp)
        have x4 := BX3.out.cell 4 (by simp)
        simp only [List.getElem_cons_zero, List.getElem_cons_succ] at x0 x1 x2 x3 x4
        have n0 := BN3.out.cell 0 (by simp)
        have n1 := BN3.out.cell 1 (by simp)
        have n2 := BN3.out.cell 2 (by simp)
        have n3 := BN3.out.cell 3 (by simp)
        simp only [List.getElem_cons_zero, List.getElem_cons_succ] at n0 n1 n2 n3
        go_wp2_with (first | (go_at_call 38; (with_reducible refine (HOF.out _).mono ?_); rintro e w' ⟨rfl, rfl⟩))
        go_ret
        exact ⟨rfl, HB3.out⟩
      simp only [Bool.true_and]
      go_enter Tryz.func10, Tryz.ntmps10
      have x0 := BX0.out.cell 0 (by simp)
      have x1 := BX0.out.cell 1 (by simp)
      have x2 := BX0.out.cell 2 (by simp)
      have x3 := BX0.out.cell 3 (by simp)
      have x4 := BX0.out.cell 4 (by simp)
      simp only [List.getElem_cons_zero, List.getElem_cons_succ] at x0 x1 x2 x3 x4
      have n0 := BN0.out.cell 0 (by simp)
      have n1 := BN0.out.cell 1 (by simp)
      have n2 := BN0.out.cell 2 (by simp)
      have n3 := BN0.out.cell 3 (by simp)
      simp only [List.getElem_cons_zero, List.getElem_cons_succ] at n0 n1 n2 n3
      go_wp2_with fail
      refine (HRF.out _ _ (row_of_slice (SliceAt.below H1.out good_str HB0.out (Nat.le_refl _)))).mono ?_
      rintro e w1 ⟨rfl, hb⟩
      have HB1 := Lib.hid (belS HB0.out hb)
      have BX1 := Lib.hid (BX0.out.below hb)
      have BN1 := Lib.hid (BN0.out.below hb)
      clear hb
      clear x0 x1 x2 x3 x4 n0 n1 n2 n3
      have x0 := BX1.out.cell 0 (by simp)
      have x1 := BX1.out.cell 1 (by simp)
      have x2 := BX1.out.cell 2 (by simp)
      have x3 := BX1.out.cell 3 (by simp)
      have x4 := BX1.out.cell 4 (by simp)
      simp only [List.getElem_cons_zero, List.getElem_cons_succ] at x0 x1 x2 x3 x4
      have n0 := BN1.out.cell 0 (by simp)
      have n1 := BN1.out.cell 1 (by simp)
      have n2 := BN1.out.cell 2 (by simp)
      have n3 := BN1.out.cell 3 (by simp)
      simp only [List.getElem_cons_zero, List.getElem_cons_succ] at n0 n1 n2 n3
      go_wp2_with fail
      refine (HIE.out _ _ (HX.out _ HB1.out)).mono ?_
      rintro e w2 ⟨rfl, hb⟩
      have HB2 := Lib.hid (belS HB1.out hb)
      have BX2 := Lib.hid (BX1.out.below hb)
      have BN2 := Lib.hid (BN1.out.below hb)
      clear hb
      clear x0 x1 x2 x3 x4 n0 n1 n2 n3
      have x0 := BX2.out.cell 0 (by simp)
      have x1 := BX2.out.cell 1 (by simp)
      have x2 := BX2.out.cell 2 (by simp)
      have x3 := BX2.out.cell 3 (by simp)
      have x4 := BX2.out.cell 4 (by simp)
      simp only [List.getElem_cons_zero, List.getElem_cons_succ] at x0 x1 x2 x3 x4
      have n0 := BN2.out.cell 0 (by simp)
      have n1 := BN2.out.cell 1 (by simp)
      have n2 := BN2.out.cell 2 (by simp)
      have n3 := BN2.out.cell 3 (by simp)
      simp only [List.getElem_cons_zero, List.getElem_cons_succ] at n0 n1 n2 n3
      go_wp2_with fail
      refine (HIN.out _).mono ?_
      rintro e w3 ⟨rfl, hb⟩
      have HB3 := Lib.hid (belS HB2.out hb)
      have BX3 := Lib.hid (BX2.out.below hb)
      have BN3 := Lib.hid (BN2.out.below hb)
      clear hb
      clear x0 x1 x2 x3 x4 n0 n1 n2 n3
      have x0 := BX3.out.cell 0 (by simp)
      have x1 := BX3.out.cell 1 (by simp)
      have x2 := BX3.out.cell 2 (by simp)
      have x3 := BX3.out.cell 3 (by simp)
      have x4 := BX3.out.cell 4 (by simp)
      simp only [List.getElem_cons_zero, List.getElem_cons_succ] at x0 x1 x2 x3 x4
      have n0 := BN3.out.cell 0 (by simp)
      have n1 := BN3.out.cell 1 (by simp)
      have n2 := BN3.out.cell 2 (by simp)
      have n3 := BN3.out.cell 3 (by simp)
      simp only [List.getElem_cons_zero, List.getElem_cons_succ] at n0 n1 n2 n3
      go_wp2_with (first | (go_at_call 38; (with_reducible refine (HOF.out _).mono ?_); rintro e w' ⟨rfl, rfl⟩))
      refine (HME.out _).mono ?_
      rintro e w4 ⟨rfl, hb⟩
      have HB4 := Lib.hid (belS HB3.out hb)
      have BX4 := Lib.hid (BX3.out.below hb)
      have BN4 := Lib.hid (BN3.out.below hb)
      clear hb
      go_wp2_with fail
      go_ret
      exact ⟨rfl, HB4.out⟩
    · rw [show (true && true && (decide ((c :: r) = ([] : List UInt8)) || (c :: r) == a0) && ob && mb) = false by simp [he]]
      have heq : ((c :: r) == a0) = false := by simp [he]
      clear he
      go_enter Tryz.func10, Tryz.ntmps10
      have x0 := BX0.out.cell 0 (by simp)
      have x1 := BX0.out.cell 1 (by simp)
      have x2 := BX0.out.cell 2 (by simp)
      have x3 := BX0.out.cell 3 (by simp)
      have x4 := BX0.out.cell 4 (by simp)
      simp only [List.getElem_cons_zero, List.getElem_cons_succ] at x0 x1 x2 x3 x4
      have n0 := BN0.out.cell 0 (by simp)
      have n1 := BN0.out.cell 1 (by simp)
      have n2 := BN0.out.cell 2 (by simp)
      have n3 := BN0.out.cell 3 (by simp)
      simp only [List.getElem_cons_zero, List.getElem_cons_succ] at n0 n1 n2 n3
      go_wp2_with fail
      refine (HRF.out _ _ (row_of_slice (SliceAt.below H1.out good_str HB0.out (Nat.le_refl _)))).mono ?_
      rintro e w1 ⟨rfl, hb⟩
      have HB1 := Lib.hid (belS HB0.out hb)
      have BX1 := Lib.hid (BX0.out.below hb)
      have BN1 := Lib.hid (BN0.out.below hb)
      clear hb
      clear x0 x1 x2 x3 x4 n0 n1 n2 n3
      have x0 := BX1.out.cell 0 (by simp)
      have x1 := BX1.out.cell 1 (by simp)
      have x2 := BX1.out.cell 2 (by simp)
      have x3 := BX1.out.cell 3 (by simp)
      have x4 := BX1.out.cell 4 (by simp)
      simp only [List.getElem_cons_zero, List.getElem_cons_succ] at x0 x1 x2 x3 x4
      have n0 := BN1.out.cell 0 (by simp)
      have n1 := BN1.out.cell 1 (by simp)
      have n2 := BN1.out.cell 2 (by simp)
      have n3 := BN1.out.cell 3 (by simp)
      simp only [List.getElem_cons_zero, List.getElem_cons_succ] at n0 n1 n2 n3
      go_wp2_with fail
      refine (HIE.out _ _ (HX.out _ HB1.out)).mono ?_
      rintro e w2 ⟨rfl, hb⟩
      have HB2 := Lib.hid (belS HB1.out hb)
      have BX2 := Lib.hid (BX1.out.below hb)
      have BN2 := Lib.hid (BN1.out.below hb)
      clear hb
      clear x0 x1 x2 x3 x4 n0 n1 n2 n3
      have x0 := BX2.out.cell 0 (by simp)
      have x1 := BX2.out.cell 1 (by simp)
      have x2 := BX2.out.cell 2 (by simp)
      have x3 := BX2.out.cell 3 (by simp)
      have x4 := BX2.out.cell 4 (by simp)
      simp only [List.getElem_cons_zero, List.getElem_cons_succ] at x0 x1 x2 x3 x4
      have n0 := BN2.out.cell 0 (by simp)
      have n1 := BN2.out.cell 1 (by simp)
      have n2 := BN2.out.cell 2 (by simp)
      have n3 := BN2.out.cell 3 (by simp)
      simp only [List.getElem_cons_zero, List.getElem_cons_succ] at n0 n1 n2 n3
      go_wp2_with fail
      refine (HIN.out _).mono ?_
      rintro e w3 ⟨rfl, hb⟩
      have HB3 := Lib.hid (belS HB2.out hb)
      have BX3 := Lib.hid (BX2.out.below hb)
      have BN3 := Lib.hid (BN2.out.below hb)
      clear hb
      clear x0 x1 x2 x3 x4 n0 n1 n2 n3
      have x0 := BX3.out.cell 0 (by simp)
      have x1 := BX3.out.cell 1 (by simp)
      have x2 := BX3.out.cell 2 (by simp)
      have x3 := BX3.out.cell 3 (by simp)
      have x4 := BX3.out.cell 4 (by simp)
      simp only [List.getElem_cons_zero, List.getElem_cons_succ] at x0 x1 x2 x3 x4
      have n0 := BN3.out.cell 0 (by simp)
      have n1 := BN3.out.cell 1 (by simp)
      have n2 := BN3.out.cell 2 (by simp)
      have n3 := BN3.out.cell 3 (by simp)
      simp only [List.getElem_cons_zero, List.getElem_cons_succ] at n0 n1 n2 n3
      go_wp2_with fail
      go_ret
      exact ⟨rfl, HB3.out⟩
end Go.Proofs.YtlkpinlkbikokabGreat
/- Contracts of chapter 6: ProviderOf, the model's. Written by gen/ch6s.py. -/
namespace Go.Proofs.YtlkpinlkbikokabGreat
set_option linter.unusedVariables false
set_option linter.unusedSimpArgs false
open Go.RowKit
set_option maxRecDepth 100000 in
set_option maxHeartbeats 3200000 in
theorem specProv_any (v : Value) (l : List EntryD) (t : List UInt8) (d : NeedD) (w : World) (hx : SliceAt rEntry 5 0 w v l) (hg : ∀ e ∈ l, e.fName.length ≤ 1048576 ∧ (∀ d ∈ e.fNeeds, d.fFrom.length ≤ maxLen) ∧ ∀ s ∈ e.fRecipe, s.length ≤ 1048576) (hf : d.fFrom.length ≤ maxLen) :
    Calls Tryz.prog 16 #[v, .string ⟨t.toArray⟩, vNeed d] w fun e w' => e = .returned (.string ⟨(provL l t d).toArray⟩) ∧ Below w.heap.size w w' := by
  obtain ⟨a, c, rfl, hl⟩ := sliceAt_len hx
  have HX := Lib.hid hx
  have HG := Lib.hid hg
  have HSV := Lib.hid (fun cs (x : EntryD) W (h : rEntry 0 W cs x) (hq : x ∈ l) => specServes_any (.agg cs.toArray) x d W ⟨cs, rfl, h⟩ (Nat.le_trans (hg x hq).1 (by decide)) (hg x hq).2.1 (hg x hq).2.2 hf)
  unfold maxLen at hl
  generalize hres : provL l t d = res
  have HRES := Lib.hid hres.symm
  clear hx hg hf hres
  obtain ⟨m0, m1, m2, m3⟩ := d
  simp only [vNeed] at HSV ⊢
  have HCT := Lib.hid (fun (s : ByteArray) W (h : s.size ≤ 140737488355328) => copyText_any s W h)
  have BS := Lib.hid (bx_start1 w [.int .i64 m0, .string ⟨m1.toArray⟩, .int .i64 m2, .int .i64 m3] 39)
  go_enter Tryz.func16, Tryz.ntmps16
  go_wp2_with fail
  go_loopw [8, 11] (fun _ i wr => ∃ k : Nat, k ≤ l.length ∧ i = .int .i64 k ∧ res = provL (l.drop k) t ⟨m0, m1, m2, m3⟩ ∧ Below w.heap.size w wr ∧ Bx wr w.heap.size [.int .i64 m0, .string ⟨m1.toArray⟩, .int .i64 m2, .int .i64 m3]) (fun _ i _ => l.length - (intOf i).toNat)
  case atStart => exact ⟨0, Nat.zero_le _, rfl, HRES.out, BS.out.2, BS.out.1⟩
  case round =>
    obtain ⟨k, hk, rfl, hres, hbr, hbx⟩ := hrel
    have HRS := Lib.hid hres
    have HBr := Lib.hid hbr
    have BNr := Lib.hid hbx
    have HXr := Lib.hid (SliceAt.below HX.out goodEntry hbr (Nat.le_refl _))
    have hszr := hbr.size
    clear hres hbr hbx
    by_cases hlt : k < l.length
    · obtain ⟨b, o, cs, rfl, hbw, hat, hd⟩ := sliceAt_cell HXr.out k hlt
      have HM := Lib.hid (List.getElem_mem hlt)
      have HDR := Lib.hid (show l.drop k = l[k] :: l.drop (k + 1) from List.drop_eq_getElem_cons hlt)
      have HS1 := Lib.hid (fun W (h : rEntry 0 W cs l[k]) => HSV.out cs l[k] W h HM.out)
      have HNL := Lib.hid (HG.out _ HM.out).1
      have HAT := Lib.hid (fun W (hb : Below wr.heap.size wr W) => goodEntry.keep hat (kept_below hb (Nat.le_refl _)))
      clear HM
      generalize l[k] = z at *
      obtain ⟨a0, a1, ⟨a2, a3⟩, l2⟩ := z
      obtain ⟨v1, v4, rfl, h1, h4⟩ := hat
      simp only at h1 h4
      obtain ⟨ra, rc, rfl, _⟩ := sliceAt_len h1
      obtain ⟨sa, sc, rfl, _⟩ := sliceAt_len h4
      have d0 := hd 0 (by decide)
      have d1 := hd 1 (by decide)
      have d2 := hd 2 (by decide)
      have d3 := hd 3 (by decide)
      have d4 := hd 4 (by decide)
      simp only [List.getElem?_cons_zero, List.getElem?_cons_succ, Nat.add_zero] at d0 d1 d2 d3 d4
      have HRS2 := Lib.hid (show res = if a0 ≠ t ∧ servesB ⟨a0, a1, ⟨a2, a3⟩, l2⟩ ⟨m0, m1, m2, m3⟩ = true then a0 else provL (l.drop (k + 1)) t ⟨m0, m1, m2, m3⟩ by rw [HRS.out, HDR.out]; rfl)
      generalize servesB ⟨a0, a1, ⟨a2, a3⟩, l2⟩ ⟨m0, m1, m2, m3⟩ = sb at *
      have BE := Lib.hid (Bx.new wr [.string ⟨a0.toArray⟩, .slice ra a1.length rc, .int .i64 a2, .int .i64 a3, .slice sa l2.length sc] 36)
      have HBN := Lib.hid (belS HBr.out (bx_box wr (.cells #[.string ⟨a0.toArray⟩, .slice ra a1.length rc, .int .i64 a2, .int .i64 a3, .slice sa l2.length sc] 36)))
      have BN1 := Lib.hid (BNr.out.alloc (.cells #[.string ⟨a0.toArray⟩, .slice ra a1.length rc, .int .i64 a2, .int .i64 a3, .slice sa l2.length sc] 36))
      have HAT1 := Lib.hid (HAT.out _ (bx_box wr (.cells #[.string ⟨a0.toArray⟩, .slice ra a1.length rc, .int .i64 a2, .int .i64 a3, .slice sa l2.length sc] 36)))
      have hkl : (k : Int) < (l.length : Int) := by omega
      clear hd HRS HDR h1 h4 HAT
      by_cases he : a0 = t
      · have HR3 := Lib.hid (show res = provL (l.drop (k + 1)) t ⟨m0, m1, m2, m3⟩ by have h := HRS2.out; rw [if_neg (by simp [he])] at h; exact h)
        have heq : (a0 == t) = true := by simp [he]
        have hne : (a0 != t) = false := by simp [he]
        clear HRS2 he
        have e0 := BE.out.cell 0 (by simp)
        have e1 := BE.out.cell 1 (by simp)
        have e2 := BE.out.cell 2 (by simp)
        have e3 := BE.out.cell 3 (by simp)
        have e4 := BE.out.cell 4 (by simp)
        simp only [List.getElem_cons_zero, List.getElem_cons_succ] at e0 e1 e2 e3 e4
        go_wp2_with fail
        exact ⟨⟨k + 1, by omega, by go_num, HR3.out, HBN.out, BN1.out⟩, by simp [intOf]; omega⟩
      · have heq : (a0 == t) = false := by simp [he]
        have hne : (a0 != t) = true := by simp [he]
        cases sb
        · have HR3 := Lib.hid (show res = provL (l.drop (k + 1)) t ⟨m0, m1, m2, m3⟩ by have h := HRS2.out; rw [if_neg (by simp)] at h; exact h)
          clear HRS2 he
          have e0 := BE.out.cell 0 (by simp)
          have e1 := BE.out.cell 1 (by simp)
          have e2 := BE.out.cell 2 (by simp)
          have e3 := BE.out.cell 3 (by simp)
          have e4 := BE.out.cell 4 (by simp)
          simp only [List.getElem_cons_zero, List.getElem_cons_succ] at e0 e1 e2 e3 e4
          have n0 := BN1.out.cell 0 (by simp)
          have n1 := BN1.out.cell 1 (by simp)
          have n2 := BN1.out.cell 2 (by simp)
          have n3 := BN1.out.cell 3 (by simp)
          simp only [List.getElem_cons_zero, List.getElem_cons_succ] at n0 n1 n2 n3
          go_wp2_with fail
          refine (HS1.out _ HAT1.out).mono ?_
          rintro e w2 ⟨rfl, hb⟩
          have HB2 := Lib.hid (belS HBN.out hb)
          have BN2 := Lib.hid (BN1.out.below hb)
          clear hb
          go_wp2_with fail
          exact ⟨⟨k + 1, by omega, by go_num, HR3.out, HB2.out, BN2.out⟩, by simp [intOf]; omega⟩
        · obtain rfl : res = a0 := by have h := HRS2.out; rw [if_pos ⟨he, rfl⟩] at h; exact h
          clear HRS2 he
          have e0 := BE.out.cell 0 (by simp)
          have e1 := BE.out.cell 1 (by simp)
          have e2 := BE.out.cell 2 (by simp)
          have e3 := BE.out.cell 3 (by simp)
          have e4 := BE.out.cell 4 (by simp)
          simp only [List.getElem_cons_zero, List.getElem_cons_succ] at e0 e1 e2 e3 e4
          have n0 := BN1.out.cell 0 (by simp)
          have n1 := BN1.out.cell 1 (by simp)
          have n2 := BN1.out.cell 2 (by simp)
          have n3 := BN1.out.cell 3 (by simp)
          simp only [List.getElem_cons_zero, List.getElem_cons_succ] at n0 n1 n2 n3
          go_wp2_with fail
          refine (HS1.out _ HAT1.out).mono ?_
          rintro e w2 ⟨rfl, hb⟩
          have HB2 := Lib.hid (belS HBN.out hb)
          have BE2 := Lib.hid (BE.out.below hb)
          clear hb e0 e1 e2 e3 e4
          have e0 := BE2.out.cell 0 (by simp)
          have e1 := BE2.out.cell 1 (by simp)
          have e2 := BE2.out.cell 2 (by simp)
          have e3 := BE2.out.cell 3 (by simp)
          have e4 := BE2.out.cell 4 (by simp)
          simp only [List.getElem_cons_zero, List.getElem_cons_succ] at e0 e1 e2 e3 e4
          go_wp2_with fail
          go_ret
          exact ⟨rfl, HB2.out⟩
    · obtain rfl : res = [] := by have h := HRS.out; rw [List.drop_eq_nil_of_le (by omega)] at h; exact h
      have hkl : ¬ (k : Int) < (l.length : Int) := by omega
      go_wp2_with fail
      go_ret
      exact ⟨rfl, HBr.out⟩
end Go.Proofs.YtlkpinlkbikokabGreat
/- Arguments opened: structs by value, slices of structs. -/
namespace Go.Proofs.YtlkpinlkbikokabGreat
set_option linter.unusedVariables false
open Go.ChangeShapes Go.WideShapes Go.ChangeAt Go.RowKit Go.WideMaps Go.WideElems
open Go.Deep
section
variable {H : Type} {enc : TypeId × Value → H} {P : Program} {W : World}
theorem leaf_str {n : Nat} {t : TypeId} {c : Value} {x : DataW H × List MemPlace} (ht : P.underlying t = some .string) (h : DataW.trod enc P W 0 (fun _ => true) true n t [c] = some x) : ∃ l : List UInt8, c = .string ⟨l.toArray⟩ ∧ l.length ≤ maxLen := by
  obtain ⟨s, h1, _, h3⟩ := DataW.trod_string ht h
  injection h1 with h1
  exact ⟨s.data.toList, by rw [h1], by rw [Array.length_toList]; exact h3⟩
theorem leaf_int {n : Nat} {t : TypeId} {c : Value} {x : DataW H × List MemPlace} (ht : P.underlying t = some (.int .i64)) (h : DataW.trod enc P W 0 (fun _ => true) true n t [c] = some x) : ∃ z : Int, c = .int .i64 z ∧ -9223372036854775808 ≤ z ∧ z ≤ 9223372036854775807 := by
  obtain ⟨z, h1, _, h3⟩ := DataW.trod_int ht h
  injection h1 with h1
  exact ⟨z, h1, bounds_i64 h3⟩
theorem leaf_bool {n : Nat} {t : TypeId} {c : Value} {x : DataW H × List MemPlace} (ht : P.underlying t = some .bool) (h : DataW.trod enc P W 0 (fun _ => true) true n t [c] = some x) : ∃ b : Bool, c = .bool b := by
  obtain ⟨b, h1, _⟩ := DataW.trod_bool ht h
  injection h1 with h1
  exact ⟨b, h1⟩
theorem field_at {fs : Array Field} {n : Nat} {cs : List Value} {xs : List (DataW H × List MemPlace)} (hl : xs.length = fs.size)
    (hf : ∀ (i : Nat) (f : Field), fs[i]? = some f → DataW.trod enc P W 0 (fun _ => true) true n f.type ((cs.drop f.offset).take (P.cellsOf f.type)) = xs[i]?) (i : Nat) (f : Field) (h : fs[i]? = some f) :
    ∃ x, DataW.trod enc P W 0 (fun _ => true) true n f.type ((cs.drop f.offset).take (P.cellsOf f.type)) = some x := by
  have hi : i < fs.size := (Array.getElem?_eq_some_iff.1 h).1
  exact ⟨xs[i]'(by omega), by rw [hf i f h, List.getElem?_eq_getElem]⟩
theorem field_one {fs : Array Field} {n : Nat} {cs : List Value} {xs : List (DataW H × List MemPlace)} (hl : xs.length = fs.size)
    (hf : ∀ (i : Nat) (f : Field), fs[i]? = some f → DataW.trod enc P W 0 (fun _ => true) true n f.type ((cs.drop f.offset).take (P.cellsOf f.type)) = xs[i]?) (i : Nat) (f : Field) (T o : Nat) (c : Value) (r : List Value) (h : fs[i]? = some f) (hT : f.type = T) (ho : f.offset = o) (hc : P.cellsOf T = 1) (hd : cs.drop o = c :: r) :
    ∃ x, DataW.trod enc P W 0 (fun _ => true) true n T [c] = some x := by
  obtain ⟨x, hx⟩ := field_at hl hf i f h
  subst hT; subst ho
  rw [hc, hd] at hx
  exact ⟨x, hx⟩
/-- a slice of structs of texts and numbers -/
theorem open_flat {α : Type} [Inhabited α] {f : α → List Value} {k : Nat} {G : α → Prop} (hk : ∀ x, (f x).length = k) (hk0 : 0 < k) {t e : TypeId} {n : Nat} {v : Value} {x : DataW H × List MemPlace} (ht : P.underlying t = some (.slice e)) (hc : P.cellsOf e = k)
    (hel : ∀ n cs x, DataW.trod enc P W 0 (fun _ => true) true n e cs = some x → ∃ d, cs = f d ∧ G d) (h : DataW.trod enc P W 0 (fun _ => true) true n t [v] = some x) :
    ∃ l : List α, FlatAt f k W v l ∧ ∀ d ∈ l, G d := by
  rcases open_slice ht h with ⟨h0, _⟩ | ⟨a, len, cap, m, n', D, Pl, hcs, _, hl, hm, hmm, _, hx⟩
  · injection h0 with h0
    subst h0
    exact ⟨[], ⟨none, 0, rfl, by simp, Nat.zero_le _, Or.inl rfl⟩, by simp⟩
  · injection hcs with hcs
    subst hcs
    simp only [if_true] at hmm
    subst hmm
    obtain ⟨F, hF⟩ := choose_lt (α := α) (p := fun i d => (∀ j, j < k → W.cell? ((a.add (i * k)).add j) = (f d)[j]?) ∧ G d) (n := m) (fun i hi => by
      obtain ⟨cs', h1, h2⟩ := hx i hi
      obtain ⟨d, rfl, hg⟩ := hel _ _ _ h2
      rw [hc] at h1
      obtain ⟨_, _, h3⟩ := World.cells?_some h1
      exact ⟨d, h3, hg⟩)
    refine ⟨(List.range len).map F, ?_, ?_⟩
    · obtain ⟨ab, ao, spot⟩ := a
      refine ⟨some ⟨ab, ao, spot⟩, m - len, by simp; omega, by rw [flat_len f k hk, List.length_map], by simp; omega, ?_⟩
      rcases Nat.eq_zero_or_pos len with h0 | hpos
      · left; simp [h0]
      · right
        have g0 := (hF 0 (by omega)).1 0 hk0
        have hlen0 : 0 < (f (F 0)).length := by rw [hk]; exact hk0
        rw [List.getElem?_eq_getElem hlen0] at g0
        have hspot : spot = none := by
          have := World.cell?_spot g0
          simpa [Addr.add] using this
        subst hspot
        have hlt : ab < W.heap.size := by
          simp only [Addr.add_lit, Nat.zero_mul, Nat.add_zero] at g0
          exact World.block_lt_of_cell? W _ g0
        refine ⟨ab, ao, rfl, hlt, fun i hi => ?_⟩
        rw [List.length_map, List.length_range] at hi
        have hq : i / k < len := Nat.div_lt_of_lt_mul (by rw [Nat.mul_comm]; exact hi)
        have hr : i % k < k := Nat.mod_lt _ hk0
        have h1 := (hF (i / k) (by omega)).1 (i % k) hr
        rw [Addr.add_lit, Addr.add_lit] at h1
        have e1 : i / k * k + i % k = i := by rw [Nat.mul_comm]; exact Nat.div_add_mod i k
        rw [show ao + i / k * k + i % k = ao + i by omega] at h1
        rw [h1, ← e1, flat_get f k hk _ (i / k) (by simpa using hq) (i % k) hr]
        simp [e1]
    · intro d hd
      obtain ⟨i, hi, rfl⟩ := List.mem_map.1 hd
      exact (hF i (by have := List.mem_range.1 hi; omega)).2
theorem two_of {α : Type} {l : List α} (h : l.length = 2) : ∃ a b, l = [a, b] := by match l, h with | [a, b], _ => exact ⟨a, b, rfl⟩
theorem three_of {α : Type} {l : List α} (h : l.length = 3) : ∃ a b c, l = [a, b, c] := by match l, h with | [a, b, c], _ => exact ⟨a, b, c, rfl⟩
theorem four_of {α : Type} {l : List α} (h : l.length = 4) : ∃ a b c d, l = [a, b, c, d] := by match l, h with | [a, b, c, d], _ => exact ⟨a, b, c, d, rfl⟩
theorem five_of {α : Type} {l : List α} (h : l.length = 5) : ∃ a b c d e, l = [a, b, c, d, e] := by match l, h with | [a, b, c, d, e], _ => exact ⟨a, b, c, d, e, rfl⟩
end
section
variable {H : Type} {enc : TypeId × Value → H} {W : World}
end
end Go.Proofs.YtlkpinlkbikokabGreat
/- Call: what the laws' own helpers do with it. Written by gen/flat.py. -/
namespace Go.Proofs.YtlkpinlkbikokabGreat
set_option linter.unusedVariables false
open Go.RowKit
structure CallD where
  fMethod : List UInt8
  fKey : List UInt8
  fValue : Int
  fText : List UInt8
deriving DecidableEq
def okCall (d : CallD) : Prop := (d.fMethod.length ≤ maxLen) ∧ (d.fKey.length ≤ maxLen) ∧ (-9223372036854775808 ≤ d.fValue ∧ d.fValue ≤ 9223372036854775807) ∧ (d.fText.length ≤ maxLen)
def vCall (d : CallD) : Value := .agg #[.string ⟨d.fMethod.toArray⟩, .string ⟨d.fKey.toArray⟩, .int .i64 d.fValue, .string ⟨d.fText.toArray⟩]
def cCall (d : CallD) : List Value := [.string ⟨d.fMethod.toArray⟩, .string ⟨d.fKey.toArray⟩, .int .i64 d.fValue, .string ⟨d.fText.toArray⟩]
theorem cCall_len (d : CallD) : (cCall d).length = 4 := rfl
theorem cCall_one (d : CallD) : ∀ u ∈ cCall d, u.oneCell' = true := by intro u hu; simp only [cCall, List.mem_cons, List.not_mem_nil, or_false] at hu; rcases hu with rfl | rfl | rfl | rfl <;> rfl
set_option maxHeartbeats 800000 in
theorem eqCall_any (x y : CallD) (w : World) :
    Calls Tryz.prog 72 #[vCall x, vCall y] w fun e w' => e = .returned (.bool (decide (x = y))) ∧ Below w.heap.size w w' := by
  obtain ⟨a0, a1, a2, a3⟩ := x
  obtain ⟨b0, b1, b2, b3⟩ := y
  unfold vCall
  by_cases h0 : a0 = b0
  · by_cases h1 : a1 = b1
    · by_cases h2 : a2 = b2
      · by_cases h3 : a3 = b3
        · have HN := Lib.hid (show decide ((⟨a0, a1, a2, a3⟩ : CallD) = (⟨b0, b1, b2, b3⟩ : CallD)) = true by rw [h0, h1, h2, h3]; simp)
          subst h0 h1 h2 h3
          go_enter Tryz.func72, Tryz.ntmps72
          go_wp2
          go_ret
          exact ⟨ret_bool HN.out.symm, ((Below.refl _ _).alloc (Nat.le_refl _) _).alloc (by simp) _⟩
        · have HN := Lib.hid (show decide ((⟨a0, a1, a2, a3⟩ : CallD) = (⟨b0, b1, b2, b3⟩ : CallD)) = false by rw [decide_eq_false_iff_not]; exact fun e => h3 (by injection e))
          have hne3 : (a3 == b3) = false := by simpa using h3
          have hnf3 : (a3 != b3) = true := by simpa using h3
          subst h0 h1 h2
          clear h3
          go_enter Tryz.func72, Tryz.ntmps72
          go_wp2
          go_ret
          exact ⟨ret_bool HN.out.symm, ((Below.refl _ _).alloc (Nat.le_refl _) _).alloc (by simp) _⟩
      · have HN := Lib.hid (show decide ((⟨a0, a1, a2, a3⟩ : CallD) = (⟨b0, b1, b2, b3⟩ : CallD)) = false by rw [decide_eq_false_iff_not]; exact fun e => h2 (by injection e))
        have hne2 : (a2 == b2) = false := by simpa using h2
        have hnf2 : (a2 != b2) = true := by simpa using h2
        subst h0 h1
        clear h2
        go_enter Tryz.func72, Tryz.ntmps72
        go_wp2
        go_ret
        exact ⟨ret_bool HN.out.symm, ((Below.refl _ _).alloc (Nat.le_refl _) _).alloc (by simp) _⟩
    · have HN := Lib.hid (show decide ((⟨a0, a1, a2, a3⟩ : CallD) = (⟨b0, b1, b2, b3⟩ : CallD)) = false by rw [decide_eq_false_iff_not]; exact fun e => h1 (by injection e))
      have hne1 : (a1 == b1) = false := by simpa using h1
      have hnf1 : (a1 != b1) = true := by simpa using h1
      subst h0
      clear h1
      go_enter Tryz.func72, Tryz.ntmps72
      go_wp2
      go_ret
      exact ⟨ret_bool HN.out.symm, ((Below.refl _ _).alloc (Nat.le_refl _) _).alloc (by simp) _⟩
  · have HN := Lib.hid (show decide ((⟨a0, a1, a2, a3⟩ : CallD) = (⟨b0, b1, b2, b3⟩ : CallD)) = false by rw [decide_eq_false_iff_not]; exact fun e => h0 (by injection e))
    have hne0 : (a0 == b0) = false := by simpa using h0
    have hnf0 : (a0 != b0) = true := by simpa using h0
    clear h0
    go_enter Tryz.func72, Tryz.ntmps72
    go_wp2
    go_ret
    exact ⟨ret_bool HN.out.symm, ((Below.refl _ _).alloc (Nat.le_refl _) _).alloc (by simp) _⟩
set_option maxHeartbeats 800000 in
theorem toCall_any (x : CallD) (w : World) :
    Calls Tryz.prog 68 #[vCall x] w fun e w' => e = .returned (vCall x) ∧ Below w.heap.size w w' := by
  obtain ⟨a0, a1, a2, a3⟩ := x
  unfold vCall
  go_enter Tryz.func68, Tryz.ntmps68
  go_wp2
  exact bodyPost_ret (v := .agg #[.string ⟨a0.toArray⟩, .string ⟨a1.toArray⟩, .int .i64 a2, .string ⟨a3.toArray⟩]) (by simp [results, Tryz.results68, go_sem]) rfl ⟨rfl, ((((Below.refl _ _).alloc (Nat.le_refl _) _).alloc (by simp) _).alloc (by simp; try omega) _)⟩
def zCall (d : CallD) : Nat := d.fMethod.length + d.fKey.length + d.fText.length
set_option maxHeartbeats 800000 in
theorem szCall_any (x : CallD) (left : Int) (w : World) (h0 : 0 ≤ left) (h1 : left ≤ 1099511627776) (hs : okCall x) :
    Calls Tryz.prog 65 #[vCall x, .int .i64 left] w fun e w' => SzF (zCall x) left w e w' := by
  obtain ⟨a0, a1, a2, a3⟩ := x
  obtain ⟨hs0, hs1, hs2, hs3⟩ := hs
  simp only [vCall, zCall] at *
  unfold maxLen at *
  have HZ0 := Lib.hid (size_strB a0)
  have HZ1 := Lib.hid (size_strB a1)
  have HZ3 := Lib.hid (size_strB a3)
  by_cases hn0 : left - (a0.length : Int) < 0
  · go_enter Tryz.func65, Tryz.ntmps65
    go_wp2
    go_ret
    exact ⟨-1, rfl, by omega, by omega, (Below.refl _ _).alloc (Nat.le_refl _) _⟩
  · by_cases hn1 : left - (a0.length : Int) - (a1.length : Int) < 0
    · go_enter Tryz.func65, Tryz.ntmps65
      go_wp2
      go_ret
      exact ⟨-1, rfl, by omega, by omega, (Below.refl _ _).alloc (Nat.le_refl _) _⟩
    · by_cases hn2 : left - (a0.length : Int) - (a1.length : Int) - (a3.length : Int) < 0
      · go_enter Tryz.func65, Tryz.ntmps65
        go_wp2
        go_ret
        exact ⟨-1, rfl, by omega, by omega, (Below.refl _ _).alloc (Nat.le_refl _) _⟩
      · go_enter Tryz.func65, Tryz.ntmps65
        go_wp2
        go_ret
        exact ⟨_, rfl, by omega, by push_cast; omega, (Below.refl _ _).alloc (Nat.le_refl _) _⟩
theorem infoCall : (Tryz.prog.info? 63).map (fun i => (i.zero, i.size, i.bytes)) = some (some (.agg #[.string ⟨#[]⟩, .string ⟨#[]⟩, .int .i64 0, .string ⟨#[]⟩]), 4, 56) := by kernel_rfl
def marksCall (k : Int) (n : Nat) : List CallD := (List.range n).map fun i : Nat => ⟨markL (k + i * 4), markL (k + i * 4 + 1), k + i * 4 + 1 + 1, markL (k + i * 4 + 1 + 1 + 1)⟩
theorem marksCall_len (k : Int) (n : Nat) : (marksCall k n).length = n := by simp [marksCall]
theorem marksCall_get (k : Int) (n i : Nat) (h : i < n) : (marksCall k n)[i]'(by rw [marksCall_len]; exact h) = ⟨markL (k + i * 4), markL (k + i * 4 + 1), k + i * 4 + 1 + 1, markL (k + i * 4 + 1 + 1 + 1)⟩ := by simp [marksCall]
end Go.Proofs.YtlkpinlkbikokabGreat
/- Arguments opened: flat structs. Written by gen/openflat.py. -/
namespace Go.Proofs.YtlkpinlkbikokabGreat
set_option linter.unusedVariables false
open Go.ChangeShapes Go.WideShapes Go.ChangeAt Go.RowKit Go.WideMaps Go.WideElems
open Go.Deep
section
variable {H : Type} {enc : TypeId × Value → H} {W : World}
end
end Go.Proofs.YtlkpinlkbikokabGreat
/- Arguments opened: flat structs. Written by gen/openflat.py. -/
namespace Go.Proofs.YtlkpinlkbikokabGreat
set_option linter.unusedVariables false
open Go.ChangeShapes Go.WideShapes Go.ChangeAt Go.RowKit Go.WideMaps Go.WideElems
open Go.Deep
section
variable {H : Type} {enc : TypeId × Value → H} {W : World}
set_option maxRecDepth 100000 in
theorem open_Call {n : Nat} {cs : List Value} {x : DataW H × List MemPlace} (h : DataW.trod enc Tryz.prog W 0 (fun _ => true) true n 58 cs = some x) : ∃ d : CallD, cs = cCall d ∧ okCall d := by
  obtain ⟨xs, m, rfl, _, hl, hn, hf⟩ := DataW.trod_struct Tryz.underlying58 h
  rw [show Tryz.prog.cellsOf 58 = 4 by kernel_rfl] at hl
  obtain ⟨c0, c1, c2, c3, rfl⟩ := four_of hl
  obtain ⟨y0, k0⟩ := field_one hn hf 0 _ 9 0 _ _ rfl rfl rfl (by kernel_rfl) rfl
  obtain ⟨y1, k1⟩ := field_one hn hf 1 _ 9 1 _ _ rfl rfl rfl (by kernel_rfl) rfl
  obtain ⟨y2, k2⟩ := field_one hn hf 2 _ 3 2 _ _ rfl rfl rfl (by kernel_rfl) rfl
  obtain ⟨y3, k3⟩ := field_one hn hf 3 _ 9 3 _ _ rfl rfl rfl (by kernel_rfl) rfl
  obtain ⟨l0, rfl, b0⟩ := leaf_str Tryz.underlying9 k0
  obtain ⟨l1, rfl, b1⟩ := leaf_str Tryz.underlying9 k1
  obtain ⟨l2, rfl, b2⟩ := leaf_int Tryz.underlying3 k2
  obtain ⟨l3, rfl, b3⟩ := leaf_str Tryz.underlying9 k3
  exact ⟨⟨l0, l1, l2, l3⟩, rfl, b0, b1, b2, b3⟩
set_option maxRecDepth 100000 in
theorem arg_Call {base : Nat} {v : Value} {d : DataW H} {p : List MemPlace} (hval : Value.okWide Tryz.prog W .any base 58 v) (h : DataW.Trod enc Tryz.prog W 0 (fun _ => true) true 58 v d p) : ∃ d : CallD, v = vCall d ∧ okCall d := by
  obtain ⟨cs, rfl, _⟩ := okWide_struct Tryz.underlying58 hval
  obtain ⟨fuel, hf⟩ := h
  obtain ⟨d, h1, h2⟩ := open_Call hf
  refine ⟨d, ?_, h2⟩
  simp only [Value.cells] at h1
  unfold vCall
  congr 1
  exact Array.toList_inj.1 h1
set_option maxRecDepth 100000 in
theorem open_Version {n : Nat} {cs : List Value} {x : DataW H × List MemPlace} (h : DataW.trod enc Tryz.prog W 0 (fun _ => true) true n 24 cs = some x) : ∃ d : VersionD, cs = cVersion d ∧ okVersion d := by
  obtain ⟨xs, m, rfl, _, hl, hn, hf⟩ := DataW.trod_struct Tryz.underlying24 h
  rw [show Tryz.prog.cellsOf 24 = 2 by kernel_rfl] at hl
  obtain ⟨c0, c1, rfl⟩ := two_of hl
  obtain ⟨y0, k0⟩ := field_one hn hf 0 _ 3 0 _ _ rfl rfl rfl (by kernel_rfl) rfl
  obtain ⟨y1, k1⟩ := field_one hn hf 1 _ 3 1 _ _ rfl rfl rfl (by kernel_rfl) rfl
  obtain ⟨l0, rfl, b0⟩ := leaf_int Tryz.underlying3 k0
  obtain ⟨l1, rfl, b1⟩ := leaf_int Tryz.underlying3 k1
  exact ⟨⟨l0, l1⟩, rfl, b0, b1⟩
set_option maxRecDepth 100000 in
theorem arg_Version {base : Nat} {v : Value} {d : DataW H} {p : List MemPlace} (hval : Value.okWide Tryz.prog W .any base 24 v) (h : DataW.Trod enc Tryz.prog W 0 (fun _ => true) true 24 v d p) : ∃ d : VersionD, v = vVersion d ∧ okVersion d := by
  obtain ⟨cs, rfl, _⟩ := okWide_struct Tryz.underlying24 hval
  obtain ⟨fuel, hf⟩ := h
  obtain ⟨d, h1, h2⟩ := open_Version hf
  refine ⟨d, ?_, h2⟩
  simp only [Value.cells] at h1
  unfold vVersion
  congr 1
  exact Array.toList_inj.1 h1
end
end Go.Proofs.YtlkpinlkbikokabGreat
/- Arguments opened: needs. -/
namespace Go.Proofs.YtlkpinlkbikokabGreat
set_option linter.unusedVariables false
open Go.ChangeShapes Go.WideShapes Go.ChangeAt Go.RowKit Go.WideMaps Go.WideElems
open Go.Deep
section
variable {H : Type} {enc : TypeId × Value → H} {W : World}
set_option maxRecDepth 100000 in
theorem open_Need {n : Nat} {cs : List Value} {x : DataW H × List MemPlace} (h : DataW.trod enc Tryz.prog W 0 (fun _ => true) true n 29 cs = some x) : ∃ d : NeedD, cs = cNeed d ∧ okNeed d := by
  obtain ⟨xs, m, rfl, _, hl, hn, hf⟩ := DataW.trod_struct Tryz.underlying29 h
  rw [show Tryz.prog.cellsOf 29 = 4 by kernel_rfl] at hl
  obtain ⟨c0, c1, c2, c3, rfl⟩ := four_of hl
  obtain ⟨y0, k0⟩ := field_one hn hf 0 _ 3 0 _ _ rfl rfl rfl (by kernel_rfl) rfl
  obtain ⟨y1, k1⟩ := field_one hn hf 1 _ 9 1 _ _ rfl rfl rfl (by kernel_rfl) rfl
  obtain ⟨y2, k2⟩ := field_at hn hf 2 _ rfl
  have k2 : DataW.trod enc Tryz.prog W 0 (fun _ => true) true m 24 [c2, c3] = some y2 := by
    have e : Tryz.prog.cellsOf 24 = 2 := by kernel_rfl
    simpa [e] using k2
  obtain ⟨l0, rfl, b0⟩ := leaf_int Tryz.underlying3 k0
  obtain ⟨l1, rfl, b1⟩ := leaf_str Tryz.underlying9 k1
  obtain ⟨⟨v0, v1⟩, e2, b2, b3⟩ := open_Version k2
  simp only [cVersion] at e2
  injection e2 with e2 e3
  injection e3 with e3 _
  subst e2 e3
  exact ⟨⟨l0, l1, v0, v1⟩, rfl, b0, b1, b2, b3⟩
set_option maxRecDepth 100000 in
theorem arg_Need {base : Nat} {v : Value} {d : DataW H} {p : List MemPlace} (hval : Value.okWide Tryz.prog W .any base 29 v) (h : DataW.Trod enc Tryz.prog W 0 (fun _ => true) true 29 v d p) : ∃ d : NeedD, v = vNeed d ∧ okNeed d := by
  obtain ⟨cs, rfl, _⟩ := okWide_struct Tryz.underlying29 hval
  obtain ⟨fuel, hf⟩ := h
  obtain ⟨d, h1, h2⟩ := open_Need hf
  refine ⟨d, ?_, h2⟩
  simp only [Value.cells] at h1
  unfold vNeed
  congr 1
  exact Array.toList_inj.1 h1
end
end Go.Proofs.YtlkpinlkbikokabGreat
/- Arguments opened: slices of needs. -/
namespace Go.Proofs.YtlkpinlkbikokabGreat
set_option linter.unusedVariables false
open Go.ChangeShapes Go.WideShapes Go.ChangeAt Go.RowKit Go.WideMaps Go.WideElems
open Go.Deep
section
variable {H : Type} {enc : TypeId × Value → H} {W : World}
set_option maxRecDepth 100000 in
theorem openS_Need {n : Nat} {v : Value} {x : DataW H × List MemPlace} (h : DataW.trod enc Tryz.prog W 0 (fun _ => true) true n 25 [v] = some x) : ∃ l : List NeedD, FlatAt cNeed 4 W v l ∧ ∀ d ∈ l, okNeed d :=
  haveI : Inhabited NeedD := ⟨⟨0, [], 0, 0⟩⟩
  open_flat cNeed_len (by decide) Tryz.underlying25 (by kernel_rfl) (fun _ _ _ h => open_Need h) h
end
end Go.Proofs.YtlkpinlkbikokabGreat
/- Arguments opened: slices of structs that hold rows themselves. -/
namespace Go.Proofs.YtlkpinlkbikokabGreat
set_option linter.unusedVariables false
open Go.ChangeShapes Go.WideShapes Go.ChangeAt Go.RowKit Go.WideMaps Go.WideElems
open Go.Deep
section
variable {H : Type} {enc : TypeId × Value → H} {P : Program} {W : World}
theorem open_deep {α : Type} [Inhabited α] {R : Nat → World → List Value → α → Prop} {k : Nat} {G : α → Prop} (hg : Good R k) (hk0 : 0 < k) {t e : TypeId} {n : Nat} {v : Value} {x : DataW H × List MemPlace} (ht : P.underlying t = some (.slice e)) (hc : P.cellsOf e = k)
    (hel : ∀ n cs x, DataW.trod enc P W 0 (fun _ => true) true n e cs = some x → ∃ d, R 0 W cs d ∧ G d) (h : DataW.trod enc P W 0 (fun _ => true) true n t [v] = some x) :
    ∃ l : List α, SliceAt R k 0 W v l ∧ ∀ d ∈ l, G d := by
  rcases open_slice ht h with ⟨h0, _⟩ | ⟨a, len, cap, m, n', D, Pl, hcs, _, hl, hm, hmm, _, hx⟩
  · injection h0 with h0
    subst h0
    exact ⟨[], sliceAt_nil _ _, by simp⟩
  · injection hcs with hcs
    subst hcs
    simp only [if_true] at hmm
    subst hmm
    obtain ⟨F, hF⟩ := choose_lt (α := α) (p := fun i d => (∃ cs, R 0 W cs d ∧ ∀ j, j < k → W.cell? ((a.add (i * k)).add j) = cs[j]?) ∧ G d) (n := m) (fun i hi => by
      obtain ⟨cs', h1, h2⟩ := hx i hi
      obtain ⟨d, hr, hg2⟩ := hel _ _ _ h2
      rw [hc] at h1
      obtain ⟨_, _, h3⟩ := World.cells?_some h1
      exact ⟨d, ⟨cs', hr, h3⟩, hg2⟩)
    refine ⟨(List.range len).map F, ?_, ?_⟩
    · obtain ⟨ab, ao, spot⟩ := a
      refine ⟨some ⟨ab, ao, spot⟩, m - len, by simp; omega, by simp; omega, ?_⟩
      rcases Nat.eq_zero_or_pos len with h0 | hpos
      · left; simp [h0]
      · right
        obtain ⟨cs0, r0, g0⟩ := (hF 0 (by omega)).1
        have g0 := g0 0 hk0
        have hlen0 : 0 < cs0.length := by rw [hg.len r0]; exact hk0
        rw [List.getElem?_eq_getElem hlen0] at g0
        have hspot : spot = none := by
          have := World.cell?_spot g0
          simpa [Addr.add] using this
        subst hspot
        have hlt : ab < W.heap.size := by
          simp only [Addr.add_lit, Nat.zero_mul, Nat.add_zero] at g0
          exact World.block_lt_of_cell? W _ g0
        refine ⟨ab, ao, rfl, Nat.zero_le _, hlt, fun i hi => ?_⟩
        have hi2 : i < len := by simpa using hi
        obtain ⟨cs, r1, g1⟩ := (hF i (by omega)).1
        refine ⟨cs, by simpa using r1, fun j hj => ?_⟩
        have h2 := g1 j hj
        rw [Addr.add_lit, Addr.add_lit] at h2
        exact h2
    · intro d hd
      obtain ⟨i, hi, rfl⟩ := List.mem_map.1 hd
      exact (hF i (by have := List.mem_range.1 hi; omega)).2
end
end Go.Proofs.YtlkpinlkbikokabGreat
/- Arguments opened: slices of entries. -/
namespace Go.Proofs.YtlkpinlkbikokabGreat
set_option linter.unusedVariables false
open Go.ChangeShapes Go.WideShapes Go.ChangeAt Go.RowKit Go.WideMaps Go.WideElems
open Go.Deep
theorem belEntry {w w' : World} {cs : List Value} {x : EntryD} {F B : Nat} (h : rEntry F w cs x) (hb : Below B w w') (hB : w.heap.size ≤ B) : rEntry F w' cs x := goodEntry.keep h (kept_below hb hB)
theorem belEntryS {w w' : World} {v : Value} {l : List EntryD} {F B : Nat} (h : SliceAt rEntry 5 F w v l) (hb : Below B w w') (hB : w.heap.size ≤ B) : SliceAt rEntry 5 F w' v l := h.below goodEntry hb hB
theorem zeroEntryS {w : World} {v : Value} {l : List EntryD} {F : Nat} (h : SliceAt rEntry 5 F w v l) : SliceAt rEntry 5 0 w v l := h.mono goodEntry (Nat.zero_le _)
section
variable {H : Type} {enc : TypeId × Value → H} {W : World}
theorem openS_Str {n : Nat} {v : Value} {x : DataW H × List MemPlace} (h : DataW.trod enc Tryz.prog W 0 (fun _ => true) true n 22 [v] = some x) : ∃ l : List (List UInt8), FlatAt cStr 1 W v l ∧ ∀ s ∈ l, s.length ≤ maxLen :=
  open_flat cStr_len (by decide) Tryz.underlying22 (by kernel_rfl) (fun n cs x h => by
    have h2 := h
    obtain ⟨s, h1, _, h3⟩ := DataW.trod_string Tryz.underlying9 h2
    exact ⟨s.data.toList, by rw [h1]; simp [cStr, strV], by rw [Array.length_toList]; exact h3⟩) h
set_option maxRecDepth 100000 in
theorem openR_Entry {n : Nat} {cs : List Value} {x : DataW H × List MemPlace} (h : DataW.trod enc Tryz.prog W 0 (fun _ => true) true n 27 cs = some x) : ∃ d : EntryD, rEntry 0 W cs d ∧ okEntry d := by
  obtain ⟨xs, m, rfl, _, hl, hn, hf⟩ := DataW.trod_struct Tryz.underlying27 h
  rw [show Tryz.prog.cellsOf 27 = 5 by kernel_rfl] at hl
  obtain ⟨c0, c1, c2, c3, c4, rfl⟩ := five_of hl
  obtain ⟨y0, k0⟩ := field_one hn hf 0 _ 9 0 _ _ rfl rfl rfl (by kernel_rfl) rfl
  obtain ⟨y1, k1⟩ := field_one hn hf 1 _ 22 1 _ _ rfl rfl rfl (by kernel_rfl) rfl
  obtain ⟨y2, k2⟩ := field_at hn hf 2 _ rfl
  have k2 : DataW.trod enc Tryz.prog W 0 (fun _ => true) true m 24 [c2, c3] = some y2 := by
    have e : Tryz.prog.cellsOf 24 = 2 := by kernel_rfl
    simpa [e] using k2
  obtain ⟨y3, k3⟩ := field_one hn hf 3 _ 25 4 _ _ rfl rfl rfl (by kernel_rfl) rfl
  obtain ⟨l0, rfl, b0⟩ := leaf_str Tryz.underlying9 k0
  obtain ⟨l1, b1, g1⟩ := openS_Str k1
  obtain ⟨⟨v0, v1⟩, e2, b2, b3⟩ := open_Version k2
  obtain ⟨l4, b4, g4⟩ := openS_Need k3
  simp only [cVersion] at e2
  injection e2 with e2 e3
  injection e3 with e3 _
  subst e2 e3
  exact ⟨⟨l0, l1, ⟨v0, v1⟩, l4⟩, ⟨c1, c4, rfl, sliceAt_of_flat cStr_len b1, sliceAt_of_flat cNeed_len b4⟩, b0, g1, ⟨b2, b3⟩, g4⟩
set_option maxRecDepth 100000 in
theorem argS_Entry {base : Nat} {v : Value} {d : DataW H} {p : List MemPlace} (hval : Value.okWide Tryz.prog W .any base 43 v) (h : DataW.Trod enc Tryz.prog W 0 (fun _ => true) true 43 v d p) : ∃ l : List EntryD, SliceAt rEntry 5 0 W v l ∧ ∀ d ∈ l, okEntry d := by
  obtain ⟨a1, len, cap, rfl⟩ := okWide_slice Tryz.underlying43 hval
  obtain ⟨fuel, hf⟩ := h
  haveI : Inhabited EntryD := ⟨⟨[], [], ⟨0, 0⟩, []⟩⟩
  exact open_deep goodEntry (by decide) Tryz.underlying43 (by kernel_rfl) (fun _ _ _ h => openR_Entry h) hf
set_option maxRecDepth 100000 in
theorem arg_Entry {base : Nat} {v : Value} {d : DataW H} {p : List MemPlace} (hval : Value.okWide Tryz.prog W .any base 27 v) (h : DataW.Trod enc Tryz.prog W 0 (fun _ => true) true 27 v d p) : ∃ d : EntryD, ValAt rEntry 0 W v d ∧ okEntry d := by
  obtain ⟨cs, rfl, _⟩ := okWide_struct Tryz.underlying27 hval
  obtain ⟨fuel, hf⟩ := h
  obtain ⟨d, h1, h2⟩ := openR_Entry hf
  exact ⟨d, ⟨cs.toList, by simp, h1⟩, h2⟩
end
end Go.Proofs.YtlkpinlkbikokabGreat
namespace Go.Proofs.YtlkpinlkbikokabGreat
set_option linter.unusedVariables false
open Go.ChangeShapes Go.WideShapes Go.ChangeAt Go.RowKit Go.WideMaps Go.WideElems
open Go.ChangeMaps (open_string shut_string)
set_option maxRecDepth 100000 in
set_option maxHeartbeats 3200000 in
theorem exactProviderOf_any (v0 : Value) (x0 : List EntryD) (x1 : ByteArray) (x2 : NeedD) (w : World) (a0 : SliceAt rEntry 5 0 w v0 x0) (g0 : ∀ d ∈ x0, okEntry d) (h1 : x1.size ≤ maxLen) (g2 : okNeed x2) :
    Calls Tryz.prog 4 #[v0, .string x1, (vNeed x2)] w fun e w' => e = .returned (.bool true) ∧ Below w.heap.size w w' := by
  obtain ⟨n2_0, n2_1, n2_2, n2_3⟩ := x2
  unfold vNeed
  simp only at *
  have A0 := Lib.hid a0
  have G0 := Lib.hid g0
  clear a0 g0
  have G2 := Lib.hid g2
  clear g2
  unfold maxLen at h1
  by_cases hb1 : 1048576 < x1.size
  · go_enter Tryz.func4, Tryz.ntmps4
    go_wp2_with fail
    go_ret
    exact ⟨rfl, below_to (Below.refl w.heap.size w) (by repeat (first | exact Below.refl _ _ | refine Below.alloc ?_ (by simp; try omega) _ | refine Below.setCell ?_ (by simp; try omega) _ | refine belN ?_ _ | refine belD ?_))⟩
  · have HS1 := Lib.hid (show x1.size ≤ 1048576 by omega)
    go_enter Tryz.func4, Tryz.ntmps4
    go_wp2_with fail
    refine (szEntryS_d v0 x0 1048576 _ (belEntryS A0.out (by repeat (first | exact Below.refl _ _ | refine Below.alloc ?_ (by simp; try omega) _ | refine Below.setCell ?_ (by simp; try omega) _ | refine belN ?_ _ | refine belD ?_)) (Nat.le_refl _)) G0.out (by omega) (by omega)).mono ?_
    rintro e w1 ⟨r0, rfl, hr0a, hr0b, hb0⟩
    have hb := below_step (w := w) (by repeat (first | exact Below.refl _ _ | refine Below.alloc ?_ (by simp; try omega) _ | refine Below.setCell ?_ (by simp; try omega) _ | refine belN ?_ _ | refine belD ?_)) hb0
    have Cw_w1 := Lib.hid hb
    have A0_w1 := Lib.hid (belEntryS A0.out hb (Nat.le_refl _))
    have ep2_0_w1 : w1.cell? ⟨w.heap.size, 0, none⟩ = some (.int .i64 n2_0) := by rw [hb0.cell (p := ⟨w.heap.size, 0, none⟩) (by simp; try omega)]; simp
    have ep2_1_w1 : w1.cell? ⟨w.heap.size, 1, none⟩ = some (.string ⟨n2_1.toArray⟩) := by rw [hb0.cell (p := ⟨w.heap.size, 1, none⟩) (by simp; try omega)]; simp
    have ep2_2_w1 : w1.cell? ⟨w.heap.size, 2, none⟩ = some (.int .i64 n2_2) := by rw [hb0.cell (p := ⟨w.heap.size, 2, none⟩) (by simp; try omega)]; simp
    have ep2_3_w1 : w1.cell? ⟨w.heap.size, 3, none⟩ = some (.int .i64 n2_3) := by rw [hb0.cell (p := ⟨w.heap.size, 3, none⟩) (by simp; try omega)]; simp
    have Lp2_w1 : w.heap.size < w1.heap.size := by have h := hb0.size; simp at h; omega
    clear hb hb0
    by_cases hr0 : r0 < 0
    · clear hr0b
      go_wp2_with fail
      go_ret
      exact ⟨rfl, below_to Cw_w1.out (by repeat (first | exact Below.refl _ _ | refine Below.alloc ?_ (by simp; try omega) _ | refine Below.setCell ?_ (by simp; try omega) _ | refine belN ?_ _ | refine belD ?_))⟩
    · have hs0 := hr0b (by omega)
      clear hr0b
      go_wp2_with fail
      refine (szNeed_any (⟨n2_0, n2_1, n2_2, n2_3⟩ : NeedD) r0 _ (by omega) (by omega) G2.out).mono ?_
      rintro e w2 ⟨r2, rfl, hr2a, hr2b, hb0⟩
      have hb := below_step (w := w1) (by repeat (first | exact Below.refl _ _ | refine Below.alloc ?_ (by simp; try omega) _ | refine Below.setCell ?_ (by simp; try omega) _ | refine belN ?_ _ | refine belD ?_)) hb0
      have Cw_w2 := Lib.hid (Cw_w1.out.trans (hb.mono Cw_w1.out.size))
      have A0_w2 := Lib.hid (belEntryS A0_w1.out hb (Nat.le_refl _))
      have ep2_0_w2 := (hb.cell (p := ⟨w.heap.size, 0, none⟩) Lp2_w1).trans ep2_0_w1
      have ep2_1_w2 := (hb.cell (p := ⟨w.heap.size, 1, none⟩) Lp2_w1).trans ep2_1_w1
      have ep2_2_w2 := (hb.cell (p := ⟨w.heap.size, 2, none⟩) Lp2_w1).trans ep2_2_w1
      have ep2_3_w2 := (hb.cell (p := ⟨w.heap.size, 3, none⟩) Lp2_w1).trans ep2_3_w1
      have Lp2_w2 : w.heap.size < w2.heap.size := by have h := hb.size; omega
      clear ep2_0_w1 ep2_1_w1 ep2_2_w1 ep2_3_w1 Lp2_w1
      clear hb hb0
      by_cases hr2 : r2 < 0
      · clear hr2b
        go_wp2_with fail
        go_ret
        exact ⟨rfl, below_to Cw_w2.out (by repeat (first | exact Below.refl _ _ | refine Below.alloc ?_ (by simp; try omega) _ | refine Below.setCell ?_ (by simp; try omega) _ | refine belN ?_ _ | refine belD ?_))⟩
      · have hs2 := hr2b (by omega)
        clear hr2b
        have HSZ := Lib.hid (show (x0.length + sumF zEntry x0) + (zNeed (⟨n2_0, n2_1, n2_2, n2_3⟩ : NeedD)) ≤ 1048576 by push_cast; omega)
        clear hs0 hs2
        have HSM0 := Lib.hid (show x0.length ≤ 1048576 by have h := HSZ.out; omega)
        have HGG := Lib.hid (show ∀ e ∈ x0, e.fName.length ≤ 1048576 ∧ (∀ d ∈ e.fNeeds, d.fFrom.length ≤ maxLen) ∧ ∀ s ∈ e.fRecipe, s.length ≤ 1048576 from fun e he => by
          have h := HSZ.out
          have h2 := sumF_mem zEntry x0 e he
          have h3 : e.fName.length + (e.fRecipe.length + sumF List.length e.fRecipe) ≤ zEntry e := by unfold zEntry; omega
          refine ⟨by omega, fun d hd => ((G0.out e he).2.2.2 d hd).2.1, fun s hs => ?_⟩
          have h4 := sumF_mem List.length e.fRecipe s hs
          omega)
        have HSP := Lib.hid (fun v w1 (h : SliceAt rEntry 5 0 w1 v x0) => (show Calls Tryz.prog 16 #[v, .string x1, .agg #[.int .i64 n2_0, .string ⟨n2_1.toArray⟩, .int .i64 n2_2, .int .i64 n2_3]] w1 fun e w2 => e = .returned (.string ⟨(provL x0 x1.data.toList (⟨n2_0, n2_1, n2_2, n2_3⟩ : NeedD)).toArray⟩) ∧ Below w1.heap.size w1 w2 from specProv_any v x0 x1.data.toList (⟨n2_0, n2_1, n2_2, n2_3⟩ : NeedD) w1 h HGG.out G2.out.2.1))
        have HIM := Lib.hid (fun v w1 (h : SliceAt rEntry 5 0 w1 v x0) => (show Calls Tryz.prog 18 #[v, .string x1, .agg #[.int .i64 n2_0, .string ⟨n2_1.toArray⟩, .int .i64 n2_2, .int .i64 n2_3]] w1 fun e w2 => e = .returned (.string ⟨(provL x0 x1.data.toList (⟨n2_0, n2_1, n2_2, n2_3⟩ : NeedD)).toArray⟩) ∧ Below w1.heap.size w1 w2 from implProv_any v x0 x1.data.toList (⟨n2_0, n2_1, n2_2, n2_3⟩ : NeedD) w1 h HGG.out G2.out.2.1))
        generalize provL x0 x1.data.toList (⟨n2_0, n2_1, n2_2, n2_3⟩ : NeedD) = f at *
        have T2 := Lib.hid (fun w0 => toNeed_any (⟨n2_0, n2_1, n2_2, n2_3⟩ : NeedD) w0)
        simp only [vNeed] at T2
        go_wp2_with fail
        go_region_held3 (fun w' => w'.cell? ⟨w.heap.size, 0, none⟩ = some (.int .i64 n2_0) ∧ w'.cell? ⟨w.heap.size, 1, none⟩ = some (.string ⟨n2_1.toArray⟩) ∧ w'.cell? ⟨w.heap.size, 2, none⟩ = some (.int .i64 n2_2) ∧ w'.cell? ⟨w.heap.size, 3, none⟩ = some (.int .i64 n2_3))
          (first
            | exact ⟨(hbZ2.cell (p := ⟨w.heap.size, 0, none⟩) (by have h0 := hbZ0.size; (try simp at h0); have h1 := hbZ1.size; (try simp at h1); simp; try omega)).trans ((hbZ1.cell (p := ⟨w.heap.size, 0, none⟩) (by have h0 := hbZ0.size; (try simp at h0); simp; try omega)).trans ((hbZ0.cell (p := ⟨w.heap.size, 0, none⟩) (by simp; try omega)).trans ep2_0_w2)), (hbZ2.cell (p := ⟨w.heap.size, 1, none⟩) (by have h0 := hbZ0.size; (try simp at h0); have h1 := hbZ1.size; (try simp at h1); simp; try omega)).trans ((hbZ1.cell (p := ⟨w.heap.size, 1, none⟩) (by have h0 := hbZ0.size; (try simp at h0); simp; try omega)).trans ((hbZ0.cell (p := ⟨w.heap.size, 1, none⟩) (by simp; try omega)).trans ep2_1_w2)), (hbZ2.cell (p := ⟨w.heap.size, 2, none⟩) (by have h0 := hbZ0.size; (try simp at h0); have h1 := hbZ1.size; (try simp at h1); simp; try omega)).trans ((hbZ1.cell (p := ⟨w.heap.size, 2, none⟩) (by have h0 := hbZ0.size; (try simp at h0); simp; try omega)).trans ((hbZ0.cell (p := ⟨w.heap.size, 2, none⟩) (by simp; try omega)).trans ep2_2_w2)), (hbZ2.cell (p := ⟨w.heap.size, 3, none⟩) (by have h0 := hbZ0.size; (try simp at h0); have h1 := hbZ1.size; (try simp at h1); simp; try omega)).trans ((hbZ1.cell (p := ⟨w.heap.size, 3, none⟩) (by have h0 := hbZ0.size; (try simp at h0); simp; try omega)).trans ((hbZ0.cell (p := ⟨w.heap.size, 3, none⟩) (by simp; try omega)).trans ep2_3_w2))⟩
            | exact ⟨(hbZ1.cell (p := ⟨w.heap.size, 0, none⟩) (by have h0 := hbZ0.size; (try simp at h0); simp; try omega)).trans ((hbZ0.cell (p := ⟨w.heap.size, 0, none⟩) (by simp; try omega)).trans ep2_0_w2), (hbZ1.cell (p := ⟨w.heap.size, 1, none⟩) (by have h0 := hbZ0.size; (try simp at h0); simp; try omega)).trans ((hbZ0.cell (p := ⟨w.heap.size, 1, none⟩) (by simp; try omega)).trans ep2_1_w2), (hbZ1.cell (p := ⟨w.heap.size, 2, none⟩) (by have h0 := hbZ0.size; (try simp at h0); simp; try omega)).trans ((hbZ0.cell (p := ⟨w.heap.size, 2, none⟩) (by simp; try omega)).trans ep2_2_w2), (hbZ1.cell (p := ⟨w.heap.size, 3, none⟩) (by have h0 := hbZ0.size; (try simp at h0); simp; try omega)).trans ((hbZ0.cell (p := ⟨w.heap.size, 3, none⟩) (by simp; try omega)).trans ep2_3_w2)⟩
            | exact ⟨(hbZ0.cell (p := ⟨w.heap.size, 0, none⟩) (by simp; try omega)).trans ep2_0_w2, (hbZ0.cell (p := ⟨w.heap.size, 1, none⟩) (by simp; try omega)).trans ep2_1_w2, (hbZ0.cell (p := ⟨w.heap.size, 2, none⟩) (by simp; try omega)).trans ep2_2_w2, (hbZ0.cell (p := ⟨w.heap.size, 3, none⟩) (by simp; try omega)).trans ep2_3_w2⟩
            | go_keep)
          (first
            | (go_at_call 17; (with_reducible refine (toEntryS_d v0 x0 _ (belEntryS A0_w2.out (by repeat (first | exact Below.refl _ _ | refine Below.alloc ?_ (by simp; try omega) _ | refine Below.setCell ?_ (by simp; try omega) _ | refine belN ?_ _ | refine belD ?_)) (Nat.le_refl _)) (by have := HSZ.out; omega)).mono ?_); rintro e w3 ⟨uZ0, rfl, houZ0, hbZ0⟩)
            | (go_at_call 12; (with_reducible refine (T2.out _).mono ?_); rintro e w4 ⟨rfl, hbZ1⟩)
            | (go_at_call 16; refine (HSP.out uZ0 _ (belEntryS (zeroEntryS houZ0) (below_list1 hbZ1) (Nat.le_refl _))).mono ?_; rintro e w5 ⟨rfl, hbZ2⟩))
        have hb1 := below_step (w := w2) (by repeat (first | exact Below.refl _ _ | refine Below.alloc ?_ (by simp; try omega) _ | refine Below.setCell ?_ (by simp; try omega) _ | refine belN ?_ _ | refine belD ?_)) hbZ0
        have hb2 := hb1.trans (hbZ1.mono hb1.size)
        have hb3 := hb2.trans (hbZ2.mono hb2.size)
        have hb := hb3
        have hszF := hb2.size
        have Cw_w5 := Lib.hid (Cw_w2.out.trans (hb.mono Cw_w2.out.size))
        have A0_w5 := Lib.hid (belEntryS A0_w2.out hb (Nat.le_refl _))
        have ep2_0_w5 := (hb.cell (p := ⟨w.heap.size, 0, none⟩) Lp2_w2).trans ep2_0_w2
        have ep2_1_w5 := (hb.cell (p := ⟨w.heap.size, 1, none⟩) Lp2_w2).trans ep2_1_w2
        have ep2_2_w5 := (hb.cell (p := ⟨w.heap.size, 2, none⟩) Lp2_w2).trans ep2_2_w2
        have ep2_3_w5 := (hb.cell (p := ⟨w.heap.size, 3, none⟩) Lp2_w2).trans ep2_3_w2
        have Lp2_w5 : w.heap.size < w5.heap.size := by have h := hb.size; omega
        clear ep2_0_w2 ep2_1_w2 ep2_2_w2 ep2_3_w2 Lp2_w2
        rename_i hheld
        clear hheld
        clear hb hb1 hb2 hb3 hbZ0 hbZ1 hbZ2 houZ0 hszF
        have K_p2 := Lp2_w5
        go_wp2_with fail
        refine (toEntryS_d v0 x0 _ (belEntryS A0_w5.out (by repeat (first | exact Below.refl _ _ | refine Below.alloc ?_ (by simp; try omega) _ | refine Below.setCell ?_ (by simp; try omega) _ | refine belN ?_ _ | refine belD ?_)) (Nat.le_refl _)) (by have := HSZ.out; omega)).mono ?_
        rintro e w6 ⟨u1, rfl, ho, hb0⟩
        have hb := below_step (w := w5) (by repeat (first | exact Below.refl _ _ | refine Below.alloc ?_ (by simp; try omega) _ | refine Below.setCell ?_ (by simp; try omega) _ | refine belN ?_ _ | refine belD ?_)) hb0
        have Cw_w6 := Lib.hid (Cw_w5.out.trans (hb.mono Cw_w5.out.size))
        have A0_w6 := Lib.hid (belEntryS A0_w5.out hb (Nat.le_refl _))
        have ep2_0_w6 := (hb.cell (p := ⟨w.heap.size, 0, none⟩) Lp2_w5).trans ep2_0_w5
        have ep2_1_w6 := (hb.cell (p := ⟨w.heap.size, 1, none⟩) Lp2_w5).trans ep2_1_w5
        have ep2_2_w6 := (hb.cell (p := ⟨w.heap.size, 2, none⟩) Lp2_w5).trans ep2_2_w5
        have ep2_3_w6 := (hb.cell (p := ⟨w.heap.size, 3, none⟩) Lp2_w5).trans ep2_3_w5
        have Lp2_w6 : w.heap.size < w6.heap.size := by have h := hb.size; omega
        clear ep2_0_w5 ep2_1_w5 ep2_2_w5 ep2_3_w5 Lp2_w5
        have X1 := Lib.hid (zeroEntryS ho)
        clear ho
        clear hb hb0
        go_wp2_with fail
        refine (toNeed_any (⟨n2_0, n2_1, n2_2, n2_3⟩ : NeedD) _).mono ?_
        rintro e w7 ⟨rfl, hb0⟩
        have hb := below_step (w := w6) (by repeat (first | exact Below.refl _ _ | refine Below.alloc ?_ (by simp; try omega) _ | refine Below.setCell ?_ (by simp; try omega) _ | refine belN ?_ _ | refine belD ?_)) hb0
        have Cw_w7 := Lib.hid (Cw_w6.out.trans (hb.mono Cw_w6.out.size))
        have A0_w7 := Lib.hid (belEntryS A0_w6.out hb (Nat.le_refl _))
        have X1_w7 := Lib.hid (belEntryS X1.out hb (Nat.le_refl _))
        have ep2_0_w7 := (hb.cell (p := ⟨w.heap.size, 0, none⟩) Lp2_w6).trans ep2_0_w6
        have ep2_1_w7 := (hb.cell (p := ⟨w.heap.size, 1, none⟩) Lp2_w6).trans ep2_1_w6
        have ep2_2_w7 := (hb.cell (p := ⟨w.heap.size, 2, none⟩) Lp2_w6).trans ep2_2_w6
        have ep2_3_w7 := (hb.cell (p := ⟨w.heap.size, 3, none⟩) Lp2_w6).trans ep2_3_w6
        have Lp2_w7 : w.heap.size < w7.heap.size := by have h := hb.size; omega
        clear ep2_0_w6 ep2_1_w6 ep2_2_w6 ep2_3_w6 Lp2_w6
        clear hb hb0
        have K_p2 := Lp2_w7
        go_wp2_with fail
        refine (HIM.out u1 _ (belEntryS X1_w7.out (by repeat (first | exact Below.refl _ _ | refine Below.alloc ?_ (by simp; try omega) _ | refine Below.setCell ?_ (by simp; try omega) _ | refine belN ?_ _ | refine belD ?_)) (Nat.le_refl _))).mono ?_
        rintro e w8 ⟨rfl, hb0⟩
        have hb := below_step (w := w7) (by repeat (first | exact Below.refl _ _ | refine Below.alloc ?_ (by simp; try omega) _ | refine Below.setCell ?_ (by simp; try omega) _ | refine belN ?_ _ | refine belD ?_)) hb0
        have Cw_w8 := Lib.hid (Cw_w7.out.trans (hb.mono Cw_w7.out.size))
        have A0_w8 := Lib.hid (belEntryS A0_w7.out hb (Nat.le_refl _))
        have X1_w8 := Lib.hid (belEntryS X1_w7.out hb (Nat.le_refl _))
        have ep2_0_w8 := (hb.cell (p := ⟨w.heap.size, 0, none⟩) Lp2_w7).trans ep2_0_w7
        have ep2_1_w8 := (hb.cell (p := ⟨w.heap.size, 1, none⟩) Lp2_w7).trans ep2_1_w7
        have ep2_2_w8 := (hb.cell (p := ⟨w.heap.size, 2, none⟩) Lp2_w7).trans ep2_2_w7
        have ep2_3_w8 := (hb.cell (p := ⟨w.heap.size, 3, none⟩) Lp2_w7).trans ep2_3_w7
        have Lp2_w8 : w.heap.size < w8.heap.size := by have h := hb.size; omega
        clear ep2_0_w7 ep2_1_w7 ep2_2_w7 ep2_3_w7 Lp2_w7
        clear hb hb0
        have K_p2 := Lp2_w8
        go_wp2_with fail
        refine (toEntryS_d v0 x0 _ (belEntryS A0_w8.out (by repeat (first | exact Below.refl _ _ | refine Below.alloc ?_ (by simp; try omega) _ | refine Below.setCell ?_ (by simp; try omega) _ | refine belN ?_ _ | refine belD ?_)) (Nat.le_refl _)) (by have := HSZ.out; omega)).mono ?_
        rintro e w9 ⟨u2, rfl, ho, hb0⟩
        have hb := below_step (w := w8) (by repeat (first | exact Below.refl _ _ | refine Below.alloc ?_ (by simp; try omega) _ | refine Below.setCell ?_ (by simp; try omega) _ | refine belN ?_ _ | refine belD ?_)) hb0
        have Cw_w9 := Lib.hid (Cw_w8.out.trans (hb.mono Cw_w8.out.size))
        have A0_w9 := Lib.hid (belEntryS A0_w8.out hb (Nat.le_refl _))
        have X1_w9 := Lib.hid (belEntryS X1_w8.out hb (Nat.le_refl _))
        have ep2_0_w9 := (hb.cell (p := ⟨w.heap.size, 0, none⟩) Lp2_w8).trans ep2_0_w8
        have ep2_1_w9 := (hb.cell (p := ⟨w.heap.size, 1, none⟩) Lp2_w8).trans ep2_1_w8
        have ep2_2_w9 := (hb.cell (p := ⟨w.heap.size, 2, none⟩) Lp2_w8).trans ep2_2_w8
        have ep2_3_w9 := (hb.cell (p := ⟨w.heap.size, 3, none⟩) Lp2_w8).trans ep2_3_w8
        have Lp2_w9 : w.heap.size < w9.heap.size := by have h := hb.size; omega
        clear ep2_0_w8 ep2_1_w8 ep2_2_w8 ep2_3_w8 Lp2_w8
        have Z2 := Lib.hid (zeroEntryS ho)
        clear ho
        clear hb hb0
        go_wp2_with fail
        refine (eqEntryS_d u1 u2 x0 x0 _ (belEntryS X1_w9.out (by repeat (first | exact Below.refl _ _ | refine Below.alloc ?_ (by simp; try omega) _ | refine Below.setCell ?_ (by simp; try omega) _ | refine belN ?_ _ | refine belD ?_)) (Nat.le_refl _)) (belEntryS Z2.out (by repeat (first | exact Below.refl _ _ | refine Below.alloc ?_ (by simp; try omega) _ | refine Below.setCell ?_ (by simp; try omega) _ | refine belN ?_ _ | refine belD ?_)) (Nat.le_refl _))).mono ?_
        rintro e w10 ⟨rfl, hb0⟩
        have hb := below_step (w := w9) (by repeat (first | exact Below.refl _ _ | refine Below.alloc ?_ (by simp; try omega) _ | refine Below.setCell ?_ (by simp; try omega) _ | refine belN ?_ _ | refine belD ?_)) hb0
        have Cw_w10 := Lib.hid (Cw_w9.out.trans (hb.mono Cw_w9.out.size))
        have A0_w10 := Lib.hid (belEntryS A0_w9.out hb (Nat.le_refl _))
        have X1_w10 := Lib.hid (belEntryS X1_w9.out hb (Nat.le_refl _))
        have Z2_w10 := Lib.hid (belEntryS Z2.out hb (Nat.le_refl _))
        have ep2_0_w10 := (hb.cell (p := ⟨w.heap.size, 0, none⟩) Lp2_w9).trans ep2_0_w9
        have ep2_1_w10 := (hb.cell (p := ⟨w.heap.size, 1, none⟩) Lp2_w9).trans ep2_1_w9
        have ep2_2_w10 := (hb.cell (p := ⟨w.heap.size, 2, none⟩) Lp2_w9).trans ep2_2_w9
        have ep2_3_w10 := (hb.cell (p := ⟨w.heap.size, 3, none⟩) Lp2_w9).trans ep2_3_w9
        have Lp2_w10 : w.heap.size < w10.heap.size := by have h := hb.size; omega
        clear ep2_0_w9 ep2_1_w9 ep2_2_w9 ep2_3_w9 Lp2_w9
        rw [show decide (x0 = x0) = true by simp]
        clear hb hb0
        go_wp2_with fail
        go_ret
        exact ⟨rfl, below_to Cw_w10.out (by repeat (first | exact Below.refl _ _ | refine Below.alloc ?_ (by simp; try omega) _ | refine Below.setCell ?_ (by simp; try omega) _ | refine belN ?_ _ | refine belD ?_))⟩
set_option maxRecDepth 100000 in
theorem fnExactProviderOf_lifted (os : Os) (started : os.Started) (H : Type) (enc : TypeId × Value → H) :
    ReturnsInHanded {} Tryz.checked os 4 .any (Rows.fnExactProviderOfSpec.pre6 enc Tryz.prog Tryz.f4 Rows.fnExactProviderOfRow.domain false) (Rows.fnExactProviderOfSpec.post enc Tryz.prog Tryz.f4 false true false false) := by
  refine returnsInHanded_of_change (C := Tryz.checked) ownK started (by kernel_rfl) Tryz.func4
    (ChangeSpec.witness6 (enc := enc) (C := Tryz.checked) false ⟨#[], #[.slice none 0 0, .string ⟨#[]⟩, .agg #[.int .i64 0, .string ⟨#[]⟩, .int .i64 0, .int .i64 0]], []⟩ 8 (by kernel_rfl) (by kernel_rfl) (by kernel_rfl) (by kernel_rfl)) ?_
  intro W base args ds gs before hval0 hW _ _
  have hval : ∀ (j : Nat) t v, Tryz.f4.params[j]? = some t → args[j]? = some v → Value.okWide Tryz.prog W .any base t v := hval0
  have hW' := hW
  obtain ⟨p, q, hA0, _, rfl, _, _⟩ := hW
  have hA : DataW.TrodAll enc Tryz.prog W 0 (fun _ => true) true Tryz.f4.params.toList args.toList ds p := hA0
  rw [Tryz.params4] at hA hval
  obtain ⟨v0, vs0, d0, ds0, p0, q0, hargs, rfl, rfl, h0, r0⟩ := trodAll_cons hA
  obtain ⟨v1, vs1, d1, ds1, p1, q1, rfl, rfl, rfl, h1, r1⟩ := trodAll_cons r0
  obtain ⟨v2, vs2, d2, ds2, p2, q2, rfl, rfl, rfl, h2, r2⟩ := trodAll_cons r1
  obtain ⟨rfl, rfl, rfl⟩ := trodAll_nil r2
  obtain rfl : args = #[v0, v1, v2] := by cases args; simp_all
  obtain ⟨l0, w0, z0⟩ := argS_Entry (hval 0 43 v0 rfl rfl) h0
  obtain ⟨x1, rfl, rfl, rfl, w1⟩ := open_string Tryz.underlying9 (hval 1 9 v1 rfl rfl) h1
  obtain ⟨x2, rfl, w2⟩ := arg_Need (hval 2 29 v2 rfl rfl) h2
  clear hA0 hval0
  refine (exactProviderOf_any v0 l0 x1 x2 W w0 z0 w1 w2).mono fun e W1 ⟨he, hb⟩ => ?_
  subst he
  exact ⟨_, rfl, law_post laidK rfl (by kernel_rfl) Tryz.underlying4 (by kernel_rfl) (fun ds h => by match ds, h with | [_, _, _], _ => rfl) hW' hb⟩
theorem fnExactProviderOf_closed : joinedFacts Tryz.prog 4 Tryz.f4 Rows.fnExactProviderOfSpec Rows.fnExactProviderOfRow = true := by unfold joinedFacts; rw [mayEnter_k, liftsFinal_k, make_k]; kernel_rfl
theorem fnExactProviderOf_holds : Rows.FnExactProviderOfSaid :=
  OpenClaim.holds_of_wide 4 Tryz.f4 rfl rfl rfl rfl rfl rfl rfl ⟨rfl, rfl, rfl, rfl, rfl⟩ rfl rfl rfl rfl rfl (by kernel_rfl) Tryz.func4 fnExactProviderOf_closed
    (of_decide_eq_true (by kernel_rfl)) (by unfold Func.isWrapper; first | (rw [if_pos (by decide +kernel)]; kernel_rfl) | (rw [if_neg (by decide +kernel)]; exact ⟨rfl, rfl⟩))
    (fun os started H enc _ => fnExactProviderOf_lifted os started H enc)
end Go.Proofs.YtlkpinlkbikokabGreat
