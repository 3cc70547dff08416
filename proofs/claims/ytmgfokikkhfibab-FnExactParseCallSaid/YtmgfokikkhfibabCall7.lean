/- Contracts of chapter 3: the model's ParseCall. Written by gen/ch3sp.py. -/
import Derived.Test.YtmgfokikkhfibabCallG
import Derived.Test.YtmgfokikkhfibabFmt3
namespace Go.Proofs.Ytmgfokikkhfibab
set_option linter.unusedVariables false
open Go.RowKit
theorem belS {w1 X w2 : World} (h : Below w1.heap.size w1 X) (hb : Below X.heap.size X w2) : Below w1.heap.size w1 w2 := h.trans (hb.mono h.size)
theorem below_to3 {w1 w2 X w3 : World} (hb : Below X.heap.size X w3) (h : Below w1.heap.size w2 X) (hs : w1.heap.size ≤ X.heap.size := by first | omega | (simp; omega)) : Below w1.heap.size w2 w3 := h.trans (hb.mono hs)
theorem total_bound (l : List (List UInt8)) (M : Nat) (h : ∀ t ∈ l, t.length ≤ M) : total l ≤ l.length * M := by
  induction l with
  | nil => simp [total]
  | cons a r ih =>
    have h1 := h a List.mem_cons_self
    have h2 := ih fun t ht => h t (List.mem_cons_of_mem _ ht)
    simp only [total, List.length_cons, Nat.succ_mul]; omega
theorem join_bound (l : List (List UInt8)) (M : Nat) (h : ∀ t ∈ l, t.length ≤ M) : (joinL l [32]).length ≤ l.length + l.length * M := by
  have h1 := joinK_len l [32] l.length (Nat.le_refl _)
  rw [List.take_length] at h1
  have h2 := total_bound l M h
  unfold joinL; simp only [List.length_cons, List.length_nil] at h1; omega
theorem join_tail (l : List (List UInt8)) : (joinL (l.drop 1) [32]).length ≤ (joinL l [32]).length := by
  cases l with
  | nil => simp
  | cons a r =>
    by_cases hr : r = []
    · subst hr; simp [joinL, joinK]
    · rw [List.drop_succ_cons, List.drop_zero, joinL_cons a r [32] hr]; simp; omega
theorem cut_at {w : World} {b n c : Nat} {xs : List Value} (i j : Nat) (hij : i ≤ j) (hj : j ≤ n) (hnc : n ≤ c) (h : RowAt w (.slice (some ⟨b, 0, none⟩) n c) xs) :
    RowAt w (if c = i then .slice (some ⟨b, 0, none⟩) (j - i) 0 else .slice (some ⟨b, i, none⟩) (j - i) (c - i)) ((xs.drop i).take (j - i)) := by
  obtain ⟨a', c', e, hl, h⟩ := h
  injection e with e1 e2 e3
  have hlen : ((xs.drop i).take (j - i)).length = j - i := by simp; omega
  have hxl : xs.length = n := e2.symm
  by_cases hc : c = i
  · rw [if_pos hc]
    have h0 : j - i = 0 := by omega
    exact ⟨some ⟨b, 0, none⟩, 0, by rw [hlen, h0], by rw [hlen, h0]; unfold maxLen; omega, Or.inl (by rw [h0]; simp)⟩
  · rw [if_neg hc]
    refine ⟨some ⟨b, i, none⟩, c - i, by rw [hlen], by rw [hlen]; unfold maxLen at *; omega, ?_⟩
    rcases Nat.lt_or_ge i j with hlt | hge
    · rcases h with rfl | ⟨b', o', e4, hb, hc'⟩
      · simp at hxl; omega
      · rw [← e1] at e4
        injection e4 with e4
        injection e4 with e5 e6
        subst e5 e6
        refine Or.inr ⟨b, i, rfl, hb, fun q hq => ?_⟩
        rw [hlen] at hq
        have h9 := hc' (i + q) (by omega)
        rw [Nat.zero_add] at h9
        rw [h9, List.getElem?_take_of_lt hq, List.getElem?_drop]
    · exact Or.inl (by rw [show j - i = 0 from by omega]; simp)
set_option maxHeartbeats 400000 in
theorem l1Min_any (a b : Int) (w : World) : Calls Try.prog 47 #[.int .i64 a, .int .i64 b] w fun e w' => e = .returned (.int .i64 (if a < b then a else b)) ∧ w = w' := by
  by_cases h : a < b
  · rw [if_pos h]
    go_enter Try.func47, Try.ntmps47
    go_wp2
    go_ret
    exact ⟨rfl, rfl⟩
  · rw [if_neg h]
    go_enter Try.func47, Try.ntmps47
    go_wp2
    go_ret
    exact ⟨rfl, rfl⟩
set_option maxRecDepth 100000 in
set_option maxHeartbeats 12800000 in
theorem specParseCall_any (s : ByteArray) (w : World) (hs : s.size ≤ 1048576) :
    Calls Try.prog 22 #[.string s] w fun e w' => GivesCall (prsK s.data.toList) (prsKB s.data.toList) w e w' := by
  have HSP := Lib.hid (fun w0 => specSplit_any s ⟨#[32]⟩ w0 hs (by decide))
  rw [show (⟨#[32]⟩ : ByteArray).data.toList = [32] from rfl] at HSP
  have HP := Lib.hid (prsKB_spec s.data.toList)
  have HY := Lib.hid (@prsK_spec s.data.toList)
  have HN := Lib.hid (@prsK_no s.data.toList)
  have hxl : (splitL s.data.toList [32]).length ≤ 1048577 := by have := splitL_len s.data.toList [32]; rw [size_list] at this; omega
  have HPP := Lib.hid (fun p (hp : p ∈ splitL s.data.toList [32]) => show p.length ≤ 1048576 from by have := split_part _ _ p hp; rw [size_list] at this; omega)
  have HJT := Lib.hid (show (joinL ((splitL s.data.toList [32]).drop 1) [32]).length ≤ 1048576 by have h := join_tail (splitL s.data.toList [32]); rw [join_splitL, size_list] at h; omega)
  have hpos := List.length_pos_iff.2 (splitL_ne s.data.toList 32)
  have HD := Lib.hid (show rdS s.data.toList = (let p := splitL s.data.toList [32]; let m := p.getD 0 []; let last := p.getD (p.length - 1) []; ⟨m, if m = mGet then last else if m = mPut then joinL ((p.take (p.length - min 1 (p.length - 1))).drop 1) [32] else [], if m = mPut then pnum last else if m = mHear then pnum last else 0, if m = mLoad then joinL (p.drop 1) [32] else []⟩) from rfl)
  unfold GivesCall
  generalize prsK s.data.toList = z at *
  generalize prsKB s.data.toList = y at *
  generalize rdS s.data.toList = d at *
  generalize splitL s.data.toList [32] = p at *
  have HM := Lib.hid (show p.getD 0 [] = p[0] by rw [List.getD_eq_getElem?_getD, List.getElem?_eq_getElem hpos]; rfl)
  have HL := Lib.hid (show p.getD (p.length - 1) [] = p[p.length - 1] by rw [List.getD_eq_getElem?_getD, List.getElem?_eq_getElem (by omega)]; rfl)
  have HB0 := Lib.hid (show ∀ o, Below w.heap.size w (w.alloc o) from fun o => (Below.refl w.heap.size w).alloc (Nat.le_refl _) o)
  have HA := Lib.hid (show ∀ (w1 : World) (o : Obj), Below w1.heap.size w1 (w1.alloc o) from fun w1 o => (Below.refl w1.heap.size w1).alloc (Nat.le_refl _) o)
  go_enter Try.func22, Try.ntmps22
  go_wp2_with fail
  refine (HSP.out _).mono ?_
  rintro e w1 ⟨u, rfl, ho, hb⟩
  have HB := Lib.hid ((HB0.out _).trans (hb.mono (HB0.out _).size))
  obtain ⟨hcc, hff⟩ := bcell hb
  simp at hcc hff
  have r0 := hcc w.heap.size 0 (by omega)
  have q0 := hff w.heap.size 0 (by omega)
  have r1 := hcc w.heap.size 1 (by omega)
  have q1 := hff w.heap.size 1 (by omega)
  have r2 := hcc w.heap.size 2 (by omega)
  have q2 := hff w.heap.size 2 (by omega)
  have r3 := hcc w.heap.size 3 (by omega)
  have q3 := hff w.heap.size 3 (by omega)
  simp at r0 r1 r2 r3 q0 q1 q2 q3
  have hlt : w.heap.size < w1.heap.size := by have h := hb.size; simp at h; omega
  have HROW := Lib.hid (owns_row ho (by omega))
  obtain ⟨g, c, rfl, hgc⟩ : ∃ g c, u = .slice (some ⟨g, 0, none⟩) p.length c ∧ p.length ≤ c := by
    rcases ho.2 with ⟨_, h0⟩ | ⟨g, cap, cur, rfl, _, _, h4, _⟩
    · omega
    · exact ⟨g, cap, rfl, h4⟩
  have e0 := rowAt_cellS HROW.out 0 (by simpa using hpos)
  have el := rowAt_cellS HROW.out (p.length - 1) (by simp; omega)
  rw [getElem_map_strV] at e0 el
  unfold strV at e0 el
  rw [Nat.zero_add] at e0 el
  have hglt : g < w1.heap.size := World.block_lt_of_cell? w1 _ e0
  have hml := HPP.out p[0] (List.getElem_mem hpos)
  have hll := HPP.out (p[p.length - 1]'(by omega)) (List.getElem_mem _)
  have HPN := Lib.hid (fun w0 => specParse_any ⟨(p[p.length - 1]'(by omega)).toArray⟩ w0 (by rw [size_strB]; unfold maxLen; omega))
  simp only at HPN
  rw [HM.out, HL.out] at HD
  generalize p[p.length - 1] = last at *
  generalize hm0 : p[0] = m at *
  clear hb hcc hff ho
  have hi0 : (0 : Int) < (p.length : Int) := by omega
  have hi1 : (0 : Int) ≤ (p.length : Int) - 1 := by omega
  have hi2 : (p.length : Int) - 1 < (p.length : Int) := by omega
  go_wp2_with fail
  refine (HPN.out _).mono ?_
  rintro e w2 ⟨rfl, hb⟩
  obtain ⟨hcc, hff⟩ := bcell hb
  simp at hcc hff
  have x0 := hcc w1.heap.size 0 (by omega)
  have y0 := hff w1.heap.size 0 (by omega)
  have x1 := hcc w1.heap.size 1 (by omega)
  have y1 := hff w1.heap.size 1 (by omega)
  have x2 := hcc w1.heap.size 2 (by omega)
  have y2 := hff w1.heap.size 2 (by omega)
  have x3 := hcc w1.heap.size 3 (by omega)
  have y3 := hff w1.heap.size 3 (by omega)
  simp at x0 x1 x2 x3 y0 y1 y2 y3
  have hlt2 : w1.heap.size < w2.heap.size := by have h := hb.size; simp at h; omega
  have hlt3 : w.heap.size < w2.heap.size := by omega
  have hglt2 : g < w2.heap.size := by omega
  have hw := belS (HA.out w1 _) hb
  have HB2 := Lib.hid (HB.out.trans (hw.mono HB.out.size))
  have f0 := (hw.cell (p := ⟨g, 0, none⟩) hglt).trans e0
  have HR2 := Lib.hid (RowAt.below HROW.out hw (Nat.le_refl _))
  have s0 := (hw.cell (p := ⟨w.heap.size, 0, none⟩) hlt).trans r0
  have t0 := (hw.frozen (p := ⟨w.heap.size, 0, none⟩) hlt).trans q0
  have s1 := (hw.cell (p := ⟨w.heap.size, 1, none⟩) hlt).trans r1
  have t1 := (hw.frozen (p := ⟨w.heap.size, 1, none⟩) hlt).trans q1
  have s2 := (hw.cell (p := ⟨w.heap.size, 2, none⟩) hlt).trans r2
  have t2 := (hw.frozen (p := ⟨w.heap.size, 2, none⟩) hlt).trans q2
  have s3 := (hw.cell (p := ⟨w.heap.size, 3, none⟩) hlt).trans r3
  have t3 := (hw.frozen (p := ⟨w.heap.size, 3, none⟩) hlt).trans q3
  clear hb hw hcc hff r0 r1 r2 r3 q0 q1 q2 q3 e0 el HROW HSP HPN
  have hne1 : ¬ w.heap.size = w1.heap.size := by omega
  have hne2 : ¬ w1.heap.size = w.heap.size := by omega
  by_cases hG : m = mGet
  · subst hG
    have HBV := Lib.hid HB2.out
    have HFC := Lib.hid (fun w0 => specFormatCall_any (⟨mGet, last, 0, []⟩ : CallD) w0 (by simp only; unfold maxLen; omega) (by simp only; simp))
    unfold vCall at HFC
    simp only at HFC
    rw [show d = (⟨mGet, last, 0, []⟩ : CallD) from HD.out] at HP HY
    generalize fmtCall (⟨mGet, last, 0, []⟩ : CallD) = fc at *
    have hY : y = (decide (fc = s.data.toList) && !s.data.toList.isEmpty) := HP.out
    have HYV := Lib.hid hY
    clear hY
    go_wp2_with fail
    refine (HFC.out _).mono ?_
    rintro e w9 ⟨rfl, hb⟩
    obtain ⟨hcc, hff⟩ := bcell hb
    simp at hcc hff
    have z0 := hcc w1.heap.size 0 (by omega)
    have z1 := hcc w1.heap.size 1 (by omega)
    have z2 := hcc w1.heap.size 2 (by omega)
    have z3 := hcc w1.heap.size 3 (by omega)
    simp [go_sem, x0, x1, x2, x3] at z0 z1 z2 z3
    have hw3 := below_to3 hb (by repeat (first | exact Below.refl _ _ | refine Below.alloc ?_ (by first | omega | (simp; try omega)) _ | refine Below.setCell ?_ (by first | omega | (simp; try omega)) _) : Below w1.heap.size w2 _)
    have u0 := (hw3.cell (p := ⟨w.heap.size, 0, none⟩) hlt).trans s0
    have k0 := (hw3.frozen (p := ⟨w.heap.size, 0, none⟩) hlt).trans t0
    have u1 := (hw3.cell (p := ⟨w.heap.size, 1, none⟩) hlt).trans s1
    have k1 := (hw3.frozen (p := ⟨w.heap.size, 1, none⟩) hlt).trans t1
    have u2 := (hw3.cell (p := ⟨w.heap.size, 2, none⟩) hlt).trans s2
    have k2 := (hw3.frozen (p := ⟨w.heap.size, 2, none⟩) hlt).trans t2
    have u3 := (hw3.cell (p := ⟨w.heap.size, 3, none⟩) hlt).trans s3
    have k3 := (hw3.frozen (p := ⟨w.heap.size, 3, none⟩) hlt).trans t3
    have HB3 := Lib.hid (HBV.out.trans (hw3.mono HB.out.size))
    clear hb hcc hff hw3 s0 s1 s2 s3 t0 t1 t2 t3
    by_cases hf : fc = s.data.toList
    · have hq : (fc == s.toList) = true := by rw [Lib.toList_data]; simpa using hf
      have hq2 : (fc != s.toList) = false := by rw [bne, hq]; rfl
      cases he : s.data.toList.isEmpty with
      | true =>
        have hE : s.toList.isEmpty = true := by rw [Lib.toList_data]; exact he
        have HYF := Lib.hid (show y = false by rw [HYV.out, he, decide_eq_true hf]; rfl)
        have HZ := Lib.hid (HN.out HYF.out)
        clear hf he
        go_wp2_with fail
        refine bodyPost_ret (v := .tuple #[.agg #[.string ⟨#[]⟩, .string ⟨#[]⟩, .int .i64 0, .string ⟨#[]⟩], .bool false]) (by simp [results, Try.results22, go_sem, u0, u1, u2, u3]) rfl ⟨by rw [HZ.out, HYF.out]; rfl, ?_⟩
        refine Below.trans HB3.out ?_
        repeat (first | exact Below.refl _ _ | refine Below.alloc ?_ (by first | omega | (simp; try omega)) _ | refine Below.setCell ?_ (by first | omega | (simp; try omega)) _)
      | false =>
        have hE : s.toList.isEmpty = false := by rw [Lib.toList_data]; exact he
        have HYF := Lib.hid (show y = true by rw [HYV.out, he, decide_eq_true hf]; rfl)
        have HZ := Lib.hid (HY.out HYF.out)
        clear hf he
        go_wp2_with fail
        refine bodyPost_ret (v := .tuple #[.agg #[.string ⟨(mGet).toArray⟩, .string ⟨(last).toArray⟩, .int .i64 0, .string ⟨([]).toArray⟩], .bool true]) (by simp [results, Try.results22, go_sem, u0, u1, u2, u3]) rfl ⟨by rw [HZ.out, HYF.out]; rfl, ?_⟩
        refine Below.trans HB3.out ?_
        repeat (first | exact Below.refl _ _ | refine Below.alloc ?_ (by first | omega | (simp; try omega)) _ | refine Below.setCell ?_ (by first | omega | (simp; try omega)) _)
    · have hq : (fc == s.toList) = false := by rw [Lib.toList_data]; simpa using hf
      have hq2 : (fc != s.toList) = true := by rw [bne, hq]; rfl
      have HYF := Lib.hid (show y = false by rw [HYV.out, decide_eq_false hf]; rfl)
      have HZ := Lib.hid (HN.out HYF.out)
      clear hf
      go_wp2_with fail
      refine bodyPost_ret (v := .tuple #[.agg #[.string ⟨#[]⟩, .string ⟨#[]⟩, .int .i64 0, .string ⟨#[]⟩], .bool false]) (by simp [results, Try.results22, go_sem, u0, u1, u2, u3]) rfl ⟨by rw [HZ.out, HYF.out]; rfl, ?_⟩
      refine Below.trans HB3.out ?_
      repeat (first | exact Below.refl _ _ | refine Below.alloc ?_ (by first | omega | (simp; try omega)) _ | refine Below.setCell ?_ (by first | omega | (simp; try omega)) _)
  · have bG : (m == [71, 101, 116]) = false := by simpa using hG
    by_cases hP : m = mPut
    · subst hP
      obtain ⟨K, hK⟩ : ∃ K, K = joinL (List.drop 1 (List.take (p.length - min 1 (p.length - 1)) p)) [32] := ⟨_, rfl⟩
      have HDK := Lib.hid (show d = ⟨mPut, K, pnum last, []⟩ by rw [HD.out, hK]; rfl)
      replace HD := HDK
      clear HDK
      have HKL := Lib.hid (show K.length ≤ 70368744177664 by
        have h := join_bound (List.drop 1 (List.take (p.length - min 1 (p.length - 1)) p)) 1048576 fun t ht => HPP.out t (List.mem_of_mem_take (List.mem_of_mem_drop ht))
        have h2 : (List.drop 1 (List.take (p.length - min 1 (p.length - 1)) p)).length ≤ 1048577 := by simp; omega
        rw [← hK] at h; omega)
      have HR3 := Lib.hid (cut_at 1 (p.length - min 1 (p.length - 1)) (by omega) (by omega) hgc HR2.out)
      rw [← List.map_drop, ← List.map_take, ← List.drop_take] at HR3
      generalize List.drop 1 (List.take (p.length - min 1 (p.length - 1)) p) = part at *
      have HJO := Lib.hid (fun v hv => specJoin_any v part ⟨#[32]⟩ w2 hv (by rw [show (⟨#[32]⟩ : ByteArray).data.toList = [32] from rfl, ← hK]; exact HKL.out) (by decide))
      rw [show (⟨#[32]⟩ : ByteArray).data.toList = [32] from rfl, ← hK] at HJO
      clear hK
      obtain ⟨mn, hmn⟩ : ∃ mn, mn = min 1 (p.length - 1) := ⟨_, rfl⟩
      have HMI := Lib.hid (show (if (1 : Int) < (p.length : Int) - 1 then (1 : Int) else (p.length : Int) - 1) = (mn : Int) by split <;> omega)
      rw [← hmn] at HR3
      have hmn1 : mn ≤ 1 := by omega
      have hmn2 : mn < p.length := by omega
      clear hmn
      go_wp2_with fail
      refine (l1Min_any _ _ _).mono ?_
      rintro e w3 ⟨rfl, rfl⟩
      rw [HMI.out]
      go_wp2_with fail
      · subst h
        refine (HJO.out _ (by simpa using HR3.out)).mono ?_
        rintro e w3 ⟨rfl, hb⟩
        have hs3 := hb.size
        replace x0 := (hb.cell (p := ⟨w1.heap.size, 0, none⟩) hlt2).trans x0
        replace y0 := (hb.frozen (p := ⟨w1.heap.size, 0, none⟩) hlt2).trans y0
        replace s0 := (hb.cell (p := ⟨w.heap.size, 0, none⟩) hlt3).trans s0
        replace t0 := (hb.frozen (p := ⟨w.heap.size, 0, none⟩) hlt3).trans t0
        replace x1 := (hb.cell (p := ⟨w1.heap.size, 1, none⟩) hlt2).trans x1
        replace y1 := (hb.frozen (p := ⟨w1.heap.size, 1, none⟩) hlt2).trans y1
        replace s1 := (hb.cell (p := ⟨w.heap.size, 1, none⟩) hlt3).trans s1
        replace t1 := (hb.frozen (p := ⟨w.heap.size, 1, none⟩) hlt3).trans t1
        replace x2 := (hb.cell (p := ⟨w1.heap.size, 2, none⟩) hlt2).trans x2
        replace y2 := (hb.frozen (p := ⟨w1.heap.size, 2, none⟩) hlt2).trans y2
        replace s2 := (hb.cell (p := ⟨w.heap.size, 2, none⟩) hlt3).trans s2
        replace t2 := (hb.frozen (p := ⟨w.heap.size, 2, none⟩) hlt3).trans t2
        replace x3 := (hb.cell (p := ⟨w1.heap.size, 3, none⟩) hlt2).trans x3
        replace y3 := (hb.frozen (p := ⟨w1.heap.size, 3, none⟩) hlt2).trans y3
        replace s3 := (hb.cell (p := ⟨w.heap.size, 3, none⟩) hlt3).trans s3
        replace t3 := (hb.frozen (p := ⟨w.heap.size, 3, none⟩) hlt3).trans t3
        have HBV := Lib.hid (HB2.out.trans (hb.mono HB2.out.size))
        have hlt4 : w1.heap.size < w3.heap.size := by omega
        have hlt5 : w.heap.size < w3.heap.size := by omega
        clear hb HR2 f0
        have HFC := Lib.hid (fun w0 => specFormatCall_any (⟨mPut, K, (pnum last), []⟩ : CallD) w0 (by simp only; exact Nat.le_trans HKL.out (by decide)) (by simp only; simp))
        unfold vCall at HFC
        simp only at HFC
        rw [show d = (⟨mPut, K, (pnum last), []⟩ : CallD) from HD.out] at HP HY
        generalize fmtCall (⟨mPut, K, (pnum last), []⟩ : CallD) = fc at *
        have hY : y = (decide (fc = s.data.toList) && !s.data.toList.isEmpty) := HP.out
        have HYV := Lib.hid hY
        clear hY
        go_wp2_with fail
        refine (HFC.out _).mono ?_
        rintro e w9 ⟨rfl, hb⟩
        obtain ⟨hcc, hff⟩ := bcell hb
        simp at hcc hff
        have z0 := hcc w1.heap.size 0 (by omega)
        have z1 := hcc w1.heap.size 1 (by omega)
        have z2 := hcc w1.heap.size 2 (by omega)
        have z3 := hcc w1.heap.size 3 (by omega)
        simp [go_sem, x0, x1, x2, x3] at z0 z1 z2 z3
        have hw3 := below_to3 hb (by repeat (first | exact Below.refl _ _ | refine Below.alloc ?_ (by first | omega | (simp; try omega)) _ | refine Below.setCell ?_ (by first | omega | (simp; try omega)) _) : Below w1.heap.size w3 _)
        have u0 := (hw3.cell (p := ⟨w.heap.size, 0, none⟩) hlt).trans s0
        have k0 := (hw3.frozen (p := ⟨w.heap.size, 0, none⟩) hlt).trans t0
        have u1 := (hw3.cell (p := ⟨w.heap.size, 1, none⟩) hlt).trans s1
        have k1 := (hw3.frozen (p := ⟨w.heap.size, 1, none⟩) hlt).trans t1
        have u2 := (hw3.cell (p := ⟨w.heap.size, 2, none⟩) hlt).trans s2
        have k2 := (hw3.frozen (p := ⟨w.heap.size, 2, none⟩) hlt).trans t2
        have u3 := (hw3.cell (p := ⟨w.heap.size, 3, none⟩) hlt).trans s3
        have k3 := (hw3.frozen (p := ⟨w.heap.size, 3, none⟩) hlt).trans t3
        have HB3 := Lib.hid (HBV.out.trans (hw3.mono HB.out.size))
        clear hb hcc hff hw3 s0 s1 s2 s3 t0 t1 t2 t3
        by_cases hf : fc = s.data.toList
        · have hq : (fc == s.toList) = true := by rw [Lib.toList_data]; simpa using hf
          have hq2 : (fc != s.toList) = false := by rw [bne, hq]; rfl
          cases he : s.data.toList.isEmpty with
          | true =>
            have hE : s.toList.isEmpty = true := by rw [Lib.toList_data]; exact he
            have HYF := Lib.hid (show y = false by rw [HYV.out, he, decide_eq_true hf]; rfl)
            have HZ := Lib.hid (HN.out HYF.out)
            clear hf he
            go_wp2_with fail
            refine bodyPost_ret (v := .tuple #[.agg #[.string ⟨#[]⟩, .string ⟨#[]⟩, .int .i64 0, .string ⟨#[]⟩], .bool false]) (by simp [results, Try.results22, go_sem, u0, u1, u2, u3]) rfl ⟨by rw [HZ.out, HYF.out]; rfl, ?_⟩
            refine Below.trans HB3.out ?_
            repeat (first | exact Below.refl _ _ | refine Below.alloc ?_ (by first | omega | (simp; try omega)) _ | refine Below.setCell ?_ (by first | omega | (simp; try omega)) _)
          | false =>
            have hE : s.toList.isEmpty = false := by rw [Lib.toList_data]; exact he
            have HYF := Lib.hid (show y = true by rw [HYV.out, he, decide_eq_true hf]; rfl)
            have HZ := Lib.hid (HY.out HYF.out)
            clear hf he
            go_wp2_with fail
            refine bodyPost_ret (v := .tuple #[.agg #[.string ⟨(mPut).toArray⟩, .string ⟨(K).toArray⟩, .int .i64 (pnum last), .string ⟨([]).toArray⟩], .bool true]) (by simp [results, Try.results22, go_sem, u0, u1, u2, u3]) rfl ⟨by rw [HZ.out, HYF.out]; rfl, ?_⟩
            refine Below.trans HB3.out ?_
            repeat (first | exact Below.refl _ _ | refine Below.alloc ?_ (by first | omega | (simp; try omega)) _ | refine Below.setCell ?_ (by first | omega | (simp; try omega)) _)
        · have hq : (fc == s.toList) = false := by rw [Lib.toList_data]; simpa using hf
          have hq2 : (fc != s.toList) = true := by rw [bne, hq]; rfl
          have HYF := Lib.hid (show y = false by rw [HYV.out, decide_eq_false hf]; rfl)
          have HZ := Lib.hid (HN.out HYF.out)
          clear hf
          go_wp2_with fail
          refine bodyPost_ret (v := .tuple #[.agg #[.string ⟨#[]⟩, .string ⟨#[]⟩, .int .i64 0, .string ⟨#[]⟩], .bool false]) (by simp [results, Try.results22, go_sem, u0, u1, u2, u3]) rfl ⟨by rw [HZ.out, HYF.out]; rfl, ?_⟩
          refine Below.trans HB3.out ?_
          repeat (first | exact Below.refl _ _ | refine Below.alloc ?_ (by first | omega | (simp; try omega)) _ | refine Below.setCell ?_ (by first | omega | (simp; try omega)) _)
      · rw [if_neg h] at HR3
        refine (HJO.out _ HR3.out).mono ?_
        rintro e w3 ⟨rfl, hb⟩
        have hs3 := hb.size
        replace x0 := (hb.cell (p := ⟨w1.heap.size, 0, none⟩) hlt2).trans x0
        replace y0 := (hb.frozen (p := ⟨w1.heap.size, 0, none⟩) hlt2).trans y0
        replace s0 := (hb.cell (p := ⟨w.heap.size, 0, none⟩) hlt3).trans s0
        replace t0 := (hb.frozen (p := ⟨w.heap.size, 0, none⟩) hlt3).trans t0
        replace x1 := (hb.cell (p := ⟨w1.heap.size, 1, none⟩) hlt2).trans x1
        replace y1 := (hb.frozen (p := ⟨w1.heap.size, 1, none⟩) hlt2).trans y1
        replace s1 := (hb.cell (p := ⟨w.heap.size, 1, none⟩) hlt3).trans s1
        replace t1 := (hb.frozen (p := ⟨w.heap.size, 1, none⟩) hlt3).trans t1
        replace x2 := (hb.cell (p := ⟨w1.heap.size, 2, none⟩) hlt2).trans x2
        replace y2 := (hb.frozen (p := ⟨w1.heap.size, 2, none⟩) hlt2).trans y2
        replace s2 := (hb.cell (p := ⟨w.heap.size, 2, none⟩) hlt3).trans s2
        replace t2 := (hb.frozen (p := ⟨w.heap.size, 2, none⟩) hlt3).trans t2
        replace x3 := (hb.cell (p := ⟨w1.heap.size, 3, none⟩) hlt2).trans x3
        replace y3 := (hb.frozen (p := ⟨w1.heap.size, 3, none⟩) hlt2).trans y3
        replace s3 := (hb.cell (p := ⟨w.heap.size, 3, none⟩) hlt3).trans s3
        replace t3 := (hb.frozen (p := ⟨w.heap.size, 3, none⟩) hlt3).trans t3
        have HBV := Lib.hid (HB2.out.trans (hb.mono HB2.out.size))
        have hlt4 : w1.heap.size < w3.heap.size := by omega
        have hlt5 : w.heap.size < w3.heap.size := by omega
        clear hb HR2 f0
        have HFC := Lib.hid (fun w0 => specFormatCall_any (⟨mPut, K, (pnum last), []⟩ : CallD) w0 (by simp only; exact Nat.le_trans HKL.out (by decide)) (by simp only; simp))
        unfold vCall at HFC
        simp only at HFC
        rw [show d = (⟨mPut, K, (pnum last), []⟩ : CallD) from HD.out] at HP HY
        generalize fmtCall (⟨mPut, K, (pnum last), []⟩ : CallD) = fc at *
        have hY : y = (decide (fc = s.data.toList) && !s.data.toList.isEmpty) := HP.out
        have HYV := Lib.hid hY
        clear hY
        go_wp2_with fail
        refine (HFC.out _).mono ?_
        rintro e w9 ⟨rfl, hb⟩
        obtain ⟨hcc, hff⟩ := bcell hb
        simp at hcc hff
        have z0 := hcc w1.heap.size 0 (by omega)
        have z1 := hcc w1.heap.size 1 (by omega)
        have z2 := hcc w1.heap.size 2 (by omega)
        have z3 := hcc w1.heap.size 3 (by omega)
        simp [go_sem, x0, x1, x2, x3] at z0 z1 z2 z3
        have hw3 := below_to3 hb (by repeat (first | exact Below.refl _ _ | refine Below.alloc ?_ (by first | omega | (simp; try omega)) _ | refine Below.setCell ?_ (by first | omega | (simp; try omega)) _) : Below w1.heap.size w3 _)
        have u0 := (hw3.cell (p := ⟨w.heap.size, 0, none⟩) hlt).trans s0
        have k0 := (hw3.frozen (p := ⟨w.heap.size, 0, none⟩) hlt).trans t0
        have u1 := (hw3.cell (p := ⟨w.heap.size, 1, none⟩) hlt).trans s1
        have k1 := (hw3.frozen (p := ⟨w.heap.size, 1, none⟩) hlt).trans t1
        have u2 := (hw3.cell (p := ⟨w.heap.size, 2, none⟩) hlt).trans s2
        have k2 := (hw3.frozen (p := ⟨w.heap.size, 2, none⟩) hlt).trans t2
        have u3 := (hw3.cell (p := ⟨w.heap.size, 3, none⟩) hlt).trans s3
        have k3 := (hw3.frozen (p := ⟨w.heap.size, 3, none⟩) hlt).trans t3
        have HB3 := Lib.hid (HBV.out.trans (hw3.mono HB.out.size))
        clear hb hcc hff hw3 s0 s1 s2 s3 t0 t1 t2 t3
        by_cases hf : fc = s.data.toList
        · have hq : (fc == s.toList) = true := by rw [Lib.toList_data]; simpa using hf
          have hq2 : (fc != s.toList) = false := by rw [bne, hq]; rfl
          cases he : s.data.toList.isEmpty with
          | true =>
            have hE : s.toList.isEmpty = true := by rw [Lib.toList_data]; exact he
            have HYF := Lib.hid (show y = false by rw [HYV.out, he, decide_eq_true hf]; rfl)
            have HZ := Lib.hid (HN.out HYF.out)
            clear hf he
            go_wp2_with fail
            refine bodyPost_ret (v := .tuple #[.agg #[.string ⟨#[]⟩, .string ⟨#[]⟩, .int .i64 0, .string ⟨#[]⟩], .bool false]) (by simp [results, Try.results22, go_sem, u0, u1, u2, u3]) rfl ⟨by rw [HZ.out, HYF.out]; rfl, ?_⟩
            refine Below.trans HB3.out ?_
            repeat (first | exact Below.refl _ _ | refine Below.alloc ?_ (by first | omega | (simp; try omega)) _ | refine Below.setCell ?_ (by first | omega | (simp; try omega)) _)
          | false =>
            have hE : s.toList.isEmpty = false := by rw [Lib.toList_data]; exact he
            have HYF := Lib.hid (show y = true by rw [HYV.out, he, decide_eq_true hf]; rfl)
            have HZ := Lib.hid (HY.out HYF.out)
            clear hf he
            go_wp2_with fail
            refine bodyPost_ret (v := .tuple #[.agg #[.string ⟨(mPut).toArray⟩, .string ⟨(K).toArray⟩, .int .i64 (pnum last), .string ⟨([]).toArray⟩], .bool true]) (by simp [results, Try.results22, go_sem, u0, u1, u2, u3]) rfl ⟨by rw [HZ.out, HYF.out]; rfl, ?_⟩
            refine Below.trans HB3.out ?_
            repeat (first | exact Below.refl _ _ | refine Below.alloc ?_ (by first | omega | (simp; try omega)) _ | refine Below.setCell ?_ (by first | omega | (simp; try omega)) _)
        · have hq : (fc == s.toList) = false := by rw [Lib.toList_data]; simpa using hf
          have hq2 : (fc != s.toList) = true := by rw [bne, hq]; rfl
          have HYF := Lib.hid (show y = false by rw [HYV.out, decide_eq_false hf]; rfl)
          have HZ := Lib.hid (HN.out HYF.out)
          clear hf
          go_wp2_with fail
          refine bodyPost_ret (v := .tuple #[.agg #[.string ⟨#[]⟩, .string ⟨#[]⟩, .int .i64 0, .string ⟨#[]⟩], .bool false]) (by simp [results, Try.results22, go_sem, u0, u1, u2, u3]) rfl ⟨by rw [HZ.out, HYF.out]; rfl, ?_⟩
          refine Below.trans HB3.out ?_
          repeat (first | exact Below.refl _ _ | refine Below.alloc ?_ (by first | omega | (simp; try omega)) _ | refine Below.setCell ?_ (by first | omega | (simp; try omega)) _)
    · have bP : (m == [80, 117, 116]) = false := by simpa using hP
      by_cases hH : m = mHear
      · subst hH
        have HBV := Lib.hid HB2.out
        have HFC := Lib.hid (fun w0 => specFormatCall_any (⟨mHear, [], (pnum last), []⟩ : CallD) w0 (by simp only; simp) (by simp only; simp))
        unfold vCall at HFC
        simp only at HFC
        rw [show d = (⟨mHear, [], (pnum last), []⟩ : CallD) from HD.out] at HP HY
        generalize fmtCall (⟨mHear, [], (pnum last), []⟩ : CallD) = fc at *
        have hY : y = (decide (fc = s.data.toList) && !s.data.toList.isEmpty) := HP.out
        have HYV := Lib.hid hY
        clear hY
        go_wp2_with fail
        refine (HFC.out _).mono ?_
        rintro e w9 ⟨rfl, hb⟩
        obtain ⟨hcc, hff⟩ := bcell hb
        simp at hcc hff
        have z0 := hcc w1.heap.size 0 (by omega)
        have z1 := hcc w1.heap.size 1 (by omega)
        have z2 := hcc w1.heap.size 2 (by omega)
        have z3 := hcc w1.heap.size 3 (by omega)
        simp [go_sem, x0, x1, x2, x3] at z0 z1 z2 z3
        have hw3 := below_to3 hb (by repeat (first | exact Below.refl _ _ | refine Below.alloc ?_ (by first | omega | (simp; try omega)) _ | refine Below.setCell ?_ (by first | omega | (simp; try omega)) _) : Below w1.heap.size w2 _)
        have u0 := (hw3.cell (p := ⟨w.heap.size, 0, none⟩) hlt).trans s0
        have k0 := (hw3.frozen (p := ⟨w.heap.size, 0, none⟩) hlt).trans t0
        have u1 := (hw3.cell (p := ⟨w.heap.size, 1, none⟩) hlt).trans s1
        have k1 := (hw3.frozen (p := ⟨w.heap.size, 1, none⟩) hlt).trans t1
        have u2 := (hw3.cell (p := ⟨w.heap.size, 2, none⟩) hlt).trans s2
        have k2 := (hw3.frozen (p := ⟨w.heap.size, 2, none⟩) hlt).trans t2
        have u3 := (hw3.cell (p := ⟨w.heap.size, 3, none⟩) hlt).trans s3
        have k3 := (hw3.frozen (p := ⟨w.heap.size, 3, none⟩) hlt).trans t3
        have HB3 := Lib.hid (HBV.out.trans (hw3.mono HB.out.size))
        clear hb hcc hff hw3 s0 s1 s2 s3 t0 t1 t2 t3
        by_cases hf : fc = s.data.toList
        · have hq : (fc == s.toList) = true := by rw [Lib.toList_data]; simpa using hf
          have hq2 : (fc != s.toList) = false := by rw [bne, hq]; rfl
          cases he : s.data.toList.isEmpty with
          | true =>
            have hE : s.toList.isEmpty = true := by rw [Lib.toList_data]; exact he
            have HYF := Lib.hid (show y = false by rw [HYV.out, he, decide_eq_true hf]; rfl)
            have HZ := Lib.hid (HN.out HYF.out)
            clear hf he
            go_wp2_with fail
            refine bodyPost_ret (v := .tuple #[.agg #[.string ⟨#[]⟩, .string ⟨#[]⟩, .int .i64 0, .string ⟨#[]⟩], .bool false]) (by simp [results, Try.results22, go_sem, u0, u1, u2, u3]) rfl ⟨by rw [HZ.out, HYF.out]; rfl, ?_⟩
            refine Below.trans HB3.out ?_
            repeat (first | exact Below.refl _ _ | refine Below.alloc ?_ (by first | omega | (simp; try omega)) _ | refine Below.setCell ?_ (by first | omega | (simp; try omega)) _)
          | false =>
            have hE : s.toList.isEmpty = false := by rw [Lib.toList_data]; exact he
            have HYF := Lib.hid (show y = true by rw [HYV.out, he, decide_eq_true hf]; rfl)
            have HZ := Lib.hid (HY.out HYF.out)
            clear hf he
            go_wp2_with fail
            refine bodyPost_ret (v := .tuple #[.agg #[.string ⟨(mHear).toArray⟩, .string ⟨([]).toArray⟩, .int .i64 (pnum last), .string ⟨([]).toArray⟩], .bool true]) (by simp [results, Try.results22, go_sem, u0, u1, u2, u3]) rfl ⟨by rw [HZ.out, HYF.out]; rfl, ?_⟩
            refine Below.trans HB3.out ?_
            repeat (first | exact Below.refl _ _ | refine Below.alloc ?_ (by first | omega | (simp; try omega)) _ | refine Below.setCell ?_ (by first | omega | (simp; try omega)) _)
        · have hq : (fc == s.toList) = false := by rw [Lib.toList_data]; simpa using hf
          have hq2 : (fc != s.toList) = true := by rw [bne, hq]; rfl
          have HYF := Lib.hid (show y = false by rw [HYV.out, decide_eq_false hf]; rfl)
          have HZ := Lib.hid (HN.out HYF.out)
          clear hf
          go_wp2_with fail
          refine bodyPost_ret (v := .tuple #[.agg #[.string ⟨#[]⟩, .string ⟨#[]⟩, .int .i64 0, .string ⟨#[]⟩], .bool false]) (by simp [results, Try.results22, go_sem, u0, u1, u2, u3]) rfl ⟨by rw [HZ.out, HYF.out]; rfl, ?_⟩
          refine Below.trans HB3.out ?_
          repeat (first | exact Below.refl _ _ | refine Below.alloc ?_ (by first | omega | (simp; try omega)) _ | refine Below.setCell ?_ (by first | omega | (simp; try omega)) _)
      · have bH : (m == [72, 101, 97, 114]) = false := by simpa using hH
        by_cases hL : m = mLoad
        · subst hL
          obtain ⟨K, hK⟩ : ∃ K, K = joinL (List.drop 1 p) [32] := ⟨_, rfl⟩
          have HDK := Lib.hid (show d = ⟨mLoad, [], 0, K⟩ by rw [HD.out, hK]; rfl)
          replace HD := HDK
          rw [← hK] at HJT
          clear HDK
          have HR3 := Lib.hid (cut_at 1 p.length (by omega) (by omega) hgc HR2.out)
          rw [List.take_of_length_le (by simp), ← List.map_drop] at HR3
          generalize List.drop 1 p = part at *
          have HJO := Lib.hid (fun v hv => specJoin_any v part ⟨#[32]⟩ w2 hv (by rw [show (⟨#[32]⟩ : ByteArray).data.toList = [32] from rfl, ← hK]; exact Nat.le_trans HJT.out (by decide)) (by decide))
          rw [show (⟨#[32]⟩ : ByteArray).data.toList = [32] from rfl, ← hK] at HJO
          clear hK
          go_wp2_with fail
          · subst h
            refine (HJO.out _ (by simpa using HR3.out)).mono ?_
            rintro e w3 ⟨rfl, hb⟩
            have hs3 := hb.size
            replace x0 := (hb.cell (p := ⟨w1.heap.size, 0, none⟩) hlt2).trans x0
            replace y0 := (hb.frozen (p := ⟨w1.heap.size, 0, none⟩) hlt2).trans y0
            replace s0 := (hb.cell (p := ⟨w.heap.size, 0, none⟩) hlt3).trans s0
            replace t0 := (hb.frozen (p := ⟨w.heap.size, 0, none⟩) hlt3).trans t0
            replace x1 := (hb.cell (p := ⟨w1.heap.size, 1, none⟩) hlt2).trans x1
            replace y1 := (hb.frozen (p := ⟨w1.heap.size, 1, none⟩) hlt2).trans y1
            replace s1 := (hb.cell (p := ⟨w.heap.size, 1, none⟩) hlt3).trans s1
            replace t1 := (hb.frozen (p := ⟨w.heap.size, 1, none⟩) hlt3).trans t1
            replace x2 := (hb.cell (p := ⟨w1.heap.size, 2, none⟩) hlt2).trans x2
            replace y2 := (hb.frozen (p := ⟨w1.heap.size, 2, none⟩) hlt2).trans y2
            replace s2 := (hb.cell (p := ⟨w.heap.size, 2, none⟩) hlt3).trans s2
            replace t2 := (hb.frozen (p := ⟨w.heap.size, 2, none⟩) hlt3).trans t2
            replace x3 := (hb.cell (p := ⟨w1.heap.size, 3, none⟩) hlt2).trans x3
            replace y3 := (hb.frozen (p := ⟨w1.heap.size, 3, none⟩) hlt2).trans y3
            replace s3 := (hb.cell (p := ⟨w.heap.size, 3, none⟩) hlt3).trans s3
            replace t3 := (hb.frozen (p := ⟨w.heap.size, 3, none⟩) hlt3).trans t3
            have HBV := Lib.hid (HB2.out.trans (hb.mono HB2.out.size))
            have hlt4 : w1.heap.size < w3.heap.size := by omega
            have hlt5 : w.heap.size < w3.heap.size := by omega
            clear hb HR2 f0
            have HFC := Lib.hid (fun w0 => specFormatCall_any (⟨mLoad, [], 0, K⟩ : CallD) w0 (by simp only; simp) (by simp only; exact HJT.out))
            unfold vCall at HFC
            simp only at HFC
            rw [show d = (⟨mLoad, [], 0, K⟩ : CallD) from HD.out] at HP HY
            generalize fmtCall (⟨mLoad, [], 0, K⟩ : CallD) = fc at *
            have hY : y = (decide (fc = s.data.toList) && !s.data.toList.isEmpty) := HP.out
            have HYV := Lib.hid hY
            clear hY
            go_wp2_with fail
            refine (HFC.out _).mono ?_
            rintro e w9 ⟨rfl, hb⟩
            obtain ⟨hcc, hff⟩ := bcell hb
            simp at hcc hff
            have z0 := hcc w1.heap.size 0 (by omega)
            have z1 := hcc w1.heap.size 1 (by omega)
            have z2 := hcc w1.heap.size 2 (by omega)
            have z3 := hcc w1.heap.size 3 (by omega)
            simp [go_sem, x0, x1, x2, x3] at z0 z1 z2 z3
            have hw3 := below_to3 hb (by repeat (first | exact Below.refl _ _ | refine Below.alloc ?_ (by first | omega | (simp; try omega)) _ | refine Below.setCell ?_ (by first | omega | (simp; try omega)) _) : Below w1.heap.size w3 _)
            have u0 := (hw3.cell (p := ⟨w.heap.size, 0, none⟩) hlt).trans s0
            have k0 := (hw3.frozen (p := ⟨w.heap.size, 0, none⟩) hlt).trans t0
            have u1 := (hw3.cell (p := ⟨w.heap.size, 1, none⟩) hlt).trans s1
            have k1 := (hw3.frozen (p := ⟨w.heap.size, 1, none⟩) hlt).trans t1
            have u2 := (hw3.cell (p := ⟨w.heap.size, 2, none⟩) hlt).trans s2
            have k2 := (hw3.frozen (p := ⟨w.heap.size, 2, none⟩) hlt).trans t2
            have u3 := (hw3.cell (p := ⟨w.heap.size, 3, none⟩) hlt).trans s3
            have k3 := (hw3.frozen (p := ⟨w.heap.size, 3, none⟩) hlt).trans t3
            have HB3 := Lib.hid (HBV.out.trans (hw3.mono HB.out.size))
            clear hb hcc hff hw3 s0 s1 s2 s3 t0 t1 t2 t3
            by_cases hf : fc = s.data.toList
            · have hq : (fc == s.toList) = true := by rw [Lib.toList_data]; simpa using hf
              have hq2 : (fc != s.toList) = false := by rw [bne, hq]; rfl
              cases he : s.data.toList.isEmpty with
              | true =>
                have hE : s.toList.isEmpty = true := by rw [Lib.toList_data]; exact he
                have HYF := Lib.hid (show y = false by rw [HYV.out, he, decide_eq_true hf]; rfl)
                have HZ := Lib.hid (HN.out HYF.out)
                clear hf he
                go_wp2_with fail
                refine bodyPost_ret (v := .tuple #[.agg #[.string ⟨#[]⟩, .string ⟨#[]⟩, .int .i64 0, .string ⟨#[]⟩], .bool false]) (by simp [results, Try.results22, go_sem, u0, u1, u2, u3]) rfl ⟨by rw [HZ.out, HYF.out]; rfl, ?_⟩
                refine Below.trans HB3.out ?_
                repeat (first | exact Below.refl _ _ | refine Below.alloc ?_ (by first | omega | (simp; try omega)) _ | refine Below.setCell ?_ (by first | omega | (simp; try omega)) _)
              | false =>
                have hE : s.toList.isEmpty = false := by rw [Lib.toList_data]; exact he
                have HYF := Lib.hid (show y = true by rw [HYV.out, he, decide_eq_true hf]; rfl)
                have HZ := Lib.hid (HY.out HYF.out)
                clear hf he
                go_wp2_with fail
                refine bodyPost_ret (v := .tuple #[.agg #[.string ⟨(mLoad).toArray⟩, .string ⟨([]).toArray⟩, .int .i64 0, .string ⟨(K).toArray⟩], .bool true]) (by simp [results, Try.results22, go_sem, u0, u1, u2, u3]) rfl ⟨by rw [HZ.out, HYF.out]; rfl, ?_⟩
                refine Below.trans HB3.out ?_
                repeat (first | exact Below.refl _ _ | refine Below.alloc ?_ (by first | omega | (simp; try omega)) _ | refine Below.setCell ?_ (by first | omega | (simp; try omega)) _)
            · have hq : (fc == s.toList) = false := by rw [Lib.toList_data]; simpa using hf
              have hq2 : (fc != s.toList) = true := by rw [bne, hq]; rfl
              have HYF := Lib.hid (show y = false by rw [HYV.out, decide_eq_false hf]; rfl)
              have HZ := Lib.hid (HN.out HYF.out)
              clear hf
              go_wp2_with fail
              refine bodyPost_ret (v := .tuple #[.agg #[.string ⟨#[]⟩, .string ⟨#[]⟩, .int .i64 0, .string ⟨#[]⟩], .bool false]) (by simp [results, Try.results22, go_sem, u0, u1, u2, u3]) rfl ⟨by rw [HZ.out, HYF.out]; rfl, ?_⟩
              refine Below.trans HB3.out ?_
              repeat (first | exact Below.refl _ _ | refine Below.alloc ?_ (by first | omega | (simp; try omega)) _ | refine Below.setCell ?_ (by first | omega | (simp; try omega)) _)
          · rw [if_neg h] at HR3
            refine (HJO.out _ HR3.out).mono ?_
            rintro e w3 ⟨rfl, hb⟩
            have hs3 := hb.size
            replace x0 := (hb.cell (p := ⟨w1.heap.size, 0, none⟩) hlt2).trans x0
            replace y0 := (hb.frozen (p := ⟨w1.heap.size, 0, none⟩) hlt2).trans y0
            replace s0 := (hb.cell (p := ⟨w.heap.size, 0, none⟩) hlt3).trans s0
            replace t0 := (hb.frozen (p := ⟨w.heap.size, 0, none⟩) hlt3).trans t0
            replace x1 := (hb.cell (p := ⟨w1.heap.size, 1, none⟩) hlt2).trans x1
            replace y1 := (hb.frozen (p := ⟨w1.heap.size, 1, none⟩) hlt2).trans y1
            replace s1 := (hb.cell (p := ⟨w.heap.size, 1, none⟩) hlt3).trans s1
            replace t1 := (hb.frozen (p := ⟨w.heap.size, 1, none⟩) hlt3).trans t1
            replace x2 := (hb.cell (p := ⟨w1.heap.size, 2, none⟩) hlt2).trans x2
            replace y2 := (hb.frozen (p := ⟨w1.heap.size, 2, none⟩) hlt2).trans y2
            replace s2 := (hb.cell (p := ⟨w.heap.size, 2, none⟩) hlt3).trans s2
            replace t2 := (hb.frozen (p := ⟨w.heap.size, 2, none⟩) hlt3).trans t2
            replace x3 := (hb.cell (p := ⟨w1.heap.size, 3, none⟩) hlt2).trans x3
            replace y3 := (hb.frozen (p := ⟨w1.heap.size, 3, none⟩) hlt2).trans y3
            replace s3 := (hb.cell (p := ⟨w.heap.size, 3, none⟩) hlt3).trans s3
            replace t3 := (hb.frozen (p := ⟨w.heap.size, 3, none⟩) hlt3).trans t3
            have HBV := Lib.hid (HB2.out.trans (hb.mono HB2.out.size))
            have hlt4 : w1.heap.size < w3.heap.size := by omega
            have hlt5 : w.heap.size < w3.heap.size := by omega
            clear hb HR2 f0
            have HFC := Lib.hid (fun w0 => specFormatCall_any (⟨mLoad, [], 0, K⟩ : CallD) w0 (by simp only; simp) (by simp only; exact HJT.out))
            unfold vCall at HFC
            simp only at HFC
            rw [show d = (⟨mLoad, [], 0, K⟩ : CallD) from HD.out] at HP HY
            generalize fmtCall (⟨mLoad, [], 0, K⟩ : CallD) = fc at *
            have hY : y = (decide (fc = s.data.toList) && !s.data.toList.isEmpty) := HP.out
            have HYV := Lib.hid hY
            clear hY
            go_wp2_with fail
            refine (HFC.out _).mono ?_
            rintro e w9 ⟨rfl, hb⟩
            obtain ⟨hcc, hff⟩ := bcell hb
            simp at hcc hff
            have z0 := hcc w1.heap.size 0 (by omega)
            have z1 := hcc w1.heap.size 1 (by omega)
            have z2 := hcc w1.heap.size 2 (by omega)
            have z3 := hcc w1.heap.size 3 (by omega)
            simp [go_sem, x0, x1, x2, x3] at z0 z1 z2 z3
            have hw3 := below_to3 hb (by repeat (first | exact Below.refl _ _ | refine Below.alloc ?_ (by first | omega | (simp; try omega)) _ | refine Below.setCell ?_ (by first | omega | (simp; try omega)) _) : Below w1.heap.size w3 _)
            have u0 := (hw3.cell (p := ⟨w.heap.size, 0, none⟩) hlt).trans s0
            have k0 := (hw3.frozen (p := ⟨w.heap.size, 0, none⟩) hlt).trans t0
            have u1 := (hw3.cell (p := ⟨w.heap.size, 1, none⟩) hlt).trans s1
            have k1 := (hw3.frozen (p := ⟨w.heap.size, 1, none⟩) hlt).trans t1
            have u2 := (hw3.cell (p := ⟨w.heap.size, 2, none⟩) hlt).trans s2
            have k2 := (hw3.frozen (p := ⟨w.heap.size, 2, none⟩) hlt).trans t2
            have u3 := (hw3.cell (p := ⟨w.heap.size, 3, none⟩) hlt).trans s3
            have k3 := (hw3.frozen (p := ⟨w.heap.size, 3, none⟩) hlt).trans t3
            have HB3 := Lib.hid (HBV.out.trans (hw3.mono HB.out.size))
            clear hb hcc hff hw3 s0 s1 s2 s3 t0 t1 t2 t3
            by_cases hf : fc = s.data.toList
            · have hq : (fc == s.toList) = true := by rw [Lib.toList_data]; simpa using hf
              have hq2 : (fc != s.toList) = false := by rw [bne, hq]; rfl
              cases he : s.data.toList.isEmpty with
              | true =>
                have hE : s.toList.isEmpty = true := by rw [Lib.toList_data]; exact he
                have HYF := Lib.hid (show y = false by rw [HYV.out, he, decide_eq_true hf]; rfl)
                have HZ := Lib.hid (HN.out HYF.out)
                clear hf he
                go_wp2_with fail
                refine bodyPost_ret (v := .tuple #[.agg #[.string ⟨#[]⟩, .string ⟨#[]⟩, .int .i64 0, .string ⟨#[]⟩], .bool false]) (by simp [results, Try.results22, go_sem, u0, u1, u2, u3]) rfl ⟨by rw [HZ.out, HYF.out]; rfl, ?_⟩
                refine Below.trans HB3.out ?_
                repeat (first | exact Below.refl _ _ | refine Below.alloc ?_ (by first | omega | (simp; try omega)) _ | refine Below.setCell ?_ (by first | omega | (simp; try omega)) _)
              | false =>
                have hE : s.toList.isEmpty = false := by rw [Lib.toList_data]; exact he
                have HYF := Lib.hid (show y = true by rw [HYV.out, he, decide_eq_true hf]; rfl)
                have HZ := Lib.hid (HY.out HYF.out)
                clear hf he
                go_wp2_with fail
                refine bodyPost_ret (v := .tuple #[.agg #[.string ⟨(mLoad).toArray⟩, .string ⟨([]).toArray⟩, .int .i64 0, .string ⟨(K).toArray⟩], .bool true]) (by simp [results, Try.results22, go_sem, u0, u1, u2, u3]) rfl ⟨by rw [HZ.out, HYF.out]; rfl, ?_⟩
                refine Below.trans HB3.out ?_
                repeat (first | exact Below.refl _ _ | refine Below.alloc ?_ (by first | omega | (simp; try omega)) _ | refine Below.setCell ?_ (by first | omega | (simp; try omega)) _)
            · have hq : (fc == s.toList) = false := by rw [Lib.toList_data]; simpa using hf
              have hq2 : (fc != s.toList) = true := by rw [bne, hq]; rfl
              have HYF := Lib.hid (show y = false by rw [HYV.out, decide_eq_false hf]; rfl)
              have HZ := Lib.hid (HN.out HYF.out)
              clear hf
              go_wp2_with fail
              refine bodyPost_ret (v := .tuple #[.agg #[.string ⟨#[]⟩, .string ⟨#[]⟩, .int .i64 0, .string ⟨#[]⟩], .bool false]) (by simp [results, Try.results22, go_sem, u0, u1, u2, u3]) rfl ⟨by rw [HZ.out, HYF.out]; rfl, ?_⟩
              refine Below.trans HB3.out ?_
              repeat (first | exact Below.refl _ _ | refine Below.alloc ?_ (by first | omega | (simp; try omega)) _ | refine Below.setCell ?_ (by first | omega | (simp; try omega)) _)
        · have bL : (m == [76, 111, 97, 100]) = false := by simpa using hL
          have HBV := Lib.hid HB2.out
          replace HD := Lib.hid (show d = ⟨m, [], 0, []⟩ by rw [HD.out]; simp only [if_neg hG, if_neg hP, if_neg hH, if_neg hL])
          have HFC := Lib.hid (fun w0 => specFormatCall_any (⟨m, [], 0, []⟩ : CallD) w0 (by simp only; simp) (by simp only; simp))
          unfold vCall at HFC
          simp only at HFC
          rw [show d = (⟨m, [], 0, []⟩ : CallD) from HD.out] at HP HY
          generalize fmtCall (⟨m, [], 0, []⟩ : CallD) = fc at *
          have hY : y = (decide (fc = s.data.toList) && !s.data.toList.isEmpty) := HP.out
          have HYV := Lib.hid hY
          clear hY
          go_wp2_with fail
          refine (HFC.out _).mono ?_
          rintro e w9 ⟨rfl, hb⟩
          obtain ⟨hcc, hff⟩ := bcell hb
          have z0 := hcc w1.heap.size 0 (by omega)
          have z1 := hcc w1.heap.size 1 (by omega)
          have z2 := hcc w1.heap.size 2 (by omega)
          have z3 := hcc w1.heap.size 3 (by omega)
          simp [go_sem, x0, x1, x2, x3] at z0 z1 z2 z3
          have hw3 := below_to3 hb (by repeat (first | exact Below.refl _ _ | refine Below.alloc ?_ (by first | omega | (simp; try omega)) _ | refine Below.setCell ?_ (by first | omega | (simp; try omega)) _) : Below w1.heap.size w2 _)
          have u0 := (hw3.cell (p := ⟨w.heap.size, 0, none⟩) hlt).trans s0
          have k0 := (hw3.frozen (p := ⟨w.heap.size, 0, none⟩) hlt).trans t0
          have u1 := (hw3.cell (p := ⟨w.heap.size, 1, none⟩) hlt).trans s1
          have k1 := (hw3.frozen (p := ⟨w.heap.size, 1, none⟩) hlt).trans t1
          have u2 := (hw3.cell (p := ⟨w.heap.size, 2, none⟩) hlt).trans s2
          have k2 := (hw3.frozen (p := ⟨w.heap.size, 2, none⟩) hlt).trans t2
          have u3 := (hw3.cell (p := ⟨w.heap.size, 3, none⟩) hlt).trans s3
          have k3 := (hw3.frozen (p := ⟨w.heap.size, 3, none⟩) hlt).trans t3
          have HB3 := Lib.hid (HBV.out.trans (hw3.mono HB.out.size))
          clear hb hcc hff hw3 s0 s1 s2 s3 t0 t1 t2 t3
          by_cases hf : fc = s.data.toList
          · have hq : (fc == s.toList) = true := by rw [Lib.toList_data]; simpa using hf
            have hq2 : (fc != s.toList) = false := by rw [bne, hq]; rfl
            cases he : s.data.toList.isEmpty with
            | true =>
              have hE : s.toList.isEmpty = true := by rw [Lib.toList_data]; exact he
              have HYF := Lib.hid (show y = false by rw [HYV.out, he, decide_eq_true hf]; rfl)
              have HZ := Lib.hid (HN.out HYF.out)
              clear hf he
              go_wp2_with fail
              refine bodyPost_ret (v := .tuple #[.agg #[.string ⟨#[]⟩, .string ⟨#[]⟩, .int .i64 0, .string ⟨#[]⟩], .bool false]) (by simp [results, Try.results22, go_sem, u0, u1, u2, u3]) rfl ⟨by rw [HZ.out, HYF.out]; rfl, ?_⟩
              refine Below.trans HB3.out ?_
              repeat (first | exact Below.refl _ _ | refine Below.alloc ?_ (by first | omega | (simp; try omega)) _ | refine Below.setCell ?_ (by first | omega | (simp; try omega)) _)
            | false =>
              have hE : s.toList.isEmpty = false := by rw [Lib.toList_data]; exact he
              have HYF := Lib.hid (show y = true by rw [HYV.out, he, decide_eq_true hf]; rfl)
              have HZ := Lib.hid (HY.out HYF.out)
              clear hf he
              go_wp2_with fail
              refine bodyPost_ret (v := .tuple #[.agg #[.string ⟨(m).toArray⟩, .string ⟨([]).toArray⟩, .int .i64 0, .string ⟨([]).toArray⟩], .bool true]) (by simp [results, Try.results22, go_sem, u0, u1, u2, u3]) rfl ⟨by rw [HZ.out, HYF.out]; rfl, ?_⟩
              refine Below.trans HB3.out ?_
              repeat (first | exact Below.refl _ _ | refine Below.alloc ?_ (by first | omega | (simp; try omega)) _ | refine Below.setCell ?_ (by first | omega | (simp; try omega)) _)
          · have hq : (fc == s.toList) = false := by rw [Lib.toList_data]; simpa using hf
            have hq2 : (fc != s.toList) = true := by rw [bne, hq]; rfl
            have HYF := Lib.hid (show y = false by rw [HYV.out, decide_eq_false hf]; rfl)
            have HZ := Lib.hid (HN.out HYF.out)
            clear hf
            go_wp2_with fail
            refine bodyPost_ret (v := .tuple #[.agg #[.string ⟨#[]⟩, .string ⟨#[]⟩, .int .i64 0, .string ⟨#[]⟩], .bool false]) (by simp [results, Try.results22, go_sem, u0, u1, u2, u3]) rfl ⟨by rw [HZ.out, HYF.out]; rfl, ?_⟩
            refine Below.trans HB3.out ?_
            repeat (first | exact Below.refl _ _ | refine Below.alloc ?_ (by first | omega | (simp; try omega)) _ | refine Below.setCell ?_ (by first | omega | (simp; try omega)) _)
end Go.Proofs.Ytmgfokikkhfibab
