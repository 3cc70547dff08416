/- Contracts of chapter 3: the program's readCall, ParseCall. -/
import Derived.Test.YtmgfokikkhfibabCallG
import Derived.Test.YtmgfokikkhfibabFmt2
namespace Go.Proofs.Ytmgfokikkhfibab
set_option linter.unusedVariables false
set_option linter.unusedSimpArgs false
open Go.RowKit
theorem belN5 {B : Nat} {a w : World} (h : Below B a w) (n : Nat) : Below B a (w.drewN n) := ⟨h.os, h.tape, h.output, h.size, h.block⟩
theorem below_rest {w w2 X w3 : World} (h : Below w.heap.size w w2) (hb : Below X.heap.size X w3) (hX : Below w.heap.size w2 X) : Below w.heap.size w w3 := (h.trans hX).trans (hb.mono (h.trans hX).size)
theorem rdI_len (s : List UInt8) : (rdI s).fKey.length ≤ s.length ∧ (rdI s).fText.length ≤ s.length := by
  unfold rdI
  have h1 := cut_len s [32]
  have h2 := cut_len (Lib.cut s [32]).2.1 [32]
  simp only
  split
  · refine ⟨by omega, ?_⟩
    split
    · omega
    · simp
  · refine ⟨by simp, ?_⟩
    split
    · exact h1.2
    · simp
set_option maxRecDepth 100000 in
set_option maxHeartbeats 16000000 in
theorem implReadCall_any (s : ByteArray) (m : Int) (w : World) (hm : w.cell? ⟨0, 0, none⟩ = some (.int .i64 m)) (hs : s.size ≤ 1048576) :
    Calls Try.prog 48 #[.string s] w fun e w' => e = .returned (vCall (rdI s.data.toList)) ∧ Below w.heap.size w w' := by
  have HG := Lib.hid (World.block_lt_of_cell? w _ hm)
  have HM := Lib.hid hm
  clear hm
  have hcl := cut_len s.data.toList [32]
  rw [size_list] at hcl
  have HCT := Lib.hid (fun w0 hm0 => Try.strings_Cut s ⟨#[32]⟩ m w0 (by omega) hm0)
  rw [show (⟨#[32]⟩ : ByteArray).data.toList = [32] from rfl] at HCT
  have HR := Lib.hid (show rdI s.data.toList = (let c := Lib.cut s.data.toList [32]; let c2 := if takesK c.1 = true then Lib.cut c.2.1 [32] else ([], c.2.1, false); ⟨c.1, c2.1, if takesV c.1 = true then pnum c2.2.1 else 0, if takesT c.1 = true then c2.2.1 else []⟩) from rfl)
  generalize rdI s.data.toList = res at *
  generalize Lib.cut s.data.toList [32] = t at *
  obtain ⟨t1, t2, t3⟩ := t
  simp only at HCT HR hcl
  have hcl2 := cut_len t2 [32]
  have HC2 := Lib.hid (fun w0 hm0 => Try.strings_Cut ⟨t2.toArray⟩ ⟨#[32]⟩ m w0 (by rw [size_strB]; omega) hm0)
  rw [dataL, show (⟨#[32]⟩ : ByteArray).data.toList = [32] from rfl] at HC2
  generalize Lib.cut t2 [32] = q at *
  obtain ⟨q1, q2, q3⟩ := q
  simp only at HC2 HR hcl2
  have HTK := Lib.hid (takesKey_b t1 _ rfl)
  have HTV := Lib.hid (takesValue_b t1 _ rfl)
  have HTT := Lib.hid (takesText_b t1 _ rfl)
  have HP1 := Lib.hid (fun w0 => implParse_any ⟨t2.toArray⟩ w0 (by rw [size_strB]; unfold maxLen; omega))
  have HP2 := Lib.hid (fun w0 => implParse_any ⟨q2.toArray⟩ w0 (by rw [size_strB]; unfold maxLen; omega))
  simp only at HP1 HP2
  have HK1 := Lib.hid (fun w0 => copyText_any ⟨t1.toArray⟩ w0 (by rw [size_strB]; omega))
  have HK2 := Lib.hid (fun w0 => copyText_any ⟨q1.toArray⟩ w0 (by rw [size_strB]; omega))
  have HK3 := Lib.hid (fun w0 => copyText_any ⟨t2.toArray⟩ w0 (by rw [size_strB]; omega))
  have HK4 := Lib.hid (fun w0 => copyText_any ⟨q2.toArray⟩ w0 (by rw [size_strB]; omega))
  generalize takesK t1 = tk at *
  generalize takesV t1 = tv at *
  generalize takesT t1 = tt at *
  have HB0 := Lib.hid (show ∀ o, Below w.heap.size w (w.alloc o) from fun o => (Below.refl w.heap.size w).alloc (Nat.le_refl _) o)
  go_enter Try.func48, Try.ntmps48
  go_wp2_with fail
  refine (HCT.out _ (((HB0.out _).cell (p := ⟨0, 0, none⟩) HG.out).trans HM.out)).mono ?_
  rintro e w1 ⟨rfl, n1, rfl⟩
  go_wp2_with fail
  refine (HK1.out _).mono ?_
  rintro e w2 ⟨rfl, hb2⟩
  obtain ⟨hcc2, hff2⟩ := bcell hb2
  simp at hcc2 hff2
  have hsz2 := hb2.size
  simp at hsz2
  have r2_0 : w2.cell? ⟨w.heap.size, 0, none⟩ = some (.string ⟨#[]⟩) := by rw [hcc2 _ _ (by omega)]; simp
  have q2_0 : w2.frozen? ⟨w.heap.size, 0, none⟩ = false := by rw [hff2 _ _ (by omega)]; simp
  have r2_1 : w2.cell? ⟨w.heap.size, 1, none⟩ = some (.string ⟨#[]⟩) := by rw [hcc2 _ _ (by omega)]; simp
  have q2_1 : w2.frozen? ⟨w.heap.size, 1, none⟩ = false := by rw [hff2 _ _ (by omega)]; simp
  have r2_2 : w2.cell? ⟨w.heap.size, 2, none⟩ = some (.int .i64 0) := by rw [hcc2 _ _ (by omega)]; simp
  have q2_2 : w2.frozen? ⟨w.heap.size, 2, none⟩ = false := by rw [hff2 _ _ (by omega)]; simp
  have r2_3 : w2.cell? ⟨w.heap.size, 3, none⟩ = some (.string ⟨#[]⟩) := by rw [hcc2 _ _ (by omega)]; simp
  have q2_3 : w2.frozen? ⟨w.heap.size, 3, none⟩ = false := by rw [hff2 _ _ (by omega)]; simp
  clear hcc2 hff2
  have R2 := Lib.hid (show _ ∧ _ ∧ _ ∧ _ from ⟨r2_0, r2_1, r2_2, r2_3⟩)
  have Q2 := Lib.hid (show _ ∧ _ ∧ _ ∧ _ from ⟨q2_0, q2_1, q2_2, q2_3⟩)
  have hlt : w.heap.size < w2.heap.size := by omega
  have hne : ¬ w.heap.size = w2.heap.size := by omega
  have hne2 : ¬ w2.heap.size = w.heap.size := by omega
  have HB2 := Lib.hid ((belN5 (HB0.out _) n1).trans (hb2.mono (belN5 (HB0.out _) n1).size))
  have HA2 := Lib.hid (show ∀ o, Below w2.heap.size w2 (w2.alloc o) from fun o => (Below.refl w2.heap.size w2).alloc (Nat.le_refl _) o)
  clear hb2
  cases tk with
  | true =>
    go_wp2_with (first | (go_at_call 32; (with_reducible refine (HTK.out _).mono ?_); rintro e w' ⟨rfl, rfl⟩))
    refine (HC2.out _ (((HB2.out.trans ((HA2.out _).mono HB2.out.size)).cell (p := ⟨0, 0, none⟩) HG.out).trans HM.out)).mono ?_
    rintro e w3 ⟨rfl, n2, rfl⟩
    go_wp2_with fail
    refine (HK2.out _).mono ?_
    rintro e w3 ⟨rfl, hb3⟩
    have HB3 := Lib.hid (HB2.out.trans (((belN5 (HA2.out _) n2).trans (hb3.mono (belN5 (HA2.out _) n2).size)).mono HB2.out.size))
    obtain ⟨hcc3, hff3⟩ := bcell hb3
    simp at hcc3 hff3
    have hsz3 := hb3.size
    simp at hsz3
    have H3 := below_rest (w := w2) (w2 := w2) (Below.refl _ _) hb3 (by repeat (first | exact Below.refl _ _ | refine Below.alloc ?_ (by first | omega | (simp; try omega)) _ | refine Below.setCell ?_ (by first | omega | (simp; try omega)) _ | refine belN5 ?_ _))
    have r3_0 := (H3.cell (p := ⟨w.heap.size, 0, none⟩) hlt).trans R2.out.1
    have q3_0 := (H3.frozen (p := ⟨w.heap.size, 0, none⟩) hlt).trans Q2.out.1
    have x3_0 : w3.cell? ⟨w2.heap.size, 0, none⟩ = some (.string ⟨t1.toArray⟩) := by rw [hcc3 _ _ (by omega)]; simp
    have y3_0 : w3.frozen? ⟨w2.heap.size, 0, none⟩ = false := by rw [hff3 _ _ (by omega)]; simp
    have r3_1 := (H3.cell (p := ⟨w.heap.size, 1, none⟩) hlt).trans R2.out.2.1
    have q3_1 := (H3.frozen (p := ⟨w.heap.size, 1, none⟩) hlt).trans Q2.out.2.1
    have x3_1 : w3.cell? ⟨w2.heap.size, 1, none⟩ = some (.string ⟨#[]⟩) := by rw [hcc3 _ _ (by omega)]; simp
    have y3_1 : w3.frozen? ⟨w2.heap.size, 1, none⟩ = false := by rw [hff3 _ _ (by omega)]; simp
    have r3_2 := (H3.cell (p := ⟨w.heap.size, 2, none⟩) hlt).trans R2.out.2.2.1
    have q3_2 := (H3.frozen (p := ⟨w.heap.size, 2, none⟩) hlt).trans Q2.out.2.2.1
    have x3_2 : w3.cell? ⟨w2.heap.size, 2, none⟩ = some (.int .i64 0) := by rw [hcc3 _ _ (by omega)]; simp
    have y3_2 : w3.frozen? ⟨w2.heap.size, 2, none⟩ = false := by rw [hff3 _ _ (by omega)]; simp
    have r3_3 := (H3.cell (p := ⟨w.heap.size, 3, none⟩) hlt).trans R2.out.2.2.2
    have q3_3 := (H3.frozen (p := ⟨w.heap.size, 3, none⟩) hlt).trans Q2.out.2.2.2
    have x3_3 : w3.cell? ⟨w2.heap.size, 3, none⟩ = some (.string ⟨#[]⟩) := by rw [hcc3 _ _ (by omega)]; simp
    have y3_3 : w3.frozen? ⟨w2.heap.size, 3, none⟩ = false := by rw [hff3 _ _ (by omega)]; simp
    clear hcc3 hff3
    clear r2_0 r2_1 r2_2 r2_3 q2_0 q2_1 q2_2 q2_3
    clear hb3
    cases tv <;> cases tt
    · go_wp2_with (first | (go_at_call 34; (with_reducible refine (HTV.out _).mono ?_); rintro e w' ⟨rfl, rfl⟩) | (go_at_call 36; (with_reducible refine (HTT.out _).mono ?_); rintro e w' ⟨rfl, rfl⟩))
      refine bodyPost_ret (v := .agg #[.string ⟨t1.toArray⟩, .string ⟨q1.toArray⟩, .int .i64 0, .string ⟨#[]⟩]) (by simp [results, Try.results48, go_sem, r3_0, r3_1, r3_2, r3_3]) rfl ⟨by rw [HR.out]; rfl, ?_⟩
      refine Below.trans HB3.out ?_
      repeat (first | exact Below.refl _ _ | refine Below.alloc ?_ (by first | omega | (simp; try omega)) _ | refine Below.setCell ?_ (by first | omega | (simp; try omega)) _)
    · go_wp2_with (first | (go_at_call 34; (with_reducible refine (HTV.out _).mono ?_); rintro e w' ⟨rfl, rfl⟩) | (go_at_call 36; (with_reducible refine (HTT.out _).mono ?_); rintro e w' ⟨rfl, rfl⟩))
      refine (HK4.out _).mono ?_
      rintro e w4 ⟨rfl, hb4⟩
      obtain ⟨hcc4, hff4⟩ := bcell hb4
      simp at hcc4 hff4
      have hsz4 := hb4.size
      simp at hsz4
      have H4 := below_rest (w := w2) H3 hb4 (by repeat (first | exact Below.refl _ _ | refine Below.alloc ?_ (by first | omega | (simp; try omega)) _ | refine Below.setCell ?_ (by first | omega | (simp; try omega)) _ | refine belN5 ?_ _))
      have r4_0 := (H4.cell (p := ⟨w.heap.size, 0, none⟩) hlt).trans R2.out.1
      have q4_0 := (H4.frozen (p := ⟨w.heap.size, 0, none⟩) hlt).trans Q2.out.1
      have x4_0 : w4.cell? ⟨w2.heap.size, 0, none⟩ = some (.string ⟨t1.toArray⟩) := by rw [hcc4 _ _ (by omega)]; simp [go_sem, x3_0]
      have y4_0 : w4.frozen? ⟨w2.heap.size, 0, none⟩ = false := by rw [hff4 _ _ (by omega)]; simp [go_sem, y3_0]
      have r4_1 := (H4.cell (p := ⟨w.heap.size, 1, none⟩) hlt).trans R2.out.2.1
      have q4_1 := (H4.frozen (p := ⟨w.heap.size, 1, none⟩) hlt).trans Q2.out.2.1
      have x4_1 : w4.cell? ⟨w2.heap.size, 1, none⟩ = some (.string ⟨q1.toArray⟩) := by rw [hcc4 _ _ (by omega)]; simp [go_sem, x3_1]
      have y4_1 : w4.frozen? ⟨w2.heap.size, 1, none⟩ = false := by rw [hff4 _ _ (by omega)]; simp [go_sem, y3_1]
      have r4_2 := (H4.cell (p := ⟨w.heap.size, 2, none⟩) hlt).trans R2.out.2.2.1
      have q4_2 := (H4.frozen (p := ⟨w.heap.size, 2, none⟩) hlt).trans Q2.out.2.2.1
      have x4_2 : w4.cell? ⟨w2.heap.size, 2, none⟩ = some (.int .i64 0) := by rw [hcc4 _ _ (by omega)]; simp [go_sem, x3_2]
      have y4_2 : w4.frozen? ⟨w2.heap.size, 2, none⟩ = false := by rw [hff4 _ _ (by omega)]; simp [go_sem, y3_2]
      have r4_3 := (H4.cell (p := ⟨w.heap.size, 3, none⟩) hlt).trans R2.out.2.2.2
      have q4_3 := (H4.frozen (p := ⟨w.heap.size, 3, none⟩) hlt).trans Q2.out.2.2.2
      have x4_3 : w4.cell? ⟨w2.heap.size, 3, none⟩ = some (.string ⟨#[]⟩) := by rw [hcc4 _ _ (by omega)]; simp [go_sem, x3_3]
      have y4_3 : w4.frozen? ⟨w2.heap.size, 3, none⟩ = false := by rw [hff4 _ _ (by omega)]; simp [go_sem, y3_3]
      clear hcc4 hff4
      clear r3_0 r3_1 r3_2 r3_3 q3_0 q3_1 q3_2 q3_3 x3_0 x3_1 x3_2 x3_3 y3_0 y3_1 y3_2 y3_3
      have HB4 := Lib.hid (below_rest HB3.out hb4 (by repeat (first | exact Below.refl _ _ | refine Below.alloc ?_ (by first | omega | (simp; try omega)) _ | refine Below.setCell ?_ (by first | omega | (simp; try omega)) _)))
      clear hb4
      go_wp2_with fail
      refine bodyPost_ret (v := .agg #[.string ⟨t1.toArray⟩, .string ⟨q1.toArray⟩, .int .i64 0, .string ⟨q2.toArray⟩]) (by simp [results, Try.results48, go_sem, r4_0, r4_1, r4_2, r4_3]) rfl ⟨by rw [HR.out]; rfl, ?_⟩
      refine Below.trans HB4.out ?_
      repeat (first | exact Below.refl _ _ | refine Below.alloc ?_ (by first | omega | (simp; try omega)) _ | refine Below.setCell ?_ (by first | omega | (simp; try omega)) _)
    · go_wp2_with (first | (go_at_call 34; (with_reducible refine (HTV.out _).mono ?_); rintro e w' ⟨rfl, rfl⟩) | (go_at_call 36; (with_reducible refine (HTT.out _).mono ?_); rintro e w' ⟨rfl, rfl⟩) | (go_at_call 67; (with_reducible refine (HP2.out _).mono ?_); rintro e w' ⟨rfl, rfl⟩))
      refine bodyPost_ret (v := .agg #[.string ⟨t1.toArray⟩, .string ⟨q1.toArray⟩, .int .i64 (pnum q2), .string ⟨#[]⟩]) (by simp [results, Try.results48, go_sem, r3_0, r3_1, r3_2, r3_3]) rfl ⟨by rw [HR.out]; rfl, ?_⟩
      refine Below.trans HB3.out ?_
      repeat (first | exact Below.refl _ _ | refine Below.alloc ?_ (by first | omega | (simp; try omega)) _ | refine Below.setCell ?_ (by first | omega | (simp; try omega)) _)
    · go_wp2_with (first | (go_at_call 34; (with_reducible refine (HTV.out _).mono ?_); rintro e w' ⟨rfl, rfl⟩) | (go_at_call 36; (with_reducible refine (HTT.out _).mono ?_); rintro e w' ⟨rfl, rfl⟩) | (go_at_call 67; (with_reducible refine (HP2.out _).mono ?_); rintro e w' ⟨rfl, rfl⟩))
      refine (HK4.out _).mono ?_
      rintro e w4 ⟨rfl, hb4⟩
      obtain ⟨hcc4, hff4⟩ := bcell hb4
      simp at hcc4 hff4
      have hsz4 := hb4.size
      simp at hsz4
      have H4 := below_rest (w := w2) H3 hb4 (by repeat (first | exact Below.refl _ _ | refine Below.alloc ?_ (by first | omega | (simp; try omega)) _ | refine Below.setCell ?_ (by first | omega | (simp; try omega)) _ | refine belN5 ?_ _))
      have r4_0 := (H4.cell (p := ⟨w.heap.size, 0, none⟩) hlt).trans R2.out.1
      have q4_0 := (H4.frozen (p := ⟨w.heap.size, 0, none⟩) hlt).trans Q2.out.1
      have x4_0 : w4.cell? ⟨w2.heap.size, 0, none⟩ = some (.string ⟨t1.toArray⟩) := by rw [hcc4 _ _ (by omega)]; simp [go_sem, x3_0]
      have y4_0 : w4.frozen? ⟨w2.heap.size, 0, none⟩ = false := by rw [hff4 _ _ (by omega)]; simp [go_sem, y3_0]
      have r4_1 := (H4.cell (p := ⟨w.heap.size, 1, none⟩) hlt).trans R2.out.2.1
      have q4_1 := (H4.frozen (p := ⟨w.heap.size, 1, none⟩) hlt).trans Q2.out.2.1
      have x4_1 : w4.cell? ⟨w2.heap.size, 1, none⟩ = some (.string ⟨q1.toArray⟩) := by rw [hcc4 _ _ (by omega)]; simp [go_sem, x3_1]
      have y4_1 : w4.frozen? ⟨w2.heap.size, 1, none⟩ = false := by rw [hff4 _ _ (by omega)]; simp [go_sem, y3_1]
      have r4_2 := (H4.cell (p := ⟨w.heap.size, 2, none⟩) hlt).trans R2.out.2.2.1
      have q4_2 := (H4.frozen (p := ⟨w.heap.size, 2, none⟩) hlt).trans Q2.out.2.2.1
      have x4_2 : w4.cell? ⟨w2.heap.size, 2, none⟩ = some (.int .i64 (pnum q2)) := by rw [hcc4 _ _ (by omega)]; simp [go_sem, x3_2]
      have y4_2 : w4.frozen? ⟨w2.heap.size, 2, none⟩ = false := by rw [hff4 _ _ (by omega)]; simp [go_sem, y3_2]
      have r4_3 := (H4.cell (p := ⟨w.heap.size, 3, none⟩) hlt).trans R2.out.2.2.2
      have q4_3 := (H4.frozen (p := ⟨w.heap.size, 3, none⟩) hlt).trans Q2.out.2.2.2
      have x4_3 : w4.cell? ⟨w2.heap.size, 3, none⟩ = some (.string ⟨#[]⟩) := by rw [hcc4 _ _ (by omega)]; simp [go_sem, x3_3]
      have y4_3 : w4.frozen? ⟨w2.heap.size, 3, none⟩ = false := by rw [hff4 _ _ (by omega)]; simp [go_sem, y3_3]
      clear hcc4 hff4
      clear r3_0 r3_1 r3_2 r3_3 q3_0 q3_1 q3_2 q3_3 x3_0 x3_1 x3_2 x3_3 y3_0 y3_1 y3_2 y3_3
      have HB4 := Lib.hid (below_rest HB3.out hb4 (by repeat (first | exact Below.refl _ _ | refine Below.alloc ?_ (by first | omega | (simp; try omega)) _ | refine Below.setCell ?_ (by first | omega | (simp; try omega)) _)))
      clear hb4
      go_wp2_with fail
      refine bodyPost_ret (v := .agg #[.string ⟨t1.toArray⟩, .string ⟨q1.toArray⟩, .int .i64 (pnum q2), .string ⟨q2.toArray⟩]) (by simp [results, Try.results48, go_sem, r4_0, r4_1, r4_2, r4_3]) rfl ⟨by rw [HR.out]; rfl, ?_⟩
      refine Below.trans HB4.out ?_
      repeat (first | exact Below.refl _ _ | refine Below.alloc ?_ (by first | omega | (simp; try omega)) _ | refine Below.setCell ?_ (by first | omega | (simp; try omega)) _)
  | false =>
    cases tv <;> cases tt
    · go_wp2_with (first | (go_at_call 32; (with_reducible refine (HTK.out _).mono ?_); rintro e w' ⟨rfl, rfl⟩) | (go_at_call 34; (with_reducible refine (HTV.out _).mono ?_); rintro e w' ⟨rfl, rfl⟩) | (go_at_call 36; (with_reducible refine (HTT.out _).mono ?_); rintro e w' ⟨rfl, rfl⟩))
      refine bodyPost_ret (v := .agg #[.string ⟨t1.toArray⟩, .string ⟨#[]⟩, .int .i64 0, .string ⟨#[]⟩]) (by simp [results, Try.results48, go_sem, hlt, hne, hne2, r2_0, r2_1, r2_2, r2_3, q2_0, q2_1, q2_2, q2_3]) rfl ⟨by rw [HR.out]; rfl, ?_⟩
      refine Below.trans HB2.out ?_
      repeat (first | exact Below.refl _ _ | refine Below.alloc ?_ (by first | omega | (simp; try omega)) _ | refine Below.setCell ?_ (by first | omega | (simp; try omega)) _)
    · go_wp2_with (first | (go_at_call 32; (with_reducible refine (HTK.out _).mono ?_); rintro e w' ⟨rfl, rfl⟩) | (go_at_call 34; (with_reducible refine (HTV.out _).mono ?_); rintro e w' ⟨rfl, rfl⟩) | (go_at_call 36; (with_reducible refine (HTT.out _).mono ?_); rintro e w' ⟨rfl, rfl⟩))
      refine (HK3.out _).mono ?_
      rintro e w3 ⟨rfl, hb3⟩
      obtain ⟨hcc3, hff3⟩ := bcell hb3
      simp at hcc3 hff3
      have hsz3 := hb3.size
      simp at hsz3
      have H3 := below_rest (w := w2) (w2 := w2) (Below.refl _ _) hb3 (by repeat (first | exact Below.refl _ _ | refine Below.alloc ?_ (by first | omega | (simp; try omega)) _ | refine Below.setCell ?_ (by first | omega | (simp; try omega)) _ | refine belN5 ?_ _))
      have r3_0 := (H3.cell (p := ⟨w.heap.size, 0, none⟩) hlt).trans R2.out.1
      have q3_0 := (H3.frozen (p := ⟨w.heap.size, 0, none⟩) hlt).trans Q2.out.1
      have x3_0 : w3.cell? ⟨w2.heap.size, 0, none⟩ = some (.string ⟨t1.toArray⟩) := by rw [hcc3 _ _ (by omega)]; simp
      have y3_0 : w3.frozen? ⟨w2.heap.size, 0, none⟩ = false := by rw [hff3 _ _ (by omega)]; simp
      have r3_1 := (H3.cell (p := ⟨w.heap.size, 1, none⟩) hlt).trans R2.out.2.1
      have q3_1 := (H3.frozen (p := ⟨w.heap.size, 1, none⟩) hlt).trans Q2.out.2.1
      have x3_1 : w3.cell? ⟨w2.heap.size, 1, none⟩ = some (.string ⟨#[]⟩) := by rw [hcc3 _ _ (by omega)]; simp
      have y3_1 : w3.frozen? ⟨w2.heap.size, 1, none⟩ = false := by rw [hff3 _ _ (by omega)]; simp
      have r3_2 := (H3.cell (p := ⟨w.heap.size, 2, none⟩) hlt).trans R2.out.2.2.1
      have q3_2 := (H3.frozen (p := ⟨w.heap.size, 2, none⟩) hlt).trans Q2.out.2.2.1
      have x3_2 : w3.cell? ⟨w2.heap.size, 2, none⟩ = some (.int .i64 0) := by rw [hcc3 _ _ (by omega)]; simp
      have y3_2 : w3.frozen? ⟨w2.heap.size, 2, none⟩ = false := by rw [hff3 _ _ (by omega)]; simp
      have r3_3 := (H3.cell (p := ⟨w.heap.size, 3, none⟩) hlt).trans R2.out.2.2.2
      have q3_3 := (H3.frozen (p := ⟨w.heap.size, 3, none⟩) hlt).trans Q2.out.2.2.2
      have x3_3 : w3.cell? ⟨w2.heap.size, 3, none⟩ = some (.string ⟨#[]⟩) := by rw [hcc3 _ _ (by omega)]; simp
      have y3_3 : w3.frozen? ⟨w2.heap.size, 3, none⟩ = false := by rw [hff3 _ _ (by omega)]; simp
      clear hcc3 hff3
      clear r2_0 r2_1 r2_2 r2_3 q2_0 q2_1 q2_2 q2_3
      have HB3 := Lib.hid (below_rest HB2.out hb3 (by repeat (first | exact Below.refl _ _ | refine Below.alloc ?_ (by first | omega | (simp; try omega)) _ | refine Below.setCell ?_ (by first | omega | (simp; try omega)) _)))
      clear hb3
      go_wp2_with fail
      refine bodyPost_ret (v := .agg #[.string ⟨t1.toArray⟩, .string ⟨#[]⟩, .int .i64 0, .string ⟨t2.toArray⟩]) (by simp [results, Try.results48, go_sem, r3_0, r3_1, r3_2, r3_3]) rfl ⟨by rw [HR.out]; rfl, ?_⟩
      refine Below.trans HB3.out ?_
      repeat (first | exact Below.refl _ _ | refine Below.alloc ?_ (by first | omega | (simp; try omega)) _ | refine Below.setCell ?_ (by first | omega | (simp; try omega)) _)
    · go_wp2_with (first | (go_at_call 32; (with_reducible refine (HTK.out _).mono ?_); rintro e w' ⟨rfl, rfl⟩) | (go_at_call 34; (with_reducible refine (HTV.out _).mono ?_); rintro e w' ⟨rfl, rfl⟩) | (go_at_call 36; (with_reducible refine (HTT.out _).mono ?_); rintro e w' ⟨rfl, rfl⟩) | (go_at_call 67; (with_reducible refine (HP1.out _).mono ?_); rintro e w' ⟨rfl, rfl⟩))
      refine bodyPost_ret (v := .agg #[.string ⟨t1.toArray⟩, .string ⟨#[]⟩, .int .i64 (pnum t2), .string ⟨#[]⟩]) (by simp [results, Try.results48, go_sem, hlt, hne, hne2, r2_0, r2_1, r2_2, r2_3, q2_0, q2_1, q2_2, q2_3]) rfl ⟨by rw [HR.out]; rfl, ?_⟩
      refine Below.trans HB2.out ?_
      repeat (first | exact Below.refl _ _ | refine Below.alloc ?_ (by first | omega | (simp; try omega)) _ | refine Below.setCell ?_ (by first | omega | (simp; try omega)) _)
    · go_wp2_with (first | (go_at_call 32; (with_reducible refine (HTK.out _).mono ?_); rintro e w' ⟨rfl, rfl⟩) | (go_at_call 34; (with_reducible refine (HTV.out _).mono ?_); rintro e w' ⟨rfl, rfl⟩) | (go_at_call 36; (with_reducible refine (HTT.out _).mono ?_); rintro e w' ⟨rfl, rfl⟩) | (go_at_call 67; (with_reducible refine (HP1.out _).mono ?_); rintro e w' ⟨rfl, rfl⟩))
      refine (HK3.out _).mono ?_
      rintro e w3 ⟨rfl, hb3⟩
      obtain ⟨hcc3, hff3⟩ := bcell hb3
      simp at hcc3 hff3
      have hsz3 := hb3.size
      simp at hsz3
      have H3 := below_rest (w := w2) (w2 := w2) (Below.refl _ _) hb3 (by repeat (first | exact Below.refl _ _ | refine Below.alloc ?_ (by first | omega | (simp; try omega)) _ | refine Below.setCell ?_ (by first | omega | (simp; try omega)) _ | refine belN5 ?_ _))
      have r3_0 := (H3.cell (p := ⟨w.heap.size, 0, none⟩) hlt).trans R2.out.1
      have q3_0 := (H3.frozen (p := ⟨w.heap.size, 0, none⟩) hlt).trans Q2.out.1
      have x3_0 : w3.cell? ⟨w2.heap.size, 0, none⟩ = some (.string ⟨t1.toArray⟩) := by rw [hcc3 _ _ (by omega)]; simp
      have y3_0 : w3.frozen? ⟨w2.heap.size, 0, none⟩ = false := by rw [hff3 _ _ (by omega)]; simp
      have r3_1 := (H3.cell (p := ⟨w.heap.size, 1, none⟩) hlt).trans R2.out.2.1
      have q3_1 := (H3.frozen (p := ⟨w.heap.size, 1, none⟩) hlt).trans Q2.out.2.1
      have x3_1 : w3.cell? ⟨w2.heap.size, 1, none⟩ = some (.string ⟨#[]⟩) := by rw [hcc3 _ _ (by omega)]; simp
      have y3_1 : w3.frozen? ⟨w2.heap.size, 1, none⟩ = false := by rw [hff3 _ _ (by omega)]; simp
      have r3_2 := (H3.cell (p := ⟨w.heap.size, 2, none⟩) hlt).trans R2.out.2.2.1
      have q3_2 := (H3.frozen (p := ⟨w.heap.size, 2, none⟩) hlt).trans Q2.out.2.2.1
      have x3_2 : w3.cell? ⟨w2.heap.size, 2, none⟩ = some (.int .i64 (pnum t2)) := by rw [hcc3 _ _ (by omega)]; simp
      have y3_2 : w3.frozen? ⟨w2.heap.size, 2, none⟩ = false := by rw [hff3 _ _ (by omega)]; simp
      have r3_3 := (H3.cell (p := ⟨w.heap.size, 3, none⟩) hlt).trans R2.out.2.2.2
      have q3_3 := (H3.frozen (p := ⟨w.heap.size, 3, none⟩) hlt).trans Q2.out.2.2.2
      have x3_3 : w3.cell? ⟨w2.heap.size, 3, none⟩ = some (.string ⟨#[]⟩) := by rw [hcc3 _ _ (by omega)]; simp
      have y3_3 : w3.frozen? ⟨w2.heap.size, 3, none⟩ = false := by rw [hff3 _ _ (by omega)]; simp
      clear hcc3 hff3
      clear r2_0 r2_1 r2_2 r2_3 q2_0 q2_1 q2_2 q2_3
      have HB3 := Lib.hid (below_rest HB2.out hb3 (by repeat (first | exact Below.refl _ _ | refine Below.alloc ?_ (by first | omega | (simp; try omega)) _ | refine Below.setCell ?_ (by first | omega | (simp; try omega)) _)))
      clear hb3
      go_wp2_with fail
      refine bodyPost_ret (v := .agg #[.string ⟨t1.toArray⟩, .string ⟨#[]⟩, .int .i64 (pnum t2), .string ⟨t2.toArray⟩]) (by simp [results, Try.results48, go_sem, r3_0, r3_1, r3_2, r3_3]) rfl ⟨by rw [HR.out]; rfl, ?_⟩
      refine Below.trans HB3.out ?_
      repeat (first | exact Below.refl _ _ | refine Below.alloc ?_ (by first | omega | (simp; try omega)) _ | refine Below.setCell ?_ (by first | omega | (simp; try omega)) _)
-- END OF readCall
end Go.Proofs.Ytmgfokikkhfibab
