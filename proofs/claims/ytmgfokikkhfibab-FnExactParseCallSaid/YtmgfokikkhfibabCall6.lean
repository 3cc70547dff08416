/- Contracts of chapter 3: the program's ParseCall. -/
import Derived.Test.YtmgfokikkhfibabCall5
namespace Go.Proofs.Ytmgfokikkhfibab
set_option linter.unusedVariables false
open Go.RowKit
theorem belR {w1 X w2 : World} (h : Below w1.heap.size w1 X) (hb : Below X.heap.size X w2) : Below w1.heap.size w1 w2 := h.trans (hb.mono h.size)
set_option maxRecDepth 100000 in
set_option maxHeartbeats 6400000 in
theorem implParseCall_any (s : ByteArray) (m : Int) (w : World) (hm : w.cell? ⟨0, 0, none⟩ = some (.int .i64 m)) (hs : s.size ≤ 1048576) :
    Calls Try.prog 23 #[.string s] w fun e w' => GivesCall (prsK s.data.toList) (prsKB s.data.toList) w e w' := by
  have HG := Lib.hid (World.block_lt_of_cell? w _ hm)
  have HM := Lib.hid hm
  have HR := Lib.hid (fun w0 hm0 => implReadCall_any s m w0 hm0 hs)
  have hlen := rdI_len s.data.toList
  rw [size_list] at hlen
  have HP := Lib.hid (show prsKB s.data.toList = (callB (rdI s.data.toList) && decide (fmtCall (rdI s.data.toList) = s.data.toList)) from rfl)
  have HY := Lib.hid (@prsK_yes s.data.toList)
  have HN := Lib.hid (@prsK_no s.data.toList)
  have HIC := Lib.hid (fun w0 => implIsCall_any (rdI s.data.toList) w0 (by unfold maxLen; omega))
  have HFC := Lib.hid (fun w0 => implFormatCall_any (rdI s.data.toList) w0 (by unfold maxLen; omega) (by omega))
  unfold GivesCall
  generalize prsK s.data.toList = z at *
  generalize prsKB s.data.toList = y at *
  generalize hd : rdI s.data.toList = d at *
  clear hm hlen hd
  obtain ⟨d0, d1, d2, d3⟩ := d
  unfold vCall at HR HIC HFC
  simp only at HR HIC HFC
  have HB0 := Lib.hid (show ∀ o, Below w.heap.size w (w.alloc o) from fun o => (Below.refl w.heap.size w).alloc (Nat.le_refl _) o)
  have HA := Lib.hid (show ∀ (w1 : World) (o : Obj), Below w1.heap.size w1 (w1.alloc o) from fun w1 o => (Below.refl w1.heap.size w1).alloc (Nat.le_refl _) o)
  cases hc : callB ⟨d0, d1, d2, d3⟩ with
  | false =>
    have HYF := Lib.hid (show y = false by rw [HP.out, hc]; rfl)
    have HZ := Lib.hid (HN.out HYF.out)
    rw [hc] at HIC
    clear hc
    go_enter Try.func23, Try.ntmps23
    go_wp2_with fail
    refine (HR.out _ (((HB0.out _).cell (p := ⟨0, 0, none⟩) HG.out).trans HM.out)).mono ?_
    rintro e w1 ⟨rfl, hb⟩
    have HB := Lib.hid ((HB0.out _).trans (hb.mono (HB0.out _).size))
    obtain ⟨hcc, hff⟩ := bcell hb
    simp at hcc hff
    have r0 := hcc w.heap.size 0 (by omega)
    have r1 := hcc w.heap.size 1 (by omega)
    have r2 := hcc w.heap.size 2 (by omega)
    have r3 := hcc w.heap.size 3 (by omega)
    have q0 := hff w.heap.size 0 (by omega)
    have q1 := hff w.heap.size 1 (by omega)
    have q2 := hff w.heap.size 2 (by omega)
    have q3 := hff w.heap.size 3 (by omega)
    simp at r0 r1 r2 r3 q0 q1 q2 q3
    have hlt : w.heap.size < w1.heap.size := by have h := hb.size; simp at h; omega
    clear hb hcc hff
    go_wp2_with fail
    refine (HIC.out _).mono ?_
    rintro e w2 ⟨rfl, hb⟩
    have hw := belR (HA.out w1 _) hb
    have s0 := (hw.cell (p := ⟨w.heap.size, 0, none⟩) hlt).trans r0
    have s1 := (hw.cell (p := ⟨w.heap.size, 1, none⟩) hlt).trans r1
    have s2 := (hw.cell (p := ⟨w.heap.size, 2, none⟩) hlt).trans r2
    have s3 := (hw.cell (p := ⟨w.heap.size, 3, none⟩) hlt).trans r3
    have t0 := (hw.frozen (p := ⟨w.heap.size, 0, none⟩) hlt).trans q0
    have t1 := (hw.frozen (p := ⟨w.heap.size, 1, none⟩) hlt).trans q1
    have t2 := (hw.frozen (p := ⟨w.heap.size, 2, none⟩) hlt).trans q2
    have t3 := (hw.frozen (p := ⟨w.heap.size, 3, none⟩) hlt).trans q3
    have HB2 := Lib.hid (HB.out.trans (hw.mono HB.out.size))
    clear hb hw r0 r1 r2 r3 q0 q1 q2 q3
    go_wp2_with fail
    refine bodyPost_ret (v := .tuple #[.agg #[.string ⟨#[]⟩, .string ⟨#[]⟩, .int .i64 0, .string ⟨#[]⟩], .bool false]) (by simp [results, Try.results23, go_sem, s0, s1, s2, s3]) rfl ⟨by rw [HZ.out, HYF.out]; rfl, ?_⟩
    refine Below.trans HB2.out ?_
    repeat (first | exact Below.refl _ _ | refine Below.alloc ?_ (by simp; try omega) _ | refine Below.setCell ?_ (by simp; try omega) _)
  | true =>
    rw [hc] at HIC
    cases hf : decide (fmtCall ⟨d0, d1, d2, d3⟩ = s.data.toList) with
    | false =>
      have HYF := Lib.hid (show y = false by rw [HP.out, hc, hf]; rfl)
      have HZ := Lib.hid (HN.out HYF.out)
      have hne : (fmtCall ⟨d0, d1, d2, d3⟩ == s.toList) = false := by rw [Lib.toList_data]; simpa using hf
      have hne2 : (fmtCall ⟨d0, d1, d2, d3⟩ != s.toList) = true := by rw [bne, hne]; rfl
      clear hf hc
      go_enter Try.func23, Try.ntmps23
      go_wp2_with fail
      refine (HR.out _ (((HB0.out _).cell (p := ⟨0, 0, none⟩) HG.out).trans HM.out)).mono ?_
      rintro e w1 ⟨rfl, hb⟩
      have HB := Lib.hid ((HB0.out _).trans (hb.mono (HB0.out _).size))
      obtain ⟨hcc, hff⟩ := bcell hb
      simp at hcc hff
      have r0 := hcc w.heap.size 0 (by omega)
      have r1 := hcc w.heap.size 1 (by omega)
      have r2 := hcc w.heap.size 2 (by omega)
      have r3 := hcc w.heap.size 3 (by omega)
      have q0 := hff w.heap.size 0 (by omega)
      have q1 := hff w.heap.size 1 (by omega)
      have q2 := hff w.heap.size 2 (by omega)
      have q3 := hff w.heap.size 3 (by omega)
      simp at r0 r1 r2 r3 q0 q1 q2 q3
      have hlt : w.heap.size < w1.heap.size := by have h := hb.size; simp at h; omega
      clear hb hcc hff
      go_wp2_with fail
      refine (HIC.out _).mono ?_
      rintro e w2 ⟨rfl, hb⟩
      obtain ⟨hcc, hff⟩ := bcell hb
      simp at hcc hff
      have x0 := hcc w1.heap.size 0 (by omega)
      have x1 := hcc w1.heap.size 1 (by omega)
      have x2 := hcc w1.heap.size 2 (by omega)
      have x3 := hcc w1.heap.size 3 (by omega)
      simp at x0 x1 x2 x3
      have hlt2 : w1.heap.size < w2.heap.size := by have h := hb.size; simp at h; omega
      have hw := belR (HA.out w1 _) hb
      have HB2 := Lib.hid (HB.out.trans (hw.mono HB.out.size))
      have s0 := (hw.cell (p := ⟨w.heap.size, 0, none⟩) hlt).trans r0
      have s1 := (hw.cell (p := ⟨w.heap.size, 1, none⟩) hlt).trans r1
      have s2 := (hw.cell (p := ⟨w.heap.size, 2, none⟩) hlt).trans r2
      have s3 := (hw.cell (p := ⟨w.heap.size, 3, none⟩) hlt).trans r3
      have t0 := (hw.frozen (p := ⟨w.heap.size, 0, none⟩) hlt).trans q0
      have t1 := (hw.frozen (p := ⟨w.heap.size, 1, none⟩) hlt).trans q1
      have t2 := (hw.frozen (p := ⟨w.heap.size, 2, none⟩) hlt).trans q2
      have t3 := (hw.frozen (p := ⟨w.heap.size, 3, none⟩) hlt).trans q3
      clear hb hw hcc hff r0 r1 r2 r3 q0 q1 q2 q3
      go_wp2_with fail
      refine (HFC.out _).mono ?_
      rintro e w3 ⟨rfl, hb⟩
      have hlt3 : w.heap.size < w2.heap.size := by omega
      have y0 := (hb.cell (p := ⟨w1.heap.size, 0, none⟩) hlt2).trans x0
      have y1 := (hb.cell (p := ⟨w1.heap.size, 1, none⟩) hlt2).trans x1
      have y2 := (hb.cell (p := ⟨w1.heap.size, 2, none⟩) hlt2).trans x2
      have y3 := (hb.cell (p := ⟨w1.heap.size, 3, none⟩) hlt2).trans x3
      have r0 := (hb.cell (p := ⟨w.heap.size, 0, none⟩) hlt3).trans s0
      have r1 := (hb.cell (p := ⟨w.heap.size, 1, none⟩) hlt3).trans s1
      have r2 := (hb.cell (p := ⟨w.heap.size, 2, none⟩) hlt3).trans s2
      have r3 := (hb.cell (p := ⟨w.heap.size, 3, none⟩) hlt3).trans s3
      have q0 := (hb.frozen (p := ⟨w.heap.size, 0, none⟩) hlt3).trans t0
      have q1 := (hb.frozen (p := ⟨w.heap.size, 1, none⟩) hlt3).trans t1
      have q2 := (hb.frozen (p := ⟨w.heap.size, 2, none⟩) hlt3).trans t2
      have q3 := (hb.frozen (p := ⟨w.heap.size, 3, none⟩) hlt3).trans t3
      have HB3 := Lib.hid (HB2.out.trans (hb.mono HB2.out.size))
      clear hb x0 x1 x2 x3 s0 s1 s2 s3 t0 t1 t2 t3
      go_wp2_with fail
      refine bodyPost_ret (v := .tuple #[.agg #[.string ⟨#[]⟩, .string ⟨#[]⟩, .int .i64 0, .string ⟨#[]⟩], .bool false]) (by simp [results, Try.results23, go_sem, r0, r1, r2, r3]) rfl ⟨by rw [HZ.out, HYF.out]; rfl, ?_⟩
      refine Below.trans HB3.out ?_
      repeat (first | exact Below.refl _ _ | refine Below.alloc ?_ (by simp; try omega) _ | refine Below.setCell ?_ (by simp; try omega) _)
    | true =>
      have HYF := Lib.hid (show y = true by rw [HP.out, hc, hf]; rfl)
      have HZ := Lib.hid (HY.out HYF.out)
      have hne : (fmtCall ⟨d0, d1, d2, d3⟩ == s.toList) = true := by rw [Lib.toList_data]; simpa using hf
      have hne2 : (fmtCall ⟨d0, d1, d2, d3⟩ != s.toList) = false := by rw [bne, hne]; rfl
      clear hf hc
      go_enter Try.func23, Try.ntmps23
      go_wp2_with fail
      refine (HR.out _ (((HB0.out _).cell (p := ⟨0, 0, none⟩) HG.out).trans HM.out)).mono ?_
      rintro e w1 ⟨rfl, hb⟩
      have HB := Lib.hid ((HB0.out _).trans (hb.mono (HB0.out _).size))
      obtain ⟨hcc, hff⟩ := bcell hb
      simp at hcc hff
      have r0 := hcc w.heap.size 0 (by omega)
      have r1 := hcc w.heap.size 1 (by omega)
      have r2 := hcc w.heap.size 2 (by omega)
      have r3 := hcc w.heap.size 3 (by omega)
      have q0 := hff w.heap.size 0 (by omega)
      have q1 := hff w.heap.size 1 (by omega)
      have q2 := hff w.heap.size 2 (by omega)
      have q3 := hff w.heap.size 3 (by omega)
      simp at r0 r1 r2 r3 q0 q1 q2 q3
      have hlt : w.heap.size < w1.heap.size := by have h := hb.size; simp at h; omega
      clear hb hcc hff
      go_wp2_with fail
      refine (HIC.out _).mono ?_
      rintro e w2 ⟨rfl, hb⟩
      obtain ⟨hcc, hff⟩ := bcell hb
      simp at hcc hff
      have x0 := hcc w1.heap.size 0 (by omega)
      have x1 := hcc w1.heap.size 1 (by omega)
      have x2 := hcc w1.heap.size 2 (by omega)
      have x3 := hcc w1.heap.size 3 (by omega)
      simp at x0 x1 x2 x3
      have hlt2 : w1.heap.size < w2.heap.size := by have h := hb.size; simp at h; omega
      have hw := belR (HA.out w1 _) hb
      have HB2 := Lib.hid (HB.out.trans (hw.mono HB.out.size))
      have s0 := (hw.cell (p := ⟨w.heap.size, 0, none⟩) hlt).trans r0
      have s1 := (hw.cell (p := ⟨w.heap.size, 1, none⟩) hlt).trans r1
      have s2 := (hw.cell (p := ⟨w.heap.size, 2, none⟩) hlt).trans r2
      have s3 := (hw.cell (p := ⟨w.heap.size, 3, none⟩) hlt).trans r3
      have t0 := (hw.frozen (p := ⟨w.heap.size, 0, none⟩) hlt).trans q0
      have t1 := (hw.frozen (p := ⟨w.heap.size, 1, none⟩) hlt).trans q1
      have t2 := (hw.frozen (p := ⟨w.heap.size, 2, none⟩) hlt).trans q2
      have t3 := (hw.frozen (p := ⟨w.heap.size, 3, none⟩) hlt).trans q3
      clear hb hw hcc hff r0 r1 r2 r3 q0 q1 q2 q3
      go_wp2_with fail
      refine (HFC.out _).mono ?_
      rintro e w3 ⟨rfl, hb⟩
      have hlt3 : w.heap.size < w2.heap.size := by omega
      have y0 := (hb.cell (p := ⟨w1.heap.size, 0, none⟩) hlt2).trans x0
      have y1 := (hb.cell (p := ⟨w1.heap.size, 1, none⟩) hlt2).trans x1
      have y2 := (hb.cell (p := ⟨w1.heap.size, 2, none⟩) hlt2).trans x2
      have y3 := (hb.cell (p := ⟨w1.heap.size, 3, none⟩) hlt2).trans x3
      have r0 := (hb.cell (p := ⟨w.heap.size, 0, none⟩) hlt3).trans s0
      have r1 := (hb.cell (p := ⟨w.heap.size, 1, none⟩) hlt3).trans s1
      have r2 := (hb.cell (p := ⟨w.heap.size, 2, none⟩) hlt3).trans s2
      have r3 := (hb.cell (p := ⟨w.heap.size, 3, none⟩) hlt3).trans s3
      have q0 := (hb.frozen (p := ⟨w.heap.size, 0, none⟩) hlt3).trans t0
      have q1 := (hb.frozen (p := ⟨w.heap.size, 1, none⟩) hlt3).trans t1
      have q2 := (hb.frozen (p := ⟨w.heap.size, 2, none⟩) hlt3).trans t2
      have q3 := (hb.frozen (p := ⟨w.heap.size, 3, none⟩) hlt3).trans t3
      have HB3 := Lib.hid (HB2.out.trans (hb.mono HB2.out.size))
      clear hb x0 x1 x2 x3 s0 s1 s2 s3 t0 t1 t2 t3
      go_wp2_with fail
      refine bodyPost_ret (v := .tuple #[.agg #[.string ⟨d0.toArray⟩, .string ⟨d1.toArray⟩, .int .i64 d2, .string ⟨d3.toArray⟩], .bool true]) (by simp [results, Try.results23, go_sem, r0, r1, r2, r3]) rfl ⟨by rw [HZ.out, HYF.out]; rfl, ?_⟩
      refine Below.trans HB3.out ?_
      repeat (first | exact Below.refl _ _ | refine Below.alloc ?_ (by simp; try omega) _ | refine Below.setCell ?_ (by simp; try omega) _)
end Go.Proofs.Ytmgfokikkhfibab
