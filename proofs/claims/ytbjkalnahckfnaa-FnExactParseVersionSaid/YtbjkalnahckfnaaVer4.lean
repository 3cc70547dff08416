/- Contracts of chapter 5: ParseVersion, the program's and the model's. -/
import Derived.Test.YtbjkalnahckfnaaVer3
namespace Go.Proofs.Ytbjkalnahckfnaa
set_option linter.unusedVariables false
open Go.RowKit
def GivesVer (s : List UInt8) (w : World) (e : Ending) (w' : World) : Prop := e = .returned (.tuple #[vVersion (prsV s), .bool (prsVB s)]) ∧ Below w.heap.size w w'
theorem gives_ver {s : List UInt8} {w w' : World} {d : VersionD} {b : Bool} (h1 : prsV s = d) (h2 : prsVB s = b) (hb : Below w.heap.size w w') : GivesVer s w (.returned (.tuple #[vVersion d, .bool b])) w' := by subst h1 h2; exact ⟨rfl, hb⟩
theorem size_lt (s : ByteArray) (h : s.size ≤ 1048576) : s.data.toList.length ≤ 1048576 := by rw [size_list]; exact h
theorem bel_drewN {B : Nat} {a w : World} (h : Below B a w) (n : Nat) : Below B a (w.drewN n) := ⟨h.os, h.tape, h.output, h.size, h.block⟩
theorem past_cell {X w1 : World} {b o : Nat} {v : Value} (hb : Below X.heap.size X w1) (hlt : b < X.heap.size) (h : X.cell? ⟨b, o, none⟩ = some v) : w1.cell? ⟨b, o, none⟩ = some v := (hb.cell (p := ⟨b, o, none⟩) hlt).trans h
theorem past_frz {X w1 : World} {b o : Nat} (hb : Below X.heap.size X w1) (hlt : b < X.heap.size) : w1.frozen? ⟨b, o, none⟩ = X.frozen? ⟨b, o, none⟩ := hb.frozen (p := ⟨b, o, none⟩) hlt
theorem alloc_frz {X : World} {b o : Nat} (hlt : b < X.heap.size) (ob : Obj) : (X.alloc ob).frozen? ⟨b, o, none⟩ = X.frozen? ⟨b, o, none⟩ := (box1 X ob).frozen (p := ⟨b, o, none⟩) hlt
theorem alloc_cell {X : World} {b o : Nat} {v : Value} (hlt : b < X.heap.size) (h : X.cell? ⟨b, o, none⟩ = some v) (ob : Obj) : (X.alloc ob).cell? ⟨b, o, none⟩ = some v := (World.cell?_alloc_past ob b o hlt).trans h
set_option maxRecDepth 100000 in
set_option maxHeartbeats 1600000 in
theorem readVer_any (s : ByteArray) (m : Int) (w : World) (hm : w.cell? ⟨0, 0, none⟩ = some (.int .i64 m)) (hs : s.size ≤ 1048576) :
    Calls Try.prog 30 #[.string s] w fun e w' => e = .returned (vVersion (rdV s.data.toList)) ∧ Below w.heap.size w w' := by
  have HG := World.block_lt_of_cell? w _ hm
  simp only at HG
  have HCT := Lib.hid (fun w0 hm0 => Try.strings_Cut s ⟨#[46]⟩ m w0 (by omega) hm0)
  have hcl := cut_len s.data.toList [46]
  have hsl := size_lt s hs
  rw [show (⟨#[46]⟩ : ByteArray).data.toList = [46] from rfl] at HCT
  unfold rdV vVersion
  generalize Lib.cut s.data.toList [46] = t at *
  obtain ⟨t1, t2, t3⟩ := t
  simp only at HCT hcl
  have HP := Lib.hid (fun w0 => implParse_any ⟨t1.toArray⟩ w0 (by rw [sizeT]; unfold maxLen; omega))
  have HQ := Lib.hid (fun w0 => implParse_any ⟨t2.toArray⟩ w0 (by rw [sizeT]; unfold maxLen; omega))
  simp only at HP HQ
  generalize pok t1 = b1 at *
  generalize pok t2 = b2 at *
  generalize pnum t1 = n1 at *
  generalize pnum t2 = n2 at *
  have HM2 := Lib.hid (show ∀ o, (w.alloc o).cell? ⟨0, 0, none⟩ = some (.int .i64 m) from fun o => ((box1 w o).cell (p := ⟨0, 0, none⟩) HG).trans hm)
  clear hcl hsl hm HG hs
  go_enter Try.func30, Try.ntmps30
  go_wp2_with fail
  refine (HCT.out _ (HM2.out _)).mono ?_
  rintro e w1 ⟨rfl, nd, rfl⟩
  go_wp2_with fail
  refine (HP.out _).mono ?_
  rintro e w2 ⟨rfl, rfl⟩
  go_wp2_with fail
  refine (HQ.out _).mono ?_
  rintro e w3 ⟨rfl, rfl⟩
  go_wp2_with fail
  exact bodyPost_ret (v := .agg #[.int .i64 n1, .int .i64 n2]) (by simp [results, Try.results30, go_sem]) rfl ⟨rfl, ((bel_drewN (box1 _ _) _).setCell (by simp) _).setCell (by simp) _⟩
theorem implIsVer_w (d : VersionD) (x : Bool) (h : verB d = x) (a b : Int) (ha : d.fMajor = a) (hb : d.fMinor = b) (w : World) :
    Calls Try.prog 11 #[.agg #[.int .i64 a, .int .i64 b]] w fun e w' => e = .returned (.bool x) ∧ Below w.heap.size w w' := by subst ha hb; exact implIsVer_b d x h w
set_option maxRecDepth 100000 in
set_option maxHeartbeats 1600000 in
theorem implParseVer_any (s : ByteArray) (m : Int) (w : World) (hm : w.cell? ⟨0, 0, none⟩ = some (.int .i64 m)) (hs : s.size ≤ 1048576) :
    Calls Try.prog 19 #[.string s] w fun e w' => GivesVer s.data.toList w e w' := by
  have HG := World.block_lt_of_cell? w _ hm
  simp only at HG
  have HR := Lib.hid (fun o => readVer_any s m (w.alloc o) (((box1 w o).cell (p := ⟨0, 0, none⟩) HG).trans hm) hs)
  have HY := Lib.hid (@prsV_yes s.data.toList)
  have HN := Lib.hid (@prsV_no s.data.toList)
  have HP := Lib.hid (show prsVB s.data.toList = (verB (rdV s.data.toList) && decide (fmtVer (rdV s.data.toList) = s.data.toList)) from rfl)
  have HI := Lib.hid (implIsVer_any (rdV s.data.toList))
  have HF := Lib.hid (implFmtVer_any (rdV s.data.toList))
  clear hm HG hs
  unfold GivesVer
  generalize prsVB s.data.toList = y at *
  generalize prsV s.data.toList = z at *
  generalize fmtVer (rdV s.data.toList) = f at *
  generalize verB (rdV s.data.toList) = v at *
  generalize rdV s.data.toList = d at *
  obtain ⟨a, b⟩ := d
  unfold vVersion at HR HI HF
  simp only at HR HI HF
  cases v with
  | false =>
    have HB := Lib.hid (show y = false by rw [HP.out]; rfl)
    have HZ := Lib.hid (HN.out HB.out)
    clear HN HY HP
    go_enter Try.func19, Try.ntmps19
    go_wp2_with fail
    refine (HR.out _).mono ?_
    rintro e w1 ⟨rfl, hb⟩
    have hsz := hb.size
    simp at hsz
    have c0 := past_cell (b := w.heap.size) (o := 0) (v := .int .i64 0) hb (by simp) (by simp)
    have c1 := past_cell (b := w.heap.size) (o := 1) (v := .int .i64 0) hb (by simp) (by simp)
    have f0 := past_frz (b := w.heap.size) (o := 0) hb (by simp)
    have f1 := past_frz (b := w.heap.size) (o := 1) hb (by simp)
    simp at f0 f1
    have HB1 := Lib.hid (bel_to (box1 _ _) hb)
    clear hb
    go_wp2_with fail
    refine (HI.out _).mono ?_
    rintro e w2 ⟨rfl, hb⟩
    have hsz2 := hb.size
    simp at hsz2
    have q0 := past_cell hb (by simp; omega) (alloc_cell (by omega) c0 _)
    have q1 := past_cell hb (by simp; omega) (alloc_cell (by omega) c1 _)
    have g0 := (past_frz (b := w.heap.size) (o := 0) hb (by simp; omega)).trans ((alloc_frz (by omega) _).trans f0)
    have g1 := (past_frz (b := w.heap.size) (o := 1) hb (by simp; omega)).trans ((alloc_frz (by omega) _).trans f1)
    have q2 := past_cell (b := w1.heap.size) (o := 0) (v := .int .i64 a) hb (by simp) (by simp)
    have q3 := past_cell (b := w1.heap.size) (o := 1) (v := .int .i64 b) hb (by simp) (by simp)
    have HB2 := Lib.hid (HB1.out.trans ((bel_to (box1 _ _) hb).mono HB1.out.size))
    clear hb c0 c1 f0 f1 HR HI
    go_wp2_with fail
    exact bodyPost_ret (v := .tuple #[.agg #[.int .i64 0, .int .i64 0], .bool false]) (by simp [results, Try.results19, go_sem, q0, q1]) rfl ⟨by rw [HZ.out, HB.out]; rfl, (HB2.out.setCell (by simp) _).setCell (by simp) _⟩
  | true =>
    cases hf : decide (f = s.data.toList) with
    | false =>
      have HB := Lib.hid (show y = false by rw [HP.out, hf]; rfl)
      have HZ := Lib.hid (HN.out HB.out)
      have hne : (f == s.toList) = false := by rw [Lib.toList_data]; simpa using hf
      have hne2 : (f != s.toList) = true := by rw [bne, hne]; rfl
      clear HN HY HP hf
      go_enter Try.func19, Try.ntmps19
      go_wp2_with fail
      refine (HR.out _).mono ?_
      rintro e w1 ⟨rfl, hb⟩
      have hsz := hb.size
      simp at hsz
      have c0 := past_cell (b := w.heap.size) (o := 0) (v := .int .i64 0) hb (by simp) (by simp)
      have c1 := past_cell (b := w.heap.size) (o := 1) (v := .int .i64 0) hb (by simp) (by simp)
      have f0 := past_frz (b := w.heap.size) (o := 0) hb (by simp)
      have f1 := past_frz (b := w.heap.size) (o := 1) hb (by simp)
      simp at f0 f1
      have HB1 := Lib.hid (bel_to (box1 _ _) hb)
      clear hb
      go_wp2_with fail
      refine (HI.out _).mono ?_
      rintro e w2 ⟨rfl, hb⟩
      have hsz2 := hb.size
      simp at hsz2
      have q0 := past_cell hb (by simp; omega) (alloc_cell (by omega) c0 _)
      have q1 := past_cell hb (by simp; omega) (alloc_cell (by omega) c1 _)
      have g0 := (past_frz (b := w.heap.size) (o := 0) hb (by simp; omega)).trans ((alloc_frz (by omega) _).trans f0)
      have g1 := (past_frz (b := w.heap.size) (o := 1) hb (by simp; omega)).trans ((alloc_frz (by omega) _).trans f1)
      have q2 := past_cell (b := w1.heap.size) (o := 0) (v := .int .i64 a) hb (by simp) (by simp)
      have q3 := past_cell (b := w1.heap.size) (o := 1) (v := .int .i64 b) hb (by simp) (by simp)
      have HB2 := Lib.hid (HB1.out.trans ((bel_to (box1 _ _) hb).mono HB1.out.size))
      clear hb c0 c1 f0 f1 HR HI
      go_wp2_with fail
      refine (HF.out _).mono ?_
      rintro e w3 ⟨rfl, hb⟩
      have hsz3 := hb.size
      have k0 := past_cell hb (by omega) q0
      have k1 := past_cell hb (by omega) q1
      have m0 := (past_frz (b := w.heap.size) (o := 0) hb (by omega)).trans g0
      have m1 := (past_frz (b := w.heap.size) (o := 1) hb (by omega)).trans g1
      have k2 := past_cell hb (by omega) q2
      have k3 := past_cell hb (by omega) q3
      have HB3 := Lib.hid (HB2.out.trans (hb.mono HB2.out.size))
      clear hb q0 q1 q2 q3 g0 g1 HF
      go_wp2_with fail
      exact bodyPost_ret (v := .tuple #[.agg #[.int .i64 0, .int .i64 0], .bool false]) (by simp [results, Try.results19, go_sem, k0, k1]) rfl ⟨by rw [HZ.out, HB.out]; rfl, (HB3.out.setCell (by simp) _).setCell (by simp) _⟩
    | true =>
      have HB := Lib.hid (show y = true by rw [HP.out, hf]; rfl)
      have HZ := Lib.hid (HY.out HB.out)
      have hne : (f == s.toList) = true := by rw [Lib.toList_data]; simpa using hf
      have hne2 : (f != s.toList) = false := by rw [bne, hne]; rfl
      clear HN HY HP hf
      go_enter Try.func19, Try.ntmps19
      go_wp2_with fail
      refine (HR.out _).mono ?_
      rintro e w1 ⟨rfl, hb⟩
      have hsz := hb.size
      simp at hsz
      have c0 := past_cell (b := w.heap.size) (o := 0) (v := .int .i64 0) hb (by simp) (by simp)
      have c1 := past_cell (b := w.heap.size) (o := 1) (v := .int .i64 0) hb (by simp) (by simp)
      have f0 := past_frz (b := w.heap.size) (o := 0) hb (by simp)
      have f1 := past_frz (b := w.heap.size) (o := 1) hb (by simp)
      simp at f0 f1
      have HB1 := Lib.hid (bel_to (box1 _ _) hb)
      clear hb
      go_wp2_with fail
      refine (HI.out _).mono ?_
      rintro e w2 ⟨rfl, hb⟩
      have hsz2 := hb.size
      simp at hsz2
      have q0 := past_cell hb (by simp; omega) (alloc_cell (by omega) c0 _)
      have q1 := past_cell hb (by simp; omega) (alloc_cell (by omega) c1 _)
      have g0 := (past_frz (b := w.heap.size) (o := 0) hb (by simp; omega)).trans ((alloc_frz (by omega) _).trans f0)
      have g1 := (past_frz (b := w.heap.size) (o := 1) hb (by simp; omega)).trans ((alloc_frz (by omega) _).trans f1)
      have q2 := past_cell (b := w1.heap.size) (o := 0) (v := .int .i64 a) hb (by simp) (by simp)
      have q3 := past_cell (b := w1.heap.size) (o := 1) (v := .int .i64 b) hb (by simp) (by simp)
      have HB2 := Lib.hid (HB1.out.trans ((bel_to (box1 _ _) hb).mono HB1.out.size))
      clear hb c0 c1 f0 f1 HR HI
      go_wp2_with fail
      refine (HF.out _).mono ?_
      rintro e w3 ⟨rfl, hb⟩
      have hsz3 := hb.size
      have k0 := past_cell hb (by omega) q0
      have k1 := past_cell hb (by omega) q1
      have m0 := (past_frz (b := w.heap.size) (o := 0) hb (by omega)).trans g0
      have m1 := (past_frz (b := w.heap.size) (o := 1) hb (by omega)).trans g1
      have k2 := past_cell hb (by omega) q2
      have k3 := past_cell hb (by omega) q3
      have HB3 := Lib.hid (HB2.out.trans (hb.mono HB2.out.size))
      clear hb q0 q1 q2 q3 g0 g1 HF
      go_wp2_with fail
      exact bodyPost_ret (v := .tuple #[.agg #[.int .i64 a, .int .i64 b], .bool true]) (by simp [results, Try.results19, go_sem, k0, k1]) rfl ⟨by rw [HZ.out, HB.out]; rfl, (HB3.out.setCell (by simp) _).setCell (by simp) _⟩
set_option maxRecDepth 100000 in
set_option maxHeartbeats 3200000 in
theorem specParseVer_two (s : ByteArray) (t1 t2 : List UInt8) (w : World) (hs : s.size ≤ 1048576) (ht : splitL s.data.toList [46] = [t1, t2]) :
    Calls Try.prog 18 #[.string s] w fun e w' => GivesVer s.data.toList w e w' := by
  have HSP := Lib.hid (fun o => specSplit_any s ⟨#[46]⟩ (w.alloc o) hs (by decide))
  rw [show (⟨#[46]⟩ : ByteArray).data.toList = [46] from rfl] at HSP
  have l1 := split_part s.data.toList 46 t1 (by rw [ht]; simp)
  have l2 := split_part s.data.toList 46 t2 (by rw [ht]; simp)
  have hsl := size_lt s hs
  have HPA := Lib.hid (fun w0 => specParse_any ⟨t1.toArray⟩ w0 (by rw [sizeT]; unfold maxLen; omega))
  have HPB := Lib.hid (fun w0 => specParse_any ⟨t2.toArray⟩ w0 (by rw [sizeT]; unfold maxLen; omega))
  simp only at HPA HPB
  obtain ⟨hr, hp⟩ := prsV_two ht
  have HY := Lib.hid (@prsV_yes s.data.toList)
  have HN := Lib.hid (@prsV_no s.data.toList)
  rw [ht] at HSP
  have HF := Lib.hid (specFmtVer_any ⟨pnum t1, pnum t2⟩)
  unfold GivesRow at HSP
  unfold GivesVer
  rw [hr] at HY
  generalize prsVB s.data.toList = y at *
  generalize prsV s.data.toList = z at *
  generalize fmtVer ⟨pnum t1, pnum t2⟩ = f at *
  unfold vVersion at HF
  simp only at HF
  generalize pok t1 = b1 at *
  generalize pok t2 = b2 at *
  generalize pnum t1 = n1 at *
  generalize pnum t2 = n2 at *
  clear l1 l2 hsl ht hr hs
  cases hf : decide (f = s.data.toList) with
  | false =>
    have HB := Lib.hid (show y = false by rw [hp, hf])
    have HZ := Lib.hid (HN.out HB.out)
    have hne : (f == s.toList) = false := by rw [Lib.toList_data]; simpa using hf
    have hne2 : (f != s.toList) = true := by rw [bne, hne]; rfl
    clear HN HY hp hf
    go_enter Try.func18, Try.ntmps18
    go_wp2_with fail
    refine (HSP.out _).mono ?_
    rintro e w1 ⟨u, rfl, ho, hb⟩
    have HB1 := Lib.hid (bel_to (box1 _ _) hb)
    have hsz := hb.size
    simp at hsz
    have c0 := past_cell (b := w.heap.size) (o := 0) (v := .int .i64 0) hb (by simp) (by simp)
    have c1 := past_cell (b := w.heap.size) (o := 1) (v := .int .i64 0) hb (by simp) (by simp)
    have f0 := past_frz (b := w.heap.size) (o := 0) hb (by simp)
    have f1 := past_frz (b := w.heap.size) (o := 1) hb (by simp)
    simp at f0 f1
    have HQR := Lib.hid (owns_row ho (by simp))
    obtain ⟨a2, c2, rfl, _⟩ := rowAt_len HQR.out
    simp only [List.length_map, List.length_cons, List.length_nil, Nat.zero_add] at *
    obtain ⟨b2, o2, rfl, hb2, d0⟩ := rowAt_cell HQR.out 0 (by simp)
    have d1 := rowAt_cellS HQR.out 1 (by simp)
    simp only [List.map_cons, List.map_nil, List.getElem_cons_zero, List.getElem_cons_succ, strV, Nat.add_zero] at d0 d1
    clear ho hb
    go_wp2_with fail
    refine (HPA.out _).mono ?_
    rintro e w2 ⟨rfl, hb⟩
    have h2 := hb.size
    have c0' := past_cell hb (by omega) c0
    have c1' := past_cell hb (by omega) c1
    have f0' := (past_frz (b := w.heap.size) (o := 0) hb (by omega)).trans f0
    have f1' := (past_frz (b := w.heap.size) (o := 1) hb (by omega)).trans f1
    have d1' := past_cell hb hb2 d1
    have HB2 := Lib.hid (HB1.out.trans (hb.mono HB1.out.size))
    clear hb c0 c1 f0 f1 d0 d1
    go_wp2_with fail
    refine (HPB.out _).mono ?_
    rintro e w3 ⟨rfl, hb⟩
    have h3 := hb.size
    have c0 := past_cell hb (by omega) c0'
    have c1 := past_cell hb (by omega) c1'
    have f0 := (past_frz (b := w.heap.size) (o := 0) hb (by omega)).trans f0'
    have f1 := (past_frz (b := w.heap.size) (o := 1) hb (by omega)).trans f1'
    have HB3 := Lib.hid (HB2.out.trans (hb.mono HB2.out.size))
    clear hb c0' c1' f0' f1' d1'
    go_wp2_with fail
    refine (HF.out _).mono ?_
    rintro e w4 ⟨rfl, hb⟩
    have h4 := hb.size
    simp at h4
    have k0 := past_cell hb (by simp; omega) (alloc_cell (by omega) c0 _)
    have k1 := past_cell hb (by simp; omega) (alloc_cell (by omega) c1 _)
    have m0 := (past_frz (b := w.heap.size) (o := 0) hb (by simp; omega)).trans ((alloc_frz (by omega) _).trans f0)
    have m1 := (past_frz (b := w.heap.size) (o := 1) hb (by simp; omega)).trans ((alloc_frz (by omega) _).trans f1)
    have k2 := past_cell (b := w3.heap.size) (o := 0) (v := .int .i64 n1) hb (by simp) (by simp)
    have k3 := past_cell (b := w3.heap.size) (o := 1) (v := .int .i64 n2) hb (by simp) (by simp)
    have HB4 := Lib.hid (HB3.out.trans ((bel_to (box1 _ _) hb).mono HB3.out.size))
    clear hb c0 c1 f0 f1
    go_wp2_with fail
    exact bodyPost_ret (v := .tuple #[.agg #[.int .i64 0, .int .i64 0], .bool false]) (by simp [results, Try.results18, go_sem, k0, k1]) rfl ⟨by rw [HZ.out, HB.out]; rfl, (HB4.out.setCell (by simp) _).setCell (by simp) _⟩
  | true =>
    have HB := Lib.hid (show y = true by rw [hp, hf])
    have HZ := Lib.hid (HY.out HB.out)
    have hne : (f == s.toList) = true := by rw [Lib.toList_data]; simpa using hf
    have hne2 : (f != s.toList) = false := by rw [bne, hne]; rfl
    clear HN HY hp hf
    go_enter Try.func18, Try.ntmps18
    go_wp2_with fail
    refine (HSP.out _).mono ?_
    rintro e w1 ⟨u, rfl, ho, hb⟩
    have HB1 := Lib.hid (bel_to (box1 _ _) hb)
    have hsz := hb.size
    simp at hsz
    have c0 := past_cell (b := w.heap.size) (o := 0) (v := .int .i64 0) hb (by simp) (by simp)
    have c1 := past_cell (b := w.heap.size) (o := 1) (v := .int .i64 0) hb (by simp) (by simp)
    have f0 := past_frz (b := w.heap.size) (o := 0) hb (by simp)
    have f1 := past_frz (b := w.heap.size) (o := 1) hb (by simp)
    simp at f0 f1
    have HQR := Lib.hid (owns_row ho (by simp))
    obtain ⟨a2, c2, rfl, _⟩ := rowAt_len HQR.out
    simp only [List.length_map, List.length_cons, List.length_nil, Nat.zero_add] at *
    obtain ⟨b2, o2, rfl, hb2, d0⟩ := rowAt_cell HQR.out 0 (by simp)
    have d1 := rowAt_cellS HQR.out 1 (by simp)
    simp only [List.map_cons, List.map_nil, List.getElem_cons_zero, List.getElem_cons_succ, strV, Nat.add_zero] at d0 d1
    clear ho hb
    go_wp2_with fail
    refine (HPA.out _).mono ?_
    rintro e w2 ⟨rfl, hb⟩
    have h2 := hb.size
    have c0' := past_cell hb (by omega) c0
    have c1' := past_cell hb (by omega) c1
    have f0' := (past_frz (b := w.heap.size) (o := 0) hb (by omega)).trans f0
    have f1' := (past_frz (b := w.heap.size) (o := 1) hb (by omega)).trans f1
    have d1' := past_cell hb hb2 d1
    have HB2 := Lib.hid (HB1.out.trans (hb.mono HB1.out.size))
    clear hb c0 c1 f0 f1 d0 d1
    go_wp2_with fail
    refine (HPB.out _).mono ?_
    rintro e w3 ⟨rfl, hb⟩
    have h3 := hb.size
    have c0 := past_cell hb (by omega) c0'
    have c1 := past_cell hb (by omega) c1'
    have f0 := (past_frz (b := w.heap.size) (o := 0) hb (by omega)).trans f0'
    have f1 := (past_frz (b := w.heap.size) (o := 1) hb (by omega)).trans f1'
    have HB3 := Lib.hid (HB2.out.trans (hb.mono HB2.out.size))
    clear hb c0' c1' f0' f1' d1'
    go_wp2_with fail
    refine (HF.out _).mono ?_
    rintro e w4 ⟨rfl, hb⟩
    have h4 := hb.size
    simp at h4
    have k0 := past_cell hb (by simp; omega) (alloc_cell (by omega) c0 _)
    have k1 := past_cell hb (by simp; omega) (alloc_cell (by omega) c1 _)
    have m0 := (past_frz (b := w.heap.size) (o := 0) hb (by simp; omega)).trans ((alloc_frz (by omega) _).trans f0)
    have m1 := (past_frz (b := w.heap.size) (o := 1) hb (by simp; omega)).trans ((alloc_frz (by omega) _).trans f1)
    have k2 := past_cell (b := w3.heap.size) (o := 0) (v := .int .i64 n1) hb (by simp) (by simp)
    have k3 := past_cell (b := w3.heap.size) (o := 1) (v := .int .i64 n2) hb (by simp) (by simp)
    have HB4 := Lib.hid (HB3.out.trans ((bel_to (box1 _ _) hb).mono HB3.out.size))
    clear hb c0 c1 f0 f1
    go_wp2_with fail
    exact bodyPost_ret (v := .tuple #[.agg #[.int .i64 n1, .int .i64 n2], .bool true]) (by simp [results, Try.results18, go_sem, k0, k1]) rfl ⟨by rw [HZ.out, HB.out]; rfl, (HB4.out.setCell (by simp) _).setCell (by simp) _⟩
set_option maxRecDepth 100000 in
set_option maxHeartbeats 3200000 in
theorem specParseVer_any (s : ByteArray) (w : World) (hs : s.size ≤ 1048576) :
    Calls Try.prog 18 #[.string s] w fun e w' => GivesVer s.data.toList w e w' := by
  by_cases h2 : (splitL s.data.toList [46]).length = 2
  · obtain ⟨t1, t2, ht⟩ : ∃ t1 t2, splitL s.data.toList [46] = [t1, t2] := by
      match splitL s.data.toList [46], h2 with
      | [t1, t2], _ => exact ⟨t1, t2, rfl⟩
    exact specParseVer_two s t1 t2 w hs ht
  · have HSP := Lib.hid (fun o => specSplit_any s ⟨#[46]⟩ (w.alloc o) hs (by decide))
    rw [show (⟨#[46]⟩ : ByteArray).data.toList = [46] from rfl] at HSP
    have hB := prsV_other h2
    have HZ := Lib.hid (prsV_no hB)
    have HB := Lib.hid hB
    have hl := splitL_len s.data.toList [46]
    have hsl := size_lt s hs
    unfold GivesRow at HSP
    unfold GivesVer
    generalize prsVB s.data.toList = y at *
    generalize prsV s.data.toList = z at *
    generalize splitL s.data.toList [46] = p at *
    have HPL := Lib.hid (show p.length ≤ 1048577 by omega)
    have hne : ((p.length : Int) == 2) = false := by simp; omega
    have hne2 : ((p.length : Int) != 2) = true := by rw [bne, hne]; rfl
    clear h2 hB hl hsl hs
    go_enter Try.func18, Try.ntmps18
    go_wp2_with fail
    refine (HSP.out _).mono ?_
    rintro e w1 ⟨u, rfl, ho, hb⟩
    have HB1 := Lib.hid (bel_to (box1 _ _) hb)
    have hsz := hb.size
    simp at hsz
    have c0 := past_cell (b := w.heap.size) (o := 0) (v := .int .i64 0) hb (by simp) (by simp)
    have c1 := past_cell (b := w.heap.size) (o := 1) (v := .int .i64 0) hb (by simp) (by simp)
    have f0 := past_frz (b := w.heap.size) (o := 0) hb (by simp)
    have f1 := past_frz (b := w.heap.size) (o := 1) hb (by simp)
    simp at f0 f1
    have HQR := Lib.hid (owns_row ho (by have := HPL.out; omega))
    obtain ⟨a2, c2, rfl, _⟩ := rowAt_len HQR.out
    simp only [List.length_map] at *
    clear ho hb
    go_wp2_with fail
    exact bodyPost_ret (v := .tuple #[.agg #[.int .i64 0, .int .i64 0], .bool false]) (by simp [results, Try.results18, go_sem, c0, c1]) rfl ⟨by rw [HZ.out, HB.out]; rfl, (HB1.out.setCell (by simp) _).setCell (by simp) _⟩
end Go.Proofs.Ytbjkalnahckfnaa
