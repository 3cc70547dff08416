/- Contracts of chapter 5: ParseVersion, the program's and the model's. -/
import Derived.Test.YtbjkalnahckfnabVer3
namespace Go.Proofs.Ytbjkalnahckfnab
set_option linter.unusedVariables false
open Go.RowKit
def GivesVer (s : List UInt8) (w : World) (e : Ending) (w' : World) : Prop := e = .returned (.tuple #[vVersion (prsV s), .bool (prsVB s)]) ∧ Below w.heap.size w w'
theorem gives_ver {s : List UInt8} {w w' : World} {d : VersionD} {b : Bool} (h1 : prsV s = d) (h2 : prsVB s = b) (hb : Below w.heap.size w w') : GivesVer s w (.returned (.tuple #[vVersion d, .bool b])) w' := by subst h1 h2; exact ⟨rfl, hb⟩
theorem size_lt (s : ByteArray) (h : s.size ≤ 1048576) : s.data.toList.length ≤ 1048576 := by rw [size_list]; exact h
theorem bel_drewN {B : Nat} {a w : World} (h : Below B a w) (n : Nat) : Below B a (w.drewN n) := ⟨h.os, h.tape, h.output, h.size, h.block⟩
theorem past_cell {X w1 : World} {b o : Nat} {v : Value} (hb : Below X.heap.size X w1) (hlt : b < X.heap.size) (h : X.cell? ⟨b, o, none⟩ = some v) : w1.cell? ⟨b, o, none⟩ = some v := (hb.cell (p := ⟨b, o, none⟩) hlt).trans h
theorem past_frz {X w1 : World} {b o : Nat} (hb : Below X.heap.size X w1) (hlt : b < X.heap.size) : w1.frozen? ⟨b, o, none⟩ = X.frozen? ⟨b, o, none⟩ := hb.frozen (p := ⟨b, o, none⟩) hlt
theorem alloc_frz {X : World} {b o : Nat} (hlt : b < X.heap.size) (ob : Obj) : (X.alloc ob).frozen? ⟨b, o, none⟩ = X.frozen? ⟨b, o, none⟩ := (box1 X ob).frozen (p := ⟨b, o, none⟩) hlt
theorem alloc_cell {X : World} {b o : Nat} {v : Value} (hlt : b < X.heap.size) (h : X.cell? ⟨b, o, none⟩ = some v) (ob : Obj) : (X.alloc ob).cell? ⟨b, o, none⟩ = some v := (World.cell?_alloc_past ob b o hlt).trans h
set_option maxRecDepth 100000 in
set_option maxHeartbeats 1600000 in
theorem readVer_any (s : ByteArray) (m : Int) (w : World) (hm : w.cell? ⟨0, 0, none⟩ = some (.int .i64 m)) (hs : s.size ≤ 1048576) :
    Calls Try.prog 52 #[.string s] w fun e w' => e = .returned (vVersion (rdV s.data.toList)) ∧ Below w.heap.size w w' := by
  have HG := World.block_lt_of_cell? w _ hm
  simp only at HG
  have HCT := Lib.hid (fun w0 hm0 => Try.strings_Cut s ⟨#[46]⟩ m w0 (by omega) hm0)
  have hcl := cut_len s.data.toList [46]
  have hsl := size_lt s hs
  rw [show (⟨#[46]⟩ : ByteArray).data.toList = [46] from rfl] at HCT
  unfold rdV vVersion
  generalize Lib.cut s.data.toList [46] = t at *
  obtain ⟨t1, t2, t3⟩ := t
  simp only at HCT hcl
  have HP := Lib.hid (fun w0 => implParse_any ⟨t1.toArray⟩ w0 (by rw [sizeT]; unfold maxLen; omega))
  have HQ := Lib.hid (fun w0 => implParse_any ⟨t2.toArray⟩ w0 (by rw [sizeT]; unfold maxLen; omega))
  simp only at HP HQ
  generalize pok t1 = b1 at *
  generalize pok t2 = b2 at *
  generalize pnum t1 = n1 at *
  generalize pnum t2 = n2 at *
  have HM2 := Lib.hid (show ∀ o, (w.alloc o).cell? ⟨0, 0, none⟩ = some (.int .i64 m) from fun o => ((box1 w o).cell (p := ⟨0, 0, none⟩) HG).trans hm)
  clear hcl hsl hm HG hs
  go_enter Try.func52, Try.ntmps52
  go_wp2_with fail
  refine (HCT.out _ (HM2.out _)).mono ?_
  rintro e w1 ⟨rfl, nd, rfl⟩
  go_wp2_with fail
  refine (HP.out _).mono ?_
  rintro e w2 ⟨rfl, rfl⟩
  go_wp2_with fail
  refine (HQ.out _).mono ?_
  rintro e w3 ⟨rfl, rfl⟩
  go_wp2_with fail
  exact bodyPost_ret (v := .agg #[.int .i64 n1, .int .i64 n2]) (by simp [results, Try.results52, go_sem]) rfl ⟨rfl, ((bel_drewN (box1 _ _) _).setCell (by simp) _).setCell (by simp) _⟩
theorem implIsVer_w (d : VersionD) (x : Bool) (h : verB d = x) (a b : Int) (ha : d.fMajor = a) (hb : d.fMinor = b) (w : World) :
    Calls Try.prog 29 #[.agg #[.int .i64 a, .int .i64 b]] w fun e w' => e = .returned (.bool x) ∧ Below w.heap.size w w' := by subst ha hb; exact implIsVer_b d x h w
set_option maxRecDepth 100000 in
set_option maxHeartbeats 1600000 in
theorem implParseVer_any (s : ByteArray) (m : Int) (w : World) (hm : w.cell? ⟨0, 0, none⟩ = some (.int .i64 m)) (hs : s.size ≤ 1048576) :
    Calls Try.prog 27 #[.string s] w fun e w' => GivesVer s.data.toList w e w' := by
  have HG := World.block_lt_of_cell? w _ hm
  simp only at HG
  have HR := Lib.hid (fun o => readVer_any s m (w.alloc o) (((box1 w o).cell (p := ⟨0, 0, none⟩) HG).trans hm) hs)
  have HY := Lib.hid (@prsV_yes s.data.toList)
  have HN := Lib.hid (@prsV_no s.data.toList)
  have HP := Lib.hid (show prsVB s.data.toList = (verB (rdV s.data.toList) && decide (fmtVer (rdV s.data.toList) = s.data.toList)) from rfl)
  have HI := Lib.hid (implIsVer_any (rdV s.data.toList))
  have HF := Lib.hid (implFmtVer_any (rdV s.data.toList))
  clear hm HG hs
  unfold GivesVer
  generalize prsVB s.data.toList = y at *
  generalize prsV s.data.toList = z at *
  generalize fmtVer (rdV s.data.toList) = f at *
  generalize verB (rdV s.data.toList) = v at *
  generalize rdV s.data.toList = d at *
  obtain ⟨a, b⟩ := d
  unfold vVersion at HR HI HF
  simp only at HR HI HF
  cases v with
  | false =>
    have HB := Lib.hid (show y = false by rw [HP.out]; rfl)
    have HZ := Lib.hid (HN.out HB.out)
    clear HN HY HP
    go_enter Try.func27, Try.ntmps27
    go_wp2_with fail
    refine (HR.out _).mono ?_
    rintro e w1 ⟨rfl, hb⟩
    have hsz := hb.size
    simp at hsz
    have c0 := past_cell (b := w.heap.size) (o := 0) (v := .int .i64 0) hb (by simp) (by simp)
    have c1 := past_cell (b := w.heap.size) (o := 1) (v := .int .i64 0) hb (by simp) (by simp)
    have f0 := past_frz (b := w.heap.size) (o := 0) hb (by simp)
    have f1 := past_frz (b := w.heap.size) (o := 1) hb (by simp)
    simp at f0 f1
    have HB1 := Lib.hid (bel_to (box1 _ _) hb)
    clear hb
    go_wp2_with fail
    refine (HI.out _).mono ?_
    rintro e w2 ⟨rfl, hb⟩
    have hsz2 := hb.size
    simp at hsz2
    have q0 := past_cell hb (by simp; omega) (alloc_cell (by omega) c0 _)
    have q1 := past_cell hb (by simp; omega) (alloc_cell (by omega) c1 _)
    have g0 := (past_frz (b := w.heap.size) (o := 0) hb (by simp; omega)).trans ((alloc_frz (by omega) _).trans f0)
    have g1 := (past_frz (b := w.heap.size) (o := 1) hb (by simp; omega)).trans ((alloc_frz (by omega) _).trans f1)
    have q2 := past_cell (b := w1.heap.size) (o := 0) (v := .int .i64 a) hb (by simp) (by simp)
    have q3 := past_cell (b := w1.heap.size) (o := 1) (v := .int .i64 b) hb (by simp) (by simp)
    have HB2 := Lib.hid (HB1.out.trans ((bel_to (box1 _ _) hb).mono HB1.out.size))
    clear hb c0 c1 f0 f1 HR HI
    go_wp2_with fail
    exact bodyPost_ret (v := .tuple #[.agg #[.int .i64 0, .int .i64 0], .bool false]) (by simp [results, Try.results27, go_sem, q0, q1]) rfl ⟨by rw [HZ.out, HB.out]; rfl, (HB2.out.setCell (by simp) _).setCell (by simp) _⟩
  | true =>
    cases hf : decide (f = s.data.toList) with
    | false =>
      have HB := Lib.hid (show y = false by rw [HP.out, hf]; rfl)
      have HZ := Lib.hid (HN.out HB.out)
      have hne : (f == s.toList) = false := by rw [Lib.toList_data]; simpa using hf
      have hne2 : (f != s.toList) = true := by rw [bne, hne]; rfl
      clear HN HY HP hf
      go_enter Try.func27, Try.ntmps27
      go_wp2_with fail
      refine (HR.out _).mono ?_
      rintro e w1 ⟨rfl, hb⟩
      have hsz := hb.size
      simp at hsz
      have c0 := past_cell (b := w.heap.size) (o := 0) (v := .int .i64 0) hb (by simp) (by simp)
      have c1 := past_cell (b := w.heap.size) (o := 1) (v := .int .i64 0) hb (by simp) (by simp)
      have f0 := past_frz (b := w.heap.size) (o := 0) hb (by simp)
      have f1 := past_frz (b := w.heap.size) (o := 1) hb (by simp)
      simp at f0 f1
      have HB1 := Lib.hid (bel_to (box1 _ _) hb)
      clear hb
      go_wp2_with fail
      refine (HI.out _).mono ?_
      rintro e w2 ⟨rfl, hb⟩
      have hsz2 := hb.size
      simp at hsz2
      have q0 := past_cell hb (by simp; omega) (alloc_cell (by omega) c0 _)
      have q1 := past_cell hb (by simp; omega) (alloc_cell (by omega) c1 _)
      have g0 := (past_frz (b := w.heap.size) (o := 0) hb (by simp; omega)).trans ((alloc_frz (by omega) _).trans f0)
      have g1 := (past_frz (b := w.heap.size) (o := 1) hb (by simp; omega)).trans ((alloc_frz (by omega) _).trans f1)
      have q2 := past_cell (b := w1.heap.size) (o := 0) (v := .int .i64 a) hb (by simp) (by simp)
      have q3 := past_cell (b := w1.heap.size) (o := 1) (v := .int .i64 b) hb (by simp) (by simp)
      have HB2 := Lib.hid (HB1.out.trans ((bel_to (box1 _ _) hb).mono HB1.out.size))
      clear hb c0 c1 f0 f1 HR HI
      go_wp2_with fail
      refine (HF.out _).mono ?_
      rintro e w3 ⟨rfl, hb⟩
      have hsz3 := hb.size
      have k0 := past_cell hb (by omega) q0
      have k1 := past_cell hb (by omega) q1
      have m0 := (past_frz (b := w.heap.size) (o := 0) hb (by omega)).trans g0
      have m1 := (past_frz (b := w.heap.size) (o := 1) hb (by omega)).trans g1
      have k2 := past_cell hb (by omega) q2
      have k3 := past_cell hb (by omega) q3
      have HB3 := Lib.hid (HB2.out.trans (hb.mono HB2.out.size))
      clear hb q0 q1 q2 q3 g0 g1 HF
      go_wp2_with fail
      exact bodyPost_ret (v := .tuple #[.agg #[.int .i64 0, .int .i64 0], .bool false]) (by simp [results, Try.results27, go_sem, k0, k1]) rfl ⟨by rw [HZ.out, HB.out]; rfl, (HB3.out.setCell (by simp) _).setCell (by simp) _⟩
    | true =>
      have HB := Lib.hid (show y = true by rw [HP.out, hf]; rfl)
      have HZ := Lib.hid (HY.out HB.out)
      have hne : (f == s.toList) = true := by rw [Lib.toList_data]; simpa using hf
      have hne2 : (f != s.toList) = false := by rw [bne, hne]; rfl
      clear HN HY HP hf
      go_enter Try.func27, Try.ntmps27
      go_wp2_with fail
      refine (HR.out _).mono ?_
      rintro e w1 ⟨rfl, hb⟩
      have hsz := hb.size
      simp at hsz
      have c0 := past_cell (b := w.heap.size) (o := 0) (v := .int .i64 0) hb (by simp) (by simp)
      have c1 := past_cell (b := w.heap.size) (o := 1) (v := .int .i64 0) hb (by simp) (by simp)
      have f0 := past_frz (b := w.heap.size) (o := 0) hb (by simp)
      have f1 := past_frz (b := w.heap.size) (o := 1) hb (by simp)
      simp at f0 f1
      have HB1 := Lib.hid (bel_to (box1 _ _) hb)
      clear hb
      go_wp2_with fail
      refine (HI.out _).mono ?_
      rintro e w2 ⟨rfl, hb⟩
      have hsz2 := hb.size
      simp at hsz2
      have q0 := past_cell hb (by simp; omega) (alloc_cell (by omega) c0 _)
      have q1 := past_cell hb (by simp; omega) (alloc_cell (by omega) c1 _)
      have g0 := (past_frz (b := w.heap.size) (o := 0) hb (by simp; omega)).trans ((alloc_frz (by omega) _).trans f0)
      have g1 := (past_frz (b := w.heap.size) (o := 1) hb (by simp; omega)).trans ((alloc_frz (by omega) _).trans f1)
      have q2 := past_cell (b := w1.heap.size) (o := 0) (v := .int .i64 a) hb (by simp) (by simp)
      have q3 := past_cell (b := w1.heap.size) (o := 1) (v := .int .i64 b) hb (by simp) (by simp)
      have HB2 := Lib.hid (HB1.out.trans ((bel_to (box1 _ _) hb).mono HB1.out.size))
      clear hb c0 c1 f0 f1 HR HI
      go_wp2_with fail
      refine (HF.out _).mono ?_
      rintro e w3 ⟨rfl, hb⟩
      have hsz3 := hb.size
      have k0 := past_cell hb (by omega) q0
      have k1 := past_cell hb (by omega) q1
      have m0 := (past_frz (b := w.heap.size) (o := 0) hb (by omega)).trans g0
      have m1 := (past_frz (b := w.heap.size) (o := 1) hb (by omega)).trans g1
      have k2 := past_cell hb (by omega) q2
      have k3 := past_cell hb (by omega) q3
      have HB3 := Lib.hid (HB2.out.trans (hb.mono HB2.out.size))
      clear hb q0 q1 q2 q3 g0 g1 HF
      go_wp2_with fail
      exact bodyPost_ret (v := .tuple #[.agg #[.int .i64 a, .int .i64 b], .bool true]) (by simp [results, Try.results27, go_sem, k0, k1]) rfl ⟨by rw [HZ.out, HB.out]; rfl, (HB3.out.setCell (by simp) _).setCell (by simp) _⟩
end Go.Proofs.Ytbjkalnahckfnab
