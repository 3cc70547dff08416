/- Contracts of chapter 4: FaceOf, both sides. -/
import Derived.Test.YtmoliamenekemaaDPart
import Derived.Test.YtmoliamenekemaaLay1
namespace Go.Proofs.Ytmoliamenekemaa
set_option linter.unusedVariables false
set_option linter.unusedSimpArgs false
open Go.RowKit
instance : Inhabited LayerD := ⟨⟨[], 0⟩⟩
/-- the face of a part with its first n layers alone -/
def faceN (x : PartD) : Nat → Int
  | 0 => kfI (kindI x.fCore.fKind)
  | n + 1 => giveI (layI (x.fLayers.getD n default).fName)
def faceP (x : PartD) : Int := faceN x x.fLayers.length
theorem kfV_is (i : Int) : kfV i = .tuple #[.int .i64 (kfI i), .bool (decide (0 ≤ i))] := rfl
theorem gvV_is (i : Int) : gvV i = .tuple #[.int .i64 (giveI i), .bool (decide (0 ≤ i))] := rfl
theorem l4V_is (i : Int) : l4V i = .tuple #[.int .i64 (needI i), .int .i64 (giveI i), .bool (decide (0 ≤ i))] := rfl
theorem part_box (w : World) (o : Obj) : Below w.heap.size w (w.alloc o) := (Below.refl _ _).alloc (Nat.le_refl _) o
set_option maxRecDepth 100000 in
set_option maxHeartbeats 1600000 in
theorem implFaceOf_any (v : Value) (x : PartD) (w : World) (hx : ValAt rPart 0 w v x) :
    Calls Try.prog 43 #[v] w fun e w' => e = .returned (.int .i64 (faceP x)) ∧ Below w.heap.size w w' := by
  obtain ⟨_, rfl, hx⟩ := hx
  obtain ⟨⟨a0, a1, a2, a3, a4⟩, ls⟩ := x
  obtain ⟨v3, v5, rfl, h3, h5⟩ := hx
  simp only at h3 h5
  obtain ⟨ra, rc, rfl, _⟩ := sliceAt_len h3
  obtain ⟨sa, sc, rfl, hl⟩ := sliceAt_len h5
  unfold maxLen at hl
  have HK := Lib.hid (implKind_any ⟨a0.toArray⟩)
  simp only [kfV_is, List.toList_toArray] at HK
  clear h3
  cases ls with
  | nil =>
    have HF := Lib.hid (show faceP ⟨⟨a0, a1, a2, a3, a4⟩, []⟩ = kfI (kindI a0) from rfl)
    rw [HF.out]
    generalize kfI (kindI a0) = f at *
    generalize decide (0 ≤ kindI a0) = b at *
    clear h5
    go_enter Try.func43, Try.ntmps43
    go_wp2_with (first | (go_at_call 70; (with_reducible refine (HK.out _).mono ?_); rintro e w' ⟨rfl, rfl⟩))
    go_ret
    exact ⟨rfl, part_box w _⟩
  | cons y r =>
    obtain ⟨b, o, cs, rfl, hbw, hat, hd⟩ := sliceAt_cell h5 r.length (by simp)
    have HY := Lib.hid (show faceP ⟨⟨a0, a1, a2, a3, a4⟩, y :: r⟩ = giveI (layI ((y :: r)[r.length]'(by simp)).fName) from by
      unfold faceP faceN
      rw [show (y :: r).length = r.length + 1 from rfl]
      simp only
      rw [List.getD_eq_getElem?_getD, List.getElem?_eq_getElem (by simp)]; rfl)
    rw [HY.out]
    have HG := Lib.hid (implLayerGives_any ⟨((y :: r)[r.length]'(by simp)).fName.toArray⟩)
    generalize (y :: r)[r.length]'(by simp) = z at *
    obtain ⟨z0, z1⟩ := z
    simp only [rFlat, cLayer] at hat
    subst hat
    simp only [gvV_is, List.toList_toArray] at HG
    have d0 := hd 0 (by decide)
    simp only [List.getElem?_cons_zero, Nat.add_zero] at d0
    have hn : (y :: r).length = r.length + 1 := rfl
    rw [hn] at *
    have hl2 : r.length + 1 ≤ 9223372036854775807 := hl
    generalize giveI (layI z0) = f at *
    generalize decide (0 ≤ layI z0) = g at *
    generalize r.length = n at *
    clear hd h5 hn HK
    go_enter Try.func43, Try.ntmps43
    go_wp2_with (first | (go_at_call 76; (with_reducible refine (HG.out _).mono ?_); rintro e w' ⟨rfl, rfl⟩))
    go_ret
    exact ⟨rfl, part_box w _⟩
set_option maxRecDepth 100000 in
set_option maxHeartbeats 1600000 in
theorem l4Face_any (v : Value) (x : PartD) (n : Nat) (w : World) (hx : ValAt rPart 0 w v x) (hn : n ≤ x.fLayers.length) :
    Calls Try.prog 37 #[v, .int .i64 n] w fun e w' => e = .returned (.int .i64 (faceN x n)) ∧ Below w.heap.size w w' := by
  obtain ⟨_, rfl, hx⟩ := hx
  obtain ⟨⟨a0, a1, a2, a3, a4⟩, ls⟩ := x
  obtain ⟨v3, v5, rfl, h3, h5⟩ := hx
  simp only at h3 h5 hn
  obtain ⟨ra, rc, rfl, _⟩ := sliceAt_len h3
  obtain ⟨sa, sc, rfl, hl⟩ := sliceAt_len h5
  unfold maxLen at hl
  have HK := Lib.hid (specKind_any ⟨a0.toArray⟩)
  simp only [kfV_is, List.toList_toArray] at HK
  clear h3
  cases n with
  | zero =>
    have HF := Lib.hid (show faceN ⟨⟨a0, a1, a2, a3, a4⟩, ls⟩ 0 = kfI (kindI a0) from rfl)
    rw [HF.out]
    generalize kfI (kindI a0) = f at *
    generalize decide (0 ≤ kindI a0) = b at *
    clear h5 hn
    go_enter Try.func37, Try.ntmps37
    go_wp2_with fail
    refine (HK.out _).mono ?_
    rintro e w1 ⟨rfl, hb⟩
    have HB := Lib.hid (belS (part_box w _) hb)
    clear hb
    go_wp2_with fail
    go_ret
    exact ⟨rfl, HB.out⟩
  | succ n =>
    have hn2 : n < ls.length := hn
    obtain ⟨b, o, cs, rfl, hbw, hat, hd⟩ := sliceAt_cell h5 n hn2
    have HY := Lib.hid (show faceN ⟨⟨a0, a1, a2, a3, a4⟩, ls⟩ (n + 1) = giveI (layI (ls[n]).fName) from by
      unfold faceN
      simp only
      rw [List.getD_eq_getElem?_getD, List.getElem?_eq_getElem hn2]; rfl)
    rw [HY.out]
    have HG := Lib.hid (l4Row_any ⟨(ls[n]).fName.toArray⟩)
    generalize ls[n] = z at *
    obtain ⟨z0, z1⟩ := z
    simp only [rFlat, cLayer] at hat
    subst hat
    simp only [l4V_is, List.toList_toArray] at HG
    have d0 := hd 0 (by decide)
    simp only [List.getElem?_cons_zero, Nat.add_zero] at d0
    have hl2 : ls.length ≤ 9223372036854775807 := hl
    have hn3 : (n : Int) < (ls.length : Int) := by omega
    generalize giveI (layI z0) = f at *
    generalize needI (layI z0) = f2 at *
    generalize decide (0 ≤ layI z0) = g at *
    clear hd h5 hn HK
    go_enter Try.func37, Try.ntmps37
    go_wp2_with fail
    refine (HG.out _).mono ?_
    rintro e w1 ⟨rfl, hb⟩
    have HB := Lib.hid (belS (part_box w _) hb)
    clear hb
    go_wp2_with fail
    go_ret
    exact ⟨rfl, HB.out⟩
set_option maxRecDepth 100000 in
set_option maxHeartbeats 1600000 in
theorem specFaceOf_any (v : Value) (x : PartD) (w : World) (hx : ValAt rPart 0 w v x) :
    Calls Try.prog 57 #[v] w fun e w' => e = .returned (.int .i64 (faceP x)) ∧ Below w.heap.size w w' := by
  obtain ⟨_, rfl, hx⟩ := hx
  have HX := Lib.hid (fun o => goodPart.keep hx (kept_below (part_box w o) (Nat.le_refl _)))
  have HF := Lib.hid (fun o => l4Face_any _ x x.fLayers.length (w.alloc o) ⟨_, rfl, HX.out o⟩ (Nat.le_refl _))
  have HP := Lib.hid (show faceP x = faceN x x.fLayers.length from rfl)
  rw [HP.out]
  obtain ⟨⟨a0, a1, a2, a3, a4⟩, ls⟩ := x
  obtain ⟨v3, v5, rfl, h3, h5⟩ := hx
  simp only at h3 h5 HF
  obtain ⟨ra, rc, rfl, _⟩ := sliceAt_len h3
  obtain ⟨sa, sc, rfl, hl⟩ := sliceAt_len h5
  unfold maxLen at hl
  clear h3 h5 HX
  generalize faceN ⟨⟨a0, a1, a2, a3, a4⟩, ls⟩ ls.length = f at *
  go_enter Try.func57, Try.ntmps57
  go_wp2_with fail
  refine (HF.out _).mono ?_
  rintro e w1 ⟨rfl, hb⟩
  have HB := Lib.hid (belS (part_box w _) hb)
  clear hb
  go_wp2_with fail
  go_ret
  exact ⟨rfl, HB.out⟩
end Go.Proofs.Ytmoliamenekemaa
