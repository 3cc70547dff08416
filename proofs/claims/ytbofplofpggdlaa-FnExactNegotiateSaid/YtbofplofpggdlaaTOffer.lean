/- Offers: what the laws' own helpers do with them. -/
import Derived.Test.YtbofplofpggdlaaTVersion
import Derived.Test.YtbofplofpggdlaaVar2
namespace Go.Proofs.Ytbofplofpggdlaa
set_option linter.unusedVariables false
open Go.RowKit
structure OfferD where
  fVersions : List VersionD
  fFace : Int
deriving DecidableEq
def okOffer (d : OfferD) : Prop := (∀ c ∈ d.fVersions, okVersion c) ∧ -9223372036854775808 ≤ d.fFace ∧ d.fFace ≤ 9223372036854775807
def vOffer (d : OfferD) (cv : Value) : Value := .agg #[cv, .int .i64 d.fFace]
def OfferAt (w : World) (v : Value) (d : OfferD) : Prop := ∃ cv, v = vOffer d cv ∧ FlatAt cVersion 2 w cv d.fVersions
def OwnsOffer (w : World) (B : Nat) (v : Value) (d : OfferD) : Prop := ∃ cv, v = vOffer d cv ∧ OwnsF cVersion 27 2 w B cv d.fVersions
def GivesOffer (d : OfferD) (w : World) (e : Ending) (w' : World) : Prop := ∃ v, e = .returned v ∧ OwnsOffer w' w.heap.size v d ∧ Below w.heap.size w w'
theorem OfferAt.below {w w' : World} {v : Value} {d : OfferD} {B : Nat} (h : OfferAt w v d) (hb : Below B w w') (hB : w.heap.size ≤ B) : OfferAt w' v d := by
  obtain ⟨cv, rfl, h⟩ := h; exact ⟨cv, rfl, h.below hb hB⟩
theorem ownsOffer_below {w w' : World} {B B' : Nat} {v : Value} {d : OfferD} (h : OwnsOffer w B v d) (hb : Below B' w w') (hB : w.heap.size ≤ B') : OwnsOffer w' B v d := by
  obtain ⟨cv, rfl, h⟩ := h; exact ⟨cv, rfl, ownsF_below h hb hB⟩
theorem ownsOffer_at {w : World} {B : Nat} {v : Value} {d : OfferD} (h : OwnsOffer w B v d) (hm : d.fVersions.length ≤ 4194304) : OfferAt w v d := by
  obtain ⟨cv, rfl, h⟩ := h; exact ⟨cv, rfl, ownsF_at h hm⟩
theorem box3 (w : World) (o p q) : Below w.heap.size w (((w.alloc o).alloc p).alloc q) := (((Below.refl _ _).alloc (Nat.le_refl _) o).alloc (by simp) p).alloc (by simp; omega) q
set_option maxRecDepth 100000 in
set_option maxHeartbeats 1600000 in
theorem toOffer_any (v : Value) (x : OfferD) (w : World) (hx : OfferAt w v x) (hm : x.fVersions.length ≤ 2097152) :
    Calls Try.prog 11 #[v] w fun e w' => GivesOffer x w e w' := by
  obtain ⟨cv, rfl, hx⟩ := hx
  obtain ⟨a0, a1⟩ := x
  unfold vOffer
  simp only at *
  have HX := Lib.hid hx
  clear hx
  have HC := Lib.hid (fun o1 o2 o3 => toVersionS_any cv a0 (((w.alloc o1).alloc o2).alloc o3) (HX.out.below (box3 w o1 o2 o3) (Nat.le_refl _)) hm)
  go_enter Try.func11, Try.ntmps11
  go_wp2_with fail
  refine (HC.out _ _ _).mono ?_
  rintro e w1 ⟨rfl, ho, hb⟩
  have HO := Lib.hid (show OwnsF cVersion 27 2 w1 (w.heap.size + 1 + 1 + 1) (.slice (some ⟨w.heap.size + 1 + 1 + 1, 0, none⟩) a0.length a0.length) a0 from by simpa using ho)
  have HB := Lib.hid ((box3 w _ _ _).trans (hb.mono (box3 w _ _ _).size))
  have hcc : ∀ b o, b < _ → w1.cell? ⟨b, o, none⟩ = _ := fun b o h => hb.cell (p := ⟨b, o, none⟩) h
  have hff : ∀ b o, b < _ → w1.frozen? ⟨b, o, none⟩ = _ := fun b o h => hb.frozen (p := ⟨b, o, none⟩) h
  have hsz := hb.size
  simp at hsz
  clear ho hb
  go_wp2_with fail
  refine bodyPost_ret (v := .agg #[_, .int .i64 a1]) (by simp [results, Try.results11, go_sem, hcc]; rfl) rfl ⟨_, rfl, ⟨_, rfl, ?_⟩, ?_⟩
  · refine ownsF_base (B := w.heap.size + 1 + 1 + 1) ?_ (by omega)
    repeat (refine ownsF_set ?_ (by simp; try omega))
    exact HO.out
  · repeat (refine Below.setCell ?_ (by simp; try omega) _)
    exact HB.out
def zOffer (d : OfferD) : Nat := d.fVersions.length
set_option maxHeartbeats 800000 in
theorem szVersionS_any (v : Value) (x : List VersionD) (left : Int) (w : World) (hx : FlatAt cVersion 2 w v x) (h0 : 0 ≤ left) (h1 : left ≤ 1099511627776) :
    Calls Try.prog 31 #[v, .int .i64 left] w fun e w' => SzF x.length left w e w' := by
  obtain ⟨a, c, rfl, hl⟩ := flatAt_len hx
  clear hx
  unfold maxLen at hl
  by_cases hneg : left - (x.length : Int) < 0
  · go_enter Try.func31, Try.ntmps31
    go_wp2
    go_ret
    exact ⟨-1, rfl, by omega, by omega, Below.refl _ _⟩
  · go_enter Try.func31, Try.ntmps31
    go_wp2
    go_ret
    exact ⟨_, rfl, by omega, by intro _; omega, Below.refl _ _⟩
set_option maxHeartbeats 1600000 in
theorem szOffer_any (v : Value) (x : OfferD) (left : Int) (w : World) (hx : OfferAt w v x) (h0 : 0 ≤ left) (h1 : left ≤ 1099511627776) :
    Calls Try.prog 9 #[v, .int .i64 left] w fun e w' => SzF (zOffer x) left w e w' := by
  obtain ⟨cv, rfl, hx⟩ := hx
  obtain ⟨a0, a1⟩ := x
  unfold vOffer zOffer
  simp only at *
  have HX := Lib.hid hx
  clear hx
  go_enter Try.func9, Try.ntmps9
  go_wp2_with fail
  refine (szVersionS_any cv a0 _ _ (HX.out.below (box1 w _) (Nat.le_refl _)) (by omega) (by omega)).mono ?_
  rintro e w1 ⟨r, rfl, hr0, hr1, hb⟩
  have HB := Lib.hid (bel_to (box1 w _) hb)
  have HR := Lib.hid hr1
  clear hb hr1
  by_cases hr : r < 0
  · go_wp2_with fail
    go_ret
    exact ⟨-1, rfl, by omega, by omega, HB.out⟩
  · have hr2 := HR.out (by omega)
    go_wp2_with fail
    go_ret
    exact ⟨_, rfl, by omega, fun _ => hr2, HB.out⟩
set_option maxRecDepth 100000 in
set_option maxHeartbeats 1600000 in
theorem eqOffer_any (v u : Value) (x y : OfferD) (w : World) (hx : OfferAt w v x) (hy : OfferAt w u y) :
    Calls Try.prog 14 #[v, u] w fun e w' => e = .returned (.bool (decide (x = y))) ∧ Below w.heap.size w w' := by
  obtain ⟨cv, rfl, hx⟩ := hx
  obtain ⟨cu, rfl, hy⟩ := hy
  obtain ⟨a0, a1⟩ := x
  obtain ⟨b0, b1⟩ := y
  unfold vOffer
  simp only at *
  have HX := Lib.hid hx
  have HY := Lib.hid hy
  have HC := Lib.hid (fun o1 o2 => eqVersionS_any cv cu a0 b0 ((w.alloc o1).alloc o2) (HX.out.below (box2 w o1 o2) (Nat.le_refl _)) (HY.out.below (box2 w o1 o2) (Nat.le_refl _)))
  have HQ := Lib.hid (show decide ((⟨a0, a1⟩ : OfferD) = ⟨b0, b1⟩) = (decide (a0 = b0) && decide (a1 = b1)) by rw [Bool.eq_iff_iff]; simp)
  generalize decide ((⟨a0, a1⟩ : OfferD) = ⟨b0, b1⟩) = q at *
  generalize decide (a0 = b0) = p at *
  clear hx hy
  cases p with
  | false =>
    go_enter Try.func14, Try.ntmps14
    go_wp2_with fail
    refine (HC.out _ _).mono ?_
    rintro e w1 ⟨rfl, hb⟩
    go_wp2_with fail
    go_ret
    exact ⟨ret_bool (by rw [HQ.out]; rfl), bel_to (box2 w _ _) hb⟩
  | true =>
    by_cases h : a1 = b1
    · have hq : q = true := by rw [HQ.out]; simpa using h
      subst hq h
      clear HQ
      go_enter Try.func14, Try.ntmps14
      go_wp2_with fail
      refine (HC.out _ _).mono ?_
      rintro e w1 ⟨rfl, hb⟩
      have HB := Lib.hid (bel_to (box2 w _ _) hb)
      have hcc : ∀ b o, b < _ → w1.cell? ⟨b, o, none⟩ = _ := fun b o h => hb.cell (p := ⟨b, o, none⟩) h
      simp at hcc
      have c0 := hcc w.heap.size 1 (by omega)
      have c1 := hcc (w.heap.size + 1) 1 (by omega)
      simp at c0 c1
      clear hb hcc
      go_wp2_with fail
      go_ret
      exact ⟨rfl, HB.out⟩
    · have hq : q = false := by rw [HQ.out]; simpa using h
      subst hq
      clear HQ
      have hne : (a1 == b1) = false := by simpa using h
      have hnf : (a1 != b1) = true := by simpa using h
      clear h
      go_enter Try.func14, Try.ntmps14
      go_wp2_with fail
      refine (HC.out _ _).mono ?_
      rintro e w1 ⟨rfl, hb⟩
      have HB := Lib.hid (bel_to (box2 w _ _) hb)
      have hcc : ∀ b o, b < _ → w1.cell? ⟨b, o, none⟩ = _ := fun b o h => hb.cell (p := ⟨b, o, none⟩) h
      simp at hcc
      have c0 := hcc w.heap.size 1 (by omega)
      have c1 := hcc (w.heap.size + 1) 1 (by omega)
      simp at c0 c1
      clear hb hcc
      go_wp2_with fail
      go_ret
      exact ⟨rfl, HB.out⟩
end Go.Proofs.Ytbofplofpggdlaa
