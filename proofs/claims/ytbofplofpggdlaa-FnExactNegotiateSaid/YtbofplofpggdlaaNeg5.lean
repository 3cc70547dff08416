/- Contracts of chapter 5: deals of two, the program's. -/
import Derived.Test.YtbofplofpggdlaaNeg4
namespace Go.Proofs.Ytbofplofpggdlaa
set_option linter.unusedVariables false
set_option linter.unusedSimpArgs false
open Go.RowKit
theorem two_offers (W : World) (a0 b0 : List VersionD) (a1 b1 : Int) (x y : Value) (hx : SliceAt (rFlat cVersion) 2 0 W x a0) (hy : SliceAt (rFlat cVersion) 2 0 W y b0) (blk c : Nat) (hb : blk = W.heap.size) :
    SliceAt rOffer 2 0 (W.alloc (.cells #[x, .int .i64 a1, y, .int .i64 b1] 34)) (.slice (some ⟨blk, 0, none⟩) 2 c) [⟨a0, a1⟩, ⟨b0, b1⟩] := by
  subst hb
  refine ⟨_, c, rfl, by unfold maxLen; simp, Or.inr ⟨W.heap.size, 0, rfl, Nat.zero_le _, by simp, fun i hi => ?_⟩⟩
  have h : i = 0 ∨ i = 1 := by simp at hi; omega
  rcases h with rfl | rfl
  · refine ⟨[x, .int .i64 a1], ⟨x, rfl, hx.below (good_flat cVersion_len) (box1 W _) (Nat.le_refl _)⟩, fun j hj => ?_⟩
    have hj2 : j = 0 ∨ j = 1 := by omega
    rcases hj2 with rfl | rfl <;> simp
  · refine ⟨[y, .int .i64 b1], ⟨y, rfl, hy.below (good_flat cVersion_len) (box1 W _) (Nat.le_refl _)⟩, fun j hj => ?_⟩
    have hj2 : j = 0 ∨ j = 1 := by omega
    rcases hj2 with rfl | rfl <;> simp
set_option maxRecDepth 100000 in
set_option maxHeartbeats 1600000 in
theorem implNeg_any (v u : Value) (a b : OfferD) (w : World) (ha : ValAt rOffer 0 w v a) (hb : ValAt rOffer 0 w u b) :
    Calls Try.prog 12 #[v, u] w fun e w' => e = .returned (.tuple #[vDeal (dealV [a, b]), .bool (dealB [a, b])]) ∧ Below w.heap.size w w' := by
  obtain ⟨_, rfl, x, rfl, hx⟩ := ha
  obtain ⟨_, rfl, y, rfl, hy⟩ := hb
  obtain ⟨xa, xc, rfl, _⟩ := sliceAt_len hx
  obtain ⟨ya, yc, rfl, _⟩ := sliceAt_len hy
  obtain ⟨a0, a1⟩ := a
  obtain ⟨b0, b1⟩ := b
  simp only at *
  have HB3 := Lib.hid (fun o1 o2 o3 => ((box2 w o1 o2).alloc (by simp; omega) o3 : Below w.heap.size w (((w.alloc o1).alloc o2).alloc o3)))
  have HS := Lib.hid (fun o1 o2 o3 => two_offers (((w.alloc o1).alloc o2).alloc o3) a0 b0 a1 b1 _ _ (hx.below (good_flat cVersion_len) (HB3.out o1 o2 o3) (Nat.le_refl _)) (hy.below (good_flat cVersion_len) (HB3.out o1 o2 o3) (Nat.le_refl _)) (w.heap.size + 1 + 1 + 1) 2 (by simp))
  have HB4 := Lib.hid (fun o1 o2 o3 o4 => ((HB3.out o1 o2 o3).alloc (by simp; omega) o4 : Below w.heap.size w ((((w.alloc o1).alloc o2).alloc o3).alloc o4)))
  have V0 := Lib.hid (fun (o1 o2 : Obj) => show Var3 (((w.alloc o1).alloc o2).alloc (.cells #[.int .i64 0, .int .i64 0, .int .i64 0] 29)) (w.heap.size + 1 + 1) (.int .i64 0) (.int .i64 0) (.int .i64 0) from by
    have h := Var3.new ((w.alloc o1).alloc o2) (.int .i64 0) (.int .i64 0) (.int .i64 0) 29
    rw [show ((w.alloc o1).alloc o2).heap.size = w.heap.size + 1 + 1 by simp] at h
    exact h)
  have HD := Lib.hid (implNegAll_b · [⟨a0, a1⟩, ⟨b0, b1⟩] _ _ rfl rfl)
  generalize dealV [⟨a0, a1⟩, ⟨b0, b1⟩] = d at *
  generalize dealB [⟨a0, a1⟩, ⟨b0, b1⟩] = r at *
  clear hx hy
  go_enter Try.func12, Try.ntmps12
  go_wp2_with fail
  refine (HD.out _ _ (HS.out _ _ _)).mono ?_
  rintro e w1 ⟨rfl, hb⟩
  have V1 := Lib.hid (((V0.out _ _).below (box1 _ _)).below hb)
  have HB := Lib.hid (bel_to (HB4.out _ _ _ _) hb)
  have e0 := V1.out.c0
  have e1 := V1.out.c1
  have e2 := V1.out.c2
  have g0 := V1.out.f0
  have g1 := V1.out.f1
  have g2 := V1.out.f2
  clear hb
  obtain ⟨d0, d1, d2⟩ := d
  unfold vDeal
  go_wp2_with fail
  refine bodyPost_ret (v := .tuple #[.agg #[.int .i64 d0, .int .i64 d1, .int .i64 d2], .bool r]) (by simp [results, Try.results12, go_sem, e0, e1, e2]) rfl ⟨rfl, ?_⟩
  exact ((HB.out.setCell (by simp; omega) _).setCell (by simp; omega) _).setCell (by simp; omega) _
end Go.Proofs.Ytbofplofpggdlaa
