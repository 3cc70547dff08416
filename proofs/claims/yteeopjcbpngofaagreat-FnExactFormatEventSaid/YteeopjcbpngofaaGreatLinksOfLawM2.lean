/- Rows of texts as rows of flat elements: the laws' helpers in that form. -/
import Derived.Test.YteeopjcbpngofaaGreatLinksOfLawM1
import Derived.StillTailTactics
import Derived.Test.YteeopjcbpngofaaGreatLinksOfLawM0
import Derived.Recover
import Derived.Defers
import Derived.Deep.RegionHeld3
import Derived.IntWalk
import Derived.Sort.Walk0
import Derived.Lib.SlicesCompact
import Derived.Test.YteeopjcbpngofaaGreatShelf
import Derived.Lib.OwnBridge
/- assertAndWrap, by adapter: where the assertion is met, and where it is not. Written by gen/ch4if.py. -/
namespace Go.Proofs.YteeopjcbpngofaaGreat
set_option linter.unusedVariables false
set_option linter.unusedSimpArgs false
open Go.RowKit

set_option maxRecDepth 100000 in
set_option maxHeartbeats 1600000 in
theorem aw_0 (b o : Nat) (T : TypeId) (V : Value) (w : World) (h : w.cell? ⟨b, o, none⟩ = some (.string ⟨(layN 0).toArray⟩)) :
    Calls Tryz.prog 176 #[.iface T V, .pointer (some ⟨b, o, none⟩)] w fun e w' => e = .returned (wrapV b o (.iface T V) 0) ∧ Below w.heap.size w w' := by
  have hl0 := World.block_lt_of_cell? w _ h
  simp only at hl0
  have hn0 : ¬ b = w.heap.size := by omega
  simp only [layN] at h
  unfold wrapV
  go_enter Tryz.func176, Tryz.ntmps176
  go_wp2_with fail
  try go_region
  all_goals (try go_wp2_with fail)
  all_goals
    go_ret
    refine ⟨rfl, ?_⟩
    repeat (first | with_reducible exact Below.refl _ _ | with_reducible refine Below.alloc ?_ (by simp; try omega) _ | with_reducible refine bel_dr ?_)
set_option maxRecDepth 100000 in
set_option maxHeartbeats 1600000 in
theorem aw_1 (b o : Nat) (T : TypeId) (V : Value) (w : World) (h : w.cell? ⟨b, o, none⟩ = some (.string ⟨(layN 1).toArray⟩)) (hta : Has 218 T) :
    Calls Tryz.prog 176 #[.iface T V, .pointer (some ⟨b, o, none⟩)] w fun e w' => e = .returned (wrapV b o (.iface T V) 1) ∧ Below w.heap.size w w' := by
  have hl0 := World.block_lt_of_cell? w _ h
  simp only at hl0
  have hn0 : ¬ b = w.heap.size := by omega
  simp only [layN] at h
  unfold wrapV
  unfold Has at hta
  go_enter Tryz.func176, Tryz.ntmps176
  go_wp2_with fail
  try go_region
  all_goals (try go_wp2_with fail)
  all_goals
    go_ret
    refine ⟨rfl, ?_⟩
    repeat (first | with_reducible exact Below.refl _ _ | with_reducible refine Below.alloc ?_ (by simp; try omega) _ | with_reducible refine bel_dr ?_)
set_option maxRecDepth 100000 in
set_option maxHeartbeats 1600000 in
theorem awp_1 (b o : Nat) (T : TypeId) (V : Value) (w : World) (h : w.cell? ⟨b, o, none⟩ = some (.string ⟨(layN 1).toArray⟩)) (hta : Fails 218 T) :
    Calls Tryz.prog 176 #[.iface T V, .pointer (some ⟨b, o, none⟩)] w fun e w' => Panics w e w' := by
  have hl0 := World.block_lt_of_cell? w _ h
  simp only at hl0
  have hn0 : ¬ b = w.heap.size := by omega
  simp only [layN] at h
  obtain ⟨c, E, hta⟩ := hta
  go_enter Tryz.func176, Tryz.ntmps176
  go_wp2_with fail
  refine wp_region_any (by kernel_rfl) ?_
  change wpAny _ _ _ _ _ _ _ (World.drew _)
  refine wpAny_take (i := 1) (v := ?_) rfl (by kernel_rfl) (by kernel_rfl) (by kernel_rfl) (fun _ _ _ h => h) (Or.inl ⟨by rfl, ?_⟩) ?_
  rotate_left
  · intro w; go_simp; try (with_reducible rfl)
  refine wpAny_ready (rs := [0, 2]) (by kernel_rfl) (by simp) ?_
  refine AllReady.cons rfl (fun K hK => ?_) ?_
  · go_simp
    refine hK _ _ ?_
    clear hK K
    refine wpAny_ready (rs := [2]) (by kernel_rfl) (by simp) ?_
    refine AllReady.cons rfl (fun K hK => ?_) ?_
    · go_simp
      exact ⟨rfl, _, rfl, by repeat (first | with_reducible exact Below.refl _ _ | with_reducible refine Below.alloc ?_ (by simp; try omega) _ | with_reducible refine Below.drew ?_ | with_reducible refine below_drewN ?_ _)⟩
    exact AllReady.nil
  refine AllReady.cons rfl (fun K hK => ?_) ?_
  · go_simp
    exact ⟨rfl, _, rfl, by repeat (first | with_reducible exact Below.refl _ _ | with_reducible refine Below.alloc ?_ (by simp; try omega) _ | with_reducible refine Below.drew ?_ | with_reducible refine below_drewN ?_ _)⟩
  exact AllReady.nil
set_option maxRecDepth 100000 in
set_option maxHeartbeats 1600000 in
theorem aw_2 (b o : Nat) (T : TypeId) (V : Value) (w : World) (h : w.cell? ⟨b, o, none⟩ = some (.string ⟨(layN 2).toArray⟩)) (hta : Has 222 T) :
    Calls Tryz.prog 176 #[.iface T V, .pointer (some ⟨b, o, none⟩)] w fun e w' => e = .returned (wrapV b o (.iface T V) 2) ∧ Below w.heap.size w w' := by
  have hl0 := World.block_lt_of_cell? w _ h
  simp only at hl0
  have hn0 : ¬ b = w.heap.size := by omega
  simp only [layN] at h
  unfold wrapV
  unfold Has at hta
  go_enter Tryz.func176, Tryz.ntmps176
  go_wp2_with fail
  try go_region
  all_goals (try go_wp2_with fail)
  all_goals
    go_ret
    refine ⟨rfl, ?_⟩
    repeat (first | with_reducible exact Below.refl _ _ | with_reducible refine Below.alloc ?_ (by simp; try omega) _ | with_reducible refine bel_dr ?_)
set_option maxRecDepth 100000 in
set_option maxHeartbeats 1600000 in
theorem awp_2 (b o : Nat) (T : TypeId) (V : Value) (w : World) (h : w.cell? ⟨b, o, none⟩ = some (.string ⟨(layN 2).toArray⟩)) (hta : Fails 222 T) :
    Calls Tryz.prog 176 #[.iface T V, .pointer (some ⟨b, o, none⟩)] w fun e w' => Panics w e w' := by
  have hl0 := World.block_lt_of_cell? w _ h
  simp only at hl0
  have hn0 : ¬ b = w.heap.size := by omega
  simp only [layN] at h
  obtain ⟨c, E, hta⟩ := hta
  go_enter Tryz.func176, Tryz.ntmps176
  go_wp2_with fail
  refine wp_region_any (by kernel_rfl) ?_
  change wpAny _ _ _ _ _ _ _ (World.drew _)
  refine wpAny_take (i := 1) (v := ?_) rfl (by kernel_rfl) (by kernel_rfl) (by kernel_rfl) (fun _ _ _ h => h) (Or.inl ⟨by rfl, ?_⟩) ?_
  rotate_left
  · intro w; go_simp; try (with_reducible rfl)
  refine wpAny_ready (rs := [0, 2]) (by kernel_rfl) (by simp) ?_
  refine AllReady.cons rfl (fun K hK => ?_) ?_
  · go_simp
    refine hK _ _ ?_
    clear hK K
    refine wpAny_ready (rs := [2]) (by kernel_rfl) (by simp) ?_
    refine AllReady.cons rfl (fun K hK => ?_) ?_
    · go_simp
      exact ⟨rfl, _, rfl, by repeat (first | with_reducible exact Below.refl _ _ | with_reducible refine Below.alloc ?_ (by simp; try omega) _ | with_reducible refine Below.drew ?_ | with_reducible refine below_drewN ?_ _)⟩
    exact AllReady.nil
  refine AllReady.cons rfl (fun K hK => ?_) ?_
  · go_simp
    exact ⟨rfl, _, rfl, by repeat (first | with_reducible exact Below.refl _ _ | with_reducible refine Below.alloc ?_ (by simp; try omega) _ | with_reducible refine Below.drew ?_ | with_reducible refine below_drewN ?_ _)⟩
  exact AllReady.nil
set_option maxRecDepth 100000 in
set_option maxHeartbeats 1600000 in
theorem aw_3 (b o : Nat) (T : TypeId) (V : Value) (w : World) (h : w.cell? ⟨b, o, none⟩ = some (.string ⟨(layN 3).toArray⟩)) (hta : Has 222 T) :
    Calls Tryz.prog 176 #[.iface T V, .pointer (some ⟨b, o, none⟩)] w fun e w' => e = .returned (wrapV b o (.iface T V) 3) ∧ Below w.heap.size w w' := by
  have hl0 := World.block_lt_of_cell? w _ h
  simp only at hl0
  have hn0 : ¬ b = w.heap.size := by omega
  simp only [layN] at h
  unfold wrapV
  unfold Has at hta
  go_enter Tryz.func176, Tryz.ntmps176
  go_wp2_with fail
  try go_region
  all_goals (try go_wp2_with fail)
  all_goals
    go_ret
    refine ⟨rfl, ?_⟩
    repeat (first | with_reducible exact Below.refl _ _ | with_reducible refine Below.alloc ?_ (by simp; try omega) _ | with_reducible refine bel_dr ?_)
set_option maxRecDepth 100000 in
set_option maxHeartbeats 1600000 in
theorem awp_3 (b o : Nat) (T : TypeId) (V : Value) (w : World) (h : w.cell? ⟨b, o, none⟩ = some (.string ⟨(layN 3).toArray⟩)) (hta : Fails 222 T) :
    Calls Tryz.prog 176 #[.iface T V, .pointer (some ⟨b, o, none⟩)] w fun e w' => Panics w e w' := by
  have hl0 := World.block_lt_of_cell? w _ h
  simp only at hl0
  have hn0 : ¬ b = w.heap.size := by omega
  simp only [layN] at h
  obtain ⟨c, E, hta⟩ := hta
  go_enter Tryz.func176, Tryz.ntmps176
  go_wp2_with fail
  refine wp_region_any (by kernel_rfl) ?_
  change wpAny _ _ _ _ _ _ _ (World.drew _)
  refine wpAny_take (i := 1) (v := ?_) rfl (by kernel_rfl) (by kernel_rfl) (by kernel_rfl) (fun _ _ _ h => h) (Or.inl ⟨by rfl, ?_⟩) ?_
  rotate_left
  · intro w; go_simp; try (with_reducible rfl)
  refine wpAny_ready (rs := [0, 2]) (by kernel_rfl) (by simp) ?_
  refine AllReady.cons rfl (fun K hK => ?_) ?_
  · go_simp
    refine hK _ _ ?_
    clear hK K
    refine wpAny_ready (rs := [2]) (by kernel_rfl) (by simp) ?_
    refine AllReady.cons rfl (fun K hK => ?_) ?_
    · go_simp
      exact ⟨rfl, _, rfl, by repeat (first | with_reducible exact Below.refl _ _ | with_reducible refine Below.alloc ?_ (by simp; try omega) _ | with_reducible refine Below.drew ?_ | with_reducible refine below_drewN ?_ _)⟩
    exact AllReady.nil
  refine AllReady.cons rfl (fun K hK => ?_) ?_
  · go_simp
    exact ⟨rfl, _, rfl, by repeat (first | with_reducible exact Below.refl _ _ | with_reducible refine Below.alloc ?_ (by simp; try omega) _ | with_reducible refine Below.drew ?_ | with_reducible refine below_drewN ?_ _)⟩
  exact AllReady.nil
set_option maxRecDepth 100000 in
set_option maxHeartbeats 1600000 in
theorem aw_4 (b o : Nat) (T : TypeId) (V : Value) (w : World) (h : w.cell? ⟨b, o, none⟩ = some (.string ⟨(layN 4).toArray⟩)) (hta : Has 227 T) :
    Calls Tryz.prog 176 #[.iface T V, .pointer (some ⟨b, o, none⟩)] w fun e w' => e = .returned (wrapV b o (.iface T V) 4) ∧ Below w.heap.size w w' := by
  have hl0 := World.block_lt_of_cell? w _ h
  simp only at hl0
  have hn0 : ¬ b = w.heap.size := by omega
  simp only [layN] at h
  unfold wrapV
  unfold Has at hta
  go_enter Tryz.func176, Tryz.ntmps176
  go_wp2_with fail
  try go_region
  all_goals (try go_wp2_with fail)
  all_goals
    go_ret
    refine ⟨rfl, ?_⟩
    repeat (first | with_reducible exact Below.refl _ _ | with_reducible refine Below.alloc ?_ (by simp; try omega) _ | with_reducible refine bel_dr ?_)
set_option maxRecDepth 100000 in
set_option maxHeartbeats 1600000 in
theorem awp_4 (b o : Nat) (T : TypeId) (V : Value) (w : World) (h : w.cell? ⟨b, o, none⟩ = some (.string ⟨(layN 4).toArray⟩)) (hta : Fails 227 T) :
    Calls Tryz.prog 176 #[.iface T V, .pointer (some ⟨b, o, none⟩)] w fun e w' => Panics w e w' := by
  have hl0 := World.block_lt_of_cell? w _ h
  simp only at hl0
  have hn0 : ¬ b = w.heap.size := by omega
  simp only [layN] at h
  obtain ⟨c, E, hta⟩ := hta
  go_enter Tryz.func176, Tryz.ntmps176
  go_wp2_with fail
  refine wp_region_any (by kernel_rfl) ?_
  change wpAny _ _ _ _ _ _ _ (World.drew _)
  refine wpAny_take (i := 1) (v := ?_) rfl (by kernel_rfl) (by kernel_rfl) (by kernel_rfl) (fun _ _ _ h => h) (Or.inl ⟨by rfl, ?_⟩) ?_
  rotate_left
  · intro w; go_simp; try (with_reducible rfl)
  refine wpAny_ready (rs := [0, 2]) (by kernel_rfl) (by simp) ?_
  refine AllReady.cons rfl (fun K hK => ?_) ?_
  · go_simp
    refine hK _ _ ?_
    clear hK K
    refine wpAny_ready (rs := [2]) (by kernel_rfl) (by simp) ?_
    refine AllReady.cons rfl (fun K hK => ?_) ?_
    · go_simp
      exact ⟨rfl, _, rfl, by repeat (first | with_reducible exact Below.refl _ _ | with_reducible refine Below.alloc ?_ (by simp; try omega) _ | with_reducible refine Below.drew ?_ | with_reducible refine below_drewN ?_ _)⟩
    exact AllReady.nil
  refine AllReady.cons rfl (fun K hK => ?_) ?_
  · go_simp
    exact ⟨rfl, _, rfl, by repeat (first | with_reducible exact Below.refl _ _ | with_reducible refine Below.alloc ?_ (by simp; try omega) _ | with_reducible refine Below.drew ?_ | with_reducible refine below_drewN ?_ _)⟩
  exact AllReady.nil
set_option maxRecDepth 100000 in
set_option maxHeartbeats 1600000 in
theorem aw_5 (b o : Nat) (T : TypeId) (V : Value) (w : World) (h : w.cell? ⟨b, o, none⟩ = some (.string ⟨(layN 5).toArray⟩)) (hta : Has 222 T) :
    Calls Tryz.prog 176 #[.iface T V, .pointer (some ⟨b, o, none⟩)] w fun e w' => e = .returned (wrapV b o (.iface T V) 5) ∧ Below w.heap.size w w' := by
  have hl0 := World.block_lt_of_cell? w _ h
  simp only at hl0
  have hn0 : ¬ b = w.heap.size := by omega
  simp only [layN] at h
  unfold wrapV
  unfold Has at hta
  go_enter Tryz.func176, Tryz.ntmps176
  go_wp2_with fail
  try go_region
  all_goals (try go_wp2_with fail)
  all_goals
    go_ret
    refine ⟨rfl, ?_⟩
    repeat (first | with_reducible exact Below.refl _ _ | with_reducible refine Below.alloc ?_ (by simp; try omega) _ | with_reducible refine bel_dr ?_)
set_option maxRecDepth 100000 in
set_option maxHeartbeats 1600000 in
theorem awp_5 (b o : Nat) (T : TypeId) (V : Value) (w : World) (h : w.cell? ⟨b, o, none⟩ = some (.string ⟨(layN 5).toArray⟩)) (hta : Fails 222 T) :
    Calls Tryz.prog 176 #[.iface T V, .pointer (some ⟨b, o, none⟩)] w fun e w' => Panics w e w' := by
  have hl0 := World.block_lt_of_cell? w _ h
  simp only at hl0
  have hn0 : ¬ b = w.heap.size := by omega
  simp only [layN] at h
  obtain ⟨c, E, hta⟩ := hta
  go_enter Tryz.func176, Tryz.ntmps176
  go_wp2_with fail
  refine wp_region_any (by kernel_rfl) ?_
  change wpAny _ _ _ _ _ _ _ (World.drew _)
  refine wpAny_take (i := 1) (v := ?_) rfl (by kernel_rfl) (by kernel_rfl) (by kernel_rfl) (fun _ _ _ h => h) (Or.inl ⟨by rfl, ?_⟩) ?_
  rotate_left
  · intro w; go_simp; try (with_reducible rfl)
  refine wpAny_ready (rs := [0, 2]) (by kernel_rfl) (by simp) ?_
  refine AllReady.cons rfl (fun K hK => ?_) ?_
  · go_simp
    refine hK _ _ ?_
    clear hK K
    refine wpAny_ready (rs := [2]) (by kernel_rfl) (by simp) ?_
    refine AllReady.cons rfl (fun K hK => ?_) ?_
    · go_simp
      exact ⟨rfl, _, rfl, by repeat (first | with_reducible exact Below.refl _ _ | with_reducible refine Below.alloc ?_ (by simp; try omega) _ | with_reducible refine Below.drew ?_ | with_reducible refine below_drewN ?_ _)⟩
    exact AllReady.nil
  refine AllReady.cons rfl (fun K hK => ?_) ?_
  · go_simp
    exact ⟨rfl, _, rfl, by repeat (first | with_reducible exact Below.refl _ _ | with_reducible refine Below.alloc ?_ (by simp; try omega) _ | with_reducible refine Below.drew ?_ | with_reducible refine below_drewN ?_ _)⟩
  exact AllReady.nil
set_option maxRecDepth 100000 in
set_option maxHeartbeats 1600000 in
theorem aw_6 (b o : Nat) (T : TypeId) (V : Value) (w : World) (h : w.cell? ⟨b, o, none⟩ = some (.string ⟨(layN 6).toArray⟩)) (hta : Has 218 T) :
    Calls Tryz.prog 176 #[.iface T V, .pointer (some ⟨b, o, none⟩)] w fun e w' => e = .returned (wrapV b o (.iface T V) 6) ∧ Below w.heap.size w w' := by
  have hl0 := World.block_lt_of_cell? w _ h
  simp only at hl0
  have hn0 : ¬ b = w.heap.size := by omega
  simp only [layN] at h
  unfold wrapV
  unfold Has at hta
  go_enter Tryz.func176, Tryz.ntmps176
  go_wp2_with fail
  try go_region
  all_goals (try go_wp2_with fail)
  all_goals
    go_ret
    refine ⟨rfl, ?_⟩
    repeat (first | with_reducible exact Below.refl _ _ | with_reducible refine Below.alloc ?_ (by simp; try omega) _ | with_reducible refine bel_dr ?_)
set_option maxRecDepth 100000 in
set_option maxHeartbeats 1600000 in
theorem awp_6 (b o : Nat) (T : TypeId) (V : Value) (w : World) (h : w.cell? ⟨b, o, none⟩ = some (.string ⟨(layN 6).toArray⟩)) (hta : Fails 218 T) :
    Calls Tryz.prog 176 #[.iface T V, .pointer (some ⟨b, o, none⟩)] w fun e w' => Panics w e w' := by
  have hl0 := World.block_lt_of_cell? w _ h
  simp only at hl0
  have hn0 : ¬ b = w.heap.size := by omega
  simp only [layN] at h
  obtain ⟨c, E, hta⟩ := hta
  go_enter Tryz.func176, Tryz.ntmps176
  go_wp2_with fail
  refine wp_region_any (by kernel_rfl) ?_
  change wpAny _ _ _ _ _ _ _ (World.drew _)
  refine wpAny_take (i := 1) (v := ?_) rfl (by kernel_rfl) (by kernel_rfl) (by kernel_rfl) (fun _ _ _ h => h) (Or.inl ⟨by rfl, ?_⟩) ?_
  rotate_left
  · intro w; go_simp; try (with_reducible rfl)
  refine wpAny_ready (rs := [0, 2]) (by kernel_rfl) (by simp) ?_
  refine AllReady.cons rfl (fun K hK => ?_) ?_
  · go_simp
    refine hK _ _ ?_
    clear hK K
    refine wpAny_ready (rs := [2]) (by kernel_rfl) (by simp) ?_
    refine AllReady.cons rfl (fun K hK => ?_) ?_
    · go_simp
      exact ⟨rfl, _, rfl, by repeat (first | with_reducible exact Below.refl _ _ | with_reducible refine Below.alloc ?_ (by simp; try omega) _ | with_reducible refine Below.drew ?_ | with_reducible refine below_drewN ?_ _)⟩
    exact AllReady.nil
  refine AllReady.cons rfl (fun K hK => ?_) ?_
  · go_simp
    exact ⟨rfl, _, rfl, by repeat (first | with_reducible exact Below.refl _ _ | with_reducible refine Below.alloc ?_ (by simp; try omega) _ | with_reducible refine Below.drew ?_ | with_reducible refine below_drewN ?_ _)⟩
  exact AllReady.nil
set_option maxRecDepth 100000 in
set_option maxHeartbeats 1600000 in
theorem aw_7 (b o : Nat) (T : TypeId) (V : Value) (w : World) (h : w.cell? ⟨b, o, none⟩ = some (.string ⟨(layN 7).toArray⟩)) (hta : Has 218 T) :
    Calls Tryz.prog 176 #[.iface T V, .pointer (some ⟨b, o, none⟩)] w fun e w' => e = .returned (wrapV b o (.iface T V) 7) ∧ Below w.heap.size w w' := by
  have hl0 := World.block_lt_of_cell? w _ h
  simp only at hl0
  have hn0 : ¬ b = w.heap.size := by omega
  simp only [layN] at h
  unfold wrapV
  unfold Has at hta
  go_enter Tryz.func176, Tryz.ntmps176
  go_wp2_with fail
  try go_region
  all_goals (try go_wp2_with fail)
  all_goals
    go_ret
    refine ⟨rfl, ?_⟩
    repeat (first | with_reducible exact Below.refl _ _ | with_reducible refine Below.alloc ?_ (by simp; try omega) _ | with_reducible refine bel_dr ?_)
set_option maxRecDepth 100000 in
set_option maxHeartbeats 1600000 in
theorem awp_7 (b o : Nat) (T : TypeId) (V : Value) (w : World) (h : w.cell? ⟨b, o, none⟩ = some (.string ⟨(layN 7).toArray⟩)) (hta : Fails 218 T) :
    Calls Tryz.prog 176 #[.iface T V, .pointer (some ⟨b, o, none⟩)] w fun e w' => Panics w e w' := by
  have hl0 := World.block_lt_of_cell? w _ h
  simp only at hl0
  have hn0 : ¬ b = w.heap.size := by omega
  simp only [layN] at h
  obtain ⟨c, E, hta⟩ := hta
  go_enter Tryz.func176, Tryz.ntmps176
  go_wp2_with fail
  refine wp_region_any (by kernel_rfl) ?_
  change wpAny _ _ _ _ _ _ _ (World.drew _)
  refine wpAny_take (i := 1) (v := ?_) rfl (by kernel_rfl) (by kernel_rfl) (by kernel_rfl) (fun _ _ _ h => h) (Or.inl ⟨by rfl, ?_⟩) ?_
  rotate_left
  · intro w; go_simp; try (with_reducible rfl)
  refine wpAny_ready (rs := [0, 2]) (by kernel_rfl) (by simp) ?_
  refine AllReady.cons rfl (fun K hK => ?_) ?_
  · go_simp
    refine hK _ _ ?_
    clear hK K
    refine wpAny_ready (rs := [2]) (by kernel_rfl) (by simp) ?_
    refine AllReady.cons rfl (fun K hK => ?_) ?_
    · go_simp
      exact ⟨rfl, _, rfl, by repeat (first | with_reducible exact Below.refl _ _ | with_reducible refine Below.alloc ?_ (by simp; try omega) _ | with_reducible refine Below.drew ?_ | with_reducible refine below_drewN ?_ _)⟩
    exact AllReady.nil
  refine AllReady.cons rfl (fun K hK => ?_) ?_
  · go_simp
    exact ⟨rfl, _, rfl, by repeat (first | with_reducible exact Below.refl _ _ | with_reducible refine Below.alloc ?_ (by simp; try omega) _ | with_reducible refine Below.drew ?_ | with_reducible refine below_drewN ?_ _)⟩
  exact AllReady.nil
set_option maxRecDepth 100000 in
set_option maxHeartbeats 1600000 in
theorem aw_8 (b o : Nat) (T : TypeId) (V : Value) (w : World) (h : w.cell? ⟨b, o, none⟩ = some (.string ⟨(layN 8).toArray⟩)) (hta : Has 234 T) :
    Calls Tryz.prog 176 #[.iface T V, .pointer (some ⟨b, o, none⟩)] w fun e w' => e = .returned (wrapV b o (.iface T V) 8) ∧ Below w.heap.size w w' := by
  have hl0 := World.block_lt_of_cell? w _ h
  simp only at hl0
  have hn0 : ¬ b = w.heap.size := by omega
  simp only [layN] at h
  unfold wrapV
  unfold Has at hta
  go_enter Tryz.func176, Tryz.ntmps176
  go_wp2_with fail
  try go_region
  all_goals (try go_wp2_with fail)
  all_goals
    go_ret
    refine ⟨rfl, ?_⟩
    repeat (first | with_reducible exact Below.refl _ _ | with_reducible refine Below.alloc ?_ (by simp; try omega) _ | with_reducible refine bel_dr ?_)
set_option maxRecDepth 100000 in
set_option maxHeartbeats 1600000 in
theorem awp_8 (b o : Nat) (T : TypeId) (V : Value) (w : World) (h : w.cell? ⟨b, o, none⟩ = some (.string ⟨(layN 8).toArray⟩)) (hta : Fails 234 T) :
    Calls Tryz.prog 176 #[.iface T V, .pointer (some ⟨b, o, none⟩)] w fun e w' => Panics w e w' := by
  have hl0 := World.block_lt_of_cell? w _ h
  simp only at hl0
  have hn0 : ¬ b = w.heap.size := by omega
  simp only [layN] at h
  obtain ⟨c, E, hta⟩ := hta
  go_enter Tryz.func176, Tryz.ntmps176
  go_wp2_with fail
  refine wp_region_any (by kernel_rfl) ?_
  change wpAny _ _ _ _ _ _ _ (World.drew _)
  refine wpAny_take (i := 1) (v := ?_) rfl (by kernel_rfl) (by kernel_rfl) (by kernel_rfl) (fun _ _ _ h => h) (Or.inl ⟨by rfl, ?_⟩) ?_
  rotate_left
  · intro w; go_simp; try (with_reducible rfl)
  refine wpAny_ready (rs := [0, 2]) (by kernel_rfl) (by simp) ?_
  refine AllReady.cons rfl (fun K hK => ?_) ?_
  · go_simp
    refine hK _ _ ?_
    clear hK K
    refine wpAny_ready (rs := [2]) (by kernel_rfl) (by simp) ?_
    refine AllReady.cons rfl (fun K hK => ?_) ?_
    · go_simp
      exact ⟨rfl, _, rfl, by repeat (first | with_reducible exact Below.refl _ _ | with_reducible refine Below.alloc ?_ (by simp; try omega) _ | with_reducible refine Below.drew ?_ | with_reducible refine below_drewN ?_ _)⟩
    exact AllReady.nil
  refine AllReady.cons rfl (fun K hK => ?_) ?_
  · go_simp
    exact ⟨rfl, _, rfl, by repeat (first | with_reducible exact Below.refl _ _ | with_reducible refine Below.alloc ?_ (by simp; try omega) _ | with_reducible refine Below.drew ?_ | with_reducible refine below_drewN ?_ _)⟩
  exact AllReady.nil
end Go.Proofs.YteeopjcbpngofaaGreat
/- Reply: what the laws' own helpers do with it. Written by gen/flat.py. -/
namespace Go.Proofs.YteeopjcbpngofaaGreat
set_option linter.unusedVariables false
open Go.RowKit
structure ReplyD where
  fCode : Int
  fValue : Int
  fText : List UInt8
  fWant : Int
  fHad : Int
deriving DecidableEq
def okReply (d : ReplyD) : Prop := (-9223372036854775808 ≤ d.fCode ∧ d.fCode ≤ 9223372036854775807) ∧ (-9223372036854775808 ≤ d.fValue ∧ d.fValue ≤ 9223372036854775807) ∧ (d.fText.length ≤ maxLen) ∧ (-9223372036854775808 ≤ d.fWant ∧ d.fWant ≤ 9223372036854775807) ∧ (-9223372036854775808 ≤ d.fHad ∧ d.fHad ≤ 9223372036854775807)
def vReply (d : ReplyD) : Value := .agg #[.int .i64 d.fCode, .int .i64 d.fValue, .string ⟨d.fText.toArray⟩, .int .i64 d.fWant, .int .i64 d.fHad]
def cReply (d : ReplyD) : List Value := [.int .i64 d.fCode, .int .i64 d.fValue, .string ⟨d.fText.toArray⟩, .int .i64 d.fWant, .int .i64 d.fHad]
theorem cReply_len (d : ReplyD) : (cReply d).length = 5 := rfl
theorem cReply_one (d : ReplyD) : ∀ u ∈ cReply d, u.oneCell' = true := by intro u hu; simp only [cReply, List.mem_cons, List.not_mem_nil, or_false] at hu; rcases hu with rfl | rfl | rfl | rfl | rfl <;> rfl
def zReply (d : ReplyD) : Nat := d.fText.length
theorem infoReply : (Tryz.prog.info? 76).map (fun i => (i.zero, i.size, i.bytes)) = some (some (.agg #[.int .i64 0, .int .i64 0, .string ⟨#[]⟩, .int .i64 0, .int .i64 0]), 5, 48) := by kernel_rfl
def marksReply (k : Int) (n : Nat) : List ReplyD := (List.range n).map fun i : Nat => ⟨k + i * 5, k + i * 5 + 1, markL (k + i * 5 + 1 + 1), k + i * 5 + 1 + 1 + 1, k + i * 5 + 1 + 1 + 1 + 1⟩
theorem marksReply_len (k : Int) (n : Nat) : (marksReply k n).length = n := by simp [marksReply]
theorem marksReply_get (k : Int) (n i : Nat) (h : i < n) : (marksReply k n)[i]'(by rw [marksReply_len]; exact h) = ⟨k + i * 5, k + i * 5 + 1, markL (k + i * 5 + 1 + 1), k + i * 5 + 1 + 1 + 1, k + i * 5 + 1 + 1 + 1 + 1⟩ := by simp [marksReply]
end Go.Proofs.YteeopjcbpngofaaGreat
/- wrapIn: its deferred function literal, and itself. -/
namespace Go.Proofs.YteeopjcbpngofaaGreat
set_option linter.unusedVariables false
set_option linter.unusedSimpArgs false
open Go.RowKit
/-- the literal's boxes: the layer at nl, what is inside at ni, what is outside at no, the reply at nr -/
structure BoxW (nl ni no nr b o : Nat) (k : List UInt8) (v : Value) (w : World) : Prop where
  l0 : w.cell? ⟨nl, 0, none⟩ = some (.pointer (some ⟨b, o, none⟩))
  n0 : w.cell? ⟨b, o, none⟩ = some (.string ⟨k.toArray⟩)
  i0 : w.cell? ⟨ni, 0, none⟩ = some v
  o0 : (w.cell? ⟨no, 0, none⟩).isSome = true
  oz : w.frozen? ⟨no, 0, none⟩ = false
  r : ∀ o, o < 5 → (w.cell? ⟨nr, o, none⟩).isSome = true
  z : ∀ o, o < 5 → w.frozen? ⟨nr, o, none⟩ = false
theorem some_lt {w : World} {n o : Nat} (h : (w.cell? ⟨n, o, none⟩).isSome = true) : n < w.heap.size := by
  obtain ⟨v, hv⟩ := Option.isSome_iff_exists.1 h
  exact World.block_lt_of_cell? w _ hv
theorem BoxW.below {nl ni no nr b o : Nat} {k : List UInt8} {v : Value} {w w' : World} (h : BoxW nl ni no nr b o k v w) (hb : Below w.heap.size w w') : BoxW nl ni no nr b o k v w' := by
  have hr := some_lt (h.r 0 (by decide))
  have ho := some_lt h.o0
  exact ⟨(hb.cell (p := ⟨nl, 0, none⟩) (World.block_lt_of_cell? w _ h.l0)).trans h.l0, (hb.cell (p := ⟨b, o, none⟩) (World.block_lt_of_cell? w _ h.n0)).trans h.n0, (hb.cell (p := ⟨ni, 0, none⟩) (World.block_lt_of_cell? w _ h.i0)).trans h.i0,
    by rw [hb.cell (p := ⟨no, 0, none⟩) ho]; exact h.o0, (hb.frozen (p := ⟨no, 0, none⟩) ho).trans h.oz, fun o ho => by rw [hb.cell (p := ⟨nr, o, none⟩) hr]; exact h.r o ho, fun o ho => (hb.frozen (p := ⟨nr, o, none⟩) hr).trans (h.z o ho)⟩
def putW (w : World) (no nr : Nat) (v : Value) (want had : Int) : World := (((((w.setCell ⟨no, 0, none⟩ v).setCell ⟨nr, 0, none⟩ (.int .i64 1)).setCell ⟨nr, 1, none⟩ (.int .i64 0)).setCell ⟨nr, 2, none⟩ (.string ⟨#[]⟩)).setCell ⟨nr, 3, none⟩ (.int .i64 want)).setCell ⟨nr, 4, none⟩ (.int .i64 had)
theorem catchW_idle (a1 a2 a3 a4 : Value) (w : World) :
    CallsD Tryz.prog 175 #[a1, a2, a3, a4] .returning w fun e u' w' => e = .returned (.tuple #[]) ∧ u' = .returning ∧ w' = w := by
  refine callsD_of_wpS Tryz.func175 rfl fun c₀ cs hu => ?_
  apply wpS_seq
  apply wpS_region
  simp [wpOpsS, go_sem, recoverD, hu, Tryz.ntmps175, Exit.thenS]
  refine wpS_cond (t := false) (by simp [Act.eval, Array.replicate]) ?_
  simp only [Bool.false_eq_true, if_false]
  refine wpS_of_wp (wp_skip ?_)
  cases c₀
  simp_all [bodyPostS, results, Tryz.results175]
set_option maxRecDepth 100000 in
set_option maxHeartbeats 1600000 in
theorem catchW (nl ni no nr b o : Nat) (k : List UInt8) (T : TypeId) (V : Value) (f : Int) (pv : Value) (w : World) (hf : FaceAt w T V f) (hb : BoxW nl ni no nr b o k (.iface T V) w) (hne : no ≠ nr) :
    CallsD Tryz.prog 175 #[.pointer (some ⟨nl, 0, none⟩), .pointer (some ⟨ni, 0, none⟩), .pointer (some ⟨no, 0, none⟩), .pointer (some ⟨nr, 0, none⟩)] (.panicking ({ v := .iface Tryz.prog.rt.typeAssertionError pv, recovered := false } :: [])) w fun e u' w' =>
      e = .returned (.tuple #[]) ∧ u' = .panicking ({ v := .iface Tryz.prog.rt.typeAssertionError pv, recovered := true } :: []) ∧ ∃ w1, Below w.heap.size w w1 ∧ w' = putW w1 no nr (.iface T V) (needI (layI k)) f := by
  have HX := Lib.hid hb
  have x0 := hb.l0
  have n0 := hb.n0
  have p0 := hb.i0
  have HW := Lib.hid (fun W => implLayerNeeds_any ⟨k.toArray⟩ W)
  simp only [List.toList_toArray, ndV] at HW
  obtain ⟨F, rcv, hF, hfm, hfn, HF0⟩ := hf
  have HF := Lib.hid HF0
  generalize needI (layI k) = want at *
  generalize decide (0 ≤ layI k) = q at *
  clear HF0 hb
  rcases hF with rfl | rfl
  all_goals
    refine callsD_of_wpS Tryz.func175 rfl fun c₀ cs hu => ?_
    apply wpS_seq
    apply wpS_region
    simp [wpOpsS, go_sem, recoverD, hu, Tryz.ntmps175, Exit.thenS]
    refine wpS_cond (t := true) (by simp [Act.eval, Array.replicate]) ?_
    simp only [if_true]
    refine wpS_of_wp ?_
    go_wp2_with (first | (go_at_call 143; (with_reducible refine (HW.out _).mono ?_); rintro e w' ⟨rfl, rfl⟩))
    go_region_with (first
      | ((with_reducible refine (HF.out _ (by repeat (first | with_reducible exact Below.refl _ _ | with_reducible refine bel_dr ?_))).mono ?_); rintro e w1 ⟨rfl, hb1⟩; have HB1 := Lib.hid (show Below w.heap.size w w1 from ⟨hb1.os, hb1.tape, hb1.output, hb1.size, hb1.block⟩); clear hb1; have KR := Lib.hid (HX.out.below HB1.out); have k0 := KR.out.i0; have yo := KR.out.oz; obtain ⟨eo, fo⟩ := Option.isSome_iff_exists.1 KR.out.o0; have y0 := KR.out.z 0 (by decide); have y1 := KR.out.z 1 (by decide); have y2 := KR.out.z 2 (by decide); have y3 := KR.out.z 3 (by decide); have y4 := KR.out.z 4 (by decide); obtain ⟨e0, f0⟩ := Option.isSome_iff_exists.1 (KR.out.r 0 (by decide)); obtain ⟨e1, f1⟩ := Option.isSome_iff_exists.1 (KR.out.r 1 (by decide)); obtain ⟨e2, f2⟩ := Option.isSome_iff_exists.1 (KR.out.r 2 (by decide)); obtain ⟨e3, f3⟩ := Option.isSome_iff_exists.1 (KR.out.r 3 (by decide)); obtain ⟨e4, f4⟩ := Option.isSome_iff_exists.1 (KR.out.r 4 (by decide))))
    all_goals
      refine ⟨rfl, _, rfl, .tuple #[], ?_, rfl, rfl, w1, HB1.out, rfl⟩
      simp [results, Tryz.results175, go_sem]
end Go.Proofs.YteeopjcbpngofaaGreat
/- wrapIn: what it answers. -/
namespace Go.Proofs.YteeopjcbpngofaaGreat
set_option linter.unusedVariables false
set_option linter.unusedSimpArgs false
open Go.RowKit
theorem bx_dr {w : World} {b : Nat} {cs : List Value} (h : Bx w b cs) : Bx w.drew b cs := ⟨h.lt, h.cell, h.froz⟩
/-- a region of a function with defers, which does not panic -/
def OnlyN (K : Act → World → Prop) : Exit → Act → World → Prop
  | .normal, a, w => K a w
  | _, _, _ => False
theorem wp_only {P : Program} {c : Code} {Q : Exit → Act → World → Prop} {a : Act} {w : World} (h : c.wp P (OnlyN (Q .normal)) a w) : c.wp P Q a w :=
  wp_mono h (fun e a w hh => by cases e <;> first | exact hh | exact hh.elim)
/-- what wrapIn answers: the wrapped part, or what came in -/
def WrapRes (b o i : Nat) (v : Value) (f : Int) (w : World) (e : Ending) (w' : World) : Prop :=
  Below w.heap.size w w' ∧ ((offersF f (needN i) = true ∧ e = .returned (.tuple #[wrapV b o v i, vReply ⟨0, giveN i, [], 0, 0⟩])) ∨ (offersF f (needN i) = false ∧ e = .returned (.tuple #[v, vReply ⟨1, 0, [], needN i, f⟩])))
set_option maxRecDepth 100000 in
set_option maxHeartbeats 1600000 in
theorem wrapIn_ok (b o i : Nat) (hi : i < 9) (T : TypeId) (V : Value) (f : Int) (w : World) (h : w.cell? ⟨b, o, none⟩ = some (.string ⟨(layN i).toArray⟩)) (ho : offersF f (needN i) = true)
    (hA : ∀ W, Below w.heap.size w W → Calls Tryz.prog 176 #[.iface T V, .pointer (some ⟨b, o, none⟩)] W fun e w' => e = .returned (wrapV b o (.iface T V) i) ∧ Below W.heap.size W w') :
    Calls Tryz.prog 145 #[.iface T V, .pointer (some ⟨b, o, none⟩)] w fun e w' => WrapRes b o i (.iface T V) f w e w' := by
  have hl0 := World.block_lt_of_cell? w _ h
  obtain ⟨T', V', hv, hF, _⟩ := iface_wrap (T := T) (V := V) i hi h
  unfold WrapRes
  rw [hv] at hA ⊢
  obtain ⟨F, rcv, hFF, hfm, hfn, hFC⟩ := hF
  have HF := Lib.hid hFC
  have HA := Lib.hid hA
  have HO := Lib.hid ho
  generalize giveN i = g at *
  clear h hA ho hv hFC
  have hmf : ∀ (fn : Fn) (first cap : Array Value) (w : World), (Instr.makeFunc fn first cap).run Tryz.prog w = .ok (.func fn first cap) w := fun _ _ _ _ => rfl
  have BX := Lib.hid (bx_start3 (w.alloc (.cells #[.iface T V] 168)) [.pointer (some ⟨b, o, none⟩)] [.nilIface] [.int .i64 0, .int .i64 0, .string ⟨#[]⟩, .int .i64 0, .int .i64 0] 173 168 76)
  have HB3 := Lib.hid (belS (part_box w (.cells #[.iface T V] 168)) BX.out.2.2.2)
  rw [show (w.alloc (.cells #[.iface T V] 168)).heap.size = w.heap.size + 1 by simp] at BX
  rcases hFF with rfl | rfl
  all_goals
    go_enter_defers Tryz.func145, Tryz.ntmps145
    go_wp2_with fail
    refine (HA.out _ HB3.out).mono ?_
    rintro e w1 ⟨rfl, hb⟩
    have HB1 := Lib.hid (belS HB3.out hb)
    have BO := Lib.hid (BX.out.2.1.below hb)
    have BR := Lib.hid (BX.out.2.2.1.below hb)
    clear hb HA
    have c0 := BO.out.cell 0 (by simp)
    simp only [List.getElem_cons_zero, List.getElem_cons_succ] at c0
    have z0 := BO.out.froz 0 (by simp)
    go_wp2_with fail
    have BO2 := Lib.hid (bx_dr (BO.out.set 0 (by simp) (.iface T' V')))
    have BR2 := Lib.hid (bx_dr (BR.out.other (c := w.heap.size + 1 + 1) (by omega) 0 (.iface T' V')))
    have HB2 := Lib.hid (bel_dr (HB1.out.setCell (p := ⟨w.heap.size + 1 + 1, 0, none⟩) (by simp; omega) (.iface T' V')))
    simp only [List.set_cons_zero] at BO2
    clear c0 z0
    have c0 := BO2.out.cell 0 (by simp)
    simp only [List.getElem_cons_zero, List.getElem_cons_succ] at c0
    have z0 := BO2.out.froz 0 (by simp)
    have r0 := BR2.out.cell 0 (by simp)
    have r1 := BR2.out.cell 1 (by simp)
    have r2 := BR2.out.cell 2 (by simp)
    have r3 := BR2.out.cell 3 (by simp)
    have r4 := BR2.out.cell 4 (by simp)
    simp only [List.getElem_cons_zero, List.getElem_cons_succ] at r0 r1 r2 r3 r4
    have y0 := BR2.out.froz 0 (by simp)
    have y1 := BR2.out.froz 1 (by simp)
    have y2 := BR2.out.froz 2 (by simp)
    have y3 := BR2.out.froz 3 (by simp)
    have y4 := BR2.out.froz 4 (by simp)
    refine wp_only ?_
    go_region_with (first
      | ((with_reducible refine (HF.out _ (by repeat (first | with_reducible exact HB1.out | refine bel_dr ?_ | refine Below.setCell ?_ (by simp; try omega) _))).mono ?_); rintro e w2 ⟨rfl, hb2⟩; have HB3 := Lib.hid (show Below w.heap.size w w2 from by first | exact belS HB2.out hb2 | exact belS (HB2.out.setCell (p := ⟨w.heap.size + 1 + 1, 0, none⟩) (by simp; omega) (.iface T' V')) hb2); have BO3 := Lib.hid (show Bx w2 (w.heap.size + 1 + 1) [.iface T' V'] from by first | exact BO2.out.below hb2 | exact (BO2.out.set 0 (by simp) (.iface T' V')).below hb2); have BR3 := Lib.hid (show Bx w2 (w.heap.size + 1 + 1 + 1) [.int .i64 0, .int .i64 0, .string ⟨#[]⟩, .int .i64 0, .int .i64 0] from by first | exact BR2.out.below hb2 | exact (BR2.out.other (c := w.heap.size + 1 + 1) (by omega) 0 (.iface T' V')).below hb2); have c3 := BO3.out.cell 0 (by simp); have z3 := BO3.out.froz 0 (by simp); have r3 := BR3.out.cell 0 (by simp); have r4 := BR3.out.cell 1 (by simp); have r5 := BR3.out.cell 2 (by simp); have r6 := BR3.out.cell 3 (by simp); have r7 := BR3.out.cell 4 (by simp); have y5 := BR3.out.froz 0 (by simp); have y6 := BR3.out.froz 1 (by simp); have y7 := BR3.out.froz 2 (by simp); have y8 := BR3.out.froz 3 (by simp); have y9 := BR3.out.froz 4 (by simp); simp only [List.getElem_cons_zero, List.getElem_cons_succ] at c3 r3 r4 r5 r6 r7))
    all_goals unfold OnlyN
    all_goals go_wp2_with fail
    all_goals
      change Leaves _ _ _ _ _ _ _
      refine leaves_cons (f := 175) (args := #[.pointer (some ⟨w.heap.size + 1, 0, none⟩), .pointer (some ⟨w.heap.size, 0, none⟩), .pointer (some ⟨w.heap.size + 1 + 1, 0, none⟩), .pointer (some ⟨w.heap.size + 1 + 1 + 1, 0, none⟩)]) (by simp) (by simp [go_sem]) ?_
      refine (catchW_idle _ _ _ _ _).mono ?_
      rintro e u' w'' ⟨rfl, rfl, rfl⟩
      simp [Leaves, settle, results, Tryz.results145, go_sem, cell_set_at, cell_set_ne, c3, r3, r4, r5, r6, r7]
      refine ⟨?_, Or.inl ⟨HO.out, rfl⟩⟩
      repeat (first | with_reducible exact HB3.out | refine Below.setCell ?_ (by simp; try omega) _)
end Go.Proofs.YteeopjcbpngofaaGreat
/- wrapIn: where the assertion is not met; wrapIn whole; wholePart. -/
namespace Go.Proofs.YteeopjcbpngofaaGreat
set_option linter.unusedVariables false
set_option linter.unusedSimpArgs false
open Go.RowKit
set_option maxRecDepth 100000 in
set_option maxHeartbeats 1600000 in
theorem wrapIn_fail (b o i : Nat) (hi : i < 9) (T : TypeId) (V : Value) (f : Int) (w : World) (h : w.cell? ⟨b, o, none⟩ = some (.string ⟨(layN i).toArray⟩)) (ho : offersF f (needN i) = false) (hF : FaceAt w T V f)
    (hA : ∀ W, Below w.heap.size w W → Calls Tryz.prog 176 #[.iface T V, .pointer (some ⟨b, o, none⟩)] W fun e w' => Panics W e w') :
    Calls Tryz.prog 145 #[.iface T V, .pointer (some ⟨b, o, none⟩)] w fun e w' => WrapRes b o i (.iface T V) f w e w' := by
  have hl0 := World.block_lt_of_cell? w _ h
  simp only at hl0
  unfold WrapRes
  have HX := Lib.hid h
  have HF := Lib.hid hF
  have HA := Lib.hid hA
  have HO := Lib.hid ho
  have HN := Lib.hid (show needI (layI (layN i)) = needN i from by
    rcases (show i = 0 ∨ i = 1 ∨ i = 2 ∨ i = 3 ∨ i = 4 ∨ i = 5 ∨ i = 6 ∨ i = 7 ∨ i = 8 by omega) with rfl | rfl | rfl | rfl | rfl | rfl | rfl | rfl | rfl <;> decide +kernel)
  clear h hA ho hF
  have hmf : ∀ (fn : Fn) (first cap : Array Value) (w : World), (Instr.makeFunc fn first cap).run Tryz.prog w = .ok (.func fn first cap) w := fun _ _ _ _ => rfl
  have BI := Lib.hid (Bx.new w [.iface T V] 168)
  have BX := Lib.hid (bx_start3 (w.alloc (.cells #[.iface T V] 168)) [.pointer (some ⟨b, o, none⟩)] [.nilIface] [.int .i64 0, .int .i64 0, .string ⟨#[]⟩, .int .i64 0, .int .i64 0] 173 168 76)
  have HB3 := Lib.hid (belS (part_box w (.cells #[.iface T V] 168)) BX.out.2.2.2)
  have BI2 := Lib.hid (BI.out.below BX.out.2.2.2)
  rw [show (w.alloc (.cells #[.iface T V] 168)).heap.size = w.heap.size + 1 by simp] at BX
  go_enter_defers Tryz.func145, Tryz.ntmps145
  go_wp2_with fail
  refine (HA.out _ HB3.out).mono ?_
  rintro e w1 ⟨pv, rfl, hb⟩
  have HB1 := Lib.hid (belS HB3.out hb)
  have BI3 := Lib.hid (BI2.out.below hb)
  have BL := Lib.hid (BX.out.1.below hb)
  have BO := Lib.hid (BX.out.2.1.below hb)
  have BR := Lib.hid (BX.out.2.2.1.below hb)
  clear hb HA
  have HBW := Lib.hid (show BoxW (w.heap.size + 1) w.heap.size (w.heap.size + 1 + 1) (w.heap.size + 1 + 1 + 1) b o (layN i) (.iface T V) w1 from
    ⟨BL.out.cell 0 (by simp), (HB1.out.cell (p := ⟨b, o, none⟩) hl0).trans HX.out, BI3.out.cell 0 (by simp), by rw [BO.out.cell 0 (by simp)]; rfl, BO.out.froz 0 (by simp),
      fun j hj => by rw [BR.out.cell j (by simpa using hj)]; rfl, fun j hj => BR.out.froz j (by simpa using hj)⟩)
  clear BI BI2 BI3 BL BO BR BX HX
  refine leaves_cons (f := 175) (args := #[.pointer (some ⟨w.heap.size + 1, 0, none⟩), .pointer (some ⟨w.heap.size, 0, none⟩), .pointer (some ⟨w.heap.size + 1 + 1, 0, none⟩), .pointer (some ⟨w.heap.size + 1 + 1 + 1, 0, none⟩)]) (by simp) (by simp [go_sem]) ?_
  refine (catchW _ _ _ _ b o (layN i) T V f pv _ (HF.out.below HB1.out) HBW.out (by omega)).mono ?_
  rintro e u' w'' ⟨rfl, rfl, w2, hb2, rfl⟩
  have HB2 := Lib.hid (belS HB1.out hb2)
  have KR := Lib.hid (HBW.out.below hb2)
  obtain ⟨eo, fo⟩ := Option.isSome_iff_exists.1 KR.out.o0
  obtain ⟨e0, f0⟩ := Option.isSome_iff_exists.1 (KR.out.r 0 (by decide))
  obtain ⟨e1, f1⟩ := Option.isSome_iff_exists.1 (KR.out.r 1 (by decide))
  obtain ⟨e2, f2⟩ := Option.isSome_iff_exists.1 (KR.out.r 2 (by decide))
  obtain ⟨e3, f3⟩ := Option.isSome_iff_exists.1 (KR.out.r 3 (by decide))
  obtain ⟨e4, f4⟩ := Option.isSome_iff_exists.1 (KR.out.r 4 (by decide))
  rw [HN.out]
  unfold putW vReply
  generalize needN i = want at *
  clear hb2 HBW KR
  simp [Leaves, settle, results, Tryz.results145, go_sem, cell_set_at, cell_set_ne, bx_set_ne, fo, f0, f1, f2, f3, f4]
  refine ⟨?_, HO.out⟩
  repeat (first | with_reducible exact HB2.out | refine Below.setCell ?_ (by simp; try omega) _)
theorem wrapIn_c (b o i : Nat) (hi : i < 9) (v : Value) (f : Int) (w : World) (h : w.cell? ⟨b, o, none⟩ = some (.string ⟨(layN i).toArray⟩)) (hv : IfaceAt w v f) :
    Calls Tryz.prog 145 #[v, .pointer (some ⟨b, o, none⟩)] w fun e w' => WrapRes b o i v f w e w' := by
  obtain ⟨T, V, rfl, hF, hA⟩ := hv
  have hl0 := World.block_lt_of_cell? w _ h
  have hW : ∀ W, Below w.heap.size w W → W.cell? ⟨b, o, none⟩ = some (.string ⟨(layN i).toArray⟩) := fun W hb => (hb.cell (p := ⟨b, o, none⟩) hl0).trans h
  obtain ⟨hf, hr, hk, ht, hbo⟩ := hA
  have h0 : offersF f 0 = true := by
    obtain ⟨F, rfl⟩ := isF_fin hf
    exact (off_bits F).1
  rcases (show i = 0 ∨ i = 1 ∨ i = 2 ∨ i = 3 ∨ i = 4 ∨ i = 5 ∨ i = 6 ∨ i = 7 ∨ i = 8 by omega) with rfl | rfl | rfl | rfl | rfl | rfl | rfl | rfl | rfl
  · exact wrapIn_ok b o 0 (by decide) T V f w h h0 (fun W hb => aw_0 b o T V W (hW W hb))
  · cases hq : offersF f 1 with
    | true => rw [hq] at hr; exact wrapIn_ok b o 1 (by decide) T V f w h hq (fun W hb => aw_1 b o T V W (hW W hb) hr)
    | false => rw [hq] at hr; exact wrapIn_fail b o 1 (by decide) T V f w h hq hF (fun W hb => awp_1 b o T V W (hW W hb) hr)
  · cases hq : offersF f 2 with
    | true => rw [hq] at hk; exact wrapIn_ok b o 2 (by decide) T V f w h hq (fun W hb => aw_2 b o T V W (hW W hb) hk)
    | false => rw [hq] at hk; exact wrapIn_fail b o 2 (by decide) T V f w h hq hF (fun W hb => awp_2 b o T V W (hW W hb) hk)
  · cases hq : offersF f 2 with
    | true => rw [hq] at hk; exact wrapIn_ok b o 3 (by decide) T V f w h hq (fun W hb => aw_3 b o T V W (hW W hb) hk)
    | false => rw [hq] at hk; exact wrapIn_fail b o 3 (by decide) T V f w h hq hF (fun W hb => awp_3 b o T V W (hW W hb) hk)
  · cases hq : offersF f 3 with
    | true => rw [hq] at hbo; exact wrapIn_ok b o 4 (by decide) T V f w h hq (fun W hb => aw_4 b o T V W (hW W hb) hbo)
    | false => rw [hq] at hbo; exact wrapIn_fail b o 4 (by decide) T V f w h hq hF (fun W hb => awp_4 b o T V W (hW W hb) hbo)
  · cases hq : offersF f 2 with
    | true => rw [hq] at hk; exact wrapIn_ok b o 5 (by decide) T V f w h hq (fun W hb => aw_5 b o T V W (hW W hb) hk)
    | false => rw [hq] at hk; exact wrapIn_fail b o 5 (by decide) T V f w h hq hF (fun W hb => awp_5 b o T V W (hW W hb) hk)
  · cases hq : offersF f 1 with
    | true => rw [hq] at hr; exact wrapIn_ok b o 6 (by decide) T V f w h hq (fun W hb => aw_6 b o T V W (hW W hb) hr)
    | false => rw [hq] at hr; exact wrapIn_fail b o 6 (by decide) T V f w h hq hF (fun W hb => awp_6 b o T V W (hW W hb) hr)
  · cases hq : offersF f 1 with
    | true => rw [hq] at hr; exact wrapIn_ok b o 7 (by decide) T V f w h hq (fun W hb => aw_7 b o T V W (hW W hb) hr)
    | false => rw [hq] at hr; exact wrapIn_fail b o 7 (by decide) T V f w h hq hF (fun W hb => awp_7 b o T V W (hW W hb) hr)
  · cases hq : offersF f 4 with
    | true => rw [hq] at ht; exact wrapIn_ok b o 8 (by decide) T V f w h hq (fun W hb => aw_8 b o T V W (hW W hb) ht)
    | false => rw [hq] at ht; exact wrapIn_fail b o 8 (by decide) T V f w h hq hF (fun W hb => awp_8 b o T V W (hW W hb) ht)
end Go.Proofs.YteeopjcbpngofaaGreat
/- wholePart: a valid part with all its adapters, as a value of an interface type. -/
namespace Go.Proofs.YteeopjcbpngofaaGreat
set_option linter.unusedVariables false
set_option linter.unusedSimpArgs false
open Go.RowKit
theorem partB_lay {x : PartD} (h : partB x = true) (k : Nat) (hk : k < x.fLayers.length) : layOk x k = true := by
  cases hq : layOk x k with
  | true => rfl
  | false => rw [partB_bad hk hq] at h; cases h
theorem partB_core {x : PartD} (h : partB x = true) : coreB x.fCore = true := by
  simp only [partB, Bool.and_eq_true] at h; exact h.1.1
theorem partB_len {x : PartD} (h : partB x = true) : x.fLayers.length ≤ 3 := by
  simp only [partB, Bool.and_eq_true, decide_eq_true_iff] at h; exact h.1.2
theorem coreB_kindP {d : CoreD} (h : coreB d = true) : ∃ j : Nat, kindI d.fKind = j ∧ j < 8 ∧ kindN j = d.fKind := by
  have h0 : 0 ≤ kindI d.fKind := by
    simp only [coreB, Bool.and_eq_true, decide_eq_true_iff] at h; exact h.1.1.1.1.1
  rcases kindI_bd d.fKind with h1 | h1
  · omega
  · exact h1
theorem faceN_succ (x : PartD) (k : Nat) (hk : k < x.fLayers.length) : faceN x (k + 1) = giveI (layI (x.fLayers[k]).fName) := by
  show giveI (layI (x.fLayers.getD k default).fName) = _
  rw [List.getD_eq_getElem?_getD, List.getElem?_eq_getElem hk]; rfl
/-- the face and the assertions of a valid part with its first layers -/
def Whole (x : PartD) (k : Nat) (w : World) (v : Value) : Prop := IfaceAt w v (faceN x k)
set_option maxRecDepth 100000 in
set_option maxHeartbeats 3200000 in
theorem wholePart_c (b0 : Nat) (cs : List Value) (x : PartD) (w : World) (hx : rPart 0 w cs x) (hb : Bx w b0 cs) (hp : partB x = true) :
    Calls Tryz.prog 146 #[.pointer (some ⟨b0, 0, none⟩)] w fun e w' => ∃ v, e = .returned v ∧ IfaceAt w' v (faceP x) ∧ Below w.heap.size w w' := by
  have HLK := Lib.hid (fun k hk => partB_lay hp k hk)
  have HOK := Lib.hid (fun i h y hy => layOk_of x i h y hy)
  have HFS := Lib.hid (faceN_succ x)
  have HFP := Lib.hid (show faceP x = faceN x x.fLayers.length from rfl)
  obtain ⟨j, hj1, hj2, hj3⟩ := coreB_kindP (partB_core hp)
  have H0 := Lib.hid (show faceN x 0 = kfN j by unfold faceN kfI; rw [hj1, if_neg (by omega)]; rfl)
  obtain ⟨xc, ls⟩ := x
  obtain ⟨v3, v5, rfl, h3, h5⟩ := hx
  simp only at h3 h5 hj3 HLK HOK HFS HFP
  obtain ⟨sa, sc, rfl, hl, hcap⟩ := sliceAt_cap h5
  have H5 := Lib.hid h5
  have BX := Lib.hid hb
  have HK := Lib.hid (show w.cell? ⟨b0, 0, none⟩ = some (.string ⟨(kindN j).toArray⟩) by have h := hb.cell 0 (by simp); rw [hj3]; exact h)
  have HPO := Lib.hid (partOf_k j hj2 b0 w HK.out)
  unfold maxLen at hl
  clear h3 h5 hp hj1 hj3 hb
  go_enter Tryz.func146, Tryz.ntmps146
  go_wp2_with fail
  refine HPO.out.mono ?_
  rintro e w1 ⟨rfl, hb⟩
  have HB1 := Lib.hid hb
  have BX1 := Lib.hid (BX.out.below hb)
  have HI := Lib.hid (show IfaceAt w1 (partV b0 j) (faceN ⟨xc, ls⟩ 0) by rw [H0.out]; exact iface_kind j hj2 ((hb.cell (p := ⟨b0, 0, none⟩) BX.out.lt).trans HK.out))
  generalize partV b0 j = pv at *
  clear hb
  have e5 := BX1.out.cell 5 (by simp)
  simp only [List.getElem_cons_zero, List.getElem_cons_succ] at e5
  go_wp2_with fail
  clear e5
  go_loopw [3, 4, 14] (fun u3 _ i wr => ∃ k : Nat, k ≤ ls.length ∧ i = .int .i64 k ∧ Whole ⟨xc, ls⟩ k wr u3 ∧ Below w.heap.size w wr) (fun _ _ i _ => ls.length - (intOf i).toNat)
  case atStart => exact ⟨0, Nat.zero_le _, rfl, HI.out, HB1.out⟩
  case round =>
    obtain ⟨k, hk, rfl, ht, hbr⟩ := hrel
    have HT := Lib.hid ht
    have HBr := Lib.hid hbr
    have BXr := Lib.hid (BX.out.below hbr)
    have HXr := Lib.hid (SliceAt.below H5.out (good_flat cLayer_len) hbr (Nat.le_refl _))
    clear ht hbr
    by_cases hlt : k < ls.length
    · obtain ⟨b, o, cs, rfl, hbw, hat, hd⟩ := sliceAt_cell HXr.out k hlt
      have HO1 := Lib.hid (HLK.out k hlt)
      have HO2 := Lib.hid (HOK.out k hlt _ rfl)
      have HF1 := Lib.hid (HFS.out k hlt)
      have d0 := hd 0 (by decide)
      generalize ls[k] = z at *
      obtain ⟨z0, z1⟩ := z
      simp only [rFlat, cLayer] at hat HO2 HF1
      subst hat
      simp only [List.getElem?_cons_zero, Nat.add_zero] at d0
      have hh := HO1.out
      rw [HO2.out] at hh
      simp only [Bool.and_eq_true, decide_eq_true_iff] at hh
      obtain ⟨⟨hh1, hh2⟩, _⟩ := hh
      obtain ⟨q, hq1, hq2, hq3⟩ : ∃ q : Nat, layI z0 = q ∧ q < 9 ∧ layN q = z0 := by
        rcases layI_bd z0 with h1 | h1
        · omega
        · exact h1
      subst hq3
      have hn : needI (layI (layN q)) = needN q := by rw [hq1]; unfold needI; rw [if_neg (by omega)]; rfl
      have hg : giveI (layI (layN q)) = giveN q := by rw [hq1]; unfold giveI; rw [if_neg (by omega)]; rfl
      have HW := Lib.hid (wrapIn_c b (o + k * 2) q hq2 u3 (faceN ⟨xc, ls⟩ k) wr d0 HT.out)
      have HOF := Lib.hid (show offersF (faceN ⟨xc, ls⟩ k) (needN q) = true by rw [← hn]; exact hh2)
      have HGV := Lib.hid (show faceN ⟨xc, ls⟩ (k + 1) = giveN q by rw [HF1.out, hg])
      have D0 := Lib.hid d0
      have hkc : (k : Int) < (ls.length : Int) := by omega
      have e5 := BXr.out.cell 5 (by simp)
      simp only [List.getElem_cons_zero, List.getElem_cons_succ] at e5
      obtain ⟨T, V, hu, hu2⟩ := HT.out
      have HU := Lib.hid hu
      clear hd HXr hh1 hh2 hq1 hn hg d0 HO1 HO2 HF1 HLK HOK HFS hu hu2
      go_wp2_with fail
      refine HW.out.mono ?_
      rintro e w2 ⟨hb2, hres⟩
      obtain rfl : e = .returned (.tuple #[wrapV b (o + k * 2) u3 q, vReply ⟨0, giveN q, [], 0, 0⟩]) := by
        rcases hres with ⟨_, h⟩ | ⟨h, _⟩
        · exact h
        · rw [HOF.out] at h; cases h
      have HB2 := Lib.hid (belS HBr.out hb2)
      have HWW := Lib.hid (show Whole ⟨xc, ls⟩ (k + 1) w2 (wrapV b (o + k * 2) u3 q) by
        unfold Whole
        rw [HGV.out, HU.out]
        exact iface_wrap q hq2 ((hb2.cell (p := ⟨b, o + k * 2, none⟩) hbw).trans D0.out))
      generalize wrapV b (o + k * 2) u3 q = nv at *
      unfold vReply
      clear hb2 hres e5
      go_wp2_with fail
      exact ⟨⟨k + 1, by omega, by go_num, HWW.out, HB2.out⟩, by simp [intOf]; omega⟩
    · have HR := Lib.hid (show IfaceAt wr u3 (faceP ⟨xc, ls⟩) by rw [HFP.out]; have h := HT.out; rwa [show k = ls.length by omega] at h)
      go_wp2
      go_ret
      exact ⟨u3, rfl, HR.out, HBr.out⟩
end Go.Proofs.YteeopjcbpngofaaGreat
/- Wrapping in plain words; results of a part and a reply. -/
namespace Go.Proofs.YteeopjcbpngofaaGreat
set_option linter.unusedVariables false
set_option linter.unusedSimpArgs false
open Go.RowKit
theorem Bx.put5 {w : World} {b : Nat} {c0 c1 c2 c3 c4 : Value} (h : Bx w b [c0, c1, c2, c3, c4]) (u0 u1 u2 u3 u4 : Value) :
    Bx (((((w.setCell ⟨b, 0, none⟩ u0).setCell ⟨b, 1, none⟩ u1).setCell ⟨b, 2, none⟩ u2).setCell ⟨b, 3, none⟩ u3).setCell ⟨b, 4, none⟩ u4) b [u0, u1, u2, u3, u4] :=
  (((((h.set 0 (by simp) u0).set 1 (by simp) u1).set 2 (by simp) u2).set 3 (by simp) u3).set 4 (by simp) u4)
theorem Bx.put5o {w : World} {b c : Nat} {cs : List Value} (h : Bx w b cs) (hne : b ≠ c) (u0 u1 u2 u3 u4 : Value) :
    Bx (((((w.setCell ⟨c, 0, none⟩ u0).setCell ⟨c, 1, none⟩ u1).setCell ⟨c, 2, none⟩ u2).setCell ⟨c, 3, none⟩ u3).setCell ⟨c, 4, none⟩ u4) b cs :=
  (((((h.other hne 0 u0).other hne 1 u1).other hne 2 u2).other hne 3 u3).other hne 4 u4)
theorem Bx.put6o {w : World} {b c : Nat} {cs : List Value} (h : Bx w b cs) (hne : b ≠ c) (u0 u1 u2 u3 u4 u5 : Value) :
    Bx ((((((w.setCell ⟨c, 0, none⟩ u0).setCell ⟨c, 1, none⟩ u1).setCell ⟨c, 2, none⟩ u2).setCell ⟨c, 3, none⟩ u3).setCell ⟨c, 4, none⟩ u4).setCell ⟨c, 5, none⟩ u5) b cs :=
  ((((((h.other hne 0 u0).other hne 1 u1).other hne 2 u2).other hne 3 u3).other hne 4 u4).other hne 5 u5)
theorem below_put5 {B : Nat} {a w : World} (h : Below B a w) (b : Nat) (hb : B ≤ b) (u0 u1 u2 u3 u4 : Value) :
    Below B a (((((w.setCell ⟨b, 0, none⟩ u0).setCell ⟨b, 1, none⟩ u1).setCell ⟨b, 2, none⟩ u2).setCell ⟨b, 3, none⟩ u3).setCell ⟨b, 4, none⟩ u4) :=
  (((((h.setCell (p := ⟨b, 0, none⟩) hb u0).setCell (p := ⟨b, 1, none⟩) hb u1).setCell (p := ⟨b, 2, none⟩) hb u2).setCell (p := ⟨b, 3, none⟩) hb u3).setCell (p := ⟨b, 4, none⟩) hb u4)
theorem ownsF_put5 {α : Type} {f : α → List Value} {E k : Nat} {w : World} {B : Nat} {v : Value} {l : List α} (h : OwnsF f E k w B v l) (b : Nat) (hb : b < B) (u0 u1 u2 u3 u4 : Value) :
    OwnsF f E k (((((w.setCell ⟨b, 0, none⟩ u0).setCell ⟨b, 1, none⟩ u1).setCell ⟨b, 2, none⟩ u2).setCell ⟨b, 3, none⟩ u3).setCell ⟨b, 4, none⟩ u4) B v l :=
  ownsF_set (ownsF_set (ownsF_set (ownsF_set (ownsF_set h hb) hb) hb) hb) hb
/-- the code of Wrap's reply -/
def wrapI (x : PartD) (s : List UInt8) : Int :=
  if partB x = true ∧ 0 ≤ layI s then (if x.fLayers.length = 3 then 5 else if offersF (faceP x) (needI (layI s)) = true then 0 else 1) else 7
def wrapP (x : PartD) (s : List UInt8) : PartD := if wrapI x s = 0 then ⟨x.fCore, x.fLayers ++ [⟨s, 0⟩]⟩ else x
def wrapR (x : PartD) (s : List UInt8) : ReplyD := ⟨wrapI x s, if wrapI x s = 0 then giveI (layI s) else 0, [], if wrapI x s = 1 then needI (layI s) else 0, if wrapI x s = 1 then faceP x else 0⟩
def GivesOPR (x : PartD) (r : ReplyD) (w : World) (e : Ending) (w' : World) : Prop := ∃ cs, e = .returned (.tuple #[.agg cs.toArray, vReply r]) ∧ oPart w' w.heap.size cs x ∧ Below w.heap.size w w'
def GivesPR (x : PartD) (r : ReplyD) (w : World) (e : Ending) (w' : World) : Prop := ∃ cs, e = .returned (.tuple #[.agg cs.toArray, vReply r]) ∧ rPart w.heap.size w' cs x ∧ Below w.heap.size w w'
theorem givesPR_of {x : PartD} {r : ReplyD} {w w' : World} {e : Ending} (h : GivesOPR x r w e w') (hs : SmallP x) : GivesPR x r w e w' := by
  obtain ⟨cs, h1, h2, h3⟩ := h
  exact ⟨cs, h1, oPart_r h2 hs, h3⟩
theorem wrap_bad {x : PartD} {s : List UInt8} (h : ¬ (partB x = true ∧ 0 ≤ layI s)) : wrapP x s = x ∧ wrapR x s = ⟨7, 0, [], 0, 0⟩ := by
  have hi : wrapI x s = 7 := if_neg h
  unfold wrapP wrapR; rw [hi]; exact ⟨rfl, rfl⟩
theorem wrap_full {x : PartD} {s : List UInt8} (h : partB x = true ∧ 0 ≤ layI s) (h3 : x.fLayers.length = 3) : wrapP x s = x ∧ wrapR x s = ⟨5, 0, [], 0, 0⟩ := by
  have hi : wrapI x s = 5 := by unfold wrapI; rw [if_pos h, if_pos h3]
  unfold wrapP wrapR; rw [hi]; exact ⟨rfl, rfl⟩
theorem wrap_ok {x : PartD} {s : List UInt8} (h : partB x = true ∧ 0 ≤ layI s) (h3 : ¬ x.fLayers.length = 3) (ho : offersF (faceP x) (needI (layI s)) = true) : wrapP x s = ⟨x.fCore, x.fLayers ++ [⟨s, 0⟩]⟩ ∧ wrapR x s = ⟨0, giveI (layI s), [], 0, 0⟩ := by
  have hi : wrapI x s = 0 := by unfold wrapI; rw [if_pos h, if_neg h3, if_pos ho]
  unfold wrapP wrapR; rw [hi]; exact ⟨rfl, rfl⟩
theorem wrap_fail {x : PartD} {s : List UInt8} (h : partB x = true ∧ 0 ≤ layI s) (h3 : ¬ x.fLayers.length = 3) (ho : offersF (faceP x) (needI (layI s)) = false) : wrapP x s = x ∧ wrapR x s = ⟨1, 0, [], needI (layI s), faceP x⟩ := by
  have hi : wrapI x s = 1 := by unfold wrapI; rw [if_pos h, if_neg h3, if_neg (by simp [ho])]
  unfold wrapP wrapR; rw [hi]; exact ⟨rfl, rfl⟩
theorem sumF_le {α : Type} (f : α → Nat) (b : Nat) (l : List α) (h : ∀ a ∈ l, f a ≤ b) : sumF f l ≤ l.length * b := by
  induction l with
  | nil => simp [sumF]
  | cons x r ih =>
    have h1 := ih (fun a ha => h a (List.mem_cons_of_mem _ ha))
    have h2 := h x (List.mem_cons_self ..)
    simp only [sumF, List.length_cons, Nat.add_mul, Nat.one_mul]; omega
theorem layN_len (k : Nat) : (layN k).length ≤ 6 := by unfold layN; split <;> decide
theorem kindN_len (k : Nat) : (kindN k).length ≤ 6 := by unfold kindN; split <;> decide
theorem partB_small {x : PartD} (h : partB x = true) : zPart x ≤ 100 := by
  have hc := partB_core h
  have hl := partB_len h
  obtain ⟨j, _, _, hj⟩ := coreB_kindP hc
  have h1 : x.fCore.fKind.length ≤ 6 := by rw [← hj]; exact kindN_len j
  have hcb : cellsB x.fCore.fCells = true := by simp only [coreB, Bool.and_eq_true] at hc; exact hc.1.1.1.1.2
  have h2 := cellsB_len hcb
  have h3 := sumF_le zCell 8 x.fCore.fCells (fun c hc => by have h9 := (cellsB_mem hcb c hc).1; simp only [nameB, Bool.and_eq_true, decide_eq_true_iff] at h9; exact h9.1.1.2)
  have h4 := sumF_le zLayer 6 x.fLayers (fun y hy => by
    obtain ⟨i, hi, rfl⟩ := List.mem_iff_getElem.1 hy
    have h5 := partB_lay h i hi
    rw [layOk_of x i hi _ rfl] at h5
    simp only [Bool.and_eq_true, decide_eq_true_iff] at h5
    rcases layI_bd (x.fLayers[i]).fName with h6 | ⟨q, _, _, h7⟩
    · omega
    · show (x.fLayers[i]).fName.length ≤ 6
      rw [← h7]; exact layN_len q)
  have h5 : x.fCore.fCells.length * 8 ≤ 32 := by omega
  unfold zPart zCore
  omega
theorem wrapP_small {x : PartD} (hs : SmallP x) (s : List UInt8) : SmallP (wrapP x s) := by
  by_cases h : wrapI x s = 0
  · have h1 : partB x = true ∧ 0 ≤ layI s := by
      by_cases h1 : partB x = true ∧ 0 ≤ layI s
      · exact h1
      · rw [wrapI, if_neg h1] at h; cases h
    have h2 := partB_small h1.1
    have h3 : s.length ≤ 6 := by
      rcases layI_bd s with h6 | ⟨q, _, _, h7⟩
      · omega
      · rw [← h7]; exact layN_len q
    have h4 : ∀ (a : List LayerD), sumF zLayer (a ++ [⟨s, 0⟩]) = sumF zLayer a + s.length := by
      intro a
      induction a with
      | nil => simp [sumF, zLayer]
      | cons y r ih => simp only [List.cons_append, sumF, ih]; omega
    unfold wrapP
    rw [if_pos h]
    refine smallP_of ?_
    unfold zPart zCore at h2 ⊢
    simp only [h4, List.length_append, List.length_cons, List.length_nil]
    omega
  · unfold wrapP; rw [if_neg h]; exact hs
theorem append_lay {ops : Array Oper} {rest : List Oper} {o : Oper} {a : Act} {Q : Exit → Act → World → Prop} (hgd : o.guard = none) (s x : Operand)
    (ho : o.op = .call { callee := .builtin .append, args := #[s, x], argTypes := #[72, 72] }) (B : Nat) (v : Value) (l : List LayerD) (y : LayerD) (w : World) (blk : Nat)
    (hs : a.eval s = v) (hO : OwnsF cLayer 137 2 w B v l) (hx : a.eval x = .slice (some ⟨blk, 0, none⟩) 1 1) (hc : ∀ j, j < 2 → w.cell? ⟨blk, j, none⟩ = (cLayer y)[j]?) (hl : l.length ≤ 4194304) (hB : B ≤ w.heap.size)
    (h : ∀ v' w', OwnsF cLayer 137 2 w' B v' (l ++ [y]) → w.grownBy w' v.ownBlock → wpList Tryz.prog ops Q rest (a.put o.dst v') w') : wpList Tryz.prog ops Q (o :: rest) a w :=
  append_flat cLayer_len cLayer_one infoLay rfl (by decide) (by decide) Tryz.underlying72 hgd s x ho B v l y w blk hs hO hx hc hl hB h
theorem ownsF_setNe {α : Type} {f : α → List Value} {E k : Nat} {w : World} {B : Nat} {v : Value} {l : List α} {p : Addr} {u : Value} (h : OwnsF f E k w B v l) (hp : v.ownBlock ≠ some p.block) : OwnsF f E k (w.setCell p u) B v l :=
  World.ownsRow.kept h (row := some p.block) ⟨rfl, rfl, rfl, by simp, fun i hi hne => Below.heap_setCell w p u i (fun e => hne (by rw [e]))⟩ (Or.inr hp)
theorem slice_lenW {α : Type} {f : α → List Value} {E k : Nat} {w : World} {B m : Nat} {v : Value} {l : List α} (h : OwnsF f E k w B v l) (hm : l.length = m) : ∃ a c, v = .slice a m c := by
  subst hm; exact slice_of h
theorem lay_not_bool {w : World} {N b : Nat} {v : Value} {l : List LayerD} {x : Bool} (h : OwnsF cLayer 137 2 w N v l) (hl : 0 < l.length) (hb : w.cell? ⟨b, 1, none⟩ = some (.bool x)) : v.ownBlock ≠ some b := by
  rcases h.2 with ⟨rfl, _⟩ | ⟨g, cap, cur, rfl, _⟩
  · simp [Value.ownBlock]
  · intro e
    simp [Value.ownBlock] at e
    subst e
    have h1 := World.ownsRow.cellAt h 1 (by omega)
    rw [hb] at h1
    cases l with
    | nil => simp at hl
    | cons d r => simp [cLayer] at h1
end Go.Proofs.YteeopjcbpngofaaGreat
/- Contracts of chapter 3: NewCore, the program's and the model's. -/
namespace Go.Proofs.YteeopjcbpngofaaGreat
set_option linter.unusedVariables false
open Go.RowKit
def newCoreD (k : List UInt8) : CoreD := if 0 ≤ kindI k then ⟨k, false, false, [], 0⟩ else ⟨[], false, false, [], 0⟩
def GivesNew (k : List UInt8) (w : World) (e : Ending) (w' : World) : Prop := ∃ v, e = .returned (.tuple #[v, .bool (decide (0 ≤ kindI k))]) ∧ OwnsCore w' w.heap.size v (newCoreD k) ∧ Below w.heap.size w w'
theorem owns_zero (w : World) (B : Nat) (k : List UInt8) : OwnsCore w B (.agg #[.string ⟨k.toArray⟩, .bool false, .bool false, .slice none 0 0, .int .i64 0]) ⟨k, false, false, [], 0⟩ :=
  ⟨.slice none 0 0, rfl, rfl, Or.inl ⟨rfl, rfl⟩⟩
theorem newCoreD_yes {k : List UInt8} (h : decide (0 ≤ kindI k) = true) : newCoreD k = ⟨k, false, false, [], 0⟩ := if_pos (of_decide_eq_true h)
theorem newCoreD_no {k : List UInt8} (h : decide (0 ≤ kindI k) = false) : newCoreD k = ⟨[], false, false, [], 0⟩ := if_neg (of_decide_eq_false h)
theorem new_cells {f : FuncId} {args : Array Value} {k : List UInt8} {w : World} (h : Calls Tryz.prog f args w fun e w' => GivesNew k w e w') :
    Calls Tryz.prog f args w fun e w' => ∃ cv, e = .returned (.tuple #[vCore (newCoreD k) cv, .bool (decide (0 ≤ kindI k))]) ∧ OwnsF cCell 135 2 w' w.heap.size cv (newCoreD k).fCells ∧ Below w.heap.size w w' :=
  h.mono fun e w' ⟨v, h1, ⟨cv, h2, h3⟩, h4⟩ => ⟨cv, by rw [h1, h2], h3, h4⟩
set_option maxRecDepth 100000 in
set_option maxHeartbeats 1600000 in
theorem implNewCore_any (s : ByteArray) (w : World) (hs : s.size ≤ 1048576) :
    Calls Tryz.prog 141 #[.string s] w fun e w' => GivesNew s.data.toList w e w' := by
  have HK := Lib.hid (implKind_any s)
  have HC := Lib.hid (fun w0 => copyText_any s w0 (by omega))
  have HY := Lib.hid (@newCoreD_yes s.data.toList)
  have HN := Lib.hid (@newCoreD_no s.data.toList)
  have HS := Lib.hid (show (⟨s.data.toList.toArray⟩ : ByteArray) = s by simp)
  unfold GivesNew
  unfold kfV at HK
  generalize newCoreD s.data.toList = nc at *
  generalize kfI (kindI s.data.toList) = f at *
  generalize decide (0 ≤ kindI s.data.toList) = b at *
  generalize s.data.toList = l at *
  have hl := HS.out
  subst hl
  have HB0 := Lib.hid (show ∀ o, Below w.heap.size w (w.alloc o) from fun o => (Below.refl w.heap.size w).alloc (Nat.le_refl _) o)
  cases b with
  | false =>
    have HD := Lib.hid (HN.out rfl)
    go_enter Tryz.func141, Tryz.ntmps141
    go_wp2_with fail
    refine (HK.out _).mono ?_
    rintro e w1 ⟨rfl, rfl⟩
    go_wp2_with fail
    refine bodyPost_ret (v := .tuple #[.agg #[.string ⟨#[]⟩, .bool false, .bool false, .slice none 0 0, .int .i64 0], .bool false]) (by simp [results, Tryz.results141, go_sem]) rfl ⟨_, rfl, ?_, ?_⟩
    · rw [HD.out]; exact owns_zero _ _ []
    · first | exact HB0.out _ | (repeat (refine Below.setCell ?_ (by simp; try omega) _)
                                 exact HB0.out _)
  | true =>
    have HD := Lib.hid (HY.out rfl)
    go_enter Tryz.func141, Tryz.ntmps141
    go_wp2_with fail
    refine (HK.out _).mono ?_
    rintro e w1 ⟨rfl, rfl⟩
    go_wp2_with fail
    refine (HC.out _).mono ?_
    rintro e w1 ⟨rfl, hb⟩
    obtain ⟨hcc, hff⟩ := bcell hb
    simp at hcc hff
    have hsz := hb.size
    simp at hsz
    have HB := Lib.hid ((HB0.out _).trans (hb.mono (HB0.out _).size))
    clear hb
    go_wp2_with fail
    refine bodyPost_ret (v := .tuple #[.agg #[.string ⟨l.toArray⟩, .bool false, .bool false, .slice none 0 0, .int .i64 0], .bool true]) (by simp [results, Tryz.results141, go_sem, hcc]) rfl ⟨_, rfl, ?_, ?_⟩
    · rw [HD.out]; exact owns_zero _ _ l
    · repeat (refine Below.setCell ?_ (by simp; try omega) _)
      exact HB.out
set_option maxRecDepth 100000 in
set_option maxHeartbeats 1600000 in
theorem specNewCore_any (s : ByteArray) (w : World) (hs : s.size ≤ 1048576) :
    Calls Tryz.prog 135 #[.string s] w fun e w' => GivesNew s.data.toList w e w' := by
  have HK := Lib.hid (specKind_any s)
  have HY := Lib.hid (@newCoreD_yes s.data.toList)
  have HN := Lib.hid (@newCoreD_no s.data.toList)
  have HS := Lib.hid (show (⟨s.data.toList.toArray⟩ : ByteArray) = s by simp)
  unfold GivesNew
  unfold kfV at HK
  generalize newCoreD s.data.toList = nc at *
  generalize kfI (kindI s.data.toList) = f at *
  generalize decide (0 ≤ kindI s.data.toList) = b at *
  generalize s.data.toList = l at *
  have hl := HS.out
  subst hl
  have HB0 := Lib.hid (show ∀ o, Below w.heap.size w (w.alloc o) from fun o => (Below.refl w.heap.size w).alloc (Nat.le_refl _) o)
  cases b with
  | false =>
    have HD := Lib.hid (HN.out rfl)
    go_enter Tryz.func135, Tryz.ntmps135
    go_wp2_with fail
    refine (HK.out _).mono ?_
    rintro e w1 ⟨rfl, hb⟩
    obtain ⟨hcc, hff⟩ := bcell hb
    simp at hcc hff
    have hsz := hb.size
    simp at hsz
    have HB := Lib.hid ((HB0.out _).trans (hb.mono (HB0.out _).size))
    clear hb
    go_wp2_with fail
    refine bodyPost_ret (v := .tuple #[.agg #[.string ⟨#[]⟩, .bool false, .bool false, .slice none 0 0, .int .i64 0], .bool false]) (by simp [results, Tryz.results135, go_sem, hcc]) rfl ⟨_, rfl, ?_, ?_⟩
    · rw [HD.out]; exact owns_zero _ _ []
    · repeat (refine Below.setCell ?_ (by simp; try omega) _)
      exact HB.out
  | true =>
    have HD := Lib.hid (HY.out rfl)
    go_enter Tryz.func135, Tryz.ntmps135
    go_wp2_with fail
    refine (HK.out _).mono ?_
    rintro e w1 ⟨rfl, hb⟩
    obtain ⟨hcc, hff⟩ := bcell hb
    simp at hcc hff
    have hsz := hb.size
    simp at hsz
    have HB := Lib.hid ((HB0.out _).trans (hb.mono (HB0.out _).size))
    clear hb
    go_wp2_with fail
    refine bodyPost_ret (v := .tuple #[.agg #[.string ⟨l.toArray⟩, .bool false, .bool false, .slice none 0 0, .int .i64 0], .bool true]) (by simp [results, Tryz.results135, go_sem, hcc]) rfl ⟨_, rfl, ?_, ?_⟩
    · rw [HD.out]; exact owns_zero _ _ l
    · repeat (refine Below.setCell ?_ (by simp; try omega) _)
      exact HB.out
end Go.Proofs.YteeopjcbpngofaaGreat
/- Contracts of chapter 4: NewPart, both sides; what marks do to a part without rows. -/
namespace Go.Proofs.YteeopjcbpngofaaGreat
set_option linter.unusedVariables false
set_option linter.unusedSimpArgs false
open Go.RowKit
def nmK (l : List UInt8) : List UInt8 := if 0 ≤ kindI l then l else []
theorem newCore_is (l : List UInt8) : newCoreD l = ⟨nmK l, false, false, [], 0⟩ := by unfold newCoreD nmK; split <;> rfl
def vNP (l : List UInt8) (a : Option Addr) (c : Nat) : Value := .agg #[.string ⟨(nmK l).toArray⟩, .bool false, .bool false, .slice a 0 c, .int .i64 0, .slice none 0 0]
/-- the same, with the row of cells told as one's own -/
def GivesNPO (l : List UInt8) (w : World) (e : Ending) (w' : World) : Prop := ∃ a c, e = .returned (.tuple #[vNP l a c, .bool (decide (0 ≤ kindI l))]) ∧ OwnsF cCell 135 2 w' w.heap.size (.slice a 0 c) [] ∧ Below w.heap.size w w'
def GivesNP (l : List UInt8) (w : World) (e : Ending) (w' : World) : Prop := ∃ a c, e = .returned (.tuple #[vNP l a c, .bool (decide (0 ≤ kindI l))]) ∧ Below w.heap.size w w'
theorem flat_none {α : Type} (f : α → List Value) (k : Nat) (w : World) (a : Option Addr) (c : Nat) : FlatAt f k w (.slice a 0 c) ([] : List α) := ⟨a, c, by simp, by simp, Nat.zero_le _, Or.inl rfl⟩
theorem slice_none {α : Type} (R : Nat → World → List Value → α → Prop) (k F : Nat) (w : World) (a : Option Addr) (c : Nat) : SliceAt R k F w (.slice a 0 c) ([] : List α) := ⟨a, c, by simp, Nat.zero_le _, Or.inl rfl⟩
set_option maxRecDepth 100000 in
set_option maxHeartbeats 1600000 in
theorem implNewPart_own (s : ByteArray) (w : World) (hs : s.size ≤ 1048576) :
    Calls Tryz.prog 108 #[.string s] w fun e w' => GivesNPO s.data.toList w e w' := by
  have HC := Lib.hid (fun w0 => new_cells (implNewCore_any s w0 hs))
  have HS := Lib.hid (bx_start1 w [.string ⟨#[]⟩, .bool false, .bool false, .slice none 0 0, .int .i64 0, .slice none 0 0] 74)
  unfold GivesNPO vNP
  simp only [newCore_is, vCore] at HC
  generalize nmK s.data.toList = n at *
  generalize decide (0 ≤ kindI s.data.toList) = b at *
  clear hs
  go_enter Tryz.func108, Tryz.ntmps108
  go_wp2_with fail
  refine (HC.out _).mono ?_
  rintro e w1 ⟨cv, rfl, ho, hb⟩
  obtain ⟨a, c, rfl, _⟩ := flatAt_len (ownsF_at ho (by simp))
  have BN := Lib.hid (HS.out.1.below hb)
  have HB := Lib.hid (belS HS.out.2 hb)
  have OW := Lib.hid (ownsF_alloc (ownsF_put6 (ownsF_base (B' := w.heap.size + 1) ho (by simp)) w.heap.size (by omega) (.string ⟨n.toArray⟩) (.bool false) (.bool false) (.slice a 0 c) (.int .i64 0) (.slice none 0 0)) (.cells #[.string ⟨n.toArray⟩, .bool false, .bool false, .slice a 0 c, .int .i64 0] 71))
  clear ho hb
  have e0 := BN.out.cell 0 (by simp)
  have e1 := BN.out.cell 1 (by simp)
  have e2 := BN.out.cell 2 (by simp)
  have e3 := BN.out.cell 3 (by simp)
  have e4 := BN.out.cell 4 (by simp)
  have e5 := BN.out.cell 5 (by simp)
  have f0 := BN.out.froz 0 (by simp)
  have f1 := BN.out.froz 1 (by simp)
  have f2 := BN.out.froz 2 (by simp)
  have f3 := BN.out.froz 3 (by simp)
  have f4 := BN.out.froz 4 (by simp)
  have f5 := BN.out.froz 5 (by simp)
  have hl := BN.out.lt
  simp only [List.getElem_cons_zero, List.getElem_cons_succ] at e0 e1 e2 e3 e4 e5
  go_wp2_with fail
  clear e0 e1 e2 e3 e4 e5 f0 f1 f2 f3 f4 f5 hl
  have BN := Lib.hid (BN.out.set 0 (by simp) (.string ⟨n.toArray⟩))
  have HB := Lib.hid (HB.out.setCell (p := ⟨w.heap.size, 0, none⟩) (by simp) (.string ⟨n.toArray⟩))
  have BN := Lib.hid (BN.out.set 1 (by simp) (.bool false))
  have HB := Lib.hid (HB.out.setCell (p := ⟨w.heap.size, 1, none⟩) (by simp) (.bool false))
  have BN := Lib.hid (BN.out.set 2 (by simp) (.bool false))
  have HB := Lib.hid (HB.out.setCell (p := ⟨w.heap.size, 2, none⟩) (by simp) (.bool false))
  have BN := Lib.hid (BN.out.set 3 (by simp) (.slice a 0 c))
  have HB := Lib.hid (HB.out.setCell (p := ⟨w.heap.size, 3, none⟩) (by simp) (.slice a 0 c))
  have BN := Lib.hid (BN.out.set 4 (by simp) (.int .i64 0))
  have HB := Lib.hid (HB.out.setCell (p := ⟨w.heap.size, 4, none⟩) (by simp) (.int .i64 0))
  have BN := Lib.hid (BN.out.set 5 (by simp) (.slice none 0 0))
  have HB := Lib.hid (HB.out.setCell (p := ⟨w.heap.size, 5, none⟩) (by simp) (.slice none 0 0))
  have BN := Lib.hid (BN.out.alloc (.cells #[.string ⟨n.toArray⟩, .bool false, .bool false, .slice a 0 c, .int .i64 0] 71))
  have HB := Lib.hid (belS HB.out (bx_box _ (.cells #[.string ⟨n.toArray⟩, .bool false, .bool false, .slice a 0 c, .int .i64 0] 71)))
  simp only [List.set_cons_zero, List.set_cons_succ] at BN
  generalize (((((((w1).setCell ⟨w.heap.size, 0, none⟩ (.string ⟨n.toArray⟩)).setCell ⟨w.heap.size, 1, none⟩ (.bool false)).setCell ⟨w.heap.size, 2, none⟩ (.bool false)).setCell ⟨w.heap.size, 3, none⟩ (.slice a 0 c)).setCell ⟨w.heap.size, 4, none⟩ (.int .i64 0)).setCell ⟨w.heap.size, 5, none⟩ (.slice none 0 0)).alloc (.cells #[.string ⟨n.toArray⟩, .bool false, .bool false, .slice a 0 c, .int .i64 0] 71) = WE at *
  have e0 := BN.out.cell 0 (by simp)
  have e1 := BN.out.cell 1 (by simp)
  have e2 := BN.out.cell 2 (by simp)
  have e3 := BN.out.cell 3 (by simp)
  have e4 := BN.out.cell 4 (by simp)
  have e5 := BN.out.cell 5 (by simp)
  simp only [List.getElem_cons_zero, List.getElem_cons_succ] at e0 e1 e2 e3 e4 e5
  exact bodyPost_ret (v := .tuple #[.agg #[.string ⟨n.toArray⟩, .bool false, .bool false, .slice a 0 c, .int .i64 0, .slice none 0 0], .bool b]) (by simp [results, Tryz.results108, go_sem, e0, e1, e2, e3, e4, e5]) rfl ⟨a, c, rfl, ownsF_base OW.out (by omega), HB.out⟩
theorem implNewPart_any (s : ByteArray) (w : World) (hs : s.size ≤ 1048576) :
    Calls Tryz.prog 108 #[.string s] w fun e w' => GivesNP s.data.toList w e w' :=
  (implNewPart_own s w hs).mono fun e w' h => by
    obtain ⟨a, c, h1, _, h3⟩ := h
    exact ⟨a, c, h1, h3⟩
set_option maxRecDepth 100000 in
set_option maxHeartbeats 1600000 in
theorem specNewPart_own (s : ByteArray) (w : World) (hs : s.size ≤ 1048576) :
    Calls Tryz.prog 105 #[.string s] w fun e w' => GivesNPO s.data.toList w e w' := by
  have HC := Lib.hid (fun w0 => new_cells (specNewCore_any s w0 hs))
  have HS := Lib.hid (bx_start1 w [.string ⟨#[]⟩, .bool false, .bool false, .slice none 0 0, .int .i64 0, .slice none 0 0] 74)
  unfold GivesNPO vNP
  simp only [newCore_is, vCore] at HC
  generalize nmK s.data.toList = n at *
  generalize decide (0 ≤ kindI s.data.toList) = b at *
  clear hs
  go_enter Tryz.func105, Tryz.ntmps105
  go_wp2_with fail
  refine (HC.out _).mono ?_
  rintro e w1 ⟨cv, rfl, ho, hb⟩
  obtain ⟨a, c, rfl, _⟩ := flatAt_len (ownsF_at ho (by simp))
  have BN := Lib.hid (HS.out.1.below hb)
  have HB := Lib.hid (belS HS.out.2 hb)
  have OW := Lib.hid (ownsF_alloc (ownsF_put6 (ownsF_base (B' := w.heap.size + 1) ho (by simp)) w.heap.size (by omega) (.string ⟨n.toArray⟩) (.bool false) (.bool false) (.slice a 0 c) (.int .i64 0) (.slice none 0 0)) (.cells #[.string ⟨n.toArray⟩, .bool false, .bool false, .slice a 0 c, .int .i64 0] 71))
  clear ho hb
  have e0 := BN.out.cell 0 (by simp)
  have e1 := BN.out.cell 1 (by simp)
  have e2 := BN.out.cell 2 (by simp)
  have e3 := BN.out.cell 3 (by simp)
  have e4 := BN.out.cell 4 (by simp)
  have e5 := BN.out.cell 5 (by simp)
  have f0 := BN.out.froz 0 (by simp)
  have f1 := BN.out.froz 1 (by simp)
  have f2 := BN.out.froz 2 (by simp)
  have f3 := BN.out.froz 3 (by simp)
  have f4 := BN.out.froz 4 (by simp)
  have f5 := BN.out.froz 5 (by simp)
  have hl := BN.out.lt
  simp only [List.getElem_cons_zero, List.getElem_cons_succ] at e0 e1 e2 e3 e4 e5
  go_wp2_with fail
  clear e0 e1 e2 e3 e4 e5 f0 f1 f2 f3 f4 f5 hl
  have BN := Lib.hid (BN.out.set 0 (by simp) (.string ⟨n.toArray⟩))
  have HB := Lib.hid (HB.out.setCell (p := ⟨w.heap.size, 0, none⟩) (by simp) (.string ⟨n.toArray⟩))
  have BN := Lib.hid (BN.out.set 1 (by simp) (.bool false))
  have HB := Lib.hid (HB.out.setCell (p := ⟨w.heap.size, 1, none⟩) (by simp) (.bool false))
  have BN := Lib.hid (BN.out.set 2 (by simp) (.bool false))
  have HB := Lib.hid (HB.out.setCell (p := ⟨w.heap.size, 2, none⟩) (by simp) (.bool false))
  have BN := Lib.hid (BN.out.set 3 (by simp) (.slice a 0 c))
  have HB := Lib.hid (HB.out.setCell (p := ⟨w.heap.size, 3, none⟩) (by simp) (.slice a 0 c))
  have BN := Lib.hid (BN.out.set 4 (by simp) (.int .i64 0))
  have HB := Lib.hid (HB.out.setCell (p := ⟨w.heap.size, 4, none⟩) (by simp) (.int .i64 0))
  have BN := Lib.hid (BN.out.set 5 (by simp) (.slice none 0 0))
  have HB := Lib.hid (HB.out.setCell (p := ⟨w.heap.size, 5, none⟩) (by simp) (.slice none 0 0))
  have BN := Lib.hid (BN.out.alloc (.cells #[.string ⟨n.toArray⟩, .bool false, .bool false, .slice a 0 c, .int .i64 0] 71))
  have HB := Lib.hid (belS HB.out (bx_box _ (.cells #[.string ⟨n.toArray⟩, .bool false, .bool false, .slice a 0 c, .int .i64 0] 71)))
  simp only [List.set_cons_zero, List.set_cons_succ] at BN
  generalize (((((((w1).setCell ⟨w.heap.size, 0, none⟩ (.string ⟨n.toArray⟩)).setCell ⟨w.heap.size, 1, none⟩ (.bool false)).setCell ⟨w.heap.size, 2, none⟩ (.bool false)).setCell ⟨w.heap.size, 3, none⟩ (.slice a 0 c)).setCell ⟨w.heap.size, 4, none⟩ (.int .i64 0)).setCell ⟨w.heap.size, 5, none⟩ (.slice none 0 0)).alloc (.cells #[.string ⟨n.toArray⟩, .bool false, .bool false, .slice a 0 c, .int .i64 0] 71) = WE at *
  have e0 := BN.out.cell 0 (by simp)
  have e1 := BN.out.cell 1 (by simp)
  have e2 := BN.out.cell 2 (by simp)
  have e3 := BN.out.cell 3 (by simp)
  have e4 := BN.out.cell 4 (by simp)
  have e5 := BN.out.cell 5 (by simp)
  simp only [List.getElem_cons_zero, List.getElem_cons_succ] at e0 e1 e2 e3 e4 e5
  exact bodyPost_ret (v := .tuple #[.agg #[.string ⟨n.toArray⟩, .bool false, .bool false, .slice a 0 c, .int .i64 0, .slice none 0 0], .bool b]) (by simp [results, Tryz.results105, go_sem, e0, e1, e2, e3, e4, e5]) rfl ⟨a, c, rfl, ownsF_base OW.out (by omega), HB.out⟩
theorem specNewPart_any (s : ByteArray) (w : World) (hs : s.size ≤ 1048576) :
    Calls Tryz.prog 105 #[.string s] w fun e w' => GivesNP s.data.toList w e w' :=
  (specNewPart_own s w hs).mono fun e w' h => by
    obtain ⟨a, c, h1, _, h3⟩ := h
    exact ⟨a, c, h1, h3⟩
theorem np_at (l : List UInt8) (a : Option Addr) (c : Nat) (w : World) : ValAt rPart 0 w (vNP l a c) ⟨⟨nmK l, false, false, [], 0⟩, []⟩ := ⟨_, rfl, _, _, rfl, slice_none _ _ _ _ _ _, slice_none _ _ _ _ _ _⟩
set_option maxHeartbeats 400000 in
theorem markCells_none (a : Option Addr) (c : Nat) (k : Int) (w : World) : Calls Tryz.prog 64 #[.slice a 0 c, .int .i64 k] w fun e w' => e = .returned (.int .i64 k) ∧ w = w' := by
  go_enter Tryz.func64, Tryz.ntmps64
  go_wp2_with fail
  refine wp_loop_rounds 1 ?_
  rw [rounds_succ]
  go_wp2_with fail
  go_ret
  exact ⟨rfl, rfl⟩
set_option maxHeartbeats 400000 in
theorem markLayers_none (a : Option Addr) (c : Nat) (k : Int) (w : World) : Calls Tryz.prog 65 #[.slice a 0 c, .int .i64 k] w fun e w' => e = .returned (.int .i64 k) ∧ w = w' := by
  go_enter Tryz.func65, Tryz.ntmps65
  go_wp2_with fail
  refine wp_loop_rounds 1 ?_
  rw [rounds_succ]
  go_wp2_with fail
  go_ret
  exact ⟨rfl, rfl⟩
end Go.Proofs.YteeopjcbpngofaaGreat
/- Recipes made, in plain words. -/
namespace Go.Proofs.YteeopjcbpngofaaGreat
set_option linter.unusedVariables false
set_option linter.unusedSimpArgs false
open Go.RowKit
def zeroP : PartD := ⟨⟨[], false, false, [], 0⟩, []⟩
def newP (k : List UInt8) : PartD := ⟨⟨k, false, false, [], 0⟩, []⟩
def makeGo : PartD → List (List UInt8) → PartD × ReplyD
  | p, [] => (p, ⟨0, faceP p, [], 0, 0⟩)
  | p, s :: r => if wrapI p s = 0 then makeGo (wrapP p s) r else (zeroP, wrapR p s)
def makePR : List (List UInt8) → PartD × ReplyD
  | [] => (zeroP, ⟨7, 0, [], 0, 0⟩)
  | k :: r => if 0 ≤ kindI k then makeGo (newP k) r else (zeroP, ⟨7, 0, [], 0, 0⟩)
theorem makeGo_stop {p : PartD} {s : List UInt8} {r : List (List UInt8)} (h : ¬ wrapI p s = 0) : makeGo p (s :: r) = (zeroP, wrapR p s) := if_neg h
theorem makeGo_on {p : PartD} {s : List UInt8} {r : List (List UInt8)} (h : wrapI p s = 0) : makeGo p (s :: r) = makeGo (wrapP p s) r := if_pos h
theorem ownsF_nil {α : Type} (f : α → List Value) (E k : Nat) (w : World) (B : Nat) : OwnsF f E k w B (.slice none 0 0) [] := ⟨by simp, Or.inl ⟨rfl, rfl⟩⟩
theorem wrapP_core (p : PartD) (s : List UInt8) : (wrapP p s).fCore = p.fCore := by unfold wrapP; split <;> rfl
theorem newP_small {k : List UInt8} (h : k.length ≤ 1048576) : SmallP (newP k) := smallP_of (by unfold zPart zCore newP; simp [sumF]; exact h)
theorem zeroP_small : SmallP zeroP := smallP_of (by decide)
theorem makeGo_small (r : List (List UInt8)) : ∀ {p : PartD}, SmallP p → SmallP (makeGo p r).1 := by
  induction r with
  | nil => intro p h; exact h
  | cons s r ih =>
    intro p h
    by_cases hw : wrapI p s = 0
    · rw [makeGo_on hw]; exact ih (wrapP_small h s)
    · rw [makeGo_stop hw]; exact zeroP_small
theorem makePR_small {l : List (List UInt8)} (h : ∀ s ∈ l, s.length ≤ 1048576) : SmallP (makePR l).1 := by
  cases l with
  | nil => exact zeroP_small
  | cons k r =>
    by_cases hk : 0 ≤ kindI k
    · rw [makePR, if_pos hk]; exact makeGo_small r (newP_small (h k (List.mem_cons_self ..)))
    · rw [makePR, if_neg hk]; exact zeroP_small
theorem makeGo_val (r : List (List UInt8)) : ∀ {p : PartD}, (makeGo p r).2.fCode = 0 → (makeGo p r).2.fValue = faceP (makeGo p r).1 := by
  induction r with
  | nil => intro p h; rfl
  | cons s r ih =>
    intro p h
    by_cases hw : wrapI p s = 0
    · rw [makeGo_on hw] at h ⊢; exact ih h
    · rw [makeGo_stop hw] at h; exact absurd h hw
theorem makePR_val {l : List (List UInt8)} : (makePR l).2.fCode = 0 → (makePR l).2.fValue = faceP (makePR l).1 := by
  cases l with
  | nil => intro h; cases h
  | cons k r =>
    by_cases hk : 0 ≤ kindI k
    · rw [makePR, if_pos hk]; exact makeGo_val r
    · rw [makePR, if_neg hk]; intro h; cases h
def recB (l : List (List UInt8)) : Bool := decide ((makePR l).2.fCode = 0)
def recI (l : List (List UInt8)) : Int := if (makePR l).2.fCode = 0 then faceP (makePR l).1 else 0
/-- the state of the loop: the part so far, in a variable of its own -/
structure MkSt (w : World) (b4 : Nat) (p : PartD) (wr : World) : Prop where
  small : SmallP p
  bare : p.fCore.fCells = []
  part : ∃ cs, Bx wr b4 cs ∧ oPart wr (w.heap.size + 1 + 1) cs p
  r2 : Bx wr w.heap.size [.string ⟨#[]⟩, .bool false, .bool false, .slice none 0 0, .int .i64 0, .slice none 0 0]
  r3 : Bx wr (w.heap.size + 1) [.int .i64 0, .int .i64 0, .string ⟨#[]⟩, .int .i64 0, .int .i64 0]
  below : Below w.heap.size w wr
end Go.Proofs.YteeopjcbpngofaaGreat
/- Entries in plain words. -/
namespace Go.Proofs.YteeopjcbpngofaaGreat
set_option linter.unusedVariables false
set_option linter.unusedSimpArgs false
open Go.RowKit
def needOk (nm : List UInt8) (d : NeedD) : Bool := needB d && !(d.fFrom == nm)
def needsB (x : EntryD) : Bool := decide (x.fNeeds.length ≤ 3) && x.fNeeds.all (needOk x.fName)
def headB (x : EntryD) : Bool := nameB x.fName && verB x.fVersion && needsB x
def entryB (x : EntryD) : Bool := headB x && recB x.fRecipe
def entryI (x : EntryD) : Int := if headB x = true then recI x.fRecipe else 0
end Go.Proofs.YteeopjcbpngofaaGreat
/- Registries in plain words. -/
namespace Go.Proofs.YteeopjcbpngofaaGreat
set_option linter.unusedVariables false
set_option linter.unusedSimpArgs false
open Go.RowKit
def ltO : Option (List UInt8) → List UInt8 → Bool
  | none, _ => true
  | some a, b => decide (a < b)
def regGo : Option (List UInt8) → List EntryD → Bool
  | _, [] => true
  | p, e :: r => (entryB e && ltO p e.fName) && regGo (some e.fName) r
def regB (l : List EntryD) : Bool := regGo none l && decide (l.length ≤ 6)
def prv (l : List EntryD) : Nat → Option (List UInt8)
  | 0 => none
  | j + 1 => (l[j]?).map (·.fName)
theorem prv_succ {l : List EntryD} {j : Nat} (h : j < l.length) : prv l (j + 1) = some (l[j]).fName := by simp [prv, h]
theorem bel_drR {B : Nat} {a w : World} (h : Below B a w) : Below B a w.drew := ⟨h.os, h.tape, h.output, h.size, h.block⟩
theorem allocR {X : World} {b o : Nat} {v : Value} {ob : Obj} (hlt : b < X.heap.size) (h : X.cell? ⟨b, o, none⟩ = some v) : (X.alloc ob).cell? ⟨b, o, none⟩ = some v :=
  (((Below.refl X.heap.size X).alloc (Nat.le_refl _) ob).cell (p := ⟨b, o, none⟩) hlt).trans h
end Go.Proofs.YteeopjcbpngofaaGreat
/- Contracts of chapter 4: Wrap, the program's. Written by gen/ch4wr.py. -/
namespace Go.Proofs.YteeopjcbpngofaaGreat
set_option linter.unusedVariables false
set_option linter.unusedSimpArgs false
open Go.RowKit
set_option maxRecDepth 100000 in
set_option maxHeartbeats 3200000 in
theorem implWrap_bad1 (v : Value) (x : PartD) (s : ByteArray) (w : World) (hx : ValAt rPart 0 w v x) (hs : SmallP x) (hk : ∀ c ∈ x.fCore.fCells, c.fKey.length ≤ maxLen) (hz : s.size ≤ 1048576) (hc : ¬ 0 ≤ layI s.data.toList) :
    Calls Tryz.prog 109 #[v, .string s] w fun e w' => GivesOPR (wrapP x s.data.toList) (wrapR x s.data.toList) w e w' := by
  obtain ⟨hwp, hwr⟩ := wrap_bad (x := x) (s := s.data.toList) (fun h => hc h.2)
  rw [hwp, hwr]
  clear hwp hwr
  have HTX := Lib.hid (fun W => copyText_any s W (by omega))
  obtain ⟨_, rfl, hx⟩ := hx
  have HX := Lib.hid (fun W (hb : Below w.heap.size w W) => goodPart.keep hx (kept_below hb (Nat.le_refl _)))
  have HIP := Lib.hid (fun cs W (h : rPart 0 W cs x) => implIsPart_any (.agg cs.toArray) x W ⟨cs, rfl, h⟩ hk)
  have HCP := Lib.hid (fun cs W (h : rPart 0 W cs x) => copyPart_c (.agg cs.toArray) x W ⟨cs, rfl, h⟩ hs)
  have HLN := Lib.hid (fun W => implLayerNeeds_any s W)
  have HSZ := Lib.hid hs.lays
  unfold ndV at HLN
  unfold GivesOPR vReply
  unfold GivesOP at HCP
  rw [show decide (0 ≤ layI s.data.toList) = false from decide_eq_false hc] at HLN
  generalize needI (layI s.data.toList) = nd at *
  obtain ⟨⟨a0, a1, a2, a3, a4⟩, l⟩ := x
  obtain ⟨v3, v5, rfl, h3, h5⟩ := hx
  simp only at h3 h5 HSZ
  obtain ⟨ra, rc, rfl, _⟩ := sliceAt_len h3
  obtain ⟨sa, sc, rfl, hl, hcap⟩ := sliceAt_cap h5
  clear h3 h5 hs hk hcap hl
  have BS := Lib.hid (bx_start3 w [.string ⟨a0.toArray⟩, .bool a1, .bool a2, .slice ra a3.length rc, .int .i64 a4, .slice sa l.length sc] [.string ⟨#[]⟩, .bool false, .bool false, .slice none 0 0, .int .i64 0, .slice none 0 0] [.int .i64 0, .int .i64 0, .string ⟨#[]⟩, .int .i64 0, .int .i64 0] 74 74 76)
  have HR0 := Lib.hid (HX.out _ BS.out.2.2.2)
  clear hc
  go_enter Tryz.func109, Tryz.ntmps109
  go_wp2_with fail
  refine (HCP.out _ _ HR0.out).mono ?_
  rintro e w1 ⟨_, rfl, ⟨u3, u5, rfl, ho3, ho5⟩, hb⟩
  have HPQ := Lib.hid (fun (hsm : SmallP (⟨⟨a0, a1, a2, a3, a4⟩, l⟩ : PartD)) => oPart_r ⟨u3, u5, rfl, ho3, ho5⟩ hsm)
  simp only at ho3 ho5
  obtain ⟨ga, gc, rfl⟩ := slice_of ho3
  obtain ⟨ua, uc, rfl⟩ := slice_of ho5
  have HB1 := Lib.hid ((belS BS.out.2.2.2 hb).alloc (belS BS.out.2.2.2 hb).size (.cells #[.string ⟨a0.toArray⟩, .bool a1, .bool a2, .slice ga a3.length gc, .int .i64 a4, .slice ua l.length uc] 74))
  have B41 := Lib.hid ((BS.out.2.1.below hb).alloc (.cells #[.string ⟨a0.toArray⟩, .bool a1, .bool a2, .slice ga a3.length gc, .int .i64 a4, .slice ua l.length uc] 74))
  have B51 := Lib.hid ((BS.out.2.2.1.below hb).alloc (.cells #[.string ⟨a0.toArray⟩, .bool a1, .bool a2, .slice ga a3.length gc, .int .i64 a4, .slice ua l.length uc] 74))
  have BQ1 := Lib.hid (Bx.new w1 [.string ⟨a0.toArray⟩, .bool a1, .bool a2, .slice ga a3.length gc, .int .i64 a4, .slice ua l.length uc] 74)
  have O3 := Lib.hid (ownsF_alloc (ownsF_base (B' := w.heap.size + 1 + 1 + 1) ho3 (by simp)) (.cells #[.string ⟨a0.toArray⟩, .bool a1, .bool a2, .slice ga a3.length gc, .int .i64 a4, .slice ua l.length uc] 74))
  have O5 := Lib.hid (ownsF_alloc (ownsF_base (B' := w.heap.size + 1 + 1 + 1) ho5 (by simp)) (.cells #[.string ⟨a0.toArray⟩, .bool a1, .bool a2, .slice ga a3.length gc, .int .i64 a4, .slice ua l.length uc] 74))
  have h3s := hb.size
  simp at h3s
  clear hb ho3 ho5 BS
  go_wp2_with fail
  refine (HLN.out _).mono ?_
  rintro e w2 ⟨rfl, rfl⟩
  have q0 := BQ1.out.cell 0 (by simp)
  have q1 := BQ1.out.cell 1 (by simp)
  have q2 := BQ1.out.cell 2 (by simp)
  have q3 := BQ1.out.cell 3 (by simp)
  have q4 := BQ1.out.cell 4 (by simp)
  have q5 := BQ1.out.cell 5 (by simp)
  simp only [List.getElem_cons_zero, List.getElem_cons_succ] at q0 q1 q2 q3 q4 q5
  have r0 := B41.out.cell 0 (by simp)
  have r1 := B41.out.cell 1 (by simp)
  have r2 := B41.out.cell 2 (by simp)
  have r3 := B41.out.cell 3 (by simp)
  have r4 := B41.out.cell 4 (by simp)
  have r5 := B41.out.cell 5 (by simp)
  simp only [List.getElem_cons_zero, List.getElem_cons_succ] at r0 r1 r2 r3 r4 r5
  have z0 := B41.out.froz 0 (by simp)
  have z1 := B41.out.froz 1 (by simp)
  have z2 := B41.out.froz 2 (by simp)
  have z3 := B41.out.froz 3 (by simp)
  have z4 := B41.out.froz 4 (by simp)
  have z5 := B41.out.froz 5 (by simp)
  have s0 := B51.out.cell 0 (by simp)
  have s1 := B51.out.cell 1 (by simp)
  have s2 := B51.out.cell 2 (by simp)
  have s3 := B51.out.cell 3 (by simp)
  have s4 := B51.out.cell 4 (by simp)
  simp only [List.getElem_cons_zero, List.getElem_cons_succ] at s0 s1 s2 s3 s4
  have y0 := B51.out.froz 0 (by simp)
  have y1 := B51.out.froz 1 (by simp)
  have y2 := B51.out.froz 2 (by simp)
  have y3 := B51.out.froz 3 (by simp)
  have y4 := B51.out.froz 4 (by simp)
  go_wp2_with fail
  clear q0 q1 q2 q3 q4 q5
  clear r0 r1 r2 r3 r4 r5 z0 z1 z2 z3 z4 z5 s0 s1 s2 s3 s4 y0 y1 y2 y3 y4
  have E4 := Lib.hid ((B41.out.put6 (.string ⟨a0.toArray⟩) (.bool a1) (.bool a2) (.slice ga a3.length gc) (.int .i64 a4) (.slice ua l.length uc)).put5o (c := w.heap.size + 1 + 1) (by omega) (.int .i64 7) (.int .i64 0) (.string ⟨#[]⟩) (.int .i64 0) (.int .i64 0))
  have E5 := Lib.hid ((B51.out.put6o (c := w.heap.size + 1) (by omega) (.string ⟨a0.toArray⟩) (.bool a1) (.bool a2) (.slice ga a3.length gc) (.int .i64 a4) (.slice ua l.length uc)).put5 (.int .i64 7) (.int .i64 0) (.string ⟨#[]⟩) (.int .i64 0) (.int .i64 0))
  have EB := Lib.hid (below_put5 (below_put6 HB1.out (w.heap.size + 1) (by omega) (.string ⟨a0.toArray⟩) (.bool a1) (.bool a2) (.slice ga a3.length gc) (.int .i64 a4) (.slice ua l.length uc)) (w.heap.size + 1 + 1) (by omega) (.int .i64 7) (.int .i64 0) (.string ⟨#[]⟩) (.int .i64 0) (.int .i64 0))
  have OC := Lib.hid (ownsF_put5 (ownsF_put6 O3.out (w.heap.size + 1) (by omega) (.string ⟨a0.toArray⟩) (.bool a1) (.bool a2) (.slice ga a3.length gc) (.int .i64 a4) (.slice ua l.length uc)) (w.heap.size + 1 + 1) (by omega) (.int .i64 7) (.int .i64 0) (.string ⟨#[]⟩) (.int .i64 0) (.int .i64 0))
  have OL := Lib.hid (ownsF_put5 (ownsF_put6 O5.out (w.heap.size + 1) (by omega) (.string ⟨a0.toArray⟩) (.bool a1) (.bool a2) (.slice ga a3.length gc) (.int .i64 a4) (.slice ua l.length uc)) (w.heap.size + 1 + 1) (by omega) (.int .i64 7) (.int .i64 0) (.string ⟨#[]⟩) (.int .i64 0) (.int .i64 0))
  generalize ((((((((((((w1.alloc (.cells #[.string ⟨a0.toArray⟩, .bool a1, .bool a2, .slice ga a3.length gc, .int .i64 a4, .slice ua l.length uc] 74)).setCell ⟨w.heap.size + 1, 0, none⟩ (.string ⟨a0.toArray⟩)).setCell ⟨w.heap.size + 1, 1, none⟩ (.bool a1)).setCell ⟨w.heap.size + 1, 2, none⟩ (.bool a2)).setCell ⟨w.heap.size + 1, 3, none⟩ (.slice ga a3.length gc)).setCell ⟨w.heap.size + 1, 4, none⟩ (.int .i64 a4)).setCell ⟨w.heap.size + 1, 5, none⟩ (.slice ua l.length uc)).setCell ⟨w.heap.size + 1 + 1, 0, none⟩ (.int .i64 7)).setCell ⟨w.heap.size + 1 + 1, 1, none⟩ (.int .i64 0)).setCell ⟨w.heap.size + 1 + 1, 2, none⟩ (.string ⟨#[]⟩)).setCell ⟨w.heap.size + 1 + 1, 3, none⟩ (.int .i64 0)).setCell ⟨w.heap.size + 1 + 1, 4, none⟩ (.int .i64 0)) = WE at *
  have r0 := E4.out.cell 0 (by simp)
  have r1 := E4.out.cell 1 (by simp)
  have r2 := E4.out.cell 2 (by simp)
  have r3 := E4.out.cell 3 (by simp)
  have r4 := E4.out.cell 4 (by simp)
  have r5 := E4.out.cell 5 (by simp)
  simp only [List.getElem_cons_zero, List.getElem_cons_succ] at r0 r1 r2 r3 r4 r5
  have s0 := E5.out.cell 0 (by simp)
  have s1 := E5.out.cell 1 (by simp)
  have s2 := E5.out.cell 2 (by simp)
  have s3 := E5.out.cell 3 (by simp)
  have s4 := E5.out.cell 4 (by simp)
  simp only [List.getElem_cons_zero, List.getElem_cons_succ] at s0 s1 s2 s3 s4
  exact bodyPost_ret (v := .tuple #[.agg #[.string ⟨a0.toArray⟩, .bool a1, .bool a2, .slice ga a3.length gc, .int .i64 a4, .slice ua l.length uc], .agg #[.int .i64 7, .int .i64 0, .string ⟨#[]⟩, .int .i64 0, .int .i64 0]]) (by simp [results, Tryz.results109, go_sem, r0, r1, r2, r3, r4, r5, s0, s1, s2, s3, s4]) rfl ⟨_, rfl, ⟨_, _, rfl, ownsF_base OC.out (by omega), ownsF_base OL.out (by omega)⟩, EB.out⟩
set_option maxRecDepth 100000 in
set_option maxHeartbeats 3200000 in
theorem implWrap_bad2 (v : Value) (x : PartD) (s : ByteArray) (w : World) (hx : ValAt rPart 0 w v x) (hs : SmallP x) (hk : ∀ c ∈ x.fCore.fCells, c.fKey.length ≤ maxLen) (hz : s.size ≤ 1048576) (hc : 0 ≤ layI s.data.toList) (hp : partB x = false) :
    Calls Tryz.prog 109 #[v, .string s] w fun e w' => GivesOPR (wrapP x s.data.toList) (wrapR x s.data.toList) w e w' := by
  obtain ⟨hwp, hwr⟩ := wrap_bad (x := x) (s := s.data.toList) (fun h => by rw [hp] at h; exact absurd h.1 (by decide))
  rw [hwp, hwr]
  clear hwp hwr
  have HTX := Lib.hid (fun W => copyText_any s W (by omega))
  obtain ⟨_, rfl, hx⟩ := hx
  have HX := Lib.hid (fun W (hb : Below w.heap.size w W) => goodPart.keep hx (kept_below hb (Nat.le_refl _)))
  have HIP := Lib.hid (fun cs W (h : rPart 0 W cs x) => implIsPart_any (.agg cs.toArray) x W ⟨cs, rfl, h⟩ hk)
  have HCP := Lib.hid (fun cs W (h : rPart 0 W cs x) => copyPart_c (.agg cs.toArray) x W ⟨cs, rfl, h⟩ hs)
  have HLN := Lib.hid (fun W => implLayerNeeds_any s W)
  have HSZ := Lib.hid hs.lays
  unfold ndV at HLN
  unfold GivesOPR vReply
  unfold GivesOP at HCP
  rw [show decide (0 ≤ layI s.data.toList) = true from decide_eq_true hc] at HLN
  rw [hp] at HIP
  generalize needI (layI s.data.toList) = nd at *
  have HSP := Lib.hid hs
  obtain ⟨⟨a0, a1, a2, a3, a4⟩, l⟩ := x
  obtain ⟨v3, v5, rfl, h3, h5⟩ := hx
  simp only at h3 h5 HSZ
  obtain ⟨ra, rc, rfl, _⟩ := sliceAt_len h3
  obtain ⟨sa, sc, rfl, hl, hcap⟩ := sliceAt_cap h5
  clear h3 h5 hs hk hcap hl
  have BS := Lib.hid (bx_start3 w [.string ⟨a0.toArray⟩, .bool a1, .bool a2, .slice ra a3.length rc, .int .i64 a4, .slice sa l.length sc] [.string ⟨#[]⟩, .bool false, .bool false, .slice none 0 0, .int .i64 0, .slice none 0 0] [.int .i64 0, .int .i64 0, .string ⟨#[]⟩, .int .i64 0, .int .i64 0] 74 74 76)
  have HR0 := Lib.hid (HX.out _ BS.out.2.2.2)
  clear hc hp
  go_enter Tryz.func109, Tryz.ntmps109
  go_wp2_with fail
  refine (HCP.out _ _ HR0.out).mono ?_
  rintro e w1 ⟨_, rfl, ⟨u3, u5, rfl, ho3, ho5⟩, hb⟩
  simp only at ho3 ho5
  obtain ⟨ga, gc, rfl⟩ := slice_of ho3
  obtain ⟨ua, uc, rfl⟩ := slice_of ho5
  have HB1 := Lib.hid ((belS BS.out.2.2.2 hb).alloc (belS BS.out.2.2.2 hb).size (.cells #[.string ⟨a0.toArray⟩, .bool a1, .bool a2, .slice ga a3.length gc, .int .i64 a4, .slice ua l.length uc] 74))
  have B41 := Lib.hid ((BS.out.2.1.below hb).alloc (.cells #[.string ⟨a0.toArray⟩, .bool a1, .bool a2, .slice ga a3.length gc, .int .i64 a4, .slice ua l.length uc] 74))
  have B51 := Lib.hid ((BS.out.2.2.1.below hb).alloc (.cells #[.string ⟨a0.toArray⟩, .bool a1, .bool a2, .slice ga a3.length gc, .int .i64 a4, .slice ua l.length uc] 74))
  have BQ1 := Lib.hid (Bx.new w1 [.string ⟨a0.toArray⟩, .bool a1, .bool a2, .slice ga a3.length gc, .int .i64 a4, .slice ua l.length uc] 74)
  have O3 := Lib.hid (ownsF_alloc (ownsF_base (B' := w.heap.size + 1 + 1 + 1) ho3 (by simp)) (.cells #[.string ⟨a0.toArray⟩, .bool a1, .bool a2, .slice ga a3.length gc, .int .i64 a4, .slice ua l.length uc] 74))
  have O5 := Lib.hid (ownsF_alloc (ownsF_base (B' := w.heap.size + 1 + 1 + 1) ho5 (by simp)) (.cells #[.string ⟨a0.toArray⟩, .bool a1, .bool a2, .slice ga a3.length gc, .int .i64 a4, .slice ua l.length uc] 74))
  have h3s := hb.size
  simp at h3s
  clear hb ho3 ho5 BS
  go_wp2_with fail
  refine (HLN.out _).mono ?_
  rintro e w2 ⟨rfl, rfl⟩
  have q0 := BQ1.out.cell 0 (by simp)
  have q1 := BQ1.out.cell 1 (by simp)
  have q2 := BQ1.out.cell 2 (by simp)
  have q3 := BQ1.out.cell 3 (by simp)
  have q4 := BQ1.out.cell 4 (by simp)
  have q5 := BQ1.out.cell 5 (by simp)
  simp only [List.getElem_cons_zero, List.getElem_cons_succ] at q0 q1 q2 q3 q4 q5
  have HRQ := Lib.hid (show rPart 0 (w1.alloc (.cells #[.string ⟨a0.toArray⟩, .bool a1, .bool a2, .slice ga a3.length gc, .int .i64 a4, .slice ua l.length uc] 74)) [.string ⟨a0.toArray⟩, .bool a1, .bool a2, .slice ga a3.length gc, .int .i64 a4, .slice ua l.length uc] ⟨⟨a0, a1, a2, a3, a4⟩, l⟩ from goodPart.mono (oPart_r ⟨_, _, rfl, O3.out, O5.out⟩ HSP.out) (Nat.zero_le _))
  go_wp2_with fail
  refine (HIP.out _ _ HRQ.out).mono ?_
  rintro e w2 ⟨rfl, hb⟩
  have HB2 := Lib.hid (belS HB1.out hb)
  have B42 := Lib.hid (B41.out.below hb)
  have B52 := Lib.hid (B51.out.below hb)
  have BQ2 := Lib.hid (BQ1.out.below hb)
  have P3 := Lib.hid (ownsF_below O3.out hb (Nat.le_refl _))
  have P5 := Lib.hid (ownsF_below O5.out hb (Nat.le_refl _))
  have h4s := hb.size
  simp at h4s
  clear hb q0 q1 q2 q3 q4 q5
  have q0 := BQ2.out.cell 0 (by simp)
  have q1 := BQ2.out.cell 1 (by simp)
  have q2 := BQ2.out.cell 2 (by simp)
  have q3 := BQ2.out.cell 3 (by simp)
  have q4 := BQ2.out.cell 4 (by simp)
  have q5 := BQ2.out.cell 5 (by simp)
  simp only [List.getElem_cons_zero, List.getElem_cons_succ] at q0 q1 q2 q3 q4 q5
  have r0 := B42.out.cell 0 (by simp)
  have r1 := B42.out.cell 1 (by simp)
  have r2 := B42.out.cell 2 (by simp)
  have r3 := B42.out.cell 3 (by simp)
  have r4 := B42.out.cell 4 (by simp)
  have r5 := B42.out.cell 5 (by simp)
  simp only [List.getElem_cons_zero, List.getElem_cons_succ] at r0 r1 r2 r3 r4 r5
  have z0 := B42.out.froz 0 (by simp)
  have z1 := B42.out.froz 1 (by simp)
  have z2 := B42.out.froz 2 (by simp)
  have z3 := B42.out.froz 3 (by simp)
  have z4 := B42.out.froz 4 (by simp)
  have z5 := B42.out.froz 5 (by simp)
  have s0 := B52.out.cell 0 (by simp)
  have s1 := B52.out.cell 1 (by simp)
  have s2 := B52.out.cell 2 (by simp)
  have s3 := B52.out.cell 3 (by simp)
  have s4 := B52.out.cell 4 (by simp)
  simp only [List.getElem_cons_zero, List.getElem_cons_succ] at s0 s1 s2 s3 s4
  have y0 := B52.out.froz 0 (by simp)
  have y1 := B52.out.froz 1 (by simp)
  have y2 := B52.out.froz 2 (by simp)
  have y3 := B52.out.froz 3 (by simp)
  have y4 := B52.out.froz 4 (by simp)
  go_wp2_with fail
  clear q0 q1 q2 q3 q4 q5
  clear r0 r1 r2 r3 r4 r5 z0 z1 z2 z3 z4 z5 s0 s1 s2 s3 s4 y0 y1 y2 y3 y4
  have E4 := Lib.hid ((B42.out.put6 (.string ⟨a0.toArray⟩) (.bool a1) (.bool a2) (.slice ga a3.length gc) (.int .i64 a4) (.slice ua l.length uc)).put5o (c := w.heap.size + 1 + 1) (by omega) (.int .i64 7) (.int .i64 0) (.string ⟨#[]⟩) (.int .i64 0) (.int .i64 0))
  have E5 := Lib.hid ((B52.out.put6o (c := w.heap.size + 1) (by omega) (.string ⟨a0.toArray⟩) (.bool a1) (.bool a2) (.slice ga a3.length gc) (.int .i64 a4) (.slice ua l.length uc)).put5 (.int .i64 7) (.int .i64 0) (.string ⟨#[]⟩) (.int .i64 0) (.int .i64 0))
  have EB := Lib.hid (below_put5 (below_put6 HB2.out (w.heap.size + 1) (by omega) (.string ⟨a0.toArray⟩) (.bool a1) (.bool a2) (.slice ga a3.length gc) (.int .i64 a4) (.slice ua l.length uc)) (w.heap.size + 1 + 1) (by omega) (.int .i64 7) (.int .i64 0) (.string ⟨#[]⟩) (.int .i64 0) (.int .i64 0))
  have OC := Lib.hid (ownsF_put5 (ownsF_put6 P3.out (w.heap.size + 1) (by omega) (.string ⟨a0.toArray⟩) (.bool a1) (.bool a2) (.slice ga a3.length gc) (.int .i64 a4) (.slice ua l.length uc)) (w.heap.size + 1 + 1) (by omega) (.int .i64 7) (.int .i64 0) (.string ⟨#[]⟩) (.int .i64 0) (.int .i64 0))
  have OL := Lib.hid (ownsF_put5 (ownsF_put6 P5.out (w.heap.size + 1) (by omega) (.string ⟨a0.toArray⟩) (.bool a1) (.bool a2) (.slice ga a3.length gc) (.int .i64 a4) (.slice ua l.length uc)) (w.heap.size + 1 + 1) (by omega) (.int .i64 7) (.int .i64 0) (.string ⟨#[]⟩) (.int .i64 0) (.int .i64 0))
  generalize (((((((((((w2.setCell ⟨w.heap.size + 1, 0, none⟩ (.string ⟨a0.toArray⟩)).setCell ⟨w.heap.size + 1, 1, none⟩ (.bool a1)).setCell ⟨w.heap.size + 1, 2, none⟩ (.bool a2)).setCell ⟨w.heap.size + 1, 3, none⟩ (.slice ga a3.length gc)).setCell ⟨w.heap.size + 1, 4, none⟩ (.int .i64 a4)).setCell ⟨w.heap.size + 1, 5, none⟩ (.slice ua l.length uc)).setCell ⟨w.heap.size + 1 + 1, 0, none⟩ (.int .i64 7)).setCell ⟨w.heap.size + 1 + 1, 1, none⟩ (.int .i64 0)).setCell ⟨w.heap.size + 1 + 1, 2, none⟩ (.string ⟨#[]⟩)).setCell ⟨w.heap.size + 1 + 1, 3, none⟩ (.int .i64 0)).setCell ⟨w.heap.size + 1 + 1, 4, none⟩ (.int .i64 0)) = WE at *
  have r0 := E4.out.cell 0 (by simp)
  have r1 := E4.out.cell 1 (by simp)
  have r2 := E4.out.cell 2 (by simp)
  have r3 := E4.out.cell 3 (by simp)
  have r4 := E4.out.cell 4 (by simp)
  have r5 := E4.out.cell 5 (by simp)
  simp only [List.getElem_cons_zero, List.getElem_cons_succ] at r0 r1 r2 r3 r4 r5
  have s0 := E5.out.cell 0 (by simp)
  have s1 := E5.out.cell 1 (by simp)
  have s2 := E5.out.cell 2 (by simp)
  have s3 := E5.out.cell 3 (by simp)
  have s4 := E5.out.cell 4 (by simp)
  simp only [List.getElem_cons_zero, List.getElem_cons_succ] at s0 s1 s2 s3 s4
  exact bodyPost_ret (v := .tuple #[.agg #[.string ⟨a0.toArray⟩, .bool a1, .bool a2, .slice ga a3.length gc, .int .i64 a4, .slice ua l.length uc], .agg #[.int .i64 7, .int .i64 0, .string ⟨#[]⟩, .int .i64 0, .int .i64 0]]) (by simp [results, Tryz.results109, go_sem, r0, r1, r2, r3, r4, r5, s0, s1, s2, s3, s4]) rfl ⟨_, rfl, ⟨_, _, rfl, ownsF_base OC.out (by omega), ownsF_base OL.out (by omega)⟩, EB.out⟩
set_option maxRecDepth 100000 in
set_option maxHeartbeats 3200000 in
theorem implWrap_full (v : Value) (x : PartD) (s : ByteArray) (w : World) (hx : ValAt rPart 0 w v x) (hs : SmallP x) (hk : ∀ c ∈ x.fCore.fCells, c.fKey.length ≤ maxLen) (hz : s.size ≤ 1048576) (hc : 0 ≤ layI s.data.toList) (hp : partB x = true) (h3 : x.fLayers.length = 3) :
    Calls Tryz.prog 109 #[v, .string s] w fun e w' => GivesOPR (wrapP x s.data.toList) (wrapR x s.data.toList) w e w' := by
  obtain ⟨hwp, hwr⟩ := wrap_full (x := x) (s := s.data.toList) ⟨hp, hc⟩ h3
  rw [hwp, hwr]
  clear hwp hwr
  have HTX := Lib.hid (fun W => copyText_any s W (by omega))
  have H3 := Lib.hid h3
  clear h3
  obtain ⟨_, rfl, hx⟩ := hx
  have HX := Lib.hid (fun W (hb : Below w.heap.size w W) => goodPart.keep hx (kept_below hb (Nat.le_refl _)))
  have HIP := Lib.hid (fun cs W (h : rPart 0 W cs x) => implIsPart_any (.agg cs.toArray) x W ⟨cs, rfl, h⟩ hk)
  have HCP := Lib.hid (fun cs W (h : rPart 0 W cs x) => copyPart_c (.agg cs.toArray) x W ⟨cs, rfl, h⟩ hs)
  have HLN := Lib.hid (fun W => implLayerNeeds_any s W)
  have HSZ := Lib.hid hs.lays
  unfold ndV at HLN
  unfold GivesOPR vReply
  unfold GivesOP at HCP
  rw [show decide (0 ≤ layI s.data.toList) = true from decide_eq_true hc] at HLN
  rw [hp] at HIP
  generalize needI (layI s.data.toList) = nd at *
  have HSP := Lib.hid hs
  obtain ⟨⟨a0, a1, a2, a3, a4⟩, l⟩ := x
  obtain ⟨v3, v5, rfl, h3, h5⟩ := hx
  simp only at h3 h5 HSZ
  obtain ⟨ra, rc, rfl, _⟩ := sliceAt_len h3
  obtain ⟨sa, sc, rfl, hl, hcap⟩ := sliceAt_cap h5
  clear h3 h5 hs hk hcap hl
  have BS := Lib.hid (bx_start3 w [.string ⟨a0.toArray⟩, .bool a1, .bool a2, .slice ra a3.length rc, .int .i64 a4, .slice sa l.length sc] [.string ⟨#[]⟩, .bool false, .bool false, .slice none 0 0, .int .i64 0, .slice none 0 0] [.int .i64 0, .int .i64 0, .string ⟨#[]⟩, .int .i64 0, .int .i64 0] 74 74 76)
  have HR0 := Lib.hid (HX.out _ BS.out.2.2.2)
  clear hc hp
  go_enter Tryz.func109, Tryz.ntmps109
  go_wp2_with fail
  refine (HCP.out _ _ HR0.out).mono ?_
  rintro e w1 ⟨_, rfl, ⟨u3, u5, rfl, ho3, ho5⟩, hb⟩
  simp only at ho3 ho5
  obtain ⟨ga, gc, rfl⟩ := slice_of ho3
  obtain ⟨ua, uc, rfl⟩ := slice_of ho5
  have HB1 := Lib.hid ((belS BS.out.2.2.2 hb).alloc (belS BS.out.2.2.2 hb).size (.cells #[.string ⟨a0.toArray⟩, .bool a1, .bool a2, .slice ga a3.length gc, .int .i64 a4, .slice ua l.length uc] 74))
  have B41 := Lib.hid ((BS.out.2.1.below hb).alloc (.cells #[.string ⟨a0.toArray⟩, .bool a1, .bool a2, .slice ga a3.length gc, .int .i64 a4, .slice ua l.length uc] 74))
  have B51 := Lib.hid ((BS.out.2.2.1.below hb).alloc (.cells #[.string ⟨a0.toArray⟩, .bool a1, .bool a2, .slice ga a3.length gc, .int .i64 a4, .slice ua l.length uc] 74))
  have BQ1 := Lib.hid (Bx.new w1 [.string ⟨a0.toArray⟩, .bool a1, .bool a2, .slice ga a3.length gc, .int .i64 a4, .slice ua l.length uc] 74)
  have O3 := Lib.hid (ownsF_alloc (ownsF_base (B' := w.heap.size + 1 + 1 + 1) ho3 (by simp)) (.cells #[.string ⟨a0.toArray⟩, .bool a1, .bool a2, .slice ga a3.length gc, .int .i64 a4, .slice ua l.length uc] 74))
  have O5 := Lib.hid (ownsF_alloc (ownsF_base (B' := w.heap.size + 1 + 1 + 1) ho5 (by simp)) (.cells #[.string ⟨a0.toArray⟩, .bool a1, .bool a2, .slice ga a3.length gc, .int .i64 a4, .slice ua l.length uc] 74))
  have h3s := hb.size
  simp at h3s
  clear hb ho3 ho5 BS
  go_wp2_with fail
  refine (HLN.out _).mono ?_
  rintro e w2 ⟨rfl, rfl⟩
  have q0 := BQ1.out.cell 0 (by simp)
  have q1 := BQ1.out.cell 1 (by simp)
  have q2 := BQ1.out.cell 2 (by simp)
  have q3 := BQ1.out.cell 3 (by simp)
  have q4 := BQ1.out.cell 4 (by simp)
  have q5 := BQ1.out.cell 5 (by simp)
  simp only [List.getElem_cons_zero, List.getElem_cons_succ] at q0 q1 q2 q3 q4 q5
  have HRQ := Lib.hid (show rPart 0 (w1.alloc (.cells #[.string ⟨a0.toArray⟩, .bool a1, .bool a2, .slice ga a3.length gc, .int .i64 a4, .slice ua l.length uc] 74)) [.string ⟨a0.toArray⟩, .bool a1, .bool a2, .slice ga a3.length gc, .int .i64 a4, .slice ua l.length uc] ⟨⟨a0, a1, a2, a3, a4⟩, l⟩ from goodPart.mono (oPart_r ⟨_, _, rfl, O3.out, O5.out⟩ HSP.out) (Nat.zero_le _))
  go_wp2_with fail
  refine (HIP.out _ _ HRQ.out).mono ?_
  rintro e w2 ⟨rfl, hb⟩
  have HB2 := Lib.hid (belS HB1.out hb)
  have B42 := Lib.hid (B41.out.below hb)
  have B52 := Lib.hid (B51.out.below hb)
  have BQ2 := Lib.hid (BQ1.out.below hb)
  have P3 := Lib.hid (ownsF_below O3.out hb (Nat.le_refl _))
  have P5 := Lib.hid (ownsF_below O5.out hb (Nat.le_refl _))
  have h4s := hb.size
  simp at h4s
  clear hb q0 q1 q2 q3 q4 q5
  have h3 := H3.out
  try simp only at h3
  have hl3 : ((l.length : Int) == 3) = true := by rw [h3]; rfl
  clear h3
  have q0 := BQ2.out.cell 0 (by simp)
  have q1 := BQ2.out.cell 1 (by simp)
  have q2 := BQ2.out.cell 2 (by simp)
  have q3 := BQ2.out.cell 3 (by simp)
  have q4 := BQ2.out.cell 4 (by simp)
  have q5 := BQ2.out.cell 5 (by simp)
  simp only [List.getElem_cons_zero, List.getElem_cons_succ] at q0 q1 q2 q3 q4 q5
  have r0 := B42.out.cell 0 (by simp)
  have r1 := B42.out.cell 1 (by simp)
  have r2 := B42.out.cell 2 (by simp)
  have r3 := B42.out.cell 3 (by simp)
  have r4 := B42.out.cell 4 (by simp)
  have r5 := B42.out.cell 5 (by simp)
  simp only [List.getElem_cons_zero, List.getElem_cons_succ] at r0 r1 r2 r3 r4 r5
  have z0 := B42.out.froz 0 (by simp)
  have z1 := B42.out.froz 1 (by simp)
  have z2 := B42.out.froz 2 (by simp)
  have z3 := B42.out.froz 3 (by simp)
  have z4 := B42.out.froz 4 (by simp)
  have z5 := B42.out.froz 5 (by simp)
  have s0 := B52.out.cell 0 (by simp)
  have s1 := B52.out.cell 1 (by simp)
  have s2 := B52.out.cell 2 (by simp)
  have s3 := B52.out.cell 3 (by simp)
  have s4 := B52.out.cell 4 (by simp)
  simp only [List.getElem_cons_zero, List.getElem_cons_succ] at s0 s1 s2 s3 s4
  have y0 := B52.out.froz 0 (by simp)
  have y1 := B52.out.froz 1 (by simp)
  have y2 := B52.out.froz 2 (by simp)
  have y3 := B52.out.froz 3 (by simp)
  have y4 := B52.out.froz 4 (by simp)
  go_wp2_with fail
  clear q0 q1 q2 q3 q4 q5
  clear r0 r1 r2 r3 r4 r5 z0 z1 z2 z3 z4 z5 s0 s1 s2 s3 s4 y0 y1 y2 y3 y4
  have E4 := Lib.hid ((B42.out.put6 (.string ⟨a0.toArray⟩) (.bool a1) (.bool a2) (.slice ga a3.length gc) (.int .i64 a4) (.slice ua l.length uc)).put5o (c := w.heap.size + 1 + 1) (by omega) (.int .i64 5) (.int .i64 0) (.string ⟨#[]⟩) (.int .i64 0) (.int .i64 0))
  have E5 := Lib.hid ((B52.out.put6o (c := w.heap.size + 1) (by omega) (.string ⟨a0.toArray⟩) (.bool a1) (.bool a2) (.slice ga a3.length gc) (.int .i64 a4) (.slice ua l.length uc)).put5 (.int .i64 5) (.int .i64 0) (.string ⟨#[]⟩) (.int .i64 0) (.int .i64 0))
  have EB := Lib.hid (below_put5 (below_put6 HB2.out (w.heap.size + 1) (by omega) (.string ⟨a0.toArray⟩) (.bool a1) (.bool a2) (.slice ga a3.length gc) (.int .i64 a4) (.slice ua l.length uc)) (w.heap.size + 1 + 1) (by omega) (.int .i64 5) (.int .i64 0) (.string ⟨#[]⟩) (.int .i64 0) (.int .i64 0))
  have OC := Lib.hid (ownsF_put5 (ownsF_put6 P3.out (w.heap.size + 1) (by omega) (.string ⟨a0.toArray⟩) (.bool a1) (.bool a2) (.slice ga a3.length gc) (.int .i64 a4) (.slice ua l.length uc)) (w.heap.size + 1 + 1) (by omega) (.int .i64 5) (.int .i64 0) (.string ⟨#[]⟩) (.int .i64 0) (.int .i64 0))
  have OL := Lib.hid (ownsF_put5 (ownsF_put6 P5.out (w.heap.size + 1) (by omega) (.string ⟨a0.toArray⟩) (.bool a1) (.bool a2) (.slice ga a3.length gc) (.int .i64 a4) (.slice ua l.length uc)) (w.heap.size + 1 + 1) (by omega) (.int .i64 5) (.int .i64 0) (.string ⟨#[]⟩) (.int .i64 0) (.int .i64 0))
  generalize (((((((((((w2.setCell ⟨w.heap.size + 1, 0, none⟩ (.string ⟨a0.toArray⟩)).setCell ⟨w.heap.size + 1, 1, none⟩ (.bool a1)).setCell ⟨w.heap.size + 1, 2, none⟩ (.bool a2)).setCell ⟨w.heap.size + 1, 3, none⟩ (.slice ga a3.length gc)).setCell ⟨w.heap.size + 1, 4, none⟩ (.int .i64 a4)).setCell ⟨w.heap.size + 1, 5, none⟩ (.slice ua l.length uc)).setCell ⟨w.heap.size + 1 + 1, 0, none⟩ (.int .i64 5)).setCell ⟨w.heap.size + 1 + 1, 1, none⟩ (.int .i64 0)).setCell ⟨w.heap.size + 1 + 1, 2, none⟩ (.string ⟨#[]⟩)).setCell ⟨w.heap.size + 1 + 1, 3, none⟩ (.int .i64 0)).setCell ⟨w.heap.size + 1 + 1, 4, none⟩ (.int .i64 0)) = WE at *
  have r0 := E4.out.cell 0 (by simp)
  have r1 := E4.out.cell 1 (by simp)
  have r2 := E4.out.cell 2 (by simp)
  have r3 := E4.out.cell 3 (by simp)
  have r4 := E4.out.cell 4 (by simp)
  have r5 := E4.out.cell 5 (by simp)
  simp only [List.getElem_cons_zero, List.getElem_cons_succ] at r0 r1 r2 r3 r4 r5
  have s0 := E5.out.cell 0 (by simp)
  have s1 := E5.out.cell 1 (by simp)
  have s2 := E5.out.cell 2 (by simp)
  have s3 := E5.out.cell 3 (by simp)
  have s4 := E5.out.cell 4 (by simp)
  simp only [List.getElem_cons_zero, List.getElem_cons_succ] at s0 s1 s2 s3 s4
  exact bodyPost_ret (v := .tuple #[.agg #[.string ⟨a0.toArray⟩, .bool a1, .bool a2, .slice ga a3.length gc, .int .i64 a4, .slice ua l.length uc], .agg #[.int .i64 5, .int .i64 0, .string ⟨#[]⟩, .int .i64 0, .int .i64 0]]) (by simp [results, Tryz.results109, go_sem, r0, r1, r2, r3, r4, r5, s0, s1, s2, s3, s4]) rfl ⟨_, rfl, ⟨_, _, rfl, ownsF_base OC.out (by omega), ownsF_base OL.out (by omega)⟩, EB.out⟩
set_option maxRecDepth 100000 in
set_option maxHeartbeats 3200000 in
theorem implWrap_fail (v : Value) (x : PartD) (s : ByteArray) (w : World) (hx : ValAt rPart 0 w v x) (hs : SmallP x) (hk : ∀ c ∈ x.fCore.fCells, c.fKey.length ≤ maxLen) (hz : s.size ≤ 1048576) (hc : 0 ≤ layI s.data.toList) (hp : partB x = true) (h3 : ¬ x.fLayers.length = 3) (ho : offersF (faceP x) (needI (layI s.data.toList)) = false) :
    Calls Tryz.prog 109 #[v, .string s] w fun e w' => GivesOPR (wrapP x s.data.toList) (wrapR x s.data.toList) w e w' := by
  obtain ⟨hwp, hwr⟩ := wrap_fail (x := x) (s := s.data.toList) ⟨hp, hc⟩ h3 ho
  rw [hwp, hwr]
  clear hwp hwr
  have HTX := Lib.hid (fun W => copyText_any s W (by omega))
  have H3 := Lib.hid h3
  clear h3
  obtain ⟨q, hq1, hq2, hq3⟩ : ∃ q : Nat, layI s.data.toList = q ∧ q < 9 ∧ layN q = s.data.toList := by
    rcases layI_bd s.data.toList with h1 | h1
    · omega
    · exact h1
  have hn : needI (layI s.data.toList) = needN q := by rw [hq1]; unfold needI; rw [if_neg (by omega)]; rfl
  have hg : giveI (layI s.data.toList) = giveN q := by rw [hq1]; unfold giveI; rw [if_neg (by omega)]; rfl
  rw [hn] at ho
  rw [hn]
  have HWP := Lib.hid (fun b0 cs W (h : rPart 0 W cs x) (hb : Bx W b0 cs) => wholePart_c b0 cs x W h hb hp)
  have HNM := Lib.hid (show Value.string s = .string ⟨(layN q).toArray⟩ by rw [hq3])
  have HNS := Lib.hid hq3
  have HO := Lib.hid ho
  have HQ := Lib.hid hq2
  clear hq1 hn hg ho
  obtain ⟨_, rfl, hx⟩ := hx
  have HX := Lib.hid (fun W (hb : Below w.heap.size w W) => goodPart.keep hx (kept_below hb (Nat.le_refl _)))
  have HIP := Lib.hid (fun cs W (h : rPart 0 W cs x) => implIsPart_any (.agg cs.toArray) x W ⟨cs, rfl, h⟩ hk)
  have HCP := Lib.hid (fun cs W (h : rPart 0 W cs x) => copyPart_c (.agg cs.toArray) x W ⟨cs, rfl, h⟩ hs)
  have HLN := Lib.hid (fun W => implLayerNeeds_any s W)
  have HSZ := Lib.hid hs.lays
  unfold ndV at HLN
  unfold GivesOPR vReply
  unfold GivesOP at HCP
  rw [show decide (0 ≤ layI s.data.toList) = true from decide_eq_true hc] at HLN
  rw [hp] at HIP
  generalize needI (layI s.data.toList) = nd at HLN
  generalize faceP x = fp at *
  have HSP := Lib.hid hs
  obtain ⟨⟨a0, a1, a2, a3, a4⟩, l⟩ := x
  obtain ⟨v3, v5, rfl, h3, h5⟩ := hx
  simp only at h3 h5 HSZ
  obtain ⟨ra, rc, rfl, _⟩ := sliceAt_len h3
  obtain ⟨sa, sc, rfl, hl, hcap⟩ := sliceAt_cap h5
  clear h3 h5 hs hk hcap hl
  have BS := Lib.hid (bx_start3 w [.string ⟨a0.toArray⟩, .bool a1, .bool a2, .slice ra a3.length rc, .int .i64 a4, .slice sa l.length sc] [.string ⟨#[]⟩, .bool false, .bool false, .slice none 0 0, .int .i64 0, .slice none 0 0] [.int .i64 0, .int .i64 0, .string ⟨#[]⟩, .int .i64 0, .int .i64 0] 74 74 76)
  have HR0 := Lib.hid (HX.out _ BS.out.2.2.2)
  clear hc hp
  go_enter Tryz.func109, Tryz.ntmps109
  go_wp2_with fail
  refine (HCP.out _ _ HR0.out).mono ?_
  rintro e w1 ⟨_, rfl, ⟨u3, u5, rfl, ho3, ho5⟩, hb⟩
  simp only at ho3 ho5
  obtain ⟨ga, gc, rfl⟩ := slice_of ho3
  obtain ⟨ua, uc, rfl⟩ := slice_of ho5
  have HB1 := Lib.hid ((belS BS.out.2.2.2 hb).alloc (belS BS.out.2.2.2 hb).size (.cells #[.string ⟨a0.toArray⟩, .bool a1, .bool a2, .slice ga a3.length gc, .int .i64 a4, .slice ua l.length uc] 74))
  have B41 := Lib.hid ((BS.out.2.1.below hb).alloc (.cells #[.string ⟨a0.toArray⟩, .bool a1, .bool a2, .slice ga a3.length gc, .int .i64 a4, .slice ua l.length uc] 74))
  have B51 := Lib.hid ((BS.out.2.2.1.below hb).alloc (.cells #[.string ⟨a0.toArray⟩, .bool a1, .bool a2, .slice ga a3.length gc, .int .i64 a4, .slice ua l.length uc] 74))
  have BQ1 := Lib.hid (Bx.new w1 [.string ⟨a0.toArray⟩, .bool a1, .bool a2, .slice ga a3.length gc, .int .i64 a4, .slice ua l.length uc] 74)
  have O3 := Lib.hid (ownsF_alloc (ownsF_base (B' := w.heap.size + 1 + 1 + 1) ho3 (by simp)) (.cells #[.string ⟨a0.toArray⟩, .bool a1, .bool a2, .slice ga a3.length gc, .int .i64 a4, .slice ua l.length uc] 74))
  have O5 := Lib.hid (ownsF_alloc (ownsF_base (B' := w.heap.size + 1 + 1 + 1) ho5 (by simp)) (.cells #[.string ⟨a0.toArray⟩, .bool a1, .bool a2, .slice ga a3.length gc, .int .i64 a4, .slice ua l.length uc] 74))
  have h3s := hb.size
  simp at h3s
  clear hb ho3 ho5 BS
  go_wp2_with fail
  refine (HLN.out _).mono ?_
  rintro e w2 ⟨rfl, rfl⟩
  have q0 := BQ1.out.cell 0 (by simp)
  have q1 := BQ1.out.cell 1 (by simp)
  have q2 := BQ1.out.cell 2 (by simp)
  have q3 := BQ1.out.cell 3 (by simp)
  have q4 := BQ1.out.cell 4 (by simp)
  have q5 := BQ1.out.cell 5 (by simp)
  simp only [List.getElem_cons_zero, List.getElem_cons_succ] at q0 q1 q2 q3 q4 q5
  have HRQ := Lib.hid (show rPart 0 (w1.alloc (.cells #[.string ⟨a0.toArray⟩, .bool a1, .bool a2, .slice ga a3.length gc, .int .i64 a4, .slice ua l.length uc] 74)) [.string ⟨a0.toArray⟩, .bool a1, .bool a2, .slice ga a3.length gc, .int .i64 a4, .slice ua l.length uc] ⟨⟨a0, a1, a2, a3, a4⟩, l⟩ from goodPart.mono (oPart_r ⟨_, _, rfl, O3.out, O5.out⟩ HSP.out) (Nat.zero_le _))
  go_wp2_with fail
  refine (HIP.out _ _ HRQ.out).mono ?_
  rintro e w2 ⟨rfl, hb⟩
  have HB2 := Lib.hid (belS HB1.out hb)
  have B42 := Lib.hid (B41.out.below hb)
  have B52 := Lib.hid (B51.out.below hb)
  have BQ2 := Lib.hid (BQ1.out.below hb)
  have P3 := Lib.hid (ownsF_below O3.out hb (Nat.le_refl _))
  have P5 := Lib.hid (ownsF_below O5.out hb (Nat.le_refl _))
  have h4s := hb.size
  simp at h4s
  clear hb q0 q1 q2 q3 q4 q5
  have h3 := H3.out
  try simp only at h3
  have hl3 : ¬ (l.length : Int) = 3 := by omega
  clear h3
  have q0 := BQ2.out.cell 0 (by simp)
  have q1 := BQ2.out.cell 1 (by simp)
  have q2 := BQ2.out.cell 2 (by simp)
  have q3 := BQ2.out.cell 3 (by simp)
  have q4 := BQ2.out.cell 4 (by simp)
  have q5 := BQ2.out.cell 5 (by simp)
  simp only [List.getElem_cons_zero, List.getElem_cons_succ] at q0 q1 q2 q3 q4 q5
  go_wp2_with fail
  refine (HTX.out _).mono ?_
  rintro e w3 ⟨rfl, hb⟩
  have HB3 := Lib.hid ((belS HB2.out hb).alloc (belS HB2.out hb).size (.cells #[.string s, .int .i64 0] 137))
  have B43 := Lib.hid ((B42.out.below hb).alloc (.cells #[.string s, .int .i64 0] 137))
  have B53 := Lib.hid ((B52.out.below hb).alloc (.cells #[.string s, .int .i64 0] 137))
  have BQ3 := Lib.hid ((BQ2.out.below hb).alloc (.cells #[.string s, .int .i64 0] 137))
  have BL3 := Lib.hid (Bx.new w3 [.string s, .int .i64 0] 137)
  have R3 := Lib.hid (ownsF_alloc (ownsF_below P3.out hb (Nat.le_refl _)) (.cells #[.string s, .int .i64 0] 137))
  have R5 := Lib.hid (ownsF_alloc (ownsF_below P5.out hb (Nat.le_refl _)) (.cells #[.string s, .int .i64 0] 137))
  have h5s := hb.size
  clear hb q0 q1 q2 q3 q4 q5
  have HRW := Lib.hid (show rPart 0 (w3.alloc (.cells #[.string s, .int .i64 0] 137)) [.string ⟨a0.toArray⟩, .bool a1, .bool a2, .slice ga a3.length gc, .int .i64 a4, .slice ua l.length uc] ⟨⟨a0, a1, a2, a3, a4⟩, l⟩ from goodPart.mono (oPart_r ⟨_, _, rfl, R3.out, R5.out⟩ HSP.out) (Nat.zero_le _))
  go_wp2_with fail
  refine (HWP.out _ _ _ HRW.out BQ3.out).mono ?_
  rintro e w4 ⟨pv, rfl, hpv, hb⟩
  have HB4 := Lib.hid (belS HB3.out hb)
  have B44 := Lib.hid (B43.out.below hb)
  have B54 := Lib.hid (B53.out.below hb)
  have BQ4 := Lib.hid (BQ3.out.below hb)
  have BL4 := Lib.hid (BL3.out.below hb)
  have S3 := Lib.hid (ownsF_below R3.out hb (Nat.le_refl _))
  have S5 := Lib.hid (ownsF_below R5.out hb (Nat.le_refl _))
  have h6s := hb.size
  simp at h6s
  have HPV := Lib.hid hpv
  have l0 := BL4.out.cell 0 (by simp)
  simp only [List.getElem_cons_zero] at l0
  rw [HNM.out] at l0
  have HWI := Lib.hid (wrapIn_c w3.heap.size 0 q HQ.out pv fp w4 l0 HPV.out)
  clear hb hpv l0
  go_wp2_with fail
  refine HWI.out.mono ?_
  rintro e w5 ⟨hb, hres⟩
  obtain rfl : e = .returned (.tuple #[pv, vReply ⟨1, 0, [], needN q, fp⟩]) := by
    rcases hres with ⟨h, _⟩ | ⟨_, h⟩
    · rw [HO.out] at h; cases h
    · exact h
  unfold vReply
  have HB5 := Lib.hid ((belS HB4.out hb).alloc (belS HB4.out hb).size (.cells #[.int .i64 1, .int .i64 0, .string ⟨#[]⟩, .int .i64 (needN q), .int .i64 fp] 76))
  have B45 := Lib.hid ((B44.out.below hb).alloc (.cells #[.int .i64 1, .int .i64 0, .string ⟨#[]⟩, .int .i64 (needN q), .int .i64 fp] 76))
  have B55 := Lib.hid ((B54.out.below hb).alloc (.cells #[.int .i64 1, .int .i64 0, .string ⟨#[]⟩, .int .i64 (needN q), .int .i64 fp] 76))
  have BQ5 := Lib.hid ((BQ4.out.below hb).alloc (.cells #[.int .i64 1, .int .i64 0, .string ⟨#[]⟩, .int .i64 (needN q), .int .i64 fp] 76))
  have BL5 := Lib.hid ((BL4.out.below hb).alloc (.cells #[.int .i64 1, .int .i64 0, .string ⟨#[]⟩, .int .i64 (needN q), .int .i64 fp] 76))
  have BR5 := Lib.hid (Bx.new w5 [.int .i64 1, .int .i64 0, .string ⟨#[]⟩, .int .i64 (needN q), .int .i64 fp] 76)
  have T3 := Lib.hid (ownsF_alloc (ownsF_below S3.out hb (Nat.le_refl _)) (.cells #[.int .i64 1, .int .i64 0, .string ⟨#[]⟩, .int .i64 (needN q), .int .i64 fp] 76))
  have T5 := Lib.hid (ownsF_alloc (ownsF_below S5.out hb (Nat.le_refl _)) (.cells #[.int .i64 1, .int .i64 0, .string ⟨#[]⟩, .int .i64 (needN q), .int .i64 fp] 76))
  have h7s := hb.size
  clear hb hres
  have t0 := BR5.out.cell 0 (by simp)
  have t1 := BR5.out.cell 1 (by simp)
  have t2 := BR5.out.cell 2 (by simp)
  have t3 := BR5.out.cell 3 (by simp)
  have t4 := BR5.out.cell 4 (by simp)
  simp only [List.getElem_cons_zero, List.getElem_cons_succ] at t0 t1 t2 t3 t4
  go_wp2_with fail
  clear t0 t1 t2 t3 t4
  have t0 := BR5.out.cell 0 (by simp)
  have t1 := BR5.out.cell 1 (by simp)
  have t2 := BR5.out.cell 2 (by simp)
  have t3 := BR5.out.cell 3 (by simp)
  have t4 := BR5.out.cell 4 (by simp)
  simp only [List.getElem_cons_zero, List.getElem_cons_succ] at t0 t1 t2 t3 t4
  have q0 := BQ5.out.cell 0 (by simp)
  have q1 := BQ5.out.cell 1 (by simp)
  have q2 := BQ5.out.cell 2 (by simp)
  have q3 := BQ5.out.cell 3 (by simp)
  have q4 := BQ5.out.cell 4 (by simp)
  have q5 := BQ5.out.cell 5 (by simp)
  simp only [List.getElem_cons_zero, List.getElem_cons_succ] at q0 q1 q2 q3 q4 q5
  have r0 := B45.out.cell 0 (by simp)
  have r1 := B45.out.cell 1 (by simp)
  have r2 := B45.out.cell 2 (by simp)
  have r3 := B45.out.cell 3 (by simp)
  have r4 := B45.out.cell 4 (by simp)
  have r5 := B45.out.cell 5 (by simp)
  simp only [List.getElem_cons_zero, List.getElem_cons_succ] at r0 r1 r2 r3 r4 r5
  have z0 := B45.out.froz 0 (by simp)
  have z1 := B45.out.froz 1 (by simp)
  have z2 := B45.out.froz 2 (by simp)
  have z3 := B45.out.froz 3 (by simp)
  have z4 := B45.out.froz 4 (by simp)
  have z5 := B45.out.froz 5 (by simp)
  have s0 := B55.out.cell 0 (by simp)
  have s1 := B55.out.cell 1 (by simp)
  have s2 := B55.out.cell 2 (by simp)
  have s3 := B55.out.cell 3 (by simp)
  have s4 := B55.out.cell 4 (by simp)
  simp only [List.getElem_cons_zero, List.getElem_cons_succ] at s0 s1 s2 s3 s4
  have y0 := B55.out.froz 0 (by simp)
  have y1 := B55.out.froz 1 (by simp)
  have y2 := B55.out.froz 2 (by simp)
  have y3 := B55.out.froz 3 (by simp)
  have y4 := B55.out.froz 4 (by simp)
  go_region
  all_goals (try go_wp2_with fail)
  all_goals
    refine bodyPost_ret (v := .tuple #[.agg #[.string ⟨a0.toArray⟩, .bool a1, .bool a2, .slice ga a3.length gc, .int .i64 a4, .slice ua l.length uc], .agg #[.int .i64 1, .int .i64 0, .string ⟨#[]⟩, .int .i64 (needN q), .int .i64 fp]]) (by simp [results, Tryz.results109, go_sem, cell_set_at, cell_set_ne, t0, t1, t2, t3, t4, r0, r1, r2, r3, r4, r5, s0, s1, s2, s3, s4]) rfl ⟨_, rfl, ⟨_, _, rfl, ?_, ?_⟩, ?_⟩
    · refine ownsF_base (B := (((w.heap.size + 1) + 1) + 1)) ?_ (by omega)
      repeat (first | with_reducible refine ownsF_set ?_ (by simp; try omega) | with_reducible refine ownsF_drew ?_)
      have h := T3.out
      simpa using h
    · refine ownsF_base (B := (((w.heap.size + 1) + 1) + 1)) ?_ (by omega)
      repeat (first | with_reducible refine ownsF_set ?_ (by simp; try omega) | with_reducible refine ownsF_drew ?_)
      have h := T5.out
      simpa using h
    · repeat (first | with_reducible exact HB5.out | with_reducible refine Below.setCell ?_ (by simp; try omega) _ | with_reducible refine Below.drew ?_)
set_option maxRecDepth 100000 in
set_option maxHeartbeats 3200000 in
theorem implWrap_ok (v : Value) (x : PartD) (s : ByteArray) (w : World) (hx : ValAt rPart 0 w v x) (hs : SmallP x) (hk : ∀ c ∈ x.fCore.fCells, c.fKey.length ≤ maxLen) (hz : s.size ≤ 1048576) (hc : 0 ≤ layI s.data.toList) (hp : partB x = true) (h3 : ¬ x.fLayers.length = 3) (ho : offersF (faceP x) (needI (layI s.data.toList)) = true) :
    Calls Tryz.prog 109 #[v, .string s] w fun e w' => GivesOPR (wrapP x s.data.toList) (wrapR x s.data.toList) w e w' := by
  obtain ⟨hwp, hwr⟩ := wrap_ok (x := x) (s := s.data.toList) ⟨hp, hc⟩ h3 ho
  rw [hwp, hwr]
  clear hwp hwr
  have HTX := Lib.hid (fun W => copyText_any s W (by omega))
  have H3 := Lib.hid h3
  clear h3
  obtain ⟨q, hq1, hq2, hq3⟩ : ∃ q : Nat, layI s.data.toList = q ∧ q < 9 ∧ layN q = s.data.toList := by
    rcases layI_bd s.data.toList with h1 | h1
    · omega
    · exact h1
  have hn : needI (layI s.data.toList) = needN q := by rw [hq1]; unfold needI; rw [if_neg (by omega)]; rfl
  have hg : giveI (layI s.data.toList) = giveN q := by rw [hq1]; unfold giveI; rw [if_neg (by omega)]; rfl
  rw [hn] at ho
  rw [hg]
  have HWP := Lib.hid (fun b0 cs W (h : rPart 0 W cs x) (hb : Bx W b0 cs) => wholePart_c b0 cs x W h hb hp)
  have HNM := Lib.hid (show Value.string s = .string ⟨(layN q).toArray⟩ by rw [hq3])
  have HNS := Lib.hid hq3
  have HO := Lib.hid ho
  have HQ := Lib.hid hq2
  clear hq1 hn hg ho
  obtain ⟨_, rfl, hx⟩ := hx
  have HX := Lib.hid (fun W (hb : Below w.heap.size w W) => goodPart.keep hx (kept_below hb (Nat.le_refl _)))
  have HIP := Lib.hid (fun cs W (h : rPart 0 W cs x) => implIsPart_any (.agg cs.toArray) x W ⟨cs, rfl, h⟩ hk)
  have HCP := Lib.hid (fun cs W (h : rPart 0 W cs x) => copyPart_c (.agg cs.toArray) x W ⟨cs, rfl, h⟩ hs)
  have HLN := Lib.hid (fun W => implLayerNeeds_any s W)
  have HSZ := Lib.hid hs.lays
  unfold ndV at HLN
  unfold GivesOPR vReply
  unfold GivesOP at HCP
  rw [show decide (0 ≤ layI s.data.toList) = true from decide_eq_true hc] at HLN
  rw [hp] at HIP
  generalize needI (layI s.data.toList) = nd at HLN
  generalize faceP x = fp at *
  have HSP := Lib.hid hs
  obtain ⟨⟨a0, a1, a2, a3, a4⟩, l⟩ := x
  obtain ⟨v3, v5, rfl, h3, h5⟩ := hx
  simp only at h3 h5 HSZ
  obtain ⟨ra, rc, rfl, _⟩ := sliceAt_len h3
  obtain ⟨sa, sc, rfl, hl, hcap⟩ := sliceAt_cap h5
  clear h3 h5 hs hk hcap hl
  have BS := Lib.hid (bx_start3 w [.string ⟨a0.toArray⟩, .bool a1, .bool a2, .slice ra a3.length rc, .int .i64 a4, .slice sa l.length sc] [.string ⟨#[]⟩, .bool false, .bool false, .slice none 0 0, .int .i64 0, .slice none 0 0] [.int .i64 0, .int .i64 0, .string ⟨#[]⟩, .int .i64 0, .int .i64 0] 74 74 76)
  have HR0 := Lib.hid (HX.out _ BS.out.2.2.2)
  clear hc hp
  go_enter Tryz.func109, Tryz.ntmps109
  go_wp2_with fail
  refine (HCP.out _ _ HR0.out).mono ?_
  rintro e w1 ⟨_, rfl, ⟨u3, u5, rfl, ho3, ho5⟩, hb⟩
  simp only at ho3 ho5
  obtain ⟨ga, gc, rfl⟩ := slice_of ho3
  obtain ⟨ua, uc, rfl⟩ := slice_of ho5
  have HB1 := Lib.hid ((belS BS.out.2.2.2 hb).alloc (belS BS.out.2.2.2 hb).size (.cells #[.string ⟨a0.toArray⟩, .bool a1, .bool a2, .slice ga a3.length gc, .int .i64 a4, .slice ua l.length uc] 74))
  have B41 := Lib.hid ((BS.out.2.1.below hb).alloc (.cells #[.string ⟨a0.toArray⟩, .bool a1, .bool a2, .slice ga a3.length gc, .int .i64 a4, .slice ua l.length uc] 74))
  have B51 := Lib.hid ((BS.out.2.2.1.below hb).alloc (.cells #[.string ⟨a0.toArray⟩, .bool a1, .bool a2, .slice ga a3.length gc, .int .i64 a4, .slice ua l.length uc] 74))
  have BQ1 := Lib.hid (Bx.new w1 [.string ⟨a0.toArray⟩, .bool a1, .bool a2, .slice ga a3.length gc, .int .i64 a4, .slice ua l.length uc] 74)
  have O3 := Lib.hid (ownsF_alloc (ownsF_base (B' := w.heap.size + 1 + 1 + 1) ho3 (by simp)) (.cells #[.string ⟨a0.toArray⟩, .bool a1, .bool a2, .slice ga a3.length gc, .int .i64 a4, .slice ua l.length uc] 74))
  have O5 := Lib.hid (ownsF_alloc (ownsF_base (B' := w.heap.size + 1 + 1 + 1) ho5 (by simp)) (.cells #[.string ⟨a0.toArray⟩, .bool a1, .bool a2, .slice ga a3.length gc, .int .i64 a4, .slice ua l.length uc] 74))
  have h3s := hb.size
  simp at h3s
  have HU5 := Lib.hid (fun g (h : (Value.slice ua l.length uc).ownBlock = some g) => (show w.heap.size + 1 + 1 + 1 ≤ g ∧ g < w1.heap.size from ⟨by have := (World.ownsRow.lt ho5 g h).1; simpa using this, (World.ownsRow.lt ho5 g h).2⟩))
  have HU3 := Lib.hid (fun g (h : (Value.slice ga a3.length gc).ownBlock = some g) => (show g < w1.heap.size from (World.ownsRow.lt ho3 g h).2))
  clear hb ho3 ho5 BS
  go_wp2_with fail
  refine (HLN.out _).mono ?_
  rintro e w2 ⟨rfl, rfl⟩
  have q0 := BQ1.out.cell 0 (by simp)
  have q1 := BQ1.out.cell 1 (by simp)
  have q2 := BQ1.out.cell 2 (by simp)
  have q3 := BQ1.out.cell 3 (by simp)
  have q4 := BQ1.out.cell 4 (by simp)
  have q5 := BQ1.out.cell 5 (by simp)
  simp only [List.getElem_cons_zero, List.getElem_cons_succ] at q0 q1 q2 q3 q4 q5
  have HRQ := Lib.hid (show rPart 0 (w1.alloc (.cells #[.string ⟨a0.toArray⟩, .bool a1, .bool a2, .slice ga a3.length gc, .int .i64 a4, .slice ua l.length uc] 74)) [.string ⟨a0.toArray⟩, .bool a1, .bool a2, .slice ga a3.length gc, .int .i64 a4, .slice ua l.length uc] ⟨⟨a0, a1, a2, a3, a4⟩, l⟩ from goodPart.mono (oPart_r ⟨_, _, rfl, O3.out, O5.out⟩ HSP.out) (Nat.zero_le _))
  go_wp2_with fail
  refine (HIP.out _ _ HRQ.out).mono ?_
  rintro e w2 ⟨rfl, hb⟩
  have HB2 := Lib.hid (belS HB1.out hb)
  have B42 := Lib.hid (B41.out.below hb)
  have B52 := Lib.hid (B51.out.below hb)
  have BQ2 := Lib.hid (BQ1.out.below hb)
  have P3 := Lib.hid (ownsF_below O3.out hb (Nat.le_refl _))
  have P5 := Lib.hid (ownsF_below O5.out hb (Nat.le_refl _))
  have h4s := hb.size
  simp at h4s
  clear hb q0 q1 q2 q3 q4 q5
  have h3 := H3.out
  try simp only at h3
  have hl3 : ¬ (l.length : Int) = 3 := by omega
  clear h3
  have q0 := BQ2.out.cell 0 (by simp)
  have q1 := BQ2.out.cell 1 (by simp)
  have q2 := BQ2.out.cell 2 (by simp)
  have q3 := BQ2.out.cell 3 (by simp)
  have q4 := BQ2.out.cell 4 (by simp)
  have q5 := BQ2.out.cell 5 (by simp)
  simp only [List.getElem_cons_zero, List.getElem_cons_succ] at q0 q1 q2 q3 q4 q5
  go_wp2_with fail
  refine (HTX.out _).mono ?_
  rintro e w3 ⟨rfl, hb⟩
  have HB3 := Lib.hid ((belS HB2.out hb).alloc (belS HB2.out hb).size (.cells #[.string s, .int .i64 0] 137))
  have B43 := Lib.hid ((B42.out.below hb).alloc (.cells #[.string s, .int .i64 0] 137))
  have B53 := Lib.hid ((B52.out.below hb).alloc (.cells #[.string s, .int .i64 0] 137))
  have BQ3 := Lib.hid ((BQ2.out.below hb).alloc (.cells #[.string s, .int .i64 0] 137))
  have BL3 := Lib.hid (Bx.new w3 [.string s, .int .i64 0] 137)
  have R3 := Lib.hid (ownsF_alloc (ownsF_below P3.out hb (Nat.le_refl _)) (.cells #[.string s, .int .i64 0] 137))
  have R5 := Lib.hid (ownsF_alloc (ownsF_below P5.out hb (Nat.le_refl _)) (.cells #[.string s, .int .i64 0] 137))
  have h5s := hb.size
  clear hb q0 q1 q2 q3 q4 q5
  have HRW := Lib.hid (show rPart 0 (w3.alloc (.cells #[.string s, .int .i64 0] 137)) [.string ⟨a0.toArray⟩, .bool a1, .bool a2, .slice ga a3.length gc, .int .i64 a4, .slice ua l.length uc] ⟨⟨a0, a1, a2, a3, a4⟩, l⟩ from goodPart.mono (oPart_r ⟨_, _, rfl, R3.out, R5.out⟩ HSP.out) (Nat.zero_le _))
  go_wp2_with fail
  refine (HWP.out _ _ _ HRW.out BQ3.out).mono ?_
  rintro e w4 ⟨pv, rfl, hpv, hb⟩
  have HB4 := Lib.hid (belS HB3.out hb)
  have B44 := Lib.hid (B43.out.below hb)
  have B54 := Lib.hid (B53.out.below hb)
  have BQ4 := Lib.hid (BQ3.out.below hb)
  have BL4 := Lib.hid (BL3.out.below hb)
  have S3 := Lib.hid (ownsF_below R3.out hb (Nat.le_refl _))
  have S5 := Lib.hid (ownsF_below R5.out hb (Nat.le_refl _))
  have h6s := hb.size
  simp at h6s
  have HPV := Lib.hid hpv
  have l0 := BL4.out.cell 0 (by simp)
  simp only [List.getElem_cons_zero] at l0
  rw [HNM.out] at l0
  have HWI := Lib.hid (wrapIn_c w3.heap.size 0 q HQ.out pv fp w4 l0 HPV.out)
  clear hb hpv l0
  go_wp2_with fail
  refine HWI.out.mono ?_
  rintro e w5 ⟨hb, hres⟩
  obtain rfl : e = .returned (.tuple #[wrapV w3.heap.size 0 pv q, vReply ⟨0, giveN q, [], 0, 0⟩]) := by
    rcases hres with ⟨_, h⟩ | ⟨h, _⟩
    · exact h
    · rw [HO.out] at h; cases h
  generalize wrapV w3.heap.size 0 pv q = nv at *
  unfold vReply
  have HB5 := Lib.hid ((belS HB4.out hb).alloc (belS HB4.out hb).size (.cells #[.int .i64 0, .int .i64 (giveN q), .string ⟨#[]⟩, .int .i64 0, .int .i64 0] 76))
  have B45 := Lib.hid ((B44.out.below hb).alloc (.cells #[.int .i64 0, .int .i64 (giveN q), .string ⟨#[]⟩, .int .i64 0, .int .i64 0] 76))
  have B55 := Lib.hid ((B54.out.below hb).alloc (.cells #[.int .i64 0, .int .i64 (giveN q), .string ⟨#[]⟩, .int .i64 0, .int .i64 0] 76))
  have BQ5 := Lib.hid ((BQ4.out.below hb).alloc (.cells #[.int .i64 0, .int .i64 (giveN q), .string ⟨#[]⟩, .int .i64 0, .int .i64 0] 76))
  have BL5 := Lib.hid ((BL4.out.below hb).alloc (.cells #[.int .i64 0, .int .i64 (giveN q), .string ⟨#[]⟩, .int .i64 0, .int .i64 0] 76))
  have BR5 := Lib.hid (Bx.new w5 [.int .i64 0, .int .i64 (giveN q), .string ⟨#[]⟩, .int .i64 0, .int .i64 0] 76)
  have T3 := Lib.hid (ownsF_alloc (ownsF_below S3.out hb (Nat.le_refl _)) (.cells #[.int .i64 0, .int .i64 (giveN q), .string ⟨#[]⟩, .int .i64 0, .int .i64 0] 76))
  have T5 := Lib.hid (ownsF_alloc (ownsF_below S5.out hb (Nat.le_refl _)) (.cells #[.int .i64 0, .int .i64 (giveN q), .string ⟨#[]⟩, .int .i64 0, .int .i64 0] 76))
  have h7s := hb.size
  clear hb hres
  have t0 := BR5.out.cell 0 (by simp)
  have t1 := BR5.out.cell 1 (by simp)
  have t2 := BR5.out.cell 2 (by simp)
  have t3 := BR5.out.cell 3 (by simp)
  have t4 := BR5.out.cell 4 (by simp)
  simp only [List.getElem_cons_zero, List.getElem_cons_succ] at t0 t1 t2 t3 t4
  have hcl : ∀ j, j < 2 → ((w5.alloc (.cells #[.int .i64 0, .int .i64 (giveN q), .string ⟨#[]⟩, .int .i64 0, .int .i64 0] 76)).alloc (.cells #[.string s, .int .i64 0] 137)).cell? ⟨w5.heap.size + 1, j, none⟩ = (cLayer ⟨s.data.toList, 0⟩)[j]? := cell_newL (w5.alloc (.cells #[.int .i64 0, .int .i64 (giveN q), .string ⟨#[]⟩, .int .i64 0, .int .i64 0] 76)) ⟨s.data.toList, 0⟩ _ (by simp)
  have hlen : (l ++ [(⟨s.data.toList, 0⟩ : LayerD)]).length = l.length + 1 := by simp
  have hcap : l.length ≤ 4194304 := by have := HSZ.out; omega
  have hBs : w.heap.size + 1 + 1 + 1 ≤ ((w5.alloc (.cells #[.int .i64 0, .int .i64 (giveN q), .string ⟨#[]⟩, .int .i64 0, .int .i64 0] 76)).alloc (.cells #[.string s, .int .i64 0] 137)).heap.size := by simp; omega
  have m0 := BL5.out.cell 0 (by simp)
  have m1 := BL5.out.cell 1 (by simp)
  simp only [List.getElem_cons_zero, List.getElem_cons_succ] at m0 m1
  have q0 := BQ5.out.cell 0 (by simp)
  have q1 := BQ5.out.cell 1 (by simp)
  have q2 := BQ5.out.cell 2 (by simp)
  have q3 := BQ5.out.cell 3 (by simp)
  have q4 := BQ5.out.cell 4 (by simp)
  have q5 := BQ5.out.cell 5 (by simp)
  simp only [List.getElem_cons_zero, List.getElem_cons_succ] at q0 q1 q2 q3 q4 q5
  have p0 := BQ5.out.froz 0 (by simp)
  have p1 := BQ5.out.froz 1 (by simp)
  have p2 := BQ5.out.froz 2 (by simp)
  have p3 := BQ5.out.froz 3 (by simp)
  have p4 := BQ5.out.froz 4 (by simp)
  have p5 := BQ5.out.froz 5 (by simp)
  go_wp2_with (at_builtin; refine append_lay rfl _ _ rfl (w.heap.size + 1 + 1 + 1) (.slice ua l.length uc) l ⟨s.data.toList, 0⟩ ((w5.alloc (.cells #[.int .i64 0, .int .i64 (giveN q), .string ⟨#[]⟩, .int .i64 0, .int .i64 0] 76)).alloc (.cells #[.string s, .int .i64 0] 137)) (w5.heap.size + 1) rfl (ownsF_alloc T5.out _) rfl hcl hcap hBs ?_; intro v6 w6 hO6 hg6; obtain ⟨va, vc, rfl⟩ := slice_lenW hO6 hlen; have HO6 := Lib.hid hO6; clear hO6; have HG6 := Lib.hid hg6; clear hg6; have QX := Lib.hid ((BQ5.out.alloc (.cells #[.string s, .int .i64 0] 137)).grown HG6.out (fun e => by have := HU5.out _ e; omega)); have q5' := QX.out.cell 5 (by simp); have p5' := QX.out.froz 5 (by simp); simp only [List.getElem_cons_zero, List.getElem_cons_succ] at q5')
  have B46 := Lib.hid ((B45.out.alloc (.cells #[.string s, .int .i64 0] 137)).grown HG6.out (fun e => by have := HU5.out _ e; omega))
  have B56 := Lib.hid ((B55.out.alloc (.cells #[.string s, .int .i64 0] 137)).grown HG6.out (fun e => by have := HU5.out _ e; omega))
  have BR6 := Lib.hid ((BR5.out.alloc (.cells #[.string s, .int .i64 0] 137)).grown HG6.out (fun e => by have := HU5.out _ e; omega))
  have HB6 := Lib.hid (below_appendF (HB5.out.alloc HB5.out.size _) (ownsF_base (B' := w.heap.size) (ownsF_alloc T5.out _) (by omega)) HG6.out (Nat.le_trans (by omega) hBs))
  have U3 := Lib.hid (ownsF_keptF (ownsF_alloc T3.out _) (ownsF_alloc T5.out _) HG6.out (by decide))
  have hnb : (Value.slice va (l.length + 1) vc).ownBlock ≠ some w1.heap.size := lay_not_bool HO6.out (by rw [hlen]; omega) (QX.out.cell 1 (by simp))
  have B47 := Lib.hid (B46.out.other (c := w1.heap.size) (by omega) 5 (.slice va (l.length + 1) vc))
  have B57 := Lib.hid (B56.out.other (c := w1.heap.size) (by omega) 5 (.slice va (l.length + 1) vc))
  have BR7 := Lib.hid (BR6.out.other (c := w1.heap.size) (by omega) 5 (.slice va (l.length + 1) vc))
  have BQ7 := Lib.hid (QX.out.set 5 (by simp) (.slice va (l.length + 1) vc))
  have HB7 := Lib.hid (HB6.out.setCell (p := ⟨w1.heap.size, 5, none⟩) (by simp; omega) (.slice va (l.length + 1) vc))
  have V3 := Lib.hid (ownsF_setNe (p := ⟨w1.heap.size, 5, none⟩) (u := .slice va (l.length + 1) vc) U3.out (fun e => Nat.lt_irrefl _ (HU3.out _ e)))
  have V5 := Lib.hid (ownsF_setNe (p := ⟨w1.heap.size, 5, none⟩) (u := .slice va (l.length + 1) vc) HO6.out hnb)
  simp only [List.set_cons_succ, List.set_cons_zero] at BQ7
  clear q0 q1 q2 q3 q4 q5 p0 p1 p2 p3 p4 p5 m0 m1 t0 t1 t2 t3 t4 q5' p5' QX HG6 BL5 BQ5 B45 B55 BR5 B46 B56 BR6
  generalize w6.setCell ⟨w1.heap.size, 5, none⟩ (.slice va (l.length + 1) vc) = w7 at *
  have q0 := BQ7.out.cell 0 (by simp)
  have q1 := BQ7.out.cell 1 (by simp)
  have q2 := BQ7.out.cell 2 (by simp)
  have q3 := BQ7.out.cell 3 (by simp)
  have q4 := BQ7.out.cell 4 (by simp)
  have q5 := BQ7.out.cell 5 (by simp)
  simp only [List.getElem_cons_zero, List.getElem_cons_succ] at q0 q1 q2 q3 q4 q5
  have t0 := BR7.out.cell 0 (by simp)
  have t1 := BR7.out.cell 1 (by simp)
  have t2 := BR7.out.cell 2 (by simp)
  have t3 := BR7.out.cell 3 (by simp)
  have t4 := BR7.out.cell 4 (by simp)
  simp only [List.getElem_cons_zero, List.getElem_cons_succ] at t0 t1 t2 t3 t4
  have r0 := B47.out.cell 0 (by simp)
  have r1 := B47.out.cell 1 (by simp)
  have r2 := B47.out.cell 2 (by simp)
  have r3 := B47.out.cell 3 (by simp)
  have r4 := B47.out.cell 4 (by simp)
  have r5 := B47.out.cell 5 (by simp)
  simp only [List.getElem_cons_zero, List.getElem_cons_succ] at r0 r1 r2 r3 r4 r5
  have z0 := B47.out.froz 0 (by simp)
  have z1 := B47.out.froz 1 (by simp)
  have z2 := B47.out.froz 2 (by simp)
  have z3 := B47.out.froz 3 (by simp)
  have z4 := B47.out.froz 4 (by simp)
  have z5 := B47.out.froz 5 (by simp)
  have s0 := B57.out.cell 0 (by simp)
  have s1 := B57.out.cell 1 (by simp)
  have s2 := B57.out.cell 2 (by simp)
  have s3 := B57.out.cell 3 (by simp)
  have s4 := B57.out.cell 4 (by simp)
  simp only [List.getElem_cons_zero, List.getElem_cons_succ] at s0 s1 s2 s3 s4
  have y0 := B57.out.froz 0 (by simp)
  have y1 := B57.out.froz 1 (by simp)
  have y2 := B57.out.froz 2 (by simp)
  have y3 := B57.out.froz 3 (by simp)
  have y4 := B57.out.froz 4 (by simp)
  go_region
  all_goals (try go_wp2_with fail)
  all_goals
    refine bodyPost_ret (v := .tuple #[.agg #[.string ⟨a0.toArray⟩, .bool a1, .bool a2, .slice ga a3.length gc, .int .i64 a4, .slice va (l.length + 1) vc], .agg #[.int .i64 0, .int .i64 (giveN q), .string ⟨#[]⟩, .int .i64 0, .int .i64 0]]) (by simp [results, Tryz.results109, go_sem, cell_set_at, cell_set_ne, t0, t1, t2, t3, t4, r0, r1, r2, r3, r4, r5, s0, s1, s2, s3, s4]) rfl ⟨_, rfl, ⟨_, _, rfl, ?_, ?_⟩, ?_⟩
    · refine ownsF_base (B := (((w.heap.size + 1) + 1) + 1)) ?_ (by omega)
      repeat (first | with_reducible refine ownsF_set ?_ (by simp; try omega) | with_reducible refine ownsF_drew ?_)
      have h := V3.out
      simpa using h
    · refine ownsF_base (B := (((w.heap.size + 1) + 1) + 1)) ?_ (by omega)
      repeat (first | with_reducible refine ownsF_set ?_ (by simp; try omega) | with_reducible refine ownsF_drew ?_)
      have h := V5.out
      simpa using h
    · repeat (first | with_reducible exact HB7.out | with_reducible refine Below.setCell ?_ (by simp; try omega) _ | with_reducible refine Below.drew ?_)
theorem implWrap_any (v : Value) (x : PartD) (s : ByteArray) (w : World) (hx : ValAt rPart 0 w v x) (hs : SmallP x) (hk : ∀ c ∈ x.fCore.fCells, c.fKey.length ≤ maxLen) (hz : s.size ≤ 1048576) :
    Calls Tryz.prog 109 #[v, .string s] w fun e w' => GivesOPR (wrapP x s.data.toList) (wrapR x s.data.toList) w e w' := by
  by_cases hc : 0 ≤ layI s.data.toList
  · cases hp : partB x with
    | false => exact implWrap_bad2 v x s w hx hs hk hz hc hp
    | true =>
      by_cases h3 : x.fLayers.length = 3
      · exact implWrap_full v x s w hx hs hk hz hc hp h3
      · cases ho : offersF (faceP x) (needI (layI s.data.toList)) with
        | false => exact implWrap_fail v x s w hx hs hk hz hc hp h3 ho
        | true => exact implWrap_ok v x s w hx hs hk hz hc hp h3 ho
  · exact implWrap_bad1 v x s w hx hs hk hz hc
end Go.Proofs.YteeopjcbpngofaaGreat
/- Contracts of chapter 4: MakePart, the program's. Written by gen/ch4mk.py. -/
namespace Go.Proofs.YteeopjcbpngofaaGreat
set_option linter.unusedVariables false
set_option linter.unusedSimpArgs false
open Go.RowKit
set_option maxRecDepth 100000 in
set_option maxHeartbeats 3200000 in
theorem implMake_nil (a : Option Addr) (c : Nat) (w : World) :
    Calls Tryz.prog 61 #[.slice a 0 c] w fun e w' => GivesOPR zeroP ⟨7, 0, [], 0, 0⟩ w e w' := by
  unfold GivesOPR zeroP vReply
  have BS := Lib.hid (bx_start2 w [.string ⟨#[]⟩, .bool false, .bool false, .slice none 0 0, .int .i64 0, .slice none 0 0] [.int .i64 0, .int .i64 0, .string ⟨#[]⟩, .int .i64 0, .int .i64 0] 74 76)
  have B2 := Lib.hid BS.out.1
  have B3 := Lib.hid BS.out.2.1
  go_enter Tryz.func61, Tryz.ntmps61
  go_wp2_with fail
  exact bodyPost_ret (v := .tuple #[.agg #[.string ⟨#[]⟩, .bool false, .bool false, .slice none 0 0, .int .i64 0, .slice none 0 0], .agg #[.int .i64 7, .int .i64 0, .string ⟨#[]⟩, .int .i64 0, .int .i64 0]]) (by simp [results, Tryz.results61, go_sem]) rfl ⟨_, rfl, ⟨_, _, rfl, ownsF_nil _ _ _ _ _, ownsF_nil _ _ _ _ _⟩, (bx_start2 w [.string ⟨#[]⟩, .bool false, .bool false, .slice none 0 0, .int .i64 0, .slice none 0 0] [.int .i64 7, .int .i64 0, .string ⟨#[]⟩, .int .i64 0, .int .i64 0] 74 76).2.2⟩
set_option maxRecDepth 100000 in
set_option maxHeartbeats 3200000 in
theorem implMake_bad (b o c : Nat) (k : List UInt8) (r : List (List UInt8)) (w : World) (hR : RowAt w (.slice (some ⟨b, o, none⟩) (r.length + 1) c) ((k :: r).map strV)) (hz : ∀ s ∈ k :: r, s.length ≤ 1048576) (hc : r.length + 1 ≤ c) (hm : r.length + 1 ≤ maxLen) (hk : ¬ 0 ≤ kindI k) :
    Calls Tryz.prog 61 #[.slice (some ⟨b, o, none⟩) (r.length + 1) c] w fun e w' => GivesOPR zeroP ⟨7, 0, [], 0, 0⟩ w e w' := by
  have d0 := rowAt_cellS hR 0 (by simp)
  simp only [List.map_cons, List.getElem_cons_zero, strV, Nat.add_zero] at d0
  have hbw : b < w.heap.size := by
    obtain ⟨b', o', e, hlt, _⟩ := rowAt_cell hR 0 (by simp)
    injection e with e; injection e with e1 e2; subst e1; exact hlt
  have HNP := Lib.hid (fun W => implNewPart_own ⟨k.toArray⟩ W (by have := hz k (List.mem_cons_self ..); simpa [ByteArray.size] using this))
  simp only [GivesNPO, vNP] at HNP
  have HR := Lib.hid hR
  have HZ := Lib.hid hz
  have HM := Lib.hid hm
  clear hR hz hm
  unfold GivesOPR zeroP vReply
  rw [show decide (0 ≤ kindI (⟨k.toArray⟩ : ByteArray).data.toList) = false from decide_eq_false hk] at HNP
  generalize nmK (⟨k.toArray⟩ : ByteArray).data.toList = nk at *
  have BS := Lib.hid (bx_start2 w [.string ⟨#[]⟩, .bool false, .bool false, .slice none 0 0, .int .i64 0, .slice none 0 0] [.int .i64 0, .int .i64 0, .string ⟨#[]⟩, .int .i64 0, .int .i64 0] 74 76)
  have HD := Lib.hid d0
  clear d0
  have d0 := (BS.out.2.2.cell (p := ⟨b, o, none⟩) hbw).trans HD.out
  go_enter Tryz.func61, Tryz.ntmps61
  go_wp2_with fail
  refine (HNP.out _).mono ?_
  rintro e w1 ⟨a1, c1, rfl, ho, hb⟩
  have HB1 := Lib.hid ((belS BS.out.2.2 hb).alloc (belS BS.out.2.2 hb).size (.cells #[.string ⟨nk.toArray⟩, .bool false, .bool false, .slice a1 0 c1, .int .i64 0, .slice none 0 0] 74))
  have B2 := Lib.hid ((BS.out.1.below hb).alloc (.cells #[.string ⟨nk.toArray⟩, .bool false, .bool false, .slice a1 0 c1, .int .i64 0, .slice none 0 0] 74))
  have B3 := Lib.hid ((BS.out.2.1.below hb).alloc (.cells #[.string ⟨nk.toArray⟩, .bool false, .bool false, .slice a1 0 c1, .int .i64 0, .slice none 0 0] 74))
  clear ho hb d0
  have r0 := B2.out.cell 0 (by simp)
  have r1 := B2.out.cell 1 (by simp)
  have r2 := B2.out.cell 2 (by simp)
  have r3 := B2.out.cell 3 (by simp)
  have r4 := B2.out.cell 4 (by simp)
  have r5 := B2.out.cell 5 (by simp)
  simp only [List.getElem_cons_zero, List.getElem_cons_succ] at r0 r1 r2 r3 r4 r5
  have z0 := B2.out.froz 0 (by simp)
  have z1 := B2.out.froz 1 (by simp)
  have z2 := B2.out.froz 2 (by simp)
  have z3 := B2.out.froz 3 (by simp)
  have z4 := B2.out.froz 4 (by simp)
  have z5 := B2.out.froz 5 (by simp)
  have s0 := B3.out.cell 0 (by simp)
  have s1 := B3.out.cell 1 (by simp)
  have s2 := B3.out.cell 2 (by simp)
  have s3 := B3.out.cell 3 (by simp)
  have s4 := B3.out.cell 4 (by simp)
  simp only [List.getElem_cons_zero, List.getElem_cons_succ] at s0 s1 s2 s3 s4
  have y0 := B3.out.froz 0 (by simp)
  have y1 := B3.out.froz 1 (by simp)
  have y2 := B3.out.froz 2 (by simp)
  have y3 := B3.out.froz 3 (by simp)
  have y4 := B3.out.froz 4 (by simp)
  go_wp2_with fail
  clear r0 r1 r2 r3 r4 r5 z0 z1 z2 z3 z4 z5 s0 s1 s2 s3 s4 y0 y1 y2 y3 y4
  have E4 := Lib.hid ((B2.out.put6 (.string ⟨#[]⟩) (.bool false) (.bool false) (.slice none 0 0) (.int .i64 0) (.slice none 0 0)).put5o (c := w.heap.size + 1) (by omega) (.int .i64 7) (.int .i64 0) (.string ⟨#[]⟩) (.int .i64 0) (.int .i64 0))
  have E5 := Lib.hid ((B3.out.put6o (c := w.heap.size) (by omega) (.string ⟨#[]⟩) (.bool false) (.bool false) (.slice none 0 0) (.int .i64 0) (.slice none 0 0)).put5 (.int .i64 7) (.int .i64 0) (.string ⟨#[]⟩) (.int .i64 0) (.int .i64 0))
  have EB := Lib.hid (below_put5 (below_put6 HB1.out w.heap.size (by omega) (.string ⟨#[]⟩) (.bool false) (.bool false) (.slice none 0 0) (.int .i64 0) (.slice none 0 0)) (w.heap.size + 1) (by omega) (.int .i64 7) (.int .i64 0) (.string ⟨#[]⟩) (.int .i64 0) (.int .i64 0))
  generalize ((((((((((((w1.alloc (.cells #[.string ⟨nk.toArray⟩, .bool false, .bool false, .slice a1 0 c1, .int .i64 0, .slice none 0 0] 74)).setCell ⟨w.heap.size, 0, none⟩ (.string ⟨#[]⟩)).setCell ⟨w.heap.size, 1, none⟩ (.bool false)).setCell ⟨w.heap.size, 2, none⟩ (.bool false)).setCell ⟨w.heap.size, 3, none⟩ (.slice none 0 0)).setCell ⟨w.heap.size, 4, none⟩ (.int .i64 0)).setCell ⟨w.heap.size, 5, none⟩ (.slice none 0 0)).setCell ⟨w.heap.size + 1, 0, none⟩ (.int .i64 7)).setCell ⟨w.heap.size + 1, 1, none⟩ (.int .i64 0)).setCell ⟨w.heap.size + 1, 2, none⟩ (.string ⟨#[]⟩)).setCell ⟨w.heap.size + 1, 3, none⟩ (.int .i64 0)).setCell ⟨w.heap.size + 1, 4, none⟩ (.int .i64 0)) = WE at *
  have r0 := E4.out.cell 0 (by simp)
  have r1 := E4.out.cell 1 (by simp)
  have r2 := E4.out.cell 2 (by simp)
  have r3 := E4.out.cell 3 (by simp)
  have r4 := E4.out.cell 4 (by simp)
  have r5 := E4.out.cell 5 (by simp)
  simp only [List.getElem_cons_zero, List.getElem_cons_succ] at r0 r1 r2 r3 r4 r5
  have s0 := E5.out.cell 0 (by simp)
  have s1 := E5.out.cell 1 (by simp)
  have s2 := E5.out.cell 2 (by simp)
  have s3 := E5.out.cell 3 (by simp)
  have s4 := E5.out.cell 4 (by simp)
  simp only [List.getElem_cons_zero, List.getElem_cons_succ] at s0 s1 s2 s3 s4
  exact bodyPost_ret (v := .tuple #[.agg #[.string ⟨#[]⟩, .bool false, .bool false, .slice none 0 0, .int .i64 0, .slice none 0 0], .agg #[.int .i64 7, .int .i64 0, .string ⟨#[]⟩, .int .i64 0, .int .i64 0]]) (by simp [results, Tryz.results61, go_sem, r0, r1, r2, r3, r4, r5, s0, s1, s2, s3, s4]) rfl ⟨_, rfl, ⟨_, _, rfl, ownsF_nil _ _ _ _ _, ownsF_nil _ _ _ _ _⟩, EB.out⟩
set_option maxRecDepth 100000 in
set_option maxHeartbeats 3200000 in
theorem implMake_one (b o c : Nat) (k : List UInt8) (r : List (List UInt8)) (w : World) (hR : RowAt w (.slice (some ⟨b, o, none⟩) (r.length + 1) c) ((k :: r).map strV)) (hz : ∀ s ∈ k :: r, s.length ≤ 1048576) (hc : r.length + 1 ≤ c) (hm : r.length + 1 ≤ maxLen) (h1 : c = 1) (hk : 0 ≤ kindI k) :
    Calls Tryz.prog 61 #[.slice (some ⟨b, o, none⟩) (r.length + 1) c] w fun e w' => GivesOPR (makeGo (newP k) r).1 (makeGo (newP k) r).2 w e w' := by
  have d0 := rowAt_cellS hR 0 (by simp)
  simp only [List.map_cons, List.getElem_cons_zero, strV, Nat.add_zero] at d0
  have hbw : b < w.heap.size := by
    obtain ⟨b', o', e, hlt, _⟩ := rowAt_cell hR 0 (by simp)
    injection e with e; injection e with e1 e2; subst e1; exact hlt
  have HNP := Lib.hid (fun W => implNewPart_own ⟨k.toArray⟩ W (by have := hz k (List.mem_cons_self ..); simpa [ByteArray.size] using this))
  simp only [GivesNPO, vNP] at HNP
  have HR := Lib.hid hR
  have HZ := Lib.hid hz
  have HM := Lib.hid hm
  clear hR hz hm
  rw [show decide (0 ≤ kindI (⟨k.toArray⟩ : ByteArray).data.toList) = true from decide_eq_true hk, show nmK (⟨k.toArray⟩ : ByteArray).data.toList = k from if_pos hk] at HNP
  subst h1
  obtain rfl : r = [] := List.eq_nil_of_length_eq_zero (by omega)
  simp only [List.length_nil, Nat.zero_add] at *
  rw [show makeGo (newP k) [] = (newP k, ⟨0, faceP (newP k), [], 0, 0⟩) from rfl]
  unfold GivesOPR vReply
  simp only
  generalize hp0 : newP k = p
  have HPK := Lib.hid hp0
  clear hp0
  generalize hfp : faceP p = fp
  have HFP := Lib.hid hfp
  clear hfp
  have BS := Lib.hid (bx_start2 w [.string ⟨#[]⟩, .bool false, .bool false, .slice none 0 0, .int .i64 0, .slice none 0 0] [.int .i64 0, .int .i64 0, .string ⟨#[]⟩, .int .i64 0, .int .i64 0] 74 76)
  have HD := Lib.hid d0
  clear d0
  have d0 := (BS.out.2.2.cell (p := ⟨b, o, none⟩) hbw).trans HD.out
  go_enter Tryz.func61, Tryz.ntmps61
  go_wp2_with fail
  refine (HNP.out _).mono ?_
  rintro e w1 ⟨a1, c1, rfl, ho, hb⟩
  have HB1 := Lib.hid ((belS BS.out.2.2 hb).alloc (belS BS.out.2.2 hb).size (.cells #[.string ⟨k.toArray⟩, .bool false, .bool false, .slice a1 0 c1, .int .i64 0, .slice none 0 0] 74))
  have h1s := hb.size
  simp at h1s
  have ST0 := Lib.hid (show MkSt w w1.heap.size p (w1.alloc (.cells #[.string ⟨k.toArray⟩, .bool false, .bool false, .slice a1 0 c1, .int .i64 0, .slice none 0 0] 74)) by rw [← HPK.out]; exact ⟨newP_small (HZ.out k (List.mem_cons_self ..)), rfl, ⟨_, Bx.new w1 [.string ⟨k.toArray⟩, .bool false, .bool false, .slice a1 0 c1, .int .i64 0, .slice none 0 0] 74, _, _, rfl, ownsF_alloc (ownsF_base ho (by simp)) _, ownsF_nil _ _ _ _ _⟩, (BS.out.1.below hb).alloc (.cells #[.string ⟨k.toArray⟩, .bool false, .bool false, .slice a1 0 c1, .int .i64 0, .slice none 0 0] 74), (BS.out.2.1.below hb).alloc (.cells #[.string ⟨k.toArray⟩, .bool false, .bool false, .slice a1 0 c1, .int .i64 0, .slice none 0 0] 74), HB1.out⟩)
  clear ho hb d0
  go_wp2_with fail
  generalize w1.alloc (.cells #[.string ⟨k.toArray⟩, .bool false, .bool false, .slice a1 0 c1, .int .i64 0, .slice none 0 0] 74) = wr at *
  have hst := ST0.out
  obtain ⟨hsm, hbare, ⟨cs, hq, hown⟩, hr2, hr3, hbw2⟩ := hst
  refine wp_loop_rounds 1 ?_
  rw [rounds_succ]
  obtain ⟨⟨a0, a1, a2, a3, a4⟩, l⟩ := p
  obtain rfl : a3 = [] := hbare
  obtain ⟨u3, u5, rfl, ho3, ho5⟩ := hown
  simp only at ho3 ho5 hq
  obtain ⟨ga, gc, rfl⟩ := slice_of ho3
  obtain ⟨ua, uc, rfl⟩ := slice_of ho5
  simp only [List.length_nil] at *
  have O3 := Lib.hid ho3
  have O5 := Lib.hid ho5
  have HSM := Lib.hid hsm
  have BQ := Lib.hid hq
  have B2 := Lib.hid hr2
  have B3 := Lib.hid hr3
  have HBr := Lib.hid hbw2
  have hlq := hq.lt
  have hls := hbw2.size
  clear hsm ho3 ho5 hq hr2 hr3 hbw2
  have HRP := Lib.hid (fun W (hb : Below wr.heap.size wr W) => (show rPart 0 W [.string ⟨a0.toArray⟩, .bool a1, .bool a2, .slice ga 0 gc, .int .i64 a4, .slice ua l.length uc] (⟨⟨a0, a1, a2, [], a4⟩, l⟩ : PartD) from goodPart.mono (oPart_r ⟨_, _, rfl, ownsF_below O3.out hb (Nat.le_refl _), ownsF_below O5.out hb (Nat.le_refl _)⟩ HSM.out) (Nat.zero_le _)))
  have HFO := Lib.hid (fun W (h : rPart 0 W [.string ⟨a0.toArray⟩, .bool a1, .bool a2, .slice ga 0 gc, .int .i64 a4, .slice ua l.length uc] (⟨⟨a0, a1, a2, [], a4⟩, l⟩ : PartD)) => (show Calls Tryz.prog 110 #[.agg #[.string ⟨a0.toArray⟩, .bool a1, .bool a2, .slice ga 0 gc, .int .i64 a4, .slice ua l.length uc]] W fun e w' => e = .returned (.int .i64 (faceP (⟨⟨a0, a1, a2, [], a4⟩, l⟩ : PartD))) ∧ Below W.heap.size W w' from implFaceOf_any (.agg #[.string ⟨a0.toArray⟩, .bool a1, .bool a2, .slice ga 0 gc, .int .i64 a4, .slice ua l.length uc]) (⟨⟨a0, a1, a2, [], a4⟩, l⟩ : PartD) W ⟨[.string ⟨a0.toArray⟩, .bool a1, .bool a2, .slice ga 0 gc, .int .i64 a4, .slice ua l.length uc], rfl, h⟩))
  rw [HFP.out] at HFO
  have BQd := Lib.hid (bx_dr BQ.out)
  have B2d := Lib.hid (bx_dr B2.out)
  have B3d := Lib.hid (bx_dr B3.out)
  have q0 := BQd.out.cell 0 (by simp)
  have q1 := BQd.out.cell 1 (by simp)
  have q2 := BQd.out.cell 2 (by simp)
  have q3 := BQd.out.cell 3 (by simp)
  have q4 := BQd.out.cell 4 (by simp)
  have q5 := BQd.out.cell 5 (by simp)
  simp only [List.getElem_cons_zero, List.getElem_cons_succ] at q0 q1 q2 q3 q4 q5
  go_wp2_with fail
  go_region_with (first
      | (go_at_call 110; (with_reducible refine (HFO.out _ (HRP.out _ (bel_dr (Below.refl _ _)))).mono ?_); rintro e w6 ⟨rfl, hb6⟩; have BQ6 := Lib.hid (BQd.out.below hb6); have B26 := Lib.hid (B2d.out.below hb6); have B36 := Lib.hid (B3d.out.below hb6); have q0' := BQ6.out.cell 0 (by simp); have q1' := BQ6.out.cell 1 (by simp); have q2' := BQ6.out.cell 2 (by simp); have q3' := BQ6.out.cell 3 (by simp); have q4' := BQ6.out.cell 4 (by simp); have q5' := BQ6.out.cell 5 (by simp); have r0 := B26.out.cell 0 (by simp); have z0 := B26.out.froz 0 (by simp); have r1 := B26.out.cell 1 (by simp); have z1 := B26.out.froz 1 (by simp); have r2 := B26.out.cell 2 (by simp); have z2 := B26.out.froz 2 (by simp); have r3 := B26.out.cell 3 (by simp); have z3 := B26.out.froz 3 (by simp); have r4 := B26.out.cell 4 (by simp); have z4 := B26.out.froz 4 (by simp); have r5 := B26.out.cell 5 (by simp); have z5 := B26.out.froz 5 (by simp); have s0 := B36.out.cell 0 (by simp); have y0 := B36.out.froz 0 (by simp); have s1 := B36.out.cell 1 (by simp); have y1 := B36.out.froz 1 (by simp); have s2 := B36.out.cell 2 (by simp); have y2 := B36.out.froz 2 (by simp); have s3 := B36.out.cell 3 (by simp); have y3 := B36.out.froz 3 (by simp); have s4 := B36.out.cell 4 (by simp); have y4 := B36.out.froz 4 (by simp); simp only [List.getElem_cons_zero, List.getElem_cons_succ] at q0' q1' q2' q3' q4' q5' r0 r1 r2 r3 r4 r5 s0 s1 s2 s3 s4))
  all_goals (try go_wp2_with fail)
  all_goals
    have HB6 := Lib.hid (belS (bel_dr HBr.out) hb6)
    have T3 := Lib.hid (ownsF_below (ownsF_drew O3.out) hb6 (Nat.le_refl _))
    have T5 := Lib.hid (ownsF_below (ownsF_drew O5.out) hb6 (Nat.le_refl _))
    refine bodyPost_ret (v := .tuple #[.agg #[.string ⟨a0.toArray⟩, .bool a1, .bool a2, .slice ga 0 gc, .int .i64 a4, .slice ua l.length uc], .agg #[.int .i64 0, .int .i64 fp, .string ⟨#[]⟩, .int .i64 0, .int .i64 0]]) (by simp [results, Tryz.results61, go_sem, cell_set_at, cell_set_ne, r0, r1, r2, r3, r4, r5, s0, s1, s2, s3, s4]) rfl ⟨_, rfl, ⟨_, _, rfl, ?_, ?_⟩, ?_⟩
    · refine ownsF_base (B := ((w.heap.size + 1) + 1)) ?_ (by omega)
      repeat (first | with_reducible exact T3.out | with_reducible refine ownsF_set ?_ (by simp; try omega) | with_reducible refine ownsF_drew ?_)
    · refine ownsF_base (B := ((w.heap.size + 1) + 1)) ?_ (by omega)
      repeat (first | with_reducible exact T5.out | with_reducible refine ownsF_set ?_ (by simp; try omega) | with_reducible refine ownsF_drew ?_)
    · repeat (first | with_reducible exact HB6.out | with_reducible refine Below.setCell ?_ (by simp; try omega) _ | with_reducible refine Below.drew ?_)
set_option maxRecDepth 100000 in
set_option maxHeartbeats 3200000 in
theorem implMake_go (b o c : Nat) (k : List UInt8) (r : List (List UInt8)) (w : World) (hR : RowAt w (.slice (some ⟨b, o, none⟩) (r.length + 1) c) ((k :: r).map strV)) (hz : ∀ s ∈ k :: r, s.length ≤ 1048576) (hc : r.length + 1 ≤ c) (hm : r.length + 1 ≤ maxLen) (h1 : ¬ (c : Int) = 1) (hk : 0 ≤ kindI k) :
    Calls Tryz.prog 61 #[.slice (some ⟨b, o, none⟩) (r.length + 1) c] w fun e w' => GivesOPR (makeGo (newP k) r).1 (makeGo (newP k) r).2 w e w' := by
  have d0 := rowAt_cellS hR 0 (by simp)
  simp only [List.map_cons, List.getElem_cons_zero, strV, Nat.add_zero] at d0
  have hbw : b < w.heap.size := by
    obtain ⟨b', o', e, hlt, _⟩ := rowAt_cell hR 0 (by simp)
    injection e with e; injection e with e1 e2; subst e1; exact hlt
  have HNP := Lib.hid (fun W => implNewPart_own ⟨k.toArray⟩ W (by have := hz k (List.mem_cons_self ..); simpa [ByteArray.size] using this))
  simp only [GivesNPO, vNP] at HNP
  have HR := Lib.hid hR
  have HZ := Lib.hid hz
  have HM := Lib.hid hm
  clear hR hz hm
  rw [show decide (0 ≤ kindI (⟨k.toArray⟩ : ByteArray).data.toList) = true from decide_eq_true hk, show nmK (⟨k.toArray⟩ : ByteArray).data.toList = k from if_pos hk] at HNP
  generalize hp0 : newP k = p0
  have HPK := Lib.hid hp0
  clear hp0
  generalize hres : makeGo p0 r = res
  obtain ⟨rp, t0, fp, t2, t3, t4⟩ := res
  have HRES := Lib.hid hres.symm
  clear hres
  unfold GivesOPR vReply
  simp only
  have BS := Lib.hid (bx_start2 w [.string ⟨#[]⟩, .bool false, .bool false, .slice none 0 0, .int .i64 0, .slice none 0 0] [.int .i64 0, .int .i64 0, .string ⟨#[]⟩, .int .i64 0, .int .i64 0] 74 76)
  have HD := Lib.hid d0
  clear d0
  have d0 := (BS.out.2.2.cell (p := ⟨b, o, none⟩) hbw).trans HD.out
  go_enter Tryz.func61, Tryz.ntmps61
  go_wp2_with fail
  refine (HNP.out _).mono ?_
  rintro e w1 ⟨a1, c1, rfl, ho, hb⟩
  have HB1 := Lib.hid ((belS BS.out.2.2 hb).alloc (belS BS.out.2.2 hb).size (.cells #[.string ⟨k.toArray⟩, .bool false, .bool false, .slice a1 0 c1, .int .i64 0, .slice none 0 0] 74))
  have h1s := hb.size
  simp at h1s
  have ST0 := Lib.hid (show MkSt w w1.heap.size p0 (w1.alloc (.cells #[.string ⟨k.toArray⟩, .bool false, .bool false, .slice a1 0 c1, .int .i64 0, .slice none 0 0] 74)) by rw [← HPK.out]; exact ⟨newP_small (HZ.out k (List.mem_cons_self ..)), rfl, ⟨_, Bx.new w1 [.string ⟨k.toArray⟩, .bool false, .bool false, .slice a1 0 c1, .int .i64 0, .slice none 0 0] 74, _, _, rfl, ownsF_alloc (ownsF_base ho (by simp)) _, ownsF_nil _ _ _ _ _⟩, (BS.out.1.below hb).alloc (.cells #[.string ⟨k.toArray⟩, .bool false, .bool false, .slice a1 0 c1, .int .i64 0, .slice none 0 0] 74), (BS.out.2.1.below hb).alloc (.cells #[.string ⟨k.toArray⟩, .bool false, .bool false, .slice a1 0 c1, .int .i64 0, .slice none 0 0] 74), HB1.out⟩)
  clear ho hb d0
  go_wp2_with fail
  have HRT := Lib.hid (fun W (hb : Below w.heap.size w W) => RowAt.below HR.out hb (Nat.le_refl _))
  generalize w1.alloc (.cells #[.string ⟨k.toArray⟩, .bool false, .bool false, .slice a1 0 c1, .int .i64 0, .slice none 0 0] 74) = w2 at *
  go_loopw [7, 8, 9, 29] (fun _ _ _ i wr => ∃ j : Nat, ∃ p : PartD, j ≤ r.length ∧ i = .int .i64 j ∧ (rp, (⟨t0, fp, t2, t3, t4⟩ : ReplyD)) = makeGo p (r.drop j) ∧ MkSt w w1.heap.size p wr) (fun _ _ _ i _ => r.length - (intOf i).toNat)
  case atStart => exact ⟨0, p0, Nat.zero_le _, rfl, HRES.out, ST0.out⟩
  case round =>
    obtain ⟨j, p, hj, rfl, hgo, hst⟩ := hrel
    obtain ⟨hsm, hbare, ⟨cs, hq, hown⟩, hr2, hr3, hbw2⟩ := hst
    by_cases hlt : j < r.length
    · have d1 := rowAt_cellS (HRT.out _ hbw2) (j + 1) (by simp; omega)
      simp only [List.map_cons, List.getElem_cons_succ, List.getElem_map, strV] at d1
      rw [show o + (j + 1) = o + 1 + j by omega] at d1
      have hzs := HZ.out (r[j]) (List.mem_cons_of_mem _ (List.getElem_mem hlt))
      have hdr : r.drop j = r[j] :: r.drop (j + 1) := List.drop_eq_getElem_cons hlt
      rw [hdr] at hgo
      clear hdr
      generalize r[j] = s at *
      have HW := Lib.hid (fun cs W (h : rPart 0 W cs p) => (show Calls Tryz.prog 109 #[.agg cs.toArray, .string ⟨s.toArray⟩] W fun e w' => GivesOPR (wrapP p s) (wrapR p s) W e w' from implWrap_any (.agg cs.toArray) p ⟨s.toArray⟩ W ⟨cs, rfl, h⟩ hsm (by rw [hbare]; intro c hc; cases hc) (by simpa [ByteArray.size] using hzs)))
      have HSM2 := Lib.hid (wrapP_small hsm s)
      have hb2 : (wrapP p s).fCore.fCells = [] := by rw [wrapP_core]; exact hbare
      have hyes : wrapI p s = 0 → (rp, (⟨t0, fp, t2, t3, t4⟩ : ReplyD)) = makeGo (wrapP p s) (r.drop (j + 1)) := fun h => hgo.trans (makeGo_on h)
      have hno : ¬ wrapI p s = 0 → (rp, (⟨t0, fp, t2, t3, t4⟩ : ReplyD)) = (zeroP, wrapR p s) := fun h => hgo.trans (makeGo_stop h)
      obtain ⟨m1, m3, m4, hrr⟩ : ∃ m1 m3 m4, wrapR p s = ⟨wrapI p s, m1, [], m3, m4⟩ := ⟨_, _, _, rfl⟩
      simp only [hrr] at HW hno
      unfold GivesOPR vReply at HW
      simp only at HW
      clear hgo hrr
      generalize wrapI p s = m0 at *
      generalize wrapP p s = p2 at *
      obtain ⟨⟨a0, a1, a2, a3, a4⟩, l⟩ := p
      obtain rfl : a3 = [] := hbare
      obtain ⟨u3, u5, rfl, ho3, ho5⟩ := hown
      simp only at ho3 ho5 hq
      obtain ⟨ga, gc, rfl⟩ := slice_of ho3
      obtain ⟨ua, uc, rfl⟩ := slice_of ho5
      simp only [List.length_nil] at *
      have O3 := Lib.hid ho3
      have O5 := Lib.hid ho5
      have HSM := Lib.hid hsm
      have BQ := Lib.hid hq
      have B2 := Lib.hid hr2
      have B3 := Lib.hid hr3
      have HBr := Lib.hid hbw2
      have hlq := hq.lt
      have hls := hbw2.size
      clear hsm ho3 ho5 hq hr2 hr3 hbw2
      have HRP := Lib.hid (goodPart.mono (oPart_r ⟨_, _, rfl, O3.out, O5.out⟩ HSM.out) (Nat.zero_le _))
      have HYES := Lib.hid hyes
      have HNO := Lib.hid hno
      have hjr : (j : Int) < (r.length : Int) := by omega
      have hml := HM.out
      unfold maxLen at hml
      clear hyes hno
      have q0 := BQ.out.cell 0 (by simp)
      have q1 := BQ.out.cell 1 (by simp)
      have q2 := BQ.out.cell 2 (by simp)
      have q3 := BQ.out.cell 3 (by simp)
      have q4 := BQ.out.cell 4 (by simp)
      have q5 := BQ.out.cell 5 (by simp)
      simp only [List.getElem_cons_zero, List.getElem_cons_succ] at q0 q1 q2 q3 q4 q5
      go_wp2_with fail
      refine (HW.out _ _ HRP.out).mono ?_
      rintro e w4 ⟨_, rfl, ho, hb⟩
      obtain ⟨⟨b0, b1, b2, b3, b4⟩, l2⟩ := p2
      obtain rfl : b3 = [] := hb2
      obtain ⟨u3, u5, rfl, ho3, ho5⟩ := ho
      simp only at ho3 ho5
      obtain ⟨ha, hc2, rfl⟩ := slice_of ho3
      obtain ⟨va, vc, rfl⟩ := slice_of ho5
      simp only [List.length_nil] at *
      have N3 := Lib.hid ho3
      have N5 := Lib.hid ho5
      have HB4 := Lib.hid (belS HBr.out hb)
      have BQ4 := Lib.hid (BQ.out.below hb)
      have B24 := Lib.hid (B2.out.below hb)
      have B34 := Lib.hid (B3.out.below hb)
      have hs4 := hb.size
      have hq4 := BQ4.out.lt
      clear hb ho3 ho5 q0 q1 q2 q3 q4 q5 BQ B2 B3
      by_cases hcd : m0 = 0
      · subst hcd
        have HG := Lib.hid (HYES.out rfl)
        clear HNO HYES
        have q0 := BQ4.out.cell 0 (by simp)
        have q1 := BQ4.out.cell 1 (by simp)
        have q2 := BQ4.out.cell 2 (by simp)
        have q3 := BQ4.out.cell 3 (by simp)
        have q4 := BQ4.out.cell 4 (by simp)
        have q5 := BQ4.out.cell 5 (by simp)
        simp only [List.getElem_cons_zero, List.getElem_cons_succ] at q0 q1 q2 q3 q4 q5
        have p0 := BQ4.out.froz 0 (by simp)
        have p1 := BQ4.out.froz 1 (by simp)
        have p2 := BQ4.out.froz 2 (by simp)
        have p3 := BQ4.out.froz 3 (by simp)
        have p4 := BQ4.out.froz 4 (by simp)
        have p5 := BQ4.out.froz 5 (by simp)
        go_wp2_with fail
        refine ⟨⟨j + 1, ⟨⟨b0, b1, b2, [], b4⟩, l2⟩, by omega, by go_num, HG.out, ?_⟩, by simp [intOf]; omega⟩
        exact ⟨HSM2.out, rfl, ⟨_, ((BQ4.out.put6 (.string ⟨b0.toArray⟩) (.bool b1) (.bool b2) (.slice ha 0 hc2) (.int .i64 b4) (.slice va l2.length vc)).alloc _).alloc _, _, _, rfl, ownsF_alloc (ownsF_alloc (ownsF_base (ownsF_put6 N3.out w1.heap.size hlq (.string ⟨b0.toArray⟩) (.bool b1) (.bool b2) (.slice ha 0 hc2) (.int .i64 b4) (.slice va l2.length vc)) (by omega)) _) _, ownsF_alloc (ownsF_alloc (ownsF_base (ownsF_put6 N5.out w1.heap.size hlq (.string ⟨b0.toArray⟩) (.bool b1) (.bool b2) (.slice ha 0 hc2) (.int .i64 b4) (.slice va l2.length vc)) (by omega)) _) _⟩,
          ((B24.out.put6o (c := w1.heap.size) (by omega) (.string ⟨b0.toArray⟩) (.bool b1) (.bool b2) (.slice ha 0 hc2) (.int .i64 b4) (.slice va l2.length vc)).alloc _).alloc _, ((B34.out.put6o (c := w1.heap.size) (by omega) (.string ⟨b0.toArray⟩) (.bool b1) (.bool b2) (.slice ha 0 hc2) (.int .i64 b4) (.slice va l2.length vc)).alloc _).alloc _,
          belS (belS (below_put6 HB4.out w1.heap.size (by omega) (.string ⟨b0.toArray⟩) (.bool b1) (.bool b2) (.slice ha 0 hc2) (.int .i64 b4) (.slice va l2.length vc)) (bx_box _ _)) (bx_box _ _)⟩
      · have HG := Lib.hid (HNO.out hcd)
        have hg := HG.out
        simp only [Prod.mk.injEq, ReplyD.mk.injEq] at hg
        obtain ⟨g1, g2, g3, g4, g5, g6⟩ := hg
        subst g1
        subst g4
        have g2 := g2.symm
        have g3 := g3.symm
        have g5 := g5.symm
        have g6 := g6.symm
        subst g2
        subst g3
        subst g5
        subst g6
        clear HNO HYES HG
        have B25 := Lib.hid ((B24.out.alloc (.cells #[.string ⟨b0.toArray⟩, .bool b1, .bool b2, .slice ha 0 hc2, .int .i64 b4, .slice va l2.length vc] 74)).alloc (.cells #[.int .i64 m0, .int .i64 m1, .string ⟨#[]⟩, .int .i64 m3, .int .i64 m4] 76))
        have B35 := Lib.hid ((B34.out.alloc (.cells #[.string ⟨b0.toArray⟩, .bool b1, .bool b2, .slice ha 0 hc2, .int .i64 b4, .slice va l2.length vc] 74)).alloc (.cells #[.int .i64 m0, .int .i64 m1, .string ⟨#[]⟩, .int .i64 m3, .int .i64 m4] 76))
        have r0 := B25.out.cell 0 (by simp)
        have r1 := B25.out.cell 1 (by simp)
        have r2 := B25.out.cell 2 (by simp)
        have r3 := B25.out.cell 3 (by simp)
        have r4 := B25.out.cell 4 (by simp)
        have r5 := B25.out.cell 5 (by simp)
        simp only [List.getElem_cons_zero, List.getElem_cons_succ] at r0 r1 r2 r3 r4 r5
        have z0 := B25.out.froz 0 (by simp)
        have z1 := B25.out.froz 1 (by simp)
        have z2 := B25.out.froz 2 (by simp)
        have z3 := B25.out.froz 3 (by simp)
        have z4 := B25.out.froz 4 (by simp)
        have z5 := B25.out.froz 5 (by simp)
        have s0 := B35.out.cell 0 (by simp)
        have s1 := B35.out.cell 1 (by simp)
        have s2 := B35.out.cell 2 (by simp)
        have s3 := B35.out.cell 3 (by simp)
        have s4 := B35.out.cell 4 (by simp)
        simp only [List.getElem_cons_zero, List.getElem_cons_succ] at s0 s1 s2 s3 s4
        have y0 := B35.out.froz 0 (by simp)
        have y1 := B35.out.froz 1 (by simp)
        have y2 := B35.out.froz 2 (by simp)
        have y3 := B35.out.froz 3 (by simp)
        have y4 := B35.out.froz 4 (by simp)
        go_wp2_with fail
        go_region
        all_goals (try go_wp2_with fail)
        all_goals
          refine bodyPost_ret (v := .tuple #[.agg #[.string ⟨#[]⟩, .bool false, .bool false, .slice none 0 0, .int .i64 0, .slice none 0 0], .agg #[.int .i64 m0, .int .i64 m1, .string ⟨#[]⟩, .int .i64 m3, .int .i64 m4]]) (by simp [results, Tryz.results61, go_sem, cell_set_at, cell_set_ne, r0, r1, r2, r3, r4, r5, s0, s1, s2, s3, s4]) rfl ⟨_, rfl, ⟨_, _, rfl, ownsF_nil _ _ _ _ _, ownsF_nil _ _ _ _ _⟩, ?_⟩
          repeat (first | with_reducible exact HB4.out | with_reducible refine Below.setCell ?_ (by simp; try omega) _ | with_reducible refine Below.alloc ?_ (by first | omega | (simp; omega)) _ | with_reducible refine Below.drew ?_)
    · rw [show r.drop j = [] from List.drop_eq_nil_of_le (by omega)] at hgo
      replace hgo : (rp, (⟨t0, fp, t2, t3, t4⟩ : ReplyD)) = (p, ⟨0, faceP p, [], 0, 0⟩) := hgo
      simp only [Prod.mk.injEq, ReplyD.mk.injEq] at hgo
      obtain ⟨g1, g2, g3, g4, g5, g6⟩ := hgo
      have g1 := g1.symm
      subst g1
      subst g2
      subst g4
      subst g5
      subst g6
      have HFP := Lib.hid g3.symm
      clear g3
      have hjr : ¬ (j : Int) < (r.length : Int) := by omega
      obtain ⟨⟨a0, a1, a2, a3, a4⟩, l⟩ := p
      obtain rfl : a3 = [] := hbare
      obtain ⟨u3, u5, rfl, ho3, ho5⟩ := hown
      simp only at ho3 ho5 hq
      obtain ⟨ga, gc, rfl⟩ := slice_of ho3
      obtain ⟨ua, uc, rfl⟩ := slice_of ho5
      simp only [List.length_nil] at *
      have O3 := Lib.hid ho3
      have O5 := Lib.hid ho5
      have HSM := Lib.hid hsm
      have BQ := Lib.hid hq
      have B2 := Lib.hid hr2
      have B3 := Lib.hid hr3
      have HBr := Lib.hid hbw2
      have hlq := hq.lt
      have hls := hbw2.size
      clear hsm ho3 ho5 hq hr2 hr3 hbw2
      have HRP := Lib.hid (fun W (hb : Below wr.heap.size wr W) => (show rPart 0 W [.string ⟨a0.toArray⟩, .bool a1, .bool a2, .slice ga 0 gc, .int .i64 a4, .slice ua l.length uc] (⟨⟨a0, a1, a2, [], a4⟩, l⟩ : PartD) from goodPart.mono (oPart_r ⟨_, _, rfl, ownsF_below O3.out hb (Nat.le_refl _), ownsF_below O5.out hb (Nat.le_refl _)⟩ HSM.out) (Nat.zero_le _)))
      have HFO := Lib.hid (fun W (h : rPart 0 W [.string ⟨a0.toArray⟩, .bool a1, .bool a2, .slice ga 0 gc, .int .i64 a4, .slice ua l.length uc] (⟨⟨a0, a1, a2, [], a4⟩, l⟩ : PartD)) => (show Calls Tryz.prog 110 #[.agg #[.string ⟨a0.toArray⟩, .bool a1, .bool a2, .slice ga 0 gc, .int .i64 a4, .slice ua l.length uc]] W fun e w' => e = .returned (.int .i64 (faceP (⟨⟨a0, a1, a2, [], a4⟩, l⟩ : PartD))) ∧ Below W.heap.size W w' from implFaceOf_any (.agg #[.string ⟨a0.toArray⟩, .bool a1, .bool a2, .slice ga 0 gc, .int .i64 a4, .slice ua l.length uc]) (⟨⟨a0, a1, a2, [], a4⟩, l⟩ : PartD) W ⟨[.string ⟨a0.toArray⟩, .bool a1, .bool a2, .slice ga 0 gc, .int .i64 a4, .slice ua l.length uc], rfl, h⟩))
      rw [HFP.out] at HFO
      have BQd := Lib.hid (bx_dr BQ.out)
      have B2d := Lib.hid (bx_dr B2.out)
      have B3d := Lib.hid (bx_dr B3.out)
      have q0 := BQd.out.cell 0 (by simp)
      have q1 := BQd.out.cell 1 (by simp)
      have q2 := BQd.out.cell 2 (by simp)
      have q3 := BQd.out.cell 3 (by simp)
      have q4 := BQd.out.cell 4 (by simp)
      have q5 := BQd.out.cell 5 (by simp)
      simp only [List.getElem_cons_zero, List.getElem_cons_succ] at q0 q1 q2 q3 q4 q5
      go_wp2_with fail
      go_region_with (first
          | (go_at_call 110; (with_reducible refine (HFO.out _ (HRP.out _ (bel_dr (Below.refl _ _)))).mono ?_); rintro e w6 ⟨rfl, hb6⟩; have BQ6 := Lib.hid (BQd.out.below hb6); have B26 := Lib.hid (B2d.out.below hb6); have B36 := Lib.hid (B3d.out.below hb6); have q0' := BQ6.out.cell 0 (by simp); have q1' := BQ6.out.cell 1 (by simp); have q2' := BQ6.out.cell 2 (by simp); have q3' := BQ6.out.cell 3 (by simp); have q4' := BQ6.out.cell 4 (by simp); have q5' := BQ6.out.cell 5 (by simp); have r0 := B26.out.cell 0 (by simp); have z0 := B26.out.froz 0 (by simp); have r1 := B26.out.cell 1 (by simp); have z1 := B26.out.froz 1 (by simp); have r2 := B26.out.cell 2 (by simp); have z2 := B26.out.froz 2 (by simp); have r3 := B26.out.cell 3 (by simp); have z3 := B26.out.froz 3 (by simp); have r4 := B26.out.cell 4 (by simp); have z4 := B26.out.froz 4 (by simp); have r5 := B26.out.cell 5 (by simp); have z5 := B26.out.froz 5 (by simp); have s0 := B36.out.cell 0 (by simp); have y0 := B36.out.froz 0 (by simp); have s1 := B36.out.cell 1 (by simp); have y1 := B36.out.froz 1 (by simp); have s2 := B36.out.cell 2 (by simp); have y2 := B36.out.froz 2 (by simp); have s3 := B36.out.cell 3 (by simp); have y3 := B36.out.froz 3 (by simp); have s4 := B36.out.cell 4 (by simp); have y4 := B36.out.froz 4 (by simp); simp only [List.getElem_cons_zero, List.getElem_cons_succ] at q0' q1' q2' q3' q4' q5' r0 r1 r2 r3 r4 r5 s0 s1 s2 s3 s4))
      all_goals (try go_wp2_with fail)
      all_goals
        have HB6 := Lib.hid (belS (bel_dr HBr.out) hb6)
        have T3 := Lib.hid (ownsF_below (ownsF_drew O3.out) hb6 (Nat.le_refl _))
        have T5 := Lib.hid (ownsF_below (ownsF_drew O5.out) hb6 (Nat.le_refl _))
        refine bodyPost_ret (v := .tuple #[.agg #[.string ⟨a0.toArray⟩, .bool a1, .bool a2, .slice ga 0 gc, .int .i64 a4, .slice ua l.length uc], .agg #[.int .i64 0, .int .i64 fp, .string ⟨#[]⟩, .int .i64 0, .int .i64 0]]) (by simp [results, Tryz.results61, go_sem, cell_set_at, cell_set_ne, r0, r1, r2, r3, r4, r5, s0, s1, s2, s3, s4]) rfl ⟨_, rfl, ⟨_, _, rfl, ?_, ?_⟩, ?_⟩
        · refine ownsF_base (B := ((w.heap.size + 1) + 1)) ?_ (by omega)
          repeat (first | with_reducible exact T3.out | with_reducible refine ownsF_set ?_ (by simp; try omega) | with_reducible refine ownsF_drew ?_)
        · refine ownsF_base (B := ((w.heap.size + 1) + 1)) ?_ (by omega)
          repeat (first | with_reducible exact T5.out | with_reducible refine ownsF_set ?_ (by simp; try omega) | with_reducible refine ownsF_drew ?_)
        · repeat (first | with_reducible exact HB6.out | with_reducible refine Below.setCell ?_ (by simp; try omega) _ | with_reducible refine Below.drew ?_)
theorem implMakePart_any (v : Value) (x : List (List UInt8)) (w : World) (hR : RowAt w v (x.map strV)) (hz : ∀ s ∈ x, s.length ≤ 1048576) :
    Calls Tryz.prog 61 #[v] w fun e w' => GivesOPR (makePR x).1 (makePR x).2 w e w' := by
  obtain ⟨a, c, rfl, hl, hcap⟩ := rowAt_cap hR
  cases x with
  | nil => exact implMake_nil a c w
  | cons k r =>
    obtain ⟨b, o, rfl, hbw, _⟩ := rowAt_cell hR 0 (by simp)
    simp only [List.length_map, List.length_cons] at hR hl hcap ⊢
    by_cases hk : 0 ≤ kindI k
    · rw [show makePR (k :: r) = makeGo (newP k) r from if_pos hk]
      by_cases h1 : c = 1
      · exact implMake_one b o c k r w hR hz hcap hl h1 hk
      · exact implMake_go b o c k r w hR hz hcap hl (by omega) hk
    · rw [show makePR (k :: r) = (zeroP, ⟨7, 0, [], 0, 0⟩) from if_neg hk]
      exact implMake_bad b o c k r w hR hz hcap hl hk
set_option maxRecDepth 100000 in
set_option maxHeartbeats 1600000 in
theorem implRecipeFace_any (v : Value) (x : List (List UInt8)) (w : World) (hR : RowAt w v (x.map strV)) (hz : ∀ s ∈ x, s.length ≤ 1048576) :
    Calls Tryz.prog 98 #[v] w fun e w' => e = .returned (.tuple #[.int .i64 (recI x), .bool (recB x)]) ∧ Below w.heap.size w w' := by
  have HMK := Lib.hid (implMakePart_any v x w hR hz)
  have HSM := Lib.hid (makePR_small hz)
  have HV := Lib.hid (@makePR_val x)
  unfold recI recB
  generalize makePR x = res at *
  obtain ⟨⟨⟨a0, a1, a2, a3, a4⟩, l⟩, m0, m1, m2, m3, m4⟩ := res
  unfold GivesOPR vReply at HMK
  simp only at HMK HSM ⊢
  have HFO := Lib.hid (fun cs W (h : rPart 0 W cs ⟨⟨a0, a1, a2, a3, a4⟩, l⟩) => implFaceOf_any (.agg cs.toArray) ⟨⟨a0, a1, a2, a3, a4⟩, l⟩ W ⟨cs, rfl, h⟩)
  generalize hfp : faceP ⟨⟨a0, a1, a2, a3, a4⟩, l⟩ = fp at *
  clear hfp hR hz
  by_cases hc : m0 = 0
  · subst hc
    have hv : m1 = fp := HV.out rfl
    subst hv
    simp only [if_true, decide_true]
    clear HV
    go_enter Tryz.func98, Tryz.ntmps98
    go_wp2_with fail
    refine HMK.out.mono ?_
    rintro e w1 ⟨_, rfl, ⟨u3, u5, rfl, ho3, ho5⟩, hb⟩
    simp only at ho3 ho5
    obtain ⟨ga, gc, rfl⟩ := slice_of ho3
    obtain ⟨ua, uc, rfl⟩ := slice_of ho5
    have HB1 := Lib.hid (belS (belS hb (bx_box w1 (.cells #[.string ⟨a0.toArray⟩, .bool a1, .bool a2, .slice ga a3.length gc, .int .i64 a4, .slice ua l.length uc] 74))) (bx_box _ (.cells #[.int .i64 0, .int .i64 m1, .string ⟨m2.toArray⟩, .int .i64 m3, .int .i64 m4] 76)))
    have O3 := Lib.hid (ownsF_alloc (ownsF_alloc ho3 (.cells #[.string ⟨a0.toArray⟩, .bool a1, .bool a2, .slice ga a3.length gc, .int .i64 a4, .slice ua l.length uc] 74)) (.cells #[.int .i64 0, .int .i64 m1, .string ⟨m2.toArray⟩, .int .i64 m3, .int .i64 m4] 76))
    have O5 := Lib.hid (ownsF_alloc (ownsF_alloc ho5 (.cells #[.string ⟨a0.toArray⟩, .bool a1, .bool a2, .slice ga a3.length gc, .int .i64 a4, .slice ua l.length uc] 74)) (.cells #[.int .i64 0, .int .i64 m1, .string ⟨m2.toArray⟩, .int .i64 m3, .int .i64 m4] 76))
    have HRP := Lib.hid (show rPart 0 ((w1.alloc (.cells #[.string ⟨a0.toArray⟩, .bool a1, .bool a2, .slice ga a3.length gc, .int .i64 a4, .slice ua l.length uc] 74)).alloc (.cells #[.int .i64 0, .int .i64 m1, .string ⟨m2.toArray⟩, .int .i64 m3, .int .i64 m4] 76)) [.string ⟨a0.toArray⟩, .bool a1, .bool a2, .slice ga a3.length gc, .int .i64 a4, .slice ua l.length uc] ⟨⟨a0, a1, a2, a3, a4⟩, l⟩ from goodPart.mono (oPart_r ⟨_, _, rfl, O3.out, O5.out⟩ HSM.out) (Nat.zero_le _))
    clear ho3 ho5 hb
    go_wp2_with fail
    refine (HFO.out _ _ HRP.out).mono ?_
    rintro e w2 ⟨rfl, hb2⟩
    have HB2 := Lib.hid (belS HB1.out hb2)
    clear hb2
    go_wp2_with fail
    exact bodyPost_ret (v := .tuple #[.int .i64 m1, .bool true]) (by simp [results, Tryz.results98, go_sem]) rfl ⟨rfl, HB2.out⟩
  · simp only [if_neg hc, decide_eq_false hc]
    clear HV
    go_enter Tryz.func98, Tryz.ntmps98
    go_wp2_with fail
    refine HMK.out.mono ?_
    rintro e w1 ⟨_, rfl, ⟨u3, u5, rfl, ho3, ho5⟩, hb⟩
    simp only at ho3 ho5
    obtain ⟨ga, gc, rfl⟩ := slice_of ho3
    obtain ⟨ua, uc, rfl⟩ := slice_of ho5
    have HB1 := Lib.hid (belS (belS hb (bx_box w1 (.cells #[.string ⟨a0.toArray⟩, .bool a1, .bool a2, .slice ga a3.length gc, .int .i64 a4, .slice ua l.length uc] 74))) (bx_box _ (.cells #[.int .i64 m0, .int .i64 m1, .string ⟨m2.toArray⟩, .int .i64 m3, .int .i64 m4] 76)))
    clear ho3 ho5 hb
    go_wp2_with fail
    exact bodyPost_ret (v := .tuple #[.int .i64 0, .bool false]) (by simp [results, Tryz.results98, go_sem]) rfl ⟨rfl, HB1.out⟩
end Go.Proofs.YteeopjcbpngofaaGreat
/- Contracts of chapter 6: IsEntry, the program's. Written by gen/ch6e.py. -/
namespace Go.Proofs.YteeopjcbpngofaaGreat
set_option linter.unusedVariables false
set_option linter.unusedSimpArgs false
open Go.RowKit
set_option maxRecDepth 100000 in
set_option maxHeartbeats 3200000 in
theorem hasNeeds_any (v : Value) (x : EntryD) (w : World) (hx : ValAt rEntry 0 w v x) (hn : x.fName.length ≤ maxLen) (hk : ∀ d ∈ x.fNeeds, d.fFrom.length ≤ maxLen) (hr : ∀ s ∈ x.fRecipe, s.length ≤ 1048576) :
    Calls Tryz.prog 181 #[v] w fun e w' => e = .returned (.bool (needsB x)) ∧ Below w.heap.size w w' := by
  obtain ⟨_, rfl, hx⟩ := hx
  have HX := Lib.hid (fun W (hb : Below w.heap.size w W) => goodEntry.keep hx (kept_below hb (Nat.le_refl _)))
  obtain ⟨a0, a1, ⟨a2, a3⟩, l⟩ := x
  obtain ⟨v1, v4, rfl, h1, h4⟩ := hx
  simp only at h1 h4 hk hn hr
  obtain ⟨ra, rc, rfl, _⟩ := sliceAt_len h1
  obtain ⟨sa, sc, rfl, hl⟩ := sliceAt_len h4
  have H1 := Lib.hid h1
  have H4 := Lib.hid h4
  have HK := Lib.hid hk
  unfold maxLen at hl
  have BS := Lib.hid (bx_start1 w [.string ⟨a0.toArray⟩, .slice ra a1.length rc, .int .i64 a2, .int .i64 a3, .slice sa l.length sc] 95)
  clear h1 h4 hk hn hr
  by_cases h3 : 3 < l.length
  · rw [show needsB ⟨a0, a1, ⟨a2, a3⟩, l⟩ = false by unfold needsB; rw [decide_eq_false (by simp only; omega)]; rfl]
    have hgt : (3 : Int) < (l.length : Int) := by omega
    clear h3
    go_enter Tryz.func181, Tryz.ntmps181
    go_wp2_with fail
    go_ret
    exact ⟨rfl, BS.out.2⟩
  · rw [show needsB ⟨a0, a1, ⟨a2, a3⟩, l⟩ = l.all (needOk a0) by unfold needsB; rw [decide_eq_true (by simp only; omega)]; rfl]
    generalize hres : l.all (needOk a0) = res
    have HRES := Lib.hid (show res = (l.drop 0).all (needOk a0) from hres.symm)
    have hgt : ¬ (3 : Int) < (l.length : Int) := by omega
    have BX0 := Lib.hid BS.out.1
    have HB0 := Lib.hid BS.out.2
    clear h3 hres
    go_enter Tryz.func181, Tryz.ntmps181
    go_wp2_with fail
    go_loopw [4, 12] (fun _ i wr => ∃ k : Nat, k ≤ l.length ∧ i = .int .i64 k ∧ res = (l.drop k).all (needOk a0) ∧ Below w.heap.size w wr ∧ Bx wr w.heap.size [.string ⟨a0.toArray⟩, .slice ra a1.length rc, .int .i64 a2, .int .i64 a3, .slice sa l.length sc]) (fun _ i _ => l.length - (intOf i).toNat)
    case atStart => exact ⟨0, Nat.zero_le _, rfl, HRES.out, HB0.out, BX0.out⟩
    case round =>
      obtain ⟨k, hk, rfl, hres, hbr, hbx⟩ := hrel
      have HRS := Lib.hid hres
      have HBr := Lib.hid hbr
      have BXr := Lib.hid hbx
      have HXr := Lib.hid (SliceAt.below H4.out (good_flat cNeed_len) hbr (Nat.le_refl _))
      have hszr := hbr.size
      clear hres hbr hbx
      by_cases hlt : k < l.length
      · obtain ⟨b, o, cs, rfl, hbw, hat, hd⟩ := sliceAt_cell HXr.out k hlt
        have HM := Lib.hid (HK.out _ (List.getElem_mem hlt))
        have HDR := Lib.hid (show l.drop k = l[k] :: l.drop (k + 1) from List.drop_eq_getElem_cons hlt)
        generalize l[k] = z at *
        obtain ⟨m0, m1, m2, m3⟩ := z
        simp only [rFlat, cNeed] at hat
        subst hat
        have d0 := hd 0 (by decide)
        have d1 := hd 1 (by decide)
        have d2 := hd 2 (by decide)
        have d3 := hd 3 (by decide)
        simp only [List.getElem?_cons_zero, List.getElem?_cons_succ, Nat.add_zero] at d0 d1 d2 d3
        have HIN := Lib.hid (fun W => implIsNeed_any ⟨m0, m1, m2, m3⟩ W HM.out)
        unfold vNeed at HIN
        simp only at HIN
        have HRS2 := Lib.hid (show res = ((needB ⟨m0, m1, m2, m3⟩ && !(m1 == a0)) && (l.drop (k + 1)).all (needOk a0)) by rw [HRS.out, HDR.out]; rfl)
        generalize needB ⟨m0, m1, m2, m3⟩ = nb at *
        have BN := Lib.hid (Bx.new wr [.int .i64 m0, .string ⟨m1.toArray⟩, .int .i64 m2, .int .i64 m3] 97)
        have HBN := Lib.hid (belS HBr.out (bx_box wr (.cells #[.int .i64 m0, .string ⟨m1.toArray⟩, .int .i64 m2, .int .i64 m3] 97)))
        have BXN := Lib.hid (BXr.out.alloc (.cells #[.int .i64 m0, .string ⟨m1.toArray⟩, .int .i64 m2, .int .i64 m3] 97))
        have hkl : (k : Int) < (l.length : Int) := by omega
        clear hd HRS HDR
        cases nb
        · obtain rfl : res = false := by have h := HRS2.out; simpa using h
          clear HRS2
          have n0 := BN.out.cell 0 (by simp)
          have n1 := BN.out.cell 1 (by simp)
          have n2 := BN.out.cell 2 (by simp)
          have n3 := BN.out.cell 3 (by simp)
          simp only [List.getElem_cons_zero, List.getElem_cons_succ] at n0 n1 n2 n3
          go_wp2_with fail
          refine (HIN.out _).mono ?_
          rintro e w2 ⟨rfl, hb⟩
          have HB2 := Lib.hid (belS HBN.out hb)
          clear hb
          go_wp2_with fail
          go_ret
          exact ⟨rfl, HB2.out⟩
        · by_cases he : m1 = a0
          · obtain rfl : res = false := by have h := HRS2.out; rw [show (m1 == a0) = true by simp [he]] at h; simpa using h
            have heq : (m1 == a0) = true := by simp [he]
            clear HRS2 he
            have n0 := BN.out.cell 0 (by simp)
            have n1 := BN.out.cell 1 (by simp)
            have n2 := BN.out.cell 2 (by simp)
            have n3 := BN.out.cell 3 (by simp)
            simp only [List.getElem_cons_zero, List.getElem_cons_succ] at n0 n1 n2 n3
            go_wp2_with fail
            refine (HIN.out _).mono ?_
            rintro e w2 ⟨rfl, hb⟩
            have HB2 := Lib.hid (belS HBN.out hb)
            have BN2 := Lib.hid (BN.out.below hb)
            have BX2 := Lib.hid (BXN.out.below hb)
            clear hb n0 n1 n2 n3
            have n0 := BN2.out.cell 0 (by simp)
            have n1 := BN2.out.cell 1 (by simp)
            have n2 := BN2.out.cell 2 (by simp)
            have n3 := BN2.out.cell 3 (by simp)
            simp only [List.getElem_cons_zero, List.getElem_cons_succ] at n0 n1 n2 n3
            have x0 := BX2.out.cell 0 (by simp)
            have x1 := BX2.out.cell 1 (by simp)
            have x2 := BX2.out.cell 2 (by simp)
            have x3 := BX2.out.cell 3 (by simp)
            have x4 := BX2.out.cell 4 (by simp)
            simp only [List.getElem_cons_zero, List.getElem_cons_succ] at x0 x1 x2 x3 x4
            go_wp2_with fail
            go_ret
            exact ⟨rfl, HB2.out⟩
          · have HR3 := Lib.hid (show res = (l.drop (k + 1)).all (needOk a0) by have h := HRS2.out; rw [show (m1 == a0) = false by simp [he]] at h; simpa using h)
            have heq : (m1 == a0) = false := by simp [he]
            clear HRS2 he
            have n0 := BN.out.cell 0 (by simp)
            have n1 := BN.out.cell 1 (by simp)
            have n2 := BN.out.cell 2 (by simp)
            have n3 := BN.out.cell 3 (by simp)
            simp only [List.getElem_cons_zero, List.getElem_cons_succ] at n0 n1 n2 n3
            go_wp2_with fail
            refine (HIN.out _).mono ?_
            rintro e w2 ⟨rfl, hb⟩
            have HB2 := Lib.hid (belS HBN.out hb)
            have BN2 := Lib.hid (BN.out.below hb)
            have BX2 := Lib.hid (BXN.out.below hb)
            clear hb n0 n1 n2 n3
            have n0 := BN2.out.cell 0 (by simp)
            have n1 := BN2.out.cell 1 (by simp)
            have n2 := BN2.out.cell 2 (by simp)
            have n3 := BN2.out.cell 3 (by simp)
            simp only [List.getElem_cons_zero, List.getElem_cons_succ] at n0 n1 n2 n3
            have x0 := BX2.out.cell 0 (by simp)
            have x1 := BX2.out.cell 1 (by simp)
            have x2 := BX2.out.cell 2 (by simp)
            have x3 := BX2.out.cell 3 (by simp)
            have x4 := BX2.out.cell 4 (by simp)
            simp only [List.getElem_cons_zero, List.getElem_cons_succ] at x0 x1 x2 x3 x4
            go_wp2_with fail
            exact ⟨⟨k + 1, by omega, by go_num, HR3.out, HB2.out, BX2.out⟩, by simp [intOf]; omega⟩
      · obtain rfl : res = true := by have h := HRS.out; rw [List.drop_eq_nil_of_le (by omega)] at h; simpa using h
        have hkl : ¬ (k : Int) < (l.length : Int) := by omega
        go_wp2_with fail
        go_ret
        exact ⟨rfl, HBr.out⟩
set_option maxRecDepth 100000 in
set_option maxHeartbeats 3200000 in
theorem faceOfEntry_any (v : Value) (x : EntryD) (w : World) (hx : ValAt rEntry 0 w v x) (hn : x.fName.length ≤ maxLen) (hk : ∀ d ∈ x.fNeeds, d.fFrom.length ≤ maxLen) (hr : ∀ s ∈ x.fRecipe, s.length ≤ 1048576) :
    Calls Tryz.prog 156 #[v] w fun e w' => e = .returned (.tuple #[.int .i64 (entryI x), .bool (entryB x)]) ∧ Below w.heap.size w w' := by
  have HND := Lib.hid (fun cs W (h : rEntry 0 W cs x) => hasNeeds_any (.agg cs.toArray) x W ⟨cs, rfl, h⟩ hn hk hr)
  have HRF := Lib.hid (fun v W (h : RowAt W v (x.fRecipe.map strV)) => implRecipeFace_any v x.fRecipe W h hr)
  have HNM := Lib.hid (fun W => implIsName_any ⟨x.fName.toArray⟩ W (by simpa [ByteArray.size] using hn))
  have HVR := Lib.hid (fun W => implIsVer_any x.fVersion W)
  unfold entryI entryB headB
  generalize needsB x = q at *
  generalize recI x.fRecipe = fi at *
  generalize recB x.fRecipe = fb at *
  obtain ⟨_, rfl, hx⟩ := hx
  have HX := Lib.hid (fun W (hb : Below w.heap.size w W) => goodEntry.keep hx (kept_below hb (Nat.le_refl _)))
  obtain ⟨a0, a1, ⟨a2, a3⟩, l⟩ := x
  obtain ⟨v1, v4, rfl, h1, h4⟩ := hx
  simp only at h1 h4 hk hn hr
  obtain ⟨ra, rc, rfl, _⟩ := sliceAt_len h1
  obtain ⟨sa, sc, rfl, hl⟩ := sliceAt_len h4
  have H1 := Lib.hid h1
  have H4 := Lib.hid h4
  have HK := Lib.hid hk
  unfold maxLen at hl
  have BS := Lib.hid (bx_start1 w [.string ⟨a0.toArray⟩, .slice ra a1.length rc, .int .i64 a2, .int .i64 a3, .slice sa l.length sc] 95)
  simp only [List.toList_toArray, vVersion] at *
  generalize nameB a0 = nb at *
  generalize verB ⟨a2, a3⟩ = vb at *
  have BX0 := Lib.hid BS.out.1
  have HB0 := Lib.hid BS.out.2
  clear h1 h4 hk hn hr
  cases nb
  · change Calls Tryz.prog 156 _ w (fun e w' => e = .returned (.tuple #[.int .i64 0, .bool false]) ∧ Below w.heap.size w w')
    go_enter Tryz.func156, Tryz.ntmps156
    go_wp2_with (first | (go_at_call 96; (with_reducible refine (HNM.out _).mono ?_); rintro e w' ⟨rfl, rfl⟩))
    exact bodyPost_ret (v := .tuple #[.int .i64 0, .bool false]) (by simp [results, Tryz.results156, go_sem]) rfl ⟨rfl, HB0.out⟩
  cases vb
  · change Calls Tryz.prog 156 _ w (fun e w' => e = .returned (.tuple #[.int .i64 0, .bool false]) ∧ Below w.heap.size w w')
    go_enter Tryz.func156, Tryz.ntmps156
    go_wp2_with (first | (go_at_call 96; (with_reducible refine (HNM.out _).mono ?_); rintro e w' ⟨rfl, rfl⟩))
    refine (HVR.out _).mono ?_
    rintro e w1 ⟨rfl, hb⟩
    have HB1 := Lib.hid (belS HB0.out hb)
    have BX1 := Lib.hid (BX0.out.below hb)
    clear hb
    have y0 := BX1.out.cell 0 (by simp)
    have y1 := BX1.out.cell 1 (by simp)
    have y2 := BX1.out.cell 2 (by simp)
    have y3 := BX1.out.cell 3 (by simp)
    have y4 := BX1.out.cell 4 (by simp)
    simp only [List.getElem_cons_zero, List.getElem_cons_succ] at y0 y1 y2 y3 y4
    go_wp2_with fail
    exact bodyPost_ret (v := .tuple #[.int .i64 0, .bool false]) (by simp [results, Tryz.results156, go_sem]) rfl ⟨rfl, HB1.out⟩
  cases q
  · change Calls Tryz.prog 156 _ w (fun e w' => e = .returned (.tuple #[.int .i64 0, .bool false]) ∧ Below w.heap.size w w')
    go_enter Tryz.func156, Tryz.ntmps156
    go_wp2_with (first | (go_at_call 96; (with_reducible refine (HNM.out _).mono ?_); rintro e w' ⟨rfl, rfl⟩))
    refine (HVR.out _).mono ?_
    rintro e w1 ⟨rfl, hb⟩
    have HB1 := Lib.hid (belS HB0.out hb)
    have BX1 := Lib.hid (BX0.out.below hb)
    clear hb
    have y0 := BX1.out.cell 0 (by simp)
    have y1 := BX1.out.cell 1 (by simp)
    have y2 := BX1.out.cell 2 (by simp)
    have y3 := BX1.out.cell 3 (by simp)
    have y4 := BX1.out.cell 4 (by simp)
    simp only [List.getElem_cons_zero, List.getElem_cons_succ] at y0 y1 y2 y3 y4
    go_wp2_with fail
    refine (HND.out _ _ (HX.out _ HB1.out)).mono ?_
    rintro e w2 ⟨rfl, hb⟩
    have HB2 := Lib.hid (belS HB1.out hb)
    have BX2 := Lib.hid (BX1.out.below hb)
    clear hb y0 y1 y2 y3 y4
    have y0 := BX2.out.cell 0 (by simp)
    have y1 := BX2.out.cell 1 (by simp)
    have y2 := BX2.out.cell 2 (by simp)
    have y3 := BX2.out.cell 3 (by simp)
    have y4 := BX2.out.cell 4 (by simp)
    simp only [List.getElem_cons_zero, List.getElem_cons_succ] at y0 y1 y2 y3 y4
    go_wp2_with fail
    exact bodyPost_ret (v := .tuple #[.int .i64 0, .bool false]) (by simp [results, Tryz.results156, go_sem]) rfl ⟨rfl, HB2.out⟩
  change Calls Tryz.prog 156 _ w (fun e w' => e = .returned (.tuple #[.int .i64 fi, .bool fb]) ∧ Below w.heap.size w w')
  go_enter Tryz.func156, Tryz.ntmps156
  go_wp2_with (first | (go_at_call 96; (with_reducible refine (HNM.out _).mono ?_); rintro e w' ⟨rfl, rfl⟩))
  refine (HVR.out _).mono ?_
  rintro e w1 ⟨rfl, hb⟩
  have HB1 := Lib.hid (belS HB0.out hb)
  have BX1 := Lib.hid (BX0.out.below hb)
  clear hb
  have y0 := BX1.out.cell 0 (by simp)
  have y1 := BX1.out.cell 1 (by simp)
  have y2 := BX1.out.cell 2 (by simp)
  have y3 := BX1.out.cell 3 (by simp)
  have y4 := BX1.out.cell 4 (by simp)
  simp only [List.getElem_cons_zero, List.getElem_cons_succ] at y0 y1 y2 y3 y4
  go_wp2_with fail
  refine (HND.out _ _ (HX.out _ HB1.out)).mono ?_
  rintro e w2 ⟨rfl, hb⟩
  have HB2 := Lib.hid (belS HB1.out hb)
  have BX2 := Lib.hid (BX1.out.below hb)
  clear hb y0 y1 y2 y3 y4
  have y0 := BX2.out.cell 0 (by simp)
  have y1 := BX2.out.cell 1 (by simp)
  have y2 := BX2.out.cell 2 (by simp)
  have y3 := BX2.out.cell 3 (by simp)
  have y4 := BX2.out.cell 4 (by simp)
  simp only [List.getElem_cons_zero, List.getElem_cons_succ] at y0 y1 y2 y3 y4
  go_wp2_with fail
  refine (HRF.out _ _ (row_of_slice (SliceAt.below H1.out good_str HB2.out (Nat.le_refl _)))).mono ?_
  rintro e w3 ⟨rfl, hb⟩
  have HB3 := Lib.hid (belS HB2.out hb)
  clear hb
  go_wp2_with fail
  exact bodyPost_ret (v := .tuple #[.int .i64 fi, .bool fb]) (by simp [results, Tryz.results156, go_sem]) rfl ⟨rfl, HB3.out⟩
set_option maxRecDepth 100000 in
set_option maxHeartbeats 3200000 in
theorem implIsEntry_any (v : Value) (x : EntryD) (w : World) (hx : ValAt rEntry 0 w v x) (hn : x.fName.length ≤ maxLen) (hk : ∀ d ∈ x.fNeeds, d.fFrom.length ≤ maxLen) (hr : ∀ s ∈ x.fRecipe, s.length ≤ 1048576) :
    Calls Tryz.prog 117 #[v] w fun e w' => e = .returned (.bool (entryB x)) ∧ Below w.heap.size w w' := by
  have HF := Lib.hid (fun cs W (h : rEntry 0 W cs x) => faceOfEntry_any (.agg cs.toArray) x W ⟨cs, rfl, h⟩ hn hk hr)
  generalize entryB x = eb at *
  generalize entryI x = ei at *
  obtain ⟨_, rfl, hx⟩ := hx
  have HX := Lib.hid (fun W (hb : Below w.heap.size w W) => goodEntry.keep hx (kept_below hb (Nat.le_refl _)))
  obtain ⟨a0, a1, ⟨a2, a3⟩, l⟩ := x
  obtain ⟨v1, v4, rfl, h1, h4⟩ := hx
  simp only at h1 h4 hk hn hr
  obtain ⟨ra, rc, rfl, _⟩ := sliceAt_len h1
  obtain ⟨sa, sc, rfl, hl⟩ := sliceAt_len h4
  have H1 := Lib.hid h1
  have H4 := Lib.hid h4
  have HK := Lib.hid hk
  unfold maxLen at hl
  have BS := Lib.hid (bx_start1 w [.string ⟨a0.toArray⟩, .slice ra a1.length rc, .int .i64 a2, .int .i64 a3, .slice sa l.length sc] 95)
  clear h1 h4 hk hn hr
  go_enter Tryz.func117, Tryz.ntmps117
  go_wp2_with fail
  refine (HF.out _ _ (HX.out _ BS.out.2)).mono ?_
  rintro e w1 ⟨rfl, hb⟩
  have HB1 := Lib.hid (belS BS.out.2 hb)
  clear hb
  go_wp2_with fail
  go_ret
  exact ⟨rfl, HB1.out⟩
end Go.Proofs.YteeopjcbpngofaaGreat
/- Contracts of chapter 6: IsRegistry, the program's. Written by gen/ch6r.py. -/
namespace Go.Proofs.YteeopjcbpngofaaGreat
set_option linter.unusedVariables false
set_option linter.unusedSimpArgs false
open Go.RowKit
set_option maxRecDepth 100000 in
set_option maxHeartbeats 3200000 in
theorem implIsReg_any (v : Value) (l : List EntryD) (w : World) (hx : SliceAt rEntry 5 0 w v l) (hg : ∀ e ∈ l, e.fName.length ≤ 1048576 ∧ (∀ d ∈ e.fNeeds, d.fFrom.length ≤ maxLen) ∧ ∀ s ∈ e.fRecipe, s.length ≤ 1048576) :
    Calls Tryz.prog 72 #[v] w fun e w' => e = .returned (.bool (regB l)) ∧ Below w.heap.size w w' := by
  obtain ⟨a, c, rfl, hl⟩ := sliceAt_len hx
  have HX := Lib.hid hx
  have HIE := Lib.hid (fun cs (x : EntryD) W (h : rEntry 0 W cs x) (hq : x ∈ l) => implIsEntry_any (.agg cs.toArray) x W ⟨cs, rfl, h⟩ (Nat.le_trans (hg x hq).1 (by decide)) (hg x hq).2.1 (hg x hq).2.2)
  unfold maxLen at hl
  clear hx hg
  by_cases h6 : 6 < l.length
  · rw [show regB l = false by unfold regB; rw [decide_eq_false (by omega), Bool.and_false]]
    have hgt : (6 : Int) < (l.length : Int) := by omega
    clear h6
    go_enter Tryz.func72, Tryz.ntmps72
    go_wp2_with fail
    go_ret
    exact ⟨rfl, Below.refl _ _⟩
  have hgt : ¬ (6 : Int) < (l.length : Int) := by omega
  generalize hres : regB l = res
  have HRES := Lib.hid (show res = (regGo (prv l 0) (l.drop 0) && true) by rw [← hres]; unfold regB; rw [decide_eq_true (by omega)]; rfl)
  clear hres h6
  go_enter Tryz.func72, Tryz.ntmps72
  go_wp2_with fail
  go_loopw [3, 4, 10] (fun _ _ i wr => ∃ k : Nat, k ≤ l.length ∧ i = .int .i64 k ∧ res = (regGo (prv l k) (l.drop k) && true) ∧ Below w.heap.size w wr) (fun _ _ i _ => l.length - (intOf i).toNat)
  case atStart => exact ⟨0, Nat.zero_le _, rfl, HRES.out, Below.refl _ _⟩
  case round =>
    obtain ⟨k, hk, rfl, hres, hbr⟩ := hrel
    have HRS := Lib.hid hres
    have HBr := Lib.hid hbr
    have HXr := Lib.hid (SliceAt.below HX.out goodEntry hbr (Nat.le_refl _))
    have hszr := hbr.size
    clear hres hbr
    by_cases hlt : k < l.length
    · obtain ⟨b, o, cs, rfl, hbw, hat, hd⟩ := sliceAt_cell HXr.out k hlt
      have HM := Lib.hid (List.getElem_mem hlt)
      have HDR := Lib.hid (show l.drop k = l[k] :: l.drop (k + 1) from List.drop_eq_getElem_cons hlt)
      have HPS := Lib.hid (prv_succ hlt)
      have HI1 := Lib.hid (fun cs W (h : rEntry 0 W cs l[k]) => HIE.out cs l[k] W h HM.out)
      have HAT := Lib.hid (fun W (hb : Below wr.heap.size wr W) => goodEntry.keep hat (kept_below hb (Nat.le_refl _)))
      clear HM
      generalize l[k] = z at *
      obtain ⟨a0, a1, ⟨a2, a3⟩, l2⟩ := z
      obtain ⟨v1, v4, rfl, h1, h4⟩ := hat
      simp only at h1 h4 HPS
      obtain ⟨ra, rc, rfl, _⟩ := sliceAt_len h1
      obtain ⟨sa, sc, rfl, _⟩ := sliceAt_len h4
      have d0 := hd 0 (by decide)
      have d1 := hd 1 (by decide)
      have d2 := hd 2 (by decide)
      have d3 := hd 3 (by decide)
      have d4 := hd 4 (by decide)
      simp only [List.getElem?_cons_zero, List.getElem?_cons_succ, Nat.add_zero] at d0 d1 d2 d3 d4
      have HRS2 := Lib.hid (show res = (((entryB ⟨a0, a1, ⟨a2, a3⟩, l2⟩ && ltO (prv l k) a0) && regGo (prv l (k + 1)) (l.drop (k + 1))) && true) by rw [HRS.out, HDR.out, HPS.out]; rfl)
      generalize entryB ⟨a0, a1, ⟨a2, a3⟩, l2⟩ = eb at *
      have BE := Lib.hid (Bx.new wr [.string ⟨a0.toArray⟩, .slice ra a1.length rc, .int .i64 a2, .int .i64 a3, .slice sa l2.length sc] 95)
      have HBN := Lib.hid (belS HBr.out (bx_box wr (.cells #[.string ⟨a0.toArray⟩, .slice ra a1.length rc, .int .i64 a2, .int .i64 a3, .slice sa l2.length sc] 95)))
      have HAT1 := Lib.hid (HAT.out _ (bel_drR (bx_box wr (.cells #[.string ⟨a0.toArray⟩, .slice ra a1.length rc, .int .i64 a2, .int .i64 a3, .slice sa l2.length sc] 95))))
      have HAT0 := Lib.hid (HAT.out _ (bx_box wr (.cells #[.string ⟨a0.toArray⟩, .slice ra a1.length rc, .int .i64 a2, .int .i64 a3, .slice sa l2.length sc] 95)))
      have hkl : (k : Int) < (l.length : Int) := by omega
      clear hd HRS HDR h1 h4 HAT HPS
      cases eb
      · obtain rfl : res = false := by rw [HRS2.out]; simp
        clear HRS2
        have e0 := BE.out.cell 0 (by simp)
        have e1 := BE.out.cell 1 (by simp)
        have e2 := BE.out.cell 2 (by simp)
        have e3 := BE.out.cell 3 (by simp)
        have e4 := BE.out.cell 4 (by simp)
        simp only [List.getElem_cons_zero, List.getElem_cons_succ] at e0 e1 e2 e3 e4
        go_wp2_with fail
        refine (HI1.out _ _ HAT0.out).mono ?_
        rintro e w2 ⟨rfl, hb⟩
        have HB2 := Lib.hid (belS HBN.out hb)
        have BE2 := Lib.hid (BE.out.below hb)
        have hb2s := hb.size
        clear hb e0 e1 e2 e3 e4
        have e0 := BE2.out.cell 0 (by simp)
        have e1 := BE2.out.cell 1 (by simp)
        have e2 := BE2.out.cell 2 (by simp)
        have e3 := BE2.out.cell 3 (by simp)
        have e4 := BE2.out.cell 4 (by simp)
        simp only [List.getElem_cons_zero, List.getElem_cons_succ] at e0 e1 e2 e3 e4
        go_wp2_with fail
        go_ret
        exact ⟨rfl, HB2.out⟩
      by_cases hk0 : k = 0
      · subst hk0
        simp only [Nat.zero_mul, Nat.add_zero] at d0 d1 d2 d3 d4
        have HR3 := Lib.hid (show res = (regGo (prv l (0 + 1)) (l.drop (0 + 1)) && true) by rw [HRS2.out]; rfl)
        clear HRS2
        have e0 := BE.out.cell 0 (by simp)
        have e1 := BE.out.cell 1 (by simp)
        have e2 := BE.out.cell 2 (by simp)
        have e3 := BE.out.cell 3 (by simp)
        have e4 := BE.out.cell 4 (by simp)
        simp only [List.getElem_cons_zero, List.getElem_cons_succ] at e0 e1 e2 e3 e4
        go_wp2_with fail
        refine (HI1.out _ _ HAT0.out).mono ?_
        rintro e w2 ⟨rfl, hb⟩
        have HB2 := Lib.hid (belS HBN.out hb)
        have BE2 := Lib.hid (BE.out.below hb)
        have hb2s := hb.size
        clear hb e0 e1 e2 e3 e4
        have e0 := BE2.out.cell 0 (by simp)
        have e1 := BE2.out.cell 1 (by simp)
        have e2 := BE2.out.cell 2 (by simp)
        have e3 := BE2.out.cell 3 (by simp)
        have e4 := BE2.out.cell 4 (by simp)
        simp only [List.getElem_cons_zero, List.getElem_cons_succ] at e0 e1 e2 e3 e4
        go_wp2_with fail
        refine wp_region_held_drew (S := (fun w' => w'.cell? ⟨wr.heap.size, 0, none⟩ = some (.string ⟨a0.toArray⟩))) (by kernel_rfl) ?_ (fun hHeld => ?_)
        · exact BE2.out.cell 0 (by simp)
        refine wpAnyH_take (i := 0) (v := ?_) rfl (by kernel_rfl) (by kernel_rfl) (by kernel_rfl) (fun _ _ _ h => h) (Or.inl ⟨by rfl, ?_⟩) (by assumption) ?_
        rotate_left
        · intro w hSw; (try dsimp only at hSw); go_simp; with_reducible rfl
        try simp only [Act.put, List.getElem_toArray, List.getElem_cons_zero, List.getElem_cons_succ, List.setIfInBounds_toArray, List.set_cons_zero, List.set_cons_succ]
        refine wpAnyH_take (i := 1) (v := ?_) rfl (by kernel_rfl) (by kernel_rfl) (by kernel_rfl) (fun _ _ _ h => h) (Or.inl ⟨by rfl, ?_⟩) (by assumption) ?_
        rotate_left
        · intro w hSw; (try dsimp only at hSw); go_simp; with_reducible rfl
        try simp only [Act.put, List.getElem_toArray, List.getElem_cons_zero, List.getElem_cons_succ, List.setIfInBounds_toArray, List.set_cons_zero, List.set_cons_succ]
        refine wpAnyH_take (i := 2) (v := ?_) rfl (by kernel_rfl) (by kernel_rfl) (by kernel_rfl) (fun _ _ _ h => h) (Or.inl ⟨by rfl, ?_⟩) (by assumption) ?_
        rotate_left
        · intro w hSw; (try dsimp only at hSw); go_simp; with_reducible rfl
        try simp only [Act.put, List.getElem_toArray, List.getElem_cons_zero, List.getElem_cons_succ, List.setIfInBounds_toArray, List.set_cons_zero, List.set_cons_succ]
        refine wpAnyH_take (i := 3) (v := undef) rfl (by kernel_rfl) (by kernel_rfl) (by kernel_rfl) (fun _ _ _ h => h) (Or.inr ⟨by rfl, rfl⟩) (by assumption) ?_
        try simp only [Act.put, List.getElem_toArray, List.getElem_cons_zero, List.getElem_cons_succ, List.setIfInBounds_toArray, List.set_cons_zero, List.set_cons_succ]
        refine wpAnyH_take (i := 4) (v := undef) rfl (by kernel_rfl) (by kernel_rfl) (by kernel_rfl) (fun _ _ _ h => h) (Or.inr ⟨by rfl, rfl⟩) (by assumption) ?_
        try simp only [Act.put, List.getElem_toArray, List.getElem_cons_zero, List.getElem_cons_succ, List.setIfInBounds_toArray, List.set_cons_zero, List.set_cons_succ]
        refine wpAnyH_take (i := 5) (v := undef) rfl (by kernel_rfl) (by kernel_rfl) (by kernel_rfl) (fun _ _ _ h => h) (Or.inr ⟨by rfl, rfl⟩) (by assumption) ?_
        try simp only [Act.put, List.getElem_toArray, List.getElem_cons_zero, List.getElem_cons_succ, List.setIfInBounds_toArray, List.set_cons_zero, List.set_cons_succ]
        refine wpAnyH_take (i := 6) (v := undef) rfl (by kernel_rfl) (by kernel_rfl) (by kernel_rfl) (fun _ _ _ h => h) (Or.inr ⟨by rfl, rfl⟩) (by assumption) ?_
        try simp only [Act.put, List.getElem_toArray, List.getElem_cons_zero, List.getElem_cons_succ, List.setIfInBounds_toArray, List.set_cons_zero, List.set_cons_succ]
        refine wpAnyH_take (i := 7) (v := undef) rfl (by kernel_rfl) (by kernel_rfl) (by kernel_rfl) (fun _ _ _ h => h) (Or.inr ⟨by rfl, rfl⟩) (by assumption) ?_
        try simp only [Act.put, List.getElem_toArray, List.getElem_cons_zero, List.getElem_cons_succ, List.setIfInBounds_toArray, List.set_cons_zero, List.set_cons_succ]
        refine wpAnyH_take (i := 8) (v := undef) rfl (by kernel_rfl) (by kernel_rfl) (by kernel_rfl) (fun _ _ _ h => h) (Or.inr ⟨by rfl, rfl⟩) (by assumption) ?_
        try simp only [Act.put, List.getElem_toArray, List.getElem_cons_zero, List.getElem_cons_succ, List.setIfInBounds_toArray, List.set_cons_zero, List.set_cons_succ]
        refine wpAnyH_take (i := 9) (v := undef) rfl (by kernel_rfl) (by kernel_rfl) (by kernel_rfl) (fun _ _ _ h => h) (Or.inr ⟨by rfl, rfl⟩) (by assumption) ?_
        try simp only [Act.put, List.getElem_toArray, List.getElem_cons_zero, List.getElem_cons_succ, List.setIfInBounds_toArray, List.set_cons_zero, List.set_cons_succ]
        refine wpAnyH_take (i := 10) (v := undef) rfl (by kernel_rfl) (by kernel_rfl) (by kernel_rfl) (fun _ _ _ h => h) (Or.inr ⟨by rfl, rfl⟩) (by assumption) ?_
        try simp only [Act.put, List.getElem_toArray, List.getElem_cons_zero, List.getElem_cons_succ, List.setIfInBounds_toArray, List.set_cons_zero, List.set_cons_succ]
        refine wpAnyH_take (i := 11) (v := undef) rfl (by kernel_rfl) (by kernel_rfl) (by kernel_rfl) (fun _ _ _ h => h) (Or.inr ⟨by rfl, rfl⟩) (by assumption) ?_
        try simp only [Act.put, List.getElem_toArray, List.getElem_cons_zero, List.getElem_cons_succ, List.setIfInBounds_toArray, List.set_cons_zero, List.set_cons_succ]
        refine wpAnyH_take (i := 12) (v := ?_) rfl (by kernel_rfl) (by kernel_rfl) (by kernel_rfl) (fun _ _ _ h => h) (Or.inl ⟨by rfl, ?_⟩) (by assumption) ?_
        rotate_left
        · intro w hSw; (try dsimp only at hSw); go_simp; with_reducible rfl
        try simp only [Act.put, List.getElem_toArray, List.getElem_cons_zero, List.getElem_cons_succ, List.setIfInBounds_toArray, List.set_cons_zero, List.set_cons_succ]
        refine wpAnyH_done (by kernel_rfl) ?_ _
        go_wp2_with fail
        exact ⟨⟨0 + 1, by omega, by go_num, HR3.out, bel_drR HB2.out⟩, by simp [intOf]; omega⟩
      obtain ⟨j, rfl⟩ : ∃ j, k = j + 1 := ⟨k - 1, by omega⟩
      have hjx : j < l.length := by omega
      obtain ⟨b2, o2, cs2, e2, hbw2, hat2, hd2⟩ := sliceAt_cell HXr.out j hjx
      injection e2 with e2
      injection e2 with e2 e3
      subst e2 e3
      have HPJ := Lib.hid (prv_succ hjx)
      have p0 := hd2 0 (by decide)
      obtain ⟨v1', v4', rfl, _, _⟩ := hat2
      simp only [List.getElem?_cons_zero, Nat.add_zero] at p0
      generalize (l[j]).fName = n1 at *
      rw [HPJ.out] at HRS2
      have hwr : IntKind.i64.wrap ((j : Int) + 1 - 1) = (j : Int) := by rw [Int.add_sub_cancel]; exact IntWalk.i64_in _ (by omega)
      have hwr2 : IntKind.i64.wrap (j : Int) = (j : Int) := IntWalk.i64_in _ (by omega)
      have h0j : (0 : Int) ≤ (j : Int) := by omega
      have hjl : (j : Int) < (l.length : Int) := by omega
      have hj1 : (0 : Int) < (j : Int) + 1 := by omega
      clear hd2 HPJ
      cases hlt2 : decide (n1 < a0)
      · have hx1 : Op.bytesLess n1 a0 = false := by rw [Proofs.bytesLess_eq]; exact hlt2
        obtain rfl : res = false := by rw [HRS2.out]; simp [ltO, hlt2]
        clear HRS2 hlt2
        have e0 := BE.out.cell 0 (by simp)
        have e1 := BE.out.cell 1 (by simp)
        have e2 := BE.out.cell 2 (by simp)
        have e3 := BE.out.cell 3 (by simp)
        have e4 := BE.out.cell 4 (by simp)
        simp only [List.getElem_cons_zero, List.getElem_cons_succ] at e0 e1 e2 e3 e4
        go_wp2_with fail
        refine (HI1.out _ _ HAT0.out).mono ?_
        rintro e w2 ⟨rfl, hb⟩
        have HB2 := Lib.hid (belS HBN.out hb)
        have BE2 := Lib.hid (BE.out.below hb)
        have hb2s := hb.size
        have p2 := (hb.cell (p := ⟨b, o + j * 5, none⟩) (by simp; omega)).trans (allocR hbw p0)
        clear hb e0 e1 e2 e3 e4
        have e0 := BE2.out.cell 0 (by simp)
        have e1 := BE2.out.cell 1 (by simp)
        have e2 := BE2.out.cell 2 (by simp)
        have e3 := BE2.out.cell 3 (by simp)
        have e4 := BE2.out.cell 4 (by simp)
        simp only [List.getElem_cons_zero, List.getElem_cons_succ] at e0 e1 e2 e3 e4
        go_wp2_with fail
        refine wp_region_held_drew (S := (fun w' => w'.cell? ⟨wr.heap.size, 0, none⟩ = some (.string ⟨a0.toArray⟩) ∧ w'.cell? ⟨b, o + j * 5, none⟩ = some (.string ⟨n1.toArray⟩))) (by kernel_rfl) ?_ (fun hHeld => ?_)
        · exact ⟨BE2.out.cell 0 (by simp), p2⟩
        refine wpAnyH_take (i := 0) (v := ?_) rfl (by kernel_rfl) (by kernel_rfl) (by kernel_rfl) (fun _ _ _ h => h) (Or.inl ⟨by rfl, ?_⟩) (by assumption) ?_
        rotate_left
        · intro w hSw; (try dsimp only at hSw); go_simp; with_reducible rfl
        try simp only [Act.put, List.getElem_toArray, List.getElem_cons_zero, List.getElem_cons_succ, List.setIfInBounds_toArray, List.set_cons_zero, List.set_cons_succ]
        refine wpAnyH_take (i := 1) (v := ?_) rfl (by kernel_rfl) (by kernel_rfl) (by kernel_rfl) (fun _ _ _ h => h) (Or.inl ⟨by rfl, ?_⟩) (by assumption) ?_
        rotate_left
        · intro w hSw; (try dsimp only at hSw); go_simp; with_reducible rfl
        try simp only [Act.put, List.getElem_toArray, List.getElem_cons_zero, List.getElem_cons_succ, List.setIfInBounds_toArray, List.set_cons_zero, List.set_cons_succ]
        refine wpAnyH_take (i := 2) (v := ?_) rfl (by kernel_rfl) (by kernel_rfl) (by kernel_rfl) (fun _ _ _ h => h) (Or.inl ⟨by rfl, ?_⟩) (by assumption) ?_
        rotate_left
        · intro w hSw; (try dsimp only at hSw); go_simp; with_reducible rfl
        try simp only [Act.put, List.getElem_toArray, List.getElem_cons_zero, List.getElem_cons_succ, List.setIfInBounds_toArray, List.set_cons_zero, List.set_cons_succ]
        refine wpAnyH_take (i := 3) (v := ?_) rfl (by kernel_rfl) (by kernel_rfl) (by kernel_rfl) (fun _ _ _ h => h) (Or.inl ⟨by rfl, ?_⟩) (by assumption) ?_
        rotate_left
        · intro w hSw; (try dsimp only at hSw); go_simp; with_reducible rfl
        try simp only [Act.put, List.getElem_toArray, List.getElem_cons_zero, List.getElem_cons_succ, List.setIfInBounds_toArray, List.set_cons_zero, List.set_cons_succ]
        refine wpAnyH_take (i := 4) (v := ?_) rfl (by kernel_rfl) (by kernel_rfl) (by kernel_rfl) (fun _ _ _ h => h) (Or.inl ⟨by rfl, ?_⟩) (by assumption) ?_
        rotate_left
        · intro w hSw; (try dsimp only at hSw); go_simp; with_reducible rfl
        try simp only [Act.put, List.getElem_toArray, List.getElem_cons_zero, List.getElem_cons_succ, List.setIfInBounds_toArray, List.set_cons_zero, List.set_cons_succ]
        refine wpAnyH_take (i := 5) (v := ?_) rfl (by kernel_rfl) (by kernel_rfl) (by kernel_rfl) (fun _ _ _ h => h) (Or.inl ⟨by rfl, ?_⟩) (by assumption) ?_
        rotate_left
        · intro w hSw; (try dsimp only at hSw); go_simp; with_reducible rfl
        try simp only [Act.put, List.getElem_toArray, List.getElem_cons_zero, List.getElem_cons_succ, List.setIfInBounds_toArray, List.set_cons_zero, List.set_cons_succ]
        refine wpAnyH_take (i := 6) (v := ?_) rfl (by kernel_rfl) (by kernel_rfl) (by kernel_rfl) (fun _ _ _ h => h) (Or.inl ⟨by rfl, ?_⟩) (by assumption) ?_
        rotate_left
        · intro w hSw; (try dsimp only at hSw); go_simp; with_reducible rfl
        try simp only [Act.put, List.getElem_toArray, List.getElem_cons_zero, List.getElem_cons_succ, List.setIfInBounds_toArray, List.set_cons_zero, List.set_cons_succ]
        refine wpAnyH_take (i := 7) (v := ?_) rfl (by kernel_rfl) (by kernel_rfl) (by kernel_rfl) (fun _ _ _ h => h) (Or.inl ⟨by rfl, ?_⟩) (by assumption) ?_
        rotate_left
        · intro w hSw; (try dsimp only at hSw); go_simp; with_reducible rfl
        try simp only [Act.put, List.getElem_toArray, List.getElem_cons_zero, List.getElem_cons_succ, List.setIfInBounds_toArray, List.set_cons_zero, List.set_cons_succ]
        refine wpAnyH_take (i := 8) (v := ?_) rfl (by kernel_rfl) (by kernel_rfl) (by kernel_rfl) (fun _ _ _ h => h) (Or.inl ⟨by rfl, ?_⟩) (by assumption) ?_
        rotate_left
        · intro w hSw; (try dsimp only at hSw); go_simp; with_reducible rfl
        try simp only [Act.put, List.getElem_toArray, List.getElem_cons_zero, List.getElem_cons_succ, List.setIfInBounds_toArray, List.set_cons_zero, List.set_cons_succ]
        refine wpAnyH_take (i := 9) (v := ?_) rfl (by kernel_rfl) (by kernel_rfl) (by kernel_rfl) (fun _ _ _ h => h) (Or.inl ⟨by rfl, ?_⟩) (by assumption) ?_
        rotate_left
        · intro w hSw; (try dsimp only at hSw); go_simp; with_reducible rfl
        try simp only [Act.put, List.getElem_toArray, List.getElem_cons_zero, List.getElem_cons_succ, List.setIfInBounds_toArray, List.set_cons_zero, List.set_cons_succ]
        refine wpAnyH_take (i := 10) (v := ?_) rfl (by kernel_rfl) (by kernel_rfl) (by kernel_rfl) (fun _ _ _ h => h) (Or.inl ⟨by rfl, ?_⟩) (by assumption) ?_
        rotate_left
        · intro w hSw; (try dsimp only at hSw); go_simp; with_reducible rfl
        try simp only [Act.put, List.getElem_toArray, List.getElem_cons_zero, List.getElem_cons_succ, List.setIfInBounds_toArray, List.set_cons_zero, List.set_cons_succ]
        refine wpAnyH_take (i := 11) (v := ?_) rfl (by kernel_rfl) (by kernel_rfl) (by kernel_rfl) (fun _ _ _ h => h) (Or.inl ⟨by rfl, ?_⟩) (by assumption) ?_
        rotate_left
        · intro w hSw; (try dsimp only at hSw); go_simp; with_reducible rfl
        try simp only [Act.put, List.getElem_toArray, List.getElem_cons_zero, List.getElem_cons_succ, List.setIfInBounds_toArray, List.set_cons_zero, List.set_cons_succ]
        refine wpAnyH_take (i := 12) (v := ?_) rfl (by kernel_rfl) (by kernel_rfl) (by kernel_rfl) (fun _ _ _ h => h) (Or.inl ⟨by rfl, ?_⟩) (by assumption) ?_
        rotate_left
        · intro w hSw; (try dsimp only at hSw); go_simp; with_reducible rfl
        try simp only [Act.put, List.getElem_toArray, List.getElem_cons_zero, List.getElem_cons_succ, List.setIfInBounds_toArray, List.set_cons_zero, List.set_cons_succ]
        refine wpAnyH_done (by kernel_rfl) ?_ _
        go_wp2_with fail
        go_ret
        exact ⟨rfl, bel_drR HB2.out⟩
      · have hx1 : Op.bytesLess n1 a0 = true := by rw [Proofs.bytesLess_eq]; exact hlt2
        have HR3 := Lib.hid (show res = (regGo (prv l (j + 1 + 1)) (l.drop (j + 1 + 1)) && true) by rw [HRS2.out]; simp [ltO, hlt2])
        clear HRS2 hlt2
        have e0 := BE.out.cell 0 (by simp)
        have e1 := BE.out.cell 1 (by simp)
        have e2 := BE.out.cell 2 (by simp)
        have e3 := BE.out.cell 3 (by simp)
        have e4 := BE.out.cell 4 (by simp)
        simp only [List.getElem_cons_zero, List.getElem_cons_succ] at e0 e1 e2 e3 e4
        go_wp2_with fail
        refine (HI1.out _ _ HAT0.out).mono ?_
        rintro e w2 ⟨rfl, hb⟩
        have HB2 := Lib.hid (belS HBN.out hb)
        have BE2 := Lib.hid (BE.out.below hb)
        have hb2s := hb.size
        have p2 := (hb.cell (p := ⟨b, o + j * 5, none⟩) (by simp; omega)).trans (allocR hbw p0)
        clear hb e0 e1 e2 e3 e4
        have e0 := BE2.out.cell 0 (by simp)
        have e1 := BE2.out.cell 1 (by simp)
        have e2 := BE2.out.cell 2 (by simp)
        have e3 := BE2.out.cell 3 (by simp)
        have e4 := BE2.out.cell 4 (by simp)
        simp only [List.getElem_cons_zero, List.getElem_cons_succ] at e0 e1 e2 e3 e4
        go_wp2_with fail
        refine wp_region_held_drew (S := (fun w' => w'.cell? ⟨wr.heap.size, 0, none⟩ = some (.string ⟨a0.toArray⟩) ∧ w'.cell? ⟨b, o + j * 5, none⟩ = some (.string ⟨n1.toArray⟩))) (by kernel_rfl) ?_ (fun hHeld => ?_)
        · exact ⟨BE2.out.cell 0 (by simp), p2⟩
        refine wpAnyH_take (i := 0) (v := ?_) rfl (by kernel_rfl) (by kernel_rfl) (by kernel_rfl) (fun _ _ _ h => h) (Or.inl ⟨by rfl, ?_⟩) (by assumption) ?_
        rotate_left
        · intro w hSw; (try dsimp only at hSw); go_simp; with_reducible rfl
        try simp only [Act.put, List.getElem_toArray, List.getElem_cons_zero, List.getElem_cons_succ, List.setIfInBounds_toArray, List.set_cons_zero, List.set_cons_succ]
        refine wpAnyH_take (i := 1) (v := ?_) rfl (by kernel_rfl) (by kernel_rfl) (by kernel_rfl) (fun _ _ _ h => h) (Or.inl ⟨by rfl, ?_⟩) (by assumption) ?_
        rotate_left
        · intro w hSw; (try dsimp only at hSw); go_simp; with_reducible rfl
        try simp only [Act.put, List.getElem_toArray, List.getElem_cons_zero, List.getElem_cons_succ, List.setIfInBounds_toArray, List.set_cons_zero, List.set_cons_succ]
        refine wpAnyH_take (i := 2) (v := ?_) rfl (by kernel_rfl) (by kernel_rfl) (by kernel_rfl) (fun _ _ _ h => h) (Or.inl ⟨by rfl, ?_⟩) (by assumption) ?_
        rotate_left
        · intro w hSw; (try dsimp only at hSw); go_simp; with_reducible rfl
        try simp only [Act.put, List.getElem_toArray, List.getElem_cons_zero, List.getElem_cons_succ, List.setIfInBounds_toArray, List.set_cons_zero, List.set_cons_succ]
        refine wpAnyH_take (i := 3) (v := ?_) rfl (by kernel_rfl) (by kernel_rfl) (by kernel_rfl) (fun _ _ _ h => h) (Or.inl ⟨by rfl, ?_⟩) (by assumption) ?_
        rotate_left
        · intro w hSw; (try dsimp only at hSw); go_simp; with_reducible rfl
        try simp only [Act.put, List.getElem_toArray, List.getElem_cons_zero, List.getElem_cons_succ, List.setIfInBounds_toArray, List.set_cons_zero, List.set_cons_succ]
        refine wpAnyH_take (i := 4) (v := ?_) rfl (by kernel_rfl) (by kernel_rfl) (by kernel_rfl) (fun _ _ _ h => h) (Or.inl ⟨by rfl, ?_⟩) (by assumption) ?_
        rotate_left
        · intro w hSw; (try dsimp only at hSw); go_simp; with_reducible rfl
        try simp only [Act.put, List.getElem_toArray, List.getElem_cons_zero, List.getElem_cons_succ, List.setIfInBounds_toArray, List.set_cons_zero, List.set_cons_succ]
        refine wpAnyH_take (i := 5) (v := ?_) rfl (by kernel_rfl) (by kernel_rfl) (by kernel_rfl) (fun _ _ _ h => h) (Or.inl ⟨by rfl, ?_⟩) (by assumption) ?_
        rotate_left
        · intro w hSw; (try dsimp only at hSw); go_simp; with_reducible rfl
        try simp only [Act.put, List.getElem_toArray, List.getElem_cons_zero, List.getElem_cons_succ, List.setIfInBounds_toArray, List.set_cons_zero, List.set_cons_succ]
        refine wpAnyH_take (i := 6) (v := ?_) rfl (by kernel_rfl) (by kernel_rfl) (by kernel_rfl) (fun _ _ _ h => h) (Or.inl ⟨by rfl, ?_⟩) (by assumption) ?_
        rotate_left
        · intro w hSw; (try dsimp only at hSw); go_simp; with_reducible rfl
        try simp only [Act.put, List.getElem_toArray, List.getElem_cons_zero, List.getElem_cons_succ, List.setIfInBounds_toArray, List.set_cons_zero, List.set_cons_succ]
        refine wpAnyH_take (i := 7) (v := ?_) rfl (by kernel_rfl) (by kernel_rfl) (by kernel_rfl) (fun _ _ _ h => h) (Or.inl ⟨by rfl, ?_⟩) (by assumption) ?_
        rotate_left
        · intro w hSw; (try dsimp only at hSw); go_simp; with_reducible rfl
        try simp only [Act.put, List.getElem_toArray, List.getElem_cons_zero, List.getElem_cons_succ, List.setIfInBounds_toArray, List.set_cons_zero, List.set_cons_succ]
        refine wpAnyH_take (i := 8) (v := ?_) rfl (by kernel_rfl) (by kernel_rfl) (by kernel_rfl) (fun _ _ _ h => h) (Or.inl ⟨by rfl, ?_⟩) (by assumption) ?_
        rotate_left
        · intro w hSw; (try dsimp only at hSw); go_simp; with_reducible rfl
        try simp only [Act.put, List.getElem_toArray, List.getElem_cons_zero, List.getElem_cons_succ, List.setIfInBounds_toArray, List.set_cons_zero, List.set_cons_succ]
        refine wpAnyH_take (i := 9) (v := ?_) rfl (by kernel_rfl) (by kernel_rfl) (by kernel_rfl) (fun _ _ _ h => h) (Or.inl ⟨by rfl, ?_⟩) (by assumption) ?_
        rotate_left
        · intro w hSw; (try dsimp only at hSw); go_simp; with_reducible rfl
        try simp only [Act.put, List.getElem_toArray, List.getElem_cons_zero, List.getElem_cons_succ, List.setIfInBounds_toArray, List.set_cons_zero, List.set_cons_succ]
        refine wpAnyH_take (i := 10) (v := ?_) rfl (by kernel_rfl) (by kernel_rfl) (by kernel_rfl) (fun _ _ _ h => h) (Or.inl ⟨by rfl, ?_⟩) (by assumption) ?_
        rotate_left
        · intro w hSw; (try dsimp only at hSw); go_simp; with_reducible rfl
        try simp only [Act.put, List.getElem_toArray, List.getElem_cons_zero, List.getElem_cons_succ, List.setIfInBounds_toArray, List.set_cons_zero, List.set_cons_succ]
        refine wpAnyH_take (i := 11) (v := ?_) rfl (by kernel_rfl) (by kernel_rfl) (by kernel_rfl) (fun _ _ _ h => h) (Or.inl ⟨by rfl, ?_⟩) (by assumption) ?_
        rotate_left
        · intro w hSw; (try dsimp only at hSw); go_simp; with_reducible rfl
        try simp only [Act.put, List.getElem_toArray, List.getElem_cons_zero, List.getElem_cons_succ, List.setIfInBounds_toArray, List.set_cons_zero, List.set_cons_succ]
        refine wpAnyH_take (i := 12) (v := ?_) rfl (by kernel_rfl) (by kernel_rfl) (by kernel_rfl) (fun _ _ _ h => h) (Or.inl ⟨by rfl, ?_⟩) (by assumption) ?_
        rotate_left
        · intro w hSw; (try dsimp only at hSw); go_simp; with_reducible rfl
        try simp only [Act.put, List.getElem_toArray, List.getElem_cons_zero, List.getElem_cons_succ, List.setIfInBounds_toArray, List.set_cons_zero, List.set_cons_succ]
        refine wpAnyH_done (by kernel_rfl) ?_ _
        go_wp2_with fail
        exact ⟨⟨j + 1 + 1, by omega, by go_num, HR3.out, bel_drR HB2.out⟩, by simp [intOf]; omega⟩
    · have hkl : ¬ (k : Int) < (l.length : Int) := by omega
      obtain rfl : res = true := by rw [HRS.out, List.drop_eq_nil_of_le (by omega)]; rfl
      go_wp2_with fail
      go_ret
      exact ⟨rfl, HBr.out⟩
end Go.Proofs.YteeopjcbpngofaaGreat
/- Texts in ascending order, each once: the plain side. -/
namespace Go.Proofs.YteeopjcbpngofaaGreat

/-- texts in strictly ascending order -/
def Strict (l : List (List UInt8)) : Prop := l.Pairwise (· < ·)
/-- s is put in front of the first text that is not less, unless it is that text -/
def ins (s : List UInt8) : List (List UInt8) → List (List UInt8)
  | [] => [s]
  | x :: r => if x < s then x :: ins s r else if x = s then x :: r else s :: x :: r
def ascL (x : List (List UInt8)) : List (List UInt8) := x.foldl (fun a y => ins y a) []

theorem strict_unique : ∀ {a b : List (List UInt8)}, Strict a → Strict b → (∀ x, x ∈ a ↔ x ∈ b) → a = b := by
  intro a
  induction a with
  | nil =>
    intro b _ _ h
    cases b with
    | nil => rfl
    | cons y s => exact absurd ((h y).2 (List.mem_cons_self ..)) (by simp)
  | cons x r ih =>
    intro b ha hb h
    cases b with
    | nil => exact absurd ((h x).1 (List.mem_cons_self ..)) (by simp)
    | cons y s =>
      have ha' := List.pairwise_cons.1 ha
      have hb' := List.pairwise_cons.1 hb
      have e : x = y := by
        rcases List.mem_cons.1 ((h x).1 (List.mem_cons_self ..)) with h1 | h1
        · exact h1
        · rcases List.mem_cons.1 ((h y).2 (List.mem_cons_self ..)) with h2 | h2
          · exact h2.symm
          · exact absurd (List.lt_trans (hb'.1 x h1) (ha'.1 y h2)) (List.lt_irrefl _)
      subst e
      congr 1
      refine ih ha'.2 hb'.2 fun z => ⟨fun hz => ?_, fun hz => ?_⟩
      · rcases List.mem_cons.1 ((h z).1 (List.mem_cons_of_mem _ hz)) with h1 | h1
        · subst h1; exact absurd (ha'.1 z hz) (List.lt_irrefl _)
        · exact h1
      · rcases List.mem_cons.1 ((h z).2 (List.mem_cons_of_mem _ hz)) with h1 | h1
        · subst h1; exact absurd (hb'.1 z hz) (List.lt_irrefl _)
        · exact h1
theorem mem_ins (s : List UInt8) : ∀ (l : List (List UInt8)) (z : List UInt8), z ∈ ins s l ↔ z = s ∨ z ∈ l := by
  intro l
  induction l with
  | nil => intro z; simp [ins]
  | cons x r ih =>
    intro z
    unfold ins
    split
    · simp only [List.mem_cons, ih]
      constructor
      · rintro (h | h | h)
        · exact Or.inr (Or.inl h)
        · exact Or.inl h
        · exact Or.inr (Or.inr h)
      · rintro (h | h | h)
        · exact Or.inr (Or.inl h)
        · exact Or.inl h
        · exact Or.inr (Or.inr h)
    · split
      · rename_i h; subst h; simp
      · simp
theorem strict_ins (s : List UInt8) : ∀ (l : List (List UInt8)), Strict l → Strict (ins s l) := by
  intro l
  induction l with
  | nil => intro _; simp [ins, Strict]
  | cons x r ih =>
    intro h
    have h' := List.pairwise_cons.1 h
    unfold ins
    split
    · rename_i hx
      refine List.pairwise_cons.2 ⟨fun z hz => ?_, ih h'.2⟩
      rcases (mem_ins s r z).1 hz with h1 | h1
      · subst h1; exact hx
      · exact h'.1 z h1
    · split
      · exact h
      · rename_i h1 h2
        have hsx : s < x := by
          rcases Decidable.em (s < x) with h3 | h3
          · exact h3
          · exact absurd (List.le_antisymm (List.not_lt.1 h3) (List.not_lt.1 h1)) h2
        refine List.pairwise_cons.2 ⟨fun z hz => ?_, h⟩
        rcases List.mem_cons.1 hz with h3 | h3
        · subst h3; exact hsx
        · exact List.lt_trans hsx (h'.1 z h3)
theorem foldl_ins : ∀ (x a : List (List UInt8)), Strict a → Strict (x.foldl (fun a y => ins y a) a) ∧ ∀ z, z ∈ x.foldl (fun a y => ins y a) a ↔ z ∈ a ∨ z ∈ x := by
  intro x
  induction x with
  | nil => intro a h; exact ⟨h, fun z => by simp⟩
  | cons y r ih =>
    intro a h
    have := ih (ins y a) (strict_ins y a h)
    refine ⟨this.1, fun z => ?_⟩
    rw [List.foldl_cons, this.2 z, mem_ins, List.mem_cons]
    constructor
    · rintro ((h | h) | h)
      · exact Or.inr (Or.inl h)
      · exact Or.inl h
      · exact Or.inr (Or.inr h)
    · rintro (h | h | h)
      · exact Or.inl (Or.inr h)
      · exact Or.inl (Or.inl h)
      · exact Or.inr h
theorem asc_strict (x : List (List UInt8)) : Strict (ascL x) := (foldl_ins x [] List.Pairwise.nil).1
theorem asc_mem (x : List (List UInt8)) (z : List UInt8) : z ∈ ascL x ↔ z ∈ x := by
  have := (foldl_ins x [] List.Pairwise.nil).2 z
  simpa [ascL] using this
theorem asc_eq {x y : List (List UInt8)} (h : Strict y) (hm : ∀ z, z ∈ y ↔ z ∈ x) : y = ascL x :=
  strict_unique h (asc_strict x) fun z => by rw [hm z, asc_mem x z]
theorem asc_idem (x : List (List UInt8)) : ascL (ascL x) = ascL x := (asc_eq (asc_strict x) fun _ => Iff.rfl).symm
theorem ins_len (s : List UInt8) (l : List (List UInt8)) : (ins s l).length ≤ l.length + 1 := by
  induction l with
  | nil => simp [ins]
  | cons x r ih => unfold ins; split <;> (try split) <;> simp <;> omega
theorem foldl_len : ∀ (x a : List (List UInt8)), (x.foldl (fun a y => ins y a) a).length ≤ a.length + x.length := by
  intro x
  induction x with
  | nil => intro a; simp
  | cons y r ih => intro a; have := ih (ins y a); have := ins_len y a; simp only [List.foldl_cons, List.length_cons]; omega
theorem asc_len (x : List (List UInt8)) : (ascL x).length ≤ x.length := by have := foldl_len x []; simpa [ascL] using this

/-- the loop of the model's l1Put -/
theorem ins_below {s : List UInt8} {p : List (List UInt8)} (h : ∀ z ∈ p, z < s) (t : List (List UInt8)) : ins s (p ++ t) = p ++ ins s t := by
  induction p with
  | nil => rfl
  | cons x r ih =>
    have hx := h x (List.mem_cons_self ..)
    simp only [List.cons_append, ins, if_pos hx]
    rw [ih fun z hz => h z (List.mem_cons_of_mem _ hz)]
theorem ins_done {s : List UInt8} {p : List (List UInt8)} (h : ∃ z ∈ p, ¬ z < s) (t : List (List UInt8)) : ins s (p ++ t) = ins s p ++ t := by
  induction p with
  | nil => obtain ⟨z, hz, _⟩ := h; simp at hz
  | cons x r ih =>
    simp only [List.cons_append, ins]
    by_cases hx : x < s
    · obtain ⟨z, hz, hzs⟩ := h
      rcases List.mem_cons.1 hz with h1 | h1
      · subst h1; exact absurd hx hzs
      · rw [if_pos hx, if_pos hx, ih ⟨z, h1, hzs⟩]; rfl
    · rw [if_neg hx, if_neg hx]
      split <;> rfl

/-- what slices.Compact leaves of a sorted list -/
theorem compact_sorted (d : Array (List UInt8)) (hs : ∀ i j, i ≤ j → j < d.size → d[i]! ≤ d[j]!) : ∀ m, m ≤ d.size →
    Strict (Lib.compactUpTo d m) ∧ (∀ z, z ∈ Lib.compactUpTo d m ↔ ∃ i, i < m ∧ d[i]! = z) := by
  intro m
  induction m with
  | zero => intro _; exact ⟨List.Pairwise.nil, fun z => by simp [Lib.compactUpTo]⟩
  | succ m ih =>
    intro hm
    obtain ⟨h1, h2⟩ := ih (by omega)
    rw [Lib.compactUpTo_succ]
    by_cases hk : m = 0 ∨ d[m]! ≠ d[m - 1]!
    · have hk' : Lib.keeps d m = true := by simpa [Lib.keeps] using hk
      rw [if_pos hk']
      constructor
      · refine List.pairwise_append.2 ⟨h1, by simp, fun a ha b hb => ?_⟩
        have hb' : b = d[m]! := by simpa using hb
        subst hb'
        obtain ⟨i, hi, rfl⟩ := (h2 a).1 ha
        have hne : d[m]! ≠ d[m - 1]! := by rcases hk with h | h; · omega
                                           · exact h
        rcases Decidable.em (d[i]! < d[m]!) with h | h
        · exact h
        · exfalso
          have e : d[i]! = d[m]! := List.le_antisymm (hs i m (by omega) (by omega)) (List.not_lt.1 h)
          have h3 := hs i (m - 1) (by omega) (by omega)
          have h4 := hs (m - 1) m (by omega) (by omega)
          rw [e] at h3
          exact hne (List.le_antisymm h3 h4)
      · intro z
        rw [List.mem_append, h2 z]
        constructor
        · rintro (⟨i, hi, e⟩ | h)
          · exact ⟨i, by omega, e⟩
          · exact ⟨m, by omega, by simpa using (show z = d[m]! by simpa using h).symm⟩
        · rintro ⟨i, hi, e⟩
          rcases Nat.lt_or_ge i m with h | h
          · exact Or.inl ⟨i, h, e⟩
          · right; have : i = m := by omega
            subst this; simp [e]
    · have hk' : Lib.keeps d m = false := by simpa [Lib.keeps] using hk
      rw [if_neg (by simp [hk']), List.append_nil]
      refine ⟨h1, fun z => ?_⟩
      rw [h2 z]
      constructor
      · rintro ⟨i, hi, e⟩; exact ⟨i, by omega, e⟩
      · rintro ⟨i, hi, e⟩
        rcases Nat.lt_or_ge i m with h | h
        · exact ⟨i, h, e⟩
        · have : i = m := by omega
          subst this
          have hm0 : i ≠ 0 := fun h => hk (Or.inl h)
          have he : d[i]! = d[i - 1]! := Decidable.byContradiction fun h => hk (Or.inr h)
          exact ⟨i - 1, by omega, by rw [← he]; exact e⟩
def leB (x y : List UInt8) : Bool := decide (x ≤ y)
theorem compact_mergeSort (x : List (List UInt8)) : Lib.compact (x.mergeSort fun a b => decide (a ≤ b)) = ascL x := by
  have hp := List.pairwise_mergeSort (le := fun a b : List UInt8 => decide (a ≤ b)) (fun a b c h1 h2 => by simp at *; exact List.le_trans h1 h2) (fun a b => by simp; exact List.le_total a b) x
  generalize hl : (x.mergeSort fun a b => decide (a ≤ b)) = l at *
  have hmem : ∀ z, z ∈ l ↔ z ∈ x := fun z => by rw [← hl]; exact List.mem_mergeSort
  have hs : ∀ i j, i ≤ j → j < l.toArray.size → l.toArray[i]! ≤ l.toArray[j]! := by
    intro i j hij hj
    have hj' : j < l.length := by simpa using hj
    rw [getElem!_pos _ i (by simp; omega), getElem!_pos _ j (by simpa using hj')]
    simp only [List.getElem_toArray]
    rcases Nat.lt_or_ge i j with h | h
    · have := List.pairwise_iff_getElem.1 hp i j (by omega) hj' h
      simpa using this
    · have : i = j := by omega
      subst this; exact List.le_refl _
  have h := compact_sorted l.toArray hs l.length (by simp)
  refine asc_eq h.1 fun z => ?_
  rw [← hmem z]
  unfold Lib.compact
  rw [h.2 z, List.mem_iff_getElem]
  constructor
  · rintro ⟨i, hi, e⟩; exact ⟨i, hi, by rw [← e, getElem!_pos _ i (by simpa using hi)]; simp⟩
  · rintro ⟨i, hi, e⟩; exact ⟨i, hi, by rw [getElem!_pos _ i (by simpa using hi)]; simpa using e⟩
end Go.Proofs.YteeopjcbpngofaaGreat
/- Ascending, the model's and the program's. -/
namespace Go.Proofs.YteeopjcbpngofaaGreat
set_option linter.unusedVariables false
open Go.RowKit
theorem grow_below (w : World) (os : Array Obj) : Below w.heap.size w (Sort.grow w os) := ⟨rfl, rfl, rfl, by simp [Sort.grow], fun k hk => Sort.heap_grow_old w os hk⟩
theorem strV_enc : strV = Proofs.encStr := rfl
set_option maxRecDepth 100000 in
set_option maxHeartbeats 800000 in
theorem copyTexts_any (v : Value) (x : List (List UInt8)) (w : World) (hR : RowAt w v (x.map strV)) (hm : x.length ≤ 2097152) (hz : ∀ s ∈ x, s.length ≤ 140737488355328) :
    Calls Tryz.prog 121 #[v] w fun e w' => ∃ u, e = .returned u ∧ Owns w' w.heap.size u x ∧ u ≠ .slice none 0 0 ∧ Below w.heap.size w w' := by
  obtain ⟨a, c, rfl, hl⟩ := rowAt_len hR
  rw [List.length_map] at *
  obtain ⟨i0, hi, hz0, hz1, hz2⟩ := info_parts string_info
  have HR := Lib.hid hR
  have HZ := Lib.hid hz
  have HB2 := Lib.hid (show i0.bytes * x.length ≤ 281474976710656 by rw [hz2]; omega)
  have HM := Lib.hid (show x.length ≤ maxLen from by unfold maxLen; omega)
  clear hR hz hl
  go_enter Tryz.func121, Tryz.ntmps121
  go_wp2_with (refine wpList_make_own _ rfl _ _ 24 rfl w.heap.size 9 i0 (.string ⟨#[]⟩) 1 Tryz.underlying24 hi hz0 hz1 .i64 .i64 _ x.length rfl rfl rfl HB2.out HM.out (Nat.le_refl _) ?_; intro w1 hown1 hgrow1)
  have HO := Lib.hid (show Owns w1 w.heap.size (.slice (some ⟨w.heap.size, 0, none⟩) 0 x.length) [] from hown1)
  have HB := Lib.hid (show Below w.heap.size w w1 from ⟨hgrow1.os, hgrow1.tape, hgrow1.output, hgrow1.size, fun i hi => hgrow1.block i hi (by simp)⟩)
  clear hown1 hgrow1 hz0 hz1 hz2 HB2 hi
  go_loopw [3, 5, 11] (fun ov _ i wr => ∃ k : Nat, k ≤ x.length ∧ i = .int .i64 k ∧ Owns wr w.heap.size ov (x.take k) ∧ ov ≠ .slice none 0 0 ∧ Below w.heap.size w wr) (fun _ _ i _ => x.length - (intOf i).toNat)
  case atStart => exact ⟨0, Nat.zero_le _, rfl, HO.out, by simp, HB.out⟩
  case round =>
    obtain ⟨k, hk, rfl, hO, hnn, hb⟩ := hrel
    have HO2 := Lib.hid hO
    have HB2 := Lib.hid hb
    have HNN := Lib.hid hnn
    have HRr := Lib.hid (RowAt.below HR.out hb (Nat.le_refl _))
    clear hO hb hnn
    by_cases hlt : k < x.length
    · obtain ⟨b, o, rfl, hbw, d1⟩ := rowAt_cell HRr.out k (by simpa using hlt)
      rw [getElem_map_strV] at d1
      unfold strV at d1
      have hzk := HZ.out _ (List.getElem_mem hlt)
      have HT := Lib.hid (List.take_succ_eq_append_getElem hlt)
      go_wp2_with fail
      refine (copyText_any ⟨(x[k]).toArray⟩ wr (by rw [size_strB]; exact hzk)).mono ?_
      rintro e w2 ⟨rfl, hb2⟩
      have HB3 := Lib.hid (HB2.out.trans (hb2.mono HB2.out.size))
      have HO3 := Lib.hid (owns_below HO2.out hb2 (Nat.le_refl _))
      clear hb2
      have hlk : (x.take k).length ≤ 4194304 := by simp; omega
      go_wp2_with (at_builtin; (refine append_strsN rfl _ _ rfl w.heap.size _ (x.take k) x[k] _ w2.heap.size (by rfl) (owns_alloc HO3.out _) rfl (cell_new _ _ _) hlk (by have := HB3.out.size; simp; omega) HNN.out ?_; intro v' w3 hO1 hg1 hnn1))
      exact ⟨⟨k + 1, by omega, by go_num, by rw [HT.out]; exact hO1, hnn1, below_append (HB3.out.alloc HB3.out.size _) (owns_alloc HO3.out _) hg1 (by have := HB3.out.size; simp; omega)⟩, by simp [intOf]; omega⟩
    · have HT := Lib.hid (show x.take k = x from List.take_of_length_le (by omega))
      rw [HT.out] at HO2
      go_wp2
      go_ret
      exact ⟨u3, rfl, HO2.out, HNN.out, HB2.out⟩
set_option maxRecDepth 100000 in
set_option maxHeartbeats 800000 in
theorem implAsc_any (v : Value) (x : List (List UInt8)) (w : World) (hR : RowAt w v (x.map strV)) (hm : x.length ≤ 2097152) (hz : ∀ s ∈ x, s.length ≤ 140737488355328) :
    Calls Tryz.prog 79 #[v] w fun e w' => GivesRow (ascL x) w e w' := by
  have HCT := Lib.hid (copyTexts_any v x w hR hm hz)
  clear hR hz
  go_enter Tryz.func79, Tryz.ntmps79
  go_wp2_with fail
  refine HCT.out.mono ?_
  rintro e wr ⟨u, rfl, hO, hnn, hb⟩
  have HO2 := Lib.hid hO
  have HB2 := Lib.hid hb
  have HNN := Lib.hid hnn
  clear hO hb hnn
  obtain ⟨g, cap, rfl, hgB, hgw, hcap, hcm, _, hH⟩ := Lib.holds_of_ownsRow (enc := Proofs.encStr) HO2.out HNN.out
  have HH := Lib.hid hH
  clear hH
  go_wp2_with fail
  refine (Tryz.slices_Sort_string g 0 cap x wr HH.out hgw (by omega)).mono ?_
  rintro e w2 ⟨rfl, n, os, hw⟩
  have hyl : (x.mergeSort fun a b => decide (a ≤ b)).length = x.length := List.length_mergeSort x
  have HC := Lib.hid (compact_mergeSort x)
  generalize (x.mergeSort fun a b => decide (a ≤ b)) = y at *
  have O2 := Lib.hid (show Owns w2 w.heap.size (.slice (some ⟨g, 0, none⟩) y.length cap) y from by
    have h := Lib.ownsRow_putRow (enc := Proofs.encStr) (q := n) HO2.out hyl (Nat.le_refl _)
    rw [List.take_of_length_le (by omega), ← hyl] at h
    have h2 := ownsRow_below h (grow_below _ os) (Nat.le_refl _)
    rw [← hw] at h2; exact h2)
  have B2 := Lib.hid (show Below w.heap.size w w2 from by
    have h := Lib.below_putRow (enc := Proofs.encStr) (q := n) (d := y.toArray) HB2.out hgB
    rw [hw]; exact h.trans ((grow_below _ os).mono h.size))
  obtain ⟨g', cap', e1, _, hgw2, hcap2, hcm2, _, hH2⟩ := Lib.holds_of_ownsRow (enc := Proofs.encStr) O2.out (by simp)
  injection e1 with e1 e2 e3
  injection e1 with e1
  injection e1 with e1
  subst e1; subst e3
  have HH2 := Lib.hid hH2
  have HYL := Lib.hid hyl
  clear hw hH2 hyl
  rw [← HYL.out]
  go_wp2_with fail
  refine (Tryz.slices_Compact_string g 0 cap y w2 HH2.out (by have := HYL.out; omega) hcap2).mono ?_
  rintro e w3 ⟨rfl, q, hw⟩
  rw [HC.out] at hw ⊢
  have hal := asc_len x
  have O3 := Lib.hid (show Owns w3 w.heap.size (.slice (some ⟨g, 0, none⟩) (ascL x).length cap) (ascL x) from by
    have h := Lib.ownsRow_putRow (enc := Proofs.encStr) (q := q) (k := (ascL x).length) (ys := ascL x ++ List.replicate (y.length - (ascL x).length) []) O2.out (by simp; have := HYL.out; omega) (by have := HYL.out; omega)
    rw [List.take_left' rfl] at h
    rw [hw]; exact h)
  have B3 := Lib.hid (show Below w.heap.size w w3 from by
    have h := Lib.below_putRow (enc := Proofs.encStr) (q := q) (d := (ascL x ++ List.replicate (y.length - (ascL x).length) []).toArray) B2.out hgB
    rw [hw]; exact h)
  clear hw
  go_wp2_with fail
  go_ret
  exact ⟨_, rfl, O3.out, B3.out⟩
theorem bytes_lt (a b : List UInt8) : Op.bytesLess a b = decide (a < b) := Proofs.bytesLess_eq a b
/-- the loop of the model's l1Put: what is out after p, and whether s is in -/
def PutInv (s : List UInt8) (p : List (List UInt8)) (out : List (List UInt8)) (done : Bool) : Prop :=
  (done = false ∧ out = p ∧ ∀ z ∈ p, z < s) ∨ (done = true ∧ out = ins s p ∧ ∃ z ∈ p, ¬ z < s)
theorem put_start (s : List UInt8) : PutInv s [] [] false := Or.inl ⟨rfl, rfl, by simp⟩
theorem put_less {s : List UInt8} {p out : List (List UInt8)} (h : PutInv s p out false) (x : List UInt8) (hx : x < s) : PutInv s (p ++ [x]) (out ++ [x]) false := by
  rcases h with ⟨_, rfl, h⟩ | ⟨h, _⟩
  · refine Or.inl ⟨rfl, rfl, fun z hz => ?_⟩
    rcases List.mem_append.1 hz with h1 | h1
    · exact h z h1
    · rw [List.mem_singleton.1 h1]; exact hx
  · cases h
theorem put_done {s : List UInt8} {p out : List (List UInt8)} (h : PutInv s p out true) (x : List UInt8) : PutInv s (p ++ [x]) (out ++ [x]) true := by
  rcases h with ⟨h, _⟩ | ⟨_, rfl, z, hz, hzs⟩
  · cases h
  · exact Or.inr ⟨rfl, (ins_done ⟨z, hz, hzs⟩ [x]).symm, z, List.mem_append_left _ hz, hzs⟩
theorem put_eq {s : List UInt8} {p out : List (List UInt8)} (h : PutInv s p out false) (x : List UInt8) (hx : ¬ x < s) (he : x = s) : PutInv s (p ++ [x]) (out ++ [x]) true := by
  rcases h with ⟨_, rfl, h⟩ | ⟨h, _⟩
  · refine Or.inr ⟨rfl, ?_, x, by simp, hx⟩
    rw [ins_below h]; simp [ins, he]
  · cases h
theorem put_new {s : List UInt8} {p out : List (List UInt8)} (h : PutInv s p out false) (x : List UInt8) (hx : ¬ x < s) (he : ¬ x = s) : PutInv s (p ++ [x]) (out ++ [s] ++ [x]) true := by
  rcases h with ⟨_, rfl, h⟩ | ⟨h, _⟩
  · refine Or.inr ⟨rfl, ?_, x, by simp, hx⟩
    rw [ins_below h]; simp [ins, hx, he]
  · cases h
theorem put_last {s : List UInt8} {p out : List (List UInt8)} (h : PutInv s p out false) : out ++ [s] = ins s p := by
  rcases h with ⟨_, rfl, h⟩ | ⟨h, _⟩
  · have := ins_below h []; rw [List.append_nil] at this; rw [this]; rfl
  · cases h
theorem put_end {s : List UInt8} {p out : List (List UInt8)} (h : PutInv s p out true) : out = ins s p := by
  rcases h with ⟨h, _⟩ | ⟨_, h, _⟩
  · cases h
  · exact h
theorem put_len {s : List UInt8} {p out : List (List UInt8)} {d : Bool} (h : PutInv s p out d) : out.length ≤ p.length + 1 := by
  rcases h with ⟨_, rfl, _⟩ | ⟨_, rfl, _⟩
  · omega
  · exact ins_len s p
set_option maxRecDepth 100000 in
set_option maxHeartbeats 1600000 in
theorem l1Put_any (v : Value) (x : List (List UInt8)) (s : ByteArray) (w : World) (hR : RowAt w v (x.map strV)) (hm : x.length ≤ 2097152) :
    Calls Tryz.prog 77 #[v, .string s] w fun e w' => GivesRow (ins s.data.toList x) w e w' := by
  obtain ⟨a, c, rfl, hl⟩ := rowAt_len hR
  rw [List.length_map] at *
  have HR := Lib.hid hR
  have HO := Lib.hid (owns_new w)
  clear hR hl
  go_enter Tryz.func77, Tryz.ntmps77
  go_wp2_with fail
  go_loopw [5, 6, 8, 12] (fun ov dv _ i wr => ∃ (k : Nat) (done : Bool) (out : List (List UInt8)), k ≤ x.length ∧ i = .int .i64 k ∧ dv = .bool done ∧ PutInv s.data.toList (x.take k) out done ∧ Owns wr w.heap.size ov out ∧ Below w.heap.size w wr) (fun _ _ _ i _ => x.length - (intOf i).toNat)
  case atStart => exact ⟨0, false, [], Nat.zero_le _, rfl, rfl, put_start _, HO.out, (Below.refl _ _).alloc (Nat.le_refl _) _⟩
  case round =>
    obtain ⟨k, done, out, hk, rfl, rfl, hinv, hO, hb⟩ := hrel
    have hol : out.length ≤ 4194303 := by have := put_len hinv; simp at this; omega
    have HI := Lib.hid hinv
    have HO2 := Lib.hid hO
    have HB := Lib.hid hb
    have HRr := Lib.hid (RowAt.below HR.out hb (Nat.le_refl _))
    clear hinv hO hb
    by_cases hlt : k < x.length
    · obtain ⟨b, o, rfl, hbw, d1⟩ := rowAt_cell HRr.out k (by simpa using hlt)
      rw [getElem_map_strV] at d1
      unfold strV at d1
      have HT := Lib.hid (List.take_succ_eq_append_getElem hlt)
      cases done
      · by_cases hls : x[k] < s.data.toList
        · have hbl : Op.bytesLess x[k] s.toList = true := by rw [bytes_lt, Lib.toList_data]; simpa using hls
          have HN := Lib.hid (put_less HI.out x[k] hls)
          clear hls
          go_wp2_with (at_builtin; (refine append_strs rfl _ _ rfl w.heap.size _ out x[k] _ wr.heap.size (by rfl) (owns_alloc HO2.out _) rfl (cell_new _ _ _) (by omega) (by have := HB.out.size; simp; omega) ?_; intro v' w3 hO1 hg1))
          exact ⟨⟨k + 1, false, _, by omega, by go_num, rfl, by rw [HT.out]; exact HN.out, hO1, below_append (HB.out.alloc HB.out.size _) (owns_alloc HO2.out _) hg1 (by have := HB.out.size; simp; omega)⟩, by simp [intOf]; omega⟩
        · have hbl : Op.bytesLess x[k] s.toList = false := by rw [bytes_lt, Lib.toList_data]; simpa using hls
          by_cases heq : x[k] = s.data.toList
          · have hbeq : (x[k] == s.toList) = true := by rw [Lib.toList_data, beq_iff_eq]; exact heq
            have HN := Lib.hid (put_eq HI.out x[k] hls heq)
            clear hls heq
            go_wp2_with (at_builtin; (refine append_strs rfl _ _ rfl w.heap.size _ out x[k] _ wr.heap.size (by rfl) (owns_alloc HO2.out _) rfl (cell_new _ _ _) (by omega) (by have := HB.out.size; simp; omega) ?_; intro v' w3 hO1 hg1))
            exact ⟨⟨k + 1, true, _, by omega, by go_num, rfl, by rw [HT.out]; exact HN.out, hO1, below_append (HB.out.alloc HB.out.size _) (owns_alloc HO2.out _) hg1 (by have := HB.out.size; simp; omega)⟩, by simp [intOf]; omega⟩
          · have hbeq : (x[k] == s.toList) = false := by rw [Lib.toList_data, beq_eq_false_iff_ne]; exact heq
            have HN := Lib.hid (put_new HI.out x[k] hls heq)
            clear hls heq
            go_wp2_with (first
              | (at_builtin; (refine append_strs rfl (.tmp 26) (.tmp 28) rfl w.heap.size _ out s.data.toList _ wr.heap.size (by rfl) (owns_alloc HO2.out _) rfl (cell_newS _ _ _ _ rfl) (by omega) (by have := HB.out.size; simp; omega) ?_; intro v' w3 hO1 hg1; have HB3 := Lib.hid (below_append (HB.out.alloc HB.out.size _) (owns_alloc HO2.out _) hg1 (by have := HB.out.size; simp; omega)); have HO3 := Lib.hid hO1; clear hO1 hg1))
              | (at_builtin; (refine append_strs rfl (.tmp 30) (.tmp 32) rfl w.heap.size _ (out ++ [s.data.toList]) x[k] _ w3.heap.size (by rfl) (owns_alloc HO3.out _) rfl (cell_new _ _ _) (by simp; omega) (by have := HB3.out.size; simp; omega) ?_; intro v2 w4 hO2 hg2)))
            exact ⟨⟨k + 1, true, _, by omega, by go_num, rfl, by rw [HT.out]; exact HN.out, hO2, below_append (HB3.out.alloc HB3.out.size _) (owns_alloc HO3.out _) hg2 (by have := HB3.out.size; simp; omega)⟩, by simp [intOf]; omega⟩
      · have HN := Lib.hid (put_done HI.out x[k])
        go_wp2_with (at_builtin; (refine append_strs rfl _ _ rfl w.heap.size _ out x[k] _ wr.heap.size (by rfl) (owns_alloc HO2.out _) rfl (cell_new _ _ _) (by omega) (by have := HB.out.size; simp; omega) ?_; intro v' w3 hO1 hg1))
        exact ⟨⟨k + 1, true, _, by omega, by go_num, rfl, by rw [HT.out]; exact HN.out, hO1, below_append (HB.out.alloc HB.out.size _) (owns_alloc HO2.out _) hg1 (by have := HB.out.size; simp; omega)⟩, by simp [intOf]; omega⟩
    · have HT := Lib.hid (show x.take k = x from List.take_of_length_le (by omega))
      cases done
      · have HN := Lib.hid (put_last HI.out)
        go_wp2_with (at_builtin; (refine append_strs rfl _ _ rfl w.heap.size _ out s.data.toList _ wr.heap.size (by rfl) (owns_alloc HO2.out _) rfl (cell_newS _ _ _ _ rfl) (by omega) (by have := HB.out.size; simp; omega) ?_; intro v' w3 hO1 hg1))
        go_ret
        exact ⟨_, rfl, by have h := HN.out; rw [HT.out] at h; rw [← h]; exact hO1, below_append (HB.out.alloc HB.out.size _) (owns_alloc HO2.out _) hg1 (by have := HB.out.size; simp; omega)⟩
      · have HN := Lib.hid (put_end HI.out)
        go_wp2_with fail
        go_ret
        exact ⟨_, rfl, by have h := HN.out; rw [HT.out] at h; rw [← h]; exact HO2.out, HB.out⟩
end Go.Proofs.YteeopjcbpngofaaGreat
namespace Go.Proofs.YteeopjcbpngofaaGreat
set_option linter.unusedVariables false
open Go.RowKit
theorem ownsF_str {w : World} {B : Nat} {v : Value} {x : List (List UInt8)} (h : Owns w B v x) : OwnsF cStr 9 1 w B v x := by unfold OwnsF; rw [cStr_map]; exact h
theorem owns_strF {w : World} {B : Nat} {v : Value} {x : List (List UInt8)} (h : OwnsF cStr 9 1 w B v x) : Owns w B v x := by unfold OwnsF at h; rw [cStr_map] at h; exact h
theorem givesF_str {x : List (List UInt8)} {w : World} {e : Ending} {w' : World} (h : GivesRow x w e w') : GivesF cStr 9 1 x w e w' := by
  obtain ⟨v, h1, h2, h3⟩ := h; exact ⟨v, h1, ownsF_str h2, h3⟩
theorem eqStringS_f (v u : Value) (x y : List (List UInt8)) (w : World) (hx : FlatAt cStr 1 w v x) (hy : FlatAt cStr 1 w u y) : Calls Tryz.prog 36 #[v, u] w fun e w' => e = .returned (.bool (decide (x = y))) ∧ Below w.heap.size w w' :=
  eqStringS_any v u x y w (row_of_flat hx) (row_of_flat hy)
theorem marksString_len (k : Int) (n : Nat) : (marks k n).length = n := marks_len k n
theorem markStringS_f (B : Nat) (v : Value) (x : List (List UInt8)) (k : Int) (w : World) (hO : OwnsF cStr 9 1 w B v x) (hm : x.length ≤ 4194304) (h0 : 1 ≤ k) (h1 : k ≤ 4194304) :
    Calls Tryz.prog 37 #[v, .int .i64 k] w fun e w' => e = .returned (.int .i64 (k + x.length)) ∧ OwnsF cStr 9 1 w' B v (marks k x.length) ∧ w.grownBy w' v.ownBlock :=
  (markStringS_any B v x k w (owns_strF hO) hm h0 h1).mono fun e w' ⟨h1, h2, h3⟩ => ⟨h1, ownsF_str h2, h3⟩
theorem heldStringS_f (v : Value) (n : Nat) (k : Int) (w : World) (hR : FlatAt cStr 1 w v (marks k n)) (hm : n ≤ 4194304) (h0 : 1 ≤ k) (h1 : k ≤ 4194304) :
    Calls Tryz.prog 38 #[v, .int .i64 k] w fun e w' => e = .returned (.int .i64 (k + n)) ∧ Below w.heap.size w w' :=
  heldStringS_any v n k w (row_of_flat hR) hm h0 h1
theorem szStringS_f (v : Value) (x : List (List UInt8)) (left : Int) (w : World) (hx : FlatAt cStr 1 w v x) (hs : ∀ s ∈ x, s.length ≤ maxLen) (h0 : 0 ≤ left) (h1 : left ≤ 1099511627776) :
    Calls Tryz.prog 48 #[v, .int .i64 left] w fun e w' => SzF ((x.length + sumF List.length x : Nat) : Int) left w e w' :=
  (szStringS_any v x left w (row_of_flat hx) hs h0 h1).mono fun e w' ⟨r, h1, h2, h3, h4⟩ => ⟨r, h1, h2, fun h => by rw [← total_sum]; have := h3 h; push_cast; omega, by subst h4; exact Below.refl _ _⟩
theorem toStringS_f (v : Value) (x : List (List UInt8)) (w : World) (hx : FlatAt cStr 1 w v x) (hm : x.length ≤ 2097152) :
    Calls Tryz.prog 53 #[v] w fun e w' => e = .returned (.slice (some ⟨w.heap.size, 0, none⟩) x.length x.length) ∧ OwnsF cStr 9 1 w' w.heap.size (.slice (some ⟨w.heap.size, 0, none⟩) x.length x.length) x ∧ Below w.heap.size w w' :=
  (toStringS_any v x w (row_of_flat hx) hm).mono fun e w' ⟨h1, h2, h3⟩ => ⟨h1, ownsF_str h2, h3⟩
theorem toStringS_g (v : Value) (x : List (List UInt8)) (w : World) (hx : FlatAt cStr 1 w v x) (hm : x.length ≤ 2097152) :
    Calls Tryz.prog 53 #[v] w fun e w' => GivesF cStr 9 1 x w e w' :=
  (toStringS_f v x w hx hm).mono fun e w' ⟨h1, h2, h3⟩ => ⟨_, h1, h2, h3⟩
end Go.Proofs.YteeopjcbpngofaaGreat
