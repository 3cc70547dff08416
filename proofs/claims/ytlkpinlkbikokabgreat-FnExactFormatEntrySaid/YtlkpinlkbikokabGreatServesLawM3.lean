/- Contracts of chapter 4: Wrap, the program's. Written by gen/ch4wr.py. -/
import Derived.Test.YtlkpinlkbikokabGreatServesLawM2
import Derived.StillTailTactics
import Derived.Test.YtlkpinlkbikokabGreatServesLawM0
import Derived.Recover
import Derived.Defers
import Derived.Test.YtlkpinlkbikokabGreatServesLawM1
import Derived.Deep.AppendLies
/- assertAndWrap, by adapter: where the assertion is met, and where it is not. Written by gen/ch4if.py. -/
namespace Go.Proofs.YtlkpinlkbikokabGreat
set_option linter.unusedVariables false
set_option linter.unusedSimpArgs false
open Go.RowKit

set_option maxRecDepth 100000 in
set_option maxHeartbeats 1600000 in
theorem aw_0 (b o : Nat) (T : TypeId) (V : Value) (w : World) (h : w.cell? ⟨b, o, none⟩ = some (.string ⟨(layN 0).toArray⟩)) :
    Calls Tryz.prog 168 #[.iface T V, .pointer (some ⟨b, o, none⟩)] w fun e w' => e = .returned (wrapV b o (.iface T V) 0) ∧ Below w.heap.size w w' := by
  have hl0 := World.block_lt_of_cell? w _ h
  simp only at hl0
  have hn0 : ¬ b = w.heap.size := by omega
  simp only [layN] at h
  unfold wrapV
  go_enter Tryz.func168, Tryz.ntmps168
  go_wp2_with fail
  try go_region
  all_goals (try go_wp2_with fail)
  all_goals
    go_ret
    refine ⟨rfl, ?_⟩
    repeat (first | with_reducible exact Below.refl _ _ | with_reducible refine Below.alloc ?_ (by simp; try omega) _ | with_reducible refine bel_dr ?_)
set_option maxRecDepth 100000 in
set_option maxHeartbeats 1600000 in
theorem aw_1 (b o : Nat) (T : TypeId) (V : Value) (w : World) (h : w.cell? ⟨b, o, none⟩ = some (.string ⟨(layN 1).toArray⟩)) (hta : Has 199 T) :
    Calls Tryz.prog 168 #[.iface T V, .pointer (some ⟨b, o, none⟩)] w fun e w' => e = .returned (wrapV b o (.iface T V) 1) ∧ Below w.heap.size w w' := by
  have hl0 := World.block_lt_of_cell? w _ h
  simp only at hl0
  have hn0 : ¬ b = w.heap.size := by omega
  simp only [layN] at h
  unfold wrapV
  unfold Has at hta
  go_enter Tryz.func168, Tryz.ntmps168
  go_wp2_with fail
  try go_region
  all_goals (try go_wp2_with fail)
  all_goals
    go_ret
    refine ⟨rfl, ?_⟩
    repeat (first | with_reducible exact Below.refl _ _ | with_reducible refine Below.alloc ?_ (by simp; try omega) _ | with_reducible refine bel_dr ?_)
set_option maxRecDepth 100000 in
set_option maxHeartbeats 1600000 in
theorem awp_1 (b o : Nat) (T : TypeId) (V : Value) (w : World) (h : w.cell? ⟨b, o, none⟩ = some (.string ⟨(layN 1).toArray⟩)) (hta : Fails 199 T) :
    Calls Tryz.prog 168 #[.iface T V, .pointer (some ⟨b, o, none⟩)] w fun e w' => Panics w e w' := by
  have hl0 := World.block_lt_of_cell? w _ h
  simp only at hl0
  have hn0 : ¬ b = w.heap.size := by omega
  simp only [layN] at h
  obtain ⟨c, E, hta⟩ := hta
  go_enter Tryz.func168, Tryz.ntmps168
  go_wp2_with fail
  refine wp_region_any (by kernel_rfl) ?_
  change wpAny _ _ _ _ _ _ _ (World.drew _)
  refine wpAny_take (i := 1) (v := ?_) rfl (by kernel_rfl) (by kernel_rfl) (by kernel_rfl) (fun _ _ _ h => h) (Or.inl ⟨by rfl, ?_⟩) ?_
  rotate_left
  · intro w; go_simp; try (with_reducible rfl)
  refine wpAny_ready (rs := [0, 2]) (by kernel_rfl) (by simp) ?_
  refine AllReady.cons rfl (fun K hK => ?_) ?_
  · go_simp
    refine hK _ _ ?_
    clear hK K
    refine wpAny_ready (rs := [2]) (by kernel_rfl) (by simp) ?_
    refine AllReady.cons rfl (fun K hK => ?_) ?_
    · go_simp
      exact ⟨rfl, _, rfl, by repeat (first | with_reducible exact Below.refl _ _ | with_reducible refine Below.alloc ?_ (by simp; try omega) _ | with_reducible refine Below.drew ?_ | with_reducible refine below_drewN ?_ _)⟩
    exact AllReady.nil
  refine AllReady.cons rfl (fun K hK => ?_) ?_
  · go_simp
    exact ⟨rfl, _, rfl, by repeat (first | with_reducible exact Below.refl _ _ | with_reducible refine Below.alloc ?_ (by simp; try omega) _ | with_reducible refine Below.drew ?_ | with_reducible refine below_drewN ?_ _)⟩
  exact AllReady.nil
set_option maxRecDepth 100000 in
set_option maxHeartbeats 1600000 in
theorem aw_2 (b o : Nat) (T : TypeId) (V : Value) (w : World) (h : w.cell? ⟨b, o, none⟩ = some (.string ⟨(layN 2).toArray⟩)) (hta : Has 203 T) :
    Calls Tryz.prog 168 #[.iface T V, .pointer (some ⟨b, o, none⟩)] w fun e w' => e = .returned (wrapV b o (.iface T V) 2) ∧ Below w.heap.size w w' := by
  have hl0 := World.block_lt_of_cell? w _ h
  simp only at hl0
  have hn0 : ¬ b = w.heap.size := by omega
  simp only [layN] at h
  unfold wrapV
  unfold Has at hta
  go_enter Tryz.func168, Tryz.ntmps168
  go_wp2_with fail
  try go_region
  all_goals (try go_wp2_with fail)
  all_goals
    go_ret
    refine ⟨rfl, ?_⟩
    repeat (first | with_reducible exact Below.refl _ _ | with_reducible refine Below.alloc ?_ (by simp; try omega) _ | with_reducible refine bel_dr ?_)
set_option maxRecDepth 100000 in
set_option maxHeartbeats 1600000 in
theorem awp_2 (b o : Nat) (T : TypeId) (V : Value) (w : World) (h : w.cell? ⟨b, o, none⟩ = some (.string ⟨(layN 2).toArray⟩)) (hta : Fails 203 T) :
    Calls Tryz.prog 168 #[.iface T V, .pointer (some ⟨b, o, none⟩)] w fun e w' => Panics w e w' := by
  have hl0 := World.block_lt_of_cell? w _ h
  simp only at hl0
  have hn0 : ¬ b = w.heap.size := by omega
  simp only [layN] at h
  obtain ⟨c, E, hta⟩ := hta
  go_enter Tryz.func168, Tryz.ntmps168
  go_wp2_with fail
  refine wp_region_any (by kernel_rfl) ?_
  change wpAny _ _ _ _ _ _ _ (World.drew _)
  refine wpAny_take (i := 1) (v := ?_) rfl (by kernel_rfl) (by kernel_rfl) (by kernel_rfl) (fun _ _ _ h => h) (Or.inl ⟨by rfl, ?_⟩) ?_
  rotate_left
  · intro w; go_simp; try (with_reducible rfl)
  refine wpAny_ready (rs := [0, 2]) (by kernel_rfl) (by simp) ?_
  refine AllReady.cons rfl (fun K hK => ?_) ?_
  · go_simp
    refine hK _ _ ?_
    clear hK K
    refine wpAny_ready (rs := [2]) (by kernel_rfl) (by simp) ?_
    refine AllReady.cons rfl (fun K hK => ?_) ?_
    · go_simp
      exact ⟨rfl, _, rfl, by repeat (first | with_reducible exact Below.refl _ _ | with_reducible refine Below.alloc ?_ (by simp; try omega) _ | with_reducible refine Below.drew ?_ | with_reducible refine below_drewN ?_ _)⟩
    exact AllReady.nil
  refine AllReady.cons rfl (fun K hK => ?_) ?_
  · go_simp
    exact ⟨rfl, _, rfl, by repeat (first | with_reducible exact Below.refl _ _ | with_reducible refine Below.alloc ?_ (by simp; try omega) _ | with_reducible refine Below.drew ?_ | with_reducible refine below_drewN ?_ _)⟩
  exact AllReady.nil
set_option maxRecDepth 100000 in
set_option maxHeartbeats 1600000 in
theorem aw_3 (b o : Nat) (T : TypeId) (V : Value) (w : World) (h : w.cell? ⟨b, o, none⟩ = some (.string ⟨(layN 3).toArray⟩)) (hta : Has 203 T) :
    Calls Tryz.prog 168 #[.iface T V, .pointer (some ⟨b, o, none⟩)] w fun e w' => e = .returned (wrapV b o (.iface T V) 3) ∧ Below w.heap.size w w' := by
  have hl0 := World.block_lt_of_cell? w _ h
  simp only at hl0
  have hn0 : ¬ b = w.heap.size := by omega
  simp only [layN] at h
  unfold wrapV
  unfold Has at hta
  go_enter Tryz.func168, Tryz.ntmps168
  go_wp2_with fail
  try go_region
  all_goals (try go_wp2_with fail)
  all_goals
    go_ret
    refine ⟨rfl, ?_⟩
    repeat (first | with_reducible exact Below.refl _ _ | with_reducible refine Below.alloc ?_ (by simp; try omega) _ | with_reducible refine bel_dr ?_)
set_option maxRecDepth 100000 in
set_option maxHeartbeats 1600000 in
theorem awp_3 (b o : Nat) (T : TypeId) (V : Value) (w : World) (h : w.cell? ⟨b, o, none⟩ = some (.string ⟨(layN 3).toArray⟩)) (hta : Fails 203 T) :
    Calls Tryz.prog 168 #[.iface T V, .pointer (some ⟨b, o, none⟩)] w fun e w' => Panics w e w' := by
  have hl0 := World.block_lt_of_cell? w _ h
  simp only at hl0
  have hn0 : ¬ b = w.heap.size := by omega
  simp only [layN] at h
  obtain ⟨c, E, hta⟩ := hta
  go_enter Tryz.func168, Tryz.ntmps168
  go_wp2_with fail
  refine wp_region_any (by kernel_rfl) ?_
  change wpAny _ _ _ _ _ _ _ (World.drew _)
  refine wpAny_take (i := 1) (v := ?_) rfl (by kernel_rfl) (by kernel_rfl) (by kernel_rfl) (fun _ _ _ h => h) (Or.inl ⟨by rfl, ?_⟩) ?_
  rotate_left
  · intro w; go_simp; try (with_reducible rfl)
  refine wpAny_ready (rs := [0, 2]) (by kernel_rfl) (by simp) ?_
  refine AllReady.cons rfl (fun K hK => ?_) ?_
  · go_simp
    refine hK _ _ ?_
    clear hK K
    refine wpAny_ready (rs := [2]) (by kernel_rfl) (by simp) ?_
    refine AllReady.cons rfl (fun K hK => ?_) ?_
    · go_simp
      exact ⟨rfl, _, rfl, by repeat (first | with_reducible exact Below.refl _ _ | with_reducible refine Below.alloc ?_ (by simp; try omega) _ | with_reducible refine Below.drew ?_ | with_reducible refine below_drewN ?_ _)⟩
    exact AllReady.nil
  refine AllReady.cons rfl (fun K hK => ?_) ?_
  · go_simp
    exact ⟨rfl, _, rfl, by repeat (first | with_reducible exact Below.refl _ _ | with_reducible refine Below.alloc ?_ (by simp; try omega) _ | with_reducible refine Below.drew ?_ | with_reducible refine below_drewN ?_ _)⟩
  exact AllReady.nil
set_option maxRecDepth 100000 in
set_option maxHeartbeats 1600000 in
theorem aw_4 (b o : Nat) (T : TypeId) (V : Value) (w : World) (h : w.cell? ⟨b, o, none⟩ = some (.string ⟨(layN 4).toArray⟩)) (hta : Has 208 T) :
    Calls Tryz.prog 168 #[.iface T V, .pointer (some ⟨b, o, none⟩)] w fun e w' => e = .returned (wrapV b o (.iface T V) 4) ∧ Below w.heap.size w w' := by
  have hl0 := World.block_lt_of_cell? w _ h
  simp only at hl0
  have hn0 : ¬ b = w.heap.size := by omega
  simp only [layN] at h
  unfold wrapV
  unfold Has at hta
  go_enter Tryz.func168, Tryz.ntmps168
  go_wp2_with fail
  try go_region
  all_goals (try go_wp2_with fail)
  all_goals
    go_ret
    refine ⟨rfl, ?_⟩
    repeat (first | with_reducible exact Below.refl _ _ | with_reducible refine Below.alloc ?_ (by simp; try omega) _ | with_reducible refine bel_dr ?_)
set_option maxRecDepth 100000 in
set_option maxHeartbeats 1600000 in
theorem awp_4 (b o : Nat) (T : TypeId) (V : Value) (w : World) (h : w.cell? ⟨b, o, none⟩ = some (.string ⟨(layN 4).toArray⟩)) (hta : Fails 208 T) :
    Calls Tryz.prog 168 #[.iface T V, .pointer (some ⟨b, o, none⟩)] w fun e w' => Panics w e w' := by
  have hl0 := World.block_lt_of_cell? w _ h
  simp only at hl0
  have hn0 : ¬ b = w.heap.size := by omega
  simp only [layN] at h
  obtain ⟨c, E, hta⟩ := hta
  go_enter Tryz.func168, Tryz.ntmps168
  go_wp2_with fail
  refine wp_region_any (by kernel_rfl) ?_
  change wpAny _ _ _ _ _ _ _ (World.drew _)
  refine wpAny_take (i := 1) (v := ?_) rfl (by kernel_rfl) (by kernel_rfl) (by kernel_rfl) (fun _ _ _ h => h) (Or.inl ⟨by rfl, ?_⟩) ?_
  rotate_left
  · intro w; go_simp; try (with_reducible rfl)
  refine wpAny_ready (rs := [0, 2]) (by kernel_rfl) (by simp) ?_
  refine AllReady.cons rfl (fun K hK => ?_) ?_
  · go_simp
    refine hK _ _ ?_
    clear hK K
    refine wpAny_ready (rs := [2]) (by kernel_rfl) (by simp) ?_
    refine AllReady.cons rfl (fun K hK => ?_) ?_
    · go_simp
      exact ⟨rfl, _, rfl, by repeat (first | with_reducible exact Below.refl _ _ | with_reducible refine Below.alloc ?_ (by simp; try omega) _ | with_reducible refine Below.drew ?_ | with_reducible refine below_drewN ?_ _)⟩
    exact AllReady.nil
  refine AllReady.cons rfl (fun K hK => ?_) ?_
  · go_simp
    exact ⟨rfl, _, rfl, by repeat (first | with_reducible exact Below.refl _ _ | with_reducible refine Below.alloc ?_ (by simp; try omega) _ | with_reducible refine Below.drew ?_ | with_reducible refine below_drewN ?_ _)⟩
  exact AllReady.nil
set_option maxRecDepth 100000 in
set_option maxHeartbeats 1600000 in
theorem aw_5 (b o : Nat) (T : TypeId) (V : Value) (w : World) (h : w.cell? ⟨b, o, none⟩ = some (.string ⟨(layN 5).toArray⟩)) (hta : Has 203 T) :
    Calls Tryz.prog 168 #[.iface T V, .pointer (some ⟨b, o, none⟩)] w fun e w' => e = .returned (wrapV b o (.iface T V) 5) ∧ Below w.heap.size w w' := by
  have hl0 := World.block_lt_of_cell? w _ h
  simp only at hl0
  have hn0 : ¬ b = w.heap.size := by omega
  simp only [layN] at h
  unfold wrapV
  unfold Has at hta
  go_enter Tryz.func168, Tryz.ntmps168
  go_wp2_with fail
  try go_region
  all_goals (try go_wp2_with fail)
  all_goals
    go_ret
    refine ⟨rfl, ?_⟩
    repeat (first | with_reducible exact Below.refl _ _ | with_reducible refine Below.alloc ?_ (by simp; try omega) _ | with_reducible refine bel_dr ?_)
set_option maxRecDepth 100000 in
set_option maxHeartbeats 1600000 in
theorem awp_5 (b o : Nat) (T : TypeId) (V : Value) (w : World) (h : w.cell? ⟨b, o, none⟩ = some (.string ⟨(layN 5).toArray⟩)) (hta : Fails 203 T) :
    Calls Tryz.prog 168 #[.iface T V, .pointer (some ⟨b, o, none⟩)] w fun e w' => Panics w e w' := by
  have hl0 := World.block_lt_of_cell? w _ h
  simp only at hl0
  have hn0 : ¬ b = w.heap.size := by omega
  simp only [layN] at h
  obtain ⟨c, E, hta⟩ := hta
  go_enter Tryz.func168, Tryz.ntmps168
  go_wp2_with fail
  refine wp_region_any (by kernel_rfl) ?_
  change wpAny _ _ _ _ _ _ _ (World.drew _)
  refine wpAny_take (i := 1) (v := ?_) rfl (by kernel_rfl) (by kernel_rfl) (by kernel_rfl) (fun _ _ _ h => h) (Or.inl ⟨by rfl, ?_⟩) ?_
  rotate_left
  · intro w; go_simp; try (with_reducible rfl)
  refine wpAny_ready (rs := [0, 2]) (by kernel_rfl) (by simp) ?_
  refine AllReady.cons rfl (fun K hK => ?_) ?_
  · go_simp
    refine hK _ _ ?_
    clear hK K
    refine wpAny_ready (rs := [2]) (by kernel_rfl) (by simp) ?_
    refine AllReady.cons rfl (fun K hK => ?_) ?_
    · go_simp
      exact ⟨rfl, _, rfl, by repeat (first | with_reducible exact Below.refl _ _ | with_reducible refine Below.alloc ?_ (by simp; try omega) _ | with_reducible refine Below.drew ?_ | with_reducible refine below_drewN ?_ _)⟩
    exact AllReady.nil
  refine AllReady.cons rfl (fun K hK => ?_) ?_
  · go_simp
    exact ⟨rfl, _, rfl, by repeat (first | with_reducible exact Below.refl _ _ | with_reducible refine Below.alloc ?_ (by simp; try omega) _ | with_reducible refine Below.drew ?_ | with_reducible refine below_drewN ?_ _)⟩
  exact AllReady.nil
set_option maxRecDepth 100000 in
set_option maxHeartbeats 1600000 in
theorem aw_6 (b o : Nat) (T : TypeId) (V : Value) (w : World) (h : w.cell? ⟨b, o, none⟩ = some (.string ⟨(layN 6).toArray⟩)) (hta : Has 199 T) :
    Calls Tryz.prog 168 #[.iface T V, .pointer (some ⟨b, o, none⟩)] w fun e w' => e = .returned (wrapV b o (.iface T V) 6) ∧ Below w.heap.size w w' := by
  have hl0 := World.block_lt_of_cell? w _ h
  simp only at hl0
  have hn0 : ¬ b = w.heap.size := by omega
  simp only [layN] at h
  unfold wrapV
  unfold Has at hta
  go_enter Tryz.func168, Tryz.ntmps168
  go_wp2_with fail
  try go_region
  all_goals (try go_wp2_with fail)
  all_goals
    go_ret
    refine ⟨rfl, ?_⟩
    repeat (first | with_reducible exact Below.refl _ _ | with_reducible refine Below.alloc ?_ (by simp; try omega) _ | with_reducible refine bel_dr ?_)
set_option maxRecDepth 100000 in
set_option maxHeartbeats 1600000 in
theorem awp_6 (b o : Nat) (T : TypeId) (V : Value) (w : World) (h : w.cell? ⟨b, o, none⟩ = some (.string ⟨(layN 6).toArray⟩)) (hta : Fails 199 T) :
    Calls Tryz.prog 168 #[.iface T V, .pointer (some ⟨b, o, none⟩)] w fun e w' => Panics w e w' := by
  have hl0 := World.block_lt_of_cell? w _ h
  simp only at hl0
  have hn0 : ¬ b = w.heap.size := by omega
  simp only [layN] at h
  obtain ⟨c, E, hta⟩ := hta
  go_enter Tryz.func168, Tryz.ntmps168
  go_wp2_with fail
  refine wp_region_any (by kernel_rfl) ?_
  change wpAny _ _ _ _ _ _ _ (World.drew _)
  refine wpAny_take (i := 1) (v := ?_) rfl (by kernel_rfl) (by kernel_rfl) (by kernel_rfl) (fun _ _ _ h => h) (Or.inl ⟨by rfl, ?_⟩) ?_
  rotate_left
  · intro w; go_simp; try (with_reducible rfl)
  refine wpAny_ready (rs := [0, 2]) (by kernel_rfl) (by simp) ?_
  refine AllReady.cons rfl (fun K hK => ?_) ?_
  · go_simp
    refine hK _ _ ?_
    clear hK K
    refine wpAny_ready (rs := [2]) (by kernel_rfl) (by simp) ?_
    refine AllReady.cons rfl (fun K hK => ?_) ?_
    · go_simp
      exact ⟨rfl, _, rfl, by repeat (first | with_reducible exact Below.refl _ _ | with_reducible refine Below.alloc ?_ (by simp; try omega) _ | with_reducible refine Below.drew ?_ | with_reducible refine below_drewN ?_ _)⟩
    exact AllReady.nil
  refine AllReady.cons rfl (fun K hK => ?_) ?_
  · go_simp
    exact ⟨rfl, _, rfl, by repeat (first | with_reducible exact Below.refl _ _ | with_reducible refine Below.alloc ?_ (by simp; try omega) _ | with_reducible refine Below.drew ?_ | with_reducible refine below_drewN ?_ _)⟩
  exact AllReady.nil
set_option maxRecDepth 100000 in
set_option maxHeartbeats 1600000 in
theorem aw_7 (b o : Nat) (T : TypeId) (V : Value) (w : World) (h : w.cell? ⟨b, o, none⟩ = some (.string ⟨(layN 7).toArray⟩)) (hta : Has 199 T) :
    Calls Tryz.prog 168 #[.iface T V, .pointer (some ⟨b, o, none⟩)] w fun e w' => e = .returned (wrapV b o (.iface T V) 7) ∧ Below w.heap.size w w' := by
  have hl0 := World.block_lt_of_cell? w _ h
  simp only at hl0
  have hn0 : ¬ b = w.heap.size := by omega
  simp only [layN] at h
  unfold wrapV
  unfold Has at hta
  go_enter Tryz.func168, Tryz.ntmps168
  go_wp2_with fail
  try go_region
  all_goals (try go_wp2_with fail)
  all_goals
    go_ret
    refine ⟨rfl, ?_⟩
    repeat (first | with_reducible exact Below.refl _ _ | with_reducible refine Below.alloc ?_ (by simp; try omega) _ | with_reducible refine bel_dr ?_)
set_option maxRecDepth 100000 in
set_option maxHeartbeats 1600000 in
theorem awp_7 (b o : Nat) (T : TypeId) (V : Value) (w : World) (h : w.cell? ⟨b, o, none⟩ = some (.string ⟨(layN 7).toArray⟩)) (hta : Fails 199 T) :
    Calls Tryz.prog 168 #[.iface T V, .pointer (some ⟨b, o, none⟩)] w fun e w' => Panics w e w' := by
  have hl0 := World.block_lt_of_cell? w _ h
  simp only at hl0
  have hn0 : ¬ b = w.heap.size := by omega
  simp only [layN] at h
  obtain ⟨c, E, hta⟩ := hta
  go_enter Tryz.func168, Tryz.ntmps168
  go_wp2_with fail
  refine wp_region_any (by kernel_rfl) ?_
  change wpAny _ _ _ _ _ _ _ (World.drew _)
  refine wpAny_take (i := 1) (v := ?_) rfl (by kernel_rfl) (by kernel_rfl) (by kernel_rfl) (fun _ _ _ h => h) (Or.inl ⟨by rfl, ?_⟩) ?_
  rotate_left
  · intro w; go_simp; try (with_reducible rfl)
  refine wpAny_ready (rs := [0, 2]) (by kernel_rfl) (by simp) ?_
  refine AllReady.cons rfl (fun K hK => ?_) ?_
  · go_simp
    refine hK _ _ ?_
    clear hK K
    refine wpAny_ready (rs := [2]) (by kernel_rfl) (by simp) ?_
    refine AllReady.cons rfl (fun K hK => ?_) ?_
    · go_simp
      exact ⟨rfl, _, rfl, by repeat (first | with_reducible exact Below.refl _ _ | with_reducible refine Below.alloc ?_ (by simp; try omega) _ | with_reducible refine Below.drew ?_ | with_reducible refine below_drewN ?_ _)⟩
    exact AllReady.nil
  refine AllReady.cons rfl (fun K hK => ?_) ?_
  · go_simp
    exact ⟨rfl, _, rfl, by repeat (first | with_reducible exact Below.refl _ _ | with_reducible refine Below.alloc ?_ (by simp; try omega) _ | with_reducible refine Below.drew ?_ | with_reducible refine below_drewN ?_ _)⟩
  exact AllReady.nil
set_option maxRecDepth 100000 in
set_option maxHeartbeats 1600000 in
theorem aw_8 (b o : Nat) (T : TypeId) (V : Value) (w : World) (h : w.cell? ⟨b, o, none⟩ = some (.string ⟨(layN 8).toArray⟩)) (hta : Has 215 T) :
    Calls Tryz.prog 168 #[.iface T V, .pointer (some ⟨b, o, none⟩)] w fun e w' => e = .returned (wrapV b o (.iface T V) 8) ∧ Below w.heap.size w w' := by
  have hl0 := World.block_lt_of_cell? w _ h
  simp only at hl0
  have hn0 : ¬ b = w.heap.size := by omega
  simp only [layN] at h
  unfold wrapV
  unfold Has at hta
  go_enter Tryz.func168, Tryz.ntmps168
  go_wp2_with fail
  try go_region
  all_goals (try go_wp2_with fail)
  all_goals
    go_ret
    refine ⟨rfl, ?_⟩
    repeat (first | with_reducible exact Below.refl _ _ | with_reducible refine Below.alloc ?_ (by simp; try omega) _ | with_reducible refine bel_dr ?_)
set_option maxRecDepth 100000 in
set_option maxHeartbeats 1600000 in
theorem awp_8 (b o : Nat) (T : TypeId) (V : Value) (w : World) (h : w.cell? ⟨b, o, none⟩ = some (.string ⟨(layN 8).toArray⟩)) (hta : Fails 215 T) :
    Calls Tryz.prog 168 #[.iface T V, .pointer (some ⟨b, o, none⟩)] w fun e w' => Panics w e w' := by
  have hl0 := World.block_lt_of_cell? w _ h
  simp only at hl0
  have hn0 : ¬ b = w.heap.size := by omega
  simp only [layN] at h
  obtain ⟨c, E, hta⟩ := hta
  go_enter Tryz.func168, Tryz.ntmps168
  go_wp2_with fail
  refine wp_region_any (by kernel_rfl) ?_
  change wpAny _ _ _ _ _ _ _ (World.drew _)
  refine wpAny_take (i := 1) (v := ?_) rfl (by kernel_rfl) (by kernel_rfl) (by kernel_rfl) (fun _ _ _ h => h) (Or.inl ⟨by rfl, ?_⟩) ?_
  rotate_left
  · intro w; go_simp; try (with_reducible rfl)
  refine wpAny_ready (rs := [0, 2]) (by kernel_rfl) (by simp) ?_
  refine AllReady.cons rfl (fun K hK => ?_) ?_
  · go_simp
    refine hK _ _ ?_
    clear hK K
    refine wpAny_ready (rs := [2]) (by kernel_rfl) (by simp) ?_
    refine AllReady.cons rfl (fun K hK => ?_) ?_
    · go_simp
      exact ⟨rfl, _, rfl, by repeat (first | with_reducible exact Below.refl _ _ | with_reducible refine Below.alloc ?_ (by simp; try omega) _ | with_reducible refine Below.drew ?_ | with_reducible refine below_drewN ?_ _)⟩
    exact AllReady.nil
  refine AllReady.cons rfl (fun K hK => ?_) ?_
  · go_simp
    exact ⟨rfl, _, rfl, by repeat (first | with_reducible exact Below.refl _ _ | with_reducible refine Below.alloc ?_ (by simp; try omega) _ | with_reducible refine Below.drew ?_ | with_reducible refine below_drewN ?_ _)⟩
  exact AllReady.nil
end Go.Proofs.YtlkpinlkbikokabGreat
/- Reply: what the laws' own helpers do with it. Written by gen/flat.py. -/
namespace Go.Proofs.YtlkpinlkbikokabGreat
set_option linter.unusedVariables false
open Go.RowKit
structure ReplyD where
  fCode : Int
  fValue : Int
  fText : List UInt8
  fWant : Int
  fHad : Int
deriving DecidableEq
def okReply (d : ReplyD) : Prop := (-9223372036854775808 ≤ d.fCode ∧ d.fCode ≤ 9223372036854775807) ∧ (-9223372036854775808 ≤ d.fValue ∧ d.fValue ≤ 9223372036854775807) ∧ (d.fText.length ≤ maxLen) ∧ (-9223372036854775808 ≤ d.fWant ∧ d.fWant ≤ 9223372036854775807) ∧ (-9223372036854775808 ≤ d.fHad ∧ d.fHad ≤ 9223372036854775807)
def vReply (d : ReplyD) : Value := .agg #[.int .i64 d.fCode, .int .i64 d.fValue, .string ⟨d.fText.toArray⟩, .int .i64 d.fWant, .int .i64 d.fHad]
def cReply (d : ReplyD) : List Value := [.int .i64 d.fCode, .int .i64 d.fValue, .string ⟨d.fText.toArray⟩, .int .i64 d.fWant, .int .i64 d.fHad]
theorem cReply_len (d : ReplyD) : (cReply d).length = 5 := rfl
theorem cReply_one (d : ReplyD) : ∀ u ∈ cReply d, u.oneCell' = true := by intro u hu; simp only [cReply, List.mem_cons, List.not_mem_nil, or_false] at hu; rcases hu with rfl | rfl | rfl | rfl | rfl <;> rfl
def zReply (d : ReplyD) : Nat := d.fText.length
theorem infoReply : (Tryz.prog.info? 105).map (fun i => (i.zero, i.size, i.bytes)) = some (some (.agg #[.int .i64 0, .int .i64 0, .string ⟨#[]⟩, .int .i64 0, .int .i64 0]), 5, 48) := by kernel_rfl
def marksReply (k : Int) (n : Nat) : List ReplyD := (List.range n).map fun i : Nat => ⟨k + i * 5, k + i * 5 + 1, markL (k + i * 5 + 1 + 1), k + i * 5 + 1 + 1 + 1, k + i * 5 + 1 + 1 + 1 + 1⟩
theorem marksReply_len (k : Int) (n : Nat) : (marksReply k n).length = n := by simp [marksReply]
theorem marksReply_get (k : Int) (n i : Nat) (h : i < n) : (marksReply k n)[i]'(by rw [marksReply_len]; exact h) = ⟨k + i * 5, k + i * 5 + 1, markL (k + i * 5 + 1 + 1), k + i * 5 + 1 + 1 + 1, k + i * 5 + 1 + 1 + 1 + 1⟩ := by simp [marksReply]
end Go.Proofs.YtlkpinlkbikokabGreat
/- wrapIn: its deferred function literal, and itself. -/
namespace Go.Proofs.YtlkpinlkbikokabGreat
set_option linter.unusedVariables false
set_option linter.unusedSimpArgs false
open Go.RowKit
/-- the literal's boxes: the layer at nl, what is inside at ni, what is outside at no, the reply at nr -/
structure BoxW (nl ni no nr b o : Nat) (k : List UInt8) (v : Value) (w : World) : Prop where
  l0 : w.cell? ⟨nl, 0, none⟩ = some (.pointer (some ⟨b, o, none⟩))
  n0 : w.cell? ⟨b, o, none⟩ = some (.string ⟨k.toArray⟩)
  i0 : w.cell? ⟨ni, 0, none⟩ = some v
  o0 : (w.cell? ⟨no, 0, none⟩).isSome = true
  oz : w.frozen? ⟨no, 0, none⟩ = false
  r : ∀ o, o < 5 → (w.cell? ⟨nr, o, none⟩).isSome = true
  z : ∀ o, o < 5 → w.frozen? ⟨nr, o, none⟩ = false
theorem some_lt {w : World} {n o : Nat} (h : (w.cell? ⟨n, o, none⟩).isSome = true) : n < w.heap.size := by
  obtain ⟨v, hv⟩ := Option.isSome_iff_exists.1 h
  exact World.block_lt_of_cell? w _ hv
theorem BoxW.below {nl ni no nr b o : Nat} {k : List UInt8} {v : Value} {w w' : World} (h : BoxW nl ni no nr b o k v w) (hb : Below w.heap.size w w') : BoxW nl ni no nr b o k v w' := by
  have hr := some_lt (h.r 0 (by decide))
  have ho := some_lt h.o0
  exact ⟨(hb.cell (p := ⟨nl, 0, none⟩) (World.block_lt_of_cell? w _ h.l0)).trans h.l0, (hb.cell (p := ⟨b, o, none⟩) (World.block_lt_of_cell? w _ h.n0)).trans h.n0, (hb.cell (p := ⟨ni, 0, none⟩) (World.block_lt_of_cell? w _ h.i0)).trans h.i0,
    by rw [hb.cell (p := ⟨no, 0, none⟩) ho]; exact h.o0, (hb.frozen (p := ⟨no, 0, none⟩) ho).trans h.oz, fun o ho => by rw [hb.cell (p := ⟨nr, o, none⟩) hr]; exact h.r o ho, fun o ho => (hb.frozen (p := ⟨nr, o, none⟩) hr).trans (h.z o ho)⟩
def putW (w : World) (no nr : Nat) (v : Value) (want had : Int) : World := (((((w.setCell ⟨no, 0, none⟩ v).setCell ⟨nr, 0, none⟩ (.int .i64 1)).setCell ⟨nr, 1, none⟩ (.int .i64 0)).setCell ⟨nr, 2, none⟩ (.string ⟨#[]⟩)).setCell ⟨nr, 3, none⟩ (.int .i64 want)).setCell ⟨nr, 4, none⟩ (.int .i64 had)
theorem catchW_idle (a1 a2 a3 a4 : Value) (w : World) :
    CallsD Tryz.prog 167 #[a1, a2, a3, a4] .returning w fun e u' w' => e = .returned (.tuple #[]) ∧ u' = .returning ∧ w' = w := by
  refine callsD_of_wpS Tryz.func167 rfl fun c₀ cs hu => ?_
  apply wpS_seq
  apply wpS_region
  simp [wpOpsS, go_sem, recoverD, hu, Tryz.ntmps167, Exit.thenS]
  refine wpS_cond (t := false) (by simp [Act.eval, Array.replicate]) ?_
  simp only [Bool.false_eq_true, if_false]
  refine wpS_of_wp (wp_skip ?_)
  cases c₀
  simp_all [bodyPostS, results, Tryz.results167]
set_option maxRecDepth 100000 in
set_option maxHeartbeats 1600000 in
theorem catchW (nl ni no nr b o : Nat) (k : List UInt8) (T : TypeId) (V : Value) (f : Int) (pv : Value) (w : World) (hf : FaceAt w T V f) (hb : BoxW nl ni no nr b o k (.iface T V) w) (hne : no ≠ nr) :
    CallsD Tryz.prog 167 #[.pointer (some ⟨nl, 0, none⟩), .pointer (some ⟨ni, 0, none⟩), .pointer (some ⟨no, 0, none⟩), .pointer (some ⟨nr, 0, none⟩)] (.panicking ({ v := .iface Tryz.prog.rt.typeAssertionError pv, recovered := false } :: [])) w fun e u' w' =>
      e = .returned (.tuple #[]) ∧ u' = .panicking ({ v := .iface Tryz.prog.rt.typeAssertionError pv, recovered := true } :: []) ∧ ∃ w1, Below w.heap.size w w1 ∧ w' = putW w1 no nr (.iface T V) (needI (layI k)) f := by
  have HX := Lib.hid hb
  have x0 := hb.l0
  have n0 := hb.n0
  have p0 := hb.i0
  have HW := Lib.hid (fun W => implLayerNeeds_any ⟨k.toArray⟩ W)
  simp only [List.toList_toArray, ndV] at HW
  obtain ⟨F, rcv, hF, hfm, hfn, HF0⟩ := hf
  have HF := Lib.hid HF0
  generalize needI (layI k) = want at *
  generalize decide (0 ≤ layI k) = q at *
  clear HF0 hb
  rcases hF with rfl | rfl
  all_goals
    refine callsD_of_wpS Tryz.func167 rfl fun c₀ cs hu => ?_
    apply wpS_seq
    apply wpS_region
    simp [wpOpsS, go_sem, recoverD, hu, Tryz.ntmps167, Exit.thenS]
    refine wpS_cond (t := true) (by simp [Act.eval, Array.replicate]) ?_
    simp only [if_true]
    refine wpS_of_wp ?_
    go_wp2_with (first | (go_at_call 147; (with_reducible refine (HW.out _).mono ?_); rintro e w' ⟨rfl, rfl⟩))
    go_region_with (first
      | ((with_reducible refine (HF.out _ (by repeat (first | with_reducible exact Below.refl _ _ | with_reducible refine bel_dr ?_))).mono ?_); rintro e w1 ⟨rfl, hb1⟩; have HB1 := Lib.hid (show Below w.heap.size w w1 from ⟨hb1.os, hb1.tape, hb1.output, hb1.size, hb1.block⟩); clear hb1; have KR := Lib.hid (HX.out.below HB1.out); have k0 := KR.out.i0; have yo := KR.out.oz; obtain ⟨eo, fo⟩ := Option.isSome_iff_exists.1 KR.out.o0; have y0 := KR.out.z 0 (by decide); have y1 := KR.out.z 1 (by decide); have y2 := KR.out.z 2 (by decide); have y3 := KR.out.z 3 (by decide); have y4 := KR.out.z 4 (by decide); obtain ⟨e0, f0⟩ := Option.isSome_iff_exists.1 (KR.out.r 0 (by decide)); obtain ⟨e1, f1⟩ := Option.isSome_iff_exists.1 (KR.out.r 1 (by decide)); obtain ⟨e2, f2⟩ := Option.isSome_iff_exists.1 (KR.out.r 2 (by decide)); obtain ⟨e3, f3⟩ := Option.isSome_iff_exists.1 (KR.out.r 3 (by decide)); obtain ⟨e4, f4⟩ := Option.isSome_iff_exists.1 (KR.out.r 4 (by decide))))
    all_goals
      refine ⟨rfl, _, rfl, .tuple #[], ?_, rfl, rfl, w1, HB1.out, rfl⟩
      simp [results, Tryz.results167, go_sem]
end Go.Proofs.YtlkpinlkbikokabGreat
/- wrapIn: what it answers. -/
namespace Go.Proofs.YtlkpinlkbikokabGreat
set_option linter.unusedVariables false
set_option linter.unusedSimpArgs false
open Go.RowKit
theorem bx_dr {w : World} {b : Nat} {cs : List Value} (h : Bx w b cs) : Bx w.drew b cs := ⟨h.lt, h.cell, h.froz⟩
/-- a region of a function with defers, which does not panic -/
def OnlyN (K : Act → World → Prop) : Exit → Act → World → Prop
  | .normal, a, w => K a w
  | _, _, _ => False
theorem wp_only {P : Program} {c : Code} {Q : Exit → Act → World → Prop} {a : Act} {w : World} (h : c.wp P (OnlyN (Q .normal)) a w) : c.wp P Q a w :=
  wp_mono h (fun e a w hh => by cases e <;> first | exact hh | exact hh.elim)
/-- what wrapIn answers: the wrapped part, or what came in -/
def WrapRes (b o i : Nat) (v : Value) (f : Int) (w : World) (e : Ending) (w' : World) : Prop :=
  Below w.heap.size w w' ∧ ((offersF f (needN i) = true ∧ e = .returned (.tuple #[wrapV b o v i, vReply ⟨0, giveN i, [], 0, 0⟩])) ∨ (offersF f (needN i) = false ∧ e = .returned (.tuple #[v, vReply ⟨1, 0, [], needN i, f⟩])))
set_option maxRecDepth 100000 in
set_option maxHeartbeats 1600000 in
theorem wrapIn_ok (b o i : Nat) (hi : i < 9) (T : TypeId) (V : Value) (f : Int) (w : World) (h : w.cell? ⟨b, o, none⟩ = some (.string ⟨(layN i).toArray⟩)) (ho : offersF f (needN i) = true)
    (hA : ∀ W, Below w.heap.size w W → Calls Tryz.prog 168 #[.iface T V, .pointer (some ⟨b, o, none⟩)] W fun e w' => e = .returned (wrapV b o (.iface T V) i) ∧ Below W.heap.size W w') :
    Calls Tryz.prog 149 #[.iface T V, .pointer (some ⟨b, o, none⟩)] w fun e w' => WrapRes b o i (.iface T V) f w e w' := by
  have hl0 := World.block_lt_of_cell? w _ h
  obtain ⟨T', V', hv, hF, _⟩ := iface_wrap (T := T) (V := V) i hi h
  unfold WrapRes
  rw [hv] at hA ⊢
  obtain ⟨F, rcv, hFF, hfm, hfn, hFC⟩ := hF
  have HF := Lib.hid hFC
  have HA := Lib.hid hA
  have HO := Lib.hid ho
  generalize giveN i = g at *
  clear h hA ho hv hFC
  have hmf : ∀ (fn : Fn) (first cap : Array Value) (w : World), (Instr.makeFunc fn first cap).run Tryz.prog w = .ok (.func fn first cap) w := fun _ _ _ _ => rfl
  have BX := Lib.hid (bx_start3 (w.alloc (.cells #[.iface T V] 166)) [.pointer (some ⟨b, o, none⟩)] [.nilIface] [.int .i64 0, .int .i64 0, .string ⟨#[]⟩, .int .i64 0, .int .i64 0] 171 166 105)
  have HB3 := Lib.hid (belS (part_box w (.cells #[.iface T V] 166)) BX.out.2.2.2)
  rw [show (w.alloc (.cells #[.iface T V] 166)).heap.size = w.heap.size + 1 by simp] at BX
  rcases hFF with rfl | rfl
  all_goals
    go_enter_defers Tryz.func149, Tryz.ntmps149
    go_wp2_with fail
    refine (HA.out _ HB3.out).mono ?_
    rintro e w1 ⟨rfl, hb⟩
    have HB1 := Lib.hid (belS HB3.out hb)
    have BO := Lib.hid (BX.out.2.1.below hb)
    have BR := Lib.hid (BX.out.2.2.1.below hb)
    clear hb HA
    have c0 := BO.out.cell 0 (by simp)
    simp only [List.getElem_cons_zero, List.getElem_cons_succ] at c0
    have z0 := BO.out.froz 0 (by simp)
    go_wp2_with fail
    have BO2 := Lib.hid (bx_dr (BO.out.set 0 (by simp) (.iface T' V')))
    have BR2 := Lib.hid (bx_dr (BR.out.other (c := w.heap.size + 1 + 1) (by omega) 0 (.iface T' V')))
    have HB2 := Lib.hid (bel_dr (HB1.out.setCell (p := ⟨w.heap.size + 1 + 1, 0, none⟩) (by simp; omega) (.iface T' V')))
    simp only [List.set_cons_zero] at BO2
    clear c0 z0
    have c0 := BO2.out.cell 0 (by simp)
    simp only [List.getElem_cons_zero, List.getElem_cons_succ] at c0
    have z0 := BO2.out.froz 0 (by simp)
    have r0 := BR2.out.cell 0 (by simp)
    have r1 := BR2.out.cell 1 (by simp)
    have r2 := BR2.out.cell 2 (by simp)
    have r3 := BR2.out.cell 3 (by simp)
    have r4 := BR2.out.cell 4 (by simp)
    simp only [List.getElem_cons_zero, List.getElem_cons_succ] at r0 r1 r2 r3 r4
    have y0 := BR2.out.froz 0 (by simp)
    have y1 := BR2.out.froz 1 (by simp)
    have y2 := BR2.out.froz 2 (by simp)
    have y3 := BR2.out.froz 3 (by simp)
    have y4 := BR2.out.froz 4 (by simp)
    refine wp_only ?_
    go_region_with (first
      | ((with_reducible refine (HF.out _ (by repeat (first | with_reducible exact HB1.out | refine bel_dr ?_ | refine Below.setCell ?_ (by simp; try omega) _))).mono ?_); rintro e w2 ⟨rfl, hb2⟩; have HB3 := Lib.hid (show Below w.heap.size w w2 from by first | exact belS HB2.out hb2 | exact belS (HB2.out.setCell (p := ⟨w.heap.size + 1 + 1, 0, none⟩) (by simp; omega) (.iface T' V')) hb2); have BO3 := Lib.hid (show Bx w2 (w.heap.size + 1 + 1) [.iface T' V'] from by first | exact BO2.out.below hb2 | exact (BO2.out.set 0 (by simp) (.iface T' V')).below hb2); have BR3 := Lib.hid (show Bx w2 (w.heap.size + 1 + 1 + 1) [.int .i64 0, .int .i64 0, .string ⟨#[]⟩, .int .i64 0, .int .i64 0] from by first | exact BR2.out.below hb2 | exact (BR2.out.other (c := w.heap.size + 1 + 1) (by omega) 0 (.iface T' V')).below hb2); have c3 := BO3.out.cell 0 (by simp); have z3 := BO3.out.froz 0 (by simp); have r3 := BR3.out.cell 0 (by simp); have r4 := BR3.out.cell 1 (by simp); have r5 := BR3.out.cell 2 (by simp); have r6 := BR3.out.cell 3 (by simp); have r7 := BR3.out.cell 4 (by simp); have y5 := BR3.out.froz 0 (by simp); have y6 := BR3.out.froz 1 (by simp); have y7 := BR3.out.froz 2 (by simp); have y8 := BR3.out.froz 3 (by simp); have y9 := BR3.out.froz 4 (by simp); simp only [List.getElem_cons_zero, List.getElem_cons_succ] at c3 r3 r4 r5 r6 r7))
    all_goals unfold OnlyN
    all_goals go_wp2_with fail
    all_goals
      change Leaves _ _ _ _ _ _ _
      refine leaves_cons (f := 167) (args := #[.pointer (some ⟨w.heap.size + 1, 0, none⟩), .pointer (some ⟨w.heap.size, 0, none⟩), .pointer (some ⟨w.heap.size + 1 + 1, 0, none⟩), .pointer (some ⟨w.heap.size + 1 + 1 + 1, 0, none⟩)]) (by simp) (by simp [go_sem]) ?_
      refine (catchW_idle _ _ _ _ _).mono ?_
      rintro e u' w'' ⟨rfl, rfl, rfl⟩
      simp [Leaves, settle, results, Tryz.results149, go_sem, cell_set_at, cell_set_ne, c3, r3, r4, r5, r6, r7]
      refine ⟨?_, Or.inl ⟨HO.out, rfl⟩⟩
      repeat (first | with_reducible exact HB3.out | refine Below.setCell ?_ (by simp; try omega) _)
end Go.Proofs.YtlkpinlkbikokabGreat
/- wrapIn: where the assertion is not met; wrapIn whole; wholePart. -/
namespace Go.Proofs.YtlkpinlkbikokabGreat
set_option linter.unusedVariables false
set_option linter.unusedSimpArgs false
open Go.RowKit
set_option maxRecDepth 100000 in
set_option maxHeartbeats 1600000 in
theorem wrapIn_fail (b o i : Nat) (hi : i < 9) (T : TypeId) (V : Value) (f : Int) (w : World) (h : w.cell? ⟨b, o, none⟩ = some (.string ⟨(layN i).toArray⟩)) (ho : offersF f (needN i) = false) (hF : FaceAt w T V f)
    (hA : ∀ W, Below w.heap.size w W → Calls Tryz.prog 168 #[.iface T V, .pointer (some ⟨b, o, none⟩)] W fun e w' => Panics W e w') :
    Calls Tryz.prog 149 #[.iface T V, .pointer (some ⟨b, o, none⟩)] w fun e w' => WrapRes b o i (.iface T V) f w e w' := by
  have hl0 := World.block_lt_of_cell? w _ h
  simp only at hl0
  unfold WrapRes
  have HX := Lib.hid h
  have HF := Lib.hid hF
  have HA := Lib.hid hA
  have HO := Lib.hid ho
  have HN := Lib.hid (show needI (layI (layN i)) = needN i from by
    rcases (show i = 0 ∨ i = 1 ∨ i = 2 ∨ i = 3 ∨ i = 4 ∨ i = 5 ∨ i = 6 ∨ i = 7 ∨ i = 8 by omega) with rfl | rfl | rfl | rfl | rfl | rfl | rfl | rfl | rfl <;> decide +kernel)
  clear h hA ho hF
  have hmf : ∀ (fn : Fn) (first cap : Array Value) (w : World), (Instr.makeFunc fn first cap).run Tryz.prog w = .ok (.func fn first cap) w := fun _ _ _ _ => rfl
  have BI := Lib.hid (Bx.new w [.iface T V] 166)
  have BX := Lib.hid (bx_start3 (w.alloc (.cells #[.iface T V] 166)) [.pointer (some ⟨b, o, none⟩)] [.nilIface] [.int .i64 0, .int .i64 0, .string ⟨#[]⟩, .int .i64 0, .int .i64 0] 171 166 105)
  have HB3 := Lib.hid (belS (part_box w (.cells #[.iface T V] 166)) BX.out.2.2.2)
  have BI2 := Lib.hid (BI.out.below BX.out.2.2.2)
  rw [show (w.alloc (.cells #[.iface T V] 166)).heap.size = w.heap.size + 1 by simp] at BX
  go_enter_defers Tryz.func149, Tryz.ntmps149
  go_wp2_with fail
  refine (HA.out _ HB3.out).mono ?_
  rintro e w1 ⟨pv, rfl, hb⟩
  have HB1 := Lib.hid (belS HB3.out hb)
  have BI3 := Lib.hid (BI2.out.below hb)
  have BL := Lib.hid (BX.out.1.below hb)
  have BO := Lib.hid (BX.out.2.1.below hb)
  have BR := Lib.hid (BX.out.2.2.1.below hb)
  clear hb HA
  have HBW := Lib.hid (show BoxW (w.heap.size + 1) w.heap.size (w.heap.size + 1 + 1) (w.heap.size + 1 + 1 + 1) b o (layN i) (.iface T V) w1 from
    ⟨BL.out.cell 0 (by simp), (HB1.out.cell (p := ⟨b, o, none⟩) hl0).trans HX.out, BI3.out.cell 0 (by simp), by rw [BO.out.cell 0 (by simp)]; rfl, BO.out.froz 0 (by simp),
      fun j hj => by rw [BR.out.cell j (by simpa using hj)]; rfl, fun j hj => BR.out.froz j (by simpa using hj)⟩)
  clear BI BI2 BI3 BL BO BR BX HX
  refine leaves_cons (f := 167) (args := #[.pointer (some ⟨w.heap.size + 1, 0, none⟩), .pointer (some ⟨w.heap.size, 0, none⟩), .pointer (some ⟨w.heap.size + 1 + 1, 0, none⟩), .pointer (some ⟨w.heap.size + 1 + 1 + 1, 0, none⟩)]) (by simp) (by simp [go_sem]) ?_
  refine (catchW _ _ _ _ b o (layN i) T V f pv _ (HF.out.below HB1.out) HBW.out (by omega)).mono ?_
  rintro e u' w'' ⟨rfl, rfl, w2, hb2, rfl⟩
  have HB2 := Lib.hid (belS HB1.out hb2)
  have KR := Lib.hid (HBW.out.below hb2)
  obtain ⟨eo, fo⟩ := Option.isSome_iff_exists.1 KR.out.o0
  obtain ⟨e0, f0⟩ := Option.isSome_iff_exists.1 (KR.out.r 0 (by decide))
  obtain ⟨e1, f1⟩ := Option.isSome_iff_exists.1 (KR.out.r 1 (by decide))
  obtain ⟨e2, f2⟩ := Option.isSome_iff_exists.1 (KR.out.r 2 (by decide))
  obtain ⟨e3, f3⟩ := Option.isSome_iff_exists.1 (KR.out.r 3 (by decide))
  obtain ⟨e4, f4⟩ := Option.isSome_iff_exists.1 (KR.out.r 4 (by decide))
  rw [HN.out]
  unfold putW vReply
  generalize needN i = want at *
  clear hb2 HBW KR
  simp [Leaves, settle, results, Tryz.results149, go_sem, cell_set_at, cell_set_ne, bx_set_ne, fo, f0, f1, f2, f3, f4]
  refine ⟨?_, HO.out⟩
  repeat (first | with_reducible exact HB2.out | refine Below.setCell ?_ (by simp; try omega) _)
theorem wrapIn_c (b o i : Nat) (hi : i < 9) (v : Value) (f : Int) (w : World) (h : w.cell? ⟨b, o, none⟩ = some (.string ⟨(layN i).toArray⟩)) (hv : IfaceAt w v f) :
    Calls Tryz.prog 149 #[v, .pointer (some ⟨b, o, none⟩)] w fun e w' => WrapRes b o i v f w e w' := by
  obtain ⟨T, V, rfl, hF, hA⟩ := hv
  have hl0 := World.block_lt_of_cell? w _ h
  have hW : ∀ W, Below w.heap.size w W → W.cell? ⟨b, o, none⟩ = some (.string ⟨(layN i).toArray⟩) := fun W hb => (hb.cell (p := ⟨b, o, none⟩) hl0).trans h
  obtain ⟨hf, hr, hk, ht, hbo⟩ := hA
  have h0 : offersF f 0 = true := by
    obtain ⟨F, rfl⟩ := isF_fin hf
    exact (off_bits F).1
  rcases (show i = 0 ∨ i = 1 ∨ i = 2 ∨ i = 3 ∨ i = 4 ∨ i = 5 ∨ i = 6 ∨ i = 7 ∨ i = 8 by omega) with rfl | rfl | rfl | rfl | rfl | rfl | rfl | rfl | rfl
  · exact wrapIn_ok b o 0 (by decide) T V f w h h0 (fun W hb => aw_0 b o T V W (hW W hb))
  · cases hq : offersF f 1 with
    | true => rw [hq] at hr; exact wrapIn_ok b o 1 (by decide) T V f w h hq (fun W hb => aw_1 b o T V W (hW W hb) hr)
    | false => rw [hq] at hr; exact wrapIn_fail b o 1 (by decide) T V f w h hq hF (fun W hb => awp_1 b o T V W (hW W hb) hr)
  · cases hq : offersF f 2 with
    | true => rw [hq] at hk; exact wrapIn_ok b o 2 (by decide) T V f w h hq (fun W hb => aw_2 b o T V W (hW W hb) hk)
    | false => rw [hq] at hk; exact wrapIn_fail b o 2 (by decide) T V f w h hq hF (fun W hb => awp_2 b o T V W (hW W hb) hk)
  · cases hq : offersF f 2 with
    | true => rw [hq] at hk; exact wrapIn_ok b o 3 (by decide) T V f w h hq (fun W hb => aw_3 b o T V W (hW W hb) hk)
    | false => rw [hq] at hk; exact wrapIn_fail b o 3 (by decide) T V f w h hq hF (fun W hb => awp_3 b o T V W (hW W hb) hk)
  · cases hq : offersF f 3 with
    | true => rw [hq] at hbo; exact wrapIn_ok b o 4 (by decide) T V f w h hq (fun W hb => aw_4 b o T V W (hW W hb) hbo)
    | false => rw [hq] at hbo; exact wrapIn_fail b o 4 (by decide) T V f w h hq hF (fun W hb => awp_4 b o T V W (hW W hb) hbo)
  · cases hq : offersF f 2 with
    | true => rw [hq] at hk; exact wrapIn_ok b o 5 (by decide) T V f w h hq (fun W hb => aw_5 b o T V W (hW W hb) hk)
    | false => rw [hq] at hk; exact wrapIn_fail b o 5 (by decide) T V f w h hq hF (fun W hb => awp_5 b o T V W (hW W hb) hk)
  · cases hq : offersF f 1 with
    | true => rw [hq] at hr; exact wrapIn_ok b o 6 (by decide) T V f w h hq (fun W hb => aw_6 b o T V W (hW W hb) hr)
    | false => rw [hq] at hr; exact wrapIn_fail b o 6 (by decide) T V f w h hq hF (fun W hb => awp_6 b o T V W (hW W hb) hr)
  · cases hq : offersF f 1 with
    | true => rw [hq] at hr; exact wrapIn_ok b o 7 (by decide) T V f w h hq (fun W hb => aw_7 b o T V W (hW W hb) hr)
    | false => rw [hq] at hr; exact wrapIn_fail b o 7 (by decide) T V f w h hq hF (fun W hb => awp_7 b o T V W (hW W hb) hr)
  · cases hq : offersF f 4 with
    | true => rw [hq] at ht; exact wrapIn_ok b o 8 (by decide) T V f w h hq (fun W hb => aw_8 b o T V W (hW W hb) ht)
    | false => rw [hq] at ht; exact wrapIn_fail b o 8 (by decide) T V f w h hq hF (fun W hb => awp_8 b o T V W (hW W hb) ht)
end Go.Proofs.YtlkpinlkbikokabGreat
/- wholePart: a valid part with all its adapters, as a value of an interface type. -/
namespace Go.Proofs.YtlkpinlkbikokabGreat
set_option linter.unusedVariables false
set_option linter.unusedSimpArgs false
open Go.RowKit
theorem partB_lay {x : PartD} (h : partB x = true) (k : Nat) (hk : k < x.fLayers.length) : layOk x k = true := by
  cases hq : layOk x k with
  | true => rfl
  | false => rw [partB_bad hk hq] at h; cases h
theorem partB_core {x : PartD} (h : partB x = true) : coreB x.fCore = true := by
  simp only [partB, Bool.and_eq_true] at h; exact h.1.1
theorem partB_len {x : PartD} (h : partB x = true) : x.fLayers.length ≤ 3 := by
  simp only [partB, Bool.and_eq_true, decide_eq_true_iff] at h; exact h.1.2
theorem coreB_kind {d : CoreD} (h : coreB d = true) : ∃ j : Nat, kindI d.fKind = j ∧ j < 8 ∧ kindN j = d.fKind := by
  have h0 : 0 ≤ kindI d.fKind := by
    simp only [coreB, Bool.and_eq_true, decide_eq_true_iff] at h; exact h.1.1.1.1.1
  rcases kindI_bd d.fKind with h1 | h1
  · omega
  · exact h1
theorem faceN_succ (x : PartD) (k : Nat) (hk : k < x.fLayers.length) : faceN x (k + 1) = giveI (layI (x.fLayers[k]).fName) := by
  show giveI (layI (x.fLayers.getD k default).fName) = _
  rw [List.getD_eq_getElem?_getD, List.getElem?_eq_getElem hk]; rfl
/-- the face and the assertions of a valid part with its first layers -/
def Whole (x : PartD) (k : Nat) (w : World) (v : Value) : Prop := IfaceAt w v (faceN x k)
set_option maxRecDepth 100000 in
set_option maxHeartbeats 3200000 in
theorem wholePart_c (b0 : Nat) (cs : List Value) (x : PartD) (w : World) (hx : rPart 0 w cs x) (hb : Bx w b0 cs) (hp : partB x = true) :
    Calls Tryz.prog 150 #[.pointer (some ⟨b0, 0, none⟩)] w fun e w' => ∃ v, e = .returned v ∧ IfaceAt w' v (faceP x) ∧ Below w.heap.size w w' := by
  have HLK := Lib.hid (fun k hk => partB_lay hp k hk)
  have HOK := Lib.hid (fun i h y hy => layOk_of x i h y hy)
  have HFS := Lib.hid (faceN_succ x)
  have HFP := Lib.hid (show faceP x = faceN x x.fLayers.length from rfl)
  obtain ⟨j, hj1, hj2, hj3⟩ := coreB_kind (partB_core hp)
  have H0 := Lib.hid (show faceN x 0 = kfN j by unfold faceN kfI; rw [hj1, if_neg (by omega)]; rfl)
  obtain ⟨xc, ls⟩ := x
  obtain ⟨v3, v5, rfl, h3, h5⟩ := hx
  simp only at h3 h5 hj3 HLK HOK HFS HFP
  obtain ⟨sa, sc, rfl, hl, hcap⟩ := sliceAt_cap h5
  have H5 := Lib.hid h5
  have BX := Lib.hid hb
  have HK := Lib.hid (show w.cell? ⟨b0, 0, none⟩ = some (.string ⟨(kindN j).toArray⟩) by have h := hb.cell 0 (by simp); rw [hj3]; exact h)
  have HPO := Lib.hid (partOf_k j hj2 b0 w HK.out)
  unfold maxLen at hl
  clear h3 h5 hp hj1 hj3 hb
  go_enter Tryz.func150, Tryz.ntmps150
  go_wp2_with fail
  refine HPO.out.mono ?_
  rintro e w1 ⟨rfl, hb⟩
  have HB1 := Lib.hid hb
  have BX1 := Lib.hid (BX.out.below hb)
  have HI := Lib.hid (show IfaceAt w1 (partV b0 j) (faceN ⟨xc, ls⟩ 0) by rw [H0.out]; exact iface_kind j hj2 ((hb.cell (p := ⟨b0, 0, none⟩) BX.out.lt).trans HK.out))
  generalize partV b0 j = pv at *
  clear hb
  have e5 := BX1.out.cell 5 (by simp)
  simp only [List.getElem_cons_zero, List.getElem_cons_succ] at e5
  go_wp2_with fail
  clear e5
  go_loopw [3, 4, 14] (fun u3 _ i wr => ∃ k : Nat, k ≤ ls.length ∧ i = .int .i64 k ∧ Whole ⟨xc, ls⟩ k wr u3 ∧ Below w.heap.size w wr) (fun _ _ i _ => ls.length - (intOf i).toNat)
  case atStart => exact ⟨0, Nat.zero_le _, rfl, HI.out, HB1.out⟩
  case round =>
    obtain ⟨k, hk, rfl, ht, hbr⟩ := hrel
    have HT := Lib.hid ht
    have HBr := Lib.hid hbr
    have BXr := Lib.hid (BX.out.below hbr)
    have HXr := Lib.hid (SliceAt.below H5.out (good_flat cLayer_len) hbr (Nat.le_refl _))
    clear ht hbr
    by_cases hlt : k < ls.length
    · obtain ⟨b, o, cs, rfl, hbw, hat, hd⟩ := sliceAt_cell HXr.out k hlt
      have HO1 := Lib.hid (HLK.out k hlt)
      have HO2 := Lib.hid (HOK.out k hlt _ rfl)
      have HF1 := Lib.hid (HFS.out k hlt)
      have d0 := hd 0 (by decide)
      generalize ls[k] = z at *
      obtain ⟨z0, z1⟩ := z
      simp only [rFlat, cLayer] at hat HO2 HF1
      subst hat
      simp only [List.getElem?_cons_zero, Nat.add_zero] at d0
      have hh := HO1.out
      rw [HO2.out] at hh
      simp only [Bool.and_eq_true, decide_eq_true_iff] at hh
      obtain ⟨⟨hh1, hh2⟩, _⟩ := hh
      obtain ⟨q, hq1, hq2, hq3⟩ : ∃ q : Nat, layI z0 = q ∧ q < 9 ∧ layN q = z0 := by
        rcases layI_bd z0 with h1 | h1
        · omega
        · exact h1
      subst hq3
      have hn : needI (layI (layN q)) = needN q := by rw [hq1]; unfold needI; rw [if_neg (by omega)]; rfl
      have hg : giveI (layI (layN q)) = giveN q := by rw [hq1]; unfold giveI; rw [if_neg (by omega)]; rfl
      have HW := Lib.hid (wrapIn_c b (o + k * 2) q hq2 u3 (faceN ⟨xc, ls⟩ k) wr d0 HT.out)
      have HOF := Lib.hid (show offersF (faceN ⟨xc, ls⟩ k) (needN q) = true by rw [← hn]; exact hh2)
      have HGV := Lib.hid (show faceN ⟨xc, ls⟩ (k + 1) = giveN q by rw [HF1.out, hg])
      have D0 := Lib.hid d0
      have hkc : (k : Int) < (ls.length : Int) := by omega
      have e5 := BXr.out.cell 5 (by simp)
      simp only [List.getElem_cons_zero, List.getElem_cons_succ] at e5
      obtain ⟨T, V, hu, hu2⟩ := HT.out
      have HU := Lib.hid hu
      clear hd HXr hh1 hh2 hq1 hn hg d0 HO1 HO2 HF1 HLK HOK HFS hu hu2
      go_wp2_with fail
      refine HW.out.mono ?_
      rintro e w2 ⟨hb2, hres⟩
      obtain rfl : e = .returned (.tuple #[wrapV b (o + k * 2) u3 q, vReply ⟨0, giveN q, [], 0, 0⟩]) := by
        rcases hres with ⟨_, h⟩ | ⟨h, _⟩
        · exact h
        · rw [HOF.out] at h; cases h
      have HB2 := Lib.hid (belS HBr.out hb2)
      have HWW := Lib.hid (show Whole ⟨xc, ls⟩ (k + 1) w2 (wrapV b (o + k * 2) u3 q) by
        unfold Whole
        rw [HGV.out, HU.out]
        exact iface_wrap q hq2 ((hb2.cell (p := ⟨b, o + k * 2, none⟩) hbw).trans D0.out))
      generalize wrapV b (o + k * 2) u3 q = nv at *
      unfold vReply
      clear hb2 hres e5
      go_wp2_with fail
      exact ⟨⟨k + 1, by omega, by go_num, HWW.out, HB2.out⟩, by simp [intOf]; omega⟩
    · have HR := Lib.hid (show IfaceAt wr u3 (faceP ⟨xc, ls⟩) by rw [HFP.out]; have h := HT.out; rwa [show k = ls.length by omega] at h)
      go_wp2
      go_ret
      exact ⟨u3, rfl, HR.out, HBr.out⟩
end Go.Proofs.YtlkpinlkbikokabGreat
/- Wrapping in plain words; results of a part and a reply. -/
namespace Go.Proofs.YtlkpinlkbikokabGreat
set_option linter.unusedVariables false
set_option linter.unusedSimpArgs false
open Go.RowKit
theorem Bx.put5 {w : World} {b : Nat} {c0 c1 c2 c3 c4 : Value} (h : Bx w b [c0, c1, c2, c3, c4]) (u0 u1 u2 u3 u4 : Value) :
    Bx (((((w.setCell ⟨b, 0, none⟩ u0).setCell ⟨b, 1, none⟩ u1).setCell ⟨b, 2, none⟩ u2).setCell ⟨b, 3, none⟩ u3).setCell ⟨b, 4, none⟩ u4) b [u0, u1, u2, u3, u4] :=
  (((((h.set 0 (by simp) u0).set 1 (by simp) u1).set 2 (by simp) u2).set 3 (by simp) u3).set 4 (by simp) u4)
theorem Bx.put5o {w : World} {b c : Nat} {cs : List Value} (h : Bx w b cs) (hne : b ≠ c) (u0 u1 u2 u3 u4 : Value) :
    Bx (((((w.setCell ⟨c, 0, none⟩ u0).setCell ⟨c, 1, none⟩ u1).setCell ⟨c, 2, none⟩ u2).setCell ⟨c, 3, none⟩ u3).setCell ⟨c, 4, none⟩ u4) b cs :=
  (((((h.other hne 0 u0).other hne 1 u1).other hne 2 u2).other hne 3 u3).other hne 4 u4)
theorem Bx.put6o {w : World} {b c : Nat} {cs : List Value} (h : Bx w b cs) (hne : b ≠ c) (u0 u1 u2 u3 u4 u5 : Value) :
    Bx ((((((w.setCell ⟨c, 0, none⟩ u0).setCell ⟨c, 1, none⟩ u1).setCell ⟨c, 2, none⟩ u2).setCell ⟨c, 3, none⟩ u3).setCell ⟨c, 4, none⟩ u4).setCell ⟨c, 5, none⟩ u5) b cs :=
  ((((((h.other hne 0 u0).other hne 1 u1).other hne 2 u2).other hne 3 u3).other hne 4 u4).other hne 5 u5)
theorem below_put5 {B : Nat} {a w : World} (h : Below B a w) (b : Nat) (hb : B ≤ b) (u0 u1 u2 u3 u4 : Value) :
    Below B a (((((w.setCell ⟨b, 0, none⟩ u0).setCell ⟨b, 1, none⟩ u1).setCell ⟨b, 2, none⟩ u2).setCell ⟨b, 3, none⟩ u3).setCell ⟨b, 4, none⟩ u4) :=
  (((((h.setCell (p := ⟨b, 0, none⟩) hb u0).setCell (p := ⟨b, 1, none⟩) hb u1).setCell (p := ⟨b, 2, none⟩) hb u2).setCell (p := ⟨b, 3, none⟩) hb u3).setCell (p := ⟨b, 4, none⟩) hb u4)
theorem ownsF_put5 {α : Type} {f : α → List Value} {E k : Nat} {w : World} {B : Nat} {v : Value} {l : List α} (h : OwnsF f E k w B v l) (b : Nat) (hb : b < B) (u0 u1 u2 u3 u4 : Value) :
    OwnsF f E k (((((w.setCell ⟨b, 0, none⟩ u0).setCell ⟨b, 1, none⟩ u1).setCell ⟨b, 2, none⟩ u2).setCell ⟨b, 3, none⟩ u3).setCell ⟨b, 4, none⟩ u4) B v l :=
  ownsF_set (ownsF_set (ownsF_set (ownsF_set (ownsF_set h hb) hb) hb) hb) hb
/-- the code of Wrap's reply -/
def wrapI (x : PartD) (s : List UInt8) : Int :=
  if partB x = true ∧ 0 ≤ layI s then (if x.fLayers.length = 3 then 5 else if offersF (faceP x) (needI (layI s)) = true then 0 else 1) else 7
def wrapP (x : PartD) (s : List UInt8) : PartD := if wrapI x s = 0 then ⟨x.fCore, x.fLayers ++ [⟨s, 0⟩]⟩ else x
def wrapR (x : PartD) (s : List UInt8) : ReplyD := ⟨wrapI x s, if wrapI x s = 0 then giveI (layI s) else 0, [], if wrapI x s = 1 then needI (layI s) else 0, if wrapI x s = 1 then faceP x else 0⟩
def GivesOPR (x : PartD) (r : ReplyD) (w : World) (e : Ending) (w' : World) : Prop := ∃ cs, e = .returned (.tuple #[.agg cs.toArray, vReply r]) ∧ oPart w' w.heap.size cs x ∧ Below w.heap.size w w'
def GivesPR (x : PartD) (r : ReplyD) (w : World) (e : Ending) (w' : World) : Prop := ∃ cs, e = .returned (.tuple #[.agg cs.toArray, vReply r]) ∧ rPart w.heap.size w' cs x ∧ Below w.heap.size w w'
theorem givesPR_of {x : PartD} {r : ReplyD} {w w' : World} {e : Ending} (h : GivesOPR x r w e w') (hs : SmallP x) : GivesPR x r w e w' := by
  obtain ⟨cs, h1, h2, h3⟩ := h
  exact ⟨cs, h1, oPart_r h2 hs, h3⟩
theorem wrap_bad {x : PartD} {s : List UInt8} (h : ¬ (partB x = true ∧ 0 ≤ layI s)) : wrapP x s = x ∧ wrapR x s = ⟨7, 0, [], 0, 0⟩ := by
  have hi : wrapI x s = 7 := if_neg h
  unfold wrapP wrapR; rw [hi]; exact ⟨rfl, rfl⟩
theorem wrap_full {x : PartD} {s : List UInt8} (h : partB x = true ∧ 0 ≤ layI s) (h3 : x.fLayers.length = 3) : wrapP x s = x ∧ wrapR x s = ⟨5, 0, [], 0, 0⟩ := by
  have hi : wrapI x s = 5 := by unfold wrapI; rw [if_pos h, if_pos h3]
  unfold wrapP wrapR; rw [hi]; exact ⟨rfl, rfl⟩
theorem wrap_ok {x : PartD} {s : List UInt8} (h : partB x = true ∧ 0 ≤ layI s) (h3 : ¬ x.fLayers.length = 3) (ho : offersF (faceP x) (needI (layI s)) = true) : wrapP x s = ⟨x.fCore, x.fLayers ++ [⟨s, 0⟩]⟩ ∧ wrapR x s = ⟨0, giveI (layI s), [], 0, 0⟩ := by
  have hi : wrapI x s = 0 := by unfold wrapI; rw [if_pos h, if_neg h3, if_pos ho]
  unfold wrapP wrapR; rw [hi]; exact ⟨rfl, rfl⟩
theorem wrap_fail {x : PartD} {s : List UInt8} (h : partB x = true ∧ 0 ≤ layI s) (h3 : ¬ x.fLayers.length = 3) (ho : offersF (faceP x) (needI (layI s)) = false) : wrapP x s = x ∧ wrapR x s = ⟨1, 0, [], needI (layI s), faceP x⟩ := by
  have hi : wrapI x s = 1 := by unfold wrapI; rw [if_pos h, if_neg h3, if_neg (by simp [ho])]
  unfold wrapP wrapR; rw [hi]; exact ⟨rfl, rfl⟩
theorem sumF_le {α : Type} (f : α → Nat) (b : Nat) (l : List α) (h : ∀ a ∈ l, f a ≤ b) : sumF f l ≤ l.length * b := by
  induction l with
  | nil => simp [sumF]
  | cons x r ih =>
    have h1 := ih (fun a ha => h a (List.mem_cons_of_mem _ ha))
    have h2 := h x (List.mem_cons_self ..)
    simp only [sumF, List.length_cons, Nat.add_mul, Nat.one_mul]; omega
theorem layN_len (k : Nat) : (layN k).length ≤ 6 := by unfold layN; split <;> decide
theorem kindN_len (k : Nat) : (kindN k).length ≤ 6 := by unfold kindN; split <;> decide
theorem partB_small {x : PartD} (h : partB x = true) : zPart x ≤ 100 := by
  have hc := partB_core h
  have hl := partB_len h
  obtain ⟨j, _, _, hj⟩ := coreB_kind hc
  have h1 : x.fCore.fKind.length ≤ 6 := by rw [← hj]; exact kindN_len j
  have hcb : cellsB x.fCore.fCells = true := by simp only [coreB, Bool.and_eq_true] at hc; exact hc.1.1.1.1.2
  have h2 := cellsB_len hcb
  have h3 := sumF_le zCell 8 x.fCore.fCells (fun c hc => by have h9 := (cellsB_mem hcb c hc).1; simp only [nameB, Bool.and_eq_true, decide_eq_true_iff] at h9; exact h9.1.1.2)
  have h4 := sumF_le zLayer 6 x.fLayers (fun y hy => by
    obtain ⟨i, hi, rfl⟩ := List.mem_iff_getElem.1 hy
    have h5 := partB_lay h i hi
    rw [layOk_of x i hi _ rfl] at h5
    simp only [Bool.and_eq_true, decide_eq_true_iff] at h5
    rcases layI_bd (x.fLayers[i]).fName with h6 | ⟨q, _, _, h7⟩
    · omega
    · show (x.fLayers[i]).fName.length ≤ 6
      rw [← h7]; exact layN_len q)
  have h5 : x.fCore.fCells.length * 8 ≤ 32 := by omega
  unfold zPart zCore
  omega
theorem wrapP_small {x : PartD} (hs : SmallP x) (s : List UInt8) : SmallP (wrapP x s) := by
  by_cases h : wrapI x s = 0
  · have h1 : partB x = true ∧ 0 ≤ layI s := by
      by_cases h1 : partB x = true ∧ 0 ≤ layI s
      · exact h1
      · rw [wrapI, if_neg h1] at h; cases h
    have h2 := partB_small h1.1
    have h3 : s.length ≤ 6 := by
      rcases layI_bd s with h6 | ⟨q, _, _, h7⟩
      · omega
      · rw [← h7]; exact layN_len q
    have h4 : ∀ (a : List LayerD), sumF zLayer (a ++ [⟨s, 0⟩]) = sumF zLayer a + s.length := by
      intro a
      induction a with
      | nil => simp [sumF, zLayer]
      | cons y r ih => simp only [List.cons_append, sumF, ih]; omega
    unfold wrapP
    rw [if_pos h]
    refine smallP_of ?_
    unfold zPart zCore at h2 ⊢
    simp only [h4, List.length_append, List.length_cons, List.length_nil]
    omega
  · unfold wrapP; rw [if_neg h]; exact hs
theorem append_lay {ops : Array Oper} {rest : List Oper} {o : Oper} {a : Act} {Q : Exit → Act → World → Prop} (hgd : o.guard = none) (s x : Operand)
    (ho : o.op = .call { callee := .builtin .append, args := #[s, x], argTypes := #[101, 101] }) (B : Nat) (v : Value) (l : List LayerD) (y : LayerD) (w : World) (blk : Nat)
    (hs : a.eval s = v) (hO : OwnsF cLayer 142 2 w B v l) (hx : a.eval x = .slice (some ⟨blk, 0, none⟩) 1 1) (hc : ∀ j, j < 2 → w.cell? ⟨blk, j, none⟩ = (cLayer y)[j]?) (hl : l.length ≤ 4194304) (hB : B ≤ w.heap.size)
    (h : ∀ v' w', OwnsF cLayer 142 2 w' B v' (l ++ [y]) → w.grownBy w' v.ownBlock → wpList Tryz.prog ops Q rest (a.put o.dst v') w') : wpList Tryz.prog ops Q (o :: rest) a w :=
  append_flat cLayer_len cLayer_one infoLay rfl (by decide) (by decide) Tryz.underlying101 hgd s x ho B v l y w blk hs hO hx hc hl hB h
theorem ownsF_setNe {α : Type} {f : α → List Value} {E k : Nat} {w : World} {B : Nat} {v : Value} {l : List α} {p : Addr} {u : Value} (h : OwnsF f E k w B v l) (hp : v.ownBlock ≠ some p.block) : OwnsF f E k (w.setCell p u) B v l :=
  World.ownsRow.kept h (row := some p.block) ⟨rfl, rfl, rfl, by simp, fun i hi hne => Below.heap_setCell w p u i (fun e => hne (by rw [e]))⟩ (Or.inr hp)
theorem slice_lenW {α : Type} {f : α → List Value} {E k : Nat} {w : World} {B m : Nat} {v : Value} {l : List α} (h : OwnsF f E k w B v l) (hm : l.length = m) : ∃ a c, v = .slice a m c := by
  subst hm; exact slice_of h
theorem lay_not_bool {w : World} {N b : Nat} {v : Value} {l : List LayerD} {x : Bool} (h : OwnsF cLayer 142 2 w N v l) (hl : 0 < l.length) (hb : w.cell? ⟨b, 1, none⟩ = some (.bool x)) : v.ownBlock ≠ some b := by
  rcases h.2 with ⟨rfl, _⟩ | ⟨g, cap, cur, rfl, _⟩
  · simp [Value.ownBlock]
  · intro e
    simp [Value.ownBlock] at e
    subst e
    have h1 := World.ownsRow.cellAt h 1 (by omega)
    rw [hb] at h1
    cases l with
    | nil => simp at hl
    | cons d r => simp [cLayer] at h1
end Go.Proofs.YtlkpinlkbikokabGreat
/- Contracts of chapter 3: NewCore, the program's and the model's. -/
namespace Go.Proofs.YtlkpinlkbikokabGreat
set_option linter.unusedVariables false
open Go.RowKit
def newCoreD (k : List UInt8) : CoreD := if 0 ≤ kindI k then ⟨k, false, false, [], 0⟩ else ⟨[], false, false, [], 0⟩
def GivesNew (k : List UInt8) (w : World) (e : Ending) (w' : World) : Prop := ∃ v, e = .returned (.tuple #[v, .bool (decide (0 ≤ kindI k))]) ∧ OwnsCore w' w.heap.size v (newCoreD k) ∧ Below w.heap.size w w'
theorem owns_zero (w : World) (B : Nat) (k : List UInt8) : OwnsCore w B (.agg #[.string ⟨k.toArray⟩, .bool false, .bool false, .slice none 0 0, .int .i64 0]) ⟨k, false, false, [], 0⟩ :=
  ⟨.slice none 0 0, rfl, rfl, Or.inl ⟨rfl, rfl⟩⟩
theorem newCoreD_yes {k : List UInt8} (h : decide (0 ≤ kindI k) = true) : newCoreD k = ⟨k, false, false, [], 0⟩ := if_pos (of_decide_eq_true h)
theorem newCoreD_no {k : List UInt8} (h : decide (0 ≤ kindI k) = false) : newCoreD k = ⟨[], false, false, [], 0⟩ := if_neg (of_decide_eq_false h)
theorem new_cells {f : FuncId} {args : Array Value} {k : List UInt8} {w : World} (h : Calls Tryz.prog f args w fun e w' => GivesNew k w e w') :
    Calls Tryz.prog f args w fun e w' => ∃ cv, e = .returned (.tuple #[vCore (newCoreD k) cv, .bool (decide (0 ≤ kindI k))]) ∧ OwnsF cCell 194 2 w' w.heap.size cv (newCoreD k).fCells ∧ Below w.heap.size w w' :=
  h.mono fun e w' ⟨v, h1, ⟨cv, h2, h3⟩, h4⟩ => ⟨cv, by rw [h1, h2], h3, h4⟩
set_option maxRecDepth 100000 in
set_option maxHeartbeats 1600000 in
theorem implNewCore_any (s : ByteArray) (w : World) (hs : s.size ≤ 1048576) :
    Calls Tryz.prog 145 #[.string s] w fun e w' => GivesNew s.data.toList w e w' := by
  have HK := Lib.hid (implKind_any s)
  have HC := Lib.hid (fun w0 => copyText_any s w0 (by omega))
  have HY := Lib.hid (@newCoreD_yes s.data.toList)
  have HN := Lib.hid (@newCoreD_no s.data.toList)
  have HS := Lib.hid (show (⟨s.data.toList.toArray⟩ : ByteArray) = s by simp)
  unfold GivesNew
  unfold kfV at HK
  generalize newCoreD s.data.toList = nc at *
  generalize kfI (kindI s.data.toList) = f at *
  generalize decide (0 ≤ kindI s.data.toList) = b at *
  generalize s.data.toList = l at *
  have hl := HS.out
  subst hl
  have HB0 := Lib.hid (show ∀ o, Below w.heap.size w (w.alloc o) from fun o => (Below.refl w.heap.size w).alloc (Nat.le_refl _) o)
  cases b with
  | false =>
    have HD := Lib.hid (HN.out rfl)
    go_enter Tryz.func145, Tryz.ntmps145
    go_wp2_with fail
    refine (HK.out _).mono ?_
    rintro e w1 ⟨rfl, rfl⟩
    go_wp2_with fail
    refine bodyPost_ret (v := .tuple #[.agg #[.string ⟨#[]⟩, .bool false, .bool false, .slice none 0 0, .int .i64 0], .bool false]) (by simp [results, Tryz.results145, go_sem]) rfl ⟨_, rfl, ?_, ?_⟩
    · rw [HD.out]; exact owns_zero _ _ []
    · first | exact HB0.out _ | (repeat (refine Below.setCell ?_ (by simp; try omega) _)
                                 exact HB0.out _)
  | true =>
    have HD := Lib.hid (HY.out rfl)
    go_enter Tryz.func145, Tryz.ntmps145
    go_wp2_with fail
    refine (HK.out _).mono ?_
    rintro e w1 ⟨rfl, rfl⟩
    go_wp2_with fail
    refine (HC.out _).mono ?_
    rintro e w1 ⟨rfl, hb⟩
    obtain ⟨hcc, hff⟩ := bcell hb
    simp at hcc hff
    have hsz := hb.size
    simp at hsz
    have HB := Lib.hid ((HB0.out _).trans (hb.mono (HB0.out _).size))
    clear hb
    go_wp2_with fail
    refine bodyPost_ret (v := .tuple #[.agg #[.string ⟨l.toArray⟩, .bool false, .bool false, .slice none 0 0, .int .i64 0], .bool true]) (by simp [results, Tryz.results145, go_sem, hcc]) rfl ⟨_, rfl, ?_, ?_⟩
    · rw [HD.out]; exact owns_zero _ _ l
    · repeat (refine Below.setCell ?_ (by simp; try omega) _)
      exact HB.out
set_option maxRecDepth 100000 in
set_option maxHeartbeats 1600000 in
theorem specNewCore_any (s : ByteArray) (w : World) (hs : s.size ≤ 1048576) :
    Calls Tryz.prog 122 #[.string s] w fun e w' => GivesNew s.data.toList w e w' := by
  have HK := Lib.hid (specKind_any s)
  have HY := Lib.hid (@newCoreD_yes s.data.toList)
  have HN := Lib.hid (@newCoreD_no s.data.toList)
  have HS := Lib.hid (show (⟨s.data.toList.toArray⟩ : ByteArray) = s by simp)
  unfold GivesNew
  unfold kfV at HK
  generalize newCoreD s.data.toList = nc at *
  generalize kfI (kindI s.data.toList) = f at *
  generalize decide (0 ≤ kindI s.data.toList) = b at *
  generalize s.data.toList = l at *
  have hl := HS.out
  subst hl
  have HB0 := Lib.hid (show ∀ o, Below w.heap.size w (w.alloc o) from fun o => (Below.refl w.heap.size w).alloc (Nat.le_refl _) o)
  cases b with
  | false =>
    have HD := Lib.hid (HN.out rfl)
    go_enter Tryz.func122, Tryz.ntmps122
    go_wp2_with fail
    refine (HK.out _).mono ?_
    rintro e w1 ⟨rfl, hb⟩
    obtain ⟨hcc, hff⟩ := bcell hb
    simp at hcc hff
    have hsz := hb.size
    simp at hsz
    have HB := Lib.hid ((HB0.out _).trans (hb.mono (HB0.out _).size))
    clear hb
    go_wp2_with fail
    refine bodyPost_ret (v := .tuple #[.agg #[.string ⟨#[]⟩, .bool false, .bool false, .slice none 0 0, .int .i64 0], .bool false]) (by simp [results, Tryz.results122, go_sem, hcc]) rfl ⟨_, rfl, ?_, ?_⟩
    · rw [HD.out]; exact owns_zero _ _ []
    · repeat (refine Below.setCell ?_ (by simp; try omega) _)
      exact HB.out
  | true =>
    have HD := Lib.hid (HY.out rfl)
    go_enter Tryz.func122, Tryz.ntmps122
    go_wp2_with fail
    refine (HK.out _).mono ?_
    rintro e w1 ⟨rfl, hb⟩
    obtain ⟨hcc, hff⟩ := bcell hb
    simp at hcc hff
    have hsz := hb.size
    simp at hsz
    have HB := Lib.hid ((HB0.out _).trans (hb.mono (HB0.out _).size))
    clear hb
    go_wp2_with fail
    refine bodyPost_ret (v := .tuple #[.agg #[.string ⟨l.toArray⟩, .bool false, .bool false, .slice none 0 0, .int .i64 0], .bool true]) (by simp [results, Tryz.results122, go_sem, hcc]) rfl ⟨_, rfl, ?_, ?_⟩
    · rw [HD.out]; exact owns_zero _ _ l
    · repeat (refine Below.setCell ?_ (by simp; try omega) _)
      exact HB.out
end Go.Proofs.YtlkpinlkbikokabGreat
/- Contracts of chapter 4: NewPart, both sides; what marks do to a part without rows. -/
namespace Go.Proofs.YtlkpinlkbikokabGreat
set_option linter.unusedVariables false
set_option linter.unusedSimpArgs false
open Go.RowKit
def nmK (l : List UInt8) : List UInt8 := if 0 ≤ kindI l then l else []
theorem newCore_is (l : List UInt8) : newCoreD l = ⟨nmK l, false, false, [], 0⟩ := by unfold newCoreD nmK; split <;> rfl
def vNP (l : List UInt8) (a : Option Addr) (c : Nat) : Value := .agg #[.string ⟨(nmK l).toArray⟩, .bool false, .bool false, .slice a 0 c, .int .i64 0, .slice none 0 0]
/-- the same, with the row of cells told as one's own -/
def GivesNPO (l : List UInt8) (w : World) (e : Ending) (w' : World) : Prop := ∃ a c, e = .returned (.tuple #[vNP l a c, .bool (decide (0 ≤ kindI l))]) ∧ OwnsF cCell 194 2 w' w.heap.size (.slice a 0 c) [] ∧ Below w.heap.size w w'
def GivesNP (l : List UInt8) (w : World) (e : Ending) (w' : World) : Prop := ∃ a c, e = .returned (.tuple #[vNP l a c, .bool (decide (0 ≤ kindI l))]) ∧ Below w.heap.size w w'
theorem flat_none {α : Type} (f : α → List Value) (k : Nat) (w : World) (a : Option Addr) (c : Nat) : FlatAt f k w (.slice a 0 c) ([] : List α) := ⟨a, c, by simp, by simp, Nat.zero_le _, Or.inl rfl⟩
theorem slice_none {α : Type} (R : Nat → World → List Value → α → Prop) (k F : Nat) (w : World) (a : Option Addr) (c : Nat) : SliceAt R k F w (.slice a 0 c) ([] : List α) := ⟨a, c, by simp, Nat.zero_le _, Or.inl rfl⟩
set_option maxRecDepth 100000 in
set_option maxHeartbeats 1600000 in
theorem implNewPart_own (s : ByteArray) (w : World) (hs : s.size ≤ 1048576) :
    Calls Tryz.prog 118 #[.string s] w fun e w' => GivesNPO s.data.toList w e w' := by
  have HC := Lib.hid (fun w0 => new_cells (implNewCore_any s w0 hs))
  have HS := Lib.hid (bx_start1 w [.string ⟨#[]⟩, .bool false, .bool false, .slice none 0 0, .int .i64 0, .slice none 0 0] 103)
  unfold GivesNPO vNP
  simp only [newCore_is, vCore] at HC
  generalize nmK s.data.toList = n at *
  generalize decide (0 ≤ kindI s.data.toList) = b at *
  clear hs
  go_enter Tryz.func118, Tryz.ntmps118
  go_wp2_with fail
  refine (HC.out _).mono ?_
  rintro e w1 ⟨cv, rfl, ho, hb⟩
  obtain ⟨a, c, rfl, _⟩ := flatAt_len (ownsF_at ho (by simp))
  have BN := Lib.hid (HS.out.1.below hb)
  have HB := Lib.hid (belS HS.out.2 hb)
  have OW := Lib.hid (ownsF_alloc (ownsF_put6 (ownsF_base (B' := w.heap.size + 1) ho (by simp)) w.heap.size (by omega) (.string ⟨n.toArray⟩) (.bool false) (.bool false) (.slice a 0 c) (.int .i64 0) (.slice none 0 0)) (.cells #[.string ⟨n.toArray⟩, .bool false, .bool false, .slice a 0 c, .int .i64 0] 100))
  clear ho hb
  have e0 := BN.out.cell 0 (by simp)
  have e1 := BN.out.cell 1 (by simp)
  have e2 := BN.out.cell 2 (by simp)
  have e3 := BN.out.cell 3 (by simp)
  have e4 := BN.out.cell 4 (by simp)
  have e5 := BN.out.cell 5 (by simp)
  have f0 := BN.out.froz 0 (by simp)
  have f1 := BN.out.froz 1 (by simp)
  have f2 := BN.out.froz 2 (by simp)
  have f3 := BN.out.froz 3 (by simp)
  have f4 := BN.out.froz 4 (by simp)
  have f5 := BN.out.froz 5 (by simp)
  have hl := BN.out.lt
  simp only [List.getElem_cons_zero, List.getElem_cons_succ] at e0 e1 e2 e3 e4 e5
  go_wp2_with fail
  clear e0 e1 e2 e3 e4 e5 f0 f1 f2 f3 f4 f5 hl
  have BN := Lib.hid (BN.out.set 0 (by simp) (.string ⟨n.toArray⟩))
  have HB := Lib.hid (HB.out.setCell (p := ⟨w.heap.size, 0, none⟩) (by simp) (.string ⟨n.toArray⟩))
  have BN := Lib.hid (BN.out.set 1 (by simp) (.bool false))
  have HB := Lib.hid (HB.out.setCell (p := ⟨w.heap.size, 1, none⟩) (by simp) (.bool false))
  have BN := Lib.hid (BN.out.set 2 (by simp) (.bool false))
  have HB := Lib.hid (HB.out.setCell (p := ⟨w.heap.size, 2, none⟩) (by simp) (.bool false))
  have BN := Lib.hid (BN.out.set 3 (by simp) (.slice a 0 c))
  have HB := Lib.hid (HB.out.setCell (p := ⟨w.heap.size, 3, none⟩) (by simp) (.slice a 0 c))
  have BN := Lib.hid (BN.out.set 4 (by simp) (.int .i64 0))
  have HB := Lib.hid (HB.out.setCell (p := ⟨w.heap.size, 4, none⟩) (by simp) (.int .i64 0))
  have BN := Lib.hid (BN.out.set 5 (by simp) (.slice none 0 0))
  have HB := Lib.hid (HB.out.setCell (p := ⟨w.heap.size, 5, none⟩) (by simp) (.slice none 0 0))
  have BN := Lib.hid (BN.out.alloc (.cells #[.string ⟨n.toArray⟩, .bool false, .bool false, .slice a 0 c, .int .i64 0] 100))
  have HB := Lib.hid (belS HB.out (bx_box _ (.cells #[.string ⟨n.toArray⟩, .bool false, .bool false, .slice a 0 c, .int .i64 0] 100)))
  simp only [List.set_cons_zero, List.set_cons_succ] at BN
  generalize (((((((w1).setCell ⟨w.heap.size, 0, none⟩ (.string ⟨n.toArray⟩)).setCell ⟨w.heap.size, 1, none⟩ (.bool false)).setCell ⟨w.heap.size, 2, none⟩ (.bool false)).setCell ⟨w.heap.size, 3, none⟩ (.slice a 0 c)).setCell ⟨w.heap.size, 4, none⟩ (.int .i64 0)).setCell ⟨w.heap.size, 5, none⟩ (.slice none 0 0)).alloc (.cells #[.string ⟨n.toArray⟩, .bool false, .bool false, .slice a 0 c, .int .i64 0] 100) = WE at *
  have e0 := BN.out.cell 0 (by simp)
  have e1 := BN.out.cell 1 (by simp)
  have e2 := BN.out.cell 2 (by simp)
  have e3 := BN.out.cell 3 (by simp)
  have e4 := BN.out.cell 4 (by simp)
  have e5 := BN.out.cell 5 (by simp)
  simp only [List.getElem_cons_zero, List.getElem_cons_succ] at e0 e1 e2 e3 e4 e5
  exact bodyPost_ret (v := .tuple #[.agg #[.string ⟨n.toArray⟩, .bool false, .bool false, .slice a 0 c, .int .i64 0, .slice none 0 0], .bool b]) (by simp [results, Tryz.results118, go_sem, e0, e1, e2, e3, e4, e5]) rfl ⟨a, c, rfl, ownsF_base OW.out (by omega), HB.out⟩
theorem implNewPart_any (s : ByteArray) (w : World) (hs : s.size ≤ 1048576) :
    Calls Tryz.prog 118 #[.string s] w fun e w' => GivesNP s.data.toList w e w' :=
  (implNewPart_own s w hs).mono fun e w' h => by
    obtain ⟨a, c, h1, _, h3⟩ := h
    exact ⟨a, c, h1, h3⟩
set_option maxRecDepth 100000 in
set_option maxHeartbeats 1600000 in
theorem specNewPart_own (s : ByteArray) (w : World) (hs : s.size ≤ 1048576) :
    Calls Tryz.prog 104 #[.string s] w fun e w' => GivesNPO s.data.toList w e w' := by
  have HC := Lib.hid (fun w0 => new_cells (specNewCore_any s w0 hs))
  have HS := Lib.hid (bx_start1 w [.string ⟨#[]⟩, .bool false, .bool false, .slice none 0 0, .int .i64 0, .slice none 0 0] 103)
  unfold GivesNPO vNP
  simp only [newCore_is, vCore] at HC
  generalize nmK s.data.toList = n at *
  generalize decide (0 ≤ kindI s.data.toList) = b at *
  clear hs
  go_enter Tryz.func104, Tryz.ntmps104
  go_wp2_with fail
  refine (HC.out _).mono ?_
  rintro e w1 ⟨cv, rfl, ho, hb⟩
  obtain ⟨a, c, rfl, _⟩ := flatAt_len (ownsF_at ho (by simp))
  have BN := Lib.hid (HS.out.1.below hb)
  have HB := Lib.hid (belS HS.out.2 hb)
  have OW := Lib.hid (ownsF_alloc (ownsF_put6 (ownsF_base (B' := w.heap.size + 1) ho (by simp)) w.heap.size (by omega) (.string ⟨n.toArray⟩) (.bool false) (.bool false) (.slice a 0 c) (.int .i64 0) (.slice none 0 0)) (.cells #[.string ⟨n.toArray⟩, .bool false, .bool false, .slice a 0 c, .int .i64 0] 100))
  clear ho hb
  have e0 := BN.out.cell 0 (by simp)
  have e1 := BN.out.cell 1 (by simp)
  have e2 := BN.out.cell 2 (by simp)
  have e3 := BN.out.cell 3 (by simp)
  have e4 := BN.out.cell 4 (by simp)
  have e5 := BN.out.cell 5 (by simp)
  have f0 := BN.out.froz 0 (by simp)
  have f1 := BN.out.froz 1 (by simp)
  have f2 := BN.out.froz 2 (by simp)
  have f3 := BN.out.froz 3 (by simp)
  have f4 := BN.out.froz 4 (by simp)
  have f5 := BN.out.froz 5 (by simp)
  have hl := BN.out.lt
  simp only [List.getElem_cons_zero, List.getElem_cons_succ] at e0 e1 e2 e3 e4 e5
  go_wp2_with fail
  clear e0 e1 e2 e3 e4 e5 f0 f1 f2 f3 f4 f5 hl
  have BN := Lib.hid (BN.out.set 0 (by simp) (.string ⟨n.toArray⟩))
  have HB := Lib.hid (HB.out.setCell (p := ⟨w.heap.size, 0, none⟩) (by simp) (.string ⟨n.toArray⟩))
  have BN := Lib.hid (BN.out.set 1 (by simp) (.bool false))
  have HB := Lib.hid (HB.out.setCell (p := ⟨w.heap.size, 1, none⟩) (by simp) (.bool false))
  have BN := Lib.hid (BN.out.set 2 (by simp) (.bool false))
  have HB := Lib.hid (HB.out.setCell (p := ⟨w.heap.size, 2, none⟩) (by simp) (.bool false))
  have BN := Lib.hid (BN.out.set 3 (by simp) (.slice a 0 c))
  have HB := Lib.hid (HB.out.setCell (p := ⟨w.heap.size, 3, none⟩) (by simp) (.slice a 0 c))
  have BN := Lib.hid (BN.out.set 4 (by simp) (.int .i64 0))
  have HB := Lib.hid (HB.out.setCell (p := ⟨w.heap.size, 4, none⟩) (by simp) (.int .i64 0))
  have BN := Lib.hid (BN.out.set 5 (by simp) (.slice none 0 0))
  have HB := Lib.hid (HB.out.setCell (p := ⟨w.heap.size, 5, none⟩) (by simp) (.slice none 0 0))
  have BN := Lib.hid (BN.out.alloc (.cells #[.string ⟨n.toArray⟩, .bool false, .bool false, .slice a 0 c, .int .i64 0] 100))
  have HB := Lib.hid (belS HB.out (bx_box _ (.cells #[.string ⟨n.toArray⟩, .bool false, .bool false, .slice a 0 c, .int .i64 0] 100)))
  simp only [List.set_cons_zero, List.set_cons_succ] at BN
  generalize (((((((w1).setCell ⟨w.heap.size, 0, none⟩ (.string ⟨n.toArray⟩)).setCell ⟨w.heap.size, 1, none⟩ (.bool false)).setCell ⟨w.heap.size, 2, none⟩ (.bool false)).setCell ⟨w.heap.size, 3, none⟩ (.slice a 0 c)).setCell ⟨w.heap.size, 4, none⟩ (.int .i64 0)).setCell ⟨w.heap.size, 5, none⟩ (.slice none 0 0)).alloc (.cells #[.string ⟨n.toArray⟩, .bool false, .bool false, .slice a 0 c, .int .i64 0] 100) = WE at *
  have e0 := BN.out.cell 0 (by simp)
  have e1 := BN.out.cell 1 (by simp)
  have e2 := BN.out.cell 2 (by simp)
  have e3 := BN.out.cell 3 (by simp)
  have e4 := BN.out.cell 4 (by simp)
  have e5 := BN.out.cell 5 (by simp)
  simp only [List.getElem_cons_zero, List.getElem_cons_succ] at e0 e1 e2 e3 e4 e5
  exact bodyPost_ret (v := .tuple #[.agg #[.string ⟨n.toArray⟩, .bool false, .bool false, .slice a 0 c, .int .i64 0, .slice none 0 0], .bool b]) (by simp [results, Tryz.results104, go_sem, e0, e1, e2, e3, e4, e5]) rfl ⟨a, c, rfl, ownsF_base OW.out (by omega), HB.out⟩
theorem specNewPart_any (s : ByteArray) (w : World) (hs : s.size ≤ 1048576) :
    Calls Tryz.prog 104 #[.string s] w fun e w' => GivesNP s.data.toList w e w' :=
  (specNewPart_own s w hs).mono fun e w' h => by
    obtain ⟨a, c, h1, _, h3⟩ := h
    exact ⟨a, c, h1, h3⟩
theorem np_at (l : List UInt8) (a : Option Addr) (c : Nat) (w : World) : ValAt rPart 0 w (vNP l a c) ⟨⟨nmK l, false, false, [], 0⟩, []⟩ := ⟨_, rfl, _, _, rfl, slice_none _ _ _ _ _ _, slice_none _ _ _ _ _ _⟩
end Go.Proofs.YtlkpinlkbikokabGreat
/- Recipes made, in plain words. -/
namespace Go.Proofs.YtlkpinlkbikokabGreat
set_option linter.unusedVariables false
set_option linter.unusedSimpArgs false
open Go.RowKit
def zeroP : PartD := ⟨⟨[], false, false, [], 0⟩, []⟩
def newP (k : List UInt8) : PartD := ⟨⟨k, false, false, [], 0⟩, []⟩
def makeGo : PartD → List (List UInt8) → PartD × ReplyD
  | p, [] => (p, ⟨0, faceP p, [], 0, 0⟩)
  | p, s :: r => if wrapI p s = 0 then makeGo (wrapP p s) r else (zeroP, wrapR p s)
def makePR : List (List UInt8) → PartD × ReplyD
  | [] => (zeroP, ⟨7, 0, [], 0, 0⟩)
  | k :: r => if 0 ≤ kindI k then makeGo (newP k) r else (zeroP, ⟨7, 0, [], 0, 0⟩)
theorem makeGo_stop {p : PartD} {s : List UInt8} {r : List (List UInt8)} (h : ¬ wrapI p s = 0) : makeGo p (s :: r) = (zeroP, wrapR p s) := if_neg h
theorem makeGo_on {p : PartD} {s : List UInt8} {r : List (List UInt8)} (h : wrapI p s = 0) : makeGo p (s :: r) = makeGo (wrapP p s) r := if_pos h
theorem ownsF_nil {α : Type} (f : α → List Value) (E k : Nat) (w : World) (B : Nat) : OwnsF f E k w B (.slice none 0 0) [] := ⟨by simp, Or.inl ⟨rfl, rfl⟩⟩
theorem wrapP_core (p : PartD) (s : List UInt8) : (wrapP p s).fCore = p.fCore := by unfold wrapP; split <;> rfl
theorem newP_small {k : List UInt8} (h : k.length ≤ 1048576) : SmallP (newP k) := smallP_of (by unfold zPart zCore newP; simp [sumF]; exact h)
theorem zeroP_small : SmallP zeroP := smallP_of (by decide)
theorem makeGo_small (r : List (List UInt8)) : ∀ {p : PartD}, SmallP p → SmallP (makeGo p r).1 := by
  induction r with
  | nil => intro p h; exact h
  | cons s r ih =>
    intro p h
    by_cases hw : wrapI p s = 0
    · rw [makeGo_on hw]; exact ih (wrapP_small h s)
    · rw [makeGo_stop hw]; exact zeroP_small
theorem makePR_small {l : List (List UInt8)} (h : ∀ s ∈ l, s.length ≤ 1048576) : SmallP (makePR l).1 := by
  cases l with
  | nil => exact zeroP_small
  | cons k r =>
    by_cases hk : 0 ≤ kindI k
    · rw [makePR, if_pos hk]; exact makeGo_small r (newP_small (h k (List.mem_cons_self ..)))
    · rw [makePR, if_neg hk]; exact zeroP_small
theorem makeGo_val (r : List (List UInt8)) : ∀ {p : PartD}, (makeGo p r).2.fCode = 0 → (makeGo p r).2.fValue = faceP (makeGo p r).1 := by
  induction r with
  | nil => intro p h; rfl
  | cons s r ih =>
    intro p h
    by_cases hw : wrapI p s = 0
    · rw [makeGo_on hw] at h ⊢; exact ih h
    · rw [makeGo_stop hw] at h; exact absurd h hw
theorem makePR_val {l : List (List UInt8)} : (makePR l).2.fCode = 0 → (makePR l).2.fValue = faceP (makePR l).1 := by
  cases l with
  | nil => intro h; cases h
  | cons k r =>
    by_cases hk : 0 ≤ kindI k
    · rw [makePR, if_pos hk]; exact makeGo_val r
    · rw [makePR, if_neg hk]; intro h; cases h
def recB (l : List (List UInt8)) : Bool := decide ((makePR l).2.fCode = 0)
def recI (l : List (List UInt8)) : Int := if (makePR l).2.fCode = 0 then faceP (makePR l).1 else 0
/-- the state of the loop: the part so far, in a variable of its own -/
structure MkSt (w : World) (b4 : Nat) (p : PartD) (wr : World) : Prop where
  small : SmallP p
  bare : p.fCore.fCells = []
  part : ∃ cs, Bx wr b4 cs ∧ oPart wr (w.heap.size + 1 + 1) cs p
  r2 : Bx wr w.heap.size [.string ⟨#[]⟩, .bool false, .bool false, .slice none 0 0, .int .i64 0, .slice none 0 0]
  r3 : Bx wr (w.heap.size + 1) [.int .i64 0, .int .i64 0, .string ⟨#[]⟩, .int .i64 0, .int .i64 0]
  below : Below w.heap.size w wr
end Go.Proofs.YtlkpinlkbikokabGreat
/- Entries in plain words. -/
namespace Go.Proofs.YtlkpinlkbikokabGreat
set_option linter.unusedVariables false
set_option linter.unusedSimpArgs false
open Go.RowKit
def needOk (nm : List UInt8) (d : NeedD) : Bool := needB d && !(d.fFrom == nm)
def needsB (x : EntryD) : Bool := decide (x.fNeeds.length ≤ 3) && x.fNeeds.all (needOk x.fName)
def headB (x : EntryD) : Bool := nameB x.fName && verB x.fVersion && needsB x
def entryB (x : EntryD) : Bool := headB x && recB x.fRecipe
def entryI (x : EntryD) : Int := if headB x = true then recI x.fRecipe else 0
end Go.Proofs.YtlkpinlkbikokabGreat
/- A variable of two numbers in a block of its own: how it reads behind calls and stores. -/
namespace Go.Proofs.YtlkpinlkbikokabGreat
set_option linter.unusedVariables false
open Go.RowKit
/-- a variable of two numbers -/
structure Var2 (w : World) (b : Nat) (x y : Int) : Prop where
  lt : b < w.heap.size
  c0 : w.cell? ⟨b, 0, none⟩ = some (.int .i64 x)
  c1 : w.cell? ⟨b, 1, none⟩ = some (.int .i64 y)
  f0 : w.frozen? ⟨b, 0, none⟩ = false
  f1 : w.frozen? ⟨b, 1, none⟩ = false
theorem Var2.below {w w' : World} {b : Nat} {x y : Int} (h : Var2 w b x y) (hb : Below w.heap.size w w') : Var2 w' b x y :=
  ⟨Nat.lt_of_lt_of_le h.lt hb.size, (hb.cell (p := ⟨b, 0, none⟩) h.lt).trans h.c0, (hb.cell (p := ⟨b, 1, none⟩) h.lt).trans h.c1, (hb.frozen (p := ⟨b, 0, none⟩) h.lt).trans h.f0, (hb.frozen (p := ⟨b, 1, none⟩) h.lt).trans h.f1⟩
theorem Var2.alloc {w : World} {b : Nat} {x y : Int} (h : Var2 w b x y) (o : Obj) : Var2 (w.alloc o) b x y := h.below (box1 w o)
theorem Var2.new (w : World) (x y : Int) (t : TypeId) : Var2 (w.alloc (.cells #[.int .i64 x, .int .i64 y] t)) w.heap.size x y := ⟨by simp, by simp, by simp, by simp, by simp⟩
theorem bel_to {w w1 X : World} (h : Below w.heap.size w w1) (hb : Below w1.heap.size w1 X) : Below w.heap.size w X := h.trans (hb.mono h.size)
theorem belDr {B : Nat} {a w : World} (h : Below B a w) : Below B a w.drew := ⟨h.os, h.tape, h.output, h.size, h.block⟩
theorem Var2.drw {w : World} {b : Nat} {x y : Int} (h : Var2 w b x y) : Var2 w.drew b x y := ⟨h.lt, h.c0, h.c1, h.f0, h.f1⟩
theorem set_ne {w : World} {b c i j : Nat} {u : Value} (h : b ≠ c ∨ i ≠ j) : (w.setCell ⟨c, j, none⟩ u).cell? ⟨b, i, none⟩ = w.cell? ⟨b, i, none⟩ :=
  World.cell?_setCell_other (a := ⟨c, j, none⟩) (b := ⟨b, i, none⟩) (h := fun e => by injection e with e1 e2; rcases h with h | h <;> omega) ..
theorem set_at {w : World} {b i : Nat} {u x : Value} (h : w.cell? ⟨b, i, none⟩ = some x) : (w.setCell ⟨b, i, none⟩ u).cell? ⟨b, i, none⟩ = some u := World.cell?_setCell_same' w ⟨b, i, none⟩ u (by rw [h]; rfl)
theorem Var2.set {w : World} {b : Nat} {x y : Int} (h : Var2 w b x y) (x' y' : Int) : Var2 ((w.setCell ⟨b, 0, none⟩ (.int .i64 x')).setCell ⟨b, 1, none⟩ (.int .i64 y')) b x' y' := by
  obtain ⟨h1, h2, h3, h4, h5⟩ := h
  refine ⟨by simpa using h1, ?_, ?_, ?_, ?_⟩
  · rw [set_ne (Or.inr (by decide)), set_at h2]
  · exact set_at ((set_ne (Or.inr (by decide))).trans h3)
  · simpa using h4
  · simpa using h5
theorem Var2.other {w : World} {b c : Nat} {x y : Int} (h : Var2 w b x y) (hne : b ≠ c) (x' y' : Int) : Var2 ((w.setCell ⟨c, 0, none⟩ (.int .i64 x')).setCell ⟨c, 1, none⟩ (.int .i64 y')) b x y := by
  obtain ⟨h1, h2, h3, h4, h5⟩ := h
  refine ⟨by simpa using h1, ?_, ?_, ?_, ?_⟩
  · rw [set_ne (Or.inl hne), set_ne (Or.inl hne)]; exact h2
  · rw [set_ne (Or.inl hne), set_ne (Or.inl hne)]; exact h3
  · simpa using h4
  · simpa using h5
theorem Var2.grown {w w' : World} {b : Nat} {x y : Int} (h : Var2 w b x y) {r : Option Nat} (hg : w.grownBy w' r) (hne : some b ≠ r) : Var2 w' b x y :=
  ⟨Nat.lt_of_lt_of_le h.lt hg.size, (hg.cell_far ⟨b, 0, none⟩ h.lt hne).trans h.c0, (hg.cell_far ⟨b, 1, none⟩ h.lt hne).trans h.c1, (hg.frozen_far ⟨b, 0, none⟩ h.lt hne).trans h.f0, (hg.frozen_far ⟨b, 1, none⟩ h.lt hne).trans h.f1⟩
theorem Var2.set0 {w : World} {b : Nat} {x y : Int} (h : Var2 w b x y) (x' : Int) : Var2 (w.setCell ⟨b, 0, none⟩ (.int .i64 x')) b x' y := by
  obtain ⟨h1, h2, h3, h4, h5⟩ := h
  exact ⟨by simpa using h1, set_at h2, (set_ne (Or.inr (by decide))).trans h3, by simpa using h4, by simpa using h5⟩
theorem Var2.set1 {w : World} {b : Nat} {x y : Int} (h : Var2 w b x y) (y' : Int) : Var2 (w.setCell ⟨b, 1, none⟩ (.int .i64 y')) b x y' := by
  obtain ⟨h1, h2, h3, h4, h5⟩ := h
  exact ⟨by simpa using h1, (set_ne (Or.inr (by decide))).trans h2, set_at h3, by simpa using h4, by simpa using h5⟩
theorem Var2.one {w : World} {b c : Nat} {x y : Int} (h : Var2 w b x y) (hne : b ≠ c) (i : Nat) (u : Value) : Var2 (w.setCell ⟨c, i, none⟩ u) b x y := by
  obtain ⟨h1, h2, h3, h4, h5⟩ := h
  exact ⟨by simpa using h1, (set_ne (Or.inl hne)).trans h2, (set_ne (Or.inl hne)).trans h3, by simpa using h4, by simpa using h5⟩
end Go.Proofs.YtlkpinlkbikokabGreat
/- Contracts of chapter 5: Meets, SinceOf, AllowedFace, GainsOf, the program's and the model's. -/
namespace Go.Proofs.YtlkpinlkbikokabGreat
set_option linter.unusedVariables false
open Go.RowKit
set_option maxHeartbeats 1600000 in
theorem implMeets_any (x y : VersionD) (w : World) :
    Calls Tryz.prog 44 #[vVersion x, vVersion y] w fun e w' => e = .returned (.bool (meetsB x y)) ∧ Below w.heap.size w w' := by
  have HR := Lib.hid (meetsB_cmp x y)
  have HC := Lib.hid (implCmp_any x y)
  obtain ⟨a0, a1⟩ := x
  obtain ⟨b0, b1⟩ := y
  unfold vVersion at *
  generalize meetsB ⟨a0, a1⟩ ⟨b0, b1⟩ = res at *
  generalize cmpV ⟨a0, a1⟩ ⟨b0, b1⟩ = r at *
  by_cases h : a0 = b0
  · rw [show (decide (VersionD.fMajor ⟨a0, a1⟩ = VersionD.fMajor ⟨b0, b1⟩)) = true from decide_eq_true h] at HR
    subst h
    by_cases hr : 0 ≤ r
    · rw [decide_eq_true hr] at HR
      go_enter Tryz.func44, Tryz.ntmps44
      go_wp2_with fail
      refine (HC.out _).mono ?_
      rintro e w1 ⟨rfl, hb⟩
      go_wp2_with fail
      go_ret
      exact ⟨ret_bool (by rw [HR.out]; first | rfl | (simp; omega)), bel_to (box2 _ _ _) hb⟩
    · rw [decide_eq_false hr] at HR
      go_enter Tryz.func44, Tryz.ntmps44
      go_wp2_with fail
      refine (HC.out _).mono ?_
      rintro e w1 ⟨rfl, hb⟩
      go_wp2_with fail
      go_ret
      exact ⟨ret_bool (by rw [HR.out]; first | rfl | (simp; omega)), bel_to (box2 _ _ _) hb⟩
  · rw [show (decide (VersionD.fMajor ⟨a0, a1⟩ = VersionD.fMajor ⟨b0, b1⟩)) = false from decide_eq_false h] at HR
    have h2 : (a0 == b0) = false := by simpa using h
    clear h HC
    go_enter Tryz.func44, Tryz.ntmps44
    go_wp2
    go_ret
    exact ⟨ret_bool (by rw [HR.out]; rfl), box2 _ _ _⟩
set_option maxHeartbeats 1600000 in
theorem specMeets_any (x y : VersionD) (w : World) :
    Calls Tryz.prog 39 #[vVersion x, vVersion y] w fun e w' => e = .returned (.bool (meetsB x y)) ∧ Below w.heap.size w w' := by
  obtain ⟨a0, a1⟩ := x
  obtain ⟨b0, b1⟩ := y
  unfold vVersion meetsB
  simp only
  by_cases h : a0 = b0
  · subst h
    rw [decide_eq_true rfl, Bool.true_and]
    by_cases hr : b1 ≤ a1
    · rw [decide_eq_true hr]
      go_enter Tryz.func39, Tryz.ntmps39
      go_wp2
      go_ret
      exact ⟨ret_bool (by simp; try omega), box2 _ _ _⟩
    · rw [decide_eq_false hr]
      go_enter Tryz.func39, Tryz.ntmps39
      go_wp2
      go_ret
      exact ⟨ret_bool (by simp; try omega), box2 _ _ _⟩
  · rw [decide_eq_false h, Bool.false_and]
    have h2 : (a0 == b0) = false := by simpa using h
    clear h
    go_enter Tryz.func39, Tryz.ntmps39
    go_wp2
    go_ret
    exact ⟨rfl, box2 _ _ _⟩
end Go.Proofs.YtlkpinlkbikokabGreat
/- Who serves, in plain words. -/
namespace Go.Proofs.YtlkpinlkbikokabGreat
set_option linter.unusedVariables false
set_option linter.unusedSimpArgs false
open Go.RowKit
def servesB (x : EntryD) (d : NeedD) : Bool := entryB x && needB d && (decide (d.fFrom = []) || d.fFrom == x.fName) && offersF (recI x.fRecipe) d.fFace && meetsB x.fVersion ⟨d.fMajor, d.fMinor⟩
theorem entryI_yes {x : EntryD} (h : entryB x = true) : entryI x = recI x.fRecipe := by
  unfold entryB at h
  simp only [Bool.and_eq_true] at h
  exact if_pos h.1
/-- the first other entry that serves -/
def provL (l : List EntryD) (nm : List UInt8) (d : NeedD) : List UInt8 := match l with | [] => [] | e :: r => if e.fName ≠ nm ∧ servesB e d = true then e.fName else provL r nm d
theorem provL_len (l : List EntryD) (nm : List UInt8) (d : NeedD) (M : Nat) (h : ∀ e ∈ l, e.fName.length ≤ M) : (provL l nm d).length ≤ M := by
  induction l with
  | nil => exact Nat.zero_le _
  | cons e r ih =>
    unfold provL
    split
    · exact h e (List.mem_cons_self ..)
    · exact ih (fun e he => h e (List.mem_cons_of_mem _ he))
end Go.Proofs.YtlkpinlkbikokabGreat
namespace Go.Proofs.YtlkpinlkbikokabGreat
set_option linter.unusedVariables false
set_option linter.unusedSimpArgs false
open Go.RowKit
set_option maxRecDepth 100000 in
set_option maxHeartbeats 3200000 in
theorem implWrap_bad1 (v : Value) (x : PartD) (s : ByteArray) (w : World) (hx : ValAt rPart 0 w v x) (hs : SmallP x) (hk : ∀ c ∈ x.fCore.fCells, c.fKey.length ≤ maxLen) (hz : s.size ≤ 1048576) (hc : ¬ 0 ≤ layI s.data.toList) :
    Calls Tryz.prog 119 #[v, .string s] w fun e w' => GivesOPR (wrapP x s.data.toList) (wrapR x s.data.toList) w e w' := by
  obtain ⟨hwp, hwr⟩ := wrap_bad (x := x) (s := s.data.toList) (fun h => hc h.2)
  rw [hwp, hwr]
  clear hwp hwr
  have HTX := Lib.hid (fun W => copyText_any s W (by omega))
  obtain ⟨_, rfl, hx⟩ := hx
  have HX := Lib.hid (fun W (hb : Below w.heap.size w W) => goodPart.keep hx (kept_below hb (Nat.le_refl _)))
  have HIP := Lib.hid (fun cs W (h : rPart 0 W cs x) => implIsPart_any (.agg cs.toArray) x W ⟨cs, rfl, h⟩ hk)
  have HCP := Lib.hid (fun cs W (h : rPart 0 W cs x) => copyPart_c (.agg cs.toArray) x W ⟨cs, rfl, h⟩ hs)
  have HLN := Lib.hid (fun W => implLayerNeeds_any s W)
  have HSZ := Lib.hid hs.lays
  unfold ndV at HLN
  unfold GivesOPR vReply
  unfold GivesOP at HCP
  rw [show decide (0 ≤ layI s.data.toList) = false from decide_eq_false hc] at HLN
  generalize needI (layI s.data.toList) = nd at *
  obtain ⟨⟨a0, a1, a2, a3, a4⟩, l⟩ := x
  obtain ⟨v3, v5, rfl, h3, h5⟩ := hx
  simp only at h3 h5 HSZ
  obtain ⟨ra, rc, rfl, _⟩ := sliceAt_len h3
  obtain ⟨sa, sc, rfl, hl, hcap⟩ := sliceAt_cap h5
  clear h3 h5 hs hk hcap hl
  have BS := Lib.hid (bx_start3 w [.string ⟨a0.toArray⟩, .bool a1, .bool a2, .slice ra a3.length rc, .int .i64 a4, .slice sa l.length sc] [.string ⟨#[]⟩, .bool false, .bool false, .slice none 0 0, .int .i64 0, .slice none 0 0] [.int .i64 0, .int .i64 0, .string ⟨#[]⟩, .int .i64 0, .int .i64 0] 103 103 105)
  have HR0 := Lib.hid (HX.out _ BS.out.2.2.2)
  clear hc
  go_enter Tryz.func119, Tryz.ntmps119
  go_wp2_with fail
  refine (HCP.out _ _ HR0.out).mono ?_
  rintro e w1 ⟨_, rfl, ⟨u3, u5, rfl, ho3, ho5⟩, hb⟩
  have HPQ := Lib.hid (fun (hsm : SmallP (⟨⟨a0, a1, a2, a3, a4⟩, l⟩ : PartD)) => oPart_r ⟨u3, u5, rfl, ho3, ho5⟩ hsm)
  simp only at ho3 ho5
  obtain ⟨ga, gc, rfl⟩ := slice_of ho3
  obtain ⟨ua, uc, rfl⟩ := slice_of ho5
  have HB1 := Lib.hid ((belS BS.out.2.2.2 hb).alloc (belS BS.out.2.2.2 hb).size (.cells #[.string ⟨a0.toArray⟩, .bool a1, .bool a2, .slice ga a3.length gc, .int .i64 a4, .slice ua l.length uc] 103))
  have B41 := Lib.hid ((BS.out.2.1.below hb).alloc (.cells #[.string ⟨a0.toArray⟩, .bool a1, .bool a2, .slice ga a3.length gc, .int .i64 a4, .slice ua l.length uc] 103))
  have B51 := Lib.hid ((BS.out.2.2.1.below hb).alloc (.cells #[.string ⟨a0.toArray⟩, .bool a1, .bool a2, .slice ga a3.length gc, .int .i64 a4, .slice ua l.length uc] 103))
  have BQ1 := Lib.hid (Bx.new w1 [.string ⟨a0.toArray⟩, .bool a1, .bool a2, .slice ga a3.length gc, .int .i64 a4, .slice ua l.length uc] 103)
  have O3 := Lib.hid (ownsF_alloc (ownsF_base (B' := w.heap.size + 1 + 1 + 1) ho3 (by simp)) (.cells #[.string ⟨a0.toArray⟩, .bool a1, .bool a2, .slice ga a3.length gc, .int .i64 a4, .slice ua l.length uc] 103))
  have O5 := Lib.hid (ownsF_alloc (ownsF_base (B' := w.heap.size + 1 + 1 + 1) ho5 (by simp)) (.cells #[.string ⟨a0.toArray⟩, .bool a1, .bool a2, .slice ga a3.length gc, .int .i64 a4, .slice ua l.length uc] 103))
  have h3s := hb.size
  simp at h3s
  clear hb ho3 ho5 BS
  go_wp2_with fail
  refine (HLN.out _).mono ?_
  rintro e w2 ⟨rfl, rfl⟩
  have q0 := BQ1.out.cell 0 (by simp)
  have q1 := BQ1.out.cell 1 (by simp)
  have q2 := BQ1.out.cell 2 (by simp)
  have q3 := BQ1.out.cell 3 (by simp)
  have q4 := BQ1.out.cell 4 (by simp)
  have q5 := BQ1.out.cell 5 (by simp)
  simp only [List.getElem_cons_zero, List.getElem_cons_succ] at q0 q1 q2 q3 q4 q5
  have r0 := B41.out.cell 0 (by simp)
  have r1 := B41.out.cell 1 (by simp)
  have r2 := B41.out.cell 2 (by simp)
  have r3 := B41.out.cell 3 (by simp)
  have r4 := B41.out.cell 4 (by simp)
  have r5 := B41.out.cell 5 (by simp)
  simp only [List.getElem_cons_zero, List.getElem_cons_succ] at r0 r1 r2 r3 r4 r5
  have z0 := B41.out.froz 0 (by simp)
  have z1 := B41.out.froz 1 (by simp)
  have z2 := B41.out.froz 2 (by simp)
  have z3 := B41.out.froz 3 (by simp)
  have z4 := B41.out.froz 4 (by simp)
  have z5 := B41.out.froz 5 (by simp)
  have s0 := B51.out.cell 0 (by simp)
  have s1 := B51.out.cell 1 (by simp)
  have s2 := B51.out.cell 2 (by simp)
  have s3 := B51.out.cell 3 (by simp)
  have s4 := B51.out.cell 4 (by simp)
  simp only [List.getElem_cons_zero, List.getElem_cons_succ] at s0 s1 s2 s3 s4
  have y0 := B51.out.froz 0 (by simp)
  have y1 := B51.out.froz 1 (by simp)
  have y2 := B51.out.froz 2 (by simp)
  have y3 := B51.out.froz 3 (by simp)
  have y4 := B51.out.froz 4 (by simp)
  go_wp2_with fail
  clear q0 q1 q2 q3 q4 q5
  clear r0 r1 r2 r3 r4 r5 z0 z1 z2 z3 z4 z5 s0 s1 s2 s3 s4 y0 y1 y2 y3 y4
  have E4 := Lib.hid ((B41.out.put6 (.string ⟨a0.toArray⟩) (.bool a1) (.bool a2) (.slice ga a3.length gc) (.int .i64 a4) (.slice ua l.length uc)).put5o (c := w.heap.size + 1 + 1) (by omega) (.int .i64 7) (.int .i64 0) (.string ⟨#[]⟩) (.int .i64 0) (.int .i64 0))
  have E5 := Lib.hid ((B51.out.put6o (c := w.heap.size + 1) (by omega) (.string ⟨a0.toArray⟩) (.bool a1) (.bool a2) (.slice ga a3.length gc) (.int .i64 a4) (.slice ua l.length uc)).put5 (.int .i64 7) (.int .i64 0) (.string ⟨#[]⟩) (.int .i64 0) (.int .i64 0))
  have EB := Lib.hid (below_put5 (below_put6 HB1.out (w.heap.size + 1) (by omega) (.string ⟨a0.toArray⟩) (.bool a1) (.bool a2) (.slice ga a3.length gc) (.int .i64 a4) (.slice ua l.length uc)) (w.heap.size + 1 + 1) (by omega) (.int .i64 7) (.int .i64 0) (.string ⟨#[]⟩) (.int .i64 0) (.int .i64 0))
  have OC := Lib.hid (ownsF_put5 (ownsF_put6 O3.out (w.heap.size + 1) (by omega) (.string ⟨a0.toArray⟩) (.bool a1) (.bool a2) (.slice ga a3.length gc) (.int .i64 a4) (.slice ua l.length uc)) (w.heap.size + 1 + 1) (by omega) (.int .i64 7) (.int .i64 0) (.string ⟨#[]⟩) (.int .i64 0) (.int .i64 0))
  have OL := Lib.hid (ownsF_put5 (ownsF_put6 O5.out (w.heap.size + 1) (by omega) (.string ⟨a0.toArray⟩) (.bool a1) (.bool a2) (.slice ga a3.length gc) (.int .i64 a4) (.slice ua l.length uc)) (w.heap.size + 1 + 1) (by omega) (.int .i64 7) (.int .i64 0) (.string ⟨#[]⟩) (.int .i64 0) (.int .i64 0))
  generalize ((((((((((((w1.alloc (.cells #[.string ⟨a0.toArray⟩, .bool a1, .bool a2, .slice ga a3.length gc, .int .i64 a4, .slice ua l.length uc] 103)).setCell ⟨w.heap.size + 1, 0, none⟩ (.string ⟨a0.toArray⟩)).setCell ⟨w.heap.size + 1, 1, none⟩ (.bool a1)).setCell ⟨w.heap.size + 1, 2, none⟩ (.bool a2)).setCell ⟨w.heap.size + 1, 3, none⟩ (.slice ga a3.length gc)).setCell ⟨w.heap.size + 1, 4, none⟩ (.int .i64 a4)).setCell ⟨w.heap.size + 1, 5, none⟩ (.slice ua l.length uc)).setCell ⟨w.heap.size + 1 + 1, 0, none⟩ (.int .i64 7)).setCell ⟨w.heap.size + 1 + 1, 1, none⟩ (.int .i64 0)).setCell ⟨w.heap.size + 1 + 1, 2, none⟩ (.string ⟨#[]⟩)).setCell ⟨w.heap.size + 1 + 1, 3, none⟩ (.int .i64 0)).setCell ⟨w.heap.size + 1 + 1, 4, none⟩ (.int .i64 0)) = WE at *
  have r0 := E4.out.cell 0 (by simp)
  have r1 := E4.out.cell 1 (by simp)
  have r2 := E4.out.cell 2 (by simp)
  have r3 := E4.out.cell 3 (by simp)
  have r4 := E4.out.cell 4 (by simp)
  have r5 := E4.out.cell 5 (by simp)
  simp only [List.getElem_cons_zero, List.getElem_cons_succ] at r0 r1 r2 r3 r4 r5
  have s0 := E5.out.cell 0 (by simp)
  have s1 := E5.out.cell 1 (by simp)
  have s2 := E5.out.cell 2 (by simp)
  have s3 := E5.out.cell 3 (by simp)
  have s4 := E5.out.cell 4 (by simp)
  simp only [List.getElem_cons_zero, List.getElem_cons_succ] at s0 s1 s2 s3 s4
  exact bodyPost_ret (v := .tuple #[.agg #[.string ⟨a0.toArray⟩, .bool a1, .bool a2, .slice ga a3.length gc, .int .i64 a4, .slice ua l.length uc], .agg #[.int .i64 7, .int .i64 0, .string ⟨#[]⟩, .int .i64 0, .int .i64 0]]) (by simp [results, Tryz.results119, go_sem, r0, r1, r2, r3, r4, r5, s0, s1, s2, s3, s4]) rfl ⟨_, rfl, ⟨_, _, rfl, ownsF_base OC.out (by omega), ownsF_base OL.out (by omega)⟩, EB.out⟩
set_option maxRecDepth 100000 in
set_option maxHeartbeats 3200000 in
theorem implWrap_bad2 (v : Value) (x : PartD) (s : ByteArray) (w : World) (hx : ValAt rPart 0 w v x) (hs : SmallP x) (hk : ∀ c ∈ x.fCore.fCells, c.fKey.length ≤ maxLen) (hz : s.size ≤ 1048576) (hc : 0 ≤ layI s.data.toList) (hp : partB x = false) :
    Calls Tryz.prog 119 #[v, .string s] w fun e w' => GivesOPR (wrapP x s.data.toList) (wrapR x s.data.toList) w e w' := by
  obtain ⟨hwp, hwr⟩ := wrap_bad (x := x) (s := s.data.toList) (fun h => by rw [hp] at h; exact absurd h.1 (by decide))
  rw [hwp, hwr]
  clear hwp hwr
  have HTX := Lib.hid (fun W => copyText_any s W (by omega))
  obtain ⟨_, rfl, hx⟩ := hx
  have HX := Lib.hid (fun W (hb : Below w.heap.size w W) => goodPart.keep hx (kept_below hb (Nat.le_refl _)))
  have HIP := Lib.hid (fun cs W (h : rPart 0 W cs x) => implIsPart_any (.agg cs.toArray) x W ⟨cs, rfl, h⟩ hk)
  have HCP := Lib.hid (fun cs W (h : rPart 0 W cs x) => copyPart_c (.agg cs.toArray) x W ⟨cs, rfl, h⟩ hs)
  have HLN := Lib.hid (fun W => implLayerNeeds_any s W)
  have HSZ := Lib.hid hs.lays
  unfold ndV at HLN
  unfold GivesOPR vReply
  unfold GivesOP at HCP
  rw [show decide (0 ≤ layI s.data.toList) = true from decide_eq_true hc] at HLN
  rw [hp] at HIP
  generalize needI (layI s.data.toList) = nd at *
  have HSP := Lib.hid hs
  obtain ⟨⟨a0, a1, a2, a3, a4⟩, l⟩ := x
  obtain ⟨v3, v5, rfl, h3, h5⟩ := hx
  simp only at h3 h5 HSZ
  obtain ⟨ra, rc, rfl, _⟩ := sliceAt_len h3
  obtain ⟨sa, sc, rfl, hl, hcap⟩ := sliceAt_cap h5
  clear h3 h5 hs hk hcap hl
  have BS := Lib.hid (bx_start3 w [.string ⟨a0.toArray⟩, .bool a1, .bool a2, .slice ra a3.length rc, .int .i64 a4, .slice sa l.length sc] [.string ⟨#[]⟩, .bool false, .bool false, .slice none 0 0, .int .i64 0, .slice none 0 0] [.int .i64 0, .int .i64 0, .string ⟨#[]⟩, .int .i64 0, .int .i64 0] 103 103 105)
  have HR0 := Lib.hid (HX.out _ BS.out.2.2.2)
  clear hc hp
  go_enter Tryz.func119, Tryz.ntmps119
  go_wp2_with fail
  refine (HCP.out _ _ HR0.out).mono ?_
  rintro e w1 ⟨_, rfl, ⟨u3, u5, rfl, ho3, ho5⟩, hb⟩
  simp only at ho3 ho5
  obtain ⟨ga, gc, rfl⟩ := slice_of ho3
  obtain ⟨ua, uc, rfl⟩ := slice_of ho5
  have HB1 := Lib.hid ((belS BS.out.2.2.2 hb).alloc (belS BS.out.2.2.2 hb).size (.cells #[.string ⟨a0.toArray⟩, .bool a1, .bool a2, .slice ga a3.length gc, .int .i64 a4, .slice ua l.length uc] 103))
  have B41 := Lib.hid ((BS.out.2.1.below hb).alloc (.cells #[.string ⟨a0.toArray⟩, .bool a1, .bool a2, .slice ga a3.length gc, .int .i64 a4, .slice ua l.length uc] 103))
  have B51 := Lib.hid ((BS.out.2.2.1.below hb).alloc (.cells #[.string ⟨a0.toArray⟩, .bool a1, .bool a2, .slice ga a3.length gc, .int .i64 a4, .slice ua l.length uc] 103))
  have BQ1 := Lib.hid (Bx.new w1 [.string ⟨a0.toArray⟩, .bool a1, .bool a2, .slice ga a3.length gc, .int .i64 a4, .slice ua l.length uc] 103)
  have O3 := Lib.hid (ownsF_alloc (ownsF_base (B' := w.heap.size + 1 + 1 + 1) ho3 (by simp)) (.cells #[.string ⟨a0.toArray⟩, .bool a1, .bool a2, .slice ga a3.length gc, .int .i64 a4, .slice ua l.length uc] 103))
  have O5 := Lib.hid (ownsF_alloc (ownsF_base (B' := w.heap.size + 1 + 1 + 1) ho5 (by simp)) (.cells #[.string ⟨a0.toArray⟩, .bool a1, .bool a2, .slice ga a3.length gc, .int .i64 a4, .slice ua l.length uc] 103))
  have h3s := hb.size
  simp at h3s
  clear hb ho3 ho5 BS
  go_wp2_with fail
  refine (HLN.out _).mono ?_
  rintro e w2 ⟨rfl, rfl⟩
  have q0 := BQ1.out.cell 0 (by simp)
  have q1 := BQ1.out.cell 1 (by simp)
  have q2 := BQ1.out.cell 2 (by simp)
  have q3 := BQ1.out.cell 3 (by simp)
  have q4 := BQ1.out.cell 4 (by simp)
  have q5 := BQ1.out.cell 5 (by simp)
  simp only [List.getElem_cons_zero, List.getElem_cons_succ] at q0 q1 q2 q3 q4 q5
  have HRQ := Lib.hid (show rPart 0 (w1.alloc (.cells #[.string ⟨a0.toArray⟩, .bool a1, .bool a2, .slice ga a3.length gc, .int .i64 a4, .slice ua l.length uc] 103)) [.string ⟨a0.toArray⟩, .bool a1, .bool a2, .slice ga a3.length gc, .int .i64 a4, .slice ua l.length uc] ⟨⟨a0, a1, a2, a3, a4⟩, l⟩ from goodPart.mono (oPart_r ⟨_, _, rfl, O3.out, O5.out⟩ HSP.out) (Nat.zero_le _))
  go_wp2_with fail
  refine (HIP.out _ _ HRQ.out).mono ?_
  rintro e w2 ⟨rfl, hb⟩
  have HB2 := Lib.hid (belS HB1.out hb)
  have B42 := Lib.hid (B41.out.below hb)
  have B52 := Lib.hid (B51.out.below hb)
  have BQ2 := Lib.hid (BQ1.out.below hb)
  have P3 := Lib.hid (ownsF_below O3.out hb (Nat.le_refl _))
  have P5 := Lib.hid (ownsF_below O5.out hb (Nat.le_refl _))
  have h4s := hb.size
  simp at h4s
  clear hb q0 q1 q2 q3 q4 q5
  have q0 := BQ2.out.cell 0 (by simp)
  have q1 := BQ2.out.cell 1 (by simp)
  have q2 := BQ2.out.cell 2 (by simp)
  have q3 := BQ2.out.cell 3 (by simp)
  have q4 := BQ2.out.cell 4 (by simp)
  have q5 := BQ2.out.cell 5 (by simp)
  simp only [List.getElem_cons_zero, List.getElem_cons_succ] at q0 q1 q2 q3 q4 q5
  have r0 := B42.out.cell 0 (by simp)
  have r1 := B42.out.cell 1 (by simp)
  have r2 := B42.out.cell 2 (by simp)
  have r3 := B42.out.cell 3 (by simp)
  have r4 := B42.out.cell 4 (by simp)
  have r5 := B42.out.cell 5 (by simp)
  simp only [List.getElem_cons_zero, List.getElem_cons_succ] at r0 r1 r2 r3 r4 r5
  have z0 := B42.out.froz 0 (by simp)
  have z1 := B42.out.froz 1 (by simp)
  have z2 := B42.out.froz 2 (by simp)
  have z3 := B42.out.froz 3 (by simp)
  have z4 := B42.out.froz 4 (by simp)
  have z5 := B42.out.froz 5 (by simp)
  have s0 := B52.out.cell 0 (by simp)
  have s1 := B52.out.cell 1 (by simp)
  have s2 := B52.out.cell 2 (by simp)
  have s3 := B52.out.cell 3 (by simp)
  have s4 := B52.out.cell 4 (by simp)
  simp only [List.getElem_cons_zero, List.getElem_cons_succ] at s0 s1 s2 s3 s4
  have y0 := B52.out.froz 0 (by simp)
  have y1 := B52.out.froz 1 (by simp)
  have y2 := B52.out.froz 2 (by simp)
  have y3 := B52.out.froz 3 (by simp)
  have y4 := B52.out.froz 4 (by simp)
  go_wp2_with fail
  clear q0 q1 q2 q3 q4 q5
  clear r0 r1 r2 r3 r4 r5 z0 z1 z2 z3 z4 z5 s0 s1 s2 s3 s4 y0 y1 y2 y3 y4
  have E4 := Lib.hid ((B42.out.put6 (.string ⟨a0.toArray⟩) (.bool a1) (.bool a2) (.slice ga a3.length gc) (.int .i64 a4) (.slice ua l.length uc)).put5o (c := w.heap.size + 1 + 1) (by omega) (.int .i64 7) (.int .i64 0) (.string ⟨#[]⟩) (.int .i64 0) (.int .i64 0))
  have E5 := Lib.hid ((B52.out.put6o (c := w.heap.size + 1) (by omega) (.string ⟨a0.toArray⟩) (.bool a1) (.bool a2) (.slice ga a3.length gc) (.int .i64 a4) (.slice ua l.length uc)).put5 (.int .i64 7) (.int .i64 0) (.string ⟨#[]⟩) (.int .i64 0) (.int .i64 0))
  have EB := Lib.hid (below_put5 (below_put6 HB2.out (w.heap.size + 1) (by omega) (.string ⟨a0.toArray⟩) (.bool a1) (.bool a2) (.slice ga a3.length gc) (.int .i64 a4) (.slice ua l.length uc)) (w.heap.size + 1 + 1) (by omega) (.int .i64 7) (.int .i64 0) (.string ⟨#[]⟩) (.int .i64 0) (.int .i64 0))
  have OC := Lib.hid (ownsF_put5 (ownsF_put6 P3.out (w.heap.size + 1) (by omega) (.string ⟨a0.toArray⟩) (.bool a1) (.bool a2) (.slice ga a3.length gc) (.int .i64 a4) (.slice ua l.length uc)) (w.heap.size + 1 + 1) (by omega) (.int .i64 7) (.int .i64 0) (.string ⟨#[]⟩) (.int .i64 0) (.int .i64 0))
  have OL := Lib.hid (ownsF_put5 (ownsF_put6 P5.out (w.heap.size + 1) (by omega) (.string ⟨a0.toArray⟩) (.bool a1) (.bool a2) (.slice ga a3.length gc) (.int .i64 a4) (.slice ua l.length uc)) (w.heap.size + 1 + 1) (by omega) (.int .i64 7) (.int .i64 0) (.string ⟨#[]⟩) (.int .i64 0) (.int .i64 0))
  generalize (((((((((((w2.setCell ⟨w.heap.size + 1, 0, none⟩ (.string ⟨a0.toArray⟩)).setCell ⟨w.heap.size + 1, 1, none⟩ (.bool a1)).setCell ⟨w.heap.size + 1, 2, none⟩ (.bool a2)).setCell ⟨w.heap.size + 1, 3, none⟩ (.slice ga a3.length gc)).setCell ⟨w.heap.size + 1, 4, none⟩ (.int .i64 a4)).setCell ⟨w.heap.size + 1, 5, none⟩ (.slice ua l.length uc)).setCell ⟨w.heap.size + 1 + 1, 0, none⟩ (.int .i64 7)).setCell ⟨w.heap.size + 1 + 1, 1, none⟩ (.int .i64 0)).setCell ⟨w.heap.size + 1 + 1, 2, none⟩ (.string ⟨#[]⟩)).setCell ⟨w.heap.size + 1 + 1, 3, none⟩ (.int .i64 0)).setCell ⟨w.heap.size + 1 + 1, 4, none⟩ (.int .i64 0)) = WE at *
  have r0 := E4.out.cell 0 (by simp)
  have r1 := E4.out.cell 1 (by simp)
  have r2 := E4.out.cell 2 (by simp)
  have r3 := E4.out.cell 3 (by simp)
  have r4 := E4.out.cell 4 (by simp)
  have r5 := E4.out.cell 5 (by simp)
  simp only [List.getElem_cons_zero, List.getElem_cons_succ] at r0 r1 r2 r3 r4 r5
  have s0 := E5.out.cell 0 (by simp)
  have s1 := E5.out.cell 1 (by simp)
  have s2 := E5.out.cell 2 (by simp)
  have s3 := E5.out.cell 3 (by simp)
  have s4 := E5.out.cell 4 (by simp)
  simp only [List.getElem_cons_zero, List.getElem_cons_succ] at s0 s1 s2 s3 s4
  exact bodyPost_ret (v := .tuple #[.agg #[.string ⟨a0.toArray⟩, .bool a1, .bool a2, .slice ga a3.length gc, .int .i64 a4, .slice ua l.length uc], .agg #[.int .i64 7, .int .i64 0, .string ⟨#[]⟩, .int .i64 0, .int .i64 0]]) (by simp [results, Tryz.results119, go_sem, r0, r1, r2, r3, r4, r5, s0, s1, s2, s3, s4]) rfl ⟨_, rfl, ⟨_, _, rfl, ownsF_base OC.out (by omega), ownsF_base OL.out (by omega)⟩, EB.out⟩
set_option maxRecDepth 100000 in
set_option maxHeartbeats 3200000 in
theorem implWrap_full (v : Value) (x : PartD) (s : ByteArray) (w : World) (hx : ValAt rPart 0 w v x) (hs : SmallP x) (hk : ∀ c ∈ x.fCore.fCells, c.fKey.length ≤ maxLen) (hz : s.size ≤ 1048576) (hc : 0 ≤ layI s.data.toList) (hp : partB x = true) (h3 : x.fLayers.length = 3) :
    Calls Tryz.prog 119 #[v, .string s] w fun e w' => GivesOPR (wrapP x s.data.toList) (wrapR x s.data.toList) w e w' := by
  obtain ⟨hwp, hwr⟩ := wrap_full (x := x) (s := s.data.toList) ⟨hp, hc⟩ h3
  rw [hwp, hwr]
  clear hwp hwr
  have HTX := Lib.hid (fun W => copyText_any s W (by omega))
  have H3 := Lib.hid h3
  clear h3
  obtain ⟨_, rfl, hx⟩ := hx
  have HX := Lib.hid (fun W (hb : Below w.heap.size w W) => goodPart.keep hx (kept_below hb (Nat.le_refl _)))
  have HIP := Lib.hid (fun cs W (h : rPart 0 W cs x) => implIsPart_any (.agg cs.toArray) x W ⟨cs, rfl, h⟩ hk)
  have HCP := Lib.hid (fun cs W (h : rPart 0 W cs x) => copyPart_c (.agg cs.toArray) x W ⟨cs, rfl, h⟩ hs)
  have HLN := Lib.hid (fun W => implLayerNeeds_any s W)
  have HSZ := Lib.hid hs.lays
  unfold ndV at HLN
  unfold GivesOPR vReply
  unfold GivesOP at HCP
  rw [show decide (0 ≤ layI s.data.toList) = true from decide_eq_true hc] at HLN
  rw [hp] at HIP
  generalize needI (layI s.data.toList) = nd at *
  have HSP := Lib.hid hs
  obtain ⟨⟨a0, a1, a2, a3, a4⟩, l⟩ := x
  obtain ⟨v3, v5, rfl, h3, h5⟩ := hx
  simp only at h3 h5 HSZ
  obtain ⟨ra, rc, rfl, _⟩ := sliceAt_len h3
  obtain ⟨sa, sc, rfl, hl, hcap⟩ := sliceAt_cap h5
  clear h3 h5 hs hk hcap hl
  have BS := Lib.hid (bx_start3 w [.string ⟨a0.toArray⟩, .bool a1, .bool a2, .slice ra a3.length rc, .int .i64 a4, .slice sa l.length sc] [.string ⟨#[]⟩, .bool false, .bool false, .slice none 0 0, .int .i64 0, .slice none 0 0] [.int .i64 0, .int .i64 0, .string ⟨#[]⟩, .int .i64 0, .int .i64 0] 103 103 105)
  have HR0 := Lib.hid (HX.out _ BS.out.2.2.2)
  clear hc hp
  go_enter Tryz.func119, Tryz.ntmps119
  go_wp2_with fail
  refine (HCP.out _ _ HR0.out).mono ?_
  rintro e w1 ⟨_, rfl, ⟨u3, u5, rfl, ho3, ho5⟩, hb⟩
  simp only at ho3 ho5
  obtain ⟨ga, gc, rfl⟩ := slice_of ho3
  obtain ⟨ua, uc, rfl⟩ := slice_of ho5
  have HB1 := Lib.hid ((belS BS.out.2.2.2 hb).alloc (belS BS.out.2.2.2 hb).size (.cells #[.string ⟨a0.toArray⟩, .bool a1, .bool a2, .slice ga a3.length gc, .int .i64 a4, .slice ua l.length uc] 103))
  have B41 := Lib.hid ((BS.out.2.1.below hb).alloc (.cells #[.string ⟨a0.toArray⟩, .bool a1, .bool a2, .slice ga a3.length gc, .int .i64 a4, .slice ua l.length uc] 103))
  have B51 := Lib.hid ((BS.out.2.2.1.below hb).alloc (.cells #[.string ⟨a0.toArray⟩, .bool a1, .bool a2, .slice ga a3.length gc, .int .i64 a4, .slice ua l.length uc] 103))
  have BQ1 := Lib.hid (Bx.new w1 [.string ⟨a0.toArray⟩, .bool a1, .bool a2, .slice ga a3.length gc, .int .i64 a4, .slice ua l.length uc] 103)
  have O3 := Lib.hid (ownsF_alloc (ownsF_base (B' := w.heap.size + 1 + 1 + 1) ho3 (by simp)) (.cells #[.string ⟨a0.toArray⟩, .bool a1, .bool a2, .slice ga a3.length gc, .int .i64 a4, .slice ua l.length uc] 103))
  have O5 := Lib.hid (ownsF_alloc (ownsF_base (B' := w.heap.size + 1 + 1 + 1) ho5 (by simp)) (.cells #[.string ⟨a0.toArray⟩, .bool a1, .bool a2, .slice ga a3.length gc, .int .i64 a4, .slice ua l.length uc] 103))
  have h3s := hb.size
  simp at h3s
  clear hb ho3 ho5 BS
  go_wp2_with fail
  refine (HLN.out _).mono ?_
  rintro e w2 ⟨rfl, rfl⟩
  have q0 := BQ1.out.cell 0 (by simp)
  have q1 := BQ1.out.cell 1 (by simp)
  have q2 := BQ1.out.cell 2 (by simp)
  have q3 := BQ1.out.cell 3 (by simp)
  have q4 := BQ1.out.cell 4 (by simp)
  have q5 := BQ1.out.cell 5 (by simp)
  simp only [List.getElem_cons_zero, List.getElem_cons_succ] at q0 q1 q2 q3 q4 q5
  have HRQ := Lib.hid (show rPart 0 (w1.alloc (.cells #[.string ⟨a0.toArray⟩, .bool a1, .bool a2, .slice ga a3.length gc, .int .i64 a4, .slice ua l.length uc] 103)) [.string ⟨a0.toArray⟩, .bool a1, .bool a2, .slice ga a3.length gc, .int .i64 a4, .slice ua l.length uc] ⟨⟨a0, a1, a2, a3, a4⟩, l⟩ from goodPart.mono (oPart_r ⟨_, _, rfl, O3.out, O5.out⟩ HSP.out) (Nat.zero_le _))
  go_wp2_with fail
  refine (HIP.out _ _ HRQ.out).mono ?_
  rintro e w2 ⟨rfl, hb⟩
  have HB2 := Lib.hid (belS HB1.out hb)
  have B42 := Lib.hid (B41.out.below hb)
  have B52 := Lib.hid (B51.out.below hb)
  have BQ2 := Lib.hid (BQ1.out.below hb)
  have P3 := Lib.hid (ownsF_below O3.out hb (Nat.le_refl _))
  have P5 := Lib.hid (ownsF_below O5.out hb (Nat.le_refl _))
  have h4s := hb.size
  simp at h4s
  clear hb q0 q1 q2 q3 q4 q5
  have h3 := H3.out
  try simp only at h3
  have hl3 : ((l.length : Int) == 3) = true := by rw [h3]; rfl
  clear h3
  have q0 := BQ2.out.cell 0 (by simp)
  have q1 := BQ2.out.cell 1 (by simp)
  have q2 := BQ2.out.cell 2 (by simp)
  have q3 := BQ2.out.cell 3 (by simp)
  have q4 := BQ2.out.cell 4 (by simp)
  have q5 := BQ2.out.cell 5 (by simp)
  simp only [List.getElem_cons_zero, List.getElem_cons_succ] at q0 q1 q2 q3 q4 q5
  have r0 := B42.out.cell 0 (by simp)
  have r1 := B42.out.cell 1 (by simp)
  have r2 := B42.out.cell 2 (by simp)
  have r3 := B42.out.cell 3 (by simp)
  have r4 := B42.out.cell 4 (by simp)
  have r5 := B42.out.cell 5 (by simp)
  simp only [List.getElem_cons_zero, List.getElem_cons_succ] at r0 r1 r2 r3 r4 r5
  have z0 := B42.out.froz 0 (by simp)
  have z1 := B42.out.froz 1 (by simp)
  have z2 := B42.out.froz 2 (by simp)
  have z3 := B42.out.froz 3 (by simp)
  have z4 := B42.out.froz 4 (by simp)
  have z5 := B42.out.froz 5 (by simp)
  have s0 := B52.out.cell 0 (by simp)
  have s1 := B52.out.cell 1 (by simp)
  have s2 := B52.out.cell 2 (by simp)
  have s3 := B52.out.cell 3 (by simp)
  have s4 := B52.out.cell 4 (by simp)
  simp only [List.getElem_cons_zero, List.getElem_cons_succ] at s0 s1 s2 s3 s4
  have y0 := B52.out.froz 0 (by simp)
  have y1 := B52.out.froz 1 (by simp)
  have y2 := B52.out.froz 2 (by simp)
  have y3 := B52.out.froz 3 (by simp)
  have y4 := B52.out.froz 4 (by simp)
  go_wp2_with fail
  clear q0 q1 q2 q3 q4 q5
  clear r0 r1 r2 r3 r4 r5 z0 z1 z2 z3 z4 z5 s0 s1 s2 s3 s4 y0 y1 y2 y3 y4
  have E4 := Lib.hid ((B42.out.put6 (.string ⟨a0.toArray⟩) (.bool a1) (.bool a2) (.slice ga a3.length gc) (.int .i64 a4) (.slice ua l.length uc)).put5o (c := w.heap.size + 1 + 1) (by omega) (.int .i64 5) (.int .i64 0) (.string ⟨#[]⟩) (.int .i64 0) (.int .i64 0))
  have E5 := Lib.hid ((B52.out.put6o (c := w.heap.size + 1) (by omega) (.string ⟨a0.toArray⟩) (.bool a1) (.bool a2) (.slice ga a3.length gc) (.int .i64 a4) (.slice ua l.length uc)).put5 (.int .i64 5) (.int .i64 0) (.string ⟨#[]⟩) (.int .i64 0) (.int .i64 0))
  have EB := Lib.hid (below_put5 (below_put6 HB2.out (w.heap.size + 1) (by omega) (.string ⟨a0.toArray⟩) (.bool a1) (.bool a2) (.slice ga a3.length gc) (.int .i64 a4) (.slice ua l.length uc)) (w.heap.size + 1 + 1) (by omega) (.int .i64 5) (.int .i64 0) (.string ⟨#[]⟩) (.int .i64 0) (.int .i64 0))
  have OC := Lib.hid (ownsF_put5 (ownsF_put6 P3.out (w.heap.size + 1) (by omega) (.string ⟨a0.toArray⟩) (.bool a1) (.bool a2) (.slice ga a3.length gc) (.int .i64 a4) (.slice ua l.length uc)) (w.heap.size + 1 + 1) (by omega) (.int .i64 5) (.int .i64 0) (.string ⟨#[]⟩) (.int .i64 0) (.int .i64 0))
  have OL := Lib.hid (ownsF_put5 (ownsF_put6 P5.out (w.heap.size + 1) (by omega) (.string ⟨a0.toArray⟩) (.bool a1) (.bool a2) (.slice ga a3.length gc) (.int .i64 a4) (.slice ua l.length uc)) (w.heap.size + 1 + 1) (by omega) (.int .i64 5) (.int .i64 0) (.string ⟨#[]⟩) (.int .i64 0) (.int .i64 0))
  generalize (((((((((((w2.setCell ⟨w.heap.size + 1, 0, none⟩ (.string ⟨a0.toArray⟩)).setCell ⟨w.heap.size + 1, 1, none⟩ (.bool a1)).setCell ⟨w.heap.size + 1, 2, none⟩ (.bool a2)).setCell ⟨w.heap.size + 1, 3, none⟩ (.slice ga a3.length gc)).setCell ⟨w.heap.size + 1, 4, none⟩ (.int .i64 a4)).setCell ⟨w.heap.size + 1, 5, none⟩ (.slice ua l.length uc)).setCell ⟨w.heap.size + 1 + 1, 0, none⟩ (.int .i64 5)).setCell ⟨w.heap.size + 1 + 1, 1, none⟩ (.int .i64 0)).setCell ⟨w.heap.size + 1 + 1, 2, none⟩ (.string ⟨#[]⟩)).setCell ⟨w.heap.size + 1 + 1, 3, none⟩ (.int .i64 0)).setCell ⟨w.heap.size + 1 + 1, 4, none⟩ (.int .i64 0)) = WE at *
  have r0 := E4.out.cell 0 (by simp)
  have r1 := E4.out.cell 1 (by simp)
  have r2 := E4.out.cell 2 (by simp)
  have r3 := E4.out.cell 3 (by simp)
  have r4 := E4.out.cell 4 (by simp)
  have r5 := E4.out.cell 5 (by simp)
  simp only [List.getElem_cons_zero, List.getElem_cons_succ] at r0 r1 r2 r3 r4 r5
  have s0 := E5.out.cell 0 (by simp)
  have s1 := E5.out.cell 1 (by simp)
  have s2 := E5.out.cell 2 (by simp)
  have s3 := E5.out.cell 3 (by simp)
  have s4 := E5.out.cell 4 (by simp)
  simp only [List.getElem_cons_zero, List.getElem_cons_succ] at s0 s1 s2 s3 s4
  exact bodyPost_ret (v := .tuple #[.agg #[.string ⟨a0.toArray⟩, .bool a1, .bool a2, .slice ga a3.length gc, .int .i64 a4, .slice ua l.length uc], .agg #[.int .i64 5, .int .i64 0, .string ⟨#[]⟩, .int .i64 0, .int .i64 0]]) (by simp [results, Tryz.results119, go_sem, r0, r1, r2, r3, r4, r5, s0, s1, s2, s3, s4]) rfl ⟨_, rfl, ⟨_, _, rfl, ownsF_base OC.out (by omega), ownsF_base OL.out (by omega)⟩, EB.out⟩
set_option maxRecDepth 100000 in
set_option maxHeartbeats 3200000 in
theorem implWrap_fail (v : Value) (x : PartD) (s : ByteArray) (w : World) (hx : ValAt rPart 0 w v x) (hs : SmallP x) (hk : ∀ c ∈ x.fCore.fCells, c.fKey.length ≤ maxLen) (hz : s.size ≤ 1048576) (hc : 0 ≤ layI s.data.toList) (hp : partB x = true) (h3 : ¬ x.fLayers.length = 3) (ho : offersF (faceP x) (needI (layI s.data.toList)) = false) :
    Calls Tryz.prog 119 #[v, .string s] w fun e w' => GivesOPR (wrapP x s.data.toList) (wrapR x s.data.toList) w e w' := by
  obtain ⟨hwp, hwr⟩ := wrap_fail (x := x) (s := s.data.toList) ⟨hp, hc⟩ h3 ho
  rw [hwp, hwr]
  clear hwp hwr
  have HTX := Lib.hid (fun W => copyText_any s W (by omega))
  have H3 := Lib.hid h3
  clear h3
  obtain ⟨q, hq1, hq2, hq3⟩ : ∃ q : Nat, layI s.data.toList = q ∧ q < 9 ∧ layN q = s.data.toList := by
    rcases layI_bd s.data.toList with h1 | h1
    · omega
    · exact h1
  have hn : needI (layI s.data.toList) = needN q := by rw [hq1]; unfold needI; rw [if_neg (by omega)]; rfl
  have hg : giveI (layI s.data.toList) = giveN q := by rw [hq1]; unfold giveI; rw [if_neg (by omega)]; rfl
  rw [hn] at ho
  rw [hn]
  have HWP := Lib.hid (fun b0 cs W (h : rPart 0 W cs x) (hb : Bx W b0 cs) => wholePart_c b0 cs x W h hb hp)
  have HNM := Lib.hid (show Value.string s = .string ⟨(layN q).toArray⟩ by rw [hq3])
  have HNS := Lib.hid hq3
  have HO := Lib.hid ho
  have HQ := Lib.hid hq2
  clear hq1 hn hg ho
  obtain ⟨_, rfl, hx⟩ := hx
  have HX := Lib.hid (fun W (hb : Below w.heap.size w W) => goodPart.keep hx (kept_below hb (Nat.le_refl _)))
  have HIP := Lib.hid (fun cs W (h : rPart 0 W cs x) => implIsPart_any (.agg cs.toArray) x W ⟨cs, rfl, h⟩ hk)
  have HCP := Lib.hid (fun cs W (h : rPart 0 W cs x) => copyPart_c (.agg cs.toArray) x W ⟨cs, rfl, h⟩ hs)
  have HLN := Lib.hid (fun W => implLayerNeeds_any s W)
  have HSZ := Lib.hid hs.lays
  unfold ndV at HLN
  unfold GivesOPR vReply
  unfold GivesOP at HCP
  rw [show decide (0 ≤ layI s.data.toList) = true from decide_eq_true hc] at HLN
  rw [hp] at HIP
  generalize needI (layI s.data.toList) = nd at HLN
  generalize faceP x = fp at *
  have HSP := Lib.hid hs
  obtain ⟨⟨a0, a1, a2, a3, a4⟩, l⟩ := x
  obtain ⟨v3, v5, rfl, h3, h5⟩ := hx
  simp only at h3 h5 HSZ
  obtain ⟨ra, rc, rfl, _⟩ := sliceAt_len h3
  obtain ⟨sa, sc, rfl, hl, hcap⟩ := sliceAt_cap h5
  clear h3 h5 hs hk hcap hl
  have BS := Lib.hid (bx_start3 w [.string ⟨a0.toArray⟩, .bool a1, .bool a2, .slice ra a3.length rc, .int .i64 a4, .slice sa l.length sc] [.string ⟨#[]⟩, .bool false, .bool false, .slice none 0 0, .int .i64 0, .slice none 0 0] [.int .i64 0, .int .i64 0, .string ⟨#[]⟩, .int .i64 0, .int .i64 0] 103 103 105)
  have HR0 := Lib.hid (HX.out _ BS.out.2.2.2)
  clear hc hp
  go_enter Tryz.func119, Tryz.ntmps119
  go_wp2_with fail
  refine (HCP.out _ _ HR0.out).mono ?_
  rintro e w1 ⟨_, rfl, ⟨u3, u5, rfl, ho3, ho5⟩, hb⟩
  simp only at ho3 ho5
  obtain ⟨ga, gc, rfl⟩ := slice_of ho3
  obtain ⟨ua, uc, rfl⟩ := slice_of ho5
  have HB1 := Lib.hid ((belS BS.out.2.2.2 hb).alloc (belS BS.out.2.2.2 hb).size (.cells #[.string ⟨a0.toArray⟩, .bool a1, .bool a2, .slice ga a3.length gc, .int .i64 a4, .slice ua l.length uc] 103))
  have B41 := Lib.hid ((BS.out.2.1.below hb).alloc (.cells #[.string ⟨a0.toArray⟩, .bool a1, .bool a2, .slice ga a3.length gc, .int .i64 a4, .slice ua l.length uc] 103))
  have B51 := Lib.hid ((BS.out.2.2.1.below hb).alloc (.cells #[.string ⟨a0.toArray⟩, .bool a1, .bool a2, .slice ga a3.length gc, .int .i64 a4, .slice ua l.length uc] 103))
  have BQ1 := Lib.hid (Bx.new w1 [.string ⟨a0.toArray⟩, .bool a1, .bool a2, .slice ga a3.length gc, .int .i64 a4, .slice ua l.length uc] 103)
  have O3 := Lib.hid (ownsF_alloc (ownsF_base (B' := w.heap.size + 1 + 1 + 1) ho3 (by simp)) (.cells #[.string ⟨a0.toArray⟩, .bool a1, .bool a2, .slice ga a3.length gc, .int .i64 a4, .slice ua l.length uc] 103))
  have O5 := Lib.hid (ownsF_alloc (ownsF_base (B' := w.heap.size + 1 + 1 + 1) ho5 (by simp)) (.cells #[.string ⟨a0.toArray⟩, .bool a1, .bool a2, .slice ga a3.length gc, .int .i64 a4, .slice ua l.length uc] 103))
  have h3s := hb.size
  simp at h3s
  clear hb ho3 ho5 BS
  go_wp2_with fail
  refine (HLN.out _).mono ?_
  rintro e w2 ⟨rfl, rfl⟩
  have q0 := BQ1.out.cell 0 (by simp)
  have q1 := BQ1.out.cell 1 (by simp)
  have q2 := BQ1.out.cell 2 (by simp)
  have q3 := BQ1.out.cell 3 (by simp)
  have q4 := BQ1.out.cell 4 (by simp)
  have q5 := BQ1.out.cell 5 (by simp)
  simp only [List.getElem_cons_zero, List.getElem_cons_succ] at q0 q1 q2 q3 q4 q5
  have HRQ := Lib.hid (show rPart 0 (w1.alloc (.cells #[.string ⟨a0.toArray⟩, .bool a1, .bool a2, .slice ga a3.length gc, .int .i64 a4, .slice ua l.length uc] 103)) [.string ⟨a0.toArray⟩, .bool a1, .bool a2, .slice ga a3.length gc, .int .i64 a4, .slice ua l.length uc] ⟨⟨a0, a1, a2, a3, a4⟩, l⟩ from goodPart.mono (oPart_r ⟨_, _, rfl, O3.out, O5.out⟩ HSP.out) (Nat.zero_le _))
  go_wp2_with fail
  refine (HIP.out _ _ HRQ.out).mono ?_
  rintro e w2 ⟨rfl, hb⟩
  have HB2 := Lib.hid (belS HB1.out hb)
  have B42 := Lib.hid (B41.out.below hb)
  have B52 := Lib.hid (B51.out.below hb)
  have BQ2 := Lib.hid (BQ1.out.below hb)
  have P3 := Lib.hid (ownsF_below O3.out hb (Nat.le_refl _))
  have P5 := Lib.hid (ownsF_below O5.out hb (Nat.le_refl _))
  have h4s := hb.size
  simp at h4s
  clear hb q0 q1 q2 q3 q4 q5
  have h3 := H3.out
  try simp only at h3
  have hl3 : ¬ (l.length : Int) = 3 := by omega
  clear h3
  have q0 := BQ2.out.cell 0 (by simp)
  have q1 := BQ2.out.cell 1 (by simp)
  have q2 := BQ2.out.cell 2 (by simp)
  have q3 := BQ2.out.cell 3 (by simp)
  have q4 := BQ2.out.cell 4 (by simp)
  have q5 := BQ2.out.cell 5 (by simp)
  simp only [List.getElem_cons_zero, List.getElem_cons_succ] at q0 q1 q2 q3 q4 q5
  go_wp2_with fail
  refine (HTX.out _).mono ?_
  rintro e w3 ⟨rfl, hb⟩
  have HB3 := Lib.hid ((belS HB2.out hb).alloc (belS HB2.out hb).size (.cells #[.string s, .int .i64 0] 142))
  have B43 := Lib.hid ((B42.out.below hb).alloc (.cells #[.string s, .int .i64 0] 142))
  have B53 := Lib.hid ((B52.out.below hb).alloc (.cells #[.string s, .int .i64 0] 142))
  have BQ3 := Lib.hid ((BQ2.out.below hb).alloc (.cells #[.string s, .int .i64 0] 142))
  have BL3 := Lib.hid (Bx.new w3 [.string s, .int .i64 0] 142)
  have R3 := Lib.hid (ownsF_alloc (ownsF_below P3.out hb (Nat.le_refl _)) (.cells #[.string s, .int .i64 0] 142))
  have R5 := Lib.hid (ownsF_alloc (ownsF_below P5.out hb (Nat.le_refl _)) (.cells #[.string s, .int .i64 0] 142))
  have h5s := hb.size
  clear hb q0 q1 q2 q3 q4 q5
  have HRW := Lib.hid (show rPart 0 (w3.alloc (.cells #[.string s, .int .i64 0] 142)) [.string ⟨a0.toArray⟩, .bool a1, .bool a2, .slice ga a3.length gc, .int .i64 a4, .slice ua l.length uc] ⟨⟨a0, a1, a2, a3, a4⟩, l⟩ from goodPart.mono (oPart_r ⟨_, _, rfl, R3.out, R5.out⟩ HSP.out) (Nat.zero_le _))
  go_wp2_with fail
  refine (HWP.out _ _ _ HRW.out BQ3.out).mono ?_
  rintro e w4 ⟨pv, rfl, hpv, hb⟩
  have HB4 := Lib.hid (belS HB3.out hb)
  have B44 := Lib.hid (B43.out.below hb)
  have B54 := Lib.hid (B53.out.below hb)
  have BQ4 := Lib.hid (BQ3.out.below hb)
  have BL4 := Lib.hid (BL3.out.below hb)
  have S3 := Lib.hid (ownsF_below R3.out hb (Nat.le_refl _))
  have S5 := Lib.hid (ownsF_below R5.out hb (Nat.le_refl _))
  have h6s := hb.size
  simp at h6s
  have HPV := Lib.hid hpv
  have l0 := BL4.out.cell 0 (by simp)
  simp only [List.getElem_cons_zero] at l0
  rw [HNM.out] at l0
  have HWI := Lib.hid (wrapIn_c w3.heap.size 0 q HQ.out pv fp w4 l0 HPV.out)
  clear hb hpv l0
  go_wp2_with fail
  refine HWI.out.mono ?_
  rintro e w5 ⟨hb, hres⟩
  obtain rfl : e = .returned (.tuple #[pv, vReply ⟨1, 0, [], needN q, fp⟩]) := by
    rcases hres with ⟨h, _⟩ | ⟨_, h⟩
    · rw [HO.out] at h; cases h
    · exact h
  unfold vReply
  have HB5 := Lib.hid ((belS HB4.out hb).alloc (belS HB4.out hb).size (.cells #[.int .i64 1, .int .i64 0, .string ⟨#[]⟩, .int .i64 (needN q), .int .i64 fp] 105))
  have B45 := Lib.hid ((B44.out.below hb).alloc (.cells #[.int .i64 1, .int .i64 0, .string ⟨#[]⟩, .int .i64 (needN q), .int .i64 fp] 105))
  have B55 := Lib.hid ((B54.out.below hb).alloc (.cells #[.int .i64 1, .int .i64 0, .string ⟨#[]⟩, .int .i64 (needN q), .int .i64 fp] 105))
  have BQ5 := Lib.hid ((BQ4.out.below hb).alloc (.cells #[.int .i64 1, .int .i64 0, .string ⟨#[]⟩, .int .i64 (needN q), .int .i64 fp] 105))
  have BL5 := Lib.hid ((BL4.out.below hb).alloc (.cells #[.int .i64 1, .int .i64 0, .string ⟨#[]⟩, .int .i64 (needN q), .int .i64 fp] 105))
  have BR5 := Lib.hid (Bx.new w5 [.int .i64 1, .int .i64 0, .string ⟨#[]⟩, .int .i64 (needN q), .int .i64 fp] 105)
  have T3 := Lib.hid (ownsF_alloc (ownsF_below S3.out hb (Nat.le_refl _)) (.cells #[.int .i64 1, .int .i64 0, .string ⟨#[]⟩, .int .i64 (needN q), .int .i64 fp] 105))
  have T5 := Lib.hid (ownsF_alloc (ownsF_below S5.out hb (Nat.le_refl _)) (.cells #[.int .i64 1, .int .i64 0, .string ⟨#[]⟩, .int .i64 (needN q), .int .i64 fp] 105))
  have h7s := hb.size
  clear hb hres
  have t0 := BR5.out.cell 0 (by simp)
  have t1 := BR5.out.cell 1 (by simp)
  have t2 := BR5.out.cell 2 (by simp)
  have t3 := BR5.out.cell 3 (by simp)
  have t4 := BR5.out.cell 4 (by simp)
  simp only [List.getElem_cons_zero, List.getElem_cons_succ] at t0 t1 t2 t3 t4
  go_wp2_with fail
  clear t0 t1 t2 t3 t4
  have t0 := BR5.out.cell 0 (by simp)
  have t1 := BR5.out.cell 1 (by simp)
  have t2 := BR5.out.cell 2 (by simp)
  have t3 := BR5.out.cell 3 (by simp)
  have t4 := BR5.out.cell 4 (by simp)
  simp only [List.getElem_cons_zero, List.getElem_cons_succ] at t0 t1 t2 t3 t4
  have q0 := BQ5.out.cell 0 (by simp)
  have q1 := BQ5.out.cell 1 (by simp)
  have q2 := BQ5.out.cell 2 (by simp)
  have q3 := BQ5.out.cell 3 (by simp)
  have q4 := BQ5.out.cell 4 (by simp)
  have q5 := BQ5.out.cell 5 (by simp)
  simp only [List.getElem_cons_zero, List.getElem_cons_succ] at q0 q1 q2 q3 q4 q5
  have r0 := B45.out.cell 0 (by simp)
  have r1 := B45.out.cell 1 (by simp)
  have r2 := B45.out.cell 2 (by simp)
  have r3 := B45.out.cell 3 (by simp)
  have r4 := B45.out.cell 4 (by simp)
  have r5 := B45.out.cell 5 (by simp)
  simp only [List.getElem_cons_zero, List.getElem_cons_succ] at r0 r1 r2 r3 r4 r5
  have z0 := B45.out.froz 0 (by simp)
  have z1 := B45.out.froz 1 (by simp)
  have z2 := B45.out.froz 2 (by simp)
  have z3 := B45.out.froz 3 (by simp)
  have z4 := B45.out.froz 4 (by simp)
  have z5 := B45.out.froz 5 (by simp)
  have s0 := B55.out.cell 0 (by simp)
  have s1 := B55.out.cell 1 (by simp)
  have s2 := B55.out.cell 2 (by simp)
  have s3 := B55.out.cell 3 (by simp)
  have s4 := B55.out.cell 4 (by simp)
  simp only [List.getElem_cons_zero, List.getElem_cons_succ] at s0 s1 s2 s3 s4
  have y0 := B55.out.froz 0 (by simp)
  have y1 := B55.out.froz 1 (by simp)
  have y2 := B55.out.froz 2 (by simp)
  have y3 := B55.out.froz 3 (by simp)
  have y4 := B55.out.froz 4 (by simp)
  go_region
  all_goals (try go_wp2_with fail)
  all_goals
    refine bodyPost_ret (v := .tuple #[.agg #[.string ⟨a0.toArray⟩, .bool a1, .bool a2, .slice ga a3.length gc, .int .i64 a4, .slice ua l.length uc], .agg #[.int .i64 1, .int .i64 0, .string ⟨#[]⟩, .int .i64 (needN q), .int .i64 fp]]) (by simp [results, Tryz.results119, go_sem, cell_set_at, cell_set_ne, t0, t1, t2, t3, t4, r0, r1, r2, r3, r4, r5, s0, s1, s2, s3, s4]) rfl ⟨_, rfl, ⟨_, _, rfl, ?_, ?_⟩, ?_⟩
    · refine ownsF_base (B := (((w.heap.size + 1) + 1) + 1)) ?_ (by omega)
      repeat (first | with_reducible refine ownsF_set ?_ (by simp; try omega) | with_reducible refine ownsF_drew ?_)
      have h := T3.out
      simpa using h
    · refine ownsF_base (B := (((w.heap.size + 1) + 1) + 1)) ?_ (by omega)
      repeat (first | with_reducible refine ownsF_set ?_ (by simp; try omega) | with_reducible refine ownsF_drew ?_)
      have h := T5.out
      simpa using h
    · repeat (first | with_reducible exact HB5.out | with_reducible refine Below.setCell ?_ (by simp; try omega) _ | with_reducible refine Below.drew ?_)
set_option maxRecDepth 100000 in
set_option maxHeartbeats 3200000 in
theorem implWrap_ok (v : Value) (x : PartD) (s : ByteArray) (w : World) (hx : ValAt rPart 0 w v x) (hs : SmallP x) (hk : ∀ c ∈ x.fCore.fCells, c.fKey.length ≤ maxLen) (hz : s.size ≤ 1048576) (hc : 0 ≤ layI s.data.toList) (hp : partB x = true) (h3 : ¬ x.fLayers.length = 3) (ho : offersF (faceP x) (needI (layI s.data.toList)) = true) :
    Calls Tryz.prog 119 #[v, .string s] w fun e w' => GivesOPR (wrapP x s.data.toList) (wrapR x s.data.toList) w e w' := by
  obtain ⟨hwp, hwr⟩ := wrap_ok (x := x) (s := s.data.toList) ⟨hp, hc⟩ h3 ho
  rw [hwp, hwr]
  clear hwp hwr
  have HTX := Lib.hid (fun W => copyText_any s W (by omega))
  have H3 := Lib.hid h3
  clear h3
  obtain ⟨q, hq1, hq2, hq3⟩ : ∃ q : Nat, layI s.data.toList = q ∧ q < 9 ∧ layN q = s.data.toList := by
    rcases layI_bd s.data.toList with h1 | h1
    · omega
    · exact h1
  have hn : needI (layI s.data.toList) = needN q := by rw [hq1]; unfold needI; rw [if_neg (by omega)]; rfl
  have hg : giveI (layI s.data.toList) = giveN q := by rw [hq1]; unfold giveI; rw [if_neg (by omega)]; rfl
  rw [hn] at ho
  rw [hg]
  have HWP := Lib.hid (fun b0 cs W (h : rPart 0 W cs x) (hb : Bx W b0 cs) => wholePart_c b0 cs x W h hb hp)
  have HNM := Lib.hid (show Value.string s = .string ⟨(layN q).toArray⟩ by rw [hq3])
  have HNS := Lib.hid hq3
  have HO := Lib.hid ho
  have HQ := Lib.hid hq2
  clear hq1 hn hg ho
  obtain ⟨_, rfl, hx⟩ := hx
  have HX := Lib.hid (fun W (hb : Below w.heap.size w W) => goodPart.keep hx (kept_below hb (Nat.le_refl _)))
  have HIP := Lib.hid (fun cs W (h : rPart 0 W cs x) => implIsPart_any (.agg cs.toArray) x W ⟨cs, rfl, h⟩ hk)
  have HCP := Lib.hid (fun cs W (h : rPart 0 W cs x) => copyPart_c (.agg cs.toArray) x W ⟨cs, rfl, h⟩ hs)
  have HLN := Lib.hid (fun W => implLayerNeeds_any s W)
  have HSZ := Lib.hid hs.lays
  unfold ndV at HLN
  unfold GivesOPR vReply
  unfold GivesOP at HCP
  rw [show decide (0 ≤ layI s.data.toList) = true from decide_eq_true hc] at HLN
  rw [hp] at HIP
  generalize needI (layI s.data.toList) = nd at HLN
  generalize faceP x = fp at *
  have HSP := Lib.hid hs
  obtain ⟨⟨a0, a1, a2, a3, a4⟩, l⟩ := x
  obtain ⟨v3, v5, rfl, h3, h5⟩ := hx
  simp only at h3 h5 HSZ
  obtain ⟨ra, rc, rfl, _⟩ := sliceAt_len h3
  obtain ⟨sa, sc, rfl, hl, hcap⟩ := sliceAt_cap h5
  clear h3 h5 hs hk hcap hl
  have BS := Lib.hid (bx_start3 w [.string ⟨a0.toArray⟩, .bool a1, .bool a2, .slice ra a3.length rc, .int .i64 a4, .slice sa l.length sc] [.string ⟨#[]⟩, .bool false, .bool false, .slice none 0 0, .int .i64 0, .slice none 0 0] [.int .i64 0, .int .i64 0, .string ⟨#[]⟩, .int .i64 0, .int .i64 0] 103 103 105)
  have HR0 := Lib.hid (HX.out _ BS.out.2.2.2)
  clear hc hp
  go_enter Tryz.func119, Tryz.ntmps119
  go_wp2_with fail
  refine (HCP.out _ _ HR0.out).mono ?_
  rintro e w1 ⟨_, rfl, ⟨u3, u5, rfl, ho3, ho5⟩, hb⟩
  simp only at ho3 ho5
  obtain ⟨ga, gc, rfl⟩ := slice_of ho3
  obtain ⟨ua, uc, rfl⟩ := slice_of ho5
  have HB1 := Lib.hid ((belS BS.out.2.2.2 hb).alloc (belS BS.out.2.2.2 hb).size (.cells #[.string ⟨a0.toArray⟩, .bool a1, .bool a2, .slice ga a3.length gc, .int .i64 a4, .slice ua l.length uc] 103))
  have B41 := Lib.hid ((BS.out.2.1.below hb).alloc (.cells #[.string ⟨a0.toArray⟩, .bool a1, .bool a2, .slice ga a3.length gc, .int .i64 a4, .slice ua l.length uc] 103))
  have B51 := Lib.hid ((BS.out.2.2.1.below hb).alloc (.cells #[.string ⟨a0.toArray⟩, .bool a1, .bool a2, .slice ga a3.length gc, .int .i64 a4, .slice ua l.length uc] 103))
  have BQ1 := Lib.hid (Bx.new w1 [.string ⟨a0.toArray⟩, .bool a1, .bool a2, .slice ga a3.length gc, .int .i64 a4, .slice ua l.length uc] 103)
  have O3 := Lib.hid (ownsF_alloc (ownsF_base (B' := w.heap.size + 1 + 1 + 1) ho3 (by simp)) (.cells #[.string ⟨a0.toArray⟩, .bool a1, .bool a2, .slice ga a3.length gc, .int .i64 a4, .slice ua l.length uc] 103))
  have O5 := Lib.hid (ownsF_alloc (ownsF_base (B' := w.heap.size + 1 + 1 + 1) ho5 (by simp)) (.cells #[.string ⟨a0.toArray⟩, .bool a1, .bool a2, .slice ga a3.length gc, .int .i64 a4, .slice ua l.length uc] 103))
  have h3s := hb.size
  simp at h3s
  have HU5 := Lib.hid (fun g (h : (Value.slice ua l.length uc).ownBlock = some g) => (show w.heap.size + 1 + 1 + 1 ≤ g ∧ g < w1.heap.size from ⟨by have := (World.ownsRow.lt ho5 g h).1; simpa using this, (World.ownsRow.lt ho5 g h).2⟩))
  have HU3 := Lib.hid (fun g (h : (Value.slice ga a3.length gc).ownBlock = some g) => (show g < w1.heap.size from (World.ownsRow.lt ho3 g h).2))
  clear hb ho3 ho5 BS
  go_wp2_with fail
  refine (HLN.out _).mono ?_
  rintro e w2 ⟨rfl, rfl⟩
  have q0 := BQ1.out.cell 0 (by simp)
  have q1 := BQ1.out.cell 1 (by simp)
  have q2 := BQ1.out.cell 2 (by simp)
  have q3 := BQ1.out.cell 3 (by simp)
  have q4 := BQ1.out.cell 4 (by simp)
  have q5 := BQ1.out.cell 5 (by simp)
  simp only [List.getElem_cons_zero, List.getElem_cons_succ] at q0 q1 q2 q3 q4 q5
  have HRQ := Lib.hid (show rPart 0 (w1.alloc (.cells #[.string ⟨a0.toArray⟩, .bool a1, .bool a2, .slice ga a3.length gc, .int .i64 a4, .slice ua l.length uc] 103)) [.string ⟨a0.toArray⟩, .bool a1, .bool a2, .slice ga a3.length gc, .int .i64 a4, .slice ua l.length uc] ⟨⟨a0, a1, a2, a3, a4⟩, l⟩ from goodPart.mono (oPart_r ⟨_, _, rfl, O3.out, O5.out⟩ HSP.out) (Nat.zero_le _))
  go_wp2_with fail
  refine (HIP.out _ _ HRQ.out).mono ?_
  rintro e w2 ⟨rfl, hb⟩
  have HB2 := Lib.hid (belS HB1.out hb)
  have B42 := Lib.hid (B41.out.below hb)
  have B52 := Lib.hid (B51.out.below hb)
  have BQ2 := Lib.hid (BQ1.out.below hb)
  have P3 := Lib.hid (ownsF_below O3.out hb (Nat.le_refl _))
  have P5 := Lib.hid (ownsF_below O5.out hb (Nat.le_refl _))
  have h4s := hb.size
  simp at h4s
  clear hb q0 q1 q2 q3 q4 q5
  have h3 := H3.out
  try simp only at h3
  have hl3 : ¬ (l.length : Int) = 3 := by omega
  clear h3
  have q0 := BQ2.out.cell 0 (by simp)
  have q1 := BQ2.out.cell 1 (by simp)
  have q2 := BQ2.out.cell 2 (by simp)
  have q3 := BQ2.out.cell 3 (by simp)
  have q4 := BQ2.out.cell 4 (by simp)
  have q5 := BQ2.out.cell 5 (by simp)
  simp only [List.getElem_cons_zero, List.getElem_cons_succ] at q0 q1 q2 q3 q4 q5
  go_wp2_with fail
  refine (HTX.out _).mono ?_
  rintro e w3 ⟨rfl, hb⟩
  have HB3 := Lib.hid ((belS HB2.out hb).alloc (belS HB2.out hb).size (.cells #[.string s, .int .i64 0] 142))
  have B43 := Lib.hid ((B42.out.below hb).alloc (.cells #[.string s, .int .i64 0] 142))
  have B53 := Lib.hid ((B52.out.below hb).alloc (.cells #[.string s, .int .i64 0] 142))
  have BQ3 := Lib.hid ((BQ2.out.below hb).alloc (.cells #[.string s, .int .i64 0] 142))
  have BL3 := Lib.hid (Bx.new w3 [.string s, .int .i64 0] 142)
  have R3 := Lib.hid (ownsF_alloc (ownsF_below P3.out hb (Nat.le_refl _)) (.cells #[.string s, .int .i64 0] 142))
  have R5 := Lib.hid (ownsF_alloc (ownsF_below P5.out hb (Nat.le_refl _)) (.cells #[.string s, .int .i64 0] 142))
  have h5s := hb.size
  clear hb q0 q1 q2 q3 q4 q5
  have HRW := Lib.hid (show rPart 0 (w3.alloc (.cells #[.string s, .int .i64 0] 142)) [.string ⟨a0.toArray⟩, .bool a1, .bool a2, .slice ga a3.length gc, .int .i64 a4, .slice ua l.length uc] ⟨⟨a0, a1, a2, a3, a4⟩, l⟩ from goodPart.mono (oPart_r ⟨_, _, rfl, R3.out, R5.out⟩ HSP.out) (Nat.zero_le _))
  go_wp2_with fail
  refine (HWP.out _ _ _ HRW.out BQ3.out).mono ?_
  rintro e w4 ⟨pv, rfl, hpv, hb⟩
  have HB4 := Lib.hid (belS HB3.out hb)
  have B44 := Lib.hid (B43.out.below hb)
  have B54 := Lib.hid (B53.out.below hb)
  have BQ4 := Lib.hid (BQ3.out.below hb)
  have BL4 := Lib.hid (BL3.out.below hb)
  have S3 := Lib.hid (ownsF_below R3.out hb (Nat.le_refl _))
  have S5 := Lib.hid (ownsF_below R5.out hb (Nat.le_refl _))
  have h6s := hb.size
  simp at h6s
  have HPV := Lib.hid hpv
  have l0 := BL4.out.cell 0 (by simp)
  simp only [List.getElem_cons_zero] at l0
  rw [HNM.out] at l0
  have HWI := Lib.hid (wrapIn_c w3.heap.size 0 q HQ.out pv fp w4 l0 HPV.out)
  clear hb hpv l0
  go_wp2_with fail
  refine HWI.out.mono ?_
  rintro e w5 ⟨hb, hres⟩
  obtain rfl : e = .returned (.tuple #[wrapV w3.heap.size 0 pv q, vReply ⟨0, giveN q, [], 0, 0⟩]) := by
    rcases hres with ⟨_, h⟩ | ⟨h, _⟩
    · exact h
    · rw [HO.out] at h; cases h
  generalize wrapV w3.heap.size 0 pv q = nv at *
  unfold vReply
  have HB5 := Lib.hid ((belS HB4.out hb).alloc (belS HB4.out hb).size (.cells #[.int .i64 0, .int .i64 (giveN q), .string ⟨#[]⟩, .int .i64 0, .int .i64 0] 105))
  have B45 := Lib.hid ((B44.out.below hb).alloc (.cells #[.int .i64 0, .int .i64 (giveN q), .string ⟨#[]⟩, .int .i64 0, .int .i64 0] 105))
  have B55 := Lib.hid ((B54.out.below hb).alloc (.cells #[.int .i64 0, .int .i64 (giveN q), .string ⟨#[]⟩, .int .i64 0, .int .i64 0] 105))
  have BQ5 := Lib.hid ((BQ4.out.below hb).alloc (.cells #[.int .i64 0, .int .i64 (giveN q), .string ⟨#[]⟩, .int .i64 0, .int .i64 0] 105))
  have BL5 := Lib.hid ((BL4.out.below hb).alloc (.cells #[.int .i64 0, .int .i64 (giveN q), .string ⟨#[]⟩, .int .i64 0, .int .i64 0] 105))
  have BR5 := Lib.hid (Bx.new w5 [.int .i64 0, .int .i64 (giveN q), .string ⟨#[]⟩, .int .i64 0, .int .i64 0] 105)
  have T3 := Lib.hid (ownsF_alloc (ownsF_below S3.out hb (Nat.le_refl _)) (.cells #[.int .i64 0, .int .i64 (giveN q), .string ⟨#[]⟩, .int .i64 0, .int .i64 0] 105))
  have T5 := Lib.hid (ownsF_alloc (ownsF_below S5.out hb (Nat.le_refl _)) (.cells #[.int .i64 0, .int .i64 (giveN q), .string ⟨#[]⟩, .int .i64 0, .int .i64 0] 105))
  have h7s := hb.size
  clear hb hres
  have t0 := BR5.out.cell 0 (by simp)
  have t1 := BR5.out.cell 1 (by simp)
  have t2 := BR5.out.cell 2 (by simp)
  have t3 := BR5.out.cell 3 (by simp)
  have t4 := BR5.out.cell 4 (by simp)
  simp only [List.getElem_cons_zero, List.getElem_cons_succ] at t0 t1 t2 t3 t4
  have hcl : ∀ j, j < 2 → ((w5.alloc (.cells #[.int .i64 0, .int .i64 (giveN q), .string ⟨#[]⟩, .int .i64 0, .int .i64 0] 105)).alloc (.cells #[.string s, .int .i64 0] 142)).cell? ⟨w5.heap.size + 1, j, none⟩ = (cLayer ⟨s.data.toList, 0⟩)[j]? := cell_newL (w5.alloc (.cells #[.int .i64 0, .int .i64 (giveN q), .string ⟨#[]⟩, .int .i64 0, .int .i64 0] 105)) ⟨s.data.toList, 0⟩ _ (by simp)
  have hlen : (l ++ [(⟨s.data.toList, 0⟩ : LayerD)]).length = l.length + 1 := by simp
  have hcap : l.length ≤ 4194304 := by have := HSZ.out; omega
  have hBs : w.heap.size + 1 + 1 + 1 ≤ ((w5.alloc (.cells #[.int .i64 0, .int .i64 (giveN q), .string ⟨#[]⟩, .int .i64 0, .int .i64 0] 105)).alloc (.cells #[.string s, .int .i64 0] 142)).heap.size := by simp; omega
  have m0 := BL5.out.cell 0 (by simp)
  have m1 := BL5.out.cell 1 (by simp)
  simp only [List.getElem_cons_zero, List.getElem_cons_succ] at m0 m1
  have q0 := BQ5.out.cell 0 (by simp)
  have q1 := BQ5.out.cell 1 (by simp)
  have q2 := BQ5.out.cell 2 (by simp)
  have q3 := BQ5.out.cell 3 (by simp)
  have q4 := BQ5.out.cell 4 (by simp)
  have q5 := BQ5.out.cell 5 (by simp)
  simp only [List.getElem_cons_zero, List.getElem_cons_succ] at q0 q1 q2 q3 q4 q5
  have p0 := BQ5.out.froz 0 (by simp)
  have p1 := BQ5.out.froz 1 (by simp)
  have p2 := BQ5.out.froz 2 (by simp)
  have p3 := BQ5.out.froz 3 (by simp)
  have p4 := BQ5.out.froz 4 (by simp)
  have p5 := BQ5.out.froz 5 (by simp)
  go_wp2_with (at_builtin; refine append_lay rfl _ _ rfl (w.heap.size + 1 + 1 + 1) (.slice ua l.length uc) l ⟨s.data.toList, 0⟩ ((w5.alloc (.cells #[.int .i64 0, .int .i64 (giveN q), .string ⟨#[]⟩, .int .i64 0, .int .i64 0] 105)).alloc (.cells #[.string s, .int .i64 0] 142)) (w5.heap.size + 1) rfl (ownsF_alloc T5.out _) rfl hcl hcap hBs ?_; intro v6 w6 hO6 hg6; obtain ⟨va, vc, rfl⟩ := slice_lenW hO6 hlen; have HO6 := Lib.hid hO6; clear hO6; have HG6 := Lib.hid hg6; clear hg6; have QX := Lib.hid ((BQ5.out.alloc (.cells #[.string s, .int .i64 0] 142)).grown HG6.out (fun e => by have := HU5.out _ e; omega)); have q5' := QX.out.cell 5 (by simp); have p5' := QX.out.froz 5 (by simp); simp only [List.getElem_cons_zero, List.getElem_cons_succ] at q5')
  have B46 := Lib.hid ((B45.out.alloc (.cells #[.string s, .int .i64 0] 142)).grown HG6.out (fun e => by have := HU5.out _ e; omega))
  have B56 := Lib.hid ((B55.out.alloc (.cells #[.string s, .int .i64 0] 142)).grown HG6.out (fun e => by have := HU5.out _ e; omega))
  have BR6 := Lib.hid ((BR5.out.alloc (.cells #[.string s, .int .i64 0] 142)).grown HG6.out (fun e => by have := HU5.out _ e; omega))
  have HB6 := Lib.hid (below_appendF (HB5.out.alloc HB5.out.size _) (ownsF_base (B' := w.heap.size) (ownsF_alloc T5.out _) (by omega)) HG6.out (Nat.le_trans (by omega) hBs))
  have U3 := Lib.hid (ownsF_keptF (ownsF_alloc T3.out _) (ownsF_alloc T5.out _) HG6.out (by decide))
  have hnb : (Value.slice va (l.length + 1) vc).ownBlock ≠ some w1.heap.size := lay_not_bool HO6.out (by rw [hlen]; omega) (QX.out.cell 1 (by simp))
  have B47 := Lib.hid (B46.out.other (c := w1.heap.size) (by omega) 5 (.slice va (l.length + 1) vc))
  have B57 := Lib.hid (B56.out.other (c := w1.heap.size) (by omega) 5 (.slice va (l.length + 1) vc))
  have BR7 := Lib.hid (BR6.out.other (c := w1.heap.size) (by omega) 5 (.slice va (l.length + 1) vc))
  have BQ7 := Lib.hid (QX.out.set 5 (by simp) (.slice va (l.length + 1) vc))
  have HB7 := Lib.hid (HB6.out.setCell (p := ⟨w1.heap.size, 5, none⟩) (by simp; omega) (.slice va (l.length + 1) vc))
  have V3 := Lib.hid (ownsF_setNe (p := ⟨w1.heap.size, 5, none⟩) (u := .slice va (l.length + 1) vc) U3.out (fun e => Nat.lt_irrefl _ (HU3.out _ e)))
  have V5 := Lib.hid (ownsF_setNe (p := ⟨w1.heap.size, 5, none⟩) (u := .slice va (l.length + 1) vc) HO6.out hnb)
  simp only [List.set_cons_succ, List.set_cons_zero] at BQ7
  clear q0 q1 q2 q3 q4 q5 p0 p1 p2 p3 p4 p5 m0 m1 t0 t1 t2 t3 t4 q5' p5' QX HG6 BL5 BQ5 B45 B55 BR5 B46 B56 BR6
  generalize w6.setCell ⟨w1.heap.size, 5, none⟩ (.slice va (l.length + 1) vc) = w7 at *
  have q0 := BQ7.out.cell 0 (by simp)
  have q1 := BQ7.out.cell 1 (by simp)
  have q2 := BQ7.out.cell 2 (by simp)
  have q3 := BQ7.out.cell 3 (by simp)
  have q4 := BQ7.out.cell 4 (by simp)
  have q5 := BQ7.out.cell 5 (by simp)
  simp only [List.getElem_cons_zero, List.getElem_cons_succ] at q0 q1 q2 q3 q4 q5
  have t0 := BR7.out.cell 0 (by simp)
  have t1 := BR7.out.cell 1 (by simp)
  have t2 := BR7.out.cell 2 (by simp)
  have t3 := BR7.out.cell 3 (by simp)
  have t4 := BR7.out.cell 4 (by simp)
  simp only [List.getElem_cons_zero, List.getElem_cons_succ] at t0 t1 t2 t3 t4
  have r0 := B47.out.cell 0 (by simp)
  have r1 := B47.out.cell 1 (by simp)
  have r2 := B47.out.cell 2 (by simp)
  have r3 := B47.out.cell 3 (by simp)
  have r4 := B47.out.cell 4 (by simp)
  have r5 := B47.out.cell 5 (by simp)
  simp only [List.getElem_cons_zero, List.getElem_cons_succ] at r0 r1 r2 r3 r4 r5
  have z0 := B47.out.froz 0 (by simp)
  have z1 := B47.out.froz 1 (by simp)
  have z2 := B47.out.froz 2 (by simp)
  have z3 := B47.out.froz 3 (by simp)
  have z4 := B47.out.froz 4 (by simp)
  have z5 := B47.out.froz 5 (by simp)
  have s0 := B57.out.cell 0 (by simp)
  have s1 := B57.out.cell 1 (by simp)
  have s2 := B57.out.cell 2 (by simp)
  have s3 := B57.out.cell 3 (by simp)
  have s4 := B57.out.cell 4 (by simp)
  simp only [List.getElem_cons_zero, List.getElem_cons_succ] at s0 s1 s2 s3 s4
  have y0 := B57.out.froz 0 (by simp)
  have y1 := B57.out.froz 1 (by simp)
  have y2 := B57.out.froz 2 (by simp)
  have y3 := B57.out.froz 3 (by simp)
  have y4 := B57.out.froz 4 (by simp)
  go_region
  all_goals (try go_wp2_with fail)
  all_goals
    refine bodyPost_ret (v := .tuple #[.agg #[.string ⟨a0.toArray⟩, .bool a1, .bool a2, .slice ga a3.length gc, .int .i64 a4, .slice va (l.length + 1) vc], .agg #[.int .i64 0, .int .i64 (giveN q), .string ⟨#[]⟩, .int .i64 0, .int .i64 0]]) (by simp [results, Tryz.results119, go_sem, cell_set_at, cell_set_ne, t0, t1, t2, t3, t4, r0, r1, r2, r3, r4, r5, s0, s1, s2, s3, s4]) rfl ⟨_, rfl, ⟨_, _, rfl, ?_, ?_⟩, ?_⟩
    · refine ownsF_base (B := (((w.heap.size + 1) + 1) + 1)) ?_ (by omega)
      repeat (first | with_reducible refine ownsF_set ?_ (by simp; try omega) | with_reducible refine ownsF_drew ?_)
      have h := V3.out
      simpa using h
    · refine ownsF_base (B := (((w.heap.size + 1) + 1) + 1)) ?_ (by omega)
      repeat (first | with_reducible refine ownsF_set ?_ (by simp; try omega) | with_reducible refine ownsF_drew ?_)
      have h := V5.out
      simpa using h
    · repeat (first | with_reducible exact HB7.out | with_reducible refine Below.setCell ?_ (by simp; try omega) _ | with_reducible refine Below.drew ?_)
theorem implWrap_any (v : Value) (x : PartD) (s : ByteArray) (w : World) (hx : ValAt rPart 0 w v x) (hs : SmallP x) (hk : ∀ c ∈ x.fCore.fCells, c.fKey.length ≤ maxLen) (hz : s.size ≤ 1048576) :
    Calls Tryz.prog 119 #[v, .string s] w fun e w' => GivesOPR (wrapP x s.data.toList) (wrapR x s.data.toList) w e w' := by
  by_cases hc : 0 ≤ layI s.data.toList
  · cases hp : partB x with
    | false => exact implWrap_bad2 v x s w hx hs hk hz hc hp
    | true =>
      by_cases h3 : x.fLayers.length = 3
      · exact implWrap_full v x s w hx hs hk hz hc hp h3
      · cases ho : offersF (faceP x) (needI (layI s.data.toList)) with
        | false => exact implWrap_fail v x s w hx hs hk hz hc hp h3 ho
        | true => exact implWrap_ok v x s w hx hs hk hz hc hp h3 ho
  · exact implWrap_bad1 v x s w hx hs hk hz hc
end Go.Proofs.YtlkpinlkbikokabGreat
