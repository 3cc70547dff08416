/- The program's IsCall, method by method: three of them. Written by gen/ch3calls.py. -/
import Derived.Test.YtghebbndfpbkcaaGreatCallCoreLawM1
import Derived.StillTailTactics
import Derived.Test.YtghebbndfpbkcaaGreatCallCoreLawM0
import Derived.Recover
import Derived.Defers
import Derived.Deep.AppendLies
/- The door on the kinds stone, lamp. Written by gen/ch3door.py. -/
namespace Go.Proofs.YtghebbndfpbkcaaGreat
set_option linter.unusedVariables false
set_option linter.unusedSimpArgs false
open Go.RowKit
set_option maxRecDepth 100000 in
set_option maxHeartbeats 1600000 in
theorem try_0_Start (N b : Nat) (cv : Value) (d : CoreD) (x : CallD) (mx : Int) (w : World) (h : Pre N b cv d x mx w) (hx : x.fMethod = [83, 116, 97, 114, 116]) :
    Calls Tryz.prog 101 #[.iface 148 (.agg #[.pointer (some ⟨b, 0, none⟩)]), vCall x] w fun e w' => Panics w e w' := by
  have P := Lib.hid h
  clear h
  obtain ⟨m, k, n, t⟩ := x
  simp only at hx
  subst hx
  unfold vCall
  obtain ⟨c, E, hta⟩ := ta_0_0
  go_enter Tryz.func101, Tryz.ntmps101
  go_wp2_with fail
  exact ⟨rfl, _, rfl, by repeat (first | with_reducible exact Below.refl _ _ | with_reducible refine Below.alloc ?_ (by simp; try omega) _)⟩
set_option maxRecDepth 100000 in
set_option maxHeartbeats 1600000 in
theorem try_0_Stop (N b : Nat) (cv : Value) (d : CoreD) (x : CallD) (mx : Int) (w : World) (h : Pre N b cv d x mx w) (hx : x.fMethod = [83, 116, 111, 112]) :
    Calls Tryz.prog 101 #[.iface 148 (.agg #[.pointer (some ⟨b, 0, none⟩)]), vCall x] w fun e w' => Panics w e w' := by
  have P := Lib.hid h
  clear h
  obtain ⟨m, k, n, t⟩ := x
  simp only at hx
  subst hx
  unfold vCall
  obtain ⟨c, E, hta⟩ := ta_0_0
  go_enter Tryz.func101, Tryz.ntmps101
  go_wp2_with fail
  exact ⟨rfl, _, rfl, by repeat (first | with_reducible exact Below.refl _ _ | with_reducible refine Below.alloc ?_ (by simp; try omega) _)⟩
set_option maxRecDepth 100000 in
set_option maxHeartbeats 1600000 in
theorem try_0_Get (N b : Nat) (cv : Value) (d : CoreD) (x : CallD) (mx : Int) (w : World) (h : Pre N b cv d x mx w) (hx : x.fMethod = [71, 101, 116]) :
    Calls Tryz.prog 101 #[.iface 148 (.agg #[.pointer (some ⟨b, 0, none⟩)]), vCall x] w fun e w' => Panics w e w' := by
  have P := Lib.hid h
  clear h
  obtain ⟨m, k, n, t⟩ := x
  simp only at hx
  subst hx
  unfold vCall
  obtain ⟨c, E, hta⟩ := ta_0_1
  go_enter Tryz.func101, Tryz.ntmps101
  go_wp2_with fail
  refine wp_region_any (by kernel_rfl) ?_
  change wpAny _ _ _ _ _ _ _ (World.drew _)
  refine wpAny_take (i := 0) (v := ?_) rfl (by kernel_rfl) (by kernel_rfl) (by kernel_rfl) (fun _ _ _ h => h) (Or.inl ⟨by rfl, ?_⟩) ?_
  rotate_left
  · intro w; go_simp; try (with_reducible rfl)
  refine wpAny_take (i := 2) (v := ?_) rfl (by kernel_rfl) (by kernel_rfl) (by kernel_rfl) (fun _ _ _ h => h) (Or.inl ⟨by rfl, ?_⟩) ?_
  rotate_left
  · intro w; go_simp; try (with_reducible rfl)
  refine wpAny_ready (rs := [1, 3]) (by kernel_rfl) (by simp) ?_
  refine AllReady.cons rfl (fun K hK => ?_) ?_
  · go_simp
    exact ⟨rfl, _, rfl, by repeat (first | with_reducible exact Below.refl _ _ | with_reducible refine Below.alloc ?_ (by simp; try omega) _ | with_reducible refine Below.drew ?_ | with_reducible refine below_drewN ?_ _)⟩
  refine AllReady.cons rfl (fun K hK => ?_) ?_
  · go_simp
    refine hK _ _ ?_
    clear hK K
    refine wpAny_ready (rs := [1]) (by kernel_rfl) (by simp) ?_
    refine AllReady.cons rfl (fun K hK => ?_) ?_
    · go_simp
      exact ⟨rfl, _, rfl, by repeat (first | with_reducible exact Below.refl _ _ | with_reducible refine Below.alloc ?_ (by simp; try omega) _ | with_reducible refine Below.drew ?_ | with_reducible refine below_drewN ?_ _)⟩
    exact AllReady.nil
  exact AllReady.nil
set_option maxRecDepth 100000 in
set_option maxHeartbeats 1600000 in
theorem try_0_Put (N b : Nat) (cv : Value) (d : CoreD) (x : CallD) (mx : Int) (w : World) (h : Pre N b cv d x mx w) (hx : x.fMethod = [80, 117, 116]) :
    Calls Tryz.prog 101 #[.iface 148 (.agg #[.pointer (some ⟨b, 0, none⟩)]), vCall x] w fun e w' => Panics w e w' := by
  have P := Lib.hid h
  clear h
  obtain ⟨m, k, n, t⟩ := x
  simp only at hx
  subst hx
  unfold vCall
  obtain ⟨c, E, hta⟩ := ta_0_1
  go_enter Tryz.func101, Tryz.ntmps101
  go_wp2_with fail
  refine wp_region_any (by kernel_rfl) ?_
  change wpAny _ _ _ _ _ _ _ (World.drew _)
  refine wpAny_take (i := 0) (v := ?_) rfl (by kernel_rfl) (by kernel_rfl) (by kernel_rfl) (fun _ _ _ h => h) (Or.inl ⟨by rfl, ?_⟩) ?_
  rotate_left
  · intro w; go_simp; try (with_reducible rfl)
  refine wpAny_take (i := 2) (v := ?_) rfl (by kernel_rfl) (by kernel_rfl) (by kernel_rfl) (fun _ _ _ h => h) (Or.inl ⟨by rfl, ?_⟩) ?_
  rotate_left
  · intro w; go_simp; try (with_reducible rfl)
  refine wpAny_take (i := 4) (v := ?_) rfl (by kernel_rfl) (by kernel_rfl) (by kernel_rfl) (fun _ _ _ h => h) (Or.inl ⟨by rfl, ?_⟩) ?_
  rotate_left
  · intro w; go_simp; try (with_reducible rfl)
  refine wpAny_ready (rs := [1, 3, 5]) (by kernel_rfl) (by simp) ?_
  refine AllReady.cons rfl (fun K hK => ?_) ?_
  · go_simp
    exact ⟨rfl, _, rfl, by repeat (first | with_reducible exact Below.refl _ _ | with_reducible refine Below.alloc ?_ (by simp; try omega) _ | with_reducible refine Below.drew ?_ | with_reducible refine below_drewN ?_ _)⟩
  refine AllReady.cons rfl (fun K hK => ?_) ?_
  · go_simp
    refine hK _ _ ?_
    clear hK K
    refine wpAny_ready (rs := [1, 5]) (by kernel_rfl) (by simp) ?_
    refine AllReady.cons rfl (fun K hK => ?_) ?_
    · go_simp
      exact ⟨rfl, _, rfl, by repeat (first | with_reducible exact Below.refl _ _ | with_reducible refine Below.alloc ?_ (by simp; try omega) _ | with_reducible refine Below.drew ?_ | with_reducible refine below_drewN ?_ _)⟩
    refine AllReady.cons rfl (fun K hK => ?_) ?_
    · go_simp
      refine hK _ _ ?_
      clear hK K
      refine wpAny_ready (rs := [1]) (by kernel_rfl) (by simp) ?_
      refine AllReady.cons rfl (fun K hK => ?_) ?_
      · go_simp
        exact ⟨rfl, _, rfl, by repeat (first | with_reducible exact Below.refl _ _ | with_reducible refine Below.alloc ?_ (by simp; try omega) _ | with_reducible refine Below.drew ?_ | with_reducible refine below_drewN ?_ _)⟩
      exact AllReady.nil
    exact AllReady.nil
  refine AllReady.cons rfl (fun K hK => ?_) ?_
  · go_simp
    refine hK _ _ ?_
    clear hK K
    refine wpAny_ready (rs := [1, 3]) (by kernel_rfl) (by simp) ?_
    refine AllReady.cons rfl (fun K hK => ?_) ?_
    · go_simp
      exact ⟨rfl, _, rfl, by repeat (first | with_reducible exact Below.refl _ _ | with_reducible refine Below.alloc ?_ (by simp; try omega) _ | with_reducible refine Below.drew ?_ | with_reducible refine below_drewN ?_ _)⟩
    refine AllReady.cons rfl (fun K hK => ?_) ?_
    · go_simp
      refine hK _ _ ?_
      clear hK K
      refine wpAny_ready (rs := [1]) (by kernel_rfl) (by simp) ?_
      refine AllReady.cons rfl (fun K hK => ?_) ?_
      · go_simp
        exact ⟨rfl, _, rfl, by repeat (first | with_reducible exact Below.refl _ _ | with_reducible refine Below.alloc ?_ (by simp; try omega) _ | with_reducible refine Below.drew ?_ | with_reducible refine below_drewN ?_ _)⟩
      exact AllReady.nil
    exact AllReady.nil
  exact AllReady.nil
set_option maxRecDepth 100000 in
set_option maxHeartbeats 1600000 in
theorem try_0_Tell (N b : Nat) (cv : Value) (d : CoreD) (x : CallD) (mx : Int) (w : World) (h : Pre N b cv d x mx w) (hx : x.fMethod = [84, 101, 108, 108]) :
    Calls Tryz.prog 101 #[.iface 148 (.agg #[.pointer (some ⟨b, 0, none⟩)]), vCall x] w fun e w' => Panics w e w' := by
  have P := Lib.hid h
  clear h
  obtain ⟨m, k, n, t⟩ := x
  simp only at hx
  subst hx
  unfold vCall
  obtain ⟨c, E, hta⟩ := ta_0_2
  go_enter Tryz.func101, Tryz.ntmps101
  go_wp2_with fail
  exact ⟨rfl, _, rfl, by repeat (first | with_reducible exact Below.refl _ _ | with_reducible refine Below.alloc ?_ (by simp; try omega) _)⟩
set_option maxRecDepth 100000 in
set_option maxHeartbeats 1600000 in
theorem try_0_Hear (N b : Nat) (cv : Value) (d : CoreD) (x : CallD) (mx : Int) (w : World) (h : Pre N b cv d x mx w) (hx : x.fMethod = [72, 101, 97, 114]) :
    Calls Tryz.prog 101 #[.iface 148 (.agg #[.pointer (some ⟨b, 0, none⟩)]), vCall x] w fun e w' => Panics w e w' := by
  have P := Lib.hid h
  clear h
  obtain ⟨m, k, n, t⟩ := x
  simp only at hx
  subst hx
  unfold vCall
  obtain ⟨c, E, hta⟩ := ta_0_3
  go_enter Tryz.func101, Tryz.ntmps101
  go_wp2_with fail
  refine wp_region_any (by kernel_rfl) ?_
  change wpAny _ _ _ _ _ _ _ (World.drew _)
  refine wpAny_take (i := 0) (v := ?_) rfl (by kernel_rfl) (by kernel_rfl) (by kernel_rfl) (fun _ _ _ h => h) (Or.inl ⟨by rfl, ?_⟩) ?_
  rotate_left
  · intro w; go_simp; try (with_reducible rfl)
  refine wpAny_take (i := 2) (v := ?_) rfl (by kernel_rfl) (by kernel_rfl) (by kernel_rfl) (fun _ _ _ h => h) (Or.inl ⟨by rfl, ?_⟩) ?_
  rotate_left
  · intro w; go_simp; try (with_reducible rfl)
  refine wpAny_ready (rs := [1, 3]) (by kernel_rfl) (by simp) ?_
  refine AllReady.cons rfl (fun K hK => ?_) ?_
  · go_simp
    exact ⟨rfl, _, rfl, by repeat (first | with_reducible exact Below.refl _ _ | with_reducible refine Below.alloc ?_ (by simp; try omega) _ | with_reducible refine Below.drew ?_ | with_reducible refine below_drewN ?_ _)⟩
  refine AllReady.cons rfl (fun K hK => ?_) ?_
  · go_simp
    refine hK _ _ ?_
    clear hK K
    refine wpAny_ready (rs := [1]) (by kernel_rfl) (by simp) ?_
    refine AllReady.cons rfl (fun K hK => ?_) ?_
    · go_simp
      exact ⟨rfl, _, rfl, by repeat (first | with_reducible exact Below.refl _ _ | with_reducible refine Below.alloc ?_ (by simp; try omega) _ | with_reducible refine Below.drew ?_ | with_reducible refine below_drewN ?_ _)⟩
    exact AllReady.nil
  exact AllReady.nil
set_option maxRecDepth 100000 in
set_option maxHeartbeats 1600000 in
theorem try_0_Load (N b : Nat) (cv : Value) (d : CoreD) (x : CallD) (mx : Int) (w : World) (h : Pre N b cv d x mx w) (hx : x.fMethod = [76, 111, 97, 100]) :
    Calls Tryz.prog 101 #[.iface 148 (.agg #[.pointer (some ⟨b, 0, none⟩)]), vCall x] w fun e w' => Panics w e w' := by
  have P := Lib.hid h
  clear h
  obtain ⟨m, k, n, t⟩ := x
  simp only at hx
  subst hx
  unfold vCall
  obtain ⟨c, E, hta⟩ := ta_0_4
  go_enter Tryz.func101, Tryz.ntmps101
  go_wp2_with fail
  refine wp_region_any (by kernel_rfl) ?_
  change wpAny _ _ _ _ _ _ _ (World.drew _)
  refine wpAny_take (i := 0) (v := ?_) rfl (by kernel_rfl) (by kernel_rfl) (by kernel_rfl) (fun _ _ _ h => h) (Or.inl ⟨by rfl, ?_⟩) ?_
  rotate_left
  · intro w; go_simp; try (with_reducible rfl)
  refine wpAny_take (i := 2) (v := ?_) rfl (by kernel_rfl) (by kernel_rfl) (by kernel_rfl) (fun _ _ _ h => h) (Or.inl ⟨by rfl, ?_⟩) ?_
  rotate_left
  · intro w; go_simp; try (with_reducible rfl)
  refine wpAny_ready (rs := [1, 3]) (by kernel_rfl) (by simp) ?_
  refine AllReady.cons rfl (fun K hK => ?_) ?_
  · go_simp
    exact ⟨rfl, _, rfl, by repeat (first | with_reducible exact Below.refl _ _ | with_reducible refine Below.alloc ?_ (by simp; try omega) _ | with_reducible refine Below.drew ?_ | with_reducible refine below_drewN ?_ _)⟩
  refine AllReady.cons rfl (fun K hK => ?_) ?_
  · go_simp
    refine hK _ _ ?_
    clear hK K
    refine wpAny_ready (rs := [1]) (by kernel_rfl) (by simp) ?_
    refine AllReady.cons rfl (fun K hK => ?_) ?_
    · go_simp
      exact ⟨rfl, _, rfl, by repeat (first | with_reducible exact Below.refl _ _ | with_reducible refine Below.alloc ?_ (by simp; try omega) _ | with_reducible refine Below.drew ?_ | with_reducible refine below_drewN ?_ _)⟩
    exact AllReady.nil
  exact AllReady.nil
set_option maxRecDepth 100000 in
set_option maxHeartbeats 1600000 in
theorem try_0_Save (N b : Nat) (cv : Value) (d : CoreD) (x : CallD) (mx : Int) (w : World) (h : Pre N b cv d x mx w) (hx : x.fMethod = [83, 97, 118, 101]) :
    Calls Tryz.prog 101 #[.iface 148 (.agg #[.pointer (some ⟨b, 0, none⟩)]), vCall x] w fun e w' => Panics w e w' := by
  have P := Lib.hid h
  clear h
  obtain ⟨m, k, n, t⟩ := x
  simp only at hx
  subst hx
  unfold vCall
  obtain ⟨c, E, hta⟩ := ta_0_4
  go_enter Tryz.func101, Tryz.ntmps101
  go_wp2_with fail
  exact ⟨rfl, _, rfl, by repeat (first | with_reducible exact Below.refl _ _ | with_reducible refine Below.alloc ?_ (by simp; try omega) _)⟩
set_option maxRecDepth 100000 in
set_option maxHeartbeats 1600000 in
theorem try_0_Heal (N b : Nat) (cv : Value) (d : CoreD) (x : CallD) (mx : Int) (w : World) (h : Pre N b cv d x mx w) (hx : x.fMethod = [72, 101, 97, 108]) :
    Calls Tryz.prog 101 #[.iface 148 (.agg #[.pointer (some ⟨b, 0, none⟩)]), vCall x] w fun e w' => Panics w e w' := by
  have P := Lib.hid h
  clear h
  obtain ⟨m, k, n, t⟩ := x
  simp only at hx
  subst hx
  unfold vCall
  obtain ⟨c, E, hta⟩ := ta_0_5
  go_enter Tryz.func101, Tryz.ntmps101
  go_wp2_with fail
  exact ⟨rfl, _, rfl, by repeat (first | with_reducible exact Below.refl _ _ | with_reducible refine Below.alloc ?_ (by simp; try omega) _)⟩
set_option maxRecDepth 100000 in
set_option maxHeartbeats 1600000 in
theorem try_1_Start (N b : Nat) (cv : Value) (d : CoreD) (x : CallD) (mx : Int) (w : World) (h : Pre N b cv d x mx w) (hx : x.fMethod = [83, 116, 97, 114, 116]) :
    Calls Tryz.prog 101 #[.iface 129 (.agg #[.pointer (some ⟨b, 0, none⟩), .pointer (some ⟨b, 0, none⟩)]), vCall x] w fun e w' => Does N b cv (mthD d x) w e w' := by
  have P := Lib.hid h
  clear h
  obtain ⟨m, k, n, t⟩ := x
  simp only at hx
  subst hx
  unfold vCall
  have HE := Lib.hid (show mthD d ⟨[83, 116, 97, 114, 116], k, n, t⟩ = startD d from rfl)
  have hta := ta_1_0
  have hmd := method_1_Start b
  have hnl := nilAhead_1_Start b
  have HB2 := Lib.hid (show ∀ o1 o2, Below w.heap.size w ((w.alloc o1).alloc o2) from fun o1 o2 => ((Below.refl _ _).alloc (Nat.le_refl _) _).alloc (by simp) _)
  have HC := Lib.hid (fun W (HB : Below w.heap.size w W) => start_c N b cv d W (P.out.st.below HB) P.out.hr)
  rw [HE.out]
  clear HE
  generalize startD d = out at *
  go_enter Tryz.func101, Tryz.ntmps101
  go_wp2_with fail
  refine (HC.out _ (HB2.out _ _)).mono ?_
  rintro e w1 hd
  obtain ⟨rfl, hf, hc, hz⟩ := fin_of (n := w.heap.size + 1) P.out.st (HB2.out _ _) (by omega) ⟨_, heap_two _ _ _⟩ hd
  have HF := Lib.hid hf
  clear hf hd
  clear HC
  obtain ⟨d1, r0, r1, r2, r3, r4⟩ := out
  unfold vReply
  simp only at *
  have hc0 := hc 0
  have hc1 := hc 1
  have hc2 := hc 2
  have hc3 := hc 3
  have hc4 := hc 4
  simp at hc0 hc1 hc2 hc3 hc4 hz
  clear hc
  go_wp2_with fail
  refine bodyPost_ret (v := vReply ⟨r0, r1, r2, r3, r4⟩) (by simp [results, Tryz.results101, go_sem, vReply, cell_set_at, cell_set_ne, hc0, hc1, hc2, hc3, hc4]) rfl ?_
  refine fin_does (n := w.heap.size + 1) ?_
  repeat (with_reducible refine fin_set ?_ _ _)
  exact HF.out
set_option maxRecDepth 100000 in
set_option maxHeartbeats 1600000 in
theorem try_1_Stop (N b : Nat) (cv : Value) (d : CoreD) (x : CallD) (mx : Int) (w : World) (h : Pre N b cv d x mx w) (hx : x.fMethod = [83, 116, 111, 112]) :
    Calls Tryz.prog 101 #[.iface 129 (.agg #[.pointer (some ⟨b, 0, none⟩), .pointer (some ⟨b, 0, none⟩)]), vCall x] w fun e w' => Does N b cv (mthD d x) w e w' := by
  have P := Lib.hid h
  clear h
  obtain ⟨m, k, n, t⟩ := x
  simp only at hx
  subst hx
  unfold vCall
  have HE := Lib.hid (show mthD d ⟨[83, 116, 111, 112], k, n, t⟩ = stopD d from rfl)
  have hta := ta_1_0
  have hmd := method_1_Stop b
  have hnl := nilAhead_1_Stop b
  have HB2 := Lib.hid (show ∀ o1 o2, Below w.heap.size w ((w.alloc o1).alloc o2) from fun o1 o2 => ((Below.refl _ _).alloc (Nat.le_refl _) _).alloc (by simp) _)
  have HC := Lib.hid (fun W (HB : Below w.heap.size w W) => stop_c N b cv d W (P.out.st.below HB) P.out.hr)
  rw [HE.out]
  clear HE
  generalize stopD d = out at *
  go_enter Tryz.func101, Tryz.ntmps101
  go_wp2_with fail
  refine (HC.out _ (HB2.out _ _)).mono ?_
  rintro e w1 hd
  obtain ⟨rfl, hf, hc, hz⟩ := fin_of (n := w.heap.size + 1) P.out.st (HB2.out _ _) (by omega) ⟨_, heap_two _ _ _⟩ hd
  have HF := Lib.hid hf
  clear hf hd
  clear HC
  obtain ⟨d1, r0, r1, r2, r3, r4⟩ := out
  unfold vReply
  simp only at *
  have hc0 := hc 0
  have hc1 := hc 1
  have hc2 := hc 2
  have hc3 := hc 3
  have hc4 := hc 4
  simp at hc0 hc1 hc2 hc3 hc4 hz
  clear hc
  go_wp2_with fail
  refine bodyPost_ret (v := vReply ⟨r0, r1, r2, r3, r4⟩) (by simp [results, Tryz.results101, go_sem, vReply, cell_set_at, cell_set_ne, hc0, hc1, hc2, hc3, hc4]) rfl ?_
  refine fin_does (n := w.heap.size + 1) ?_
  repeat (with_reducible refine fin_set ?_ _ _)
  exact HF.out
set_option maxRecDepth 100000 in
set_option maxHeartbeats 1600000 in
theorem try_1_Get (N b : Nat) (cv : Value) (d : CoreD) (x : CallD) (mx : Int) (w : World) (h : Pre N b cv d x mx w) (hx : x.fMethod = [71, 101, 116]) :
    Calls Tryz.prog 101 #[.iface 129 (.agg #[.pointer (some ⟨b, 0, none⟩), .pointer (some ⟨b, 0, none⟩)]), vCall x] w fun e w' => Panics w e w' := by
  have P := Lib.hid h
  clear h
  obtain ⟨m, k, n, t⟩ := x
  simp only at hx
  subst hx
  unfold vCall
  obtain ⟨c, E, hta⟩ := ta_1_1
  go_enter Tryz.func101, Tryz.ntmps101
  go_wp2_with fail
  refine wp_region_any (by kernel_rfl) ?_
  change wpAny _ _ _ _ _ _ _ (World.drew _)
  refine wpAny_take (i := 0) (v := ?_) rfl (by kernel_rfl) (by kernel_rfl) (by kernel_rfl) (fun _ _ _ h => h) (Or.inl ⟨by rfl, ?_⟩) ?_
  rotate_left
  · intro w; go_simp; try (with_reducible rfl)
  refine wpAny_take (i := 2) (v := ?_) rfl (by kernel_rfl) (by kernel_rfl) (by kernel_rfl) (fun _ _ _ h => h) (Or.inl ⟨by rfl, ?_⟩) ?_
  rotate_left
  · intro w; go_simp; try (with_reducible rfl)
  refine wpAny_ready (rs := [1, 3]) (by kernel_rfl) (by simp) ?_
  refine AllReady.cons rfl (fun K hK => ?_) ?_
  · go_simp
    exact ⟨rfl, _, rfl, by repeat (first | with_reducible exact Below.refl _ _ | with_reducible refine Below.alloc ?_ (by simp; try omega) _ | with_reducible refine Below.drew ?_ | with_reducible refine below_drewN ?_ _)⟩
  refine AllReady.cons rfl (fun K hK => ?_) ?_
  · go_simp
    refine hK _ _ ?_
    clear hK K
    refine wpAny_ready (rs := [1]) (by kernel_rfl) (by simp) ?_
    refine AllReady.cons rfl (fun K hK => ?_) ?_
    · go_simp
      exact ⟨rfl, _, rfl, by repeat (first | with_reducible exact Below.refl _ _ | with_reducible refine Below.alloc ?_ (by simp; try omega) _ | with_reducible refine Below.drew ?_ | with_reducible refine below_drewN ?_ _)⟩
    exact AllReady.nil
  exact AllReady.nil
set_option maxRecDepth 100000 in
set_option maxHeartbeats 1600000 in
theorem try_1_Put (N b : Nat) (cv : Value) (d : CoreD) (x : CallD) (mx : Int) (w : World) (h : Pre N b cv d x mx w) (hx : x.fMethod = [80, 117, 116]) :
    Calls Tryz.prog 101 #[.iface 129 (.agg #[.pointer (some ⟨b, 0, none⟩), .pointer (some ⟨b, 0, none⟩)]), vCall x] w fun e w' => Panics w e w' := by
  have P := Lib.hid h
  clear h
  obtain ⟨m, k, n, t⟩ := x
  simp only at hx
  subst hx
  unfold vCall
  obtain ⟨c, E, hta⟩ := ta_1_1
  go_enter Tryz.func101, Tryz.ntmps101
  go_wp2_with fail
  refine wp_region_any (by kernel_rfl) ?_
  change wpAny _ _ _ _ _ _ _ (World.drew _)
  refine wpAny_take (i := 0) (v := ?_) rfl (by kernel_rfl) (by kernel_rfl) (by kernel_rfl) (fun _ _ _ h => h) (Or.inl ⟨by rfl, ?_⟩) ?_
  rotate_left
  · intro w; go_simp; try (with_reducible rfl)
  refine wpAny_take (i := 2) (v := ?_) rfl (by kernel_rfl) (by kernel_rfl) (by kernel_rfl) (fun _ _ _ h => h) (Or.inl ⟨by rfl, ?_⟩) ?_
  rotate_left
  · intro w; go_simp; try (with_reducible rfl)
  refine wpAny_take (i := 4) (v := ?_) rfl (by kernel_rfl) (by kernel_rfl) (by kernel_rfl) (fun _ _ _ h => h) (Or.inl ⟨by rfl, ?_⟩) ?_
  rotate_left
  · intro w; go_simp; try (with_reducible rfl)
  refine wpAny_ready (rs := [1, 3, 5]) (by kernel_rfl) (by simp) ?_
  refine AllReady.cons rfl (fun K hK => ?_) ?_
  · go_simp
    exact ⟨rfl, _, rfl, by repeat (first | with_reducible exact Below.refl _ _ | with_reducible refine Below.alloc ?_ (by simp; try omega) _ | with_reducible refine Below.drew ?_ | with_reducible refine below_drewN ?_ _)⟩
  refine AllReady.cons rfl (fun K hK => ?_) ?_
  · go_simp
    refine hK _ _ ?_
    clear hK K
    refine wpAny_ready (rs := [1, 5]) (by kernel_rfl) (by simp) ?_
    refine AllReady.cons rfl (fun K hK => ?_) ?_
    · go_simp
      exact ⟨rfl, _, rfl, by repeat (first | with_reducible exact Below.refl _ _ | with_reducible refine Below.alloc ?_ (by simp; try omega) _ | with_reducible refine Below.drew ?_ | with_reducible refine below_drewN ?_ _)⟩
    refine AllReady.cons rfl (fun K hK => ?_) ?_
    · go_simp
      refine hK _ _ ?_
      clear hK K
      refine wpAny_ready (rs := [1]) (by kernel_rfl) (by simp) ?_
      refine AllReady.cons rfl (fun K hK => ?_) ?_
      · go_simp
        exact ⟨rfl, _, rfl, by repeat (first | with_reducible exact Below.refl _ _ | with_reducible refine Below.alloc ?_ (by simp; try omega) _ | with_reducible refine Below.drew ?_ | with_reducible refine below_drewN ?_ _)⟩
      exact AllReady.nil
    exact AllReady.nil
  refine AllReady.cons rfl (fun K hK => ?_) ?_
  · go_simp
    refine hK _ _ ?_
    clear hK K
    refine wpAny_ready (rs := [1, 3]) (by kernel_rfl) (by simp) ?_
    refine AllReady.cons rfl (fun K hK => ?_) ?_
    · go_simp
      exact ⟨rfl, _, rfl, by repeat (first | with_reducible exact Below.refl _ _ | with_reducible refine Below.alloc ?_ (by simp; try omega) _ | with_reducible refine Below.drew ?_ | with_reducible refine below_drewN ?_ _)⟩
    refine AllReady.cons rfl (fun K hK => ?_) ?_
    · go_simp
      refine hK _ _ ?_
      clear hK K
      refine wpAny_ready (rs := [1]) (by kernel_rfl) (by simp) ?_
      refine AllReady.cons rfl (fun K hK => ?_) ?_
      · go_simp
        exact ⟨rfl, _, rfl, by repeat (first | with_reducible exact Below.refl _ _ | with_reducible refine Below.alloc ?_ (by simp; try omega) _ | with_reducible refine Below.drew ?_ | with_reducible refine below_drewN ?_ _)⟩
      exact AllReady.nil
    exact AllReady.nil
  exact AllReady.nil
set_option maxRecDepth 100000 in
set_option maxHeartbeats 1600000 in
theorem try_1_Tell (N b : Nat) (cv : Value) (d : CoreD) (x : CallD) (mx : Int) (w : World) (h : Pre N b cv d x mx w) (hx : x.fMethod = [84, 101, 108, 108]) :
    Calls Tryz.prog 101 #[.iface 129 (.agg #[.pointer (some ⟨b, 0, none⟩), .pointer (some ⟨b, 0, none⟩)]), vCall x] w fun e w' => Panics w e w' := by
  have P := Lib.hid h
  clear h
  obtain ⟨m, k, n, t⟩ := x
  simp only at hx
  subst hx
  unfold vCall
  obtain ⟨c, E, hta⟩ := ta_1_2
  go_enter Tryz.func101, Tryz.ntmps101
  go_wp2_with fail
  exact ⟨rfl, _, rfl, by repeat (first | with_reducible exact Below.refl _ _ | with_reducible refine Below.alloc ?_ (by simp; try omega) _)⟩
set_option maxRecDepth 100000 in
set_option maxHeartbeats 1600000 in
theorem try_1_Hear (N b : Nat) (cv : Value) (d : CoreD) (x : CallD) (mx : Int) (w : World) (h : Pre N b cv d x mx w) (hx : x.fMethod = [72, 101, 97, 114]) :
    Calls Tryz.prog 101 #[.iface 129 (.agg #[.pointer (some ⟨b, 0, none⟩), .pointer (some ⟨b, 0, none⟩)]), vCall x] w fun e w' => Panics w e w' := by
  have P := Lib.hid h
  clear h
  obtain ⟨m, k, n, t⟩ := x
  simp only at hx
  subst hx
  unfold vCall
  obtain ⟨c, E, hta⟩ := ta_1_3
  go_enter Tryz.func101, Tryz.ntmps101
  go_wp2_with fail
  refine wp_region_any (by kernel_rfl) ?_
  change wpAny _ _ _ _ _ _ _ (World.drew _)
  refine wpAny_take (i := 0) (v := ?_) rfl (by kernel_rfl) (by kernel_rfl) (by kernel_rfl) (fun _ _ _ h => h) (Or.inl ⟨by rfl, ?_⟩) ?_
  rotate_left
  · intro w; go_simp; try (with_reducible rfl)
  refine wpAny_take (i := 2) (v := ?_) rfl (by kernel_rfl) (by kernel_rfl) (by kernel_rfl) (fun _ _ _ h => h) (Or.inl ⟨by rfl, ?_⟩) ?_
  rotate_left
  · intro w; go_simp; try (with_reducible rfl)
  refine wpAny_ready (rs := [1, 3]) (by kernel_rfl) (by simp) ?_
  refine AllReady.cons rfl (fun K hK => ?_) ?_
  · go_simp
    exact ⟨rfl, _, rfl, by repeat (first | with_reducible exact Below.refl _ _ | with_reducible refine Below.alloc ?_ (by simp; try omega) _ | with_reducible refine Below.drew ?_ | with_reducible refine below_drewN ?_ _)⟩
  refine AllReady.cons rfl (fun K hK => ?_) ?_
  · go_simp
    refine hK _ _ ?_
    clear hK K
    refine wpAny_ready (rs := [1]) (by kernel_rfl) (by simp) ?_
    refine AllReady.cons rfl (fun K hK => ?_) ?_
    · go_simp
      exact ⟨rfl, _, rfl, by repeat (first | with_reducible exact Below.refl _ _ | with_reducible refine Below.alloc ?_ (by simp; try omega) _ | with_reducible refine Below.drew ?_ | with_reducible refine below_drewN ?_ _)⟩
    exact AllReady.nil
  exact AllReady.nil
set_option maxRecDepth 100000 in
set_option maxHeartbeats 1600000 in
theorem try_1_Load (N b : Nat) (cv : Value) (d : CoreD) (x : CallD) (mx : Int) (w : World) (h : Pre N b cv d x mx w) (hx : x.fMethod = [76, 111, 97, 100]) :
    Calls Tryz.prog 101 #[.iface 129 (.agg #[.pointer (some ⟨b, 0, none⟩), .pointer (some ⟨b, 0, none⟩)]), vCall x] w fun e w' => Panics w e w' := by
  have P := Lib.hid h
  clear h
  obtain ⟨m, k, n, t⟩ := x
  simp only at hx
  subst hx
  unfold vCall
  obtain ⟨c, E, hta⟩ := ta_1_4
  go_enter Tryz.func101, Tryz.ntmps101
  go_wp2_with fail
  refine wp_region_any (by kernel_rfl) ?_
  change wpAny _ _ _ _ _ _ _ (World.drew _)
  refine wpAny_take (i := 0) (v := ?_) rfl (by kernel_rfl) (by kernel_rfl) (by kernel_rfl) (fun _ _ _ h => h) (Or.inl ⟨by rfl, ?_⟩) ?_
  rotate_left
  · intro w; go_simp; try (with_reducible rfl)
  refine wpAny_take (i := 2) (v := ?_) rfl (by kernel_rfl) (by kernel_rfl) (by kernel_rfl) (fun _ _ _ h => h) (Or.inl ⟨by rfl, ?_⟩) ?_
  rotate_left
  · intro w; go_simp; try (with_reducible rfl)
  refine wpAny_ready (rs := [1, 3]) (by kernel_rfl) (by simp) ?_
  refine AllReady.cons rfl (fun K hK => ?_) ?_
  · go_simp
    exact ⟨rfl, _, rfl, by repeat (first | with_reducible exact Below.refl _ _ | with_reducible refine Below.alloc ?_ (by simp; try omega) _ | with_reducible refine Below.drew ?_ | with_reducible refine below_drewN ?_ _)⟩
  refine AllReady.cons rfl (fun K hK => ?_) ?_
  · go_simp
    refine hK _ _ ?_
    clear hK K
    refine wpAny_ready (rs := [1]) (by kernel_rfl) (by simp) ?_
    refine AllReady.cons rfl (fun K hK => ?_) ?_
    · go_simp
      exact ⟨rfl, _, rfl, by repeat (first | with_reducible exact Below.refl _ _ | with_reducible refine Below.alloc ?_ (by simp; try omega) _ | with_reducible refine Below.drew ?_ | with_reducible refine below_drewN ?_ _)⟩
    exact AllReady.nil
  exact AllReady.nil
set_option maxRecDepth 100000 in
set_option maxHeartbeats 1600000 in
theorem try_1_Save (N b : Nat) (cv : Value) (d : CoreD) (x : CallD) (mx : Int) (w : World) (h : Pre N b cv d x mx w) (hx : x.fMethod = [83, 97, 118, 101]) :
    Calls Tryz.prog 101 #[.iface 129 (.agg #[.pointer (some ⟨b, 0, none⟩), .pointer (some ⟨b, 0, none⟩)]), vCall x] w fun e w' => Panics w e w' := by
  have P := Lib.hid h
  clear h
  obtain ⟨m, k, n, t⟩ := x
  simp only at hx
  subst hx
  unfold vCall
  obtain ⟨c, E, hta⟩ := ta_1_4
  go_enter Tryz.func101, Tryz.ntmps101
  go_wp2_with fail
  exact ⟨rfl, _, rfl, by repeat (first | with_reducible exact Below.refl _ _ | with_reducible refine Below.alloc ?_ (by simp; try omega) _)⟩
set_option maxRecDepth 100000 in
set_option maxHeartbeats 1600000 in
theorem try_1_Heal (N b : Nat) (cv : Value) (d : CoreD) (x : CallD) (mx : Int) (w : World) (h : Pre N b cv d x mx w) (hx : x.fMethod = [72, 101, 97, 108]) :
    Calls Tryz.prog 101 #[.iface 129 (.agg #[.pointer (some ⟨b, 0, none⟩), .pointer (some ⟨b, 0, none⟩)]), vCall x] w fun e w' => Panics w e w' := by
  have P := Lib.hid h
  clear h
  obtain ⟨m, k, n, t⟩ := x
  simp only at hx
  subst hx
  unfold vCall
  obtain ⟨c, E, hta⟩ := ta_1_5
  go_enter Tryz.func101, Tryz.ntmps101
  go_wp2_with fail
  exact ⟨rfl, _, rfl, by repeat (first | with_reducible exact Below.refl _ _ | with_reducible refine Below.alloc ?_ (by simp; try omega) _)⟩
end Go.Proofs.YtghebbndfpbkcaaGreat
/- Calls, plain; takesKey, takesValue, takesText, WantOf. Written by gen/ch3calls.py. -/
namespace Go.Proofs.YtghebbndfpbkcaaGreat
set_option linter.unusedVariables false
open Go.RowKit
abbrev mStart : List UInt8 := [83, 116, 97, 114, 116]
abbrev mStop : List UInt8 := [83, 116, 111, 112]
abbrev mGet : List UInt8 := [71, 101, 116]
abbrev mPut : List UInt8 := [80, 117, 116]
abbrev mTell : List UInt8 := [84, 101, 108, 108]
abbrev mHear : List UInt8 := [72, 101, 97, 114]
abbrev mLoad : List UInt8 := [76, 111, 97, 100]
abbrev mSave : List UInt8 := [83, 97, 118, 101]
abbrev mHeal : List UInt8 := [72, 101, 97, 108]
def takesK (m : List UInt8) : Bool := m == mGet || m == mPut
def takesV (m : List UInt8) : Bool := m == mPut || m == mHear
def takesT (m : List UInt8) : Bool := m == mLoad
def callB (d : CallD) : Bool := (wantF d.fMethod != 0) && (if takesK d.fMethod then nameB d.fKey else d.fKey.isEmpty) && (if takesV d.fMethod then numB d.fValue else d.fValue == 0) && (d.fText.isEmpty || takesT d.fMethod)
/-- a text is one of the nine methods, or wants nothing and is none of them -/
theorem meth_cases (m : List UInt8) : m = mStart ∨ m = mStop ∨ m = mGet ∨ m = mPut ∨ m = mTell ∨ m = mHear ∨ m = mLoad ∨ m = mSave ∨ m = mHeal ∨ (wantF m = 0 ∧ m ≠ mStart ∧ m ≠ mStop ∧ m ≠ mGet ∧ m ≠ mPut ∧ m ≠ mTell ∧ m ≠ mHear ∧ m ≠ mLoad ∧ m ≠ mSave ∧ m ≠ mHeal) := by
  by_cases h : wantF m = 0
  · iterate 9 right
    refine ⟨h, ?_, ?_, ?_, ?_, ?_, ?_, ?_, ?_, ?_⟩ <;> (rintro rfl; exact absurd h (by decide))
  · unfold wantF at h
    rcases findK_bd (fun k => decide (m ∈ mthN k)) 6 0 with e | ⟨j, e, hj, hm⟩
    · exact absurd (show wantI (abOfM m) = 0 by unfold abOfM; rw [e]; rfl) h
    · have hm := of_decide_eq_true hm
      rcases (show j = 0 ∨ j = 1 ∨ j = 2 ∨ j = 3 ∨ j = 4 ∨ j = 5 by omega) with rfl | rfl | rfl | rfl | rfl | rfl <;> simp [mthN] at hm <;> (first | (rcases hm with hm | hm <;> subst hm <;> decide) | (subst hm; decide))
set_option maxHeartbeats 800000 in
theorem takesKey_any (m : List UInt8) (w : World) : Calls Tryz.prog 97 #[.string ⟨m.toArray⟩] w fun e w' => e = .returned (.bool (takesK m)) ∧ w = w' := by
  by_cases hGet : m = mGet
  · subst hGet
    go_enter Tryz.func97, Tryz.ntmps97
    go_wp2
    go_ret
    exact ⟨rfl, rfl⟩
  by_cases hPut : m = mPut
  · subst hPut
    go_enter Tryz.func97, Tryz.ntmps97
    go_wp2
    go_ret
    exact ⟨rfl, rfl⟩
  have bGet : (m == [71, 101, 116]) = false := by simpa using hGet
  have bPut : (m == [80, 117, 116]) = false := by simpa using hPut
  have HR := Lib.hid (show takesK m = false by simp only [takesK, bGet, bPut] <;> rfl)
  clear hGet hPut
  go_enter Tryz.func97, Tryz.ntmps97
  go_wp2
  go_ret
  exact ⟨ret_bool HR.out.symm, rfl⟩
theorem takesKey_b (m : List UInt8) (x : Bool) (h : takesK m = x) (w : World) : Calls Tryz.prog 97 #[.string ⟨m.toArray⟩] w fun e w' => e = .returned (.bool x) ∧ w = w' := by subst h; exact takesKey_any m w
set_option maxHeartbeats 800000 in
theorem takesValue_any (m : List UInt8) (w : World) : Calls Tryz.prog 98 #[.string ⟨m.toArray⟩] w fun e w' => e = .returned (.bool (takesV m)) ∧ w = w' := by
  by_cases hPut : m = mPut
  · subst hPut
    go_enter Tryz.func98, Tryz.ntmps98
    go_wp2
    go_ret
    exact ⟨rfl, rfl⟩
  by_cases hHear : m = mHear
  · subst hHear
    go_enter Tryz.func98, Tryz.ntmps98
    go_wp2
    go_ret
    exact ⟨rfl, rfl⟩
  have bPut : (m == [80, 117, 116]) = false := by simpa using hPut
  have bHear : (m == [72, 101, 97, 114]) = false := by simpa using hHear
  have HR := Lib.hid (show takesV m = false by simp only [takesV, bPut, bHear] <;> rfl)
  clear hPut hHear
  go_enter Tryz.func98, Tryz.ntmps98
  go_wp2
  go_ret
  exact ⟨ret_bool HR.out.symm, rfl⟩
theorem takesValue_b (m : List UInt8) (x : Bool) (h : takesV m = x) (w : World) : Calls Tryz.prog 98 #[.string ⟨m.toArray⟩] w fun e w' => e = .returned (.bool x) ∧ w = w' := by subst h; exact takesValue_any m w
set_option maxHeartbeats 800000 in
theorem takesText_any (m : List UInt8) (w : World) : Calls Tryz.prog 99 #[.string ⟨m.toArray⟩] w fun e w' => e = .returned (.bool (takesT m)) ∧ w = w' := by
  by_cases hLoad : m = mLoad
  · subst hLoad
    go_enter Tryz.func99, Tryz.ntmps99
    go_wp2
    go_ret
    exact ⟨rfl, rfl⟩
  have bLoad : (m == [76, 111, 97, 100]) = false := by simpa using hLoad
  have HR := Lib.hid (show takesT m = false by simp only [takesT, bLoad] <;> rfl)
  clear hLoad
  go_enter Tryz.func99, Tryz.ntmps99
  go_wp2
  go_ret
  exact ⟨ret_bool HR.out.symm, rfl⟩
theorem takesText_b (m : List UInt8) (x : Bool) (h : takesT m = x) (w : World) : Calls Tryz.prog 99 #[.string ⟨m.toArray⟩] w fun e w' => e = .returned (.bool x) ∧ w = w' := by subst h; exact takesText_any m w
set_option maxHeartbeats 800000 in
theorem implWant_any (s : ByteArray) (w : World) :
    Calls Tryz.prog 96 #[.string s] w fun e w' => e = .returned (.int .i64 (wantF s.data.toList)) ∧ Below w.heap.size w w' := by
  have HA := Lib.hid (implAbilityOfMethod_any s)
  have hb := abOfM_bd s.data.toList
  unfold wantF
  generalize abOfM s.data.toList = k at *
  rcases hb with rfl | ⟨j, rfl, hj⟩
  · go_enter Tryz.func96, Tryz.ntmps96
    go_wp2_with fail
    refine (HA.out w).mono ?_
    rintro e w1 ⟨rfl, hb⟩
    go_wp2_with fail
    go_ret
    exact ⟨rfl, hb⟩
  · have HP := Lib.hid (show wrap64 (2 ^ j) = wantI (j : Nat) by unfold wantI; rw [if_neg (by omega), pow_of j hj]; simp)
    go_enter Tryz.func96, Tryz.ntmps96
    go_wp2_with fail
    refine (HA.out w).mono ?_
    rintro e w1 ⟨rfl, hb⟩
    go_wp2_with fail
    go_ret
    exact ⟨ret_int HP.out, hb⟩
theorem implWant_b (m : List UInt8) (x : Int) (h : wantF m = x) (w : World) : Calls Tryz.prog 96 #[.string ⟨m.toArray⟩] w fun e w' => e = .returned (.int .i64 x) ∧ Below w.heap.size w w' := by
  subst h; exact implWant_any ⟨m.toArray⟩ w
theorem specWant_b (m : List UInt8) (x : Int) (h : wantF m = x) (w : World) : Calls Tryz.prog 53 #[.string ⟨m.toArray⟩] w fun e w' => e = .returned (.int .i64 x) ∧ Below w.heap.size w w' := by
  subst h; exact specWant_any ⟨m.toArray⟩ w
end Go.Proofs.YtghebbndfpbkcaaGreat
/- The door: the deferred function literal (a panic behind it, none behind it), deliverCall. Written by gen/ch3del.py. -/
namespace Go.Proofs.YtghebbndfpbkcaaGreat
set_option linter.unusedVariables false
set_option linter.unusedSimpArgs false
open Go.RowKit
set_option maxHeartbeats 800000 in
theorem bodyName_d (b : Nat) (k : List UInt8) (w : World) (h : w.cell? ⟨b, 0, none⟩ = some (.string ⟨k.toArray⟩)) :
    Calls Tryz.prog 139 #[.agg #[.pointer (some ⟨b, 0, none⟩)]] w fun e w' => e = .returned (.string ⟨k.toArray⟩) ∧ Below w.heap.size w w' := by
  have hl := World.block_lt_of_cell? w _ h
  simp only at hl
  have hne : ¬ b = w.heap.size := by omega
  go_enter Tryz.func139, Tryz.ntmps139
  go_wp2_with fail
  go_ret
  exact ⟨rfl, (Below.refl _ _).alloc (Nat.le_refl _) _⟩
set_option maxHeartbeats 800000 in
theorem face_c (b : Nat) (cv : Value) (d : CoreD) (w : World) (h : CoreBox w b cv d) :
    Calls Tryz.prog 138 #[.agg #[.pointer (some ⟨b, 0, none⟩)]] w fun e w' => e = .returned (.int .i64 (coreF d)) ∧ Below w.heap.size w w' := by
  have HB1 := Lib.hid (show Below w.heap.size w (w.alloc (.cells #[.pointer (some ⟨b, 0, none⟩)] 126)) from (Below.refl _ _).alloc (Nat.le_refl _) _)
  have HN := Lib.hid (bodyName_d b d.fKind (w.alloc (.cells #[.pointer (some ⟨b, 0, none⟩)] 126)) ((HB1.out.cell (p := ⟨b, 0, none⟩) h.lt).trans h.c0))
  have HK := Lib.hid (implKind_any ⟨d.fKind.toArray⟩)
  simp only [List.toList_toArray] at HK
  unfold kfV at HK
  have HF := Lib.hid (show coreF d = kfI (kindI d.fKind) from rfl)
  generalize kfI (kindI d.fKind) = f at *
  generalize decide (0 ≤ kindI d.fKind) = q at *
  clear h
  go_enter Tryz.func138, Tryz.ntmps138
  go_wp2_with fail
  refine HN.out.mono ?_
  rintro e w1 ⟨rfl, hb⟩
  have HB := Lib.hid (HB1.out.trans (hb.mono HB1.out.size))
  clear hb
  go_wp2_with fail
  refine (HK.out _).mono ?_
  rintro e w1 ⟨rfl, rfl⟩
  go_wp2_with fail
  go_ret
  exact ⟨ret_int HF.out.symm, HB.out⟩
/-- the closure's boxes: the call at nx, the part at np, the reply at nr -/
structure Boxes (nx np nr : Nat) (x : CallD) (pt : Value) (w : World) : Prop where
  x0 : w.cell? ⟨nx, 0, none⟩ = some (.string ⟨x.fMethod.toArray⟩)
  p0 : w.cell? ⟨np, 0, none⟩ = some pt
  r : ∀ o, o < 5 → (w.cell? ⟨nr, o, none⟩).isSome = true
  z : ∀ o, w.frozen? ⟨nr, o, none⟩ = false
theorem Boxes.below {nx np nr : Nat} {x : CallD} {pt : Value} {w w' : World} (h : Boxes nx np nr x pt w) (hb : Below w.heap.size w w') : Boxes nx np nr x pt w' := by
  have hr : nr < w.heap.size := by
    obtain ⟨v, hv⟩ := Option.isSome_iff_exists.1 (h.r 0 (by decide))
    exact World.block_lt_of_cell? w _ hv
  exact ⟨(hb.cell (p := ⟨nx, 0, none⟩) (World.block_lt_of_cell? w _ h.x0)).trans h.x0, (hb.cell (p := ⟨np, 0, none⟩) (World.block_lt_of_cell? w _ h.p0)).trans h.p0,
    fun o ho => by rw [hb.cell (p := ⟨nr, o, none⟩) hr]; exact h.r o ho, fun o => (hb.frozen (p := ⟨nr, o, none⟩) hr).trans (h.z o)⟩
def put5 (w : World) (n : Nat) (r : ReplyD) : World := ((((w.setCell ⟨n, 0, none⟩ (.int .i64 r.fCode)).setCell ⟨n, 1, none⟩ (.int .i64 r.fValue)).setCell ⟨n, 2, none⟩ (.string ⟨r.fText.toArray⟩)).setCell ⟨n, 3, none⟩ (.int .i64 r.fWant)).setCell ⟨n, 4, none⟩ (.int .i64 r.fHad)
theorem catch_idle (a1 a2 a3 : Value) (w : World) :
    CallsD Tryz.prog 100 #[a1, a2, a3] .returning w fun e u' w' => e = .returned (.tuple #[]) ∧ u' = .returning ∧ w' = w := by
  refine callsD_of_wpS Tryz.func100 rfl fun c₀ cs hu => ?_
  apply wpS_seq
  apply wpS_region
  simp [wpOpsS, go_sem, recoverD, hu, Tryz.ntmps100, Exit.thenS]
  refine wpS_cond (t := false) (by simp [Act.eval, Array.replicate]) ?_
  simp only [Bool.false_eq_true, if_false]
  refine wpS_of_wp (wp_skip ?_)
  cases c₀
  simp_all [bodyPostS, results, Tryz.results100]
end Go.Proofs.YtghebbndfpbkcaaGreat
/- The deferred function literal behind a panic, by kind. Written by gen/ch3del.py. -/
namespace Go.Proofs.YtghebbndfpbkcaaGreat
set_option linter.unusedVariables false
set_option linter.unusedSimpArgs false
open Go.RowKit
set_option maxRecDepth 100000 in
set_option maxHeartbeats 1600000 in
theorem catch_0 (b : Nat) (cv : Value) (d : CoreD) (x : CallD) (nx np nr : Nat) (pv : Value) (w : World) (h : CoreBox w b cv d) (hb : Boxes nx np nr x (partV b 0) w) :
    CallsD Tryz.prog 100 #[.pointer (some ⟨nx, 0, none⟩), .pointer (some ⟨np, 0, none⟩), .pointer (some ⟨nr, 0, none⟩)] (.panicking ({ v := .iface Tryz.prog.rt.typeAssertionError pv, recovered := false } :: [])) w fun e u' w' =>
      e = .returned (.tuple #[]) ∧ u' = .panicking ({ v := .iface Tryz.prog.rt.typeAssertionError pv, recovered := true } :: []) ∧ ∃ w1, Below w.heap.size w w1 ∧ w' = put5 w1 nr ⟨1, 0, [], wantF x.fMethod, coreF d⟩ := by
  have HX := Lib.hid hb
  have HC := Lib.hid h
  have x0 := hb.x0
  have p0 := hb.p0
  unfold partV at p0
  have HW := Lib.hid (fun W => implWant_any ⟨x.fMethod.toArray⟩ W)
  simp only [List.toList_toArray] at HW
  have HF := Lib.hid (fun W (hw : Below w.heap.size w W) => face_c b cv d W (HC.out.keep (hw.block b HC.out.lt)))
  have hfm := face_0 b
  have hfn := faceNil_0 b
  generalize wantF x.fMethod = want at *
  generalize coreF d = had at *
  clear h hb
  refine callsD_of_wpS Tryz.func100 rfl fun c₀ cs hu => ?_
  apply wpS_seq
  apply wpS_region
  simp [wpOpsS, go_sem, recoverD, hu, Tryz.ntmps100, Exit.thenS]
  refine wpS_cond (t := true) (by simp [Act.eval, Array.replicate]) ?_
  simp only [if_true]
  refine wpS_of_wp ?_
  go_region_with (first
    | (go_at_call 96; refine (HW.out _).mono ?_; rintro e w1 ⟨rfl, hb1⟩; have HB1 := Lib.hid (show Below w.heap.size w w1 from ⟨hb1.os, hb1.tape, hb1.output, hb1.size, hb1.block⟩); have k0 := (HX.out.below HB1.out).p0; clear hb1; simp only [partV] at k0)
    | (go_at_call 138; refine (HF.out _ HB1.out).mono ?_; rintro e w2 ⟨rfl, hb2⟩; have HB2 := Lib.hid (show Below w.heap.size w w2 from HB1.out.trans (hb2.mono HB1.out.size)); clear hb2; have KR := Lib.hid (HX.out.below HB2.out); have y0 := KR.out.z 0; have y1 := KR.out.z 1; have y2 := KR.out.z 2; have y3 := KR.out.z 3; have y4 := KR.out.z 4; obtain ⟨e0, f0⟩ := Option.isSome_iff_exists.1 (KR.out.r 0 (by decide)); obtain ⟨e1, f1⟩ := Option.isSome_iff_exists.1 (KR.out.r 1 (by decide)); obtain ⟨e2, f2⟩ := Option.isSome_iff_exists.1 (KR.out.r 2 (by decide)); obtain ⟨e3, f3⟩ := Option.isSome_iff_exists.1 (KR.out.r 3 (by decide)); obtain ⟨e4, f4⟩ := Option.isSome_iff_exists.1 (KR.out.r 4 (by decide))))
  all_goals
    cases c₀
    simp_all [bodyPostS, results, Tryz.results100]
    exact ⟨w2, HB2.out, rfl⟩
set_option maxRecDepth 100000 in
set_option maxHeartbeats 1600000 in
theorem catch_1 (b : Nat) (cv : Value) (d : CoreD) (x : CallD) (nx np nr : Nat) (pv : Value) (w : World) (h : CoreBox w b cv d) (hb : Boxes nx np nr x (partV b 1) w) :
    CallsD Tryz.prog 100 #[.pointer (some ⟨nx, 0, none⟩), .pointer (some ⟨np, 0, none⟩), .pointer (some ⟨nr, 0, none⟩)] (.panicking ({ v := .iface Tryz.prog.rt.typeAssertionError pv, recovered := false } :: [])) w fun e u' w' =>
      e = .returned (.tuple #[]) ∧ u' = .panicking ({ v := .iface Tryz.prog.rt.typeAssertionError pv, recovered := true } :: []) ∧ ∃ w1, Below w.heap.size w w1 ∧ w' = put5 w1 nr ⟨1, 0, [], wantF x.fMethod, coreF d⟩ := by
  have HX := Lib.hid hb
  have HC := Lib.hid h
  have x0 := hb.x0
  have p0 := hb.p0
  unfold partV at p0
  have HW := Lib.hid (fun W => implWant_any ⟨x.fMethod.toArray⟩ W)
  simp only [List.toList_toArray] at HW
  have HF := Lib.hid (fun W (hw : Below w.heap.size w W) => face_c b cv d W (HC.out.keep (hw.block b HC.out.lt)))
  have hfm := face_1 b
  have hfn := faceNil_1 b
  generalize wantF x.fMethod = want at *
  generalize coreF d = had at *
  clear h hb
  refine callsD_of_wpS Tryz.func100 rfl fun c₀ cs hu => ?_
  apply wpS_seq
  apply wpS_region
  simp [wpOpsS, go_sem, recoverD, hu, Tryz.ntmps100, Exit.thenS]
  refine wpS_cond (t := true) (by simp [Act.eval, Array.replicate]) ?_
  simp only [if_true]
  refine wpS_of_wp ?_
  go_region_with (first
    | (go_at_call 96; refine (HW.out _).mono ?_; rintro e w1 ⟨rfl, hb1⟩; have HB1 := Lib.hid (show Below w.heap.size w w1 from ⟨hb1.os, hb1.tape, hb1.output, hb1.size, hb1.block⟩); have k0 := (HX.out.below HB1.out).p0; clear hb1; simp only [partV] at k0)
    | (go_at_call 138; refine (HF.out _ HB1.out).mono ?_; rintro e w2 ⟨rfl, hb2⟩; have HB2 := Lib.hid (show Below w.heap.size w w2 from HB1.out.trans (hb2.mono HB1.out.size)); clear hb2; have KR := Lib.hid (HX.out.below HB2.out); have y0 := KR.out.z 0; have y1 := KR.out.z 1; have y2 := KR.out.z 2; have y3 := KR.out.z 3; have y4 := KR.out.z 4; obtain ⟨e0, f0⟩ := Option.isSome_iff_exists.1 (KR.out.r 0 (by decide)); obtain ⟨e1, f1⟩ := Option.isSome_iff_exists.1 (KR.out.r 1 (by decide)); obtain ⟨e2, f2⟩ := Option.isSome_iff_exists.1 (KR.out.r 2 (by decide)); obtain ⟨e3, f3⟩ := Option.isSome_iff_exists.1 (KR.out.r 3 (by decide)); obtain ⟨e4, f4⟩ := Option.isSome_iff_exists.1 (KR.out.r 4 (by decide))))
  all_goals
    cases c₀
    simp_all [bodyPostS, results, Tryz.results100]
    exact ⟨w2, HB2.out, rfl⟩
end Go.Proofs.YtghebbndfpbkcaaGreat
/- The door on the kinds shelf, meter. Written by gen/ch3door.py. -/
namespace Go.Proofs.YtghebbndfpbkcaaGreat
set_option linter.unusedVariables false
set_option linter.unusedSimpArgs false
open Go.RowKit
set_option maxRecDepth 100000 in
set_option maxHeartbeats 1600000 in
theorem try_2_Start (N b : Nat) (cv : Value) (d : CoreD) (x : CallD) (mx : Int) (w : World) (h : Pre N b cv d x mx w) (hx : x.fMethod = [83, 116, 97, 114, 116]) :
    Calls Tryz.prog 101 #[.iface 132 (.agg #[.pointer (some ⟨b, 0, none⟩), .pointer (some ⟨b, 0, none⟩)]), vCall x] w fun e w' => Panics w e w' := by
  have P := Lib.hid h
  clear h
  obtain ⟨m, k, n, t⟩ := x
  simp only at hx
  subst hx
  unfold vCall
  obtain ⟨c, E, hta⟩ := ta_2_0
  go_enter Tryz.func101, Tryz.ntmps101
  go_wp2_with fail
  exact ⟨rfl, _, rfl, by repeat (first | with_reducible exact Below.refl _ _ | with_reducible refine Below.alloc ?_ (by simp; try omega) _)⟩
set_option maxRecDepth 100000 in
set_option maxHeartbeats 1600000 in
theorem try_2_Stop (N b : Nat) (cv : Value) (d : CoreD) (x : CallD) (mx : Int) (w : World) (h : Pre N b cv d x mx w) (hx : x.fMethod = [83, 116, 111, 112]) :
    Calls Tryz.prog 101 #[.iface 132 (.agg #[.pointer (some ⟨b, 0, none⟩), .pointer (some ⟨b, 0, none⟩)]), vCall x] w fun e w' => Panics w e w' := by
  have P := Lib.hid h
  clear h
  obtain ⟨m, k, n, t⟩ := x
  simp only at hx
  subst hx
  unfold vCall
  obtain ⟨c, E, hta⟩ := ta_2_0
  go_enter Tryz.func101, Tryz.ntmps101
  go_wp2_with fail
  exact ⟨rfl, _, rfl, by repeat (first | with_reducible exact Below.refl _ _ | with_reducible refine Below.alloc ?_ (by simp; try omega) _)⟩
set_option maxRecDepth 100000 in
set_option maxHeartbeats 1600000 in
theorem try_2_Get (N b : Nat) (cv : Value) (d : CoreD) (x : CallD) (mx : Int) (w : World) (h : Pre N b cv d x mx w) (hx : x.fMethod = [71, 101, 116]) :
    Calls Tryz.prog 101 #[.iface 132 (.agg #[.pointer (some ⟨b, 0, none⟩), .pointer (some ⟨b, 0, none⟩)]), vCall x] w fun e w' => Does N b cv (mthD d x) w e w' := by
  have P := Lib.hid h
  clear h
  obtain ⟨m, k, n, t⟩ := x
  simp only at hx
  subst hx
  unfold vCall
  have HE := Lib.hid (show mthD d ⟨[71, 101, 116], k, n, t⟩ = getD1 d k from rfl)
  have hta := ta_2_1
  have hmd := method_2_Get b
  have hnl := nilAhead_2_Get b
  have HB2 := Lib.hid (show ∀ o1 o2, Below w.heap.size w ((w.alloc o1).alloc o2) from fun o1 o2 => ((Below.refl _ _).alloc (Nat.le_refl _) _).alloc (by simp) _)
  have HC := Lib.hid (fun W (HB : Below w.heap.size w W) => get_c N b cv d k W (P.out.st.below HB) P.out.hm)
  rw [HE.out]
  clear HE
  generalize getD1 d k = out at *
  go_enter Tryz.func101, Tryz.ntmps101
  go_wp2_with fail
  obtain ⟨W, hW⟩ : ∃ W, W = (w.alloc (.cells #[.string ⟨#[71, 101, 116]⟩, .string ⟨k.toArray⟩, .int .i64 n, .string ⟨t.toArray⟩] 28)).alloc (.cells #[.int .i64 0, .int .i64 0, .string ⟨#[]⟩, .int .i64 0, .int .i64 0] 32) := ⟨_, rfl⟩
  rw [← hW]
  have HBW := Lib.hid (show Below w.heap.size w W from by rw [hW]; exact HB2.out _ _)
  have hg := (show W.heap[w.heap.size + 1]? = some (.cells #[.int .i64 0, .int .i64 0, .string ⟨#[]⟩, .int .i64 0, .int .i64 0] 32 (0, 0)) from by rw [hW]; exact heap_two _ _ _)
  have q1 : W.cell? ⟨w.heap.size, 1, none⟩ = some (.string ⟨k.toArray⟩) := by rw [hW]; simp [go_sem]
  have q2 : W.cell? ⟨w.heap.size, 2, none⟩ = some (.int .i64 n) := by rw [hW]; simp [go_sem]
  have q3 : W.cell? ⟨w.heap.size, 3, none⟩ = some (.string ⟨t.toArray⟩) := by rw [hW]; simp [go_sem]
  have r0 : W.cell? ⟨w.heap.size + 1, 0, none⟩ = some (.int .i64 0) := by rw [hW]; simp [go_sem]
  have r1 : W.cell? ⟨w.heap.size + 1, 1, none⟩ = some (.int .i64 0) := by rw [hW]; simp [go_sem]
  have r2 : W.cell? ⟨w.heap.size + 1, 2, none⟩ = some (.string ⟨#[]⟩) := by rw [hW]; simp [go_sem]
  have r3 : W.cell? ⟨w.heap.size + 1, 3, none⟩ = some (.int .i64 0) := by rw [hW]; simp [go_sem]
  have r4 : W.cell? ⟨w.heap.size + 1, 4, none⟩ = some (.int .i64 0) := by rw [hW]; simp [go_sem]
  have HZ := Lib.hid (show ∀ o, W.frozen? ⟨w.heap.size + 1, o, none⟩ = false from fun o => by rw [hW]; simp [go_sem])
  have HG := Lib.hid hg
  clear hW hg
  go_still_tail 4, (by kernel_rfl)
  change wpList _ _ _ _ _ W.drew
  go_wp2_with fail
  refine (HC.out _ (below_drewN HBW.out 1)).mono ?_
  rintro e w1 hd
  obtain ⟨rfl, hf, hc, hz⟩ := fin_of (n := w.heap.size + 1) P.out.st (W := W.drew) (below_drewN HBW.out 1) (by omega) ⟨_, HG.out⟩ hd
  have HF := Lib.hid hf
  clear hf hd HC
  obtain ⟨d1, g0, g1, g2, g3, g4⟩ := out
  unfold vReply
  simp only at *
  have hc0 := (hc 0).trans r0
  have hc1 := (hc 1).trans r1
  have hc2 := (hc 2).trans r2
  have hc3 := (hc 3).trans r3
  have hc4 := (hc 4).trans r4
  have hzz : ∀ o, w1.frozen? ⟨w.heap.size + 1, o, none⟩ = false := fun o => (hz o).trans (HZ.out o)
  clear hc hz r0 r1 r2 r3 r4
  go_wp2_with fail
  refine bodyPost_ret (v := vReply ⟨g0, g1, g2, g3, g4⟩) (by simp [results, Tryz.results101, go_sem, vReply, cell_set_at, cell_set_ne, hc0, hc1, hc2, hc3, hc4]) rfl ?_
  refine fin_does (n := w.heap.size + 1) ?_
  repeat (with_reducible refine fin_set ?_ _ _)
  exact HF.out
set_option maxRecDepth 100000 in
set_option maxHeartbeats 1600000 in
theorem try_2_Put (N b : Nat) (cv : Value) (d : CoreD) (x : CallD) (mx : Int) (w : World) (h : Pre N b cv d x mx w) (hx : x.fMethod = [80, 117, 116]) (PUT : Hid (∀ w, CoreSt N b cv d w → Calls Tryz.prog 144 #[.agg #[.pointer (some ⟨b, 0, none⟩)], .string ⟨x.fKey.toArray⟩, .int .i64 x.fValue] w fun e w' => Does N b cv (putD d x.fKey x.fValue) w e w')) :
    Calls Tryz.prog 101 #[.iface 132 (.agg #[.pointer (some ⟨b, 0, none⟩), .pointer (some ⟨b, 0, none⟩)]), vCall x] w fun e w' => Does N b cv (mthD d x) w e w' := by
  have P := Lib.hid h
  clear h
  obtain ⟨m, k, n, t⟩ := x
  simp only at hx
  subst hx
  unfold vCall
  have HE := Lib.hid (show mthD d ⟨[80, 117, 116], k, n, t⟩ = putD d k n from rfl)
  have hta := ta_2_1
  have hmd := method_2_Put b
  have hnl := nilAhead_2_Put b
  have HB2 := Lib.hid (show ∀ o1 o2, Below w.heap.size w ((w.alloc o1).alloc o2) from fun o1 o2 => ((Below.refl _ _).alloc (Nat.le_refl _) _).alloc (by simp) _)
  have HC := Lib.hid (fun W (HB : Below w.heap.size w W) => PUT.out W (P.out.st.below HB))
  rw [HE.out]
  clear HE
  generalize putD d k n = out at *
  go_enter Tryz.func101, Tryz.ntmps101
  go_wp2_with fail
  obtain ⟨W, hW⟩ : ∃ W, W = (w.alloc (.cells #[.string ⟨#[80, 117, 116]⟩, .string ⟨k.toArray⟩, .int .i64 n, .string ⟨t.toArray⟩] 28)).alloc (.cells #[.int .i64 0, .int .i64 0, .string ⟨#[]⟩, .int .i64 0, .int .i64 0] 32) := ⟨_, rfl⟩
  rw [← hW]
  have HBW := Lib.hid (show Below w.heap.size w W from by rw [hW]; exact HB2.out _ _)
  have hg := (show W.heap[w.heap.size + 1]? = some (.cells #[.int .i64 0, .int .i64 0, .string ⟨#[]⟩, .int .i64 0, .int .i64 0] 32 (0, 0)) from by rw [hW]; exact heap_two _ _ _)
  have q1 : W.cell? ⟨w.heap.size, 1, none⟩ = some (.string ⟨k.toArray⟩) := by rw [hW]; simp [go_sem]
  have q2 : W.cell? ⟨w.heap.size, 2, none⟩ = some (.int .i64 n) := by rw [hW]; simp [go_sem]
  have q3 : W.cell? ⟨w.heap.size, 3, none⟩ = some (.string ⟨t.toArray⟩) := by rw [hW]; simp [go_sem]
  have r0 : W.cell? ⟨w.heap.size + 1, 0, none⟩ = some (.int .i64 0) := by rw [hW]; simp [go_sem]
  have r1 : W.cell? ⟨w.heap.size + 1, 1, none⟩ = some (.int .i64 0) := by rw [hW]; simp [go_sem]
  have r2 : W.cell? ⟨w.heap.size + 1, 2, none⟩ = some (.string ⟨#[]⟩) := by rw [hW]; simp [go_sem]
  have r3 : W.cell? ⟨w.heap.size + 1, 3, none⟩ = some (.int .i64 0) := by rw [hW]; simp [go_sem]
  have r4 : W.cell? ⟨w.heap.size + 1, 4, none⟩ = some (.int .i64 0) := by rw [hW]; simp [go_sem]
  have HZ := Lib.hid (show ∀ o, W.frozen? ⟨w.heap.size + 1, o, none⟩ = false from fun o => by rw [hW]; simp [go_sem])
  have HG := Lib.hid hg
  clear hW hg
  go_still_tail 6, (by kernel_rfl)
  change wpList _ _ _ _ _ W.drew
  go_wp2_with fail
  refine (HC.out _ (below_drewN HBW.out 1)).mono ?_
  rintro e w1 hd
  obtain ⟨rfl, hf, hc, hz⟩ := fin_of (n := w.heap.size + 1) P.out.st (W := W.drew) (below_drewN HBW.out 1) (by omega) ⟨_, HG.out⟩ hd
  have HF := Lib.hid hf
  clear hf hd HC
  obtain ⟨d1, g0, g1, g2, g3, g4⟩ := out
  unfold vReply
  simp only at *
  have hc0 := (hc 0).trans r0
  have hc1 := (hc 1).trans r1
  have hc2 := (hc 2).trans r2
  have hc3 := (hc 3).trans r3
  have hc4 := (hc 4).trans r4
  have hzz : ∀ o, w1.frozen? ⟨w.heap.size + 1, o, none⟩ = false := fun o => (hz o).trans (HZ.out o)
  clear hc hz r0 r1 r2 r3 r4
  go_wp2_with fail
  refine bodyPost_ret (v := vReply ⟨g0, g1, g2, g3, g4⟩) (by simp [results, Tryz.results101, go_sem, vReply, cell_set_at, cell_set_ne, hc0, hc1, hc2, hc3, hc4]) rfl ?_
  refine fin_does (n := w.heap.size + 1) ?_
  repeat (with_reducible refine fin_set ?_ _ _)
  exact HF.out
set_option maxRecDepth 100000 in
set_option maxHeartbeats 1600000 in
theorem try_2_Tell (N b : Nat) (cv : Value) (d : CoreD) (x : CallD) (mx : Int) (w : World) (h : Pre N b cv d x mx w) (hx : x.fMethod = [84, 101, 108, 108]) :
    Calls Tryz.prog 101 #[.iface 132 (.agg #[.pointer (some ⟨b, 0, none⟩), .pointer (some ⟨b, 0, none⟩)]), vCall x] w fun e w' => Panics w e w' := by
  have P := Lib.hid h
  clear h
  obtain ⟨m, k, n, t⟩ := x
  simp only at hx
  subst hx
  unfold vCall
  obtain ⟨c, E, hta⟩ := ta_2_2
  go_enter Tryz.func101, Tryz.ntmps101
  go_wp2_with fail
  exact ⟨rfl, _, rfl, by repeat (first | with_reducible exact Below.refl _ _ | with_reducible refine Below.alloc ?_ (by simp; try omega) _)⟩
set_option maxRecDepth 100000 in
set_option maxHeartbeats 1600000 in
theorem try_2_Hear (N b : Nat) (cv : Value) (d : CoreD) (x : CallD) (mx : Int) (w : World) (h : Pre N b cv d x mx w) (hx : x.fMethod = [72, 101, 97, 114]) :
    Calls Tryz.prog 101 #[.iface 132 (.agg #[.pointer (some ⟨b, 0, none⟩), .pointer (some ⟨b, 0, none⟩)]), vCall x] w fun e w' => Panics w e w' := by
  have P := Lib.hid h
  clear h
  obtain ⟨m, k, n, t⟩ := x
  simp only at hx
  subst hx
  unfold vCall
  obtain ⟨c, E, hta⟩ := ta_2_3
  go_enter Tryz.func101, Tryz.ntmps101
  go_wp2_with fail
  refine wp_region_any (by kernel_rfl) ?_
  change wpAny _ _ _ _ _ _ _ (World.drew _)
  refine wpAny_take (i := 0) (v := ?_) rfl (by kernel_rfl) (by kernel_rfl) (by kernel_rfl) (fun _ _ _ h => h) (Or.inl ⟨by rfl, ?_⟩) ?_
  rotate_left
  · intro w; go_simp; try (with_reducible rfl)
  refine wpAny_take (i := 2) (v := ?_) rfl (by kernel_rfl) (by kernel_rfl) (by kernel_rfl) (fun _ _ _ h => h) (Or.inl ⟨by rfl, ?_⟩) ?_
  rotate_left
  · intro w; go_simp; try (with_reducible rfl)
  refine wpAny_ready (rs := [1, 3]) (by kernel_rfl) (by simp) ?_
  refine AllReady.cons rfl (fun K hK => ?_) ?_
  · go_simp
    exact ⟨rfl, _, rfl, by repeat (first | with_reducible exact Below.refl _ _ | with_reducible refine Below.alloc ?_ (by simp; try omega) _ | with_reducible refine Below.drew ?_ | with_reducible refine below_drewN ?_ _)⟩
  refine AllReady.cons rfl (fun K hK => ?_) ?_
  · go_simp
    refine hK _ _ ?_
    clear hK K
    refine wpAny_ready (rs := [1]) (by kernel_rfl) (by simp) ?_
    refine AllReady.cons rfl (fun K hK => ?_) ?_
    · go_simp
      exact ⟨rfl, _, rfl, by repeat (first | with_reducible exact Below.refl _ _ | with_reducible refine Below.alloc ?_ (by simp; try omega) _ | with_reducible refine Below.drew ?_ | with_reducible refine below_drewN ?_ _)⟩
    exact AllReady.nil
  exact AllReady.nil
set_option maxRecDepth 100000 in
set_option maxHeartbeats 1600000 in
theorem try_2_Load (N b : Nat) (cv : Value) (d : CoreD) (x : CallD) (mx : Int) (w : World) (h : Pre N b cv d x mx w) (hx : x.fMethod = [76, 111, 97, 100]) :
    Calls Tryz.prog 101 #[.iface 132 (.agg #[.pointer (some ⟨b, 0, none⟩), .pointer (some ⟨b, 0, none⟩)]), vCall x] w fun e w' => Panics w e w' := by
  have P := Lib.hid h
  clear h
  obtain ⟨m, k, n, t⟩ := x
  simp only at hx
  subst hx
  unfold vCall
  obtain ⟨c, E, hta⟩ := ta_2_4
  go_enter Tryz.func101, Tryz.ntmps101
  go_wp2_with fail
  refine wp_region_any (by kernel_rfl) ?_
  change wpAny _ _ _ _ _ _ _ (World.drew _)
  refine wpAny_take (i := 0) (v := ?_) rfl (by kernel_rfl) (by kernel_rfl) (by kernel_rfl) (fun _ _ _ h => h) (Or.inl ⟨by rfl, ?_⟩) ?_
  rotate_left
  · intro w; go_simp; try (with_reducible rfl)
  refine wpAny_take (i := 2) (v := ?_) rfl (by kernel_rfl) (by kernel_rfl) (by kernel_rfl) (fun _ _ _ h => h) (Or.inl ⟨by rfl, ?_⟩) ?_
  rotate_left
  · intro w; go_simp; try (with_reducible rfl)
  refine wpAny_ready (rs := [1, 3]) (by kernel_rfl) (by simp) ?_
  refine AllReady.cons rfl (fun K hK => ?_) ?_
  · go_simp
    exact ⟨rfl, _, rfl, by repeat (first | with_reducible exact Below.refl _ _ | with_reducible refine Below.alloc ?_ (by simp; try omega) _ | with_reducible refine Below.drew ?_ | with_reducible refine below_drewN ?_ _)⟩
  refine AllReady.cons rfl (fun K hK => ?_) ?_
  · go_simp
    refine hK _ _ ?_
    clear hK K
    refine wpAny_ready (rs := [1]) (by kernel_rfl) (by simp) ?_
    refine AllReady.cons rfl (fun K hK => ?_) ?_
    · go_simp
      exact ⟨rfl, _, rfl, by repeat (first | with_reducible exact Below.refl _ _ | with_reducible refine Below.alloc ?_ (by simp; try omega) _ | with_reducible refine Below.drew ?_ | with_reducible refine below_drewN ?_ _)⟩
    exact AllReady.nil
  exact AllReady.nil
set_option maxRecDepth 100000 in
set_option maxHeartbeats 1600000 in
theorem try_2_Save (N b : Nat) (cv : Value) (d : CoreD) (x : CallD) (mx : Int) (w : World) (h : Pre N b cv d x mx w) (hx : x.fMethod = [83, 97, 118, 101]) :
    Calls Tryz.prog 101 #[.iface 132 (.agg #[.pointer (some ⟨b, 0, none⟩), .pointer (some ⟨b, 0, none⟩)]), vCall x] w fun e w' => Panics w e w' := by
  have P := Lib.hid h
  clear h
  obtain ⟨m, k, n, t⟩ := x
  simp only at hx
  subst hx
  unfold vCall
  obtain ⟨c, E, hta⟩ := ta_2_4
  go_enter Tryz.func101, Tryz.ntmps101
  go_wp2_with fail
  exact ⟨rfl, _, rfl, by repeat (first | with_reducible exact Below.refl _ _ | with_reducible refine Below.alloc ?_ (by simp; try omega) _)⟩
set_option maxRecDepth 100000 in
set_option maxHeartbeats 1600000 in
theorem try_2_Heal (N b : Nat) (cv : Value) (d : CoreD) (x : CallD) (mx : Int) (w : World) (h : Pre N b cv d x mx w) (hx : x.fMethod = [72, 101, 97, 108]) :
    Calls Tryz.prog 101 #[.iface 132 (.agg #[.pointer (some ⟨b, 0, none⟩), .pointer (some ⟨b, 0, none⟩)]), vCall x] w fun e w' => Panics w e w' := by
  have P := Lib.hid h
  clear h
  obtain ⟨m, k, n, t⟩ := x
  simp only at hx
  subst hx
  unfold vCall
  obtain ⟨c, E, hta⟩ := ta_2_5
  go_enter Tryz.func101, Tryz.ntmps101
  go_wp2_with fail
  exact ⟨rfl, _, rfl, by repeat (first | with_reducible exact Below.refl _ _ | with_reducible refine Below.alloc ?_ (by simp; try omega) _)⟩
set_option maxRecDepth 100000 in
set_option maxHeartbeats 1600000 in
theorem try_3_Start (N b : Nat) (cv : Value) (d : CoreD) (x : CallD) (mx : Int) (w : World) (h : Pre N b cv d x mx w) (hx : x.fMethod = [83, 116, 97, 114, 116]) :
    Calls Tryz.prog 101 #[.iface 135 (.agg #[.pointer (some ⟨b, 0, none⟩), .pointer (some ⟨b, 0, none⟩), .pointer (some ⟨b, 0, none⟩)]), vCall x] w fun e w' => Does N b cv (mthD d x) w e w' := by
  have P := Lib.hid h
  clear h
  obtain ⟨m, k, n, t⟩ := x
  simp only at hx
  subst hx
  unfold vCall
  have HE := Lib.hid (show mthD d ⟨[83, 116, 97, 114, 116], k, n, t⟩ = startD d from rfl)
  have hta := ta_3_0
  have hmd := method_3_Start b
  have hnl := nilAhead_3_Start b
  have HB2 := Lib.hid (show ∀ o1 o2, Below w.heap.size w ((w.alloc o1).alloc o2) from fun o1 o2 => ((Below.refl _ _).alloc (Nat.le_refl _) _).alloc (by simp) _)
  have HC := Lib.hid (fun W (HB : Below w.heap.size w W) => start_c N b cv d W (P.out.st.below HB) P.out.hr)
  rw [HE.out]
  clear HE
  generalize startD d = out at *
  go_enter Tryz.func101, Tryz.ntmps101
  go_wp2_with fail
  refine (HC.out _ (HB2.out _ _)).mono ?_
  rintro e w1 hd
  obtain ⟨rfl, hf, hc, hz⟩ := fin_of (n := w.heap.size + 1) P.out.st (HB2.out _ _) (by omega) ⟨_, heap_two _ _ _⟩ hd
  have HF := Lib.hid hf
  clear hf hd
  clear HC
  obtain ⟨d1, r0, r1, r2, r3, r4⟩ := out
  unfold vReply
  simp only at *
  have hc0 := hc 0
  have hc1 := hc 1
  have hc2 := hc 2
  have hc3 := hc 3
  have hc4 := hc 4
  simp at hc0 hc1 hc2 hc3 hc4 hz
  clear hc
  go_wp2_with fail
  refine bodyPost_ret (v := vReply ⟨r0, r1, r2, r3, r4⟩) (by simp [results, Tryz.results101, go_sem, vReply, cell_set_at, cell_set_ne, hc0, hc1, hc2, hc3, hc4]) rfl ?_
  refine fin_does (n := w.heap.size + 1) ?_
  repeat (with_reducible refine fin_set ?_ _ _)
  exact HF.out
set_option maxRecDepth 100000 in
set_option maxHeartbeats 1600000 in
theorem try_3_Stop (N b : Nat) (cv : Value) (d : CoreD) (x : CallD) (mx : Int) (w : World) (h : Pre N b cv d x mx w) (hx : x.fMethod = [83, 116, 111, 112]) :
    Calls Tryz.prog 101 #[.iface 135 (.agg #[.pointer (some ⟨b, 0, none⟩), .pointer (some ⟨b, 0, none⟩), .pointer (some ⟨b, 0, none⟩)]), vCall x] w fun e w' => Does N b cv (mthD d x) w e w' := by
  have P := Lib.hid h
  clear h
  obtain ⟨m, k, n, t⟩ := x
  simp only at hx
  subst hx
  unfold vCall
  have HE := Lib.hid (show mthD d ⟨[83, 116, 111, 112], k, n, t⟩ = stopD d from rfl)
  have hta := ta_3_0
  have hmd := method_3_Stop b
  have hnl := nilAhead_3_Stop b
  have HB2 := Lib.hid (show ∀ o1 o2, Below w.heap.size w ((w.alloc o1).alloc o2) from fun o1 o2 => ((Below.refl _ _).alloc (Nat.le_refl _) _).alloc (by simp) _)
  have HC := Lib.hid (fun W (HB : Below w.heap.size w W) => stop_c N b cv d W (P.out.st.below HB) P.out.hr)
  rw [HE.out]
  clear HE
  generalize stopD d = out at *
  go_enter Tryz.func101, Tryz.ntmps101
  go_wp2_with fail
  refine (HC.out _ (HB2.out _ _)).mono ?_
  rintro e w1 hd
  obtain ⟨rfl, hf, hc, hz⟩ := fin_of (n := w.heap.size + 1) P.out.st (HB2.out _ _) (by omega) ⟨_, heap_two _ _ _⟩ hd
  have HF := Lib.hid hf
  clear hf hd
  clear HC
  obtain ⟨d1, r0, r1, r2, r3, r4⟩ := out
  unfold vReply
  simp only at *
  have hc0 := hc 0
  have hc1 := hc 1
  have hc2 := hc 2
  have hc3 := hc 3
  have hc4 := hc 4
  simp at hc0 hc1 hc2 hc3 hc4 hz
  clear hc
  go_wp2_with fail
  refine bodyPost_ret (v := vReply ⟨r0, r1, r2, r3, r4⟩) (by simp [results, Tryz.results101, go_sem, vReply, cell_set_at, cell_set_ne, hc0, hc1, hc2, hc3, hc4]) rfl ?_
  refine fin_does (n := w.heap.size + 1) ?_
  repeat (with_reducible refine fin_set ?_ _ _)
  exact HF.out
set_option maxRecDepth 100000 in
set_option maxHeartbeats 1600000 in
theorem try_3_Get (N b : Nat) (cv : Value) (d : CoreD) (x : CallD) (mx : Int) (w : World) (h : Pre N b cv d x mx w) (hx : x.fMethod = [71, 101, 116]) :
    Calls Tryz.prog 101 #[.iface 135 (.agg #[.pointer (some ⟨b, 0, none⟩), .pointer (some ⟨b, 0, none⟩), .pointer (some ⟨b, 0, none⟩)]), vCall x] w fun e w' => Panics w e w' := by
  have P := Lib.hid h
  clear h
  obtain ⟨m, k, n, t⟩ := x
  simp only at hx
  subst hx
  unfold vCall
  obtain ⟨c, E, hta⟩ := ta_3_1
  go_enter Tryz.func101, Tryz.ntmps101
  go_wp2_with fail
  refine wp_region_any (by kernel_rfl) ?_
  change wpAny _ _ _ _ _ _ _ (World.drew _)
  refine wpAny_take (i := 0) (v := ?_) rfl (by kernel_rfl) (by kernel_rfl) (by kernel_rfl) (fun _ _ _ h => h) (Or.inl ⟨by rfl, ?_⟩) ?_
  rotate_left
  · intro w; go_simp; try (with_reducible rfl)
  refine wpAny_take (i := 2) (v := ?_) rfl (by kernel_rfl) (by kernel_rfl) (by kernel_rfl) (fun _ _ _ h => h) (Or.inl ⟨by rfl, ?_⟩) ?_
  rotate_left
  · intro w; go_simp; try (with_reducible rfl)
  refine wpAny_ready (rs := [1, 3]) (by kernel_rfl) (by simp) ?_
  refine AllReady.cons rfl (fun K hK => ?_) ?_
  · go_simp
    exact ⟨rfl, _, rfl, by repeat (first | with_reducible exact Below.refl _ _ | with_reducible refine Below.alloc ?_ (by simp; try omega) _ | with_reducible refine Below.drew ?_ | with_reducible refine below_drewN ?_ _)⟩
  refine AllReady.cons rfl (fun K hK => ?_) ?_
  · go_simp
    refine hK _ _ ?_
    clear hK K
    refine wpAny_ready (rs := [1]) (by kernel_rfl) (by simp) ?_
    refine AllReady.cons rfl (fun K hK => ?_) ?_
    · go_simp
      exact ⟨rfl, _, rfl, by repeat (first | with_reducible exact Below.refl _ _ | with_reducible refine Below.alloc ?_ (by simp; try omega) _ | with_reducible refine Below.drew ?_ | with_reducible refine below_drewN ?_ _)⟩
    exact AllReady.nil
  exact AllReady.nil
set_option maxRecDepth 100000 in
set_option maxHeartbeats 1600000 in
theorem try_3_Put (N b : Nat) (cv : Value) (d : CoreD) (x : CallD) (mx : Int) (w : World) (h : Pre N b cv d x mx w) (hx : x.fMethod = [80, 117, 116]) :
    Calls Tryz.prog 101 #[.iface 135 (.agg #[.pointer (some ⟨b, 0, none⟩), .pointer (some ⟨b, 0, none⟩), .pointer (some ⟨b, 0, none⟩)]), vCall x] w fun e w' => Panics w e w' := by
  have P := Lib.hid h
  clear h
  obtain ⟨m, k, n, t⟩ := x
  simp only at hx
  subst hx
  unfold vCall
  obtain ⟨c, E, hta⟩ := ta_3_1
  go_enter Tryz.func101, Tryz.ntmps101
  go_wp2_with fail
  refine wp_region_any (by kernel_rfl) ?_
  change wpAny _ _ _ _ _ _ _ (World.drew _)
  refine wpAny_take (i := 0) (v := ?_) rfl (by kernel_rfl) (by kernel_rfl) (by kernel_rfl) (fun _ _ _ h => h) (Or.inl ⟨by rfl, ?_⟩) ?_
  rotate_left
  · intro w; go_simp; try (with_reducible rfl)
  refine wpAny_take (i := 2) (v := ?_) rfl (by kernel_rfl) (by kernel_rfl) (by kernel_rfl) (fun _ _ _ h => h) (Or.inl ⟨by rfl, ?_⟩) ?_
  rotate_left
  · intro w; go_simp; try (with_reducible rfl)
  refine wpAny_take (i := 4) (v := ?_) rfl (by kernel_rfl) (by kernel_rfl) (by kernel_rfl) (fun _ _ _ h => h) (Or.inl ⟨by rfl, ?_⟩) ?_
  rotate_left
  · intro w; go_simp; try (with_reducible rfl)
  refine wpAny_ready (rs := [1, 3, 5]) (by kernel_rfl) (by simp) ?_
  refine AllReady.cons rfl (fun K hK => ?_) ?_
  · go_simp
    exact ⟨rfl, _, rfl, by repeat (first | with_reducible exact Below.refl _ _ | with_reducible refine Below.alloc ?_ (by simp; try omega) _ | with_reducible refine Below.drew ?_ | with_reducible refine below_drewN ?_ _)⟩
  refine AllReady.cons rfl (fun K hK => ?_) ?_
  · go_simp
    refine hK _ _ ?_
    clear hK K
    refine wpAny_ready (rs := [1, 5]) (by kernel_rfl) (by simp) ?_
    refine AllReady.cons rfl (fun K hK => ?_) ?_
    · go_simp
      exact ⟨rfl, _, rfl, by repeat (first | with_reducible exact Below.refl _ _ | with_reducible refine Below.alloc ?_ (by simp; try omega) _ | with_reducible refine Below.drew ?_ | with_reducible refine below_drewN ?_ _)⟩
    refine AllReady.cons rfl (fun K hK => ?_) ?_
    · go_simp
      refine hK _ _ ?_
      clear hK K
      refine wpAny_ready (rs := [1]) (by kernel_rfl) (by simp) ?_
      refine AllReady.cons rfl (fun K hK => ?_) ?_
      · go_simp
        exact ⟨rfl, _, rfl, by repeat (first | with_reducible exact Below.refl _ _ | with_reducible refine Below.alloc ?_ (by simp; try omega) _ | with_reducible refine Below.drew ?_ | with_reducible refine below_drewN ?_ _)⟩
      exact AllReady.nil
    exact AllReady.nil
  refine AllReady.cons rfl (fun K hK => ?_) ?_
  · go_simp
    refine hK _ _ ?_
    clear hK K
    refine wpAny_ready (rs := [1, 3]) (by kernel_rfl) (by simp) ?_
    refine AllReady.cons rfl (fun K hK => ?_) ?_
    · go_simp
      exact ⟨rfl, _, rfl, by repeat (first | with_reducible exact Below.refl _ _ | with_reducible refine Below.alloc ?_ (by simp; try omega) _ | with_reducible refine Below.drew ?_ | with_reducible refine below_drewN ?_ _)⟩
    refine AllReady.cons rfl (fun K hK => ?_) ?_
    · go_simp
      refine hK _ _ ?_
      clear hK K
      refine wpAny_ready (rs := [1]) (by kernel_rfl) (by simp) ?_
      refine AllReady.cons rfl (fun K hK => ?_) ?_
      · go_simp
        exact ⟨rfl, _, rfl, by repeat (first | with_reducible exact Below.refl _ _ | with_reducible refine Below.alloc ?_ (by simp; try omega) _ | with_reducible refine Below.drew ?_ | with_reducible refine below_drewN ?_ _)⟩
      exact AllReady.nil
    exact AllReady.nil
  exact AllReady.nil
set_option maxRecDepth 100000 in
set_option maxHeartbeats 1600000 in
theorem try_3_Tell (N b : Nat) (cv : Value) (d : CoreD) (x : CallD) (mx : Int) (w : World) (h : Pre N b cv d x mx w) (hx : x.fMethod = [84, 101, 108, 108]) :
    Calls Tryz.prog 101 #[.iface 135 (.agg #[.pointer (some ⟨b, 0, none⟩), .pointer (some ⟨b, 0, none⟩), .pointer (some ⟨b, 0, none⟩)]), vCall x] w fun e w' => Does N b cv (mthD d x) w e w' := by
  have P := Lib.hid h
  clear h
  obtain ⟨m, k, n, t⟩ := x
  simp only at hx
  subst hx
  unfold vCall
  have HE := Lib.hid (show mthD d ⟨[84, 101, 108, 108], k, n, t⟩ = tellD d from rfl)
  have hta := ta_3_2
  have hmd := method_3_Tell b
  have hnl := nilAhead_3_Tell b
  have HB2 := Lib.hid (show ∀ o1 o2, Below w.heap.size w ((w.alloc o1).alloc o2) from fun o1 o2 => ((Below.refl _ _).alloc (Nat.le_refl _) _).alloc (by simp) _)
  have HC := Lib.hid (fun W (HB : Below w.heap.size w W) => tell_c N b cv d W (P.out.st.below HB) P.out.hr)
  rw [HE.out]
  clear HE
  generalize tellD d = out at *
  go_enter Tryz.func101, Tryz.ntmps101
  go_wp2_with fail
  refine (HC.out _ (HB2.out _ _)).mono ?_
  rintro e w1 hd
  obtain ⟨rfl, hf, hc, hz⟩ := fin_of (n := w.heap.size + 1) P.out.st (HB2.out _ _) (by omega) ⟨_, heap_two _ _ _⟩ hd
  have HF := Lib.hid hf
  clear hf hd
  clear HC
  obtain ⟨d1, r0, r1, r2, r3, r4⟩ := out
  unfold vReply
  simp only at *
  have hc0 := hc 0
  have hc1 := hc 1
  have hc2 := hc 2
  have hc3 := hc 3
  have hc4 := hc 4
  simp at hc0 hc1 hc2 hc3 hc4 hz
  clear hc
  go_wp2_with fail
  refine bodyPost_ret (v := vReply ⟨r0, r1, r2, r3, r4⟩) (by simp [results, Tryz.results101, go_sem, vReply, cell_set_at, cell_set_ne, hc0, hc1, hc2, hc3, hc4]) rfl ?_
  refine fin_does (n := w.heap.size + 1) ?_
  repeat (with_reducible refine fin_set ?_ _ _)
  exact HF.out
set_option maxRecDepth 100000 in
set_option maxHeartbeats 1600000 in
theorem try_3_Hear (N b : Nat) (cv : Value) (d : CoreD) (x : CallD) (mx : Int) (w : World) (h : Pre N b cv d x mx w) (hx : x.fMethod = [72, 101, 97, 114]) :
    Calls Tryz.prog 101 #[.iface 135 (.agg #[.pointer (some ⟨b, 0, none⟩), .pointer (some ⟨b, 0, none⟩), .pointer (some ⟨b, 0, none⟩)]), vCall x] w fun e w' => Panics w e w' := by
  have P := Lib.hid h
  clear h
  obtain ⟨m, k, n, t⟩ := x
  simp only at hx
  subst hx
  unfold vCall
  obtain ⟨c, E, hta⟩ := ta_3_3
  go_enter Tryz.func101, Tryz.ntmps101
  go_wp2_with fail
  refine wp_region_any (by kernel_rfl) ?_
  change wpAny _ _ _ _ _ _ _ (World.drew _)
  refine wpAny_take (i := 0) (v := ?_) rfl (by kernel_rfl) (by kernel_rfl) (by kernel_rfl) (fun _ _ _ h => h) (Or.inl ⟨by rfl, ?_⟩) ?_
  rotate_left
  · intro w; go_simp; try (with_reducible rfl)
  refine wpAny_take (i := 2) (v := ?_) rfl (by kernel_rfl) (by kernel_rfl) (by kernel_rfl) (fun _ _ _ h => h) (Or.inl ⟨by rfl, ?_⟩) ?_
  rotate_left
  · intro w; go_simp; try (with_reducible rfl)
  refine wpAny_ready (rs := [1, 3]) (by kernel_rfl) (by simp) ?_
  refine AllReady.cons rfl (fun K hK => ?_) ?_
  · go_simp
    exact ⟨rfl, _, rfl, by repeat (first | with_reducible exact Below.refl _ _ | with_reducible refine Below.alloc ?_ (by simp; try omega) _ | with_reducible refine Below.drew ?_ | with_reducible refine below_drewN ?_ _)⟩
  refine AllReady.cons rfl (fun K hK => ?_) ?_
  · go_simp
    refine hK _ _ ?_
    clear hK K
    refine wpAny_ready (rs := [1]) (by kernel_rfl) (by simp) ?_
    refine AllReady.cons rfl (fun K hK => ?_) ?_
    · go_simp
      exact ⟨rfl, _, rfl, by repeat (first | with_reducible exact Below.refl _ _ | with_reducible refine Below.alloc ?_ (by simp; try omega) _ | with_reducible refine Below.drew ?_ | with_reducible refine below_drewN ?_ _)⟩
    exact AllReady.nil
  exact AllReady.nil
set_option maxRecDepth 100000 in
set_option maxHeartbeats 1600000 in
theorem try_3_Load (N b : Nat) (cv : Value) (d : CoreD) (x : CallD) (mx : Int) (w : World) (h : Pre N b cv d x mx w) (hx : x.fMethod = [76, 111, 97, 100]) :
    Calls Tryz.prog 101 #[.iface 135 (.agg #[.pointer (some ⟨b, 0, none⟩), .pointer (some ⟨b, 0, none⟩), .pointer (some ⟨b, 0, none⟩)]), vCall x] w fun e w' => Panics w e w' := by
  have P := Lib.hid h
  clear h
  obtain ⟨m, k, n, t⟩ := x
  simp only at hx
  subst hx
  unfold vCall
  obtain ⟨c, E, hta⟩ := ta_3_4
  go_enter Tryz.func101, Tryz.ntmps101
  go_wp2_with fail
  refine wp_region_any (by kernel_rfl) ?_
  change wpAny _ _ _ _ _ _ _ (World.drew _)
  refine wpAny_take (i := 0) (v := ?_) rfl (by kernel_rfl) (by kernel_rfl) (by kernel_rfl) (fun _ _ _ h => h) (Or.inl ⟨by rfl, ?_⟩) ?_
  rotate_left
  · intro w; go_simp; try (with_reducible rfl)
  refine wpAny_take (i := 2) (v := ?_) rfl (by kernel_rfl) (by kernel_rfl) (by kernel_rfl) (fun _ _ _ h => h) (Or.inl ⟨by rfl, ?_⟩) ?_
  rotate_left
  · intro w; go_simp; try (with_reducible rfl)
  refine wpAny_ready (rs := [1, 3]) (by kernel_rfl) (by simp) ?_
  refine AllReady.cons rfl (fun K hK => ?_) ?_
  · go_simp
    exact ⟨rfl, _, rfl, by repeat (first | with_reducible exact Below.refl _ _ | with_reducible refine Below.alloc ?_ (by simp; try omega) _ | with_reducible refine Below.drew ?_ | with_reducible refine below_drewN ?_ _)⟩
  refine AllReady.cons rfl (fun K hK => ?_) ?_
  · go_simp
    refine hK _ _ ?_
    clear hK K
    refine wpAny_ready (rs := [1]) (by kernel_rfl) (by simp) ?_
    refine AllReady.cons rfl (fun K hK => ?_) ?_
    · go_simp
      exact ⟨rfl, _, rfl, by repeat (first | with_reducible exact Below.refl _ _ | with_reducible refine Below.alloc ?_ (by simp; try omega) _ | with_reducible refine Below.drew ?_ | with_reducible refine below_drewN ?_ _)⟩
    exact AllReady.nil
  exact AllReady.nil
set_option maxRecDepth 100000 in
set_option maxHeartbeats 1600000 in
theorem try_3_Save (N b : Nat) (cv : Value) (d : CoreD) (x : CallD) (mx : Int) (w : World) (h : Pre N b cv d x mx w) (hx : x.fMethod = [83, 97, 118, 101]) :
    Calls Tryz.prog 101 #[.iface 135 (.agg #[.pointer (some ⟨b, 0, none⟩), .pointer (some ⟨b, 0, none⟩), .pointer (some ⟨b, 0, none⟩)]), vCall x] w fun e w' => Panics w e w' := by
  have P := Lib.hid h
  clear h
  obtain ⟨m, k, n, t⟩ := x
  simp only at hx
  subst hx
  unfold vCall
  obtain ⟨c, E, hta⟩ := ta_3_4
  go_enter Tryz.func101, Tryz.ntmps101
  go_wp2_with fail
  exact ⟨rfl, _, rfl, by repeat (first | with_reducible exact Below.refl _ _ | with_reducible refine Below.alloc ?_ (by simp; try omega) _)⟩
set_option maxRecDepth 100000 in
set_option maxHeartbeats 1600000 in
theorem try_3_Heal (N b : Nat) (cv : Value) (d : CoreD) (x : CallD) (mx : Int) (w : World) (h : Pre N b cv d x mx w) (hx : x.fMethod = [72, 101, 97, 108]) :
    Calls Tryz.prog 101 #[.iface 135 (.agg #[.pointer (some ⟨b, 0, none⟩), .pointer (some ⟨b, 0, none⟩), .pointer (some ⟨b, 0, none⟩)]), vCall x] w fun e w' => Panics w e w' := by
  have P := Lib.hid h
  clear h
  obtain ⟨m, k, n, t⟩ := x
  simp only at hx
  subst hx
  unfold vCall
  obtain ⟨c, E, hta⟩ := ta_3_5
  go_enter Tryz.func101, Tryz.ntmps101
  go_wp2_with fail
  exact ⟨rfl, _, rfl, by repeat (first | with_reducible exact Below.refl _ _ | with_reducible refine Below.alloc ?_ (by simp; try omega) _)⟩
end Go.Proofs.YtghebbndfpbkcaaGreat
/- The deferred function literal behind a panic, by kind. Written by gen/ch3del.py. -/
namespace Go.Proofs.YtghebbndfpbkcaaGreat
set_option linter.unusedVariables false
set_option linter.unusedSimpArgs false
open Go.RowKit
set_option maxRecDepth 100000 in
set_option maxHeartbeats 1600000 in
theorem catch_2 (b : Nat) (cv : Value) (d : CoreD) (x : CallD) (nx np nr : Nat) (pv : Value) (w : World) (h : CoreBox w b cv d) (hb : Boxes nx np nr x (partV b 2) w) :
    CallsD Tryz.prog 100 #[.pointer (some ⟨nx, 0, none⟩), .pointer (some ⟨np, 0, none⟩), .pointer (some ⟨nr, 0, none⟩)] (.panicking ({ v := .iface Tryz.prog.rt.typeAssertionError pv, recovered := false } :: [])) w fun e u' w' =>
      e = .returned (.tuple #[]) ∧ u' = .panicking ({ v := .iface Tryz.prog.rt.typeAssertionError pv, recovered := true } :: []) ∧ ∃ w1, Below w.heap.size w w1 ∧ w' = put5 w1 nr ⟨1, 0, [], wantF x.fMethod, coreF d⟩ := by
  have HX := Lib.hid hb
  have HC := Lib.hid h
  have x0 := hb.x0
  have p0 := hb.p0
  unfold partV at p0
  have HW := Lib.hid (fun W => implWant_any ⟨x.fMethod.toArray⟩ W)
  simp only [List.toList_toArray] at HW
  have HF := Lib.hid (fun W (hw : Below w.heap.size w W) => face_c b cv d W (HC.out.keep (hw.block b HC.out.lt)))
  have hfm := face_2 b
  have hfn := faceNil_2 b
  generalize wantF x.fMethod = want at *
  generalize coreF d = had at *
  clear h hb
  refine callsD_of_wpS Tryz.func100 rfl fun c₀ cs hu => ?_
  apply wpS_seq
  apply wpS_region
  simp [wpOpsS, go_sem, recoverD, hu, Tryz.ntmps100, Exit.thenS]
  refine wpS_cond (t := true) (by simp [Act.eval, Array.replicate]) ?_
  simp only [if_true]
  refine wpS_of_wp ?_
  go_region_with (first
    | (go_at_call 96; refine (HW.out _).mono ?_; rintro e w1 ⟨rfl, hb1⟩; have HB1 := Lib.hid (show Below w.heap.size w w1 from ⟨hb1.os, hb1.tape, hb1.output, hb1.size, hb1.block⟩); have k0 := (HX.out.below HB1.out).p0; clear hb1; simp only [partV] at k0)
    | (go_at_call 138; refine (HF.out _ HB1.out).mono ?_; rintro e w2 ⟨rfl, hb2⟩; have HB2 := Lib.hid (show Below w.heap.size w w2 from HB1.out.trans (hb2.mono HB1.out.size)); clear hb2; have KR := Lib.hid (HX.out.below HB2.out); have y0 := KR.out.z 0; have y1 := KR.out.z 1; have y2 := KR.out.z 2; have y3 := KR.out.z 3; have y4 := KR.out.z 4; obtain ⟨e0, f0⟩ := Option.isSome_iff_exists.1 (KR.out.r 0 (by decide)); obtain ⟨e1, f1⟩ := Option.isSome_iff_exists.1 (KR.out.r 1 (by decide)); obtain ⟨e2, f2⟩ := Option.isSome_iff_exists.1 (KR.out.r 2 (by decide)); obtain ⟨e3, f3⟩ := Option.isSome_iff_exists.1 (KR.out.r 3 (by decide)); obtain ⟨e4, f4⟩ := Option.isSome_iff_exists.1 (KR.out.r 4 (by decide))))
  all_goals
    cases c₀
    simp_all [bodyPostS, results, Tryz.results100]
    exact ⟨w2, HB2.out, rfl⟩
set_option maxRecDepth 100000 in
set_option maxHeartbeats 1600000 in
theorem catch_3 (b : Nat) (cv : Value) (d : CoreD) (x : CallD) (nx np nr : Nat) (pv : Value) (w : World) (h : CoreBox w b cv d) (hb : Boxes nx np nr x (partV b 3) w) :
    CallsD Tryz.prog 100 #[.pointer (some ⟨nx, 0, none⟩), .pointer (some ⟨np, 0, none⟩), .pointer (some ⟨nr, 0, none⟩)] (.panicking ({ v := .iface Tryz.prog.rt.typeAssertionError pv, recovered := false } :: [])) w fun e u' w' =>
      e = .returned (.tuple #[]) ∧ u' = .panicking ({ v := .iface Tryz.prog.rt.typeAssertionError pv, recovered := true } :: []) ∧ ∃ w1, Below w.heap.size w w1 ∧ w' = put5 w1 nr ⟨1, 0, [], wantF x.fMethod, coreF d⟩ := by
  have HX := Lib.hid hb
  have HC := Lib.hid h
  have x0 := hb.x0
  have p0 := hb.p0
  unfold partV at p0
  have HW := Lib.hid (fun W => implWant_any ⟨x.fMethod.toArray⟩ W)
  simp only [List.toList_toArray] at HW
  have HF := Lib.hid (fun W (hw : Below w.heap.size w W) => face_c b cv d W (HC.out.keep (hw.block b HC.out.lt)))
  have hfm := face_3 b
  have hfn := faceNil_3 b
  generalize wantF x.fMethod = want at *
  generalize coreF d = had at *
  clear h hb
  refine callsD_of_wpS Tryz.func100 rfl fun c₀ cs hu => ?_
  apply wpS_seq
  apply wpS_region
  simp [wpOpsS, go_sem, recoverD, hu, Tryz.ntmps100, Exit.thenS]
  refine wpS_cond (t := true) (by simp [Act.eval, Array.replicate]) ?_
  simp only [if_true]
  refine wpS_of_wp ?_
  go_region_with (first
    | (go_at_call 96; refine (HW.out _).mono ?_; rintro e w1 ⟨rfl, hb1⟩; have HB1 := Lib.hid (show Below w.heap.size w w1 from ⟨hb1.os, hb1.tape, hb1.output, hb1.size, hb1.block⟩); have k0 := (HX.out.below HB1.out).p0; clear hb1; simp only [partV] at k0)
    | (go_at_call 138; refine (HF.out _ HB1.out).mono ?_; rintro e w2 ⟨rfl, hb2⟩; have HB2 := Lib.hid (show Below w.heap.size w w2 from HB1.out.trans (hb2.mono HB1.out.size)); clear hb2; have KR := Lib.hid (HX.out.below HB2.out); have y0 := KR.out.z 0; have y1 := KR.out.z 1; have y2 := KR.out.z 2; have y3 := KR.out.z 3; have y4 := KR.out.z 4; obtain ⟨e0, f0⟩ := Option.isSome_iff_exists.1 (KR.out.r 0 (by decide)); obtain ⟨e1, f1⟩ := Option.isSome_iff_exists.1 (KR.out.r 1 (by decide)); obtain ⟨e2, f2⟩ := Option.isSome_iff_exists.1 (KR.out.r 2 (by decide)); obtain ⟨e3, f3⟩ := Option.isSome_iff_exists.1 (KR.out.r 3 (by decide)); obtain ⟨e4, f4⟩ := Option.isSome_iff_exists.1 (KR.out.r 4 (by decide))))
  all_goals
    cases c₀
    simp_all [bodyPostS, results, Tryz.results100]
    exact ⟨w2, HB2.out, rfl⟩
end Go.Proofs.YtghebbndfpbkcaaGreat
/- The door on the kinds drawer, horn. Written by gen/ch3door.py. -/
namespace Go.Proofs.YtghebbndfpbkcaaGreat
set_option linter.unusedVariables false
set_option linter.unusedSimpArgs false
open Go.RowKit
set_option maxRecDepth 100000 in
set_option maxHeartbeats 1600000 in
theorem try_4_Start (N b : Nat) (cv : Value) (d : CoreD) (x : CallD) (mx : Int) (w : World) (h : Pre N b cv d x mx w) (hx : x.fMethod = [83, 116, 97, 114, 116]) :
    Calls Tryz.prog 101 #[.iface 137 (.agg #[.pointer (some ⟨b, 0, none⟩), .pointer (some ⟨b, 0, none⟩), .pointer (some ⟨b, 0, none⟩)]), vCall x] w fun e w' => Does N b cv (mthD d x) w e w' := by
  have P := Lib.hid h
  clear h
  obtain ⟨m, k, n, t⟩ := x
  simp only at hx
  subst hx
  unfold vCall
  have HE := Lib.hid (show mthD d ⟨[83, 116, 97, 114, 116], k, n, t⟩ = startD d from rfl)
  have hta := ta_4_0
  have hmd := method_4_Start b
  have hnl := nilAhead_4_Start b
  have HB2 := Lib.hid (show ∀ o1 o2, Below w.heap.size w ((w.alloc o1).alloc o2) from fun o1 o2 => ((Below.refl _ _).alloc (Nat.le_refl _) _).alloc (by simp) _)
  have HC := Lib.hid (fun W (HB : Below w.heap.size w W) => start_c N b cv d W (P.out.st.below HB) P.out.hr)
  rw [HE.out]
  clear HE
  generalize startD d = out at *
  go_enter Tryz.func101, Tryz.ntmps101
  go_wp2_with fail
  refine (HC.out _ (HB2.out _ _)).mono ?_
  rintro e w1 hd
  obtain ⟨rfl, hf, hc, hz⟩ := fin_of (n := w.heap.size + 1) P.out.st (HB2.out _ _) (by omega) ⟨_, heap_two _ _ _⟩ hd
  have HF := Lib.hid hf
  clear hf hd
  clear HC
  obtain ⟨d1, r0, r1, r2, r3, r4⟩ := out
  unfold vReply
  simp only at *
  have hc0 := hc 0
  have hc1 := hc 1
  have hc2 := hc 2
  have hc3 := hc 3
  have hc4 := hc 4
  simp at hc0 hc1 hc2 hc3 hc4 hz
  clear hc
  go_wp2_with fail
  refine bodyPost_ret (v := vReply ⟨r0, r1, r2, r3, r4⟩) (by simp [results, Tryz.results101, go_sem, vReply, cell_set_at, cell_set_ne, hc0, hc1, hc2, hc3, hc4]) rfl ?_
  refine fin_does (n := w.heap.size + 1) ?_
  repeat (with_reducible refine fin_set ?_ _ _)
  exact HF.out
set_option maxRecDepth 100000 in
set_option maxHeartbeats 1600000 in
theorem try_4_Stop (N b : Nat) (cv : Value) (d : CoreD) (x : CallD) (mx : Int) (w : World) (h : Pre N b cv d x mx w) (hx : x.fMethod = [83, 116, 111, 112]) :
    Calls Tryz.prog 101 #[.iface 137 (.agg #[.pointer (some ⟨b, 0, none⟩), .pointer (some ⟨b, 0, none⟩), .pointer (some ⟨b, 0, none⟩)]), vCall x] w fun e w' => Does N b cv (mthD d x) w e w' := by
  have P := Lib.hid h
  clear h
  obtain ⟨m, k, n, t⟩ := x
  simp only at hx
  subst hx
  unfold vCall
  have HE := Lib.hid (show mthD d ⟨[83, 116, 111, 112], k, n, t⟩ = stopD d from rfl)
  have hta := ta_4_0
  have hmd := method_4_Stop b
  have hnl := nilAhead_4_Stop b
  have HB2 := Lib.hid (show ∀ o1 o2, Below w.heap.size w ((w.alloc o1).alloc o2) from fun o1 o2 => ((Below.refl _ _).alloc (Nat.le_refl _) _).alloc (by simp) _)
  have HC := Lib.hid (fun W (HB : Below w.heap.size w W) => stop_c N b cv d W (P.out.st.below HB) P.out.hr)
  rw [HE.out]
  clear HE
  generalize stopD d = out at *
  go_enter Tryz.func101, Tryz.ntmps101
  go_wp2_with fail
  refine (HC.out _ (HB2.out _ _)).mono ?_
  rintro e w1 hd
  obtain ⟨rfl, hf, hc, hz⟩ := fin_of (n := w.heap.size + 1) P.out.st (HB2.out _ _) (by omega) ⟨_, heap_two _ _ _⟩ hd
  have HF := Lib.hid hf
  clear hf hd
  clear HC
  obtain ⟨d1, r0, r1, r2, r3, r4⟩ := out
  unfold vReply
  simp only at *
  have hc0 := hc 0
  have hc1 := hc 1
  have hc2 := hc 2
  have hc3 := hc 3
  have hc4 := hc 4
  simp at hc0 hc1 hc2 hc3 hc4 hz
  clear hc
  go_wp2_with fail
  refine bodyPost_ret (v := vReply ⟨r0, r1, r2, r3, r4⟩) (by simp [results, Tryz.results101, go_sem, vReply, cell_set_at, cell_set_ne, hc0, hc1, hc2, hc3, hc4]) rfl ?_
  refine fin_does (n := w.heap.size + 1) ?_
  repeat (with_reducible refine fin_set ?_ _ _)
  exact HF.out
set_option maxRecDepth 100000 in
set_option maxHeartbeats 1600000 in
theorem try_4_Get (N b : Nat) (cv : Value) (d : CoreD) (x : CallD) (mx : Int) (w : World) (h : Pre N b cv d x mx w) (hx : x.fMethod = [71, 101, 116]) :
    Calls Tryz.prog 101 #[.iface 137 (.agg #[.pointer (some ⟨b, 0, none⟩), .pointer (some ⟨b, 0, none⟩), .pointer (some ⟨b, 0, none⟩)]), vCall x] w fun e w' => Does N b cv (mthD d x) w e w' := by
  have P := Lib.hid h
  clear h
  obtain ⟨m, k, n, t⟩ := x
  simp only at hx
  subst hx
  unfold vCall
  have HE := Lib.hid (show mthD d ⟨[71, 101, 116], k, n, t⟩ = getD1 d k from rfl)
  have hta := ta_4_1
  have hmd := method_4_Get b
  have hnl := nilAhead_4_Get b
  have HB2 := Lib.hid (show ∀ o1 o2, Below w.heap.size w ((w.alloc o1).alloc o2) from fun o1 o2 => ((Below.refl _ _).alloc (Nat.le_refl _) _).alloc (by simp) _)
  have HC := Lib.hid (fun W (HB : Below w.heap.size w W) => get_c N b cv d k W (P.out.st.below HB) P.out.hm)
  rw [HE.out]
  clear HE
  generalize getD1 d k = out at *
  go_enter Tryz.func101, Tryz.ntmps101
  go_wp2_with fail
  obtain ⟨W, hW⟩ : ∃ W, W = (w.alloc (.cells #[.string ⟨#[71, 101, 116]⟩, .string ⟨k.toArray⟩, .int .i64 n, .string ⟨t.toArray⟩] 28)).alloc (.cells #[.int .i64 0, .int .i64 0, .string ⟨#[]⟩, .int .i64 0, .int .i64 0] 32) := ⟨_, rfl⟩
  rw [← hW]
  have HBW := Lib.hid (show Below w.heap.size w W from by rw [hW]; exact HB2.out _ _)
  have hg := (show W.heap[w.heap.size + 1]? = some (.cells #[.int .i64 0, .int .i64 0, .string ⟨#[]⟩, .int .i64 0, .int .i64 0] 32 (0, 0)) from by rw [hW]; exact heap_two _ _ _)
  have q1 : W.cell? ⟨w.heap.size, 1, none⟩ = some (.string ⟨k.toArray⟩) := by rw [hW]; simp [go_sem]
  have q2 : W.cell? ⟨w.heap.size, 2, none⟩ = some (.int .i64 n) := by rw [hW]; simp [go_sem]
  have q3 : W.cell? ⟨w.heap.size, 3, none⟩ = some (.string ⟨t.toArray⟩) := by rw [hW]; simp [go_sem]
  have r0 : W.cell? ⟨w.heap.size + 1, 0, none⟩ = some (.int .i64 0) := by rw [hW]; simp [go_sem]
  have r1 : W.cell? ⟨w.heap.size + 1, 1, none⟩ = some (.int .i64 0) := by rw [hW]; simp [go_sem]
  have r2 : W.cell? ⟨w.heap.size + 1, 2, none⟩ = some (.string ⟨#[]⟩) := by rw [hW]; simp [go_sem]
  have r3 : W.cell? ⟨w.heap.size + 1, 3, none⟩ = some (.int .i64 0) := by rw [hW]; simp [go_sem]
  have r4 : W.cell? ⟨w.heap.size + 1, 4, none⟩ = some (.int .i64 0) := by rw [hW]; simp [go_sem]
  have HZ := Lib.hid (show ∀ o, W.frozen? ⟨w.heap.size + 1, o, none⟩ = false from fun o => by rw [hW]; simp [go_sem])
  have HG := Lib.hid hg
  clear hW hg
  go_still_tail 4, (by kernel_rfl)
  change wpList _ _ _ _ _ W.drew
  go_wp2_with fail
  refine (HC.out _ (below_drewN HBW.out 1)).mono ?_
  rintro e w1 hd
  obtain ⟨rfl, hf, hc, hz⟩ := fin_of (n := w.heap.size + 1) P.out.st (W := W.drew) (below_drewN HBW.out 1) (by omega) ⟨_, HG.out⟩ hd
  have HF := Lib.hid hf
  clear hf hd HC
  obtain ⟨d1, g0, g1, g2, g3, g4⟩ := out
  unfold vReply
  simp only at *
  have hc0 := (hc 0).trans r0
  have hc1 := (hc 1).trans r1
  have hc2 := (hc 2).trans r2
  have hc3 := (hc 3).trans r3
  have hc4 := (hc 4).trans r4
  have hzz : ∀ o, w1.frozen? ⟨w.heap.size + 1, o, none⟩ = false := fun o => (hz o).trans (HZ.out o)
  clear hc hz r0 r1 r2 r3 r4
  go_wp2_with fail
  refine bodyPost_ret (v := vReply ⟨g0, g1, g2, g3, g4⟩) (by simp [results, Tryz.results101, go_sem, vReply, cell_set_at, cell_set_ne, hc0, hc1, hc2, hc3, hc4]) rfl ?_
  refine fin_does (n := w.heap.size + 1) ?_
  repeat (with_reducible refine fin_set ?_ _ _)
  exact HF.out
set_option maxRecDepth 100000 in
set_option maxHeartbeats 1600000 in
theorem try_4_Put (N b : Nat) (cv : Value) (d : CoreD) (x : CallD) (mx : Int) (w : World) (h : Pre N b cv d x mx w) (hx : x.fMethod = [80, 117, 116]) (PUT : Hid (∀ w, CoreSt N b cv d w → Calls Tryz.prog 144 #[.agg #[.pointer (some ⟨b, 0, none⟩)], .string ⟨x.fKey.toArray⟩, .int .i64 x.fValue] w fun e w' => Does N b cv (putD d x.fKey x.fValue) w e w')) :
    Calls Tryz.prog 101 #[.iface 137 (.agg #[.pointer (some ⟨b, 0, none⟩), .pointer (some ⟨b, 0, none⟩), .pointer (some ⟨b, 0, none⟩)]), vCall x] w fun e w' => Does N b cv (mthD d x) w e w' := by
  have P := Lib.hid h
  clear h
  obtain ⟨m, k, n, t⟩ := x
  simp only at hx
  subst hx
  unfold vCall
  have HE := Lib.hid (show mthD d ⟨[80, 117, 116], k, n, t⟩ = putD d k n from rfl)
  have hta := ta_4_1
  have hmd := method_4_Put b
  have hnl := nilAhead_4_Put b
  have HB2 := Lib.hid (show ∀ o1 o2, Below w.heap.size w ((w.alloc o1).alloc o2) from fun o1 o2 => ((Below.refl _ _).alloc (Nat.le_refl _) _).alloc (by simp) _)
  have HC := Lib.hid (fun W (HB : Below w.heap.size w W) => PUT.out W (P.out.st.below HB))
  rw [HE.out]
  clear HE
  generalize putD d k n = out at *
  go_enter Tryz.func101, Tryz.ntmps101
  go_wp2_with fail
  obtain ⟨W, hW⟩ : ∃ W, W = (w.alloc (.cells #[.string ⟨#[80, 117, 116]⟩, .string ⟨k.toArray⟩, .int .i64 n, .string ⟨t.toArray⟩] 28)).alloc (.cells #[.int .i64 0, .int .i64 0, .string ⟨#[]⟩, .int .i64 0, .int .i64 0] 32) := ⟨_, rfl⟩
  rw [← hW]
  have HBW := Lib.hid (show Below w.heap.size w W from by rw [hW]; exact HB2.out _ _)
  have hg := (show W.heap[w.heap.size + 1]? = some (.cells #[.int .i64 0, .int .i64 0, .string ⟨#[]⟩, .int .i64 0, .int .i64 0] 32 (0, 0)) from by rw [hW]; exact heap_two _ _ _)
  have q1 : W.cell? ⟨w.heap.size, 1, none⟩ = some (.string ⟨k.toArray⟩) := by rw [hW]; simp [go_sem]
  have q2 : W.cell? ⟨w.heap.size, 2, none⟩ = some (.int .i64 n) := by rw [hW]; simp [go_sem]
  have q3 : W.cell? ⟨w.heap.size, 3, none⟩ = some (.string ⟨t.toArray⟩) := by rw [hW]; simp [go_sem]
  have r0 : W.cell? ⟨w.heap.size + 1, 0, none⟩ = some (.int .i64 0) := by rw [hW]; simp [go_sem]
  have r1 : W.cell? ⟨w.heap.size + 1, 1, none⟩ = some (.int .i64 0) := by rw [hW]; simp [go_sem]
  have r2 : W.cell? ⟨w.heap.size + 1, 2, none⟩ = some (.string ⟨#[]⟩) := by rw [hW]; simp [go_sem]
  have r3 : W.cell? ⟨w.heap.size + 1, 3, none⟩ = some (.int .i64 0) := by rw [hW]; simp [go_sem]
  have r4 : W.cell? ⟨w.heap.size + 1, 4, none⟩ = some (.int .i64 0) := by rw [hW]; simp [go_sem]
  have HZ := Lib.hid (show ∀ o, W.frozen? ⟨w.heap.size + 1, o, none⟩ = false from fun o => by rw [hW]; simp [go_sem])
  have HG := Lib.hid hg
  clear hW hg
  go_still_tail 6, (by kernel_rfl)
  change wpList _ _ _ _ _ W.drew
  go_wp2_with fail
  refine (HC.out _ (below_drewN HBW.out 1)).mono ?_
  rintro e w1 hd
  obtain ⟨rfl, hf, hc, hz⟩ := fin_of (n := w.heap.size + 1) P.out.st (W := W.drew) (below_drewN HBW.out 1) (by omega) ⟨_, HG.out⟩ hd
  have HF := Lib.hid hf
  clear hf hd HC
  obtain ⟨d1, g0, g1, g2, g3, g4⟩ := out
  unfold vReply
  simp only at *
  have hc0 := (hc 0).trans r0
  have hc1 := (hc 1).trans r1
  have hc2 := (hc 2).trans r2
  have hc3 := (hc 3).trans r3
  have hc4 := (hc 4).trans r4
  have hzz : ∀ o, w1.frozen? ⟨w.heap.size + 1, o, none⟩ = false := fun o => (hz o).trans (HZ.out o)
  clear hc hz r0 r1 r2 r3 r4
  go_wp2_with fail
  refine bodyPost_ret (v := vReply ⟨g0, g1, g2, g3, g4⟩) (by simp [results, Tryz.results101, go_sem, vReply, cell_set_at, cell_set_ne, hc0, hc1, hc2, hc3, hc4]) rfl ?_
  refine fin_does (n := w.heap.size + 1) ?_
  repeat (with_reducible refine fin_set ?_ _ _)
  exact HF.out
set_option maxRecDepth 100000 in
set_option maxHeartbeats 1600000 in
theorem try_4_Tell (N b : Nat) (cv : Value) (d : CoreD) (x : CallD) (mx : Int) (w : World) (h : Pre N b cv d x mx w) (hx : x.fMethod = [84, 101, 108, 108]) :
    Calls Tryz.prog 101 #[.iface 137 (.agg #[.pointer (some ⟨b, 0, none⟩), .pointer (some ⟨b, 0, none⟩), .pointer (some ⟨b, 0, none⟩)]), vCall x] w fun e w' => Panics w e w' := by
  have P := Lib.hid h
  clear h
  obtain ⟨m, k, n, t⟩ := x
  simp only at hx
  subst hx
  unfold vCall
  obtain ⟨c, E, hta⟩ := ta_4_2
  go_enter Tryz.func101, Tryz.ntmps101
  go_wp2_with fail
  exact ⟨rfl, _, rfl, by repeat (first | with_reducible exact Below.refl _ _ | with_reducible refine Below.alloc ?_ (by simp; try omega) _)⟩
set_option maxRecDepth 100000 in
set_option maxHeartbeats 1600000 in
theorem try_4_Hear (N b : Nat) (cv : Value) (d : CoreD) (x : CallD) (mx : Int) (w : World) (h : Pre N b cv d x mx w) (hx : x.fMethod = [72, 101, 97, 114]) :
    Calls Tryz.prog 101 #[.iface 137 (.agg #[.pointer (some ⟨b, 0, none⟩), .pointer (some ⟨b, 0, none⟩), .pointer (some ⟨b, 0, none⟩)]), vCall x] w fun e w' => Panics w e w' := by
  have P := Lib.hid h
  clear h
  obtain ⟨m, k, n, t⟩ := x
  simp only at hx
  subst hx
  unfold vCall
  obtain ⟨c, E, hta⟩ := ta_4_3
  go_enter Tryz.func101, Tryz.ntmps101
  go_wp2_with fail
  refine wp_region_any (by kernel_rfl) ?_
  change wpAny _ _ _ _ _ _ _ (World.drew _)
  refine wpAny_take (i := 0) (v := ?_) rfl (by kernel_rfl) (by kernel_rfl) (by kernel_rfl) (fun _ _ _ h => h) (Or.inl ⟨by rfl, ?_⟩) ?_
  rotate_left
  · intro w; go_simp; try (with_reducible rfl)
  refine wpAny_take (i := 2) (v := ?_) rfl (by kernel_rfl) (by kernel_rfl) (by kernel_rfl) (fun _ _ _ h => h) (Or.inl ⟨by rfl, ?_⟩) ?_
  rotate_left
  · intro w; go_simp; try (with_reducible rfl)
  refine wpAny_ready (rs := [1, 3]) (by kernel_rfl) (by simp) ?_
  refine AllReady.cons rfl (fun K hK => ?_) ?_
  · go_simp
    exact ⟨rfl, _, rfl, by repeat (first | with_reducible exact Below.refl _ _ | with_reducible refine Below.alloc ?_ (by simp; try omega) _ | with_reducible refine Below.drew ?_ | with_reducible refine below_drewN ?_ _)⟩
  refine AllReady.cons rfl (fun K hK => ?_) ?_
  · go_simp
    refine hK _ _ ?_
    clear hK K
    refine wpAny_ready (rs := [1]) (by kernel_rfl) (by simp) ?_
    refine AllReady.cons rfl (fun K hK => ?_) ?_
    · go_simp
      exact ⟨rfl, _, rfl, by repeat (first | with_reducible exact Below.refl _ _ | with_reducible refine Below.alloc ?_ (by simp; try omega) _ | with_reducible refine Below.drew ?_ | with_reducible refine below_drewN ?_ _)⟩
    exact AllReady.nil
  exact AllReady.nil
set_option maxRecDepth 100000 in
set_option maxHeartbeats 1600000 in
theorem try_4_Load (N b : Nat) (cv : Value) (d : CoreD) (x : CallD) (mx : Int) (w : World) (h : Pre N b cv d x mx w) (hx : x.fMethod = [76, 111, 97, 100]) :
    Calls Tryz.prog 101 #[.iface 137 (.agg #[.pointer (some ⟨b, 0, none⟩), .pointer (some ⟨b, 0, none⟩), .pointer (some ⟨b, 0, none⟩)]), vCall x] w fun e w' => Panics w e w' := by
  have P := Lib.hid h
  clear h
  obtain ⟨m, k, n, t⟩ := x
  simp only at hx
  subst hx
  unfold vCall
  obtain ⟨c, E, hta⟩ := ta_4_4
  go_enter Tryz.func101, Tryz.ntmps101
  go_wp2_with fail
  refine wp_region_any (by kernel_rfl) ?_
  change wpAny _ _ _ _ _ _ _ (World.drew _)
  refine wpAny_take (i := 0) (v := ?_) rfl (by kernel_rfl) (by kernel_rfl) (by kernel_rfl) (fun _ _ _ h => h) (Or.inl ⟨by rfl, ?_⟩) ?_
  rotate_left
  · intro w; go_simp; try (with_reducible rfl)
  refine wpAny_take (i := 2) (v := ?_) rfl (by kernel_rfl) (by kernel_rfl) (by kernel_rfl) (fun _ _ _ h => h) (Or.inl ⟨by rfl, ?_⟩) ?_
  rotate_left
  · intro w; go_simp; try (with_reducible rfl)
  refine wpAny_ready (rs := [1, 3]) (by kernel_rfl) (by simp) ?_
  refine AllReady.cons rfl (fun K hK => ?_) ?_
  · go_simp
    exact ⟨rfl, _, rfl, by repeat (first | with_reducible exact Below.refl _ _ | with_reducible refine Below.alloc ?_ (by simp; try omega) _ | with_reducible refine Below.drew ?_ | with_reducible refine below_drewN ?_ _)⟩
  refine AllReady.cons rfl (fun K hK => ?_) ?_
  · go_simp
    refine hK _ _ ?_
    clear hK K
    refine wpAny_ready (rs := [1]) (by kernel_rfl) (by simp) ?_
    refine AllReady.cons rfl (fun K hK => ?_) ?_
    · go_simp
      exact ⟨rfl, _, rfl, by repeat (first | with_reducible exact Below.refl _ _ | with_reducible refine Below.alloc ?_ (by simp; try omega) _ | with_reducible refine Below.drew ?_ | with_reducible refine below_drewN ?_ _)⟩
    exact AllReady.nil
  exact AllReady.nil
set_option maxRecDepth 100000 in
set_option maxHeartbeats 1600000 in
theorem try_4_Save (N b : Nat) (cv : Value) (d : CoreD) (x : CallD) (mx : Int) (w : World) (h : Pre N b cv d x mx w) (hx : x.fMethod = [83, 97, 118, 101]) :
    Calls Tryz.prog 101 #[.iface 137 (.agg #[.pointer (some ⟨b, 0, none⟩), .pointer (some ⟨b, 0, none⟩), .pointer (some ⟨b, 0, none⟩)]), vCall x] w fun e w' => Panics w e w' := by
  have P := Lib.hid h
  clear h
  obtain ⟨m, k, n, t⟩ := x
  simp only at hx
  subst hx
  unfold vCall
  obtain ⟨c, E, hta⟩ := ta_4_4
  go_enter Tryz.func101, Tryz.ntmps101
  go_wp2_with fail
  exact ⟨rfl, _, rfl, by repeat (first | with_reducible exact Below.refl _ _ | with_reducible refine Below.alloc ?_ (by simp; try omega) _)⟩
set_option maxRecDepth 100000 in
set_option maxHeartbeats 1600000 in
theorem try_4_Heal (N b : Nat) (cv : Value) (d : CoreD) (x : CallD) (mx : Int) (w : World) (h : Pre N b cv d x mx w) (hx : x.fMethod = [72, 101, 97, 108]) :
    Calls Tryz.prog 101 #[.iface 137 (.agg #[.pointer (some ⟨b, 0, none⟩), .pointer (some ⟨b, 0, none⟩), .pointer (some ⟨b, 0, none⟩)]), vCall x] w fun e w' => Panics w e w' := by
  have P := Lib.hid h
  clear h
  obtain ⟨m, k, n, t⟩ := x
  simp only at hx
  subst hx
  unfold vCall
  obtain ⟨c, E, hta⟩ := ta_4_5
  go_enter Tryz.func101, Tryz.ntmps101
  go_wp2_with fail
  exact ⟨rfl, _, rfl, by repeat (first | with_reducible exact Below.refl _ _ | with_reducible refine Below.alloc ?_ (by simp; try omega) _)⟩
set_option maxRecDepth 100000 in
set_option maxHeartbeats 1600000 in
theorem try_5_Start (N b : Nat) (cv : Value) (d : CoreD) (x : CallD) (mx : Int) (w : World) (h : Pre N b cv d x mx w) (hx : x.fMethod = [83, 116, 97, 114, 116]) :
    Calls Tryz.prog 101 #[.iface 140 (.agg #[.pointer (some ⟨b, 0, none⟩), .pointer (some ⟨b, 0, none⟩), .pointer (some ⟨b, 0, none⟩)]), vCall x] w fun e w' => Does N b cv (mthD d x) w e w' := by
  have P := Lib.hid h
  clear h
  obtain ⟨m, k, n, t⟩ := x
  simp only at hx
  subst hx
  unfold vCall
  have HE := Lib.hid (show mthD d ⟨[83, 116, 97, 114, 116], k, n, t⟩ = startD d from rfl)
  have hta := ta_5_0
  have hmd := method_5_Start b
  have hnl := nilAhead_5_Start b
  have HB2 := Lib.hid (show ∀ o1 o2, Below w.heap.size w ((w.alloc o1).alloc o2) from fun o1 o2 => ((Below.refl _ _).alloc (Nat.le_refl _) _).alloc (by simp) _)
  have HC := Lib.hid (fun W (HB : Below w.heap.size w W) => start_c N b cv d W (P.out.st.below HB) P.out.hr)
  rw [HE.out]
  clear HE
  generalize startD d = out at *
  go_enter Tryz.func101, Tryz.ntmps101
  go_wp2_with fail
  refine (HC.out _ (HB2.out _ _)).mono ?_
  rintro e w1 hd
  obtain ⟨rfl, hf, hc, hz⟩ := fin_of (n := w.heap.size + 1) P.out.st (HB2.out _ _) (by omega) ⟨_, heap_two _ _ _⟩ hd
  have HF := Lib.hid hf
  clear hf hd
  clear HC
  obtain ⟨d1, r0, r1, r2, r3, r4⟩ := out
  unfold vReply
  simp only at *
  have hc0 := hc 0
  have hc1 := hc 1
  have hc2 := hc 2
  have hc3 := hc 3
  have hc4 := hc 4
  simp at hc0 hc1 hc2 hc3 hc4 hz
  clear hc
  go_wp2_with fail
  refine bodyPost_ret (v := vReply ⟨r0, r1, r2, r3, r4⟩) (by simp [results, Tryz.results101, go_sem, vReply, cell_set_at, cell_set_ne, hc0, hc1, hc2, hc3, hc4]) rfl ?_
  refine fin_does (n := w.heap.size + 1) ?_
  repeat (with_reducible refine fin_set ?_ _ _)
  exact HF.out
set_option maxRecDepth 100000 in
set_option maxHeartbeats 1600000 in
theorem try_5_Stop (N b : Nat) (cv : Value) (d : CoreD) (x : CallD) (mx : Int) (w : World) (h : Pre N b cv d x mx w) (hx : x.fMethod = [83, 116, 111, 112]) :
    Calls Tryz.prog 101 #[.iface 140 (.agg #[.pointer (some ⟨b, 0, none⟩), .pointer (some ⟨b, 0, none⟩), .pointer (some ⟨b, 0, none⟩)]), vCall x] w fun e w' => Does N b cv (mthD d x) w e w' := by
  have P := Lib.hid h
  clear h
  obtain ⟨m, k, n, t⟩ := x
  simp only at hx
  subst hx
  unfold vCall
  have HE := Lib.hid (show mthD d ⟨[83, 116, 111, 112], k, n, t⟩ = stopD d from rfl)
  have hta := ta_5_0
  have hmd := method_5_Stop b
  have hnl := nilAhead_5_Stop b
  have HB2 := Lib.hid (show ∀ o1 o2, Below w.heap.size w ((w.alloc o1).alloc o2) from fun o1 o2 => ((Below.refl _ _).alloc (Nat.le_refl _) _).alloc (by simp) _)
  have HC := Lib.hid (fun W (HB : Below w.heap.size w W) => stop_c N b cv d W (P.out.st.below HB) P.out.hr)
  rw [HE.out]
  clear HE
  generalize stopD d = out at *
  go_enter Tryz.func101, Tryz.ntmps101
  go_wp2_with fail
  refine (HC.out _ (HB2.out _ _)).mono ?_
  rintro e w1 hd
  obtain ⟨rfl, hf, hc, hz⟩ := fin_of (n := w.heap.size + 1) P.out.st (HB2.out _ _) (by omega) ⟨_, heap_two _ _ _⟩ hd
  have HF := Lib.hid hf
  clear hf hd
  clear HC
  obtain ⟨d1, r0, r1, r2, r3, r4⟩ := out
  unfold vReply
  simp only at *
  have hc0 := hc 0
  have hc1 := hc 1
  have hc2 := hc 2
  have hc3 := hc 3
  have hc4 := hc 4
  simp at hc0 hc1 hc2 hc3 hc4 hz
  clear hc
  go_wp2_with fail
  refine bodyPost_ret (v := vReply ⟨r0, r1, r2, r3, r4⟩) (by simp [results, Tryz.results101, go_sem, vReply, cell_set_at, cell_set_ne, hc0, hc1, hc2, hc3, hc4]) rfl ?_
  refine fin_does (n := w.heap.size + 1) ?_
  repeat (with_reducible refine fin_set ?_ _ _)
  exact HF.out
set_option maxRecDepth 100000 in
set_option maxHeartbeats 1600000 in
theorem try_5_Get (N b : Nat) (cv : Value) (d : CoreD) (x : CallD) (mx : Int) (w : World) (h : Pre N b cv d x mx w) (hx : x.fMethod = [71, 101, 116]) :
    Calls Tryz.prog 101 #[.iface 140 (.agg #[.pointer (some ⟨b, 0, none⟩), .pointer (some ⟨b, 0, none⟩), .pointer (some ⟨b, 0, none⟩)]), vCall x] w fun e w' => Panics w e w' := by
  have P := Lib.hid h
  clear h
  obtain ⟨m, k, n, t⟩ := x
  simp only at hx
  subst hx
  unfold vCall
  obtain ⟨c, E, hta⟩ := ta_5_1
  go_enter Tryz.func101, Tryz.ntmps101
  go_wp2_with fail
  refine wp_region_any (by kernel_rfl) ?_
  change wpAny _ _ _ _ _ _ _ (World.drew _)
  refine wpAny_take (i := 0) (v := ?_) rfl (by kernel_rfl) (by kernel_rfl) (by kernel_rfl) (fun _ _ _ h => h) (Or.inl ⟨by rfl, ?_⟩) ?_
  rotate_left
  · intro w; go_simp; try (with_reducible rfl)
  refine wpAny_take (i := 2) (v := ?_) rfl (by kernel_rfl) (by kernel_rfl) (by kernel_rfl) (fun _ _ _ h => h) (Or.inl ⟨by rfl, ?_⟩) ?_
  rotate_left
  · intro w; go_simp; try (with_reducible rfl)
  refine wpAny_ready (rs := [1, 3]) (by kernel_rfl) (by simp) ?_
  refine AllReady.cons rfl (fun K hK => ?_) ?_
  · go_simp
    exact ⟨rfl, _, rfl, by repeat (first | with_reducible exact Below.refl _ _ | with_reducible refine Below.alloc ?_ (by simp; try omega) _ | with_reducible refine Below.drew ?_ | with_reducible refine below_drewN ?_ _)⟩
  refine AllReady.cons rfl (fun K hK => ?_) ?_
  · go_simp
    refine hK _ _ ?_
    clear hK K
    refine wpAny_ready (rs := [1]) (by kernel_rfl) (by simp) ?_
    refine AllReady.cons rfl (fun K hK => ?_) ?_
    · go_simp
      exact ⟨rfl, _, rfl, by repeat (first | with_reducible exact Below.refl _ _ | with_reducible refine Below.alloc ?_ (by simp; try omega) _ | with_reducible refine Below.drew ?_ | with_reducible refine below_drewN ?_ _)⟩
    exact AllReady.nil
  exact AllReady.nil
set_option maxRecDepth 100000 in
set_option maxHeartbeats 1600000 in
theorem try_5_Put (N b : Nat) (cv : Value) (d : CoreD) (x : CallD) (mx : Int) (w : World) (h : Pre N b cv d x mx w) (hx : x.fMethod = [80, 117, 116]) :
    Calls Tryz.prog 101 #[.iface 140 (.agg #[.pointer (some ⟨b, 0, none⟩), .pointer (some ⟨b, 0, none⟩), .pointer (some ⟨b, 0, none⟩)]), vCall x] w fun e w' => Panics w e w' := by
  have P := Lib.hid h
  clear h
  obtain ⟨m, k, n, t⟩ := x
  simp only at hx
  subst hx
  unfold vCall
  obtain ⟨c, E, hta⟩ := ta_5_1
  go_enter Tryz.func101, Tryz.ntmps101
  go_wp2_with fail
  refine wp_region_any (by kernel_rfl) ?_
  change wpAny _ _ _ _ _ _ _ (World.drew _)
  refine wpAny_take (i := 0) (v := ?_) rfl (by kernel_rfl) (by kernel_rfl) (by kernel_rfl) (fun _ _ _ h => h) (Or.inl ⟨by rfl, ?_⟩) ?_
  rotate_left
  · intro w; go_simp; try (with_reducible rfl)
  refine wpAny_take (i := 2) (v := ?_) rfl (by kernel_rfl) (by kernel_rfl) (by kernel_rfl) (fun _ _ _ h => h) (Or.inl ⟨by rfl, ?_⟩) ?_
  rotate_left
  · intro w; go_simp; try (with_reducible rfl)
  refine wpAny_take (i := 4) (v := ?_) rfl (by kernel_rfl) (by kernel_rfl) (by kernel_rfl) (fun _ _ _ h => h) (Or.inl ⟨by rfl, ?_⟩) ?_
  rotate_left
  · intro w; go_simp; try (with_reducible rfl)
  refine wpAny_ready (rs := [1, 3, 5]) (by kernel_rfl) (by simp) ?_
  refine AllReady.cons rfl (fun K hK => ?_) ?_
  · go_simp
    exact ⟨rfl, _, rfl, by repeat (first | with_reducible exact Below.refl _ _ | with_reducible refine Below.alloc ?_ (by simp; try omega) _ | with_reducible refine Below.drew ?_ | with_reducible refine below_drewN ?_ _)⟩
  refine AllReady.cons rfl (fun K hK => ?_) ?_
  · go_simp
    refine hK _ _ ?_
    clear hK K
    refine wpAny_ready (rs := [1, 5]) (by kernel_rfl) (by simp) ?_
    refine AllReady.cons rfl (fun K hK => ?_) ?_
    · go_simp
      exact ⟨rfl, _, rfl, by repeat (first | with_reducible exact Below.refl _ _ | with_reducible refine Below.alloc ?_ (by simp; try omega) _ | with_reducible refine Below.drew ?_ | with_reducible refine below_drewN ?_ _)⟩
    refine AllReady.cons rfl (fun K hK => ?_) ?_
    · go_simp
      refine hK _ _ ?_
      clear hK K
      refine wpAny_ready (rs := [1]) (by kernel_rfl) (by simp) ?_
      refine AllReady.cons rfl (fun K hK => ?_) ?_
      · go_simp
        exact ⟨rfl, _, rfl, by repeat (first | with_reducible exact Below.refl _ _ | with_reducible refine Below.alloc ?_ (by simp; try omega) _ | with_reducible refine Below.drew ?_ | with_reducible refine below_drewN ?_ _)⟩
      exact AllReady.nil
    exact AllReady.nil
  refine AllReady.cons rfl (fun K hK => ?_) ?_
  · go_simp
    refine hK _ _ ?_
    clear hK K
    refine wpAny_ready (rs := [1, 3]) (by kernel_rfl) (by simp) ?_
    refine AllReady.cons rfl (fun K hK => ?_) ?_
    · go_simp
      exact ⟨rfl, _, rfl, by repeat (first | with_reducible exact Below.refl _ _ | with_reducible refine Below.alloc ?_ (by simp; try omega) _ | with_reducible refine Below.drew ?_ | with_reducible refine below_drewN ?_ _)⟩
    refine AllReady.cons rfl (fun K hK => ?_) ?_
    · go_simp
      refine hK _ _ ?_
      clear hK K
      refine wpAny_ready (rs := [1]) (by kernel_rfl) (by simp) ?_
      refine AllReady.cons rfl (fun K hK => ?_) ?_
      · go_simp
        exact ⟨rfl, _, rfl, by repeat (first | with_reducible exact Below.refl _ _ | with_reducible refine Below.alloc ?_ (by simp; try omega) _ | with_reducible refine Below.drew ?_ | with_reducible refine below_drewN ?_ _)⟩
      exact AllReady.nil
    exact AllReady.nil
  exact AllReady.nil
set_option maxRecDepth 100000 in
set_option maxHeartbeats 1600000 in
theorem try_5_Tell (N b : Nat) (cv : Value) (d : CoreD) (x : CallD) (mx : Int) (w : World) (h : Pre N b cv d x mx w) (hx : x.fMethod = [84, 101, 108, 108]) :
    Calls Tryz.prog 101 #[.iface 140 (.agg #[.pointer (some ⟨b, 0, none⟩), .pointer (some ⟨b, 0, none⟩), .pointer (some ⟨b, 0, none⟩)]), vCall x] w fun e w' => Panics w e w' := by
  have P := Lib.hid h
  clear h
  obtain ⟨m, k, n, t⟩ := x
  simp only at hx
  subst hx
  unfold vCall
  obtain ⟨c, E, hta⟩ := ta_5_2
  go_enter Tryz.func101, Tryz.ntmps101
  go_wp2_with fail
  exact ⟨rfl, _, rfl, by repeat (first | with_reducible exact Below.refl _ _ | with_reducible refine Below.alloc ?_ (by simp; try omega) _)⟩
set_option maxRecDepth 100000 in
set_option maxHeartbeats 1600000 in
theorem try_5_Hear (N b : Nat) (cv : Value) (d : CoreD) (x : CallD) (mx : Int) (w : World) (h : Pre N b cv d x mx w) (hx : x.fMethod = [72, 101, 97, 114]) :
    Calls Tryz.prog 101 #[.iface 140 (.agg #[.pointer (some ⟨b, 0, none⟩), .pointer (some ⟨b, 0, none⟩), .pointer (some ⟨b, 0, none⟩)]), vCall x] w fun e w' => Does N b cv (mthD d x) w e w' := by
  have P := Lib.hid h
  clear h
  obtain ⟨m, k, n, t⟩ := x
  simp only at hx
  subst hx
  unfold vCall
  have HE := Lib.hid (show mthD d ⟨[72, 101, 97, 114], k, n, t⟩ = hearD d n from rfl)
  have hta := ta_5_3
  have hmd := method_5_Hear b
  have hnl := nilAhead_5_Hear b
  have HB2 := Lib.hid (show ∀ o1 o2, Below w.heap.size w ((w.alloc o1).alloc o2) from fun o1 o2 => ((Below.refl _ _).alloc (Nat.le_refl _) _).alloc (by simp) _)
  have HC := Lib.hid (fun W (HB : Below w.heap.size w W) => hear_c N b cv d n W (P.out.st.below HB) P.out.hr)
  rw [HE.out]
  clear HE
  generalize hearD d n = out at *
  go_enter Tryz.func101, Tryz.ntmps101
  go_wp2_with fail
  obtain ⟨W, hW⟩ : ∃ W, W = (w.alloc (.cells #[.string ⟨#[72, 101, 97, 114]⟩, .string ⟨k.toArray⟩, .int .i64 n, .string ⟨t.toArray⟩] 28)).alloc (.cells #[.int .i64 0, .int .i64 0, .string ⟨#[]⟩, .int .i64 0, .int .i64 0] 32) := ⟨_, rfl⟩
  rw [← hW]
  have HBW := Lib.hid (show Below w.heap.size w W from by rw [hW]; exact HB2.out _ _)
  have hg := (show W.heap[w.heap.size + 1]? = some (.cells #[.int .i64 0, .int .i64 0, .string ⟨#[]⟩, .int .i64 0, .int .i64 0] 32 (0, 0)) from by rw [hW]; exact heap_two _ _ _)
  have q1 : W.cell? ⟨w.heap.size, 1, none⟩ = some (.string ⟨k.toArray⟩) := by rw [hW]; simp [go_sem]
  have q2 : W.cell? ⟨w.heap.size, 2, none⟩ = some (.int .i64 n) := by rw [hW]; simp [go_sem]
  have q3 : W.cell? ⟨w.heap.size, 3, none⟩ = some (.string ⟨t.toArray⟩) := by rw [hW]; simp [go_sem]
  have r0 : W.cell? ⟨w.heap.size + 1, 0, none⟩ = some (.int .i64 0) := by rw [hW]; simp [go_sem]
  have r1 : W.cell? ⟨w.heap.size + 1, 1, none⟩ = some (.int .i64 0) := by rw [hW]; simp [go_sem]
  have r2 : W.cell? ⟨w.heap.size + 1, 2, none⟩ = some (.string ⟨#[]⟩) := by rw [hW]; simp [go_sem]
  have r3 : W.cell? ⟨w.heap.size + 1, 3, none⟩ = some (.int .i64 0) := by rw [hW]; simp [go_sem]
  have r4 : W.cell? ⟨w.heap.size + 1, 4, none⟩ = some (.int .i64 0) := by rw [hW]; simp [go_sem]
  have HZ := Lib.hid (show ∀ o, W.frozen? ⟨w.heap.size + 1, o, none⟩ = false from fun o => by rw [hW]; simp [go_sem])
  have HG := Lib.hid hg
  clear hW hg
  go_still_tail 4, (by kernel_rfl)
  change wpList _ _ _ _ _ W.drew
  go_wp2_with fail
  refine (HC.out _ (below_drewN HBW.out 1)).mono ?_
  rintro e w1 hd
  obtain ⟨rfl, hf, hc, hz⟩ := fin_of (n := w.heap.size + 1) P.out.st (W := W.drew) (below_drewN HBW.out 1) (by omega) ⟨_, HG.out⟩ hd
  have HF := Lib.hid hf
  clear hf hd HC
  obtain ⟨d1, g0, g1, g2, g3, g4⟩ := out
  unfold vReply
  simp only at *
  have hc0 := (hc 0).trans r0
  have hc1 := (hc 1).trans r1
  have hc2 := (hc 2).trans r2
  have hc3 := (hc 3).trans r3
  have hc4 := (hc 4).trans r4
  have hzz : ∀ o, w1.frozen? ⟨w.heap.size + 1, o, none⟩ = false := fun o => (hz o).trans (HZ.out o)
  clear hc hz r0 r1 r2 r3 r4
  go_wp2_with fail
  refine bodyPost_ret (v := vReply ⟨g0, g1, g2, g3, g4⟩) (by simp [results, Tryz.results101, go_sem, vReply, cell_set_at, cell_set_ne, hc0, hc1, hc2, hc3, hc4]) rfl ?_
  refine fin_does (n := w.heap.size + 1) ?_
  repeat (with_reducible refine fin_set ?_ _ _)
  exact HF.out
set_option maxRecDepth 100000 in
set_option maxHeartbeats 1600000 in
theorem try_5_Load (N b : Nat) (cv : Value) (d : CoreD) (x : CallD) (mx : Int) (w : World) (h : Pre N b cv d x mx w) (hx : x.fMethod = [76, 111, 97, 100]) :
    Calls Tryz.prog 101 #[.iface 140 (.agg #[.pointer (some ⟨b, 0, none⟩), .pointer (some ⟨b, 0, none⟩), .pointer (some ⟨b, 0, none⟩)]), vCall x] w fun e w' => Panics w e w' := by
  have P := Lib.hid h
  clear h
  obtain ⟨m, k, n, t⟩ := x
  simp only at hx
  subst hx
  unfold vCall
  obtain ⟨c, E, hta⟩ := ta_5_4
  go_enter Tryz.func101, Tryz.ntmps101
  go_wp2_with fail
  refine wp_region_any (by kernel_rfl) ?_
  change wpAny _ _ _ _ _ _ _ (World.drew _)
  refine wpAny_take (i := 0) (v := ?_) rfl (by kernel_rfl) (by kernel_rfl) (by kernel_rfl) (fun _ _ _ h => h) (Or.inl ⟨by rfl, ?_⟩) ?_
  rotate_left
  · intro w; go_simp; try (with_reducible rfl)
  refine wpAny_take (i := 2) (v := ?_) rfl (by kernel_rfl) (by kernel_rfl) (by kernel_rfl) (fun _ _ _ h => h) (Or.inl ⟨by rfl, ?_⟩) ?_
  rotate_left
  · intro w; go_simp; try (with_reducible rfl)
  refine wpAny_ready (rs := [1, 3]) (by kernel_rfl) (by simp) ?_
  refine AllReady.cons rfl (fun K hK => ?_) ?_
  · go_simp
    exact ⟨rfl, _, rfl, by repeat (first | with_reducible exact Below.refl _ _ | with_reducible refine Below.alloc ?_ (by simp; try omega) _ | with_reducible refine Below.drew ?_ | with_reducible refine below_drewN ?_ _)⟩
  refine AllReady.cons rfl (fun K hK => ?_) ?_
  · go_simp
    refine hK _ _ ?_
    clear hK K
    refine wpAny_ready (rs := [1]) (by kernel_rfl) (by simp) ?_
    refine AllReady.cons rfl (fun K hK => ?_) ?_
    · go_simp
      exact ⟨rfl, _, rfl, by repeat (first | with_reducible exact Below.refl _ _ | with_reducible refine Below.alloc ?_ (by simp; try omega) _ | with_reducible refine Below.drew ?_ | with_reducible refine below_drewN ?_ _)⟩
    exact AllReady.nil
  exact AllReady.nil
set_option maxRecDepth 100000 in
set_option maxHeartbeats 1600000 in
theorem try_5_Save (N b : Nat) (cv : Value) (d : CoreD) (x : CallD) (mx : Int) (w : World) (h : Pre N b cv d x mx w) (hx : x.fMethod = [83, 97, 118, 101]) :
    Calls Tryz.prog 101 #[.iface 140 (.agg #[.pointer (some ⟨b, 0, none⟩), .pointer (some ⟨b, 0, none⟩), .pointer (some ⟨b, 0, none⟩)]), vCall x] w fun e w' => Panics w e w' := by
  have P := Lib.hid h
  clear h
  obtain ⟨m, k, n, t⟩ := x
  simp only at hx
  subst hx
  unfold vCall
  obtain ⟨c, E, hta⟩ := ta_5_4
  go_enter Tryz.func101, Tryz.ntmps101
  go_wp2_with fail
  exact ⟨rfl, _, rfl, by repeat (first | with_reducible exact Below.refl _ _ | with_reducible refine Below.alloc ?_ (by simp; try omega) _)⟩
set_option maxRecDepth 100000 in
set_option maxHeartbeats 1600000 in
theorem try_5_Heal (N b : Nat) (cv : Value) (d : CoreD) (x : CallD) (mx : Int) (w : World) (h : Pre N b cv d x mx w) (hx : x.fMethod = [72, 101, 97, 108]) :
    Calls Tryz.prog 101 #[.iface 140 (.agg #[.pointer (some ⟨b, 0, none⟩), .pointer (some ⟨b, 0, none⟩), .pointer (some ⟨b, 0, none⟩)]), vCall x] w fun e w' => Panics w e w' := by
  have P := Lib.hid h
  clear h
  obtain ⟨m, k, n, t⟩ := x
  simp only at hx
  subst hx
  unfold vCall
  obtain ⟨c, E, hta⟩ := ta_5_5
  go_enter Tryz.func101, Tryz.ntmps101
  go_wp2_with fail
  exact ⟨rfl, _, rfl, by repeat (first | with_reducible exact Below.refl _ _ | with_reducible refine Below.alloc ?_ (by simp; try omega) _)⟩
end Go.Proofs.YtghebbndfpbkcaaGreat
/- The deferred function literal behind a panic, by kind. Written by gen/ch3del.py. -/
namespace Go.Proofs.YtghebbndfpbkcaaGreat
set_option linter.unusedVariables false
set_option linter.unusedSimpArgs false
open Go.RowKit
set_option maxRecDepth 100000 in
set_option maxHeartbeats 1600000 in
theorem catch_4 (b : Nat) (cv : Value) (d : CoreD) (x : CallD) (nx np nr : Nat) (pv : Value) (w : World) (h : CoreBox w b cv d) (hb : Boxes nx np nr x (partV b 4) w) :
    CallsD Tryz.prog 100 #[.pointer (some ⟨nx, 0, none⟩), .pointer (some ⟨np, 0, none⟩), .pointer (some ⟨nr, 0, none⟩)] (.panicking ({ v := .iface Tryz.prog.rt.typeAssertionError pv, recovered := false } :: [])) w fun e u' w' =>
      e = .returned (.tuple #[]) ∧ u' = .panicking ({ v := .iface Tryz.prog.rt.typeAssertionError pv, recovered := true } :: []) ∧ ∃ w1, Below w.heap.size w w1 ∧ w' = put5 w1 nr ⟨1, 0, [], wantF x.fMethod, coreF d⟩ := by
  have HX := Lib.hid hb
  have HC := Lib.hid h
  have x0 := hb.x0
  have p0 := hb.p0
  unfold partV at p0
  have HW := Lib.hid (fun W => implWant_any ⟨x.fMethod.toArray⟩ W)
  simp only [List.toList_toArray] at HW
  have HF := Lib.hid (fun W (hw : Below w.heap.size w W) => face_c b cv d W (HC.out.keep (hw.block b HC.out.lt)))
  have hfm := face_4 b
  have hfn := faceNil_4 b
  generalize wantF x.fMethod = want at *
  generalize coreF d = had at *
  clear h hb
  refine callsD_of_wpS Tryz.func100 rfl fun c₀ cs hu => ?_
  apply wpS_seq
  apply wpS_region
  simp [wpOpsS, go_sem, recoverD, hu, Tryz.ntmps100, Exit.thenS]
  refine wpS_cond (t := true) (by simp [Act.eval, Array.replicate]) ?_
  simp only [if_true]
  refine wpS_of_wp ?_
  go_region_with (first
    | (go_at_call 96; refine (HW.out _).mono ?_; rintro e w1 ⟨rfl, hb1⟩; have HB1 := Lib.hid (show Below w.heap.size w w1 from ⟨hb1.os, hb1.tape, hb1.output, hb1.size, hb1.block⟩); have k0 := (HX.out.below HB1.out).p0; clear hb1; simp only [partV] at k0)
    | (go_at_call 138; refine (HF.out _ HB1.out).mono ?_; rintro e w2 ⟨rfl, hb2⟩; have HB2 := Lib.hid (show Below w.heap.size w w2 from HB1.out.trans (hb2.mono HB1.out.size)); clear hb2; have KR := Lib.hid (HX.out.below HB2.out); have y0 := KR.out.z 0; have y1 := KR.out.z 1; have y2 := KR.out.z 2; have y3 := KR.out.z 3; have y4 := KR.out.z 4; obtain ⟨e0, f0⟩ := Option.isSome_iff_exists.1 (KR.out.r 0 (by decide)); obtain ⟨e1, f1⟩ := Option.isSome_iff_exists.1 (KR.out.r 1 (by decide)); obtain ⟨e2, f2⟩ := Option.isSome_iff_exists.1 (KR.out.r 2 (by decide)); obtain ⟨e3, f3⟩ := Option.isSome_iff_exists.1 (KR.out.r 3 (by decide)); obtain ⟨e4, f4⟩ := Option.isSome_iff_exists.1 (KR.out.r 4 (by decide))))
  all_goals
    cases c₀
    simp_all [bodyPostS, results, Tryz.results100]
    exact ⟨w2, HB2.out, rfl⟩
set_option maxRecDepth 100000 in
set_option maxHeartbeats 1600000 in
theorem catch_5 (b : Nat) (cv : Value) (d : CoreD) (x : CallD) (nx np nr : Nat) (pv : Value) (w : World) (h : CoreBox w b cv d) (hb : Boxes nx np nr x (partV b 5) w) :
    CallsD Tryz.prog 100 #[.pointer (some ⟨nx, 0, none⟩), .pointer (some ⟨np, 0, none⟩), .pointer (some ⟨nr, 0, none⟩)] (.panicking ({ v := .iface Tryz.prog.rt.typeAssertionError pv, recovered := false } :: [])) w fun e u' w' =>
      e = .returned (.tuple #[]) ∧ u' = .panicking ({ v := .iface Tryz.prog.rt.typeAssertionError pv, recovered := true } :: []) ∧ ∃ w1, Below w.heap.size w w1 ∧ w' = put5 w1 nr ⟨1, 0, [], wantF x.fMethod, coreF d⟩ := by
  have HX := Lib.hid hb
  have HC := Lib.hid h
  have x0 := hb.x0
  have p0 := hb.p0
  unfold partV at p0
  have HW := Lib.hid (fun W => implWant_any ⟨x.fMethod.toArray⟩ W)
  simp only [List.toList_toArray] at HW
  have HF := Lib.hid (fun W (hw : Below w.heap.size w W) => face_c b cv d W (HC.out.keep (hw.block b HC.out.lt)))
  have hfm := face_5 b
  have hfn := faceNil_5 b
  generalize wantF x.fMethod = want at *
  generalize coreF d = had at *
  clear h hb
  refine callsD_of_wpS Tryz.func100 rfl fun c₀ cs hu => ?_
  apply wpS_seq
  apply wpS_region
  simp [wpOpsS, go_sem, recoverD, hu, Tryz.ntmps100, Exit.thenS]
  refine wpS_cond (t := true) (by simp [Act.eval, Array.replicate]) ?_
  simp only [if_true]
  refine wpS_of_wp ?_
  go_region_with (first
    | (go_at_call 96; refine (HW.out _).mono ?_; rintro e w1 ⟨rfl, hb1⟩; have HB1 := Lib.hid (show Below w.heap.size w w1 from ⟨hb1.os, hb1.tape, hb1.output, hb1.size, hb1.block⟩); have k0 := (HX.out.below HB1.out).p0; clear hb1; simp only [partV] at k0)
    | (go_at_call 138; refine (HF.out _ HB1.out).mono ?_; rintro e w2 ⟨rfl, hb2⟩; have HB2 := Lib.hid (show Below w.heap.size w w2 from HB1.out.trans (hb2.mono HB1.out.size)); clear hb2; have KR := Lib.hid (HX.out.below HB2.out); have y0 := KR.out.z 0; have y1 := KR.out.z 1; have y2 := KR.out.z 2; have y3 := KR.out.z 3; have y4 := KR.out.z 4; obtain ⟨e0, f0⟩ := Option.isSome_iff_exists.1 (KR.out.r 0 (by decide)); obtain ⟨e1, f1⟩ := Option.isSome_iff_exists.1 (KR.out.r 1 (by decide)); obtain ⟨e2, f2⟩ := Option.isSome_iff_exists.1 (KR.out.r 2 (by decide)); obtain ⟨e3, f3⟩ := Option.isSome_iff_exists.1 (KR.out.r 3 (by decide)); obtain ⟨e4, f4⟩ := Option.isSome_iff_exists.1 (KR.out.r 4 (by decide))))
  all_goals
    cases c₀
    simp_all [bodyPostS, results, Tryz.results100]
    exact ⟨w2, HB2.out, rfl⟩
end Go.Proofs.YtghebbndfpbkcaaGreat
/- The door on the kinds vault, robot. Written by gen/ch3door.py. -/
namespace Go.Proofs.YtghebbndfpbkcaaGreat
set_option linter.unusedVariables false
set_option linter.unusedSimpArgs false
open Go.RowKit
set_option maxRecDepth 100000 in
set_option maxHeartbeats 1600000 in
theorem try_6_Start (N b : Nat) (cv : Value) (d : CoreD) (x : CallD) (mx : Int) (w : World) (h : Pre N b cv d x mx w) (hx : x.fMethod = [83, 116, 97, 114, 116]) :
    Calls Tryz.prog 101 #[.iface 143 (.agg #[.pointer (some ⟨b, 0, none⟩), .pointer (some ⟨b, 0, none⟩), .pointer (some ⟨b, 0, none⟩), .pointer (some ⟨b, 0, none⟩)]), vCall x] w fun e w' => Does N b cv (mthD d x) w e w' := by
  have P := Lib.hid h
  clear h
  obtain ⟨m, k, n, t⟩ := x
  simp only at hx
  subst hx
  unfold vCall
  have HE := Lib.hid (show mthD d ⟨[83, 116, 97, 114, 116], k, n, t⟩ = startD d from rfl)
  have hta := ta_6_0
  have hmd := method_6_Start b
  have hnl := nilAhead_6_Start b
  have HB2 := Lib.hid (show ∀ o1 o2, Below w.heap.size w ((w.alloc o1).alloc o2) from fun o1 o2 => ((Below.refl _ _).alloc (Nat.le_refl _) _).alloc (by simp) _)
  have HC := Lib.hid (fun W (HB : Below w.heap.size w W) => start_c N b cv d W (P.out.st.below HB) P.out.hr)
  rw [HE.out]
  clear HE
  generalize startD d = out at *
  go_enter Tryz.func101, Tryz.ntmps101
  go_wp2_with fail
  refine (HC.out _ (HB2.out _ _)).mono ?_
  rintro e w1 hd
  obtain ⟨rfl, hf, hc, hz⟩ := fin_of (n := w.heap.size + 1) P.out.st (HB2.out _ _) (by omega) ⟨_, heap_two _ _ _⟩ hd
  have HF := Lib.hid hf
  clear hf hd
  clear HC
  obtain ⟨d1, r0, r1, r2, r3, r4⟩ := out
  unfold vReply
  simp only at *
  have hc0 := hc 0
  have hc1 := hc 1
  have hc2 := hc 2
  have hc3 := hc 3
  have hc4 := hc 4
  simp at hc0 hc1 hc2 hc3 hc4 hz
  clear hc
  go_wp2_with fail
  refine bodyPost_ret (v := vReply ⟨r0, r1, r2, r3, r4⟩) (by simp [results, Tryz.results101, go_sem, vReply, cell_set_at, cell_set_ne, hc0, hc1, hc2, hc3, hc4]) rfl ?_
  refine fin_does (n := w.heap.size + 1) ?_
  repeat (with_reducible refine fin_set ?_ _ _)
  exact HF.out
set_option maxRecDepth 100000 in
set_option maxHeartbeats 1600000 in
theorem try_6_Stop (N b : Nat) (cv : Value) (d : CoreD) (x : CallD) (mx : Int) (w : World) (h : Pre N b cv d x mx w) (hx : x.fMethod = [83, 116, 111, 112]) :
    Calls Tryz.prog 101 #[.iface 143 (.agg #[.pointer (some ⟨b, 0, none⟩), .pointer (some ⟨b, 0, none⟩), .pointer (some ⟨b, 0, none⟩), .pointer (some ⟨b, 0, none⟩)]), vCall x] w fun e w' => Does N b cv (mthD d x) w e w' := by
  have P := Lib.hid h
  clear h
  obtain ⟨m, k, n, t⟩ := x
  simp only at hx
  subst hx
  unfold vCall
  have HE := Lib.hid (show mthD d ⟨[83, 116, 111, 112], k, n, t⟩ = stopD d from rfl)
  have hta := ta_6_0
  have hmd := method_6_Stop b
  have hnl := nilAhead_6_Stop b
  have HB2 := Lib.hid (show ∀ o1 o2, Below w.heap.size w ((w.alloc o1).alloc o2) from fun o1 o2 => ((Below.refl _ _).alloc (Nat.le_refl _) _).alloc (by simp) _)
  have HC := Lib.hid (fun W (HB : Below w.heap.size w W) => stop_c N b cv d W (P.out.st.below HB) P.out.hr)
  rw [HE.out]
  clear HE
  generalize stopD d = out at *
  go_enter Tryz.func101, Tryz.ntmps101
  go_wp2_with fail
  refine (HC.out _ (HB2.out _ _)).mono ?_
  rintro e w1 hd
  obtain ⟨rfl, hf, hc, hz⟩ := fin_of (n := w.heap.size + 1) P.out.st (HB2.out _ _) (by omega) ⟨_, heap_two _ _ _⟩ hd
  have HF := Lib.hid hf
  clear hf hd
  clear HC
  obtain ⟨d1, r0, r1, r2, r3, r4⟩ := out
  unfold vReply
  simp only at *
  have hc0 := hc 0
  have hc1 := hc 1
  have hc2 := hc 2
  have hc3 := hc 3
  have hc4 := hc 4
  simp at hc0 hc1 hc2 hc3 hc4 hz
  clear hc
  go_wp2_with fail
  refine bodyPost_ret (v := vReply ⟨r0, r1, r2, r3, r4⟩) (by simp [results, Tryz.results101, go_sem, vReply, cell_set_at, cell_set_ne, hc0, hc1, hc2, hc3, hc4]) rfl ?_
  refine fin_does (n := w.heap.size + 1) ?_
  repeat (with_reducible refine fin_set ?_ _ _)
  exact HF.out
set_option maxRecDepth 100000 in
set_option maxHeartbeats 1600000 in
theorem try_6_Get (N b : Nat) (cv : Value) (d : CoreD) (x : CallD) (mx : Int) (w : World) (h : Pre N b cv d x mx w) (hx : x.fMethod = [71, 101, 116]) :
    Calls Tryz.prog 101 #[.iface 143 (.agg #[.pointer (some ⟨b, 0, none⟩), .pointer (some ⟨b, 0, none⟩), .pointer (some ⟨b, 0, none⟩), .pointer (some ⟨b, 0, none⟩)]), vCall x] w fun e w' => Does N b cv (mthD d x) w e w' := by
  have P := Lib.hid h
  clear h
  obtain ⟨m, k, n, t⟩ := x
  simp only at hx
  subst hx
  unfold vCall
  have HE := Lib.hid (show mthD d ⟨[71, 101, 116], k, n, t⟩ = getD1 d k from rfl)
  have hta := ta_6_1
  have hmd := method_6_Get b
  have hnl := nilAhead_6_Get b
  have HB2 := Lib.hid (show ∀ o1 o2, Below w.heap.size w ((w.alloc o1).alloc o2) from fun o1 o2 => ((Below.refl _ _).alloc (Nat.le_refl _) _).alloc (by simp) _)
  have HC := Lib.hid (fun W (HB : Below w.heap.size w W) => get_c N b cv d k W (P.out.st.below HB) P.out.hm)
  rw [HE.out]
  clear HE
  generalize getD1 d k = out at *
  go_enter Tryz.func101, Tryz.ntmps101
  go_wp2_with fail
  obtain ⟨W, hW⟩ : ∃ W, W = (w.alloc (.cells #[.string ⟨#[71, 101, 116]⟩, .string ⟨k.toArray⟩, .int .i64 n, .string ⟨t.toArray⟩] 28)).alloc (.cells #[.int .i64 0, .int .i64 0, .string ⟨#[]⟩, .int .i64 0, .int .i64 0] 32) := ⟨_, rfl⟩
  rw [← hW]
  have HBW := Lib.hid (show Below w.heap.size w W from by rw [hW]; exact HB2.out _ _)
  have hg := (show W.heap[w.heap.size + 1]? = some (.cells #[.int .i64 0, .int .i64 0, .string ⟨#[]⟩, .int .i64 0, .int .i64 0] 32 (0, 0)) from by rw [hW]; exact heap_two _ _ _)
  have q1 : W.cell? ⟨w.heap.size, 1, none⟩ = some (.string ⟨k.toArray⟩) := by rw [hW]; simp [go_sem]
  have q2 : W.cell? ⟨w.heap.size, 2, none⟩ = some (.int .i64 n) := by rw [hW]; simp [go_sem]
  have q3 : W.cell? ⟨w.heap.size, 3, none⟩ = some (.string ⟨t.toArray⟩) := by rw [hW]; simp [go_sem]
  have r0 : W.cell? ⟨w.heap.size + 1, 0, none⟩ = some (.int .i64 0) := by rw [hW]; simp [go_sem]
  have r1 : W.cell? ⟨w.heap.size + 1, 1, none⟩ = some (.int .i64 0) := by rw [hW]; simp [go_sem]
  have r2 : W.cell? ⟨w.heap.size + 1, 2, none⟩ = some (.string ⟨#[]⟩) := by rw [hW]; simp [go_sem]
  have r3 : W.cell? ⟨w.heap.size + 1, 3, none⟩ = some (.int .i64 0) := by rw [hW]; simp [go_sem]
  have r4 : W.cell? ⟨w.heap.size + 1, 4, none⟩ = some (.int .i64 0) := by rw [hW]; simp [go_sem]
  have HZ := Lib.hid (show ∀ o, W.frozen? ⟨w.heap.size + 1, o, none⟩ = false from fun o => by rw [hW]; simp [go_sem])
  have HG := Lib.hid hg
  clear hW hg
  go_still_tail 4, (by kernel_rfl)
  change wpList _ _ _ _ _ W.drew
  go_wp2_with fail
  refine (HC.out _ (below_drewN HBW.out 1)).mono ?_
  rintro e w1 hd
  obtain ⟨rfl, hf, hc, hz⟩ := fin_of (n := w.heap.size + 1) P.out.st (W := W.drew) (below_drewN HBW.out 1) (by omega) ⟨_, HG.out⟩ hd
  have HF := Lib.hid hf
  clear hf hd HC
  obtain ⟨d1, g0, g1, g2, g3, g4⟩ := out
  unfold vReply
  simp only at *
  have hc0 := (hc 0).trans r0
  have hc1 := (hc 1).trans r1
  have hc2 := (hc 2).trans r2
  have hc3 := (hc 3).trans r3
  have hc4 := (hc 4).trans r4
  have hzz : ∀ o, w1.frozen? ⟨w.heap.size + 1, o, none⟩ = false := fun o => (hz o).trans (HZ.out o)
  clear hc hz r0 r1 r2 r3 r4
  go_wp2_with fail
  refine bodyPost_ret (v := vReply ⟨g0, g1, g2, g3, g4⟩) (by simp [results, Tryz.results101, go_sem, vReply, cell_set_at, cell_set_ne, hc0, hc1, hc2, hc3, hc4]) rfl ?_
  refine fin_does (n := w.heap.size + 1) ?_
  repeat (with_reducible refine fin_set ?_ _ _)
  exact HF.out
set_option maxRecDepth 100000 in
set_option maxHeartbeats 1600000 in
theorem try_6_Put (N b : Nat) (cv : Value) (d : CoreD) (x : CallD) (mx : Int) (w : World) (h : Pre N b cv d x mx w) (hx : x.fMethod = [80, 117, 116]) (PUT : Hid (∀ w, CoreSt N b cv d w → Calls Tryz.prog 144 #[.agg #[.pointer (some ⟨b, 0, none⟩)], .string ⟨x.fKey.toArray⟩, .int .i64 x.fValue] w fun e w' => Does N b cv (putD d x.fKey x.fValue) w e w')) :
    Calls Tryz.prog 101 #[.iface 143 (.agg #[.pointer (some ⟨b, 0, none⟩), .pointer (some ⟨b, 0, none⟩), .pointer (some ⟨b, 0, none⟩), .pointer (some ⟨b, 0, none⟩)]), vCall x] w fun e w' => Does N b cv (mthD d x) w e w' := by
  have P := Lib.hid h
  clear h
  obtain ⟨m, k, n, t⟩ := x
  simp only at hx
  subst hx
  unfold vCall
  have HE := Lib.hid (show mthD d ⟨[80, 117, 116], k, n, t⟩ = putD d k n from rfl)
  have hta := ta_6_1
  have hmd := method_6_Put b
  have hnl := nilAhead_6_Put b
  have HB2 := Lib.hid (show ∀ o1 o2, Below w.heap.size w ((w.alloc o1).alloc o2) from fun o1 o2 => ((Below.refl _ _).alloc (Nat.le_refl _) _).alloc (by simp) _)
  have HC := Lib.hid (fun W (HB : Below w.heap.size w W) => PUT.out W (P.out.st.below HB))
  rw [HE.out]
  clear HE
  generalize putD d k n = out at *
  go_enter Tryz.func101, Tryz.ntmps101
  go_wp2_with fail
  obtain ⟨W, hW⟩ : ∃ W, W = (w.alloc (.cells #[.string ⟨#[80, 117, 116]⟩, .string ⟨k.toArray⟩, .int .i64 n, .string ⟨t.toArray⟩] 28)).alloc (.cells #[.int .i64 0, .int .i64 0, .string ⟨#[]⟩, .int .i64 0, .int .i64 0] 32) := ⟨_, rfl⟩
  rw [← hW]
  have HBW := Lib.hid (show Below w.heap.size w W from by rw [hW]; exact HB2.out _ _)
  have hg := (show W.heap[w.heap.size + 1]? = some (.cells #[.int .i64 0, .int .i64 0, .string ⟨#[]⟩, .int .i64 0, .int .i64 0] 32 (0, 0)) from by rw [hW]; exact heap_two _ _ _)
  have q1 : W.cell? ⟨w.heap.size, 1, none⟩ = some (.string ⟨k.toArray⟩) := by rw [hW]; simp [go_sem]
  have q2 : W.cell? ⟨w.heap.size, 2, none⟩ = some (.int .i64 n) := by rw [hW]; simp [go_sem]
  have q3 : W.cell? ⟨w.heap.size, 3, none⟩ = some (.string ⟨t.toArray⟩) := by rw [hW]; simp [go_sem]
  have r0 : W.cell? ⟨w.heap.size + 1, 0, none⟩ = some (.int .i64 0) := by rw [hW]; simp [go_sem]
  have r1 : W.cell? ⟨w.heap.size + 1, 1, none⟩ = some (.int .i64 0) := by rw [hW]; simp [go_sem]
  have r2 : W.cell? ⟨w.heap.size + 1, 2, none⟩ = some (.string ⟨#[]⟩) := by rw [hW]; simp [go_sem]
  have r3 : W.cell? ⟨w.heap.size + 1, 3, none⟩ = some (.int .i64 0) := by rw [hW]; simp [go_sem]
  have r4 : W.cell? ⟨w.heap.size + 1, 4, none⟩ = some (.int .i64 0) := by rw [hW]; simp [go_sem]
  have HZ := Lib.hid (show ∀ o, W.frozen? ⟨w.heap.size + 1, o, none⟩ = false from fun o => by rw [hW]; simp [go_sem])
  have HG := Lib.hid hg
  clear hW hg
  go_still_tail 6, (by kernel_rfl)
  change wpList _ _ _ _ _ W.drew
  go_wp2_with fail
  refine (HC.out _ (below_drewN HBW.out 1)).mono ?_
  rintro e w1 hd
  obtain ⟨rfl, hf, hc, hz⟩ := fin_of (n := w.heap.size + 1) P.out.st (W := W.drew) (below_drewN HBW.out 1) (by omega) ⟨_, HG.out⟩ hd
  have HF := Lib.hid hf
  clear hf hd HC
  obtain ⟨d1, g0, g1, g2, g3, g4⟩ := out
  unfold vReply
  simp only at *
  have hc0 := (hc 0).trans r0
  have hc1 := (hc 1).trans r1
  have hc2 := (hc 2).trans r2
  have hc3 := (hc 3).trans r3
  have hc4 := (hc 4).trans r4
  have hzz : ∀ o, w1.frozen? ⟨w.heap.size + 1, o, none⟩ = false := fun o => (hz o).trans (HZ.out o)
  clear hc hz r0 r1 r2 r3 r4
  go_wp2_with fail
  refine bodyPost_ret (v := vReply ⟨g0, g1, g2, g3, g4⟩) (by simp [results, Tryz.results101, go_sem, vReply, cell_set_at, cell_set_ne, hc0, hc1, hc2, hc3, hc4]) rfl ?_
  refine fin_does (n := w.heap.size + 1) ?_
  repeat (with_reducible refine fin_set ?_ _ _)
  exact HF.out
set_option maxRecDepth 100000 in
set_option maxHeartbeats 1600000 in
theorem try_6_Tell (N b : Nat) (cv : Value) (d : CoreD) (x : CallD) (mx : Int) (w : World) (h : Pre N b cv d x mx w) (hx : x.fMethod = [84, 101, 108, 108]) :
    Calls Tryz.prog 101 #[.iface 143 (.agg #[.pointer (some ⟨b, 0, none⟩), .pointer (some ⟨b, 0, none⟩), .pointer (some ⟨b, 0, none⟩), .pointer (some ⟨b, 0, none⟩)]), vCall x] w fun e w' => Panics w e w' := by
  have P := Lib.hid h
  clear h
  obtain ⟨m, k, n, t⟩ := x
  simp only at hx
  subst hx
  unfold vCall
  obtain ⟨c, E, hta⟩ := ta_6_2
  go_enter Tryz.func101, Tryz.ntmps101
  go_wp2_with fail
  exact ⟨rfl, _, rfl, by repeat (first | with_reducible exact Below.refl _ _ | with_reducible refine Below.alloc ?_ (by simp; try omega) _)⟩
set_option maxRecDepth 100000 in
set_option maxHeartbeats 1600000 in
theorem try_6_Hear (N b : Nat) (cv : Value) (d : CoreD) (x : CallD) (mx : Int) (w : World) (h : Pre N b cv d x mx w) (hx : x.fMethod = [72, 101, 97, 114]) :
    Calls Tryz.prog 101 #[.iface 143 (.agg #[.pointer (some ⟨b, 0, none⟩), .pointer (some ⟨b, 0, none⟩), .pointer (some ⟨b, 0, none⟩), .pointer (some ⟨b, 0, none⟩)]), vCall x] w fun e w' => Panics w e w' := by
  have P := Lib.hid h
  clear h
  obtain ⟨m, k, n, t⟩ := x
  simp only at hx
  subst hx
  unfold vCall
  obtain ⟨c, E, hta⟩ := ta_6_3
  go_enter Tryz.func101, Tryz.ntmps101
  go_wp2_with fail
  refine wp_region_any (by kernel_rfl) ?_
  change wpAny _ _ _ _ _ _ _ (World.drew _)
  refine wpAny_take (i := 0) (v := ?_) rfl (by kernel_rfl) (by kernel_rfl) (by kernel_rfl) (fun _ _ _ h => h) (Or.inl ⟨by rfl, ?_⟩) ?_
  rotate_left
  · intro w; go_simp; try (with_reducible rfl)
  refine wpAny_take (i := 2) (v := ?_) rfl (by kernel_rfl) (by kernel_rfl) (by kernel_rfl) (fun _ _ _ h => h) (Or.inl ⟨by rfl, ?_⟩) ?_
  rotate_left
  · intro w; go_simp; try (with_reducible rfl)
  refine wpAny_ready (rs := [1, 3]) (by kernel_rfl) (by simp) ?_
  refine AllReady.cons rfl (fun K hK => ?_) ?_
  · go_simp
    exact ⟨rfl, _, rfl, by repeat (first | with_reducible exact Below.refl _ _ | with_reducible refine Below.alloc ?_ (by simp; try omega) _ | with_reducible refine Below.drew ?_ | with_reducible refine below_drewN ?_ _)⟩
  refine AllReady.cons rfl (fun K hK => ?_) ?_
  · go_simp
    refine hK _ _ ?_
    clear hK K
    refine wpAny_ready (rs := [1]) (by kernel_rfl) (by simp) ?_
    refine AllReady.cons rfl (fun K hK => ?_) ?_
    · go_simp
      exact ⟨rfl, _, rfl, by repeat (first | with_reducible exact Below.refl _ _ | with_reducible refine Below.alloc ?_ (by simp; try omega) _ | with_reducible refine Below.drew ?_ | with_reducible refine below_drewN ?_ _)⟩
    exact AllReady.nil
  exact AllReady.nil
set_option maxRecDepth 100000 in
set_option maxHeartbeats 1600000 in
theorem try_6_Load (N b : Nat) (cv : Value) (d : CoreD) (x : CallD) (mx : Int) (w : World) (h : Pre N b cv d x mx w) (hx : x.fMethod = [76, 111, 97, 100]) :
    Calls Tryz.prog 101 #[.iface 143 (.agg #[.pointer (some ⟨b, 0, none⟩), .pointer (some ⟨b, 0, none⟩), .pointer (some ⟨b, 0, none⟩), .pointer (some ⟨b, 0, none⟩)]), vCall x] w fun e w' => Does N b cv (mthD d x) w e w' := by
  have P := Lib.hid h
  clear h
  obtain ⟨m, k, n, t⟩ := x
  simp only at hx
  subst hx
  unfold vCall
  have HE := Lib.hid (show mthD d ⟨[76, 111, 97, 100], k, n, t⟩ = loadD d t from rfl)
  have hta := ta_6_4
  have hmd := method_6_Load b
  have hnl := nilAhead_6_Load b
  have HB2 := Lib.hid (show ∀ o1 o2, Below w.heap.size w ((w.alloc o1).alloc o2) from fun o1 o2 => ((Below.refl _ _).alloc (Nat.le_refl _) _).alloc (by simp) _)
  have HC := Lib.hid (fun W (HB : Below w.heap.size w W) => load_c N b cv d t mx W (P.out.st.below HB) (Nat.le_trans P.out.hN HB.size) ((P.out.below HB).hM) P.out.ht)
  rw [HE.out]
  clear HE
  generalize loadD d t = out at *
  go_enter Tryz.func101, Tryz.ntmps101
  go_wp2_with fail
  obtain ⟨W, hW⟩ : ∃ W, W = (w.alloc (.cells #[.string ⟨#[76, 111, 97, 100]⟩, .string ⟨k.toArray⟩, .int .i64 n, .string ⟨t.toArray⟩] 28)).alloc (.cells #[.int .i64 0, .int .i64 0, .string ⟨#[]⟩, .int .i64 0, .int .i64 0] 32) := ⟨_, rfl⟩
  rw [← hW]
  have HBW := Lib.hid (show Below w.heap.size w W from by rw [hW]; exact HB2.out _ _)
  have hg := (show W.heap[w.heap.size + 1]? = some (.cells #[.int .i64 0, .int .i64 0, .string ⟨#[]⟩, .int .i64 0, .int .i64 0] 32 (0, 0)) from by rw [hW]; exact heap_two _ _ _)
  have q1 : W.cell? ⟨w.heap.size, 1, none⟩ = some (.string ⟨k.toArray⟩) := by rw [hW]; simp [go_sem]
  have q2 : W.cell? ⟨w.heap.size, 2, none⟩ = some (.int .i64 n) := by rw [hW]; simp [go_sem]
  have q3 : W.cell? ⟨w.heap.size, 3, none⟩ = some (.string ⟨t.toArray⟩) := by rw [hW]; simp [go_sem]
  have r0 : W.cell? ⟨w.heap.size + 1, 0, none⟩ = some (.int .i64 0) := by rw [hW]; simp [go_sem]
  have r1 : W.cell? ⟨w.heap.size + 1, 1, none⟩ = some (.int .i64 0) := by rw [hW]; simp [go_sem]
  have r2 : W.cell? ⟨w.heap.size + 1, 2, none⟩ = some (.string ⟨#[]⟩) := by rw [hW]; simp [go_sem]
  have r3 : W.cell? ⟨w.heap.size + 1, 3, none⟩ = some (.int .i64 0) := by rw [hW]; simp [go_sem]
  have r4 : W.cell? ⟨w.heap.size + 1, 4, none⟩ = some (.int .i64 0) := by rw [hW]; simp [go_sem]
  have HZ := Lib.hid (show ∀ o, W.frozen? ⟨w.heap.size + 1, o, none⟩ = false from fun o => by rw [hW]; simp [go_sem])
  have HG := Lib.hid hg
  clear hW hg
  go_still_tail 4, (by kernel_rfl)
  change wpList _ _ _ _ _ W.drew
  go_wp2_with fail
  refine (HC.out _ (below_drewN HBW.out 1)).mono ?_
  rintro e w1 hd
  obtain ⟨rfl, hf, hc, hz⟩ := fin_of (n := w.heap.size + 1) P.out.st (W := W.drew) (below_drewN HBW.out 1) (by omega) ⟨_, HG.out⟩ hd
  have HF := Lib.hid hf
  clear hf hd HC
  obtain ⟨d1, g0, g1, g2, g3, g4⟩ := out
  unfold vReply
  simp only at *
  have hc0 := (hc 0).trans r0
  have hc1 := (hc 1).trans r1
  have hc2 := (hc 2).trans r2
  have hc3 := (hc 3).trans r3
  have hc4 := (hc 4).trans r4
  have hzz : ∀ o, w1.frozen? ⟨w.heap.size + 1, o, none⟩ = false := fun o => (hz o).trans (HZ.out o)
  clear hc hz r0 r1 r2 r3 r4
  go_wp2_with fail
  refine bodyPost_ret (v := vReply ⟨g0, g1, g2, g3, g4⟩) (by simp [results, Tryz.results101, go_sem, vReply, cell_set_at, cell_set_ne, hc0, hc1, hc2, hc3, hc4]) rfl ?_
  refine fin_does (n := w.heap.size + 1) ?_
  repeat (with_reducible refine fin_set ?_ _ _)
  exact HF.out
set_option maxRecDepth 100000 in
set_option maxHeartbeats 1600000 in
theorem try_6_Save (N b : Nat) (cv : Value) (d : CoreD) (x : CallD) (mx : Int) (w : World) (h : Pre N b cv d x mx w) (hx : x.fMethod = [83, 97, 118, 101]) :
    Calls Tryz.prog 101 #[.iface 143 (.agg #[.pointer (some ⟨b, 0, none⟩), .pointer (some ⟨b, 0, none⟩), .pointer (some ⟨b, 0, none⟩), .pointer (some ⟨b, 0, none⟩)]), vCall x] w fun e w' => Does N b cv (mthD d x) w e w' := by
  have P := Lib.hid h
  clear h
  obtain ⟨m, k, n, t⟩ := x
  simp only at hx
  subst hx
  unfold vCall
  have HE := Lib.hid (show mthD d ⟨[83, 97, 118, 101], k, n, t⟩ = saveD d from rfl)
  have hta := ta_6_4
  have hmd := method_6_Save b
  have hnl := nilAhead_6_Save b
  have HB2 := Lib.hid (show ∀ o1 o2, Below w.heap.size w ((w.alloc o1).alloc o2) from fun o1 o2 => ((Below.refl _ _).alloc (Nat.le_refl _) _).alloc (by simp) _)
  have HC := Lib.hid (fun W (HB : Below w.heap.size w W) => save_c N b cv d W (P.out.st.below HB) P.out.hm P.out.hs)
  rw [HE.out]
  clear HE
  generalize saveD d = out at *
  go_enter Tryz.func101, Tryz.ntmps101
  go_wp2_with fail
  refine (HC.out _ (HB2.out _ _)).mono ?_
  rintro e w1 hd
  obtain ⟨rfl, hf, hc, hz⟩ := fin_of (n := w.heap.size + 1) P.out.st (HB2.out _ _) (by omega) ⟨_, heap_two _ _ _⟩ hd
  have HF := Lib.hid hf
  clear hf hd
  clear HC
  obtain ⟨d1, r0, r1, r2, r3, r4⟩ := out
  unfold vReply
  simp only at *
  have hc0 := hc 0
  have hc1 := hc 1
  have hc2 := hc 2
  have hc3 := hc 3
  have hc4 := hc 4
  simp at hc0 hc1 hc2 hc3 hc4 hz
  clear hc
  go_wp2_with fail
  refine bodyPost_ret (v := vReply ⟨r0, r1, r2, r3, r4⟩) (by simp [results, Tryz.results101, go_sem, vReply, cell_set_at, cell_set_ne, hc0, hc1, hc2, hc3, hc4]) rfl ?_
  refine fin_does (n := w.heap.size + 1) ?_
  repeat (with_reducible refine fin_set ?_ _ _)
  exact HF.out
set_option maxRecDepth 100000 in
set_option maxHeartbeats 1600000 in
theorem try_6_Heal (N b : Nat) (cv : Value) (d : CoreD) (x : CallD) (mx : Int) (w : World) (h : Pre N b cv d x mx w) (hx : x.fMethod = [72, 101, 97, 108]) :
    Calls Tryz.prog 101 #[.iface 143 (.agg #[.pointer (some ⟨b, 0, none⟩), .pointer (some ⟨b, 0, none⟩), .pointer (some ⟨b, 0, none⟩), .pointer (some ⟨b, 0, none⟩)]), vCall x] w fun e w' => Panics w e w' := by
  have P := Lib.hid h
  clear h
  obtain ⟨m, k, n, t⟩ := x
  simp only at hx
  subst hx
  unfold vCall
  obtain ⟨c, E, hta⟩ := ta_6_5
  go_enter Tryz.func101, Tryz.ntmps101
  go_wp2_with fail
  exact ⟨rfl, _, rfl, by repeat (first | with_reducible exact Below.refl _ _ | with_reducible refine Below.alloc ?_ (by simp; try omega) _)⟩
set_option maxRecDepth 100000 in
set_option maxHeartbeats 1600000 in
theorem try_7_Start (N b : Nat) (cv : Value) (d : CoreD) (x : CallD) (mx : Int) (w : World) (h : Pre N b cv d x mx w) (hx : x.fMethod = [83, 116, 97, 114, 116]) :
    Calls Tryz.prog 101 #[.iface 146 (.agg #[.pointer (some ⟨b, 0, none⟩), .pointer (some ⟨b, 0, none⟩), .pointer (some ⟨b, 0, none⟩), .pointer (some ⟨b, 0, none⟩), .pointer (some ⟨b, 0, none⟩), .pointer (some ⟨b, 0, none⟩), .pointer (some ⟨b, 0, none⟩)]), vCall x] w fun e w' => Does N b cv (mthD d x) w e w' := by
  have P := Lib.hid h
  clear h
  obtain ⟨m, k, n, t⟩ := x
  simp only at hx
  subst hx
  unfold vCall
  have HE := Lib.hid (show mthD d ⟨[83, 116, 97, 114, 116], k, n, t⟩ = startD d from rfl)
  have hta := ta_7_0
  have hmd := method_7_Start b
  have hnl := nilAhead_7_Start b
  have HB2 := Lib.hid (show ∀ o1 o2, Below w.heap.size w ((w.alloc o1).alloc o2) from fun o1 o2 => ((Below.refl _ _).alloc (Nat.le_refl _) _).alloc (by simp) _)
  have HC := Lib.hid (fun W (HB : Below w.heap.size w W) => start_c N b cv d W (P.out.st.below HB) P.out.hr)
  rw [HE.out]
  clear HE
  generalize startD d = out at *
  go_enter Tryz.func101, Tryz.ntmps101
  go_wp2_with fail
  refine (HC.out _ (HB2.out _ _)).mono ?_
  rintro e w1 hd
  obtain ⟨rfl, hf, hc, hz⟩ := fin_of (n := w.heap.size + 1) P.out.st (HB2.out _ _) (by omega) ⟨_, heap_two _ _ _⟩ hd
  have HF := Lib.hid hf
  clear hf hd
  clear HC
  obtain ⟨d1, r0, r1, r2, r3, r4⟩ := out
  unfold vReply
  simp only at *
  have hc0 := hc 0
  have hc1 := hc 1
  have hc2 := hc 2
  have hc3 := hc 3
  have hc4 := hc 4
  simp at hc0 hc1 hc2 hc3 hc4 hz
  clear hc
  go_wp2_with fail
  refine bodyPost_ret (v := vReply ⟨r0, r1, r2, r3, r4⟩) (by simp [results, Tryz.results101, go_sem, vReply, cell_set_at, cell_set_ne, hc0, hc1, hc2, hc3, hc4]) rfl ?_
  refine fin_does (n := w.heap.size + 1) ?_
  repeat (with_reducible refine fin_set ?_ _ _)
  exact HF.out
set_option maxRecDepth 100000 in
set_option maxHeartbeats 1600000 in
theorem try_7_Stop (N b : Nat) (cv : Value) (d : CoreD) (x : CallD) (mx : Int) (w : World) (h : Pre N b cv d x mx w) (hx : x.fMethod = [83, 116, 111, 112]) :
    Calls Tryz.prog 101 #[.iface 146 (.agg #[.pointer (some ⟨b, 0, none⟩), .pointer (some ⟨b, 0, none⟩), .pointer (some ⟨b, 0, none⟩), .pointer (some ⟨b, 0, none⟩), .pointer (some ⟨b, 0, none⟩), .pointer (some ⟨b, 0, none⟩), .pointer (some ⟨b, 0, none⟩)]), vCall x] w fun e w' => Does N b cv (mthD d x) w e w' := by
  have P := Lib.hid h
  clear h
  obtain ⟨m, k, n, t⟩ := x
  simp only at hx
  subst hx
  unfold vCall
  have HE := Lib.hid (show mthD d ⟨[83, 116, 111, 112], k, n, t⟩ = stopD d from rfl)
  have hta := ta_7_0
  have hmd := method_7_Stop b
  have hnl := nilAhead_7_Stop b
  have HB2 := Lib.hid (show ∀ o1 o2, Below w.heap.size w ((w.alloc o1).alloc o2) from fun o1 o2 => ((Below.refl _ _).alloc (Nat.le_refl _) _).alloc (by simp) _)
  have HC := Lib.hid (fun W (HB : Below w.heap.size w W) => stop_c N b cv d W (P.out.st.below HB) P.out.hr)
  rw [HE.out]
  clear HE
  generalize stopD d = out at *
  go_enter Tryz.func101, Tryz.ntmps101
  go_wp2_with fail
  refine (HC.out _ (HB2.out _ _)).mono ?_
  rintro e w1 hd
  obtain ⟨rfl, hf, hc, hz⟩ := fin_of (n := w.heap.size + 1) P.out.st (HB2.out _ _) (by omega) ⟨_, heap_two _ _ _⟩ hd
  have HF := Lib.hid hf
  clear hf hd
  clear HC
  obtain ⟨d1, r0, r1, r2, r3, r4⟩ := out
  unfold vReply
  simp only at *
  have hc0 := hc 0
  have hc1 := hc 1
  have hc2 := hc 2
  have hc3 := hc 3
  have hc4 := hc 4
  simp at hc0 hc1 hc2 hc3 hc4 hz
  clear hc
  go_wp2_with fail
  refine bodyPost_ret (v := vReply ⟨r0, r1, r2, r3, r4⟩) (by simp [results, Tryz.results101, go_sem, vReply, cell_set_at, cell_set_ne, hc0, hc1, hc2, hc3, hc4]) rfl ?_
  refine fin_does (n := w.heap.size + 1) ?_
  repeat (with_reducible refine fin_set ?_ _ _)
  exact HF.out
set_option maxRecDepth 100000 in
set_option maxHeartbeats 1600000 in
theorem try_7_Get (N b : Nat) (cv : Value) (d : CoreD) (x : CallD) (mx : Int) (w : World) (h : Pre N b cv d x mx w) (hx : x.fMethod = [71, 101, 116]) :
    Calls Tryz.prog 101 #[.iface 146 (.agg #[.pointer (some ⟨b, 0, none⟩), .pointer (some ⟨b, 0, none⟩), .pointer (some ⟨b, 0, none⟩), .pointer (some ⟨b, 0, none⟩), .pointer (some ⟨b, 0, none⟩), .pointer (some ⟨b, 0, none⟩), .pointer (some ⟨b, 0, none⟩)]), vCall x] w fun e w' => Does N b cv (mthD d x) w e w' := by
  have P := Lib.hid h
  clear h
  obtain ⟨m, k, n, t⟩ := x
  simp only at hx
  subst hx
  unfold vCall
  have HE := Lib.hid (show mthD d ⟨[71, 101, 116], k, n, t⟩ = getD1 d k from rfl)
  have hta := ta_7_1
  have hmd := method_7_Get b
  have hnl := nilAhead_7_Get b
  have HB2 := Lib.hid (show ∀ o1 o2, Below w.heap.size w ((w.alloc o1).alloc o2) from fun o1 o2 => ((Below.refl _ _).alloc (Nat.le_refl _) _).alloc (by simp) _)
  have HC := Lib.hid (fun W (HB : Below w.heap.size w W) => get_c N b cv d k W (P.out.st.below HB) P.out.hm)
  rw [HE.out]
  clear HE
  generalize getD1 d k = out at *
  go_enter Tryz.func101, Tryz.ntmps101
  go_wp2_with fail
  obtain ⟨W, hW⟩ : ∃ W, W = (w.alloc (.cells #[.string ⟨#[71, 101, 116]⟩, .string ⟨k.toArray⟩, .int .i64 n, .string ⟨t.toArray⟩] 28)).alloc (.cells #[.int .i64 0, .int .i64 0, .string ⟨#[]⟩, .int .i64 0, .int .i64 0] 32) := ⟨_, rfl⟩
  rw [← hW]
  have HBW := Lib.hid (show Below w.heap.size w W from by rw [hW]; exact HB2.out _ _)
  have hg := (show W.heap[w.heap.size + 1]? = some (.cells #[.int .i64 0, .int .i64 0, .string ⟨#[]⟩, .int .i64 0, .int .i64 0] 32 (0, 0)) from by rw [hW]; exact heap_two _ _ _)
  have q1 : W.cell? ⟨w.heap.size, 1, none⟩ = some (.string ⟨k.toArray⟩) := by rw [hW]; simp [go_sem]
  have q2 : W.cell? ⟨w.heap.size, 2, none⟩ = some (.int .i64 n) := by rw [hW]; simp [go_sem]
  have q3 : W.cell? ⟨w.heap.size, 3, none⟩ = some (.string ⟨t.toArray⟩) := by rw [hW]; simp [go_sem]
  have r0 : W.cell? ⟨w.heap.size + 1, 0, none⟩ = some (.int .i64 0) := by rw [hW]; simp [go_sem]
  have r1 : W.cell? ⟨w.heap.size + 1, 1, none⟩ = some (.int .i64 0) := by rw [hW]; simp [go_sem]
  have r2 : W.cell? ⟨w.heap.size + 1, 2, none⟩ = some (.string ⟨#[]⟩) := by rw [hW]; simp [go_sem]
  have r3 : W.cell? ⟨w.heap.size + 1, 3, none⟩ = some (.int .i64 0) := by rw [hW]; simp [go_sem]
  have r4 : W.cell? ⟨w.heap.size + 1, 4, none⟩ = some (.int .i64 0) := by rw [hW]; simp [go_sem]
  have HZ := Lib.hid (show ∀ o, W.frozen? ⟨w.heap.size + 1, o, none⟩ = false from fun o => by rw [hW]; simp [go_sem])
  have HG := Lib.hid hg
  clear hW hg
  go_still_tail 4, (by kernel_rfl)
  change wpList _ _ _ _ _ W.drew
  go_wp2_with fail
  refine (HC.out _ (below_drewN HBW.out 1)).mono ?_
  rintro e w1 hd
  obtain ⟨rfl, hf, hc, hz⟩ := fin_of (n := w.heap.size + 1) P.out.st (W := W.drew) (below_drewN HBW.out 1) (by omega) ⟨_, HG.out⟩ hd
  have HF := Lib.hid hf
  clear hf hd HC
  obtain ⟨d1, g0, g1, g2, g3, g4⟩ := out
  unfold vReply
  simp only at *
  have hc0 := (hc 0).trans r0
  have hc1 := (hc 1).trans r1
  have hc2 := (hc 2).trans r2
  have hc3 := (hc 3).trans r3
  have hc4 := (hc 4).trans r4
  have hzz : ∀ o, w1.frozen? ⟨w.heap.size + 1, o, none⟩ = false := fun o => (hz o).trans (HZ.out o)
  clear hc hz r0 r1 r2 r3 r4
  go_wp2_with fail
  refine bodyPost_ret (v := vReply ⟨g0, g1, g2, g3, g4⟩) (by simp [results, Tryz.results101, go_sem, vReply, cell_set_at, cell_set_ne, hc0, hc1, hc2, hc3, hc4]) rfl ?_
  refine fin_does (n := w.heap.size + 1) ?_
  repeat (with_reducible refine fin_set ?_ _ _)
  exact HF.out
set_option maxRecDepth 100000 in
set_option maxHeartbeats 1600000 in
theorem try_7_Put (N b : Nat) (cv : Value) (d : CoreD) (x : CallD) (mx : Int) (w : World) (h : Pre N b cv d x mx w) (hx : x.fMethod = [80, 117, 116]) (PUT : Hid (∀ w, CoreSt N b cv d w → Calls Tryz.prog 144 #[.agg #[.pointer (some ⟨b, 0, none⟩)], .string ⟨x.fKey.toArray⟩, .int .i64 x.fValue] w fun e w' => Does N b cv (putD d x.fKey x.fValue) w e w')) :
    Calls Tryz.prog 101 #[.iface 146 (.agg #[.pointer (some ⟨b, 0, none⟩), .pointer (some ⟨b, 0, none⟩), .pointer (some ⟨b, 0, none⟩), .pointer (some ⟨b, 0, none⟩), .pointer (some ⟨b, 0, none⟩), .pointer (some ⟨b, 0, none⟩), .pointer (some ⟨b, 0, none⟩)]), vCall x] w fun e w' => Does N b cv (mthD d x) w e w' := by
  have P := Lib.hid h
  clear h
  obtain ⟨m, k, n, t⟩ := x
  simp only at hx
  subst hx
  unfold vCall
  have HE := Lib.hid (show mthD d ⟨[80, 117, 116], k, n, t⟩ = putD d k n from rfl)
  have hta := ta_7_1
  have hmd := method_7_Put b
  have hnl := nilAhead_7_Put b
  have HB2 := Lib.hid (show ∀ o1 o2, Below w.heap.size w ((w.alloc o1).alloc o2) from fun o1 o2 => ((Below.refl _ _).alloc (Nat.le_refl _) _).alloc (by simp) _)
  have HC := Lib.hid (fun W (HB : Below w.heap.size w W) => PUT.out W (P.out.st.below HB))
  rw [HE.out]
  clear HE
  generalize putD d k n = out at *
  go_enter Tryz.func101, Tryz.ntmps101
  go_wp2_with fail
  obtain ⟨W, hW⟩ : ∃ W, W = (w.alloc (.cells #[.string ⟨#[80, 117, 116]⟩, .string ⟨k.toArray⟩, .int .i64 n, .string ⟨t.toArray⟩] 28)).alloc (.cells #[.int .i64 0, .int .i64 0, .string ⟨#[]⟩, .int .i64 0, .int .i64 0] 32) := ⟨_, rfl⟩
  rw [← hW]
  have HBW := Lib.hid (show Below w.heap.size w W from by rw [hW]; exact HB2.out _ _)
  have hg := (show W.heap[w.heap.size + 1]? = some (.cells #[.int .i64 0, .int .i64 0, .string ⟨#[]⟩, .int .i64 0, .int .i64 0] 32 (0, 0)) from by rw [hW]; exact heap_two _ _ _)
  have q1 : W.cell? ⟨w.heap.size, 1, none⟩ = some (.string ⟨k.toArray⟩) := by rw [hW]; simp [go_sem]
  have q2 : W.cell? ⟨w.heap.size, 2, none⟩ = some (.int .i64 n) := by rw [hW]; simp [go_sem]
  have q3 : W.cell? ⟨w.heap.size, 3, none⟩ = some (.string ⟨t.toArray⟩) := by rw [hW]; simp [go_sem]
  have r0 : W.cell? ⟨w.heap.size + 1, 0, none⟩ = some (.int .i64 0) := by rw [hW]; simp [go_sem]
  have r1 : W.cell? ⟨w.heap.size + 1, 1, none⟩ = some (.int .i64 0) := by rw [hW]; simp [go_sem]
  have r2 : W.cell? ⟨w.heap.size + 1, 2, none⟩ = some (.string ⟨#[]⟩) := by rw [hW]; simp [go_sem]
  have r3 : W.cell? ⟨w.heap.size + 1, 3, none⟩ = some (.int .i64 0) := by rw [hW]; simp [go_sem]
  have r4 : W.cell? ⟨w.heap.size + 1, 4, none⟩ = some (.int .i64 0) := by rw [hW]; simp [go_sem]
  have HZ := Lib.hid (show ∀ o, W.frozen? ⟨w.heap.size + 1, o, none⟩ = false from fun o => by rw [hW]; simp [go_sem])
  have HG := Lib.hid hg
  clear hW hg
  go_still_tail 6, (by kernel_rfl)
  change wpList _ _ _ _ _ W.drew
  go_wp2_with fail
  refine (HC.out _ (below_drewN HBW.out 1)).mono ?_
  rintro e w1 hd
  obtain ⟨rfl, hf, hc, hz⟩ := fin_of (n := w.heap.size + 1) P.out.st (W := W.drew) (below_drewN HBW.out 1) (by omega) ⟨_, HG.out⟩ hd
  have HF := Lib.hid hf
  clear hf hd HC
  obtain ⟨d1, g0, g1, g2, g3, g4⟩ := out
  unfold vReply
  simp only at *
  have hc0 := (hc 0).trans r0
  have hc1 := (hc 1).trans r1
  have hc2 := (hc 2).trans r2
  have hc3 := (hc 3).trans r3
  have hc4 := (hc 4).trans r4
  have hzz : ∀ o, w1.frozen? ⟨w.heap.size + 1, o, none⟩ = false := fun o => (hz o).trans (HZ.out o)
  clear hc hz r0 r1 r2 r3 r4
  go_wp2_with fail
  refine bodyPost_ret (v := vReply ⟨g0, g1, g2, g3, g4⟩) (by simp [results, Tryz.results101, go_sem, vReply, cell_set_at, cell_set_ne, hc0, hc1, hc2, hc3, hc4]) rfl ?_
  refine fin_does (n := w.heap.size + 1) ?_
  repeat (with_reducible refine fin_set ?_ _ _)
  exact HF.out
set_option maxRecDepth 100000 in
set_option maxHeartbeats 1600000 in
theorem try_7_Tell (N b : Nat) (cv : Value) (d : CoreD) (x : CallD) (mx : Int) (w : World) (h : Pre N b cv d x mx w) (hx : x.fMethod = [84, 101, 108, 108]) :
    Calls Tryz.prog 101 #[.iface 146 (.agg #[.pointer (some ⟨b, 0, none⟩), .pointer (some ⟨b, 0, none⟩), .pointer (some ⟨b, 0, none⟩), .pointer (some ⟨b, 0, none⟩), .pointer (some ⟨b, 0, none⟩), .pointer (some ⟨b, 0, none⟩), .pointer (some ⟨b, 0, none⟩)]), vCall x] w fun e w' => Does N b cv (mthD d x) w e w' := by
  have P := Lib.hid h
  clear h
  obtain ⟨m, k, n, t⟩ := x
  simp only at hx
  subst hx
  unfold vCall
  have HE := Lib.hid (show mthD d ⟨[84, 101, 108, 108], k, n, t⟩ = tellD d from rfl)
  have hta := ta_7_2
  have hmd := method_7_Tell b
  have hnl := nilAhead_7_Tell b
  have HB2 := Lib.hid (show ∀ o1 o2, Below w.heap.size w ((w.alloc o1).alloc o2) from fun o1 o2 => ((Below.refl _ _).alloc (Nat.le_refl _) _).alloc (by simp) _)
  have HC := Lib.hid (fun W (HB : Below w.heap.size w W) => tell_c N b cv d W (P.out.st.below HB) P.out.hr)
  rw [HE.out]
  clear HE
  generalize tellD d = out at *
  go_enter Tryz.func101, Tryz.ntmps101
  go_wp2_with fail
  refine (HC.out _ (HB2.out _ _)).mono ?_
  rintro e w1 hd
  obtain ⟨rfl, hf, hc, hz⟩ := fin_of (n := w.heap.size + 1) P.out.st (HB2.out _ _) (by omega) ⟨_, heap_two _ _ _⟩ hd
  have HF := Lib.hid hf
  clear hf hd
  clear HC
  obtain ⟨d1, r0, r1, r2, r3, r4⟩ := out
  unfold vReply
  simp only at *
  have hc0 := hc 0
  have hc1 := hc 1
  have hc2 := hc 2
  have hc3 := hc 3
  have hc4 := hc 4
  simp at hc0 hc1 hc2 hc3 hc4 hz
  clear hc
  go_wp2_with fail
  refine bodyPost_ret (v := vReply ⟨r0, r1, r2, r3, r4⟩) (by simp [results, Tryz.results101, go_sem, vReply, cell_set_at, cell_set_ne, hc0, hc1, hc2, hc3, hc4]) rfl ?_
  refine fin_does (n := w.heap.size + 1) ?_
  repeat (with_reducible refine fin_set ?_ _ _)
  exact HF.out
set_option maxRecDepth 100000 in
set_option maxHeartbeats 1600000 in
theorem try_7_Hear (N b : Nat) (cv : Value) (d : CoreD) (x : CallD) (mx : Int) (w : World) (h : Pre N b cv d x mx w) (hx : x.fMethod = [72, 101, 97, 114]) :
    Calls Tryz.prog 101 #[.iface 146 (.agg #[.pointer (some ⟨b, 0, none⟩), .pointer (some ⟨b, 0, none⟩), .pointer (some ⟨b, 0, none⟩), .pointer (some ⟨b, 0, none⟩), .pointer (some ⟨b, 0, none⟩), .pointer (some ⟨b, 0, none⟩), .pointer (some ⟨b, 0, none⟩)]), vCall x] w fun e w' => Does N b cv (mthD d x) w e w' := by
  have P := Lib.hid h
  clear h
  obtain ⟨m, k, n, t⟩ := x
  simp only at hx
  subst hx
  unfold vCall
  have HE := Lib.hid (show mthD d ⟨[72, 101, 97, 114], k, n, t⟩ = hearD d n from rfl)
  have hta := ta_7_3
  have hmd := method_7_Hear b
  have hnl := nilAhead_7_Hear b
  have HB2 := Lib.hid (show ∀ o1 o2, Below w.heap.size w ((w.alloc o1).alloc o2) from fun o1 o2 => ((Below.refl _ _).alloc (Nat.le_refl _) _).alloc (by simp) _)
  have HC := Lib.hid (fun W (HB : Below w.heap.size w W) => hear_c N b cv d n W (P.out.st.below HB) P.out.hr)
  rw [HE.out]
  clear HE
  generalize hearD d n = out at *
  go_enter Tryz.func101, Tryz.ntmps101
  go_wp2_with fail
  obtain ⟨W, hW⟩ : ∃ W, W = (w.alloc (.cells #[.string ⟨#[72, 101, 97, 114]⟩, .string ⟨k.toArray⟩, .int .i64 n, .string ⟨t.toArray⟩] 28)).alloc (.cells #[.int .i64 0, .int .i64 0, .string ⟨#[]⟩, .int .i64 0, .int .i64 0] 32) := ⟨_, rfl⟩
  rw [← hW]
  have HBW := Lib.hid (show Below w.heap.size w W from by rw [hW]; exact HB2.out _ _)
  have hg := (show W.heap[w.heap.size + 1]? = some (.cells #[.int .i64 0, .int .i64 0, .string ⟨#[]⟩, .int .i64 0, .int .i64 0] 32 (0, 0)) from by rw [hW]; exact heap_two _ _ _)
  have q1 : W.cell? ⟨w.heap.size, 1, none⟩ = some (.string ⟨k.toArray⟩) := by rw [hW]; simp [go_sem]
  have q2 : W.cell? ⟨w.heap.size, 2, none⟩ = some (.int .i64 n) := by rw [hW]; simp [go_sem]
  have q3 : W.cell? ⟨w.heap.size, 3, none⟩ = some (.string ⟨t.toArray⟩) := by rw [hW]; simp [go_sem]
  have r0 : W.cell? ⟨w.heap.size + 1, 0, none⟩ = some (.int .i64 0) := by rw [hW]; simp [go_sem]
  have r1 : W.cell? ⟨w.heap.size + 1, 1, none⟩ = some (.int .i64 0) := by rw [hW]; simp [go_sem]
  have r2 : W.cell? ⟨w.heap.size + 1, 2, none⟩ = some (.string ⟨#[]⟩) := by rw [hW]; simp [go_sem]
  have r3 : W.cell? ⟨w.heap.size + 1, 3, none⟩ = some (.int .i64 0) := by rw [hW]; simp [go_sem]
  have r4 : W.cell? ⟨w.heap.size + 1, 4, none⟩ = some (.int .i64 0) := by rw [hW]; simp [go_sem]
  have HZ := Lib.hid (show ∀ o, W.frozen? ⟨w.heap.size + 1, o, none⟩ = false from fun o => by rw [hW]; simp [go_sem])
  have HG := Lib.hid hg
  clear hW hg
  go_still_tail 4, (by kernel_rfl)
  change wpList _ _ _ _ _ W.drew
  go_wp2_with fail
  refine (HC.out _ (below_drewN HBW.out 1)).mono ?_
  rintro e w1 hd
  obtain ⟨rfl, hf, hc, hz⟩ := fin_of (n := w.heap.size + 1) P.out.st (W := W.drew) (below_drewN HBW.out 1) (by omega) ⟨_, HG.out⟩ hd
  have HF := Lib.hid hf
  clear hf hd HC
  obtain ⟨d1, g0, g1, g2, g3, g4⟩ := out
  unfold vReply
  simp only at *
  have hc0 := (hc 0).trans r0
  have hc1 := (hc 1).trans r1
  have hc2 := (hc 2).trans r2
  have hc3 := (hc 3).trans r3
  have hc4 := (hc 4).trans r4
  have hzz : ∀ o, w1.frozen? ⟨w.heap.size + 1, o, none⟩ = false := fun o => (hz o).trans (HZ.out o)
  clear hc hz r0 r1 r2 r3 r4
  go_wp2_with fail
  refine bodyPost_ret (v := vReply ⟨g0, g1, g2, g3, g4⟩) (by simp [results, Tryz.results101, go_sem, vReply, cell_set_at, cell_set_ne, hc0, hc1, hc2, hc3, hc4]) rfl ?_
  refine fin_does (n := w.heap.size + 1) ?_
  repeat (with_reducible refine fin_set ?_ _ _)
  exact HF.out
set_option maxRecDepth 100000 in
set_option maxHeartbeats 1600000 in
theorem try_7_Load (N b : Nat) (cv : Value) (d : CoreD) (x : CallD) (mx : Int) (w : World) (h : Pre N b cv d x mx w) (hx : x.fMethod = [76, 111, 97, 100]) :
    Calls Tryz.prog 101 #[.iface 146 (.agg #[.pointer (some ⟨b, 0, none⟩), .pointer (some ⟨b, 0, none⟩), .pointer (some ⟨b, 0, none⟩), .pointer (some ⟨b, 0, none⟩), .pointer (some ⟨b, 0, none⟩), .pointer (some ⟨b, 0, none⟩), .pointer (some ⟨b, 0, none⟩)]), vCall x] w fun e w' => Does N b cv (mthD d x) w e w' := by
  have P := Lib.hid h
  clear h
  obtain ⟨m, k, n, t⟩ := x
  simp only at hx
  subst hx
  unfold vCall
  have HE := Lib.hid (show mthD d ⟨[76, 111, 97, 100], k, n, t⟩ = loadD d t from rfl)
  have hta := ta_7_4
  have hmd := method_7_Load b
  have hnl := nilAhead_7_Load b
  have HB2 := Lib.hid (show ∀ o1 o2, Below w.heap.size w ((w.alloc o1).alloc o2) from fun o1 o2 => ((Below.refl _ _).alloc (Nat.le_refl _) _).alloc (by simp) _)
  have HC := Lib.hid (fun W (HB : Below w.heap.size w W) => load_c N b cv d t mx W (P.out.st.below HB) (Nat.le_trans P.out.hN HB.size) ((P.out.below HB).hM) P.out.ht)
  rw [HE.out]
  clear HE
  generalize loadD d t = out at *
  go_enter Tryz.func101, Tryz.ntmps101
  go_wp2_with fail
  obtain ⟨W, hW⟩ : ∃ W, W = (w.alloc (.cells #[.string ⟨#[76, 111, 97, 100]⟩, .string ⟨k.toArray⟩, .int .i64 n, .string ⟨t.toArray⟩] 28)).alloc (.cells #[.int .i64 0, .int .i64 0, .string ⟨#[]⟩, .int .i64 0, .int .i64 0] 32) := ⟨_, rfl⟩
  rw [← hW]
  have HBW := Lib.hid (show Below w.heap.size w W from by rw [hW]; exact HB2.out _ _)
  have hg := (show W.heap[w.heap.size + 1]? = some (.cells #[.int .i64 0, .int .i64 0, .string ⟨#[]⟩, .int .i64 0, .int .i64 0] 32 (0, 0)) from by rw [hW]; exact heap_two _ _ _)
  have q1 : W.cell? ⟨w.heap.size, 1, none⟩ = some (.string ⟨k.toArray⟩) := by rw [hW]; simp [go_sem]
  have q2 : W.cell? ⟨w.heap.size, 2, none⟩ = some (.int .i64 n) := by rw [hW]; simp [go_sem]
  have q3 : W.cell? ⟨w.heap.size, 3, none⟩ = some (.string ⟨t.toArray⟩) := by rw [hW]; simp [go_sem]
  have r0 : W.cell? ⟨w.heap.size + 1, 0, none⟩ = some (.int .i64 0) := by rw [hW]; simp [go_sem]
  have r1 : W.cell? ⟨w.heap.size + 1, 1, none⟩ = some (.int .i64 0) := by rw [hW]; simp [go_sem]
  have r2 : W.cell? ⟨w.heap.size + 1, 2, none⟩ = some (.string ⟨#[]⟩) := by rw [hW]; simp [go_sem]
  have r3 : W.cell? ⟨w.heap.size + 1, 3, none⟩ = some (.int .i64 0) := by rw [hW]; simp [go_sem]
  have r4 : W.cell? ⟨w.heap.size + 1, 4, none⟩ = some (.int .i64 0) := by rw [hW]; simp [go_sem]
  have HZ := Lib.hid (show ∀ o, W.frozen? ⟨w.heap.size + 1, o, none⟩ = false from fun o => by rw [hW]; simp [go_sem])
  have HG := Lib.hid hg
  clear hW hg
  go_still_tail 4, (by kernel_rfl)
  change wpList _ _ _ _ _ W.drew
  go_wp2_with fail
  refine (HC.out _ (below_drewN HBW.out 1)).mono ?_
  rintro e w1 hd
  obtain ⟨rfl, hf, hc, hz⟩ := fin_of (n := w.heap.size + 1) P.out.st (W := W.drew) (below_drewN HBW.out 1) (by omega) ⟨_, HG.out⟩ hd
  have HF := Lib.hid hf
  clear hf hd HC
  obtain ⟨d1, g0, g1, g2, g3, g4⟩ := out
  unfold vReply
  simp only at *
  have hc0 := (hc 0).trans r0
  have hc1 := (hc 1).trans r1
  have hc2 := (hc 2).trans r2
  have hc3 := (hc 3).trans r3
  have hc4 := (hc 4).trans r4
  have hzz : ∀ o, w1.frozen? ⟨w.heap.size + 1, o, none⟩ = false := fun o => (hz o).trans (HZ.out o)
  clear hc hz r0 r1 r2 r3 r4
  go_wp2_with fail
  refine bodyPost_ret (v := vReply ⟨g0, g1, g2, g3, g4⟩) (by simp [results, Tryz.results101, go_sem, vReply, cell_set_at, cell_set_ne, hc0, hc1, hc2, hc3, hc4]) rfl ?_
  refine fin_does (n := w.heap.size + 1) ?_
  repeat (with_reducible refine fin_set ?_ _ _)
  exact HF.out
set_option maxRecDepth 100000 in
set_option maxHeartbeats 1600000 in
theorem try_7_Save (N b : Nat) (cv : Value) (d : CoreD) (x : CallD) (mx : Int) (w : World) (h : Pre N b cv d x mx w) (hx : x.fMethod = [83, 97, 118, 101]) :
    Calls Tryz.prog 101 #[.iface 146 (.agg #[.pointer (some ⟨b, 0, none⟩), .pointer (some ⟨b, 0, none⟩), .pointer (some ⟨b, 0, none⟩), .pointer (some ⟨b, 0, none⟩), .pointer (some ⟨b, 0, none⟩), .pointer (some ⟨b, 0, none⟩), .pointer (some ⟨b, 0, none⟩)]), vCall x] w fun e w' => Does N b cv (mthD d x) w e w' := by
  have P := Lib.hid h
  clear h
  obtain ⟨m, k, n, t⟩ := x
  simp only at hx
  subst hx
  unfold vCall
  have HE := Lib.hid (show mthD d ⟨[83, 97, 118, 101], k, n, t⟩ = saveD d from rfl)
  have hta := ta_7_4
  have hmd := method_7_Save b
  have hnl := nilAhead_7_Save b
  have HB2 := Lib.hid (show ∀ o1 o2, Below w.heap.size w ((w.alloc o1).alloc o2) from fun o1 o2 => ((Below.refl _ _).alloc (Nat.le_refl _) _).alloc (by simp) _)
  have HC := Lib.hid (fun W (HB : Below w.heap.size w W) => save_c N b cv d W (P.out.st.below HB) P.out.hm P.out.hs)
  rw [HE.out]
  clear HE
  generalize saveD d = out at *
  go_enter Tryz.func101, Tryz.ntmps101
  go_wp2_with fail
  refine (HC.out _ (HB2.out _ _)).mono ?_
  rintro e w1 hd
  obtain ⟨rfl, hf, hc, hz⟩ := fin_of (n := w.heap.size + 1) P.out.st (HB2.out _ _) (by omega) ⟨_, heap_two _ _ _⟩ hd
  have HF := Lib.hid hf
  clear hf hd
  clear HC
  obtain ⟨d1, r0, r1, r2, r3, r4⟩ := out
  unfold vReply
  simp only at *
  have hc0 := hc 0
  have hc1 := hc 1
  have hc2 := hc 2
  have hc3 := hc 3
  have hc4 := hc 4
  simp at hc0 hc1 hc2 hc3 hc4 hz
  clear hc
  go_wp2_with fail
  refine bodyPost_ret (v := vReply ⟨r0, r1, r2, r3, r4⟩) (by simp [results, Tryz.results101, go_sem, vReply, cell_set_at, cell_set_ne, hc0, hc1, hc2, hc3, hc4]) rfl ?_
  refine fin_does (n := w.heap.size + 1) ?_
  repeat (with_reducible refine fin_set ?_ _ _)
  exact HF.out
set_option maxRecDepth 100000 in
set_option maxHeartbeats 1600000 in
theorem try_7_Heal (N b : Nat) (cv : Value) (d : CoreD) (x : CallD) (mx : Int) (w : World) (h : Pre N b cv d x mx w) (hx : x.fMethod = [72, 101, 97, 108]) :
    Calls Tryz.prog 101 #[.iface 146 (.agg #[.pointer (some ⟨b, 0, none⟩), .pointer (some ⟨b, 0, none⟩), .pointer (some ⟨b, 0, none⟩), .pointer (some ⟨b, 0, none⟩), .pointer (some ⟨b, 0, none⟩), .pointer (some ⟨b, 0, none⟩), .pointer (some ⟨b, 0, none⟩)]), vCall x] w fun e w' => Does N b cv (mthD d x) w e w' := by
  have P := Lib.hid h
  clear h
  obtain ⟨m, k, n, t⟩ := x
  simp only at hx
  subst hx
  unfold vCall
  have HE := Lib.hid (show mthD d ⟨[72, 101, 97, 108], k, n, t⟩ = healD d from rfl)
  have hta := ta_7_5
  have hmd := method_7_Heal b
  have hnl := nilAhead_7_Heal b
  have HB2 := Lib.hid (show ∀ o1 o2, Below w.heap.size w ((w.alloc o1).alloc o2) from fun o1 o2 => ((Below.refl _ _).alloc (Nat.le_refl _) _).alloc (by simp) _)
  have HC := Lib.hid (fun W (HB : Below w.heap.size w W) => heal_c N b cv d W (P.out.st.below HB) P.out.hr)
  rw [HE.out]
  clear HE
  generalize healD d = out at *
  go_enter Tryz.func101, Tryz.ntmps101
  go_wp2_with fail
  refine (HC.out _ (HB2.out _ _)).mono ?_
  rintro e w1 hd
  obtain ⟨rfl, hf, hc, hz⟩ := fin_of (n := w.heap.size + 1) P.out.st (HB2.out _ _) (by omega) ⟨_, heap_two _ _ _⟩ hd
  have HF := Lib.hid hf
  clear hf hd
  clear HC
  obtain ⟨d1, r0, r1, r2, r3, r4⟩ := out
  unfold vReply
  simp only at *
  have hc0 := hc 0
  have hc1 := hc 1
  have hc2 := hc 2
  have hc3 := hc 3
  have hc4 := hc 4
  simp at hc0 hc1 hc2 hc3 hc4 hz
  clear hc
  go_wp2_with fail
  refine bodyPost_ret (v := vReply ⟨r0, r1, r2, r3, r4⟩) (by simp [results, Tryz.results101, go_sem, vReply, cell_set_at, cell_set_ne, hc0, hc1, hc2, hc3, hc4]) rfl ?_
  refine fin_does (n := w.heap.size + 1) ?_
  repeat (with_reducible refine fin_set ?_ _ _)
  exact HF.out
end Go.Proofs.YtghebbndfpbkcaaGreat
/- The deferred function literal behind a panic, by kind. Written by gen/ch3del.py. -/
namespace Go.Proofs.YtghebbndfpbkcaaGreat
set_option linter.unusedVariables false
set_option linter.unusedSimpArgs false
open Go.RowKit
set_option maxRecDepth 100000 in
set_option maxHeartbeats 1600000 in
theorem catch_6 (b : Nat) (cv : Value) (d : CoreD) (x : CallD) (nx np nr : Nat) (pv : Value) (w : World) (h : CoreBox w b cv d) (hb : Boxes nx np nr x (partV b 6) w) :
    CallsD Tryz.prog 100 #[.pointer (some ⟨nx, 0, none⟩), .pointer (some ⟨np, 0, none⟩), .pointer (some ⟨nr, 0, none⟩)] (.panicking ({ v := .iface Tryz.prog.rt.typeAssertionError pv, recovered := false } :: [])) w fun e u' w' =>
      e = .returned (.tuple #[]) ∧ u' = .panicking ({ v := .iface Tryz.prog.rt.typeAssertionError pv, recovered := true } :: []) ∧ ∃ w1, Below w.heap.size w w1 ∧ w' = put5 w1 nr ⟨1, 0, [], wantF x.fMethod, coreF d⟩ := by
  have HX := Lib.hid hb
  have HC := Lib.hid h
  have x0 := hb.x0
  have p0 := hb.p0
  unfold partV at p0
  have HW := Lib.hid (fun W => implWant_any ⟨x.fMethod.toArray⟩ W)
  simp only [List.toList_toArray] at HW
  have HF := Lib.hid (fun W (hw : Below w.heap.size w W) => face_c b cv d W (HC.out.keep (hw.block b HC.out.lt)))
  have hfm := face_6 b
  have hfn := faceNil_6 b
  generalize wantF x.fMethod = want at *
  generalize coreF d = had at *
  clear h hb
  refine callsD_of_wpS Tryz.func100 rfl fun c₀ cs hu => ?_
  apply wpS_seq
  apply wpS_region
  simp [wpOpsS, go_sem, recoverD, hu, Tryz.ntmps100, Exit.thenS]
  refine wpS_cond (t := true) (by simp [Act.eval, Array.replicate]) ?_
  simp only [if_true]
  refine wpS_of_wp ?_
  go_region_with (first
    | (go_at_call 96; refine (HW.out _).mono ?_; rintro e w1 ⟨rfl, hb1⟩; have HB1 := Lib.hid (show Below w.heap.size w w1 from ⟨hb1.os, hb1.tape, hb1.output, hb1.size, hb1.block⟩); have k0 := (HX.out.below HB1.out).p0; clear hb1; simp only [partV] at k0)
    | (go_at_call 138; refine (HF.out _ HB1.out).mono ?_; rintro e w2 ⟨rfl, hb2⟩; have HB2 := Lib.hid (show Below w.heap.size w w2 from HB1.out.trans (hb2.mono HB1.out.size)); clear hb2; have KR := Lib.hid (HX.out.below HB2.out); have y0 := KR.out.z 0; have y1 := KR.out.z 1; have y2 := KR.out.z 2; have y3 := KR.out.z 3; have y4 := KR.out.z 4; obtain ⟨e0, f0⟩ := Option.isSome_iff_exists.1 (KR.out.r 0 (by decide)); obtain ⟨e1, f1⟩ := Option.isSome_iff_exists.1 (KR.out.r 1 (by decide)); obtain ⟨e2, f2⟩ := Option.isSome_iff_exists.1 (KR.out.r 2 (by decide)); obtain ⟨e3, f3⟩ := Option.isSome_iff_exists.1 (KR.out.r 3 (by decide)); obtain ⟨e4, f4⟩ := Option.isSome_iff_exists.1 (KR.out.r 4 (by decide))))
  all_goals
    cases c₀
    simp_all [bodyPostS, results, Tryz.results100]
    exact ⟨w2, HB2.out, rfl⟩
set_option maxRecDepth 100000 in
set_option maxHeartbeats 1600000 in
theorem catch_7 (b : Nat) (cv : Value) (d : CoreD) (x : CallD) (nx np nr : Nat) (pv : Value) (w : World) (h : CoreBox w b cv d) (hb : Boxes nx np nr x (partV b 7) w) :
    CallsD Tryz.prog 100 #[.pointer (some ⟨nx, 0, none⟩), .pointer (some ⟨np, 0, none⟩), .pointer (some ⟨nr, 0, none⟩)] (.panicking ({ v := .iface Tryz.prog.rt.typeAssertionError pv, recovered := false } :: [])) w fun e u' w' =>
      e = .returned (.tuple #[]) ∧ u' = .panicking ({ v := .iface Tryz.prog.rt.typeAssertionError pv, recovered := true } :: []) ∧ ∃ w1, Below w.heap.size w w1 ∧ w' = put5 w1 nr ⟨1, 0, [], wantF x.fMethod, coreF d⟩ := by
  have HX := Lib.hid hb
  have HC := Lib.hid h
  have x0 := hb.x0
  have p0 := hb.p0
  unfold partV at p0
  have HW := Lib.hid (fun W => implWant_any ⟨x.fMethod.toArray⟩ W)
  simp only [List.toList_toArray] at HW
  have HF := Lib.hid (fun W (hw : Below w.heap.size w W) => face_c b cv d W (HC.out.keep (hw.block b HC.out.lt)))
  have hfm := face_7 b
  have hfn := faceNil_7 b
  generalize wantF x.fMethod = want at *
  generalize coreF d = had at *
  clear h hb
  refine callsD_of_wpS Tryz.func100 rfl fun c₀ cs hu => ?_
  apply wpS_seq
  apply wpS_region
  simp [wpOpsS, go_sem, recoverD, hu, Tryz.ntmps100, Exit.thenS]
  refine wpS_cond (t := true) (by simp [Act.eval, Array.replicate]) ?_
  simp only [if_true]
  refine wpS_of_wp ?_
  go_region_with (first
    | (go_at_call 96; refine (HW.out _).mono ?_; rintro e w1 ⟨rfl, hb1⟩; have HB1 := Lib.hid (show Below w.heap.size w w1 from ⟨hb1.os, hb1.tape, hb1.output, hb1.size, hb1.block⟩); have k0 := (HX.out.below HB1.out).p0; clear hb1; simp only [partV] at k0)
    | (go_at_call 138; refine (HF.out _ HB1.out).mono ?_; rintro e w2 ⟨rfl, hb2⟩; have HB2 := Lib.hid (show Below w.heap.size w w2 from HB1.out.trans (hb2.mono HB1.out.size)); clear hb2; have KR := Lib.hid (HX.out.below HB2.out); have y0 := KR.out.z 0; have y1 := KR.out.z 1; have y2 := KR.out.z 2; have y3 := KR.out.z 3; have y4 := KR.out.z 4; obtain ⟨e0, f0⟩ := Option.isSome_iff_exists.1 (KR.out.r 0 (by decide)); obtain ⟨e1, f1⟩ := Option.isSome_iff_exists.1 (KR.out.r 1 (by decide)); obtain ⟨e2, f2⟩ := Option.isSome_iff_exists.1 (KR.out.r 2 (by decide)); obtain ⟨e3, f3⟩ := Option.isSome_iff_exists.1 (KR.out.r 3 (by decide)); obtain ⟨e4, f4⟩ := Option.isSome_iff_exists.1 (KR.out.r 4 (by decide))))
  all_goals
    cases c₀
    simp_all [bodyPostS, results, Tryz.results100]
    exact ⟨w2, HB2.out, rfl⟩
end Go.Proofs.YtghebbndfpbkcaaGreat
/- deliverCall: over what assertAndCall and the deferred function literal do. -/
namespace Go.Proofs.YtghebbndfpbkcaaGreat
set_option linter.unusedVariables false
set_option linter.unusedSimpArgs false
open Go.RowKit
theorem heap_three (w : World) (o1 o2 o3 : Obj) : (((w.alloc o1).alloc o2).alloc o3).heap[w.heap.size + 1 + 1]? = some o3 := by have := heap_alloc_new ((w.alloc o1).alloc o2) o3; simpa using this
set_option maxRecDepth 100000 in
set_option maxHeartbeats 1600000 in
theorem deliver_ok (N b : Nat) (cv : Value) (d : CoreD) (x : CallD) (T : TypeId) (V : Value) (out : CoreD × ReplyD) (w : World) (h : CoreSt N b cv d w)
    (hA : ∀ W, Below w.heap.size w W → Calls Tryz.prog 101 #[.iface T V, vCall x] W fun e w' => Does N b cv out W e w') :
    Calls Tryz.prog 70 #[.iface T V, vCall x] w fun e w' => Does N b cv out w e w' := by
  have HS := Lib.hid h
  have HA := Lib.hid hA
  clear h hA
  obtain ⟨m, k, n, t⟩ := x
  unfold vCall at HA ⊢
  have hmf : ∀ (fn : Fn) (first cap : Array Value) (w : World), (Instr.makeFunc fn first cap).run Tryz.prog w = .ok (.func fn first cap) w := fun _ _ _ _ => rfl
  have HB3 := Lib.hid (show ∀ o1 o2 o3, Below w.heap.size w (((w.alloc o1).alloc o2).alloc o3) from fun o1 o2 o3 => (((Below.refl _ _).alloc (Nat.le_refl _) _).alloc (by simp) _).alloc (by simp; omega) _)
  go_enter_defers Tryz.func70, Tryz.ntmps70
  go_wp2_with fail
  refine (HA.out _ (HB3.out _ _ _)).mono ?_
  rintro e w1 hd
  obtain ⟨rfl, hf, hc, hz⟩ := fin_of (n := w.heap.size + 1 + 1) HS.out (HB3.out _ _ _) (by omega) ⟨_, heap_three _ _ _ _⟩ hd
  have HF := Lib.hid hf
  clear hf hd HA
  obtain ⟨d1, r0, r1, r2, r3, r4⟩ := out
  unfold vReply
  simp only at *
  have hc0 := hc 0
  have hc1 := hc 1
  have hc2 := hc 2
  have hc3 := hc 3
  have hc4 := hc 4
  simp [go_sem] at hc0 hc1 hc2 hc3 hc4 hz
  clear hc
  go_wp2_with fail
  refine leaves_cons (f := 100) (args := #[.pointer (some ⟨w.heap.size + 1, 0, none⟩), .pointer (some ⟨w.heap.size, 0, none⟩), .pointer (some ⟨w.heap.size + 1 + 1, 0, none⟩)]) (by simp) (by simp [go_sem]) ?_
  refine (catch_idle _ _ _ _).mono ?_
  rintro e u' w'' ⟨rfl, rfl, rfl⟩
  simp [Leaves, settle, results, Tryz.results70, go_sem, cell_set_at, cell_set_ne, hc0, hc1, hc2, hc3, hc4]
  refine fin_does (out := (d1, (⟨r0, r1, r2, r3, r4⟩ : ReplyD))) (n := w.heap.size + 1 + 1) ?_
  repeat (with_reducible refine fin_set ?_ _ _)
  exact HF.out
set_option maxRecDepth 100000 in
set_option maxHeartbeats 1600000 in
theorem deliver_fail (N b : Nat) (cv : Value) (d : CoreD) (x : CallD) (T : TypeId) (V : Value) (w : World) (h : CoreSt N b cv d w)
    (hA : ∀ W, Below w.heap.size w W → Calls Tryz.prog 101 #[.iface T V, vCall x] W fun e w' => Panics W e w')
    (hC : ∀ nx np nr pv W, CoreBox W b cv d → Boxes nx np nr x (.iface T V) W → CallsD Tryz.prog 100 #[.pointer (some ⟨nx, 0, none⟩), .pointer (some ⟨np, 0, none⟩), .pointer (some ⟨nr, 0, none⟩)] (.panicking ({ v := .iface Tryz.prog.rt.typeAssertionError pv, recovered := false } :: [])) W fun e u' w' =>
      e = .returned (.tuple #[]) ∧ u' = .panicking ({ v := .iface Tryz.prog.rt.typeAssertionError pv, recovered := true } :: []) ∧ ∃ w1, Below W.heap.size W w1 ∧ w' = put5 w1 nr ⟨1, 0, [], wantF x.fMethod, coreF d⟩) :
    Calls Tryz.prog 70 #[.iface T V, vCall x] w fun e w' => Does N b cv (d, ⟨1, 0, [], wantF x.fMethod, coreF d⟩) w e w' := by
  have HS := Lib.hid h
  have HA := Lib.hid hA
  have HC := Lib.hid hC
  have hl := h.box.lt
  clear h hA hC
  obtain ⟨m, k, n, t⟩ := x
  unfold vCall at HA ⊢
  have hmf : ∀ (fn : Fn) (first cap : Array Value) (w : World), (Instr.makeFunc fn first cap).run Tryz.prog w = .ok (.func fn first cap) w := fun _ _ _ _ => rfl
  have HB3 := Lib.hid (show ∀ o1 o2 o3, Below w.heap.size w (((w.alloc o1).alloc o2).alloc o3) from fun o1 o2 o3 => (((Below.refl _ _).alloc (Nat.le_refl _) _).alloc (by simp) _).alloc (by simp; omega) _)
  have HBX := Lib.hid (show Boxes (w.heap.size + 1) w.heap.size (w.heap.size + 1 + 1) ⟨m, k, n, t⟩ (.iface T V) (((w.alloc (.cells #[.iface T V] 99)).alloc (.cells #[.string ⟨m.toArray⟩, .string ⟨k.toArray⟩, .int .i64 n, .string ⟨t.toArray⟩] 28)).alloc (.cells #[.int .i64 0, .int .i64 0, .string ⟨#[]⟩, .int .i64 0, .int .i64 0] 32)) from
    ⟨by simp [go_sem], by simp [go_sem], fun o ho => by rcases (show o = 0 ∨ o = 1 ∨ o = 2 ∨ o = 3 ∨ o = 4 by omega) with rfl | rfl | rfl | rfl | rfl <;> simp [go_sem], fun o => by simp [go_sem]⟩)
  go_enter_defers Tryz.func70, Tryz.ntmps70
  go_wp2_with fail
  refine (HA.out _ (HB3.out _ _ _)).mono ?_
  rintro e w1 ⟨pv, rfl, hb⟩
  have HB := Lib.hid ((HB3.out _ _ _).trans (hb.mono (HB3.out _ _ _).size))
  have HX1 := Lib.hid (HBX.out.below hb)
  clear hb HBX HA
  refine leaves_cons (f := 100) (args := #[.pointer (some ⟨w.heap.size + 1, 0, none⟩), .pointer (some ⟨w.heap.size, 0, none⟩), .pointer (some ⟨w.heap.size + 1 + 1, 0, none⟩)]) (by simp) (by simp [go_sem]) ?_
  refine (HC.out _ _ _ pv _ (HS.out.box.keep (HB.out.block b hl)) HX1.out).mono ?_
  rintro e u' w'' ⟨rfl, rfl, w2, hb2, rfl⟩
  have HB2 := Lib.hid (HB.out.trans (hb2.mono HB.out.size))
  have KR := Lib.hid (HX1.out.below hb2)
  obtain ⟨e0, f0⟩ := Option.isSome_iff_exists.1 (KR.out.r 0 (by decide))
  obtain ⟨e1, f1⟩ := Option.isSome_iff_exists.1 (KR.out.r 1 (by decide))
  obtain ⟨e2, f2⟩ := Option.isSome_iff_exists.1 (KR.out.r 2 (by decide))
  obtain ⟨e3, f3⟩ := Option.isSome_iff_exists.1 (KR.out.r 3 (by decide))
  obtain ⟨e4, f4⟩ := Option.isSome_iff_exists.1 (KR.out.r 4 (by decide))
  have HK := Lib.hid (show CoreSt N b cv d w2 from HS.out.below HB2.out)
  have HF := Lib.hid (show Fin N b cv d (w.heap.size + 1 + 1) w w2 from ⟨⟨cv, HK.out, fun e => by have := (World.ownsRow.lt HS.out.own _ e).2; omega⟩, by omega, by omega, Kept2.of_below HB2.out⟩)
  generalize wantF m = want at *
  generalize coreF d = had at *
  clear HC hb2
  unfold put5
  simp [Leaves, settle, results, Tryz.results70, go_sem, cell_set_at, cell_set_ne, f0, f1, f2, f3, f4]
  refine fin_does (out := (d, (⟨1, 0, [], want, had⟩ : ReplyD))) (n := w.heap.size + 1 + 1) ?_
  repeat (with_reducible refine fin_set ?_ _ _)
  exact HF.out
end Go.Proofs.YtghebbndfpbkcaaGreat
/- The door, for every valid core and call. Written by gen/ch3door.py. -/
namespace Go.Proofs.YtghebbndfpbkcaaGreat
set_option linter.unusedVariables false
open Go.RowKit
def doV (d : CoreD) (x : CallD) : CoreD × ReplyD := if offersF (coreF d) (wantF x.fMethod) = true then mthD d x else (d, ⟨1, 0, [], wantF x.fMethod, coreF d⟩)
def doD (d : CoreD) (x : CallD) : CoreD × ReplyD := if (coreB d && callB x) = true then doV d x else (d, rC 7)
def PutOk (N b : Nat) (cv : Value) (d : CoreD) (x : CallD) : Prop := ∀ w, CoreSt N b cv d w → Calls Tryz.prog 144 #[.agg #[.pointer (some ⟨b, 0, none⟩)], .string ⟨x.fKey.toArray⟩, .int .i64 x.fValue] w fun e w' => Does N b cv (putD d x.fKey x.fValue) w e w'
theorem door_0_Start (N b : Nat) (cv : Value) (d : CoreD) (x : CallD) (mx : Int) (w : World) (P : Pre N b cv d x mx w) (hx : x.fMethod = [83, 116, 97, 114, 116]) (hf : coreF d = 0) (PUT : Hid (PutOk N b cv d x)) :
    Calls Tryz.prog 70 #[partV b 0, vCall x] w fun e w' => Does N b cv (doV d x) w e w' := by
  have hw : wantF x.fMethod = 1 := by rw [hx]; rfl
  rw [show doV d x = (d, ⟨1, 0, [], wantF x.fMethod, coreF d⟩) from if_neg (by rw [hf, hw]; decide)]
  exact deliver_fail N b cv d x _ _ w P.st (fun W hb => try_0_Start N b cv d x mx W (P.below hb) hx) (fun nx np nr pv W h1 h2 => catch_0 b cv d x nx np nr pv W h1 h2)
theorem door_0_Stop (N b : Nat) (cv : Value) (d : CoreD) (x : CallD) (mx : Int) (w : World) (P : Pre N b cv d x mx w) (hx : x.fMethod = [83, 116, 111, 112]) (hf : coreF d = 0) (PUT : Hid (PutOk N b cv d x)) :
    Calls Tryz.prog 70 #[partV b 0, vCall x] w fun e w' => Does N b cv (doV d x) w e w' := by
  have hw : wantF x.fMethod = 1 := by rw [hx]; rfl
  rw [show doV d x = (d, ⟨1, 0, [], wantF x.fMethod, coreF d⟩) from if_neg (by rw [hf, hw]; decide)]
  exact deliver_fail N b cv d x _ _ w P.st (fun W hb => try_0_Stop N b cv d x mx W (P.below hb) hx) (fun nx np nr pv W h1 h2 => catch_0 b cv d x nx np nr pv W h1 h2)
theorem door_0_Get (N b : Nat) (cv : Value) (d : CoreD) (x : CallD) (mx : Int) (w : World) (P : Pre N b cv d x mx w) (hx : x.fMethod = [71, 101, 116]) (hf : coreF d = 0) (PUT : Hid (PutOk N b cv d x)) :
    Calls Tryz.prog 70 #[partV b 0, vCall x] w fun e w' => Does N b cv (doV d x) w e w' := by
  have hw : wantF x.fMethod = 2 := by rw [hx]; rfl
  rw [show doV d x = (d, ⟨1, 0, [], wantF x.fMethod, coreF d⟩) from if_neg (by rw [hf, hw]; decide)]
  exact deliver_fail N b cv d x _ _ w P.st (fun W hb => try_0_Get N b cv d x mx W (P.below hb) hx) (fun nx np nr pv W h1 h2 => catch_0 b cv d x nx np nr pv W h1 h2)
theorem door_0_Put (N b : Nat) (cv : Value) (d : CoreD) (x : CallD) (mx : Int) (w : World) (P : Pre N b cv d x mx w) (hx : x.fMethod = [80, 117, 116]) (hf : coreF d = 0) (PUT : Hid (PutOk N b cv d x)) :
    Calls Tryz.prog 70 #[partV b 0, vCall x] w fun e w' => Does N b cv (doV d x) w e w' := by
  have hw : wantF x.fMethod = 2 := by rw [hx]; rfl
  rw [show doV d x = (d, ⟨1, 0, [], wantF x.fMethod, coreF d⟩) from if_neg (by rw [hf, hw]; decide)]
  exact deliver_fail N b cv d x _ _ w P.st (fun W hb => try_0_Put N b cv d x mx W (P.below hb) hx) (fun nx np nr pv W h1 h2 => catch_0 b cv d x nx np nr pv W h1 h2)
theorem door_0_Tell (N b : Nat) (cv : Value) (d : CoreD) (x : CallD) (mx : Int) (w : World) (P : Pre N b cv d x mx w) (hx : x.fMethod = [84, 101, 108, 108]) (hf : coreF d = 0) (PUT : Hid (PutOk N b cv d x)) :
    Calls Tryz.prog 70 #[partV b 0, vCall x] w fun e w' => Does N b cv (doV d x) w e w' := by
  have hw : wantF x.fMethod = 4 := by rw [hx]; rfl
  rw [show doV d x = (d, ⟨1, 0, [], wantF x.fMethod, coreF d⟩) from if_neg (by rw [hf, hw]; decide)]
  exact deliver_fail N b cv d x _ _ w P.st (fun W hb => try_0_Tell N b cv d x mx W (P.below hb) hx) (fun nx np nr pv W h1 h2 => catch_0 b cv d x nx np nr pv W h1 h2)
theorem door_0_Hear (N b : Nat) (cv : Value) (d : CoreD) (x : CallD) (mx : Int) (w : World) (P : Pre N b cv d x mx w) (hx : x.fMethod = [72, 101, 97, 114]) (hf : coreF d = 0) (PUT : Hid (PutOk N b cv d x)) :
    Calls Tryz.prog 70 #[partV b 0, vCall x] w fun e w' => Does N b cv (doV d x) w e w' := by
  have hw : wantF x.fMethod = 8 := by rw [hx]; rfl
  rw [show doV d x = (d, ⟨1, 0, [], wantF x.fMethod, coreF d⟩) from if_neg (by rw [hf, hw]; decide)]
  exact deliver_fail N b cv d x _ _ w P.st (fun W hb => try_0_Hear N b cv d x mx W (P.below hb) hx) (fun nx np nr pv W h1 h2 => catch_0 b cv d x nx np nr pv W h1 h2)
theorem door_0_Load (N b : Nat) (cv : Value) (d : CoreD) (x : CallD) (mx : Int) (w : World) (P : Pre N b cv d x mx w) (hx : x.fMethod = [76, 111, 97, 100]) (hf : coreF d = 0) (PUT : Hid (PutOk N b cv d x)) :
    Calls Tryz.prog 70 #[partV b 0, vCall x] w fun e w' => Does N b cv (doV d x) w e w' := by
  have hw : wantF x.fMethod = 16 := by rw [hx]; rfl
  rw [show doV d x = (d, ⟨1, 0, [], wantF x.fMethod, coreF d⟩) from if_neg (by rw [hf, hw]; decide)]
  exact deliver_fail N b cv d x _ _ w P.st (fun W hb => try_0_Load N b cv d x mx W (P.below hb) hx) (fun nx np nr pv W h1 h2 => catch_0 b cv d x nx np nr pv W h1 h2)
theorem door_0_Save (N b : Nat) (cv : Value) (d : CoreD) (x : CallD) (mx : Int) (w : World) (P : Pre N b cv d x mx w) (hx : x.fMethod = [83, 97, 118, 101]) (hf : coreF d = 0) (PUT : Hid (PutOk N b cv d x)) :
    Calls Tryz.prog 70 #[partV b 0, vCall x] w fun e w' => Does N b cv (doV d x) w e w' := by
  have hw : wantF x.fMethod = 16 := by rw [hx]; rfl
  rw [show doV d x = (d, ⟨1, 0, [], wantF x.fMethod, coreF d⟩) from if_neg (by rw [hf, hw]; decide)]
  exact deliver_fail N b cv d x _ _ w P.st (fun W hb => try_0_Save N b cv d x mx W (P.below hb) hx) (fun nx np nr pv W h1 h2 => catch_0 b cv d x nx np nr pv W h1 h2)
theorem door_0_Heal (N b : Nat) (cv : Value) (d : CoreD) (x : CallD) (mx : Int) (w : World) (P : Pre N b cv d x mx w) (hx : x.fMethod = [72, 101, 97, 108]) (hf : coreF d = 0) (PUT : Hid (PutOk N b cv d x)) :
    Calls Tryz.prog 70 #[partV b 0, vCall x] w fun e w' => Does N b cv (doV d x) w e w' := by
  have hw : wantF x.fMethod = 32 := by rw [hx]; rfl
  rw [show doV d x = (d, ⟨1, 0, [], wantF x.fMethod, coreF d⟩) from if_neg (by rw [hf, hw]; decide)]
  exact deliver_fail N b cv d x _ _ w P.st (fun W hb => try_0_Heal N b cv d x mx W (P.below hb) hx) (fun nx np nr pv W h1 h2 => catch_0 b cv d x nx np nr pv W h1 h2)
theorem door_1_Start (N b : Nat) (cv : Value) (d : CoreD) (x : CallD) (mx : Int) (w : World) (P : Pre N b cv d x mx w) (hx : x.fMethod = [83, 116, 97, 114, 116]) (hf : coreF d = 1) (PUT : Hid (PutOk N b cv d x)) :
    Calls Tryz.prog 70 #[partV b 1, vCall x] w fun e w' => Does N b cv (doV d x) w e w' := by
  have hw : wantF x.fMethod = 1 := by rw [hx]; rfl
  rw [show doV d x = mthD d x from if_pos (by rw [hf, hw]; rfl)]
  exact deliver_ok N b cv d x _ _ _ w P.st (fun W hb => try_1_Start N b cv d x mx W (P.below hb) hx)
theorem door_1_Stop (N b : Nat) (cv : Value) (d : CoreD) (x : CallD) (mx : Int) (w : World) (P : Pre N b cv d x mx w) (hx : x.fMethod = [83, 116, 111, 112]) (hf : coreF d = 1) (PUT : Hid (PutOk N b cv d x)) :
    Calls Tryz.prog 70 #[partV b 1, vCall x] w fun e w' => Does N b cv (doV d x) w e w' := by
  have hw : wantF x.fMethod = 1 := by rw [hx]; rfl
  rw [show doV d x = mthD d x from if_pos (by rw [hf, hw]; rfl)]
  exact deliver_ok N b cv d x _ _ _ w P.st (fun W hb => try_1_Stop N b cv d x mx W (P.below hb) hx)
theorem door_1_Get (N b : Nat) (cv : Value) (d : CoreD) (x : CallD) (mx : Int) (w : World) (P : Pre N b cv d x mx w) (hx : x.fMethod = [71, 101, 116]) (hf : coreF d = 1) (PUT : Hid (PutOk N b cv d x)) :
    Calls Tryz.prog 70 #[partV b 1, vCall x] w fun e w' => Does N b cv (doV d x) w e w' := by
  have hw : wantF x.fMethod = 2 := by rw [hx]; rfl
  rw [show doV d x = (d, ⟨1, 0, [], wantF x.fMethod, coreF d⟩) from if_neg (by rw [hf, hw]; decide)]
  exact deliver_fail N b cv d x _ _ w P.st (fun W hb => try_1_Get N b cv d x mx W (P.below hb) hx) (fun nx np nr pv W h1 h2 => catch_1 b cv d x nx np nr pv W h1 h2)
theorem door_1_Put (N b : Nat) (cv : Value) (d : CoreD) (x : CallD) (mx : Int) (w : World) (P : Pre N b cv d x mx w) (hx : x.fMethod = [80, 117, 116]) (hf : coreF d = 1) (PUT : Hid (PutOk N b cv d x)) :
    Calls Tryz.prog 70 #[partV b 1, vCall x] w fun e w' => Does N b cv (doV d x) w e w' := by
  have hw : wantF x.fMethod = 2 := by rw [hx]; rfl
  rw [show doV d x = (d, ⟨1, 0, [], wantF x.fMethod, coreF d⟩) from if_neg (by rw [hf, hw]; decide)]
  exact deliver_fail N b cv d x _ _ w P.st (fun W hb => try_1_Put N b cv d x mx W (P.below hb) hx) (fun nx np nr pv W h1 h2 => catch_1 b cv d x nx np nr pv W h1 h2)
theorem door_1_Tell (N b : Nat) (cv : Value) (d : CoreD) (x : CallD) (mx : Int) (w : World) (P : Pre N b cv d x mx w) (hx : x.fMethod = [84, 101, 108, 108]) (hf : coreF d = 1) (PUT : Hid (PutOk N b cv d x)) :
    Calls Tryz.prog 70 #[partV b 1, vCall x] w fun e w' => Does N b cv (doV d x) w e w' := by
  have hw : wantF x.fMethod = 4 := by rw [hx]; rfl
  rw [show doV d x = (d, ⟨1, 0, [], wantF x.fMethod, coreF d⟩) from if_neg (by rw [hf, hw]; decide)]
  exact deliver_fail N b cv d x _ _ w P.st (fun W hb => try_1_Tell N b cv d x mx W (P.below hb) hx) (fun nx np nr pv W h1 h2 => catch_1 b cv d x nx np nr pv W h1 h2)
theorem door_1_Hear (N b : Nat) (cv : Value) (d : CoreD) (x : CallD) (mx : Int) (w : World) (P : Pre N b cv d x mx w) (hx : x.fMethod = [72, 101, 97, 114]) (hf : coreF d = 1) (PUT : Hid (PutOk N b cv d x)) :
    Calls Tryz.prog 70 #[partV b 1, vCall x] w fun e w' => Does N b cv (doV d x) w e w' := by
  have hw : wantF x.fMethod = 8 := by rw [hx]; rfl
  rw [show doV d x = (d, ⟨1, 0, [], wantF x.fMethod, coreF d⟩) from if_neg (by rw [hf, hw]; decide)]
  exact deliver_fail N b cv d x _ _ w P.st (fun W hb => try_1_Hear N b cv d x mx W (P.below hb) hx) (fun nx np nr pv W h1 h2 => catch_1 b cv d x nx np nr pv W h1 h2)
theorem door_1_Load (N b : Nat) (cv : Value) (d : CoreD) (x : CallD) (mx : Int) (w : World) (P : Pre N b cv d x mx w) (hx : x.fMethod = [76, 111, 97, 100]) (hf : coreF d = 1) (PUT : Hid (PutOk N b cv d x)) :
    Calls Tryz.prog 70 #[partV b 1, vCall x] w fun e w' => Does N b cv (doV d x) w e w' := by
  have hw : wantF x.fMethod = 16 := by rw [hx]; rfl
  rw [show doV d x = (d, ⟨1, 0, [], wantF x.fMethod, coreF d⟩) from if_neg (by rw [hf, hw]; decide)]
  exact deliver_fail N b cv d x _ _ w P.st (fun W hb => try_1_Load N b cv d x mx W (P.below hb) hx) (fun nx np nr pv W h1 h2 => catch_1 b cv d x nx np nr pv W h1 h2)
theorem door_1_Save (N b : Nat) (cv : Value) (d : CoreD) (x : CallD) (mx : Int) (w : World) (P : Pre N b cv d x mx w) (hx : x.fMethod = [83, 97, 118, 101]) (hf : coreF d = 1) (PUT : Hid (PutOk N b cv d x)) :
    Calls Tryz.prog 70 #[partV b 1, vCall x] w fun e w' => Does N b cv (doV d x) w e w' := by
  have hw : wantF x.fMethod = 16 := by rw [hx]; rfl
  rw [show doV d x = (d, ⟨1, 0, [], wantF x.fMethod, coreF d⟩) from if_neg (by rw [hf, hw]; decide)]
  exact deliver_fail N b cv d x _ _ w P.st (fun W hb => try_1_Save N b cv d x mx W (P.below hb) hx) (fun nx np nr pv W h1 h2 => catch_1 b cv d x nx np nr pv W h1 h2)
theorem door_1_Heal (N b : Nat) (cv : Value) (d : CoreD) (x : CallD) (mx : Int) (w : World) (P : Pre N b cv d x mx w) (hx : x.fMethod = [72, 101, 97, 108]) (hf : coreF d = 1) (PUT : Hid (PutOk N b cv d x)) :
    Calls Tryz.prog 70 #[partV b 1, vCall x] w fun e w' => Does N b cv (doV d x) w e w' := by
  have hw : wantF x.fMethod = 32 := by rw [hx]; rfl
  rw [show doV d x = (d, ⟨1, 0, [], wantF x.fMethod, coreF d⟩) from if_neg (by rw [hf, hw]; decide)]
  exact deliver_fail N b cv d x _ _ w P.st (fun W hb => try_1_Heal N b cv d x mx W (P.below hb) hx) (fun nx np nr pv W h1 h2 => catch_1 b cv d x nx np nr pv W h1 h2)
theorem door_2_Start (N b : Nat) (cv : Value) (d : CoreD) (x : CallD) (mx : Int) (w : World) (P : Pre N b cv d x mx w) (hx : x.fMethod = [83, 116, 97, 114, 116]) (hf : coreF d = 2) (PUT : Hid (PutOk N b cv d x)) :
    Calls Tryz.prog 70 #[partV b 2, vCall x] w fun e w' => Does N b cv (doV d x) w e w' := by
  have hw : wantF x.fMethod = 1 := by rw [hx]; rfl
  rw [show doV d x = (d, ⟨1, 0, [], wantF x.fMethod, coreF d⟩) from if_neg (by rw [hf, hw]; decide)]
  exact deliver_fail N b cv d x _ _ w P.st (fun W hb => try_2_Start N b cv d x mx W (P.below hb) hx) (fun nx np nr pv W h1 h2 => catch_2 b cv d x nx np nr pv W h1 h2)
theorem door_2_Stop (N b : Nat) (cv : Value) (d : CoreD) (x : CallD) (mx : Int) (w : World) (P : Pre N b cv d x mx w) (hx : x.fMethod = [83, 116, 111, 112]) (hf : coreF d = 2) (PUT : Hid (PutOk N b cv d x)) :
    Calls Tryz.prog 70 #[partV b 2, vCall x] w fun e w' => Does N b cv (doV d x) w e w' := by
  have hw : wantF x.fMethod = 1 := by rw [hx]; rfl
  rw [show doV d x = (d, ⟨1, 0, [], wantF x.fMethod, coreF d⟩) from if_neg (by rw [hf, hw]; decide)]
  exact deliver_fail N b cv d x _ _ w P.st (fun W hb => try_2_Stop N b cv d x mx W (P.below hb) hx) (fun nx np nr pv W h1 h2 => catch_2 b cv d x nx np nr pv W h1 h2)
theorem door_2_Get (N b : Nat) (cv : Value) (d : CoreD) (x : CallD) (mx : Int) (w : World) (P : Pre N b cv d x mx w) (hx : x.fMethod = [71, 101, 116]) (hf : coreF d = 2) (PUT : Hid (PutOk N b cv d x)) :
    Calls Tryz.prog 70 #[partV b 2, vCall x] w fun e w' => Does N b cv (doV d x) w e w' := by
  have hw : wantF x.fMethod = 2 := by rw [hx]; rfl
  rw [show doV d x = mthD d x from if_pos (by rw [hf, hw]; rfl)]
  exact deliver_ok N b cv d x _ _ _ w P.st (fun W hb => try_2_Get N b cv d x mx W (P.below hb) hx)
theorem door_2_Put (N b : Nat) (cv : Value) (d : CoreD) (x : CallD) (mx : Int) (w : World) (P : Pre N b cv d x mx w) (hx : x.fMethod = [80, 117, 116]) (hf : coreF d = 2) (PUT : Hid (PutOk N b cv d x)) :
    Calls Tryz.prog 70 #[partV b 2, vCall x] w fun e w' => Does N b cv (doV d x) w e w' := by
  have hw : wantF x.fMethod = 2 := by rw [hx]; rfl
  rw [show doV d x = mthD d x from if_pos (by rw [hf, hw]; rfl)]
  exact deliver_ok N b cv d x _ _ _ w P.st (fun W hb => try_2_Put N b cv d x mx W (P.below hb) hx PUT)
theorem door_2_Tell (N b : Nat) (cv : Value) (d : CoreD) (x : CallD) (mx : Int) (w : World) (P : Pre N b cv d x mx w) (hx : x.fMethod = [84, 101, 108, 108]) (hf : coreF d = 2) (PUT : Hid (PutOk N b cv d x)) :
    Calls Tryz.prog 70 #[partV b 2, vCall x] w fun e w' => Does N b cv (doV d x) w e w' := by
  have hw : wantF x.fMethod = 4 := by rw [hx]; rfl
  rw [show doV d x = (d, ⟨1, 0, [], wantF x.fMethod, coreF d⟩) from if_neg (by rw [hf, hw]; decide)]
  exact deliver_fail N b cv d x _ _ w P.st (fun W hb => try_2_Tell N b cv d x mx W (P.below hb) hx) (fun nx np nr pv W h1 h2 => catch_2 b cv d x nx np nr pv W h1 h2)
theorem door_2_Hear (N b : Nat) (cv : Value) (d : CoreD) (x : CallD) (mx : Int) (w : World) (P : Pre N b cv d x mx w) (hx : x.fMethod = [72, 101, 97, 114]) (hf : coreF d = 2) (PUT : Hid (PutOk N b cv d x)) :
    Calls Tryz.prog 70 #[partV b 2, vCall x] w fun e w' => Does N b cv (doV d x) w e w' := by
  have hw : wantF x.fMethod = 8 := by rw [hx]; rfl
  rw [show doV d x = (d, ⟨1, 0, [], wantF x.fMethod, coreF d⟩) from if_neg (by rw [hf, hw]; decide)]
  exact deliver_fail N b cv d x _ _ w P.st (fun W hb => try_2_Hear N b cv d x mx W (P.below hb) hx) (fun nx np nr pv W h1 h2 => catch_2 b cv d x nx np nr pv W h1 h2)
theorem door_2_Load (N b : Nat) (cv : Value) (d : CoreD) (x : CallD) (mx : Int) (w : World) (P : Pre N b cv d x mx w) (hx : x.fMethod = [76, 111, 97, 100]) (hf : coreF d = 2) (PUT : Hid (PutOk N b cv d x)) :
    Calls Tryz.prog 70 #[partV b 2, vCall x] w fun e w' => Does N b cv (doV d x) w e w' := by
  have hw : wantF x.fMethod = 16 := by rw [hx]; rfl
  rw [show doV d x = (d, ⟨1, 0, [], wantF x.fMethod, coreF d⟩) from if_neg (by rw [hf, hw]; decide)]
  exact deliver_fail N b cv d x _ _ w P.st (fun W hb => try_2_Load N b cv d x mx W (P.below hb) hx) (fun nx np nr pv W h1 h2 => catch_2 b cv d x nx np nr pv W h1 h2)
theorem door_2_Save (N b : Nat) (cv : Value) (d : CoreD) (x : CallD) (mx : Int) (w : World) (P : Pre N b cv d x mx w) (hx : x.fMethod = [83, 97, 118, 101]) (hf : coreF d = 2) (PUT : Hid (PutOk N b cv d x)) :
    Calls Tryz.prog 70 #[partV b 2, vCall x] w fun e w' => Does N b cv (doV d x) w e w' := by
  have hw : wantF x.fMethod = 16 := by rw [hx]; rfl
  rw [show doV d x = (d, ⟨1, 0, [], wantF x.fMethod, coreF d⟩) from if_neg (by rw [hf, hw]; decide)]
  exact deliver_fail N b cv d x _ _ w P.st (fun W hb => try_2_Save N b cv d x mx W (P.below hb) hx) (fun nx np nr pv W h1 h2 => catch_2 b cv d x nx np nr pv W h1 h2)
theorem door_2_Heal (N b : Nat) (cv : Value) (d : CoreD) (x : CallD) (mx : Int) (w : World) (P : Pre N b cv d x mx w) (hx : x.fMethod = [72, 101, 97, 108]) (hf : coreF d = 2) (PUT : Hid (PutOk N b cv d x)) :
    Calls Tryz.prog 70 #[partV b 2, vCall x] w fun e w' => Does N b cv (doV d x) w e w' := by
  have hw : wantF x.fMethod = 32 := by rw [hx]; rfl
  rw [show doV d x = (d, ⟨1, 0, [], wantF x.fMethod, coreF d⟩) from if_neg (by rw [hf, hw]; decide)]
  exact deliver_fail N b cv d x _ _ w P.st (fun W hb => try_2_Heal N b cv d x mx W (P.below hb) hx) (fun nx np nr pv W h1 h2 => catch_2 b cv d x nx np nr pv W h1 h2)
theorem door_3_Start (N b : Nat) (cv : Value) (d : CoreD) (x : CallD) (mx : Int) (w : World) (P : Pre N b cv d x mx w) (hx : x.fMethod = [83, 116, 97, 114, 116]) (hf : coreF d = 5) (PUT : Hid (PutOk N b cv d x)) :
    Calls Tryz.prog 70 #[partV b 3, vCall x] w fun e w' => Does N b cv (doV d x) w e w' := by
  have hw : wantF x.fMethod = 1 := by rw [hx]; rfl
  rw [show doV d x = mthD d x from if_pos (by rw [hf, hw]; rfl)]
  exact deliver_ok N b cv d x _ _ _ w P.st (fun W hb => try_3_Start N b cv d x mx W (P.below hb) hx)
theorem door_3_Stop (N b : Nat) (cv : Value) (d : CoreD) (x : CallD) (mx : Int) (w : World) (P : Pre N b cv d x mx w) (hx : x.fMethod = [83, 116, 111, 112]) (hf : coreF d = 5) (PUT : Hid (PutOk N b cv d x)) :
    Calls Tryz.prog 70 #[partV b 3, vCall x] w fun e w' => Does N b cv (doV d x) w e w' := by
  have hw : wantF x.fMethod = 1 := by rw [hx]; rfl
  rw [show doV d x = mthD d x from if_pos (by rw [hf, hw]; rfl)]
  exact deliver_ok N b cv d x _ _ _ w P.st (fun W hb => try_3_Stop N b cv d x mx W (P.below hb) hx)
theorem door_3_Get (N b : Nat) (cv : Value) (d : CoreD) (x : CallD) (mx : Int) (w : World) (P : Pre N b cv d x mx w) (hx : x.fMethod = [71, 101, 116]) (hf : coreF d = 5) (PUT : Hid (PutOk N b cv d x)) :
    Calls Tryz.prog 70 #[partV b 3, vCall x] w fun e w' => Does N b cv (doV d x) w e w' := by
  have hw : wantF x.fMethod = 2 := by rw [hx]; rfl
  rw [show doV d x = (d, ⟨1, 0, [], wantF x.fMethod, coreF d⟩) from if_neg (by rw [hf, hw]; decide)]
  exact deliver_fail N b cv d x _ _ w P.st (fun W hb => try_3_Get N b cv d x mx W (P.below hb) hx) (fun nx np nr pv W h1 h2 => catch_3 b cv d x nx np nr pv W h1 h2)
theorem door_3_Put (N b : Nat) (cv : Value) (d : CoreD) (x : CallD) (mx : Int) (w : World) (P : Pre N b cv d x mx w) (hx : x.fMethod = [80, 117, 116]) (hf : coreF d = 5) (PUT : Hid (PutOk N b cv d x)) :
    Calls Tryz.prog 70 #[partV b 3, vCall x] w fun e w' => Does N b cv (doV d x) w e w' := by
  have hw : wantF x.fMethod = 2 := by rw [hx]; rfl
  rw [show doV d x = (d, ⟨1, 0, [], wantF x.fMethod, coreF d⟩) from if_neg (by rw [hf, hw]; decide)]
  exact deliver_fail N b cv d x _ _ w P.st (fun W hb => try_3_Put N b cv d x mx W (P.below hb) hx) (fun nx np nr pv W h1 h2 => catch_3 b cv d x nx np nr pv W h1 h2)
theorem door_3_Tell (N b : Nat) (cv : Value) (d : CoreD) (x : CallD) (mx : Int) (w : World) (P : Pre N b cv d x mx w) (hx : x.fMethod = [84, 101, 108, 108]) (hf : coreF d = 5) (PUT : Hid (PutOk N b cv d x)) :
    Calls Tryz.prog 70 #[partV b 3, vCall x] w fun e w' => Does N b cv (doV d x) w e w' := by
  have hw : wantF x.fMethod = 4 := by rw [hx]; rfl
  rw [show doV d x = mthD d x from if_pos (by rw [hf, hw]; rfl)]
  exact deliver_ok N b cv d x _ _ _ w P.st (fun W hb => try_3_Tell N b cv d x mx W (P.below hb) hx)
theorem door_3_Hear (N b : Nat) (cv : Value) (d : CoreD) (x : CallD) (mx : Int) (w : World) (P : Pre N b cv d x mx w) (hx : x.fMethod = [72, 101, 97, 114]) (hf : coreF d = 5) (PUT : Hid (PutOk N b cv d x)) :
    Calls Tryz.prog 70 #[partV b 3, vCall x] w fun e w' => Does N b cv (doV d x) w e w' := by
  have hw : wantF x.fMethod = 8 := by rw [hx]; rfl
  rw [show doV d x = (d, ⟨1, 0, [], wantF x.fMethod, coreF d⟩) from if_neg (by rw [hf, hw]; decide)]
  exact deliver_fail N b cv d x _ _ w P.st (fun W hb => try_3_Hear N b cv d x mx W (P.below hb) hx) (fun nx np nr pv W h1 h2 => catch_3 b cv d x nx np nr pv W h1 h2)
theorem door_3_Load (N b : Nat) (cv : Value) (d : CoreD) (x : CallD) (mx : Int) (w : World) (P : Pre N b cv d x mx w) (hx : x.fMethod = [76, 111, 97, 100]) (hf : coreF d = 5) (PUT : Hid (PutOk N b cv d x)) :
    Calls Tryz.prog 70 #[partV b 3, vCall x] w fun e w' => Does N b cv (doV d x) w e w' := by
  have hw : wantF x.fMethod = 16 := by rw [hx]; rfl
  rw [show doV d x = (d, ⟨1, 0, [], wantF x.fMethod, coreF d⟩) from if_neg (by rw [hf, hw]; decide)]
  exact deliver_fail N b cv d x _ _ w P.st (fun W hb => try_3_Load N b cv d x mx W (P.below hb) hx) (fun nx np nr pv W h1 h2 => catch_3 b cv d x nx np nr pv W h1 h2)
theorem door_3_Save (N b : Nat) (cv : Value) (d : CoreD) (x : CallD) (mx : Int) (w : World) (P : Pre N b cv d x mx w) (hx : x.fMethod = [83, 97, 118, 101]) (hf : coreF d = 5) (PUT : Hid (PutOk N b cv d x)) :
    Calls Tryz.prog 70 #[partV b 3, vCall x] w fun e w' => Does N b cv (doV d x) w e w' := by
  have hw : wantF x.fMethod = 16 := by rw [hx]; rfl
  rw [show doV d x = (d, ⟨1, 0, [], wantF x.fMethod, coreF d⟩) from if_neg (by rw [hf, hw]; decide)]
  exact deliver_fail N b cv d x _ _ w P.st (fun W hb => try_3_Save N b cv d x mx W (P.below hb) hx) (fun nx np nr pv W h1 h2 => catch_3 b cv d x nx np nr pv W h1 h2)
theorem door_3_Heal (N b : Nat) (cv : Value) (d : CoreD) (x : CallD) (mx : Int) (w : World) (P : Pre N b cv d x mx w) (hx : x.fMethod = [72, 101, 97, 108]) (hf : coreF d = 5) (PUT : Hid (PutOk N b cv d x)) :
    Calls Tryz.prog 70 #[partV b 3, vCall x] w fun e w' => Does N b cv (doV d x) w e w' := by
  have hw : wantF x.fMethod = 32 := by rw [hx]; rfl
  rw [show doV d x = (d, ⟨1, 0, [], wantF x.fMethod, coreF d⟩) from if_neg (by rw [hf, hw]; decide)]
  exact deliver_fail N b cv d x _ _ w P.st (fun W hb => try_3_Heal N b cv d x mx W (P.below hb) hx) (fun nx np nr pv W h1 h2 => catch_3 b cv d x nx np nr pv W h1 h2)
theorem door_4_Start (N b : Nat) (cv : Value) (d : CoreD) (x : CallD) (mx : Int) (w : World) (P : Pre N b cv d x mx w) (hx : x.fMethod = [83, 116, 97, 114, 116]) (hf : coreF d = 3) (PUT : Hid (PutOk N b cv d x)) :
    Calls Tryz.prog 70 #[partV b 4, vCall x] w fun e w' => Does N b cv (doV d x) w e w' := by
  have hw : wantF x.fMethod = 1 := by rw [hx]; rfl
  rw [show doV d x = mthD d x from if_pos (by rw [hf, hw]; rfl)]
  exact deliver_ok N b cv d x _ _ _ w P.st (fun W hb => try_4_Start N b cv d x mx W (P.below hb) hx)
theorem door_4_Stop (N b : Nat) (cv : Value) (d : CoreD) (x : CallD) (mx : Int) (w : World) (P : Pre N b cv d x mx w) (hx : x.fMethod = [83, 116, 111, 112]) (hf : coreF d = 3) (PUT : Hid (PutOk N b cv d x)) :
    Calls Tryz.prog 70 #[partV b 4, vCall x] w fun e w' => Does N b cv (doV d x) w e w' := by
  have hw : wantF x.fMethod = 1 := by rw [hx]; rfl
  rw [show doV d x = mthD d x from if_pos (by rw [hf, hw]; rfl)]
  exact deliver_ok N b cv d x _ _ _ w P.st (fun W hb => try_4_Stop N b cv d x mx W (P.below hb) hx)
theorem door_4_Get (N b : Nat) (cv : Value) (d : CoreD) (x : CallD) (mx : Int) (w : World) (P : Pre N b cv d x mx w) (hx : x.fMethod = [71, 101, 116]) (hf : coreF d = 3) (PUT : Hid (PutOk N b cv d x)) :
    Calls Tryz.prog 70 #[partV b 4, vCall x] w fun e w' => Does N b cv (doV d x) w e w' := by
  have hw : wantF x.fMethod = 2 := by rw [hx]; rfl
  rw [show doV d x = mthD d x from if_pos (by rw [hf, hw]; rfl)]
  exact deliver_ok N b cv d x _ _ _ w P.st (fun W hb => try_4_Get N b cv d x mx W (P.below hb) hx)
theorem door_4_Put (N b : Nat) (cv : Value) (d : CoreD) (x : CallD) (mx : Int) (w : World) (P : Pre N b cv d x mx w) (hx : x.fMethod = [80, 117, 116]) (hf : coreF d = 3) (PUT : Hid (PutOk N b cv d x)) :
    Calls Tryz.prog 70 #[partV b 4, vCall x] w fun e w' => Does N b cv (doV d x) w e w' := by
  have hw : wantF x.fMethod = 2 := by rw [hx]; rfl
  rw [show doV d x = mthD d x from if_pos (by rw [hf, hw]; rfl)]
  exact deliver_ok N b cv d x _ _ _ w P.st (fun W hb => try_4_Put N b cv d x mx W (P.below hb) hx PUT)
theorem door_4_Tell (N b : Nat) (cv : Value) (d : CoreD) (x : CallD) (mx : Int) (w : World) (P : Pre N b cv d x mx w) (hx : x.fMethod = [84, 101, 108, 108]) (hf : coreF d = 3) (PUT : Hid (PutOk N b cv d x)) :
    Calls Tryz.prog 70 #[partV b 4, vCall x] w fun e w' => Does N b cv (doV d x) w e w' := by
  have hw : wantF x.fMethod = 4 := by rw [hx]; rfl
  rw [show doV d x = (d, ⟨1, 0, [], wantF x.fMethod, coreF d⟩) from if_neg (by rw [hf, hw]; decide)]
  exact deliver_fail N b cv d x _ _ w P.st (fun W hb => try_4_Tell N b cv d x mx W (P.below hb) hx) (fun nx np nr pv W h1 h2 => catch_4 b cv d x nx np nr pv W h1 h2)
theorem door_4_Hear (N b : Nat) (cv : Value) (d : CoreD) (x : CallD) (mx : Int) (w : World) (P : Pre N b cv d x mx w) (hx : x.fMethod = [72, 101, 97, 114]) (hf : coreF d = 3) (PUT : Hid (PutOk N b cv d x)) :
    Calls Tryz.prog 70 #[partV b 4, vCall x] w fun e w' => Does N b cv (doV d x) w e w' := by
  have hw : wantF x.fMethod = 8 := by rw [hx]; rfl
  rw [show doV d x = (d, ⟨1, 0, [], wantF x.fMethod, coreF d⟩) from if_neg (by rw [hf, hw]; decide)]
  exact deliver_fail N b cv d x _ _ w P.st (fun W hb => try_4_Hear N b cv d x mx W (P.below hb) hx) (fun nx np nr pv W h1 h2 => catch_4 b cv d x nx np nr pv W h1 h2)
theorem door_4_Load (N b : Nat) (cv : Value) (d : CoreD) (x : CallD) (mx : Int) (w : World) (P : Pre N b cv d x mx w) (hx : x.fMethod = [76, 111, 97, 100]) (hf : coreF d = 3) (PUT : Hid (PutOk N b cv d x)) :
    Calls Tryz.prog 70 #[partV b 4, vCall x] w fun e w' => Does N b cv (doV d x) w e w' := by
  have hw : wantF x.fMethod = 16 := by rw [hx]; rfl
  rw [show doV d x = (d, ⟨1, 0, [], wantF x.fMethod, coreF d⟩) from if_neg (by rw [hf, hw]; decide)]
  exact deliver_fail N b cv d x _ _ w P.st (fun W hb => try_4_Load N b cv d x mx W (P.below hb) hx) (fun nx np nr pv W h1 h2 => catch_4 b cv d x nx np nr pv W h1 h2)
theorem door_4_Save (N b : Nat) (cv : Value) (d : CoreD) (x : CallD) (mx : Int) (w : World) (P : Pre N b cv d x mx w) (hx : x.fMethod = [83, 97, 118, 101]) (hf : coreF d = 3) (PUT : Hid (PutOk N b cv d x)) :
    Calls Tryz.prog 70 #[partV b 4, vCall x] w fun e w' => Does N b cv (doV d x) w e w' := by
  have hw : wantF x.fMethod = 16 := by rw [hx]; rfl
  rw [show doV d x = (d, ⟨1, 0, [], wantF x.fMethod, coreF d⟩) from if_neg (by rw [hf, hw]; decide)]
  exact deliver_fail N b cv d x _ _ w P.st (fun W hb => try_4_Save N b cv d x mx W (P.below hb) hx) (fun nx np nr pv W h1 h2 => catch_4 b cv d x nx np nr pv W h1 h2)
theorem door_4_Heal (N b : Nat) (cv : Value) (d : CoreD) (x : CallD) (mx : Int) (w : World) (P : Pre N b cv d x mx w) (hx : x.fMethod = [72, 101, 97, 108]) (hf : coreF d = 3) (PUT : Hid (PutOk N b cv d x)) :
    Calls Tryz.prog 70 #[partV b 4, vCall x] w fun e w' => Does N b cv (doV d x) w e w' := by
  have hw : wantF x.fMethod = 32 := by rw [hx]; rfl
  rw [show doV d x = (d, ⟨1, 0, [], wantF x.fMethod, coreF d⟩) from if_neg (by rw [hf, hw]; decide)]
  exact deliver_fail N b cv d x _ _ w P.st (fun W hb => try_4_Heal N b cv d x mx W (P.below hb) hx) (fun nx np nr pv W h1 h2 => catch_4 b cv d x nx np nr pv W h1 h2)
theorem door_5_Start (N b : Nat) (cv : Value) (d : CoreD) (x : CallD) (mx : Int) (w : World) (P : Pre N b cv d x mx w) (hx : x.fMethod = [83, 116, 97, 114, 116]) (hf : coreF d = 9) (PUT : Hid (PutOk N b cv d x)) :
    Calls Tryz.prog 70 #[partV b 5, vCall x] w fun e w' => Does N b cv (doV d x) w e w' := by
  have hw : wantF x.fMethod = 1 := by rw [hx]; rfl
  rw [show doV d x = mthD d x from if_pos (by rw [hf, hw]; rfl)]
  exact deliver_ok N b cv d x _ _ _ w P.st (fun W hb => try_5_Start N b cv d x mx W (P.below hb) hx)
theorem door_5_Stop (N b : Nat) (cv : Value) (d : CoreD) (x : CallD) (mx : Int) (w : World) (P : Pre N b cv d x mx w) (hx : x.fMethod = [83, 116, 111, 112]) (hf : coreF d = 9) (PUT : Hid (PutOk N b cv d x)) :
    Calls Tryz.prog 70 #[partV b 5, vCall x] w fun e w' => Does N b cv (doV d x) w e w' := by
  have hw : wantF x.fMethod = 1 := by rw [hx]; rfl
  rw [show doV d x = mthD d x from if_pos (by rw [hf, hw]; rfl)]
  exact deliver_ok N b cv d x _ _ _ w P.st (fun W hb => try_5_Stop N b cv d x mx W (P.below hb) hx)
theorem door_5_Get (N b : Nat) (cv : Value) (d : CoreD) (x : CallD) (mx : Int) (w : World) (P : Pre N b cv d x mx w) (hx : x.fMethod = [71, 101, 116]) (hf : coreF d = 9) (PUT : Hid (PutOk N b cv d x)) :
    Calls Tryz.prog 70 #[partV b 5, vCall x] w fun e w' => Does N b cv (doV d x) w e w' := by
  have hw : wantF x.fMethod = 2 := by rw [hx]; rfl
  rw [show doV d x = (d, ⟨1, 0, [], wantF x.fMethod, coreF d⟩) from if_neg (by rw [hf, hw]; decide)]
  exact deliver_fail N b cv d x _ _ w P.st (fun W hb => try_5_Get N b cv d x mx W (P.below hb) hx) (fun nx np nr pv W h1 h2 => catch_5 b cv d x nx np nr pv W h1 h2)
theorem door_5_Put (N b : Nat) (cv : Value) (d : CoreD) (x : CallD) (mx : Int) (w : World) (P : Pre N b cv d x mx w) (hx : x.fMethod = [80, 117, 116]) (hf : coreF d = 9) (PUT : Hid (PutOk N b cv d x)) :
    Calls Tryz.prog 70 #[partV b 5, vCall x] w fun e w' => Does N b cv (doV d x) w e w' := by
  have hw : wantF x.fMethod = 2 := by rw [hx]; rfl
  rw [show doV d x = (d, ⟨1, 0, [], wantF x.fMethod, coreF d⟩) from if_neg (by rw [hf, hw]; decide)]
  exact deliver_fail N b cv d x _ _ w P.st (fun W hb => try_5_Put N b cv d x mx W (P.below hb) hx) (fun nx np nr pv W h1 h2 => catch_5 b cv d x nx np nr pv W h1 h2)
theorem door_5_Tell (N b : Nat) (cv : Value) (d : CoreD) (x : CallD) (mx : Int) (w : World) (P : Pre N b cv d x mx w) (hx : x.fMethod = [84, 101, 108, 108]) (hf : coreF d = 9) (PUT : Hid (PutOk N b cv d x)) :
    Calls Tryz.prog 70 #[partV b 5, vCall x] w fun e w' => Does N b cv (doV d x) w e w' := by
  have hw : wantF x.fMethod = 4 := by rw [hx]; rfl
  rw [show doV d x = (d, ⟨1, 0, [], wantF x.fMethod, coreF d⟩) from if_neg (by rw [hf, hw]; decide)]
  exact deliver_fail N b cv d x _ _ w P.st (fun W hb => try_5_Tell N b cv d x mx W (P.below hb) hx) (fun nx np nr pv W h1 h2 => catch_5 b cv d x nx np nr pv W h1 h2)
theorem door_5_Hear (N b : Nat) (cv : Value) (d : CoreD) (x : CallD) (mx : Int) (w : World) (P : Pre N b cv d x mx w) (hx : x.fMethod = [72, 101, 97, 114]) (hf : coreF d = 9) (PUT : Hid (PutOk N b cv d x)) :
    Calls Tryz.prog 70 #[partV b 5, vCall x] w fun e w' => Does N b cv (doV d x) w e w' := by
  have hw : wantF x.fMethod = 8 := by rw [hx]; rfl
  rw [show doV d x = mthD d x from if_pos (by rw [hf, hw]; rfl)]
  exact deliver_ok N b cv d x _ _ _ w P.st (fun W hb => try_5_Hear N b cv d x mx W (P.below hb) hx)
theorem door_5_Load (N b : Nat) (cv : Value) (d : CoreD) (x : CallD) (mx : Int) (w : World) (P : Pre N b cv d x mx w) (hx : x.fMethod = [76, 111, 97, 100]) (hf : coreF d = 9) (PUT : Hid (PutOk N b cv d x)) :
    Calls Tryz.prog 70 #[partV b 5, vCall x] w fun e w' => Does N b cv (doV d x) w e w' := by
  have hw : wantF x.fMethod = 16 := by rw [hx]; rfl
  rw [show doV d x = (d, ⟨1, 0, [], wantF x.fMethod, coreF d⟩) from if_neg (by rw [hf, hw]; decide)]
  exact deliver_fail N b cv d x _ _ w P.st (fun W hb => try_5_Load N b cv d x mx W (P.below hb) hx) (fun nx np nr pv W h1 h2 => catch_5 b cv d x nx np nr pv W h1 h2)
theorem door_5_Save (N b : Nat) (cv : Value) (d : CoreD) (x : CallD) (mx : Int) (w : World) (P : Pre N b cv d x mx w) (hx : x.fMethod = [83, 97, 118, 101]) (hf : coreF d = 9) (PUT : Hid (PutOk N b cv d x)) :
    Calls Tryz.prog 70 #[partV b 5, vCall x] w fun e w' => Does N b cv (doV d x) w e w' := by
  have hw : wantF x.fMethod = 16 := by rw [hx]; rfl
  rw [show doV d x = (d, ⟨1, 0, [], wantF x.fMethod, coreF d⟩) from if_neg (by rw [hf, hw]; decide)]
  exact deliver_fail N b cv d x _ _ w P.st (fun W hb => try_5_Save N b cv d x mx W (P.below hb) hx) (fun nx np nr pv W h1 h2 => catch_5 b cv d x nx np nr pv W h1 h2)
theorem door_5_Heal (N b : Nat) (cv : Value) (d : CoreD) (x : CallD) (mx : Int) (w : World) (P : Pre N b cv d x mx w) (hx : x.fMethod = [72, 101, 97, 108]) (hf : coreF d = 9) (PUT : Hid (PutOk N b cv d x)) :
    Calls Tryz.prog 70 #[partV b 5, vCall x] w fun e w' => Does N b cv (doV d x) w e w' := by
  have hw : wantF x.fMethod = 32 := by rw [hx]; rfl
  rw [show doV d x = (d, ⟨1, 0, [], wantF x.fMethod, coreF d⟩) from if_neg (by rw [hf, hw]; decide)]
  exact deliver_fail N b cv d x _ _ w P.st (fun W hb => try_5_Heal N b cv d x mx W (P.below hb) hx) (fun nx np nr pv W h1 h2 => catch_5 b cv d x nx np nr pv W h1 h2)
theorem door_6_Start (N b : Nat) (cv : Value) (d : CoreD) (x : CallD) (mx : Int) (w : World) (P : Pre N b cv d x mx w) (hx : x.fMethod = [83, 116, 97, 114, 116]) (hf : coreF d = 19) (PUT : Hid (PutOk N b cv d x)) :
    Calls Tryz.prog 70 #[partV b 6, vCall x] w fun e w' => Does N b cv (doV d x) w e w' := by
  have hw : wantF x.fMethod = 1 := by rw [hx]; rfl
  rw [show doV d x = mthD d x from if_pos (by rw [hf, hw]; rfl)]
  exact deliver_ok N b cv d x _ _ _ w P.st (fun W hb => try_6_Start N b cv d x mx W (P.below hb) hx)
theorem door_6_Stop (N b : Nat) (cv : Value) (d : CoreD) (x : CallD) (mx : Int) (w : World) (P : Pre N b cv d x mx w) (hx : x.fMethod = [83, 116, 111, 112]) (hf : coreF d = 19) (PUT : Hid (PutOk N b cv d x)) :
    Calls Tryz.prog 70 #[partV b 6, vCall x] w fun e w' => Does N b cv (doV d x) w e w' := by
  have hw : wantF x.fMethod = 1 := by rw [hx]; rfl
  rw [show doV d x = mthD d x from if_pos (by rw [hf, hw]; rfl)]
  exact deliver_ok N b cv d x _ _ _ w P.st (fun W hb => try_6_Stop N b cv d x mx W (P.below hb) hx)
theorem door_6_Get (N b : Nat) (cv : Value) (d : CoreD) (x : CallD) (mx : Int) (w : World) (P : Pre N b cv d x mx w) (hx : x.fMethod = [71, 101, 116]) (hf : coreF d = 19) (PUT : Hid (PutOk N b cv d x)) :
    Calls Tryz.prog 70 #[partV b 6, vCall x] w fun e w' => Does N b cv (doV d x) w e w' := by
  have hw : wantF x.fMethod = 2 := by rw [hx]; rfl
  rw [show doV d x = mthD d x from if_pos (by rw [hf, hw]; rfl)]
  exact deliver_ok N b cv d x _ _ _ w P.st (fun W hb => try_6_Get N b cv d x mx W (P.below hb) hx)
theorem door_6_Put (N b : Nat) (cv : Value) (d : CoreD) (x : CallD) (mx : Int) (w : World) (P : Pre N b cv d x mx w) (hx : x.fMethod = [80, 117, 116]) (hf : coreF d = 19) (PUT : Hid (PutOk N b cv d x)) :
    Calls Tryz.prog 70 #[partV b 6, vCall x] w fun e w' => Does N b cv (doV d x) w e w' := by
  have hw : wantF x.fMethod = 2 := by rw [hx]; rfl
  rw [show doV d x = mthD d x from if_pos (by rw [hf, hw]; rfl)]
  exact deliver_ok N b cv d x _ _ _ w P.st (fun W hb => try_6_Put N b cv d x mx W (P.below hb) hx PUT)
theorem door_6_Tell (N b : Nat) (cv : Value) (d : CoreD) (x : CallD) (mx : Int) (w : World) (P : Pre N b cv d x mx w) (hx : x.fMethod = [84, 101, 108, 108]) (hf : coreF d = 19) (PUT : Hid (PutOk N b cv d x)) :
    Calls Tryz.prog 70 #[partV b 6, vCall x] w fun e w' => Does N b cv (doV d x) w e w' := by
  have hw : wantF x.fMethod = 4 := by rw [hx]; rfl
  rw [show doV d x = (d, ⟨1, 0, [], wantF x.fMethod, coreF d⟩) from if_neg (by rw [hf, hw]; decide)]
  exact deliver_fail N b cv d x _ _ w P.st (fun W hb => try_6_Tell N b cv d x mx W (P.below hb) hx) (fun nx np nr pv W h1 h2 => catch_6 b cv d x nx np nr pv W h1 h2)
theorem door_6_Hear (N b : Nat) (cv : Value) (d : CoreD) (x : CallD) (mx : Int) (w : World) (P : Pre N b cv d x mx w) (hx : x.fMethod = [72, 101, 97, 114]) (hf : coreF d = 19) (PUT : Hid (PutOk N b cv d x)) :
    Calls Tryz.prog 70 #[partV b 6, vCall x] w fun e w' => Does N b cv (doV d x) w e w' := by
  have hw : wantF x.fMethod = 8 := by rw [hx]; rfl
  rw [show doV d x = (d, ⟨1, 0, [], wantF x.fMethod, coreF d⟩) from if_neg (by rw [hf, hw]; decide)]
  exact deliver_fail N b cv d x _ _ w P.st (fun W hb => try_6_Hear N b cv d x mx W (P.below hb) hx) (fun nx np nr pv W h1 h2 => catch_6 b cv d x nx np nr pv W h1 h2)
theorem door_6_Load (N b : Nat) (cv : Value) (d : CoreD) (x : CallD) (mx : Int) (w : World) (P : Pre N b cv d x mx w) (hx : x.fMethod = [76, 111, 97, 100]) (hf : coreF d = 19) (PUT : Hid (PutOk N b cv d x)) :
    Calls Tryz.prog 70 #[partV b 6, vCall x] w fun e w' => Does N b cv (doV d x) w e w' := by
  have hw : wantF x.fMethod = 16 := by rw [hx]; rfl
  rw [show doV d x = mthD d x from if_pos (by rw [hf, hw]; rfl)]
  exact deliver_ok N b cv d x _ _ _ w P.st (fun W hb => try_6_Load N b cv d x mx W (P.below hb) hx)
theorem door_6_Save (N b : Nat) (cv : Value) (d : CoreD) (x : CallD) (mx : Int) (w : World) (P : Pre N b cv d x mx w) (hx : x.fMethod = [83, 97, 118, 101]) (hf : coreF d = 19) (PUT : Hid (PutOk N b cv d x)) :
    Calls Tryz.prog 70 #[partV b 6, vCall x] w fun e w' => Does N b cv (doV d x) w e w' := by
  have hw : wantF x.fMethod = 16 := by rw [hx]; rfl
  rw [show doV d x = mthD d x from if_pos (by rw [hf, hw]; rfl)]
  exact deliver_ok N b cv d x _ _ _ w P.st (fun W hb => try_6_Save N b cv d x mx W (P.below hb) hx)
theorem door_6_Heal (N b : Nat) (cv : Value) (d : CoreD) (x : CallD) (mx : Int) (w : World) (P : Pre N b cv d x mx w) (hx : x.fMethod = [72, 101, 97, 108]) (hf : coreF d = 19) (PUT : Hid (PutOk N b cv d x)) :
    Calls Tryz.prog 70 #[partV b 6, vCall x] w fun e w' => Does N b cv (doV d x) w e w' := by
  have hw : wantF x.fMethod = 32 := by rw [hx]; rfl
  rw [show doV d x = (d, ⟨1, 0, [], wantF x.fMethod, coreF d⟩) from if_neg (by rw [hf, hw]; decide)]
  exact deliver_fail N b cv d x _ _ w P.st (fun W hb => try_6_Heal N b cv d x mx W (P.below hb) hx) (fun nx np nr pv W h1 h2 => catch_6 b cv d x nx np nr pv W h1 h2)
theorem door_7_Start (N b : Nat) (cv : Value) (d : CoreD) (x : CallD) (mx : Int) (w : World) (P : Pre N b cv d x mx w) (hx : x.fMethod = [83, 116, 97, 114, 116]) (hf : coreF d = 63) (PUT : Hid (PutOk N b cv d x)) :
    Calls Tryz.prog 70 #[partV b 7, vCall x] w fun e w' => Does N b cv (doV d x) w e w' := by
  have hw : wantF x.fMethod = 1 := by rw [hx]; rfl
  rw [show doV d x = mthD d x from if_pos (by rw [hf, hw]; rfl)]
  exact deliver_ok N b cv d x _ _ _ w P.st (fun W hb => try_7_Start N b cv d x mx W (P.below hb) hx)
theorem door_7_Stop (N b : Nat) (cv : Value) (d : CoreD) (x : CallD) (mx : Int) (w : World) (P : Pre N b cv d x mx w) (hx : x.fMethod = [83, 116, 111, 112]) (hf : coreF d = 63) (PUT : Hid (PutOk N b cv d x)) :
    Calls Tryz.prog 70 #[partV b 7, vCall x] w fun e w' => Does N b cv (doV d x) w e w' := by
  have hw : wantF x.fMethod = 1 := by rw [hx]; rfl
  rw [show doV d x = mthD d x from if_pos (by rw [hf, hw]; rfl)]
  exact deliver_ok N b cv d x _ _ _ w P.st (fun W hb => try_7_Stop N b cv d x mx W (P.below hb) hx)
theorem door_7_Get (N b : Nat) (cv : Value) (d : CoreD) (x : CallD) (mx : Int) (w : World) (P : Pre N b cv d x mx w) (hx : x.fMethod = [71, 101, 116]) (hf : coreF d = 63) (PUT : Hid (PutOk N b cv d x)) :
    Calls Tryz.prog 70 #[partV b 7, vCall x] w fun e w' => Does N b cv (doV d x) w e w' := by
  have hw : wantF x.fMethod = 2 := by rw [hx]; rfl
  rw [show doV d x = mthD d x from if_pos (by rw [hf, hw]; rfl)]
  exact deliver_ok N b cv d x _ _ _ w P.st (fun W hb => try_7_Get N b cv d x mx W (P.below hb) hx)
theorem door_7_Put (N b : Nat) (cv : Value) (d : CoreD) (x : CallD) (mx : Int) (w : World) (P : Pre N b cv d x mx w) (hx : x.fMethod = [80, 117, 116]) (hf : coreF d = 63) (PUT : Hid (PutOk N b cv d x)) :
    Calls Tryz.prog 70 #[partV b 7, vCall x] w fun e w' => Does N b cv (doV d x) w e w' := by
  have hw : wantF x.fMethod = 2 := by rw [hx]; rfl
  rw [show doV d x = mthD d x from if_pos (by rw [hf, hw]; rfl)]
  exact deliver_ok N b cv d x _ _ _ w P.st (fun W hb => try_7_Put N b cv d x mx W (P.below hb) hx PUT)
theorem door_7_Tell (N b : Nat) (cv : Value) (d : CoreD) (x : CallD) (mx : Int) (w : World) (P : Pre N b cv d x mx w) (hx : x.fMethod = [84, 101, 108, 108]) (hf : coreF d = 63) (PUT : Hid (PutOk N b cv d x)) :
    Calls Tryz.prog 70 #[partV b 7, vCall x] w fun e w' => Does N b cv (doV d x) w e w' := by
  have hw : wantF x.fMethod = 4 := by rw [hx]; rfl
  rw [show doV d x = mthD d x from if_pos (by rw [hf, hw]; rfl)]
  exact deliver_ok N b cv d x _ _ _ w P.st (fun W hb => try_7_Tell N b cv d x mx W (P.below hb) hx)
theorem door_7_Hear (N b : Nat) (cv : Value) (d : CoreD) (x : CallD) (mx : Int) (w : World) (P : Pre N b cv d x mx w) (hx : x.fMethod = [72, 101, 97, 114]) (hf : coreF d = 63) (PUT : Hid (PutOk N b cv d x)) :
    Calls Tryz.prog 70 #[partV b 7, vCall x] w fun e w' => Does N b cv (doV d x) w e w' := by
  have hw : wantF x.fMethod = 8 := by rw [hx]; rfl
  rw [show doV d x = mthD d x from if_pos (by rw [hf, hw]; rfl)]
  exact deliver_ok N b cv d x _ _ _ w P.st (fun W hb => try_7_Hear N b cv d x mx W (P.below hb) hx)
theorem door_7_Load (N b : Nat) (cv : Value) (d : CoreD) (x : CallD) (mx : Int) (w : World) (P : Pre N b cv d x mx w) (hx : x.fMethod = [76, 111, 97, 100]) (hf : coreF d = 63) (PUT : Hid (PutOk N b cv d x)) :
    Calls Tryz.prog 70 #[partV b 7, vCall x] w fun e w' => Does N b cv (doV d x) w e w' := by
  have hw : wantF x.fMethod = 16 := by rw [hx]; rfl
  rw [show doV d x = mthD d x from if_pos (by rw [hf, hw]; rfl)]
  exact deliver_ok N b cv d x _ _ _ w P.st (fun W hb => try_7_Load N b cv d x mx W (P.below hb) hx)
theorem door_7_Save (N b : Nat) (cv : Value) (d : CoreD) (x : CallD) (mx : Int) (w : World) (P : Pre N b cv d x mx w) (hx : x.fMethod = [83, 97, 118, 101]) (hf : coreF d = 63) (PUT : Hid (PutOk N b cv d x)) :
    Calls Tryz.prog 70 #[partV b 7, vCall x] w fun e w' => Does N b cv (doV d x) w e w' := by
  have hw : wantF x.fMethod = 16 := by rw [hx]; rfl
  rw [show doV d x = mthD d x from if_pos (by rw [hf, hw]; rfl)]
  exact deliver_ok N b cv d x _ _ _ w P.st (fun W hb => try_7_Save N b cv d x mx W (P.below hb) hx)
theorem door_7_Heal (N b : Nat) (cv : Value) (d : CoreD) (x : CallD) (mx : Int) (w : World) (P : Pre N b cv d x mx w) (hx : x.fMethod = [72, 101, 97, 108]) (hf : coreF d = 63) (PUT : Hid (PutOk N b cv d x)) :
    Calls Tryz.prog 70 #[partV b 7, vCall x] w fun e w' => Does N b cv (doV d x) w e w' := by
  have hw : wantF x.fMethod = 32 := by rw [hx]; rfl
  rw [show doV d x = mthD d x from if_pos (by rw [hf, hw]; rfl)]
  exact deliver_ok N b cv d x _ _ _ w P.st (fun W hb => try_7_Heal N b cv d x mx W (P.below hb) hx)
theorem coreB_kind {d : CoreD} (h : coreB d = true) : ∃ j, j < 8 ∧ d.fKind = kindN j ∧ coreF d = kfN j := by
  simp only [coreB, Bool.and_eq_true, decide_eq_true_iff] at h
  have h0 := h.1.1.1.1.1
  rcases kindI_bd d.fKind with h1 | ⟨j, h1, h2, h3⟩
  · omega
  · refine ⟨j, h2, h3.symm, ?_⟩
    unfold coreF kfI
    rw [h1, if_neg (by omega)]; simp
theorem door_c (N b : Nat) (cv : Value) (d : CoreD) (x : CallD) (mx : Int) (w : World) (j : Nat) (P : Pre N b cv d x mx w) (hj : j < 8) (hf : coreF d = kfN j) (hc : callB x = true) (PUT : Hid (PutOk N b cv d x)) :
    Calls Tryz.prog 70 #[partV b j, vCall x] w fun e w' => Does N b cv (doV d x) w e w' := by
  simp only [callB, Bool.and_eq_true, bne_iff_ne, ne_eq] at hc
  have hw := hc.1.1.1
  rcases meth_cases x.fMethod with hm | hm | hm | hm | hm | hm | hm | hm | hm | hm
  case inr.inr.inr.inr.inr.inr.inr.inr.inr => exact absurd hm.1 hw
  all_goals rcases (show j = 0 ∨ j = 1 ∨ j = 2 ∨ j = 3 ∨ j = 4 ∨ j = 5 ∨ j = 6 ∨ j = 7 by omega) with rfl | rfl | rfl | rfl | rfl | rfl | rfl | rfl
  · exact door_0_Start N b cv d x mx w P hm hf PUT
  · exact door_1_Start N b cv d x mx w P hm hf PUT
  · exact door_2_Start N b cv d x mx w P hm hf PUT
  · exact door_3_Start N b cv d x mx w P hm hf PUT
  · exact door_4_Start N b cv d x mx w P hm hf PUT
  · exact door_5_Start N b cv d x mx w P hm hf PUT
  · exact door_6_Start N b cv d x mx w P hm hf PUT
  · exact door_7_Start N b cv d x mx w P hm hf PUT
  · exact door_0_Stop N b cv d x mx w P hm hf PUT
  · exact door_1_Stop N b cv d x mx w P hm hf PUT
  · exact door_2_Stop N b cv d x mx w P hm hf PUT
  · exact door_3_Stop N b cv d x mx w P hm hf PUT
  · exact door_4_Stop N b cv d x mx w P hm hf PUT
  · exact door_5_Stop N b cv d x mx w P hm hf PUT
  · exact door_6_Stop N b cv d x mx w P hm hf PUT
  · exact door_7_Stop N b cv d x mx w P hm hf PUT
  · exact door_0_Get N b cv d x mx w P hm hf PUT
  · exact door_1_Get N b cv d x mx w P hm hf PUT
  · exact door_2_Get N b cv d x mx w P hm hf PUT
  · exact door_3_Get N b cv d x mx w P hm hf PUT
  · exact door_4_Get N b cv d x mx w P hm hf PUT
  · exact door_5_Get N b cv d x mx w P hm hf PUT
  · exact door_6_Get N b cv d x mx w P hm hf PUT
  · exact door_7_Get N b cv d x mx w P hm hf PUT
  · exact door_0_Put N b cv d x mx w P hm hf PUT
  · exact door_1_Put N b cv d x mx w P hm hf PUT
  · exact door_2_Put N b cv d x mx w P hm hf PUT
  · exact door_3_Put N b cv d x mx w P hm hf PUT
  · exact door_4_Put N b cv d x mx w P hm hf PUT
  · exact door_5_Put N b cv d x mx w P hm hf PUT
  · exact door_6_Put N b cv d x mx w P hm hf PUT
  · exact door_7_Put N b cv d x mx w P hm hf PUT
  · exact door_0_Tell N b cv d x mx w P hm hf PUT
  · exact door_1_Tell N b cv d x mx w P hm hf PUT
  · exact door_2_Tell N b cv d x mx w P hm hf PUT
  · exact door_3_Tell N b cv d x mx w P hm hf PUT
  · exact door_4_Tell N b cv d x mx w P hm hf PUT
  · exact door_5_Tell N b cv d x mx w P hm hf PUT
  · exact door_6_Tell N b cv d x mx w P hm hf PUT
  · exact door_7_Tell N b cv d x mx w P hm hf PUT
  · exact door_0_Hear N b cv d x mx w P hm hf PUT
  · exact door_1_Hear N b cv d x mx w P hm hf PUT
  · exact door_2_Hear N b cv d x mx w P hm hf PUT
  · exact door_3_Hear N b cv d x mx w P hm hf PUT
  · exact door_4_Hear N b cv d x mx w P hm hf PUT
  · exact door_5_Hear N b cv d x mx w P hm hf PUT
  · exact door_6_Hear N b cv d x mx w P hm hf PUT
  · exact door_7_Hear N b cv d x mx w P hm hf PUT
  · exact door_0_Load N b cv d x mx w P hm hf PUT
  · exact door_1_Load N b cv d x mx w P hm hf PUT
  · exact door_2_Load N b cv d x mx w P hm hf PUT
  · exact door_3_Load N b cv d x mx w P hm hf PUT
  · exact door_4_Load N b cv d x mx w P hm hf PUT
  · exact door_5_Load N b cv d x mx w P hm hf PUT
  · exact door_6_Load N b cv d x mx w P hm hf PUT
  · exact door_7_Load N b cv d x mx w P hm hf PUT
  · exact door_0_Save N b cv d x mx w P hm hf PUT
  · exact door_1_Save N b cv d x mx w P hm hf PUT
  · exact door_2_Save N b cv d x mx w P hm hf PUT
  · exact door_3_Save N b cv d x mx w P hm hf PUT
  · exact door_4_Save N b cv d x mx w P hm hf PUT
  · exact door_5_Save N b cv d x mx w P hm hf PUT
  · exact door_6_Save N b cv d x mx w P hm hf PUT
  · exact door_7_Save N b cv d x mx w P hm hf PUT
  · exact door_0_Heal N b cv d x mx w P hm hf PUT
  · exact door_1_Heal N b cv d x mx w P hm hf PUT
  · exact door_2_Heal N b cv d x mx w P hm hf PUT
  · exact door_3_Heal N b cv d x mx w P hm hf PUT
  · exact door_4_Heal N b cv d x mx w P hm hf PUT
  · exact door_5_Heal N b cv d x mx w P hm hf PUT
  · exact door_6_Heal N b cv d x mx w P hm hf PUT
  · exact door_7_Heal N b cv d x mx w P hm hf PUT
end Go.Proofs.YtghebbndfpbkcaaGreat
/- copyCore: new cells, new texts. -/
namespace Go.Proofs.YtghebbndfpbkcaaGreat
set_option linter.unusedVariables false
set_option linter.unusedSimpArgs false
open Go.RowKit
/-- append of one cell to a row of one's own, at a step of a region that draws -/
theorem step_cells {ops : Array Oper} {o : Oper} {a : Act} {K : Act → World → Prop} {Q : Exit → Act → World → Prop} {E : Prop} (hgd : o.guard = none) (s x : Operand)
    (ho : o.op = .call { callee := .builtin .append, args := #[s, x], argTypes := #[24, 24] }) (B : Nat) (v : Value) (l : List CellD) (y : CellD) (w : World) (blk : Nat)
    (hs : a.eval s = v) (hO : OwnsF cCell 36 2 w B v l) (hx : a.eval x = .slice (some ⟨blk, 0, none⟩) 1 1) (hc : ∀ j, j < 2 → w.cell? ⟨blk, j, none⟩ = (cCell y)[j]?) (hl : l.length ≤ 4194304) (hB : B ≤ w.heap.size)
    (h : ∀ v' w', OwnsF cCell 36 2 w' B v' (l ++ [y]) → w.grownBy w' v.ownBlock → K (a.put o.dst v') w') : if Region.wanted o (yielded ops a.tmps) = true then Oper.wp Tryz.prog o a w K Q else E := by
  obtain ⟨i0, hi, hz0, hz1, hz2⟩ := info_parts cell_info
  refine step_append_lies w hgd s x 24 ho B 36 i0 _ 2 24 Tryz.underlying24 hi hz0 hz1 hz2 rfl (by decide) v l.length (l.flatMap cCell) hs hO ⟨blk, 0, none⟩ 1 1 (cCell y) hx rfl ?_ (cCell_one y) (by decide) (by unfold maxLen; omega) (by omega) hB _ rfl ?_
  · intro j u hj
    have hj2 : j < 2 := (List.getElem?_eq_some_iff.1 hj).1
    rw [Addr.add_lit, Nat.zero_add, hc j hj2]; exact hj
  · intro g cap w' h1 h2 _ _
    refine h _ w' ?_ h2
    unfold OwnsF; rw [List.flatMap_append, List.length_append]; simpa using h1
theorem ownsF_drew {α : Type} {f : α → List Value} {E k : Nat} {w : World} {B : Nat} {v : Value} {l : List α} (h : OwnsF f E k w B v l) : OwnsF f E k w.drew B v l := h
set_option maxRecDepth 100000 in
set_option maxHeartbeats 3200000 in
theorem copyCore_c (v : Value) (d : CoreD) (w : World) (hx : CoreAt w v d) (hm : d.fCells.length ≤ 2097152) (hs : ∀ c ∈ d.fCells, c.fKey.length ≤ 1048576) (hk : d.fKind.length ≤ 1048576) :
    Calls Tryz.prog 36 #[v] w fun e w' => GivesCore d w e w' := by
  obtain ⟨cv, rfl, hx⟩ := hx
  obtain ⟨i0, hi, hz0, hz1, hz2⟩ := info_parts cell_info
  obtain ⟨kd, on, br, l, cnt⟩ := d
  unfold vCore
  simp only at *
  obtain ⟨a, c, rfl, hl⟩ := flatAt_len hx
  have HX := Lib.hid hx
  have HS := Lib.hid hs
  clear hx hs
  unfold maxLen at hl
  have HB0 := Lib.hid (show ∀ o1 o2, Below w.heap.size w ((w.alloc o1).alloc o2) from fun o1 o2 => ((Below.refl _ _).alloc (Nat.le_refl _) _).alloc (by simp) _)
  have HKD := Lib.hid (fun W => copyText_any ⟨kd.toArray⟩ W (by rw [← size_list]; simp; omega))
  have hb2 : i0.bytes * l.length ≤ 281474976710656 := by rw [hz2]; omega
  have HB2 := Lib.hid hb2
  have HM := Lib.hid (show l.length ≤ maxLen from by unfold maxLen; omega)
  clear hb2
  go_enter Tryz.func36, Tryz.ntmps36
  go_wp2_with (refine wpList_make_own _ rfl _ _ 24 rfl (w.heap.size + 1 + 1) 36 i0 _ 2 Tryz.underlying24 hi hz0 hz1 .i64 .i64 _ l.length rfl rfl rfl HB2.out HM.out (by simp) ?_; intro w1 hown1 hgrow1; have q0 : w1.cell? ⟨w.heap.size, 0, none⟩ = some (.string ⟨kd.toArray⟩) := hgrow1.cell (a := ⟨w.heap.size, 0, none⟩) (by simp [go_sem]) (by simp); have q1 : w1.cell? ⟨w.heap.size, 1, none⟩ = some (.bool on) := hgrow1.cell (a := ⟨w.heap.size, 1, none⟩) (by simp [go_sem]) (by simp); have q2 : w1.cell? ⟨w.heap.size, 2, none⟩ = some (.bool br) := hgrow1.cell (a := ⟨w.heap.size, 2, none⟩) (by simp [go_sem]) (by simp); have q3 : w1.cell? ⟨w.heap.size, 3, none⟩ = some (.slice a l.length c) := hgrow1.cell (a := ⟨w.heap.size, 3, none⟩) (by simp [go_sem]) (by simp); have q4 : w1.cell? ⟨w.heap.size, 4, none⟩ = some (.int .i64 cnt) := hgrow1.cell (a := ⟨w.heap.size, 4, none⟩) (by simp [go_sem]) (by simp); have r0 : w1.cell? ⟨w.heap.size + 1, 0, none⟩ = some (.string ⟨#[]⟩) := hgrow1.cell (a := ⟨w.heap.size + 1, 0, none⟩) (by simp [go_sem]) (by simp); have r1 : w1.cell? ⟨w.heap.size + 1, 1, none⟩ = some (.bool false) := hgrow1.cell (a := ⟨w.heap.size + 1, 1, none⟩) (by simp [go_sem]) (by simp); have r2 : w1.cell? ⟨w.heap.size + 1, 2, none⟩ = some (.bool false) := hgrow1.cell (a := ⟨w.heap.size + 1, 2, none⟩) (by simp [go_sem]) (by simp); have r3 : w1.cell? ⟨w.heap.size + 1, 3, none⟩ = some (.slice none 0 0) := hgrow1.cell (a := ⟨w.heap.size + 1, 3, none⟩) (by simp [go_sem]) (by simp); have r4 : w1.cell? ⟨w.heap.size + 1, 4, none⟩ = some (.int .i64 0) := hgrow1.cell (a := ⟨w.heap.size + 1, 4, none⟩) (by simp [go_sem]) (by simp))
  have HO0 := Lib.hid (show OwnsF cCell 36 2 w1 (w.heap.size + 1 + 1) (.slice (some ⟨w.heap.size + 1 + 1, 0, none⟩) 0 l.length) (l.take 0) from by simpa [OwnsF] using hown1)
  have HW1 := Lib.hid (show Below w.heap.size w w1 from (HB0.out _ _).trans ⟨hgrow1.os, hgrow1.tape, hgrow1.output, hgrow1.size, fun i hi => hgrow1.block i (by simp; omega) (by simp)⟩)
  have HS1 := Lib.hid (show w.heap.size + 1 + 1 ≤ w1.heap.size from by simpa using hgrow1.size)
  have HQ := Lib.hid (And.intro q0 (And.intro q1 (And.intro q2 (And.intro q3 q4))))
  have HR := Lib.hid (And.intro r0 (And.intro r1 (And.intro r2 (And.intro r3 r4))))
  have HZ := Lib.hid (show ∀ i o, i < w.heap.size + 1 + 1 → w.heap.size ≤ i → w1.frozen? ⟨i, o, none⟩ = false from fun i o h1 h2 => by
    rw [World.frozen?_of_block (a := ⟨i, o, none⟩) (hgrow1.block i (by simpa using h1) (by simp))]
    rcases (show i = w.heap.size ∨ i = w.heap.size + 1 by omega) with rfl | rfl <;> simp [go_sem])
  clear hown1 hgrow1 hz0 hz1 hz2 HB2 hi r0 r1 r2 r3 r4
  go_loopw [3, 5, 13] (fun u _ i wr => ∃ k : Nat, k ≤ l.length ∧ i = .int .i64 k ∧ OwnsF cCell 36 2 wr (w.heap.size + 1 + 1) u (l.take k) ∧ Below (w.heap.size + 1 + 1) w1 wr) (fun _ _ i _ => l.length - (intOf i).toNat)
  case atStart => exact ⟨0, Nat.zero_le _, rfl, HO0.out, Below.refl _ _⟩
  case round =>
    obtain ⟨k, hk2, rfl, hO, hb⟩ := hrel
    have HO := Lib.hid hO
    have HB := Lib.hid hb
    have HBw := Lib.hid (show Below w.heap.size w wr from HW1.out.trans (hb.mono (by omega)))
    have HXr := Lib.hid (FlatAt.below HX.out HBw.out (Nat.le_refl _))
    have HLT := Lib.hid (show ∀ g, u3.ownBlock = some g → g < wr.heap.size from fun g h => (World.ownsRow.lt hO g h).2)
    have HSZ := Lib.hid (Nat.le_trans HS1.out hb.size)
    clear hO hb
    by_cases hlt : k < l.length
    · obtain ⟨b, o, rfl, hbl, hd⟩ := flatAt_cell cCell_len HXr.out k hlt (by decide)
      have d0 := hd 0 (by decide)
      have d1 := hd 1 (by decide)
      clear hd
      have HSN := Lib.hid (show l.take (k + 1) = l.take k ++ [l[k]] from by rw [List.take_succ_eq_append_getElem hlt])
      have hks := HS.out l[k] (List.getElem_mem hlt)
      generalize l[k] = p at *
      obtain ⟨a0, a1⟩ := p
      simp only [cCell, List.getElem?_cons_zero, List.getElem?_cons_succ, Nat.add_zero] at d0 d1 hks
      have HCT := Lib.hid (fun W => copyText_any ⟨a0.toArray⟩ W (by rw [← size_list]; simp; omega))
      clear hks
      go_wp2_with fail
      go_region_held3 (fun w' => w'.cell? ⟨wr.heap.size, 0, none⟩ = some (.string ⟨a0.toArray⟩) ∧ w'.cell? ⟨wr.heap.size, 1, none⟩ = some (.int .i64 a1))
        (first
          | go_keep
          | (rw [hb1.cell (p := ⟨wr.heap.size, 0, none⟩) (by simp), hb1.cell (p := ⟨wr.heap.size, 1, none⟩) (by simp)]; assumption)
          | (rw [hg1.cell_far ⟨wr.heap.size, 0, none⟩ (by have := hb1.size; simp at *; omega) (by intro e; have := HLT.out _ e.symm; simp at this), hg1.cell_far ⟨wr.heap.size, 1, none⟩ (by have := hb1.size; simp at *; omega) (by intro e; have := HLT.out _ e.symm; simp at this)]; assumption))
        (first
          | (go_at_call 68; (with_reducible refine (HCT.out _).mono ?_); rintro e w2 ⟨rfl, hb1⟩)
          | (refine step_cells rfl _ _ rfl (w.heap.size + 1 + 1) u3 (l.take k) ⟨a0, a1⟩ _ w2.heap.size rfl (ownsF_alloc (ownsF_below (ownsF_drew (ownsF_alloc HO.out _)) hb1 (Nat.le_refl _)) _) rfl (cell_newC w2 ⟨a0, a1⟩ _ rfl) ?_ ?_ ?_; (simp; omega); (have h1 := hb1.size; have h2 := HSZ.out; simp at h1; simp; omega); intro v' w4 hO4 hg1))
      have HA := Lib.hid (((Below.refl wr.heap.size wr).alloc (Nat.le_refl _) (.cells #[.string ⟨a0.toArray⟩, .int .i64 a1] 36)).drew)
      have HA1 := Lib.hid ((HA.out.trans (hb1.mono HA.out.size)).alloc (HA.out.trans (hb1.mono HA.out.size)).size (.cells #[.string ⟨a0.toArray⟩, .int .i64 a1] 36))
      have HA2 := Lib.hid (HB.out.trans (HA1.out.mono (HSZ.out)))
      have HA3 := Lib.hid (below_appendF HA2.out (ownsF_alloc (ownsF_below (ownsF_drew (ownsF_alloc HO.out _)) hb1 (Nat.le_refl _)) _) hg1 (Nat.le_trans HS1.out HA2.out.size))
      have HO4 := Lib.hid hO4
      rename_i hheld
      clear hb1 hg1 hO4 hheld
      go_wp2_with fail
      exact ⟨⟨k + 1, by omega, by go_num, by rw [HSN.out]; exact HO4.out, HA3.out⟩, by simp [intOf]; omega⟩
    · have HOl := Lib.hid (show OwnsF cCell 36 2 wr (w.heap.size + 1 + 1) u3 l from by have h := HO.out; rw [List.take_of_length_le (by omega)] at h; exact h)
      obtain ⟨ua, uc, rfl⟩ : ∃ ua uc, u3 = .slice ua l.length uc := by
        rcases HOl.out.2 with ⟨rfl, hn⟩ | ⟨g, cap, cur, rfl, _⟩
        · exact ⟨none, 0, by rw [hn]⟩
        · exact ⟨_, _, rfl⟩
      obtain ⟨q0, q1, q2, q3, q4⟩ := HQ.out
      obtain ⟨r0, r1, r2, r3, r4⟩ := HR.out
      replace q0 := (HB.out.cell (p := ⟨w.heap.size, 0, none⟩) (by simp; omega)).trans q0
      replace q1 := (HB.out.cell (p := ⟨w.heap.size, 1, none⟩) (by simp; omega)).trans q1
      replace q2 := (HB.out.cell (p := ⟨w.heap.size, 2, none⟩) (by simp; omega)).trans q2
      replace q3 := (HB.out.cell (p := ⟨w.heap.size, 3, none⟩) (by simp; omega)).trans q3
      replace q4 := (HB.out.cell (p := ⟨w.heap.size, 4, none⟩) (by simp; omega)).trans q4
      replace r0 := (HB.out.cell (p := ⟨w.heap.size + 1, 0, none⟩) (by simp)).trans r0
      replace r1 := (HB.out.cell (p := ⟨w.heap.size + 1, 1, none⟩) (by simp)).trans r1
      replace r2 := (HB.out.cell (p := ⟨w.heap.size + 1, 2, none⟩) (by simp)).trans r2
      replace r3 := (HB.out.cell (p := ⟨w.heap.size + 1, 3, none⟩) (by simp)).trans r3
      replace r4 := (HB.out.cell (p := ⟨w.heap.size + 1, 4, none⟩) (by simp)).trans r4
      have z0 : ∀ o, wr.frozen? ⟨w.heap.size, o, none⟩ = false := fun o => (HB.out.frozen (p := ⟨w.heap.size, o, none⟩) (by simp; omega)).trans (HZ.out _ o (by omega) (by omega))
      have z1 : ∀ o, wr.frozen? ⟨w.heap.size + 1, o, none⟩ = false := fun o => (HB.out.frozen (p := ⟨w.heap.size + 1, o, none⟩) (by simp)).trans (HZ.out _ o (by omega) (by omega))
      have hsz := HSZ.out
      have hl0 : w.heap.size < wr.heap.size := by omega
      have hl1 : w.heap.size + 1 < wr.heap.size := by omega
      go_wp2_with fail
      refine (HKD.out _).mono ?_
      rintro e w5 ⟨rfl, hb5⟩
      have HB5 := Lib.hid hb5
      obtain ⟨hcc, hff⟩ := bcell hb5
      clear hb5
      go_wp2_with fail
      refine bodyPost_ret (v := .agg #[.string ⟨kd.toArray⟩, .bool on, .bool br, .slice ua l.length uc, .int .i64 cnt]) (by simp [results, Tryz.results36, go_sem, cell_set_at, cell_set_ne, hcc, q0, q1, q2, q3, q4, r0, r1, r2, r3, r4, hl0, hl1]) rfl ?_
      refine ⟨_, rfl, ⟨_, rfl, ?_⟩, ?_⟩
      · refine ownsF_base (B := w.heap.size + 1 + 1) ?_ (by omega)
        repeat (with_reducible refine ownsF_set ?_ (by simp; try omega))
        exact ownsF_below HOl.out HB5.out (Nat.le_refl _)
      · repeat (with_reducible refine Below.setCell ?_ (by simp; try omega) _)
        exact HBw.out.trans (HB5.out.mono (by omega))
end Go.Proofs.YtghebbndfpbkcaaGreat
namespace Go.Proofs.YtghebbndfpbkcaaGreat
set_option linter.unusedVariables false
open Go.RowKit
set_option maxRecDepth 100000 in
set_option maxHeartbeats 3200000 in
theorem implIsCall_Start (key : List UInt8) (v : Int) (text : List UInt8) (w : World) (hk : key.length ≤ maxLen) :
    Calls Tryz.prog 69 #[.agg #[.string ⟨#[83, 116, 97, 114, 116]⟩, .string ⟨key.toArray⟩, .int .i64 v, .string ⟨text.toArray⟩]] w fun e w' => e = .returned (.bool (callB ⟨mStart, key, v, text⟩)) ∧ Below w.heap.size w w' := by
  have HR := Lib.hid (show callB ⟨mStart, key, v, text⟩ = (key.isEmpty && (v == 0) && (text.isEmpty || false)) from rfl)
  have HW := Lib.hid (show ∀ w0, Calls Tryz.prog 96 #[.string ⟨#[83, 116, 97, 114, 116]⟩] w0 fun e w' => e = .returned (.int .i64 1) ∧ Below w0.heap.size w0 w' from fun w0 => implWant_b mStart 1 rfl w0)
  have HTK := Lib.hid (show ∀ w0, Calls Tryz.prog 97 #[.string ⟨#[83, 116, 97, 114, 116]⟩] w0 fun e w' => e = .returned (.bool false) ∧ w0 = w' from takesKey_b mStart _ rfl)
  have HTV := Lib.hid (show ∀ w0, Calls Tryz.prog 98 #[.string ⟨#[83, 116, 97, 114, 116]⟩] w0 fun e w' => e = .returned (.bool false) ∧ w0 = w' from takesValue_b mStart _ rfl)
  have HTT := Lib.hid (show ∀ w0, Calls Tryz.prog 99 #[.string ⟨#[83, 116, 97, 114, 116]⟩] w0 fun e w' => e = .returned (.bool false) ∧ w0 = w' from takesText_b mStart _ rfl)
  generalize callB ⟨mStart, key, v, text⟩ = res at *
  clear hk
  have HB0 := Lib.hid (show ∀ o, Below w.heap.size w (w.alloc o) from fun o => (Below.refl w.heap.size w).alloc (Nat.le_refl _) o)
  go_enter Tryz.func69, Tryz.ntmps69
  go_wp2_with fail
  refine (HW.out _).mono ?_
  rintro e w1 ⟨rfl, hb⟩
  have HB := Lib.hid ((HB0.out _).trans (hb.mono (HB0.out _).size))
  obtain ⟨hcc, _⟩ := bcell hb
  simp at hcc
  have c0 := hcc w.heap.size 0 (by omega)
  have c1 := hcc w.heap.size 1 (by omega)
  have c2 := hcc w.heap.size 2 (by omega)
  have c3 := hcc w.heap.size 3 (by omega)
  simp at c0 c1 c2 c3
  clear hb hcc
  cases key <;> cases text
  all_goals
    by_cases h0 : v = 0
    · subst h0
      go_wp2_with (first | (go_at_call 97; (with_reducible refine (HTK.out _).mono ?_); rintro e w' ⟨rfl, rfl⟩) | (go_at_call 98; (with_reducible refine (HTV.out _).mono ?_); rintro e w' ⟨rfl, rfl⟩) | (go_at_call 99; (with_reducible refine (HTT.out _).mono ?_); rintro e w' ⟨rfl, rfl⟩))
      go_ret
      exact ⟨ret_bool (by rw [HR.out]; rfl), HB.out⟩
    · have hv0 : (v == 0) = false := by simpa using h0
      rw [hv0] at HR
      clear h0
      go_wp2_with (first | (go_at_call 97; (with_reducible refine (HTK.out _).mono ?_); rintro e w' ⟨rfl, rfl⟩) | (go_at_call 98; (with_reducible refine (HTV.out _).mono ?_); rintro e w' ⟨rfl, rfl⟩) | (go_at_call 99; (with_reducible refine (HTT.out _).mono ?_); rintro e w' ⟨rfl, rfl⟩))
      go_ret
      exact ⟨ret_bool (by rw [HR.out]; rfl), HB.out⟩
set_option maxRecDepth 100000 in
set_option maxHeartbeats 3200000 in
theorem implIsCall_Stop (key : List UInt8) (v : Int) (text : List UInt8) (w : World) (hk : key.length ≤ maxLen) :
    Calls Tryz.prog 69 #[.agg #[.string ⟨#[83, 116, 111, 112]⟩, .string ⟨key.toArray⟩, .int .i64 v, .string ⟨text.toArray⟩]] w fun e w' => e = .returned (.bool (callB ⟨mStop, key, v, text⟩)) ∧ Below w.heap.size w w' := by
  have HR := Lib.hid (show callB ⟨mStop, key, v, text⟩ = (key.isEmpty && (v == 0) && (text.isEmpty || false)) from rfl)
  have HW := Lib.hid (show ∀ w0, Calls Tryz.prog 96 #[.string ⟨#[83, 116, 111, 112]⟩] w0 fun e w' => e = .returned (.int .i64 1) ∧ Below w0.heap.size w0 w' from fun w0 => implWant_b mStop 1 rfl w0)
  have HTK := Lib.hid (show ∀ w0, Calls Tryz.prog 97 #[.string ⟨#[83, 116, 111, 112]⟩] w0 fun e w' => e = .returned (.bool false) ∧ w0 = w' from takesKey_b mStop _ rfl)
  have HTV := Lib.hid (show ∀ w0, Calls Tryz.prog 98 #[.string ⟨#[83, 116, 111, 112]⟩] w0 fun e w' => e = .returned (.bool false) ∧ w0 = w' from takesValue_b mStop _ rfl)
  have HTT := Lib.hid (show ∀ w0, Calls Tryz.prog 99 #[.string ⟨#[83, 116, 111, 112]⟩] w0 fun e w' => e = .returned (.bool false) ∧ w0 = w' from takesText_b mStop _ rfl)
  generalize callB ⟨mStop, key, v, text⟩ = res at *
  clear hk
  have HB0 := Lib.hid (show ∀ o, Below w.heap.size w (w.alloc o) from fun o => (Below.refl w.heap.size w).alloc (Nat.le_refl _) o)
  go_enter Tryz.func69, Tryz.ntmps69
  go_wp2_with fail
  refine (HW.out _).mono ?_
  rintro e w1 ⟨rfl, hb⟩
  have HB := Lib.hid ((HB0.out _).trans (hb.mono (HB0.out _).size))
  obtain ⟨hcc, _⟩ := bcell hb
  simp at hcc
  have c0 := hcc w.heap.size 0 (by omega)
  have c1 := hcc w.heap.size 1 (by omega)
  have c2 := hcc w.heap.size 2 (by omega)
  have c3 := hcc w.heap.size 3 (by omega)
  simp at c0 c1 c2 c3
  clear hb hcc
  cases key <;> cases text
  all_goals
    by_cases h0 : v = 0
    · subst h0
      go_wp2_with (first | (go_at_call 97; (with_reducible refine (HTK.out _).mono ?_); rintro e w' ⟨rfl, rfl⟩) | (go_at_call 98; (with_reducible refine (HTV.out _).mono ?_); rintro e w' ⟨rfl, rfl⟩) | (go_at_call 99; (with_reducible refine (HTT.out _).mono ?_); rintro e w' ⟨rfl, rfl⟩))
      go_ret
      exact ⟨ret_bool (by rw [HR.out]; rfl), HB.out⟩
    · have hv0 : (v == 0) = false := by simpa using h0
      rw [hv0] at HR
      clear h0
      go_wp2_with (first | (go_at_call 97; (with_reducible refine (HTK.out _).mono ?_); rintro e w' ⟨rfl, rfl⟩) | (go_at_call 98; (with_reducible refine (HTV.out _).mono ?_); rintro e w' ⟨rfl, rfl⟩) | (go_at_call 99; (with_reducible refine (HTT.out _).mono ?_); rintro e w' ⟨rfl, rfl⟩))
      go_ret
      exact ⟨ret_bool (by rw [HR.out]; rfl), HB.out⟩
set_option maxRecDepth 100000 in
set_option maxHeartbeats 3200000 in
theorem implIsCall_Get (key : List UInt8) (v : Int) (text : List UInt8) (w : World) (hk : key.length ≤ maxLen) :
    Calls Tryz.prog 69 #[.agg #[.string ⟨#[71, 101, 116]⟩, .string ⟨key.toArray⟩, .int .i64 v, .string ⟨text.toArray⟩]] w fun e w' => e = .returned (.bool (callB ⟨mGet, key, v, text⟩)) ∧ Below w.heap.size w w' := by
  have HR := Lib.hid (show callB ⟨mGet, key, v, text⟩ = (nameB key && (v == 0) && (text.isEmpty || false)) from rfl)
  have HW := Lib.hid (show ∀ w0, Calls Tryz.prog 96 #[.string ⟨#[71, 101, 116]⟩] w0 fun e w' => e = .returned (.int .i64 2) ∧ Below w0.heap.size w0 w' from fun w0 => implWant_b mGet 2 rfl w0)
  have HN := Lib.hid (implIsName_b key _ rfl hk)
  have HTK := Lib.hid (show ∀ w0, Calls Tryz.prog 97 #[.string ⟨#[71, 101, 116]⟩] w0 fun e w' => e = .returned (.bool true) ∧ w0 = w' from takesKey_b mGet _ rfl)
  have HTV := Lib.hid (show ∀ w0, Calls Tryz.prog 98 #[.string ⟨#[71, 101, 116]⟩] w0 fun e w' => e = .returned (.bool false) ∧ w0 = w' from takesValue_b mGet _ rfl)
  have HTT := Lib.hid (show ∀ w0, Calls Tryz.prog 99 #[.string ⟨#[71, 101, 116]⟩] w0 fun e w' => e = .returned (.bool false) ∧ w0 = w' from takesText_b mGet _ rfl)
  generalize callB ⟨mGet, key, v, text⟩ = res at *
  generalize nameB key = kn at *
  clear hk
  have HB0 := Lib.hid (show ∀ o, Below w.heap.size w (w.alloc o) from fun o => (Below.refl w.heap.size w).alloc (Nat.le_refl _) o)
  go_enter Tryz.func69, Tryz.ntmps69
  go_wp2_with fail
  refine (HW.out _).mono ?_
  rintro e w1 ⟨rfl, hb⟩
  have HB := Lib.hid ((HB0.out _).trans (hb.mono (HB0.out _).size))
  obtain ⟨hcc, _⟩ := bcell hb
  simp at hcc
  have c0 := hcc w.heap.size 0 (by omega)
  have c1 := hcc w.heap.size 1 (by omega)
  have c2 := hcc w.heap.size 2 (by omega)
  have c3 := hcc w.heap.size 3 (by omega)
  simp at c0 c1 c2 c3
  clear hb hcc
  cases kn <;> cases text
  all_goals
    by_cases h0 : v = 0
    · subst h0
      go_wp2_with (first | (go_at_call 72; (with_reducible refine (HN.out _).mono ?_); rintro e w' ⟨rfl, rfl⟩) | (go_at_call 97; (with_reducible refine (HTK.out _).mono ?_); rintro e w' ⟨rfl, rfl⟩) | (go_at_call 98; (with_reducible refine (HTV.out _).mono ?_); rintro e w' ⟨rfl, rfl⟩) | (go_at_call 99; (with_reducible refine (HTT.out _).mono ?_); rintro e w' ⟨rfl, rfl⟩))
      go_ret
      exact ⟨ret_bool (by rw [HR.out]; rfl), HB.out⟩
    · have hv0 : (v == 0) = false := by simpa using h0
      rw [hv0] at HR
      clear h0
      go_wp2_with (first | (go_at_call 72; (with_reducible refine (HN.out _).mono ?_); rintro e w' ⟨rfl, rfl⟩) | (go_at_call 97; (with_reducible refine (HTK.out _).mono ?_); rintro e w' ⟨rfl, rfl⟩) | (go_at_call 98; (with_reducible refine (HTV.out _).mono ?_); rintro e w' ⟨rfl, rfl⟩) | (go_at_call 99; (with_reducible refine (HTT.out _).mono ?_); rintro e w' ⟨rfl, rfl⟩))
      go_ret
      exact ⟨ret_bool (by rw [HR.out]; rfl), HB.out⟩
end Go.Proofs.YtghebbndfpbkcaaGreat
