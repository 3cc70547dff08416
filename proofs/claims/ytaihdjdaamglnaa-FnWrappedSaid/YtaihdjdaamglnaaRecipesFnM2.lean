/- Contracts of chapter 4: Wrap, the model's. Written by gen/ch4ws.py. -/
import Derived.Test.YtaihdjdaamglnaaRecipesFnM1
import Derived.Test.YtaihdjdaamglnaaRecipesFnM0
import Derived.Deep.RegionLaw
/- wrapIn: what it answers. -/
namespace Go.Proofs.Ytaihdjdaamglnaa
set_option linter.unusedVariables false
set_option linter.unusedSimpArgs false
open Go.RowKit
theorem bx_dr {w : World} {b : Nat} {cs : List Value} (h : Bx w b cs) : Bx w.drew b cs := ⟨h.lt, h.cell, h.froz⟩
/-- a region of a function with defers, which does not panic -/
def OnlyN (K : Act → World → Prop) : Exit → Act → World → Prop
  | .normal, a, w => K a w
  | _, _, _ => False
theorem wp_only {P : Program} {c : Code} {Q : Exit → Act → World → Prop} {a : Act} {w : World} (h : c.wp P (OnlyN (Q .normal)) a w) : c.wp P Q a w :=
  wp_mono h (fun e a w hh => by cases e <;> first | exact hh | exact hh.elim)
/-- what wrapIn answers: the wrapped part, or what came in -/
def WrapRes (b o i : Nat) (v : Value) (f : Int) (w : World) (e : Ending) (w' : World) : Prop :=
  Below w.heap.size w w' ∧ ((offersF f (needN i) = true ∧ e = .returned (.tuple #[wrapV b o v i, vReply ⟨0, giveN i, [], 0, 0⟩])) ∨ (offersF f (needN i) = false ∧ e = .returned (.tuple #[v, vReply ⟨1, 0, [], needN i, f⟩])))
set_option maxRecDepth 100000 in
set_option maxHeartbeats 1600000 in
theorem wrapIn_ok (b o i : Nat) (hi : i < 9) (T : TypeId) (V : Value) (f : Int) (w : World) (h : w.cell? ⟨b, o, none⟩ = some (.string ⟨(layN i).toArray⟩)) (ho : offersF f (needN i) = true)
    (hA : ∀ W, Below w.heap.size w W → Calls Try.prog 88 #[.iface T V, .pointer (some ⟨b, o, none⟩)] W fun e w' => e = .returned (wrapV b o (.iface T V) i) ∧ Below W.heap.size W w') :
    Calls Try.prog 45 #[.iface T V, .pointer (some ⟨b, o, none⟩)] w fun e w' => WrapRes b o i (.iface T V) f w e w' := by
  have hl0 := World.block_lt_of_cell? w _ h
  obtain ⟨T', V', hv, hF, _⟩ := iface_wrap (T := T) (V := V) i hi h
  unfold WrapRes
  rw [hv] at hA ⊢
  obtain ⟨F, rcv, hFF, hfm, hfn, hFC⟩ := hF
  have HF := Lib.hid hFC
  have HA := Lib.hid hA
  have HO := Lib.hid ho
  generalize giveN i = g at *
  clear h hA ho hv hFC
  have hmf : ∀ (fn : Fn) (first cap : Array Value) (w : World), (Instr.makeFunc fn first cap).run Try.prog w = .ok (.func fn first cap) w := fun _ _ _ _ => rfl
  have BX := Lib.hid (bx_start3 (w.alloc (.cells #[.iface T V] 83)) [.pointer (some ⟨b, o, none⟩)] [.nilIface] [.int .i64 0, .int .i64 0, .string ⟨#[]⟩, .int .i64 0, .int .i64 0] 88 83 33)
  have HB3 := Lib.hid (belS (part_box w (.cells #[.iface T V] 83)) BX.out.2.2.2)
  rw [show (w.alloc (.cells #[.iface T V] 83)).heap.size = w.heap.size + 1 by simp] at BX
  rcases hFF with rfl | rfl
  all_goals
    go_enter_defers Try.func45, Try.ntmps45
    go_wp2_with fail
    refine (HA.out _ HB3.out).mono ?_
    rintro e w1 ⟨rfl, hb⟩
    have HB1 := Lib.hid (belS HB3.out hb)
    have BO := Lib.hid (BX.out.2.1.below hb)
    have BR := Lib.hid (BX.out.2.2.1.below hb)
    clear hb HA
    have c0 := BO.out.cell 0 (by simp)
    simp only [List.getElem_cons_zero, List.getElem_cons_succ] at c0
    have z0 := BO.out.froz 0 (by simp)
    go_wp2_with fail
    have BO2 := Lib.hid (bx_dr (BO.out.set 0 (by simp) (.iface T' V')))
    have BR2 := Lib.hid (bx_dr (BR.out.other (c := w.heap.size + 1 + 1) (by omega) 0 (.iface T' V')))
    have HB2 := Lib.hid (bel_dr (HB1.out.setCell (p := ⟨w.heap.size + 1 + 1, 0, none⟩) (by simp; omega) (.iface T' V')))
    simp only [List.set_cons_zero] at BO2
    clear c0 z0
    have c0 := BO2.out.cell 0 (by simp)
    simp only [List.getElem_cons_zero, List.getElem_cons_succ] at c0
    have z0 := BO2.out.froz 0 (by simp)
    have r0 := BR2.out.cell 0 (by simp)
    have r1 := BR2.out.cell 1 (by simp)
    have r2 := BR2.out.cell 2 (by simp)
    have r3 := BR2.out.cell 3 (by simp)
    have r4 := BR2.out.cell 4 (by simp)
    simp only [List.getElem_cons_zero, List.getElem_cons_succ] at r0 r1 r2 r3 r4
    have y0 := BR2.out.froz 0 (by simp)
    have y1 := BR2.out.froz 1 (by simp)
    have y2 := BR2.out.froz 2 (by simp)
    have y3 := BR2.out.froz 3 (by simp)
    have y4 := BR2.out.froz 4 (by simp)
    refine wp_only ?_
    go_region_with (first
      | ((with_reducible refine (HF.out _ (by repeat (first | with_reducible exact HB1.out | refine bel_dr ?_ | refine Below.setCell ?_ (by simp; try omega) _))).mono ?_); rintro e w2 ⟨rfl, hb2⟩; have HB3 := Lib.hid (show Below w.heap.size w w2 from by first | exact belS HB2.out hb2 | exact belS (HB2.out.setCell (p := ⟨w.heap.size + 1 + 1, 0, none⟩) (by simp; omega) (.iface T' V')) hb2); have BO3 := Lib.hid (show Bx w2 (w.heap.size + 1 + 1) [.iface T' V'] from by first | exact BO2.out.below hb2 | exact (BO2.out.set 0 (by simp) (.iface T' V')).below hb2); have BR3 := Lib.hid (show Bx w2 (w.heap.size + 1 + 1 + 1) [.int .i64 0, .int .i64 0, .string ⟨#[]⟩, .int .i64 0, .int .i64 0] from by first | exact BR2.out.below hb2 | exact (BR2.out.other (c := w.heap.size + 1 + 1) (by omega) 0 (.iface T' V')).below hb2); have c3 := BO3.out.cell 0 (by simp); have z3 := BO3.out.froz 0 (by simp); have r3 := BR3.out.cell 0 (by simp); have r4 := BR3.out.cell 1 (by simp); have r5 := BR3.out.cell 2 (by simp); have r6 := BR3.out.cell 3 (by simp); have r7 := BR3.out.cell 4 (by simp); have y5 := BR3.out.froz 0 (by simp); have y6 := BR3.out.froz 1 (by simp); have y7 := BR3.out.froz 2 (by simp); have y8 := BR3.out.froz 3 (by simp); have y9 := BR3.out.froz 4 (by simp); simp only [List.getElem_cons_zero, List.getElem_cons_succ] at c3 r3 r4 r5 r6 r7))
    all_goals unfold OnlyN
    all_goals go_wp2_with fail
    all_goals
      change Leaves _ _ _ _ _ _ _
      refine leaves_cons (f := 87) (args := #[.pointer (some ⟨w.heap.size + 1, 0, none⟩), .pointer (some ⟨w.heap.size, 0, none⟩), .pointer (some ⟨w.heap.size + 1 + 1, 0, none⟩), .pointer (some ⟨w.heap.size + 1 + 1 + 1, 0, none⟩)]) (by simp) (by simp [go_sem]) ?_
      refine (catchW_idle _ _ _ _ _).mono ?_
      rintro e u' w'' ⟨rfl, rfl, rfl⟩
      simp [Leaves, settle, results, Try.results45, go_sem, cell_set_at, cell_set_ne, c3, r3, r4, r5, r6, r7]
      refine ⟨?_, Or.inl ⟨HO.out, rfl⟩⟩
      repeat (first | with_reducible exact HB3.out | refine Below.setCell ?_ (by simp; try omega) _)
end Go.Proofs.Ytaihdjdaamglnaa
/- wrapIn: where the assertion is not met; wrapIn whole; wholePart. -/
namespace Go.Proofs.Ytaihdjdaamglnaa
set_option linter.unusedVariables false
set_option linter.unusedSimpArgs false
open Go.RowKit
set_option maxRecDepth 100000 in
set_option maxHeartbeats 1600000 in
theorem wrapIn_fail (b o i : Nat) (hi : i < 9) (T : TypeId) (V : Value) (f : Int) (w : World) (h : w.cell? ⟨b, o, none⟩ = some (.string ⟨(layN i).toArray⟩)) (ho : offersF f (needN i) = false) (hF : FaceAt w T V f)
    (hA : ∀ W, Below w.heap.size w W → Calls Try.prog 88 #[.iface T V, .pointer (some ⟨b, o, none⟩)] W fun e w' => Panics W e w') :
    Calls Try.prog 45 #[.iface T V, .pointer (some ⟨b, o, none⟩)] w fun e w' => WrapRes b o i (.iface T V) f w e w' := by
  have hl0 := World.block_lt_of_cell? w _ h
  simp only at hl0
  unfold WrapRes
  have HX := Lib.hid h
  have HF := Lib.hid hF
  have HA := Lib.hid hA
  have HO := Lib.hid ho
  have HN := Lib.hid (show needI (layI (layN i)) = needN i from by
    rcases (show i = 0 ∨ i = 1 ∨ i = 2 ∨ i = 3 ∨ i = 4 ∨ i = 5 ∨ i = 6 ∨ i = 7 ∨ i = 8 by omega) with rfl | rfl | rfl | rfl | rfl | rfl | rfl | rfl | rfl <;> decide +kernel)
  clear h hA ho hF
  have hmf : ∀ (fn : Fn) (first cap : Array Value) (w : World), (Instr.makeFunc fn first cap).run Try.prog w = .ok (.func fn first cap) w := fun _ _ _ _ => rfl
  have BI := Lib.hid (Bx.new w [.iface T V] 83)
  have BX := Lib.hid (bx_start3 (w.alloc (.cells #[.iface T V] 83)) [.pointer (some ⟨b, o, none⟩)] [.nilIface] [.int .i64 0, .int .i64 0, .string ⟨#[]⟩, .int .i64 0, .int .i64 0] 88 83 33)
  have HB3 := Lib.hid (belS (part_box w (.cells #[.iface T V] 83)) BX.out.2.2.2)
  have BI2 := Lib.hid (BI.out.below BX.out.2.2.2)
  rw [show (w.alloc (.cells #[.iface T V] 83)).heap.size = w.heap.size + 1 by simp] at BX
  go_enter_defers Try.func45, Try.ntmps45
  go_wp2_with fail
  refine (HA.out _ HB3.out).mono ?_
  rintro e w1 ⟨pv, rfl, hb⟩
  have HB1 := Lib.hid (belS HB3.out hb)
  have BI3 := Lib.hid (BI2.out.below hb)
  have BL := Lib.hid (BX.out.1.below hb)
  have BO := Lib.hid (BX.out.2.1.below hb)
  have BR := Lib.hid (BX.out.2.2.1.below hb)
  clear hb HA
  have HBW := Lib.hid (show BoxW (w.heap.size + 1) w.heap.size (w.heap.size + 1 + 1) (w.heap.size + 1 + 1 + 1) b o (layN i) (.iface T V) w1 from
    ⟨BL.out.cell 0 (by simp), (HB1.out.cell (p := ⟨b, o, none⟩) hl0).trans HX.out, BI3.out.cell 0 (by simp), by rw [BO.out.cell 0 (by simp)]; rfl, BO.out.froz 0 (by simp),
      fun j hj => by rw [BR.out.cell j (by simpa using hj)]; rfl, fun j hj => BR.out.froz j (by simpa using hj)⟩)
  clear BI BI2 BI3 BL BO BR BX HX
  refine leaves_cons (f := 87) (args := #[.pointer (some ⟨w.heap.size + 1, 0, none⟩), .pointer (some ⟨w.heap.size, 0, none⟩), .pointer (some ⟨w.heap.size + 1 + 1, 0, none⟩), .pointer (some ⟨w.heap.size + 1 + 1 + 1, 0, none⟩)]) (by simp) (by simp [go_sem]) ?_
  refine (catchW _ _ _ _ b o (layN i) T V f pv _ (HF.out.below HB1.out) HBW.out (by omega)).mono ?_
  rintro e u' w'' ⟨rfl, rfl, w2, hb2, rfl⟩
  have HB2 := Lib.hid (belS HB1.out hb2)
  have KR := Lib.hid (HBW.out.below hb2)
  obtain ⟨eo, fo⟩ := Option.isSome_iff_exists.1 KR.out.o0
  obtain ⟨e0, f0⟩ := Option.isSome_iff_exists.1 (KR.out.r 0 (by decide))
  obtain ⟨e1, f1⟩ := Option.isSome_iff_exists.1 (KR.out.r 1 (by decide))
  obtain ⟨e2, f2⟩ := Option.isSome_iff_exists.1 (KR.out.r 2 (by decide))
  obtain ⟨e3, f3⟩ := Option.isSome_iff_exists.1 (KR.out.r 3 (by decide))
  obtain ⟨e4, f4⟩ := Option.isSome_iff_exists.1 (KR.out.r 4 (by decide))
  rw [HN.out]
  unfold putW vReply
  generalize needN i = want at *
  clear hb2 HBW KR
  simp [Leaves, settle, results, Try.results45, go_sem, cell_set_at, cell_set_ne, bx_set_ne, fo, f0, f1, f2, f3, f4]
  refine ⟨?_, HO.out⟩
  repeat (first | with_reducible exact HB2.out | refine Below.setCell ?_ (by simp; try omega) _)
theorem wrapIn_c (b o i : Nat) (hi : i < 9) (v : Value) (f : Int) (w : World) (h : w.cell? ⟨b, o, none⟩ = some (.string ⟨(layN i).toArray⟩)) (hv : IfaceAt w v f) :
    Calls Try.prog 45 #[v, .pointer (some ⟨b, o, none⟩)] w fun e w' => WrapRes b o i v f w e w' := by
  obtain ⟨T, V, rfl, hF, hA⟩ := hv
  have hl0 := World.block_lt_of_cell? w _ h
  have hW : ∀ W, Below w.heap.size w W → W.cell? ⟨b, o, none⟩ = some (.string ⟨(layN i).toArray⟩) := fun W hb => (hb.cell (p := ⟨b, o, none⟩) hl0).trans h
  obtain ⟨hf, hr, hk, ht, hbo⟩ := hA
  have h0 : offersF f 0 = true := by
    obtain ⟨F, rfl⟩ := isF_fin hf
    exact (off_bits F).1
  rcases (show i = 0 ∨ i = 1 ∨ i = 2 ∨ i = 3 ∨ i = 4 ∨ i = 5 ∨ i = 6 ∨ i = 7 ∨ i = 8 by omega) with rfl | rfl | rfl | rfl | rfl | rfl | rfl | rfl | rfl
  · exact wrapIn_ok b o 0 (by decide) T V f w h h0 (fun W hb => aw_0 b o T V W (hW W hb))
  · cases hq : offersF f 1 with
    | true => rw [hq] at hr; exact wrapIn_ok b o 1 (by decide) T V f w h hq (fun W hb => aw_1 b o T V W (hW W hb) hr)
    | false => rw [hq] at hr; exact wrapIn_fail b o 1 (by decide) T V f w h hq hF (fun W hb => awp_1 b o T V W (hW W hb) hr)
  · cases hq : offersF f 2 with
    | true => rw [hq] at hk; exact wrapIn_ok b o 2 (by decide) T V f w h hq (fun W hb => aw_2 b o T V W (hW W hb) hk)
    | false => rw [hq] at hk; exact wrapIn_fail b o 2 (by decide) T V f w h hq hF (fun W hb => awp_2 b o T V W (hW W hb) hk)
  · cases hq : offersF f 2 with
    | true => rw [hq] at hk; exact wrapIn_ok b o 3 (by decide) T V f w h hq (fun W hb => aw_3 b o T V W (hW W hb) hk)
    | false => rw [hq] at hk; exact wrapIn_fail b o 3 (by decide) T V f w h hq hF (fun W hb => awp_3 b o T V W (hW W hb) hk)
  · cases hq : offersF f 3 with
    | true => rw [hq] at hbo; exact wrapIn_ok b o 4 (by decide) T V f w h hq (fun W hb => aw_4 b o T V W (hW W hb) hbo)
    | false => rw [hq] at hbo; exact wrapIn_fail b o 4 (by decide) T V f w h hq hF (fun W hb => awp_4 b o T V W (hW W hb) hbo)
  · cases hq : offersF f 2 with
    | true => rw [hq] at hk; exact wrapIn_ok b o 5 (by decide) T V f w h hq (fun W hb => aw_5 b o T V W (hW W hb) hk)
    | false => rw [hq] at hk; exact wrapIn_fail b o 5 (by decide) T V f w h hq hF (fun W hb => awp_5 b o T V W (hW W hb) hk)
  · cases hq : offersF f 1 with
    | true => rw [hq] at hr; exact wrapIn_ok b o 6 (by decide) T V f w h hq (fun W hb => aw_6 b o T V W (hW W hb) hr)
    | false => rw [hq] at hr; exact wrapIn_fail b o 6 (by decide) T V f w h hq hF (fun W hb => awp_6 b o T V W (hW W hb) hr)
  · cases hq : offersF f 1 with
    | true => rw [hq] at hr; exact wrapIn_ok b o 7 (by decide) T V f w h hq (fun W hb => aw_7 b o T V W (hW W hb) hr)
    | false => rw [hq] at hr; exact wrapIn_fail b o 7 (by decide) T V f w h hq hF (fun W hb => awp_7 b o T V W (hW W hb) hr)
  · cases hq : offersF f 4 with
    | true => rw [hq] at ht; exact wrapIn_ok b o 8 (by decide) T V f w h hq (fun W hb => aw_8 b o T V W (hW W hb) ht)
    | false => rw [hq] at ht; exact wrapIn_fail b o 8 (by decide) T V f w h hq hF (fun W hb => awp_8 b o T V W (hW W hb) ht)
end Go.Proofs.Ytaihdjdaamglnaa
/- wholePart: a valid part with all its adapters, as a value of an interface type. -/
namespace Go.Proofs.Ytaihdjdaamglnaa
set_option linter.unusedVariables false
set_option linter.unusedSimpArgs false
open Go.RowKit
theorem partB_lay {x : PartD} (h : partB x = true) (k : Nat) (hk : k < x.fLayers.length) : layOk x k = true := by
  cases hq : layOk x k with
  | true => rfl
  | false => rw [partB_bad hk hq] at h; cases h
theorem partB_core {x : PartD} (h : partB x = true) : coreB x.fCore = true := by
  simp only [partB, Bool.and_eq_true] at h; exact h.1.1
theorem partB_len {x : PartD} (h : partB x = true) : x.fLayers.length ≤ 3 := by
  simp only [partB, Bool.and_eq_true, decide_eq_true_iff] at h; exact h.1.2
theorem coreB_kind {d : CoreD} (h : coreB d = true) : ∃ j : Nat, kindI d.fKind = j ∧ j < 8 ∧ kindN j = d.fKind := by
  have h0 : 0 ≤ kindI d.fKind := by
    simp only [coreB, Bool.and_eq_true, decide_eq_true_iff] at h; exact h.1.1.1.1.1
  rcases kindI_bd d.fKind with h1 | h1
  · omega
  · exact h1
theorem faceN_succ (x : PartD) (k : Nat) (hk : k < x.fLayers.length) : faceN x (k + 1) = giveI (layI (x.fLayers[k]).fName) := by
  show giveI (layI (x.fLayers.getD k default).fName) = _
  rw [List.getD_eq_getElem?_getD, List.getElem?_eq_getElem hk]; rfl
/-- the face and the assertions of a valid part with its first layers -/
def Whole (x : PartD) (k : Nat) (w : World) (v : Value) : Prop := IfaceAt w v (faceN x k)
set_option maxRecDepth 100000 in
set_option maxHeartbeats 3200000 in
theorem wholePart_c (b0 : Nat) (cs : List Value) (x : PartD) (w : World) (hx : rPart 0 w cs x) (hb : Bx w b0 cs) (hp : partB x = true) :
    Calls Try.prog 46 #[.pointer (some ⟨b0, 0, none⟩)] w fun e w' => ∃ v, e = .returned v ∧ IfaceAt w' v (faceP x) ∧ Below w.heap.size w w' := by
  have HLK := Lib.hid (fun k hk => partB_lay hp k hk)
  have HOK := Lib.hid (fun i h y hy => layOk_of x i h y hy)
  have HFS := Lib.hid (faceN_succ x)
  have HFP := Lib.hid (show faceP x = faceN x x.fLayers.length from rfl)
  obtain ⟨j, hj1, hj2, hj3⟩ := coreB_kind (partB_core hp)
  have H0 := Lib.hid (show faceN x 0 = kfN j by unfold faceN kfI; rw [hj1, if_neg (by omega)]; rfl)
  obtain ⟨xc, ls⟩ := x
  obtain ⟨v3, v5, rfl, h3, h5⟩ := hx
  simp only at h3 h5 hj3 HLK HOK HFS HFP
  obtain ⟨sa, sc, rfl, hl, hcap⟩ := sliceAt_cap h5
  have H5 := Lib.hid h5
  have BX := Lib.hid hb
  have HK := Lib.hid (show w.cell? ⟨b0, 0, none⟩ = some (.string ⟨(kindN j).toArray⟩) by have h := hb.cell 0 (by simp); rw [hj3]; exact h)
  have HPO := Lib.hid (partOf_k j hj2 b0 w HK.out)
  unfold maxLen at hl
  clear h3 h5 hp hj1 hj3 hb
  go_enter Try.func46, Try.ntmps46
  go_wp2_with fail
  refine HPO.out.mono ?_
  rintro e w1 ⟨rfl, hb⟩
  have HB1 := Lib.hid hb
  have BX1 := Lib.hid (BX.out.below hb)
  have HI := Lib.hid (show IfaceAt w1 (partV b0 j) (faceN ⟨xc, ls⟩ 0) by rw [H0.out]; exact iface_kind j hj2 ((hb.cell (p := ⟨b0, 0, none⟩) BX.out.lt).trans HK.out))
  generalize partV b0 j = pv at *
  clear hb
  have e5 := BX1.out.cell 5 (by simp)
  simp only [List.getElem_cons_zero, List.getElem_cons_succ] at e5
  go_wp2_with fail
  clear e5
  go_loopw [3, 4, 14] (fun u3 _ i wr => ∃ k : Nat, k ≤ ls.length ∧ i = .int .i64 k ∧ Whole ⟨xc, ls⟩ k wr u3 ∧ Below w.heap.size w wr) (fun _ _ i _ => ls.length - (intOf i).toNat)
  case atStart => exact ⟨0, Nat.zero_le _, rfl, HI.out, HB1.out⟩
  case round =>
    obtain ⟨k, hk, rfl, ht, hbr⟩ := hrel
    have HT := Lib.hid ht
    have HBr := Lib.hid hbr
    have BXr := Lib.hid (BX.out.below hbr)
    have HXr := Lib.hid (SliceAt.below H5.out (good_flat cLayer_len) hbr (Nat.le_refl _))
    clear ht hbr
    by_cases hlt : k < ls.length
    · obtain ⟨b, o, cs, rfl, hbw, hat, hd⟩ := sliceAt_cell HXr.out k hlt
      have HO1 := Lib.hid (HLK.out k hlt)
      have HO2 := Lib.hid (HOK.out k hlt _ rfl)
      have HF1 := Lib.hid (HFS.out k hlt)
      have d0 := hd 0 (by decide)
      generalize ls[k] = z at *
      obtain ⟨z0, z1⟩ := z
      simp only [rFlat, cLayer] at hat HO2 HF1
      subst hat
      simp only [List.getElem?_cons_zero, Nat.add_zero] at d0
      have hh := HO1.out
      rw [HO2.out] at hh
      simp only [Bool.and_eq_true, decide_eq_true_iff] at hh
      obtain ⟨⟨hh1, hh2⟩, _⟩ := hh
      obtain ⟨q, hq1, hq2, hq3⟩ : ∃ q : Nat, layI z0 = q ∧ q < 9 ∧ layN q = z0 := by
        rcases layI_bd z0 with h1 | h1
        · omega
        · exact h1
      subst hq3
      have hn : needI (layI (layN q)) = needN q := by rw [hq1]; unfold needI; rw [if_neg (by omega)]; rfl
      have hg : giveI (layI (layN q)) = giveN q := by rw [hq1]; unfold giveI; rw [if_neg (by omega)]; rfl
      have HW := Lib.hid (wrapIn_c b (o + k * 2) q hq2 u3 (faceN ⟨xc, ls⟩ k) wr d0 HT.out)
      have HOF := Lib.hid (show offersF (faceN ⟨xc, ls⟩ k) (needN q) = true by rw [← hn]; exact hh2)
      have HGV := Lib.hid (show faceN ⟨xc, ls⟩ (k + 1) = giveN q by rw [HF1.out, hg])
      have D0 := Lib.hid d0
      have hkc : (k : Int) < (ls.length : Int) := by omega
      have e5 := BXr.out.cell 5 (by simp)
      simp only [List.getElem_cons_zero, List.getElem_cons_succ] at e5
      obtain ⟨T, V, hu, hu2⟩ := HT.out
      have HU := Lib.hid hu
      clear hd HXr hh1 hh2 hq1 hn hg d0 HO1 HO2 HF1 HLK HOK HFS hu hu2
      go_wp2_with fail
      refine HW.out.mono ?_
      rintro e w2 ⟨hb2, hres⟩
      obtain rfl : e = .returned (.tuple #[wrapV b (o + k * 2) u3 q, vReply ⟨0, giveN q, [], 0, 0⟩]) := by
        rcases hres with ⟨_, h⟩ | ⟨h, _⟩
        · exact h
        · rw [HOF.out] at h; cases h
      have HB2 := Lib.hid (belS HBr.out hb2)
      have HWW := Lib.hid (show Whole ⟨xc, ls⟩ (k + 1) w2 (wrapV b (o + k * 2) u3 q) by
        unfold Whole
        rw [HGV.out, HU.out]
        exact iface_wrap q hq2 ((hb2.cell (p := ⟨b, o + k * 2, none⟩) hbw).trans D0.out))
      generalize wrapV b (o + k * 2) u3 q = nv at *
      unfold vReply
      clear hb2 hres e5
      go_wp2_with fail
      exact ⟨⟨k + 1, by omega, by go_num, HWW.out, HB2.out⟩, by simp [intOf]; omega⟩
    · have HR := Lib.hid (show IfaceAt wr u3 (faceP ⟨xc, ls⟩) by rw [HFP.out]; have h := HT.out; rwa [show k = ls.length by omega] at h)
      go_wp2
      go_ret
      exact ⟨u3, rfl, HR.out, HBr.out⟩
end Go.Proofs.Ytaihdjdaamglnaa
/- Wrapping in plain words; results of a part and a reply. -/
namespace Go.Proofs.Ytaihdjdaamglnaa
set_option linter.unusedVariables false
set_option linter.unusedSimpArgs false
open Go.RowKit
theorem Bx.put5 {w : World} {b : Nat} {c0 c1 c2 c3 c4 : Value} (h : Bx w b [c0, c1, c2, c3, c4]) (u0 u1 u2 u3 u4 : Value) :
    Bx (((((w.setCell ⟨b, 0, none⟩ u0).setCell ⟨b, 1, none⟩ u1).setCell ⟨b, 2, none⟩ u2).setCell ⟨b, 3, none⟩ u3).setCell ⟨b, 4, none⟩ u4) b [u0, u1, u2, u3, u4] :=
  (((((h.set 0 (by simp) u0).set 1 (by simp) u1).set 2 (by simp) u2).set 3 (by simp) u3).set 4 (by simp) u4)
theorem Bx.put5o {w : World} {b c : Nat} {cs : List Value} (h : Bx w b cs) (hne : b ≠ c) (u0 u1 u2 u3 u4 : Value) :
    Bx (((((w.setCell ⟨c, 0, none⟩ u0).setCell ⟨c, 1, none⟩ u1).setCell ⟨c, 2, none⟩ u2).setCell ⟨c, 3, none⟩ u3).setCell ⟨c, 4, none⟩ u4) b cs :=
  (((((h.other hne 0 u0).other hne 1 u1).other hne 2 u2).other hne 3 u3).other hne 4 u4)
theorem Bx.put6o {w : World} {b c : Nat} {cs : List Value} (h : Bx w b cs) (hne : b ≠ c) (u0 u1 u2 u3 u4 u5 : Value) :
    Bx ((((((w.setCell ⟨c, 0, none⟩ u0).setCell ⟨c, 1, none⟩ u1).setCell ⟨c, 2, none⟩ u2).setCell ⟨c, 3, none⟩ u3).setCell ⟨c, 4, none⟩ u4).setCell ⟨c, 5, none⟩ u5) b cs :=
  ((((((h.other hne 0 u0).other hne 1 u1).other hne 2 u2).other hne 3 u3).other hne 4 u4).other hne 5 u5)
theorem below_put5 {B : Nat} {a w : World} (h : Below B a w) (b : Nat) (hb : B ≤ b) (u0 u1 u2 u3 u4 : Value) :
    Below B a (((((w.setCell ⟨b, 0, none⟩ u0).setCell ⟨b, 1, none⟩ u1).setCell ⟨b, 2, none⟩ u2).setCell ⟨b, 3, none⟩ u3).setCell ⟨b, 4, none⟩ u4) :=
  (((((h.setCell (p := ⟨b, 0, none⟩) hb u0).setCell (p := ⟨b, 1, none⟩) hb u1).setCell (p := ⟨b, 2, none⟩) hb u2).setCell (p := ⟨b, 3, none⟩) hb u3).setCell (p := ⟨b, 4, none⟩) hb u4)
theorem ownsF_put5 {α : Type} {f : α → List Value} {E k : Nat} {w : World} {B : Nat} {v : Value} {l : List α} (h : OwnsF f E k w B v l) (b : Nat) (hb : b < B) (u0 u1 u2 u3 u4 : Value) :
    OwnsF f E k (((((w.setCell ⟨b, 0, none⟩ u0).setCell ⟨b, 1, none⟩ u1).setCell ⟨b, 2, none⟩ u2).setCell ⟨b, 3, none⟩ u3).setCell ⟨b, 4, none⟩ u4) B v l :=
  ownsF_set (ownsF_set (ownsF_set (ownsF_set (ownsF_set h hb) hb) hb) hb) hb
/-- the code of Wrap's reply -/
def wrapI (x : PartD) (s : List UInt8) : Int :=
  if partB x = true ∧ 0 ≤ layI s then (if x.fLayers.length = 3 then 5 else if offersF (faceP x) (needI (layI s)) = true then 0 else 1) else 7
def wrapP (x : PartD) (s : List UInt8) : PartD := if wrapI x s = 0 then ⟨x.fCore, x.fLayers ++ [⟨s, 0⟩]⟩ else x
def wrapR (x : PartD) (s : List UInt8) : ReplyD := ⟨wrapI x s, if wrapI x s = 0 then giveI (layI s) else 0, [], if wrapI x s = 1 then needI (layI s) else 0, if wrapI x s = 1 then faceP x else 0⟩
def GivesOPR (x : PartD) (r : ReplyD) (w : World) (e : Ending) (w' : World) : Prop := ∃ cs, e = .returned (.tuple #[.agg cs.toArray, vReply r]) ∧ oPart w' w.heap.size cs x ∧ Below w.heap.size w w'
def GivesPR (x : PartD) (r : ReplyD) (w : World) (e : Ending) (w' : World) : Prop := ∃ cs, e = .returned (.tuple #[.agg cs.toArray, vReply r]) ∧ rPart w.heap.size w' cs x ∧ Below w.heap.size w w'
theorem givesPR_of {x : PartD} {r : ReplyD} {w w' : World} {e : Ending} (h : GivesOPR x r w e w') (hs : SmallP x) : GivesPR x r w e w' := by
  obtain ⟨cs, h1, h2, h3⟩ := h
  exact ⟨cs, h1, oPart_r h2 hs, h3⟩
theorem wrap_bad {x : PartD} {s : List UInt8} (h : ¬ (partB x = true ∧ 0 ≤ layI s)) : wrapP x s = x ∧ wrapR x s = ⟨7, 0, [], 0, 0⟩ := by
  have hi : wrapI x s = 7 := if_neg h
  unfold wrapP wrapR; rw [hi]; exact ⟨rfl, rfl⟩
theorem wrap_full {x : PartD} {s : List UInt8} (h : partB x = true ∧ 0 ≤ layI s) (h3 : x.fLayers.length = 3) : wrapP x s = x ∧ wrapR x s = ⟨5, 0, [], 0, 0⟩ := by
  have hi : wrapI x s = 5 := by unfold wrapI; rw [if_pos h, if_pos h3]
  unfold wrapP wrapR; rw [hi]; exact ⟨rfl, rfl⟩
theorem wrap_ok {x : PartD} {s : List UInt8} (h : partB x = true ∧ 0 ≤ layI s) (h3 : ¬ x.fLayers.length = 3) (ho : offersF (faceP x) (needI (layI s)) = true) : wrapP x s = ⟨x.fCore, x.fLayers ++ [⟨s, 0⟩]⟩ ∧ wrapR x s = ⟨0, giveI (layI s), [], 0, 0⟩ := by
  have hi : wrapI x s = 0 := by unfold wrapI; rw [if_pos h, if_neg h3, if_pos ho]
  unfold wrapP wrapR; rw [hi]; exact ⟨rfl, rfl⟩
theorem wrap_fail {x : PartD} {s : List UInt8} (h : partB x = true ∧ 0 ≤ layI s) (h3 : ¬ x.fLayers.length = 3) (ho : offersF (faceP x) (needI (layI s)) = false) : wrapP x s = x ∧ wrapR x s = ⟨1, 0, [], needI (layI s), faceP x⟩ := by
  have hi : wrapI x s = 1 := by unfold wrapI; rw [if_pos h, if_neg h3, if_neg (by simp [ho])]
  unfold wrapP wrapR; rw [hi]; exact ⟨rfl, rfl⟩
theorem sumF_le {α : Type} (f : α → Nat) (b : Nat) (l : List α) (h : ∀ a ∈ l, f a ≤ b) : sumF f l ≤ l.length * b := by
  induction l with
  | nil => simp [sumF]
  | cons x r ih =>
    have h1 := ih (fun a ha => h a (List.mem_cons_of_mem _ ha))
    have h2 := h x (List.mem_cons_self ..)
    simp only [sumF, List.length_cons, Nat.add_mul, Nat.one_mul]; omega
theorem layN_len (k : Nat) : (layN k).length ≤ 6 := by unfold layN; split <;> decide
theorem kindN_len (k : Nat) : (kindN k).length ≤ 6 := by unfold kindN; split <;> decide
theorem partB_small {x : PartD} (h : partB x = true) : zPart x ≤ 100 := by
  have hc := partB_core h
  have hl := partB_len h
  obtain ⟨j, _, _, hj⟩ := coreB_kind hc
  have h1 : x.fCore.fKind.length ≤ 6 := by rw [← hj]; exact kindN_len j
  have hcb : cellsB x.fCore.fCells = true := by simp only [coreB, Bool.and_eq_true] at hc; exact hc.1.1.1.1.2
  have h2 := cellsB_len hcb
  have h3 := sumF_le zCell 8 x.fCore.fCells (fun c hc => by have h9 := (cellsB_mem hcb c hc).1; simp only [nameB, Bool.and_eq_true, decide_eq_true_iff] at h9; exact h9.1.1.2)
  have h4 := sumF_le zLayer 6 x.fLayers (fun y hy => by
    obtain ⟨i, hi, rfl⟩ := List.mem_iff_getElem.1 hy
    have h5 := partB_lay h i hi
    rw [layOk_of x i hi _ rfl] at h5
    simp only [Bool.and_eq_true, decide_eq_true_iff] at h5
    rcases layI_bd (x.fLayers[i]).fName with h6 | ⟨q, _, _, h7⟩
    · omega
    · show (x.fLayers[i]).fName.length ≤ 6
      rw [← h7]; exact layN_len q)
  have h5 : x.fCore.fCells.length * 8 ≤ 32 := by omega
  unfold zPart zCore
  omega
theorem wrapP_small {x : PartD} (hs : SmallP x) (s : List UInt8) : SmallP (wrapP x s) := by
  by_cases h : wrapI x s = 0
  · have h1 : partB x = true ∧ 0 ≤ layI s := by
      by_cases h1 : partB x = true ∧ 0 ≤ layI s
      · exact h1
      · rw [wrapI, if_neg h1] at h; cases h
    have h2 := partB_small h1.1
    have h3 : s.length ≤ 6 := by
      rcases layI_bd s with h6 | ⟨q, _, _, h7⟩
      · omega
      · rw [← h7]; exact layN_len q
    have h4 : ∀ (a : List LayerD), sumF zLayer (a ++ [⟨s, 0⟩]) = sumF zLayer a + s.length := by
      intro a
      induction a with
      | nil => simp [sumF, zLayer]
      | cons y r ih => simp only [List.cons_append, sumF, ih]; omega
    unfold wrapP
    rw [if_pos h]
    refine smallP_of ?_
    unfold zPart zCore at h2 ⊢
    simp only [h4, List.length_append, List.length_cons, List.length_nil]
    omega
  · unfold wrapP; rw [if_neg h]; exact hs
theorem append_lay {ops : Array Oper} {rest : List Oper} {o : Oper} {a : Act} {Q : Exit → Act → World → Prop} (hgd : o.guard = none) (s x : Operand)
    (ho : o.op = .call { callee := .builtin .append, args := #[s, x], argTypes := #[27, 27] }) (B : Nat) (v : Value) (l : List LayerD) (y : LayerD) (w : World) (blk : Nat)
    (hs : a.eval s = v) (hO : OwnsF cLayer 81 2 w B v l) (hx : a.eval x = .slice (some ⟨blk, 0, none⟩) 1 1) (hc : ∀ j, j < 2 → w.cell? ⟨blk, j, none⟩ = (cLayer y)[j]?) (hl : l.length ≤ 4194304) (hB : B ≤ w.heap.size)
    (h : ∀ v' w', OwnsF cLayer 81 2 w' B v' (l ++ [y]) → w.grownBy w' v.ownBlock → wpList Try.prog ops Q rest (a.put o.dst v') w') : wpList Try.prog ops Q (o :: rest) a w :=
  append_flat cLayer_len cLayer_one infoLay rfl (by decide) (by decide) Try.underlying27 hgd s x ho B v l y w blk hs hO hx hc hl hB h
theorem ownsF_setNe {α : Type} {f : α → List Value} {E k : Nat} {w : World} {B : Nat} {v : Value} {l : List α} {p : Addr} {u : Value} (h : OwnsF f E k w B v l) (hp : v.ownBlock ≠ some p.block) : OwnsF f E k (w.setCell p u) B v l :=
  World.ownsRow.kept h (row := some p.block) ⟨rfl, rfl, rfl, by simp, fun i hi hne => Below.heap_setCell w p u i (fun e => hne (by rw [e]))⟩ (Or.inr hp)
theorem slice_lenW {α : Type} {f : α → List Value} {E k : Nat} {w : World} {B m : Nat} {v : Value} {l : List α} (h : OwnsF f E k w B v l) (hm : l.length = m) : ∃ a c, v = .slice a m c := by
  subst hm; exact slice_of h
theorem lay_not_bool {w : World} {N b : Nat} {v : Value} {l : List LayerD} {x : Bool} (h : OwnsF cLayer 81 2 w N v l) (hl : 0 < l.length) (hb : w.cell? ⟨b, 1, none⟩ = some (.bool x)) : v.ownBlock ≠ some b := by
  rcases h.2 with ⟨rfl, _⟩ | ⟨g, cap, cur, rfl, _⟩
  · simp [Value.ownBlock]
  · intro e
    simp [Value.ownBlock] at e
    subst e
    have h1 := World.ownsRow.cellAt h 1 (by omega)
    rw [hb] at h1
    cases l with
    | nil => simp at hl
    | cons d r => simp [cLayer] at h1
end Go.Proofs.Ytaihdjdaamglnaa
/- Contracts of chapter 3: NewCore, the program's and the model's. -/
namespace Go.Proofs.Ytaihdjdaamglnaa
set_option linter.unusedVariables false
open Go.RowKit
def newCoreD (k : List UInt8) : CoreD := if 0 ≤ kindI k then ⟨k, false, false, [], 0⟩ else ⟨[], false, false, [], 0⟩
def GivesNew (k : List UInt8) (w : World) (e : Ending) (w' : World) : Prop := ∃ v, e = .returned (.tuple #[v, .bool (decide (0 ≤ kindI k))]) ∧ OwnsCore w' w.heap.size v (newCoreD k) ∧ Below w.heap.size w w'
theorem owns_zero (w : World) (B : Nat) (k : List UInt8) : OwnsCore w B (.agg #[.string ⟨k.toArray⟩, .bool false, .bool false, .slice none 0 0, .int .i64 0]) ⟨k, false, false, [], 0⟩ :=
  ⟨.slice none 0 0, rfl, rfl, Or.inl ⟨rfl, rfl⟩⟩
theorem newCoreD_yes {k : List UInt8} (h : decide (0 ≤ kindI k) = true) : newCoreD k = ⟨k, false, false, [], 0⟩ := if_pos (of_decide_eq_true h)
theorem newCoreD_no {k : List UInt8} (h : decide (0 ≤ kindI k) = false) : newCoreD k = ⟨[], false, false, [], 0⟩ := if_neg (of_decide_eq_false h)
theorem new_cells {f : FuncId} {args : Array Value} {k : List UInt8} {w : World} (h : Calls Try.prog f args w fun e w' => GivesNew k w e w') :
    Calls Try.prog f args w fun e w' => ∃ cv, e = .returned (.tuple #[vCore (newCoreD k) cv, .bool (decide (0 ≤ kindI k))]) ∧ OwnsF cCell 134 2 w' w.heap.size cv (newCoreD k).fCells ∧ Below w.heap.size w w' :=
  h.mono fun e w' ⟨v, h1, ⟨cv, h2, h3⟩, h4⟩ => ⟨cv, by rw [h1, h2], h3, h4⟩
set_option maxRecDepth 100000 in
set_option maxHeartbeats 1600000 in
theorem implNewCore_any (s : ByteArray) (w : World) (hs : s.size ≤ 1048576) :
    Calls Try.prog 98 #[.string s] w fun e w' => GivesNew s.data.toList w e w' := by
  have HK := Lib.hid (implKind_any s)
  have HC := Lib.hid (fun w0 => copyText_any s w0 (by omega))
  have HY := Lib.hid (@newCoreD_yes s.data.toList)
  have HN := Lib.hid (@newCoreD_no s.data.toList)
  have HS := Lib.hid (show (⟨s.data.toList.toArray⟩ : ByteArray) = s by simp)
  unfold GivesNew
  unfold kfV at HK
  generalize newCoreD s.data.toList = nc at *
  generalize kfI (kindI s.data.toList) = f at *
  generalize decide (0 ≤ kindI s.data.toList) = b at *
  generalize s.data.toList = l at *
  have hl := HS.out
  subst hl
  have HB0 := Lib.hid (show ∀ o, Below w.heap.size w (w.alloc o) from fun o => (Below.refl w.heap.size w).alloc (Nat.le_refl _) o)
  cases b with
  | false =>
    have HD := Lib.hid (HN.out rfl)
    go_enter Try.func98, Try.ntmps98
    go_wp2_with fail
    refine (HK.out _).mono ?_
    rintro e w1 ⟨rfl, rfl⟩
    go_wp2_with fail
    refine bodyPost_ret (v := .tuple #[.agg #[.string ⟨#[]⟩, .bool false, .bool false, .slice none 0 0, .int .i64 0], .bool false]) (by simp [results, Try.results98, go_sem]) rfl ⟨_, rfl, ?_, ?_⟩
    · rw [HD.out]; exact owns_zero _ _ []
    · first | exact HB0.out _ | (repeat (refine Below.setCell ?_ (by simp; try omega) _)
                                 exact HB0.out _)
  | true =>
    have HD := Lib.hid (HY.out rfl)
    go_enter Try.func98, Try.ntmps98
    go_wp2_with fail
    refine (HK.out _).mono ?_
    rintro e w1 ⟨rfl, rfl⟩
    go_wp2_with fail
    refine (HC.out _).mono ?_
    rintro e w1 ⟨rfl, hb⟩
    obtain ⟨hcc, hff⟩ := bcell hb
    simp at hcc hff
    have hsz := hb.size
    simp at hsz
    have HB := Lib.hid ((HB0.out _).trans (hb.mono (HB0.out _).size))
    clear hb
    go_wp2_with fail
    refine bodyPost_ret (v := .tuple #[.agg #[.string ⟨l.toArray⟩, .bool false, .bool false, .slice none 0 0, .int .i64 0], .bool true]) (by simp [results, Try.results98, go_sem, hcc]) rfl ⟨_, rfl, ?_, ?_⟩
    · rw [HD.out]; exact owns_zero _ _ l
    · repeat (refine Below.setCell ?_ (by simp; try omega) _)
      exact HB.out
set_option maxRecDepth 100000 in
set_option maxHeartbeats 1600000 in
theorem specNewCore_any (s : ByteArray) (w : World) (hs : s.size ≤ 1048576) :
    Calls Try.prog 141 #[.string s] w fun e w' => GivesNew s.data.toList w e w' := by
  have HK := Lib.hid (specKind_any s)
  have HY := Lib.hid (@newCoreD_yes s.data.toList)
  have HN := Lib.hid (@newCoreD_no s.data.toList)
  have HS := Lib.hid (show (⟨s.data.toList.toArray⟩ : ByteArray) = s by simp)
  unfold GivesNew
  unfold kfV at HK
  generalize newCoreD s.data.toList = nc at *
  generalize kfI (kindI s.data.toList) = f at *
  generalize decide (0 ≤ kindI s.data.toList) = b at *
  generalize s.data.toList = l at *
  have hl := HS.out
  subst hl
  have HB0 := Lib.hid (show ∀ o, Below w.heap.size w (w.alloc o) from fun o => (Below.refl w.heap.size w).alloc (Nat.le_refl _) o)
  cases b with
  | false =>
    have HD := Lib.hid (HN.out rfl)
    go_enter Try.func141, Try.ntmps141
    go_wp2_with fail
    refine (HK.out _).mono ?_
    rintro e w1 ⟨rfl, hb⟩
    obtain ⟨hcc, hff⟩ := bcell hb
    simp at hcc hff
    have hsz := hb.size
    simp at hsz
    have HB := Lib.hid ((HB0.out _).trans (hb.mono (HB0.out _).size))
    clear hb
    go_wp2_with fail
    refine bodyPost_ret (v := .tuple #[.agg #[.string ⟨#[]⟩, .bool false, .bool false, .slice none 0 0, .int .i64 0], .bool false]) (by simp [results, Try.results141, go_sem, hcc]) rfl ⟨_, rfl, ?_, ?_⟩
    · rw [HD.out]; exact owns_zero _ _ []
    · repeat (refine Below.setCell ?_ (by simp; try omega) _)
      exact HB.out
  | true =>
    have HD := Lib.hid (HY.out rfl)
    go_enter Try.func141, Try.ntmps141
    go_wp2_with fail
    refine (HK.out _).mono ?_
    rintro e w1 ⟨rfl, hb⟩
    obtain ⟨hcc, hff⟩ := bcell hb
    simp at hcc hff
    have hsz := hb.size
    simp at hsz
    have HB := Lib.hid ((HB0.out _).trans (hb.mono (HB0.out _).size))
    clear hb
    go_wp2_with fail
    refine bodyPost_ret (v := .tuple #[.agg #[.string ⟨l.toArray⟩, .bool false, .bool false, .slice none 0 0, .int .i64 0], .bool true]) (by simp [results, Try.results141, go_sem, hcc]) rfl ⟨_, rfl, ?_, ?_⟩
    · rw [HD.out]; exact owns_zero _ _ l
    · repeat (refine Below.setCell ?_ (by simp; try omega) _)
      exact HB.out
end Go.Proofs.Ytaihdjdaamglnaa
/- Contracts of chapter 4: NewPart, both sides; what marks do to a part without rows. -/
namespace Go.Proofs.Ytaihdjdaamglnaa
set_option linter.unusedVariables false
set_option linter.unusedSimpArgs false
open Go.RowKit
def nmK (l : List UInt8) : List UInt8 := if 0 ≤ kindI l then l else []
theorem newCore_is (l : List UInt8) : newCoreD l = ⟨nmK l, false, false, [], 0⟩ := by unfold newCoreD nmK; split <;> rfl
def vNP (l : List UInt8) (a : Option Addr) (c : Nat) : Value := .agg #[.string ⟨(nmK l).toArray⟩, .bool false, .bool false, .slice a 0 c, .int .i64 0, .slice none 0 0]
/-- the same, with the row of cells told as one's own -/
def GivesNPO (l : List UInt8) (w : World) (e : Ending) (w' : World) : Prop := ∃ a c, e = .returned (.tuple #[vNP l a c, .bool (decide (0 ≤ kindI l))]) ∧ OwnsF cCell 134 2 w' w.heap.size (.slice a 0 c) [] ∧ Below w.heap.size w w'
def GivesNP (l : List UInt8) (w : World) (e : Ending) (w' : World) : Prop := ∃ a c, e = .returned (.tuple #[vNP l a c, .bool (decide (0 ≤ kindI l))]) ∧ Below w.heap.size w w'
theorem flat_none {α : Type} (f : α → List Value) (k : Nat) (w : World) (a : Option Addr) (c : Nat) : FlatAt f k w (.slice a 0 c) ([] : List α) := ⟨a, c, by simp, by simp, Nat.zero_le _, Or.inl rfl⟩
theorem slice_none {α : Type} (R : Nat → World → List Value → α → Prop) (k F : Nat) (w : World) (a : Option Addr) (c : Nat) : SliceAt R k F w (.slice a 0 c) ([] : List α) := ⟨a, c, by simp, Nat.zero_le _, Or.inl rfl⟩
set_option maxRecDepth 100000 in
set_option maxHeartbeats 1600000 in
theorem implNewPart_own (s : ByteArray) (w : World) (hs : s.size ≤ 1048576) :
    Calls Try.prog 57 #[.string s] w fun e w' => GivesNPO s.data.toList w e w' := by
  have HC := Lib.hid (fun w0 => new_cells (implNewCore_any s w0 hs))
  have HS := Lib.hid (bx_start1 w [.string ⟨#[]⟩, .bool false, .bool false, .slice none 0 0, .int .i64 0, .slice none 0 0] 29)
  unfold GivesNPO vNP
  simp only [newCore_is, vCore] at HC
  generalize nmK s.data.toList = n at *
  generalize decide (0 ≤ kindI s.data.toList) = b at *
  clear hs
  go_enter Try.func57, Try.ntmps57
  go_wp2_with fail
  refine (HC.out _).mono ?_
  rintro e w1 ⟨cv, rfl, ho, hb⟩
  obtain ⟨a, c, rfl, _⟩ := flatAt_len (ownsF_at ho (by simp))
  have BN := Lib.hid (HS.out.1.below hb)
  have HB := Lib.hid (belS HS.out.2 hb)
  have OW := Lib.hid (ownsF_alloc (ownsF_put6 (ownsF_base (B' := w.heap.size + 1) ho (by simp)) w.heap.size (by omega) (.string ⟨n.toArray⟩) (.bool false) (.bool false) (.slice a 0 c) (.int .i64 0) (.slice none 0 0)) (.cells #[.string ⟨n.toArray⟩, .bool false, .bool false, .slice a 0 c, .int .i64 0] 26))
  clear ho hb
  have e0 := BN.out.cell 0 (by simp)
  have e1 := BN.out.cell 1 (by simp)
  have e2 := BN.out.cell 2 (by simp)
  have e3 := BN.out.cell 3 (by simp)
  have e4 := BN.out.cell 4 (by simp)
  have e5 := BN.out.cell 5 (by simp)
  have f0 := BN.out.froz 0 (by simp)
  have f1 := BN.out.froz 1 (by simp)
  have f2 := BN.out.froz 2 (by simp)
  have f3 := BN.out.froz 3 (by simp)
  have f4 := BN.out.froz 4 (by simp)
  have f5 := BN.out.froz 5 (by simp)
  have hl := BN.out.lt
  simp only [List.getElem_cons_zero, List.getElem_cons_succ] at e0 e1 e2 e3 e4 e5
  go_wp2_with fail
  clear e0 e1 e2 e3 e4 e5 f0 f1 f2 f3 f4 f5 hl
  have BN := Lib.hid (BN.out.set 0 (by simp) (.string ⟨n.toArray⟩))
  have HB := Lib.hid (HB.out.setCell (p := ⟨w.heap.size, 0, none⟩) (by simp) (.string ⟨n.toArray⟩))
  have BN := Lib.hid (BN.out.set 1 (by simp) (.bool false))
  have HB := Lib.hid (HB.out.setCell (p := ⟨w.heap.size, 1, none⟩) (by simp) (.bool false))
  have BN := Lib.hid (BN.out.set 2 (by simp) (.bool false))
  have HB := Lib.hid (HB.out.setCell (p := ⟨w.heap.size, 2, none⟩) (by simp) (.bool false))
  have BN := Lib.hid (BN.out.set 3 (by simp) (.slice a 0 c))
  have HB := Lib.hid (HB.out.setCell (p := ⟨w.heap.size, 3, none⟩) (by simp) (.slice a 0 c))
  have BN := Lib.hid (BN.out.set 4 (by simp) (.int .i64 0))
  have HB := Lib.hid (HB.out.setCell (p := ⟨w.heap.size, 4, none⟩) (by simp) (.int .i64 0))
  have BN := Lib.hid (BN.out.set 5 (by simp) (.slice none 0 0))
  have HB := Lib.hid (HB.out.setCell (p := ⟨w.heap.size, 5, none⟩) (by simp) (.slice none 0 0))
  have BN := Lib.hid (BN.out.alloc (.cells #[.string ⟨n.toArray⟩, .bool false, .bool false, .slice a 0 c, .int .i64 0] 26))
  have HB := Lib.hid (belS HB.out (bx_box _ (.cells #[.string ⟨n.toArray⟩, .bool false, .bool false, .slice a 0 c, .int .i64 0] 26)))
  simp only [List.set_cons_zero, List.set_cons_succ] at BN
  generalize (((((((w1).setCell ⟨w.heap.size, 0, none⟩ (.string ⟨n.toArray⟩)).setCell ⟨w.heap.size, 1, none⟩ (.bool false)).setCell ⟨w.heap.size, 2, none⟩ (.bool false)).setCell ⟨w.heap.size, 3, none⟩ (.slice a 0 c)).setCell ⟨w.heap.size, 4, none⟩ (.int .i64 0)).setCell ⟨w.heap.size, 5, none⟩ (.slice none 0 0)).alloc (.cells #[.string ⟨n.toArray⟩, .bool false, .bool false, .slice a 0 c, .int .i64 0] 26) = WE at *
  have e0 := BN.out.cell 0 (by simp)
  have e1 := BN.out.cell 1 (by simp)
  have e2 := BN.out.cell 2 (by simp)
  have e3 := BN.out.cell 3 (by simp)
  have e4 := BN.out.cell 4 (by simp)
  have e5 := BN.out.cell 5 (by simp)
  simp only [List.getElem_cons_zero, List.getElem_cons_succ] at e0 e1 e2 e3 e4 e5
  exact bodyPost_ret (v := .tuple #[.agg #[.string ⟨n.toArray⟩, .bool false, .bool false, .slice a 0 c, .int .i64 0, .slice none 0 0], .bool b]) (by simp [results, Try.results57, go_sem, e0, e1, e2, e3, e4, e5]) rfl ⟨a, c, rfl, ownsF_base OW.out (by omega), HB.out⟩
theorem implNewPart_any (s : ByteArray) (w : World) (hs : s.size ≤ 1048576) :
    Calls Try.prog 57 #[.string s] w fun e w' => GivesNP s.data.toList w e w' :=
  (implNewPart_own s w hs).mono fun e w' h => by
    obtain ⟨a, c, h1, _, h3⟩ := h
    exact ⟨a, c, h1, h3⟩
set_option maxRecDepth 100000 in
set_option maxHeartbeats 1600000 in
theorem specNewPart_own (s : ByteArray) (w : World) (hs : s.size ≤ 1048576) :
    Calls Try.prog 132 #[.string s] w fun e w' => GivesNPO s.data.toList w e w' := by
  have HC := Lib.hid (fun w0 => new_cells (specNewCore_any s w0 hs))
  have HS := Lib.hid (bx_start1 w [.string ⟨#[]⟩, .bool false, .bool false, .slice none 0 0, .int .i64 0, .slice none 0 0] 29)
  unfold GivesNPO vNP
  simp only [newCore_is, vCore] at HC
  generalize nmK s.data.toList = n at *
  generalize decide (0 ≤ kindI s.data.toList) = b at *
  clear hs
  go_enter Try.func132, Try.ntmps132
  go_wp2_with fail
  refine (HC.out _).mono ?_
  rintro e w1 ⟨cv, rfl, ho, hb⟩
  obtain ⟨a, c, rfl, _⟩ := flatAt_len (ownsF_at ho (by simp))
  have BN := Lib.hid (HS.out.1.below hb)
  have HB := Lib.hid (belS HS.out.2 hb)
  have OW := Lib.hid (ownsF_alloc (ownsF_put6 (ownsF_base (B' := w.heap.size + 1) ho (by simp)) w.heap.size (by omega) (.string ⟨n.toArray⟩) (.bool false) (.bool false) (.slice a 0 c) (.int .i64 0) (.slice none 0 0)) (.cells #[.string ⟨n.toArray⟩, .bool false, .bool false, .slice a 0 c, .int .i64 0] 26))
  clear ho hb
  have e0 := BN.out.cell 0 (by simp)
  have e1 := BN.out.cell 1 (by simp)
  have e2 := BN.out.cell 2 (by simp)
  have e3 := BN.out.cell 3 (by simp)
  have e4 := BN.out.cell 4 (by simp)
  have e5 := BN.out.cell 5 (by simp)
  have f0 := BN.out.froz 0 (by simp)
  have f1 := BN.out.froz 1 (by simp)
  have f2 := BN.out.froz 2 (by simp)
  have f3 := BN.out.froz 3 (by simp)
  have f4 := BN.out.froz 4 (by simp)
  have f5 := BN.out.froz 5 (by simp)
  have hl := BN.out.lt
  simp only [List.getElem_cons_zero, List.getElem_cons_succ] at e0 e1 e2 e3 e4 e5
  go_wp2_with fail
  clear e0 e1 e2 e3 e4 e5 f0 f1 f2 f3 f4 f5 hl
  have BN := Lib.hid (BN.out.set 0 (by simp) (.string ⟨n.toArray⟩))
  have HB := Lib.hid (HB.out.setCell (p := ⟨w.heap.size, 0, none⟩) (by simp) (.string ⟨n.toArray⟩))
  have BN := Lib.hid (BN.out.set 1 (by simp) (.bool false))
  have HB := Lib.hid (HB.out.setCell (p := ⟨w.heap.size, 1, none⟩) (by simp) (.bool false))
  have BN := Lib.hid (BN.out.set 2 (by simp) (.bool false))
  have HB := Lib.hid (HB.out.setCell (p := ⟨w.heap.size, 2, none⟩) (by simp) (.bool false))
  have BN := Lib.hid (BN.out.set 3 (by simp) (.slice a 0 c))
  have HB := Lib.hid (HB.out.setCell (p := ⟨w.heap.size, 3, none⟩) (by simp) (.slice a 0 c))
  have BN := Lib.hid (BN.out.set 4 (by simp) (.int .i64 0))
  have HB := Lib.hid (HB.out.setCell (p := ⟨w.heap.size, 4, none⟩) (by simp) (.int .i64 0))
  have BN := Lib.hid (BN.out.set 5 (by simp) (.slice none 0 0))
  have HB := Lib.hid (HB.out.setCell (p := ⟨w.heap.size, 5, none⟩) (by simp) (.slice none 0 0))
  have BN := Lib.hid (BN.out.alloc (.cells #[.string ⟨n.toArray⟩, .bool false, .bool false, .slice a 0 c, .int .i64 0] 26))
  have HB := Lib.hid (belS HB.out (bx_box _ (.cells #[.string ⟨n.toArray⟩, .bool false, .bool false, .slice a 0 c, .int .i64 0] 26)))
  simp only [List.set_cons_zero, List.set_cons_succ] at BN
  generalize (((((((w1).setCell ⟨w.heap.size, 0, none⟩ (.string ⟨n.toArray⟩)).setCell ⟨w.heap.size, 1, none⟩ (.bool false)).setCell ⟨w.heap.size, 2, none⟩ (.bool false)).setCell ⟨w.heap.size, 3, none⟩ (.slice a 0 c)).setCell ⟨w.heap.size, 4, none⟩ (.int .i64 0)).setCell ⟨w.heap.size, 5, none⟩ (.slice none 0 0)).alloc (.cells #[.string ⟨n.toArray⟩, .bool false, .bool false, .slice a 0 c, .int .i64 0] 26) = WE at *
  have e0 := BN.out.cell 0 (by simp)
  have e1 := BN.out.cell 1 (by simp)
  have e2 := BN.out.cell 2 (by simp)
  have e3 := BN.out.cell 3 (by simp)
  have e4 := BN.out.cell 4 (by simp)
  have e5 := BN.out.cell 5 (by simp)
  simp only [List.getElem_cons_zero, List.getElem_cons_succ] at e0 e1 e2 e3 e4 e5
  exact bodyPost_ret (v := .tuple #[.agg #[.string ⟨n.toArray⟩, .bool false, .bool false, .slice a 0 c, .int .i64 0, .slice none 0 0], .bool b]) (by simp [results, Try.results132, go_sem, e0, e1, e2, e3, e4, e5]) rfl ⟨a, c, rfl, ownsF_base OW.out (by omega), HB.out⟩
theorem specNewPart_any (s : ByteArray) (w : World) (hs : s.size ≤ 1048576) :
    Calls Try.prog 132 #[.string s] w fun e w' => GivesNP s.data.toList w e w' :=
  (specNewPart_own s w hs).mono fun e w' h => by
    obtain ⟨a, c, h1, _, h3⟩ := h
    exact ⟨a, c, h1, h3⟩
theorem np_at (l : List UInt8) (a : Option Addr) (c : Nat) (w : World) : ValAt rPart 0 w (vNP l a c) ⟨⟨nmK l, false, false, [], 0⟩, []⟩ := ⟨_, rfl, _, _, rfl, slice_none _ _ _ _ _ _, slice_none _ _ _ _ _ _⟩
set_option maxHeartbeats 400000 in
theorem markCells_none (a : Option Addr) (c : Nat) (k : Int) (w : World) : Calls Try.prog 73 #[.slice a 0 c, .int .i64 k] w fun e w' => e = .returned (.int .i64 k) ∧ w = w' := by
  go_enter Try.func73, Try.ntmps73
  go_wp2_with fail
  refine wp_loop_rounds 1 ?_
  rw [rounds_succ]
  go_wp2_with fail
  go_ret
  exact ⟨rfl, rfl⟩
set_option maxHeartbeats 400000 in
theorem markLayers_none (a : Option Addr) (c : Nat) (k : Int) (w : World) : Calls Try.prog 74 #[.slice a 0 c, .int .i64 k] w fun e w' => e = .returned (.int .i64 k) ∧ w = w' := by
  go_enter Try.func74, Try.ntmps74
  go_wp2_with fail
  refine wp_loop_rounds 1 ?_
  rw [rounds_succ]
  go_wp2_with fail
  go_ret
  exact ⟨rfl, rfl⟩
end Go.Proofs.Ytaihdjdaamglnaa
/- Recipes made, in plain words. -/
namespace Go.Proofs.Ytaihdjdaamglnaa
set_option linter.unusedVariables false
set_option linter.unusedSimpArgs false
open Go.RowKit
def zeroP : PartD := ⟨⟨[], false, false, [], 0⟩, []⟩
def newP (k : List UInt8) : PartD := ⟨⟨k, false, false, [], 0⟩, []⟩
def makeGo : PartD → List (List UInt8) → PartD × ReplyD
  | p, [] => (p, ⟨0, faceP p, [], 0, 0⟩)
  | p, s :: r => if wrapI p s = 0 then makeGo (wrapP p s) r else (zeroP, wrapR p s)
def makePR : List (List UInt8) → PartD × ReplyD
  | [] => (zeroP, ⟨7, 0, [], 0, 0⟩)
  | k :: r => if 0 ≤ kindI k then makeGo (newP k) r else (zeroP, ⟨7, 0, [], 0, 0⟩)
theorem makeGo_stop {p : PartD} {s : List UInt8} {r : List (List UInt8)} (h : ¬ wrapI p s = 0) : makeGo p (s :: r) = (zeroP, wrapR p s) := if_neg h
theorem makeGo_on {p : PartD} {s : List UInt8} {r : List (List UInt8)} (h : wrapI p s = 0) : makeGo p (s :: r) = makeGo (wrapP p s) r := if_pos h
theorem ownsF_nil {α : Type} (f : α → List Value) (E k : Nat) (w : World) (B : Nat) : OwnsF f E k w B (.slice none 0 0) [] := ⟨by simp, Or.inl ⟨rfl, rfl⟩⟩
theorem wrapP_core (p : PartD) (s : List UInt8) : (wrapP p s).fCore = p.fCore := by unfold wrapP; split <;> rfl
theorem newP_small {k : List UInt8} (h : k.length ≤ 1048576) : SmallP (newP k) := smallP_of (by unfold zPart zCore newP; simp [sumF]; exact h)
theorem zeroP_small : SmallP zeroP := smallP_of (by decide)
theorem makeGo_small (r : List (List UInt8)) : ∀ {p : PartD}, SmallP p → SmallP (makeGo p r).1 := by
  induction r with
  | nil => intro p h; exact h
  | cons s r ih =>
    intro p h
    by_cases hw : wrapI p s = 0
    · rw [makeGo_on hw]; exact ih (wrapP_small h s)
    · rw [makeGo_stop hw]; exact zeroP_small
theorem makePR_small {l : List (List UInt8)} (h : ∀ s ∈ l, s.length ≤ 1048576) : SmallP (makePR l).1 := by
  cases l with
  | nil => exact zeroP_small
  | cons k r =>
    by_cases hk : 0 ≤ kindI k
    · rw [makePR, if_pos hk]; exact makeGo_small r (newP_small (h k (List.mem_cons_self ..)))
    · rw [makePR, if_neg hk]; exact zeroP_small
theorem makeGo_val (r : List (List UInt8)) : ∀ {p : PartD}, (makeGo p r).2.fCode = 0 → (makeGo p r).2.fValue = faceP (makeGo p r).1 := by
  induction r with
  | nil => intro p h; rfl
  | cons s r ih =>
    intro p h
    by_cases hw : wrapI p s = 0
    · rw [makeGo_on hw] at h ⊢; exact ih h
    · rw [makeGo_stop hw] at h; exact absurd h hw
theorem makePR_val {l : List (List UInt8)} : (makePR l).2.fCode = 0 → (makePR l).2.fValue = faceP (makePR l).1 := by
  cases l with
  | nil => intro h; cases h
  | cons k r =>
    by_cases hk : 0 ≤ kindI k
    · rw [makePR, if_pos hk]; exact makeGo_val r
    · rw [makePR, if_neg hk]; intro h; cases h
def recB (l : List (List UInt8)) : Bool := decide ((makePR l).2.fCode = 0)
def recI (l : List (List UInt8)) : Int := if (makePR l).2.fCode = 0 then faceP (makePR l).1 else 0
/-- the state of the loop: the part so far, in a variable of its own -/
structure MkSt (w : World) (b4 : Nat) (p : PartD) (wr : World) : Prop where
  small : SmallP p
  bare : p.fCore.fCells = []
  part : ∃ cs, Bx wr b4 cs ∧ oPart wr (w.heap.size + 1 + 1) cs p
  r2 : Bx wr w.heap.size [.string ⟨#[]⟩, .bool false, .bool false, .slice none 0 0, .int .i64 0, .slice none 0 0]
  r3 : Bx wr (w.heap.size + 1) [.int .i64 0, .int .i64 0, .string ⟨#[]⟩, .int .i64 0, .int .i64 0]
  below : Below w.heap.size w wr
end Go.Proofs.Ytaihdjdaamglnaa
/- Contracts of chapter 4: IsPart, the model's. -/
namespace Go.Proofs.Ytaihdjdaamglnaa
set_option linter.unusedVariables false
set_option linter.unusedSimpArgs false
open Go.RowKit
set_option maxRecDepth 100000 in
set_option maxHeartbeats 3200000 in
theorem specIsPart_any (v : Value) (x : PartD) (w : World) (hx : ValAt rPart 0 w v x) (hs : ∀ c ∈ x.fCore.fCells, c.fKey.length ≤ maxLen) :
    Calls Try.prog 128 #[v] w fun e w' => e = .returned (.bool (partB x)) ∧ Below w.heap.size w w' := by
  obtain ⟨_, rfl, hx⟩ := hx
  have HX := Lib.hid hx
  have HBAD := Lib.hid (fun k => partB_bad (x := x) (k := k))
  have HOK := Lib.hid (fun i h y hy => layOk_of x i h y hy)
  have HSU := Lib.hid (layTo_succ x)
  have HFN := Lib.hid (faceN_take x.fCore x.fLayers)
  have HP := Lib.hid (show partB x = (coreB x.fCore && decide (x.fLayers.length ≤ 3) && layTo x x.fLayers.length) from rfl)
  obtain ⟨xc, ls⟩ := x
  obtain ⟨v3, v5, rfl, h3, h5⟩ := hx
  have HC := Lib.hid (fun W (hb : Below w.heap.size w W) => specIsCore_any (vCore xc v3) xc W ⟨v3, rfl, FlatAt.below (flatAt_of_slice cCell_len (by decide) h3) hb (Nat.le_refl _)⟩ hs)
  obtain ⟨a0, a1, a2, a3, a4⟩ := xc
  unfold vCore at HC
  simp only at h3 h5 HX HC HP HFN HBAD HOK
  obtain ⟨ra, rc, rfl, _⟩ := sliceAt_len h3
  obtain ⟨sa, sc, rfl, hl, hcap⟩ := sliceAt_cap h5
  have H5 := Lib.hid h5
  have H3 := Lib.hid h3
  unfold maxLen at hl
  have HB0 := Lib.hid (show ∀ o, Below w.heap.size w (w.alloc o) from fun o => part_box w o)
  have HS0 := Lib.hid (Bx.new w [.string ⟨a0.toArray⟩, .bool a1, .bool a2, .slice ra a3.length rc, .int .i64 a4, .slice sa ls.length sc] 29)
  clear h3 h5
  have HPB := Lib.hid (show partB ⟨⟨a0, a1, a2, a3, a4⟩, ls⟩ = partB ⟨⟨a0, a1, a2, a3, a4⟩, ls⟩ from rfl)
  generalize partB ⟨⟨a0, a1, a2, a3, a4⟩, ls⟩ = pb at *
  have HCB := Lib.hid (show coreB ⟨a0, a1, a2, a3, a4⟩ = coreB ⟨a0, a1, a2, a3, a4⟩ from rfl)
  generalize coreB ⟨a0, a1, a2, a3, a4⟩ = cb at *
  clear HPB HCB HX
  cases cb with
  | false =>
    have HR := Lib.hid (show pb = false by rw [HP.out]; rfl)
    go_enter Try.func128, Try.ntmps128
    go_wp2_with fail
    refine (HC.out _ (HB0.out _)).mono ?_
    rintro e w1 ⟨rfl, hb⟩
    have HB := Lib.hid (belS (HB0.out _) hb)
    clear hb
    go_wp2_with fail
    go_ret
    exact ⟨ret_bool HR.out.symm, HB.out⟩
  | true =>
    by_cases h3 : 3 < ls.length
    · have HR := Lib.hid (show pb = false by rw [HP.out, show decide (ls.length ≤ 3) = false by simpa using h3]; rfl)
      go_enter Try.func128, Try.ntmps128
      go_wp2_with fail
      refine (HC.out _ (HB0.out _)).mono ?_
      rintro e w1 ⟨rfl, hb⟩
      have HB := Lib.hid (belS (HB0.out _) hb)
      have BX := Lib.hid (HS0.out.below hb)
      clear hb
      have e0 := BX.out.cell 0 (by simp)
      have e1 := BX.out.cell 1 (by simp)
      have e2 := BX.out.cell 2 (by simp)
      have e3 := BX.out.cell 3 (by simp)
      have e4 := BX.out.cell 4 (by simp)
      have e5 := BX.out.cell 5 (by simp)
      simp only [List.getElem_cons_zero, List.getElem_cons_succ] at e0 e1 e2 e3 e4 e5
      go_wp2_with fail
      go_ret
      exact ⟨ret_bool HR.out.symm, HB.out⟩
    · have HR := Lib.hid (show pb = layTo ⟨⟨a0, a1, a2, a3, a4⟩, ls⟩ ls.length by rw [HP.out, show decide (ls.length ≤ 3) = true by simpa using h3]; simp)
      go_enter Try.func128, Try.ntmps128
      go_wp2_with fail
      refine (HC.out _ (HB0.out _)).mono ?_
      rintro e w1 ⟨rfl, hb⟩
      have HB := Lib.hid (belS (HB0.out _) hb)
      have BX := Lib.hid (HS0.out.below hb)
      clear hb
      have e0 := BX.out.cell 0 (by simp)
      have e1 := BX.out.cell 1 (by simp)
      have e2 := BX.out.cell 2 (by simp)
      have e3 := BX.out.cell 3 (by simp)
      have e4 := BX.out.cell 4 (by simp)
      have e5 := BX.out.cell 5 (by simp)
      simp only [List.getElem_cons_zero, List.getElem_cons_succ] at e0 e1 e2 e3 e4 e5
      go_wp2_with fail
      clear e0 e1 e2 e3 e4 e5
      go_loopw [3, 4, 21] (fun _ _ i wr => ∃ k : Nat, k ≤ ls.length ∧ i = .int .i64 k ∧ layTo ⟨⟨a0, a1, a2, a3, a4⟩, ls⟩ k = true ∧ Below w.heap.size w wr ∧ Bx wr w.heap.size [.string ⟨a0.toArray⟩, .bool a1, .bool a2, .slice ra a3.length rc, .int .i64 a4, .slice sa ls.length sc]) (fun _ _ i _ => ls.length - (intOf i).toNat)
      case atStart => exact ⟨0, Nat.zero_le _, rfl, rfl, HB.out, BX.out⟩
      case round =>
        obtain ⟨k, hk, rfl, ht, hbr, hbx⟩ := hrel
        have HT := Lib.hid ht
        have HBr := Lib.hid hbr
        have BXr := Lib.hid hbx
        have HXr := Lib.hid (SliceAt.below H5.out (good_flat cLayer_len) hbr (Nat.le_refl _))
        clear ht hbr hbx
        by_cases hlt : k < ls.length
        · obtain ⟨b, o, cs, rfl, hbw, hat, hd⟩ := sliceAt_cell HXr.out k hlt
          have HLO := Lib.hid (HOK.out k hlt _ rfl)
          have HBD := Lib.hid (fun h => HBAD.out k hlt h)
          have HNX := Lib.hid (show layOk ⟨⟨a0, a1, a2, a3, a4⟩, ls⟩ k = true → layTo ⟨⟨a0, a1, a2, a3, a4⟩, ls⟩ (k + 1) = true from fun h => by rw [HSU.out, HT.out, h]; rfl)
          have HFO := Lib.hid (fun W hW => l4Face_any (.agg #[.string ⟨a0.toArray⟩, .bool a1, .bool a2, .slice ra a3.length rc, .int .i64 a4, .slice (some ⟨b, o, none⟩) ls.length sc]) ⟨⟨a0, a1, a2, a3, a4⟩, ls⟩ k W ⟨_, rfl, _, _, rfl, SliceAt.below H3.out (good_flat cCell_len) hW (Nat.le_refl _), SliceAt.below H5.out (good_flat cLayer_len) hW (Nat.le_refl _)⟩ (Nat.le_of_lt hlt))
          generalize ls[k] = z at *
          obtain ⟨z0, z1⟩ := z
          simp only [rFlat, cLayer] at hat HLO
          subst hat
          have d0 := hd 0 (by decide)
          have d1 := hd 1 (by decide)
          simp only [List.getElem?_cons_zero, List.getElem?_cons_succ, Nat.add_zero] at d0 d1
          have HLN := Lib.hid (specLayerNeeds_any ⟨z0.toArray⟩)
          simp only [ndV, List.toList_toArray] at HLN
          have HOF := Lib.hid (specOffers_any (faceN ⟨⟨a0, a1, a2, a3, a4⟩, ls⟩ k) (needI (layI z0)))
          have hkc : (k : Int) < (ls.length : Int) := by omega
          generalize layOk ⟨⟨a0, a1, a2, a3, a4⟩, ls⟩ k = lo at *
          generalize faceN ⟨⟨a0, a1, a2, a3, a4⟩, ls⟩ k = fc at *
          generalize needI (layI z0) = nd at *
          generalize offersF fc nd = ob at *
          generalize hge : decide (0 ≤ layI z0) = q at *
          clear hd hge HXr
          have HW0 := Lib.hid (part_box wr (.cells #[.string ⟨z0.toArray⟩, .int .i64 z1] 81))
          have BL := Lib.hid (Bx.new wr [.string ⟨z0.toArray⟩, .int .i64 z1] 81)
          have BX1 := Lib.hid (BXr.out.alloc (.cells #[.string ⟨z0.toArray⟩, .int .i64 z1] 81))
          have HB1 := Lib.hid (belS HBr.out HW0.out)
          by_cases h0 : z0 = [99, 111, 117, 110, 116, 115]
          · subst h0
            have HCD := Lib.hid (show countedB [99, 111, 117, 110, 116, 115] = true from rfl)
            have HCN := Lib.hid (show True from trivial)
            have e0 := BX1.out.cell 0 (by simp)
            have e1 := BX1.out.cell 1 (by simp)
            have e2 := BX1.out.cell 2 (by simp)
            have e3 := BX1.out.cell 3 (by simp)
            have e4 := BX1.out.cell 4 (by simp)
            have e5 := BX1.out.cell 5 (by simp)
            simp only [List.getElem_cons_zero, List.getElem_cons_succ] at e0 e1 e2 e3 e4 e5
            go_wp2_with fail
            refine (HLN.out _).mono ?_
            rintro e w2 ⟨rfl, hb⟩
            have HB2 := Lib.hid (belS HB1.out hb)
            have BL2 := Lib.hid (BL.out.below hb)
            have BX2 := Lib.hid (BX1.out.below hb)
            clear hb
            clear e0 e1 e2 e3 e4 e5
            have e0 := BX2.out.cell 0 (by simp)
            have e1 := BX2.out.cell 1 (by simp)
            have e2 := BX2.out.cell 2 (by simp)
            have e3 := BX2.out.cell 3 (by simp)
            have e4 := BX2.out.cell 4 (by simp)
            have e5 := BX2.out.cell 5 (by simp)
            simp only [List.getElem_cons_zero, List.getElem_cons_succ] at e0 e1 e2 e3 e4 e5
            have g0 := BL2.out.cell 0 (by simp)
            have g1 := BL2.out.cell 1 (by simp)
            simp only [List.getElem_cons_zero, List.getElem_cons_succ] at g0 g1
            cases q with
            | false =>
              have HR2 := Lib.hid (show pb = false from HBD.out (by rw [HLO.out]; rfl))
              go_wp2_with fail
              go_ret
              exact ⟨ret_bool HR2.out.symm, HB2.out⟩
            | true =>
              go_wp2_with fail
              refine (HFO.out _ HB2.out).mono ?_
              rintro e w3 ⟨rfl, hb⟩
              have HB3 := Lib.hid (belS HB2.out hb)
              have BL3 := Lib.hid (BL2.out.below hb)
              have BX3 := Lib.hid (BX2.out.below hb)
              clear hb
              clear e0 e1 e2 e3 e4 e5 g0 g1
              have g0 := BL3.out.cell 0 (by simp)
              have g1 := BL3.out.cell 1 (by simp)
              simp only [List.getElem_cons_zero, List.getElem_cons_succ] at g0 g1
              cases ob with
              | false =>
                have HR2 := Lib.hid (show pb = false from HBD.out (by rw [HLO.out]; rfl))
                go_wp2_with (first | (go_at_call 81; (with_reducible refine (HOF.out _).mono ?_); rintro e w' ⟨rfl, rfl⟩))
                go_ret
                exact ⟨ret_bool HR2.out.symm, HB3.out⟩
              | true =>
                by_cases hc0 : z1 < 0
                · skip
                  have HR2 := Lib.hid (show pb = false from HBD.out (by rw [HLO.out]; unfold cntB; rw [HCD.out]; simp [numB]; omega))
                  go_wp2_with (first | (go_at_call 81; (with_reducible refine (HOF.out _).mono ?_); rintro e w' ⟨rfl, rfl⟩))
                  go_ret
                  exact ⟨ret_bool HR2.out.symm, HB3.out⟩
                · by_cases hc9 : 999 < z1
                  · skip
                    have HR2 := Lib.hid (show pb = false from HBD.out (by rw [HLO.out]; unfold cntB; rw [HCD.out]; simp [numB]; omega))
                    go_wp2_with (first | (go_at_call 81; (with_reducible refine (HOF.out _).mono ?_); rintro e w' ⟨rfl, rfl⟩))
                    go_ret
                    exact ⟨ret_bool HR2.out.symm, HB3.out⟩
                  · have HR2 := Lib.hid (HNX.out (by rw [HLO.out]; unfold cntB; rw [HCD.out]; simp [numB]; omega))
                    by_cases hcp : 0 < z1
                    · go_wp2_with (first | (go_at_call 81; (with_reducible refine (HOF.out _).mono ?_); rintro e w' ⟨rfl, rfl⟩))
                      exact ⟨⟨k + 1, by omega, by go_num, HR2.out, HB3.out, BX3.out⟩, by simp [intOf]; omega⟩
                    · go_wp2_with (first | (go_at_call 81; (with_reducible refine (HOF.out _).mono ?_); rintro e w' ⟨rfl, rfl⟩))
                      exact ⟨⟨k + 1, by omega, by go_num, HR2.out, HB3.out, BX3.out⟩, by simp [intOf]; omega⟩
          · by_cases h1 : z0 = [104, 101, 97, 114, 115]
            · subst h1
              clear h0
              have HCD := Lib.hid (show countedB [104, 101, 97, 114, 115] = true from rfl)
              have e0 := BX1.out.cell 0 (by simp)
              have e1 := BX1.out.cell 1 (by simp)
              have e2 := BX1.out.cell 2 (by simp)
              have e3 := BX1.out.cell 3 (by simp)
              have e4 := BX1.out.cell 4 (by simp)
              have e5 := BX1.out.cell 5 (by simp)
              simp only [List.getElem_cons_zero, List.getElem_cons_succ] at e0 e1 e2 e3 e4 e5
              go_wp2_with fail
              refine (HLN.out _).mono ?_
              rintro e w2 ⟨rfl, hb⟩
              have HB2 := Lib.hid (belS HB1.out hb)
              have BL2 := Lib.hid (BL.out.below hb)
              have BX2 := Lib.hid (BX1.out.below hb)
              clear hb
              clear e0 e1 e2 e3 e4 e5
              have e0 := BX2.out.cell 0 (by simp)
              have e1 := BX2.out.cell 1 (by simp)
              have e2 := BX2.out.cell 2 (by simp)
              have e3 := BX2.out.cell 3 (by simp)
              have e4 := BX2.out.cell 4 (by simp)
              have e5 := BX2.out.cell 5 (by simp)
              simp only [List.getElem_cons_zero, List.getElem_cons_succ] at e0 e1 e2 e3 e4 e5
              have g0 := BL2.out.cell 0 (by simp)
              have g1 := BL2.out.cell 1 (by simp)
              simp only [List.getElem_cons_zero, List.getElem_cons_succ] at g0 g1
              cases q with
              | false =>
                have HR2 := Lib.hid (show pb = false from HBD.out (by rw [HLO.out]; rfl))
                go_wp2_with fail
                go_ret
                exact ⟨ret_bool HR2.out.symm, HB2.out⟩
              | true =>
                go_wp2_with fail
                refine (HFO.out _ HB2.out).mono ?_
                rintro e w3 ⟨rfl, hb⟩
                have HB3 := Lib.hid (belS HB2.out hb)
                have BL3 := Lib.hid (BL2.out.below hb)
                have BX3 := Lib.hid (BX2.out.below hb)
                clear hb
                clear e0 e1 e2 e3 e4 e5 g0 g1
                have g0 := BL3.out.cell 0 (by simp)
                have g1 := BL3.out.cell 1 (by simp)
                simp only [List.getElem_cons_zero, List.getElem_cons_succ] at g0 g1
                cases ob with
                | false =>
                  have HR2 := Lib.hid (show pb = false from HBD.out (by rw [HLO.out]; rfl))
                  go_wp2_with (first | (go_at_call 81; (with_reducible refine (HOF.out _).mono ?_); rintro e w' ⟨rfl, rfl⟩))
                  go_ret
                  exact ⟨ret_bool HR2.out.symm, HB3.out⟩
                | true =>
                  by_cases hc0 : z1 < 0
                  · skip
                    have HR2 := Lib.hid (show pb = false from HBD.out (by rw [HLO.out]; unfold cntB; rw [HCD.out]; simp [numB]; omega))
                    go_wp2_with (first | (go_at_call 81; (with_reducible refine (HOF.out _).mono ?_); rintro e w' ⟨rfl, rfl⟩))
                    go_ret
                    exact ⟨ret_bool HR2.out.symm, HB3.out⟩
                  · by_cases hc9 : 999 < z1
                    · skip
                      have HR2 := Lib.hid (show pb = false from HBD.out (by rw [HLO.out]; unfold cntB; rw [HCD.out]; simp [numB]; omega))
                      go_wp2_with (first | (go_at_call 81; (with_reducible refine (HOF.out _).mono ?_); rintro e w' ⟨rfl, rfl⟩))
                      go_ret
                      exact ⟨ret_bool HR2.out.symm, HB3.out⟩
                    · have HR2 := Lib.hid (HNX.out (by rw [HLO.out]; unfold cntB; rw [HCD.out]; simp [numB]; omega))
                      by_cases hcp : 0 < z1
                      · go_wp2_with (first | (go_at_call 81; (with_reducible refine (HOF.out _).mono ?_); rintro e w' ⟨rfl, rfl⟩))
                        exact ⟨⟨k + 1, by omega, by go_num, HR2.out, HB3.out, BX3.out⟩, by simp [intOf]; omega⟩
                      · go_wp2_with (first | (go_at_call 81; (with_reducible refine (HOF.out _).mono ?_); rintro e w' ⟨rfl, rfl⟩))
                        exact ⟨⟨k + 1, by omega, by go_num, HR2.out, HB3.out, BX3.out⟩, by simp [intOf]; omega⟩
            · have HCD := Lib.hid (show countedB z0 = false by simp [countedB, h0, h1])
              have k0 : (z0 == [99, 111, 117, 110, 116, 115]) = false := by simp [h0]
              have k1 : (z0 == [104, 101, 97, 114, 115]) = false := by simp [h1]
              clear h0 h1
              have e0 := BX1.out.cell 0 (by simp)
              have e1 := BX1.out.cell 1 (by simp)
              have e2 := BX1.out.cell 2 (by simp)
              have e3 := BX1.out.cell 3 (by simp)
              have e4 := BX1.out.cell 4 (by simp)
              have e5 := BX1.out.cell 5 (by simp)
              simp only [List.getElem_cons_zero, List.getElem_cons_succ] at e0 e1 e2 e3 e4 e5
              go_wp2_with fail
              refine (HLN.out _).mono ?_
              rintro e w2 ⟨rfl, hb⟩
              have HB2 := Lib.hid (belS HB1.out hb)
              have BL2 := Lib.hid (BL.out.below hb)
              have BX2 := Lib.hid (BX1.out.below hb)
              clear hb
              clear e0 e1 e2 e3 e4 e5
              have e0 := BX2.out.cell 0 (by simp)
              have e1 := BX2.out.cell 1 (by simp)
              have e2 := BX2.out.cell 2 (by simp)
              have e3 := BX2.out.cell 3 (by simp)
              have e4 := BX2.out.cell 4 (by simp)
              have e5 := BX2.out.cell 5 (by simp)
              simp only [List.getElem_cons_zero, List.getElem_cons_succ] at e0 e1 e2 e3 e4 e5
              have g0 := BL2.out.cell 0 (by simp)
              have g1 := BL2.out.cell 1 (by simp)
              simp only [List.getElem_cons_zero, List.getElem_cons_succ] at g0 g1
              cases q with
              | false =>
                have HR2 := Lib.hid (show pb = false from HBD.out (by rw [HLO.out]; rfl))
                go_wp2_with fail
                go_ret
                exact ⟨ret_bool HR2.out.symm, HB2.out⟩
              | true =>
                go_wp2_with fail
                refine (HFO.out _ HB2.out).mono ?_
                rintro e w3 ⟨rfl, hb⟩
                have HB3 := Lib.hid (belS HB2.out hb)
                have BL3 := Lib.hid (BL2.out.below hb)
                have BX3 := Lib.hid (BX2.out.below hb)
                clear hb
                clear e0 e1 e2 e3 e4 e5 g0 g1
                have g0 := BL3.out.cell 0 (by simp)
                have g1 := BL3.out.cell 1 (by simp)
                simp only [List.getElem_cons_zero, List.getElem_cons_succ] at g0 g1
                cases ob with
                | false =>
                  have HR2 := Lib.hid (show pb = false from HBD.out (by rw [HLO.out]; rfl))
                  go_wp2_with (first | (go_at_call 81; (with_reducible refine (HOF.out _).mono ?_); rintro e w' ⟨rfl, rfl⟩))
                  go_ret
                  exact ⟨ret_bool HR2.out.symm, HB3.out⟩
                | true =>
                  by_cases hc0 : z1 < 0
                  · skip
                    have HR2 := Lib.hid (show pb = false from HBD.out (by rw [HLO.out]; unfold cntB; rw [HCD.out]; simp; omega))
                    go_wp2_with (first | (go_at_call 81; (with_reducible refine (HOF.out _).mono ?_); rintro e w' ⟨rfl, rfl⟩))
                    go_ret
                    exact ⟨ret_bool HR2.out.symm, HB3.out⟩
                  · by_cases hc9 : 999 < z1
                    · skip
                      have HR2 := Lib.hid (show pb = false from HBD.out (by rw [HLO.out]; unfold cntB; rw [HCD.out]; simp; omega))
                      go_wp2_with (first | (go_at_call 81; (with_reducible refine (HOF.out _).mono ?_); rintro e w' ⟨rfl, rfl⟩))
                      go_ret
                      exact ⟨ret_bool HR2.out.symm, HB3.out⟩
                    · by_cases hcp : 0 < z1
                      · skip
                        have HR2 := Lib.hid (show pb = false from HBD.out (by rw [HLO.out]; unfold cntB; rw [HCD.out]; simp; omega))
                        go_wp2_with (first | (go_at_call 81; (with_reducible refine (HOF.out _).mono ?_); rintro e w' ⟨rfl, rfl⟩))
                        go_ret
                        exact ⟨ret_bool HR2.out.symm, HB3.out⟩
                      · have HR2 := Lib.hid (HNX.out (by rw [HLO.out]; unfold cntB; rw [HCD.out]; simp; omega))
                        go_wp2_with (first | (go_at_call 81; (with_reducible refine (HOF.out _).mono ?_); rintro e w' ⟨rfl, rfl⟩))
                        exact ⟨⟨k + 1, by omega, by go_num, HR2.out, HB3.out, BX3.out⟩, by simp [intOf]; omega⟩
        · have HR2 := Lib.hid (show pb = true by rw [HR.out]; have h := HT.out; rwa [show k = ls.length by omega] at h)
          go_wp2
          go_ret
          exact ⟨ret_bool HR2.out.symm, HBr.out⟩
end Go.Proofs.Ytaihdjdaamglnaa
/- the model's l3Copy -/
namespace Go.Proofs.Ytaihdjdaamglnaa
set_option linter.unusedVariables false
set_option linter.unusedSimpArgs false
open Go.RowKit
set_option maxRecDepth 100000 in
set_option maxHeartbeats 3200000 in
theorem l3Copy_any (v : Value) (d : CoreD) (w : World) (hx : CoreAt w v d) (hm : d.fCells.length ≤ 2097152) :
    Calls Try.prog 138 #[v] w fun e w' => GivesCore d w e w' := by
  obtain ⟨cv, rfl, hx⟩ := hx
  obtain ⟨i0, hi, hz0, hz1, hz2⟩ := info_parts cell_info
  obtain ⟨kd, on, br, l, cnt⟩ := d
  unfold vCore
  simp only at *
  have HX := Lib.hid hx
  obtain ⟨a, c, rfl, hml⟩ := flatAt_len hx
  clear hx
  have HB3 := Lib.hid (show ∀ o1 o2 o3, Below w.heap.size w (((w.alloc o1).alloc o2).alloc o3) from fun o1 o2 o3 => (((Below.refl _ _).alloc (Nat.le_refl _) _).alloc (by simp) _).alloc (by simp; omega) _)
  have HO3 := Lib.hid (show ∀ o1 o2, OwnsF cCell 134 2 (((w.alloc o1).alloc o2).alloc (.cells #[] 134)) (w.heap.size + 1 + 1) (.slice (some ⟨w.heap.size + 1 + 1, 0, none⟩) 0 0) [] from fun o1 o2 => by have h := ownsF_new cCell 134 2 ((w.alloc o1).alloc o2); simpa using h)
  cases a with
  | none =>
    have hl0 : l = [] := by
      obtain ⟨a', c', e, _, _, h⟩ := HX.out
      injection e with e1 e2
      rcases h with h | ⟨b, o, rfl, _⟩
      · exact List.eq_nil_of_length_eq_zero h
      · simp at e1
    subst hl0
    simp only [List.length_nil] at *
    go_enter Try.func138, Try.ntmps138
    go_wp2_with fail
    refine bodyPost_ret (v := .agg #[.string ⟨kd.toArray⟩, .bool on, .bool br, .slice (some ⟨w.heap.size + 1 + 1, 0, none⟩) 0 0, .int .i64 cnt]) (by simp [results, Try.results138, go_sem, cell_set_at, cell_set_ne]) rfl ?_
    exact ⟨_, rfl, ⟨_, rfl, ownsF_base (HO3.out _ _) (by omega)⟩, HB3.out _ _ _⟩
  | some ad =>
    have HN := Lib.hid (fun o1 o2 o3 => show ∀ j u, (l.flatMap cCell)[j]? = some u → (((w.alloc o1).alloc o2).alloc o3).cell? (ad.add j) = some u from fun j u hj => by
      have h9 := HX.out.below (HB3.out o1 o2 o3) (Nat.le_refl _)
      obtain ⟨a', c', e, _, _, h⟩ := h9
      injection e with e1 e2
      have hjl : j < (l.flatMap cCell).length := (List.getElem?_eq_some_iff.1 hj).1
      rw [flat_len cCell 2 cCell_len] at hjl
      rcases h with h | ⟨b, o, rfl, _, h⟩
      · omega
      · injection e1 with e1
        subst e1
        rw [Addr.add_lit, h j hjl]; exact hj)
    have h1c : ∀ u ∈ l.flatMap cCell, u.oneCell' = true := fun u hu => by
      obtain ⟨y, _, hy⟩ := List.mem_flatMap.1 hu
      exact cCell_one y u hy
    have hfl := flat_len cCell 2 cCell_len l
    have H1 := Lib.hid h1c
    have HFL := Lib.hid hfl
    clear h1c hfl
    go_enter Try.func138, Try.ntmps138
    go_wp2_with (at_builtin; refine wpList_append_own _ rfl _ _ 24 rfl (w.heap.size + 1 + 1) 134 i0 _ 2 24 Try.underlying24 hi hz0 hz1 hz2 rfl (by decide) (.slice (some ⟨w.heap.size + 1 + 1, 0, none⟩) 0 0) 0 [] (by rfl) (HO3.out _ _) ad l.length c (l.flatMap cCell) (by rfl) HFL.out (HN.out _ _ _) H1.out (by unfold maxLen; omega) (by omega) (by simp; try omega) ?_; intro v' w' ho hgr hnil; clear hnil; have q0 : w'.cell? ⟨w.heap.size, 0, none⟩ = some (.string ⟨kd.toArray⟩) := (hgr.cell_far ⟨w.heap.size, 0, none⟩ (by simp <;> omega) (by simp [Value.ownBlock] <;> omega)).trans (by simp [go_sem]); have q1 : w'.cell? ⟨w.heap.size, 1, none⟩ = some (.bool on) := (hgr.cell_far ⟨w.heap.size, 1, none⟩ (by simp <;> omega) (by simp [Value.ownBlock] <;> omega)).trans (by simp [go_sem]); have q2 : w'.cell? ⟨w.heap.size, 2, none⟩ = some (.bool br) := (hgr.cell_far ⟨w.heap.size, 2, none⟩ (by simp <;> omega) (by simp [Value.ownBlock] <;> omega)).trans (by simp [go_sem]); have q3 : w'.cell? ⟨w.heap.size, 3, none⟩ = some (.slice (some ad) l.length c) := (hgr.cell_far ⟨w.heap.size, 3, none⟩ (by simp <;> omega) (by simp [Value.ownBlock] <;> omega)).trans (by simp [go_sem]); have q4 : w'.cell? ⟨w.heap.size, 4, none⟩ = some (.int .i64 cnt) := (hgr.cell_far ⟨w.heap.size, 4, none⟩ (by simp <;> omega) (by simp [Value.ownBlock] <;> omega)).trans (by simp [go_sem]); have r0 : w'.cell? ⟨w.heap.size + 1, 0, none⟩ = some (.string ⟨#[]⟩) := (hgr.cell_far ⟨w.heap.size + 1, 0, none⟩ (by simp <;> omega) (by simp [Value.ownBlock] <;> omega)).trans (by simp [go_sem]); have r1 : w'.cell? ⟨w.heap.size + 1, 1, none⟩ = some (.bool false) := (hgr.cell_far ⟨w.heap.size + 1, 1, none⟩ (by simp <;> omega) (by simp [Value.ownBlock] <;> omega)).trans (by simp [go_sem]); have r2 : w'.cell? ⟨w.heap.size + 1, 2, none⟩ = some (.bool false) := (hgr.cell_far ⟨w.heap.size + 1, 2, none⟩ (by simp <;> omega) (by simp [Value.ownBlock] <;> omega)).trans (by simp [go_sem]); have r3 : w'.cell? ⟨w.heap.size + 1, 3, none⟩ = some (.slice none 0 0) := (hgr.cell_far ⟨w.heap.size + 1, 3, none⟩ (by simp <;> omega) (by simp [Value.ownBlock] <;> omega)).trans (by simp [go_sem]); have r4 : w'.cell? ⟨w.heap.size + 1, 4, none⟩ = some (.int .i64 0) := (hgr.cell_far ⟨w.heap.size + 1, 4, none⟩ (by simp <;> omega) (by simp [Value.ownBlock] <;> omega)).trans (by simp [go_sem]); have y0 : ∀ o, w'.frozen? ⟨w.heap.size, o, none⟩ = false := (fun o => (hgr.frozen_far ⟨w.heap.size, o, none⟩ (by simp <;> omega) (by simp [Value.ownBlock] <;> omega)).trans (by simp [go_sem])); have y1 : ∀ o, w'.frozen? ⟨w.heap.size + 1, o, none⟩ = false := (fun o => (hgr.frozen_far ⟨w.heap.size + 1, o, none⟩ (by simp <;> omega) (by simp [Value.ownBlock] <;> omega)).trans (by simp [go_sem])); have HG := Lib.hid hgr; have HO := Lib.hid (show OwnsF cCell 134 2 w' (w.heap.size + 1 + 1) v' l from by simpa [OwnsF] using ho); obtain ⟨ua, uc, rfl⟩ := slice_of HO.out)
    refine bodyPost_ret (v := .agg #[.string ⟨kd.toArray⟩, .bool on, .bool br, .slice ua l.length uc, .int .i64 cnt]) (by simp [results, Try.results138, go_sem, cell_set_at, cell_set_ne, q0, q1, q2, q3, q4, r0, r1, r2, r3, r4]) rfl ?_
    refine ⟨_, rfl, ⟨_, rfl, ?_⟩, ?_⟩
    · refine ownsF_base (B := w.heap.size + 1 + 1) ?_ (by omega)
      repeat (with_reducible refine ownsF_set ?_ (by simp; try omega))
      exact HO.out
    · repeat (with_reducible refine Below.setCell ?_ (by simp; try omega) _)
      exact (HB3.out _ _ _).grown HG.out (by simp; omega) (fun k h => by simp [Value.ownBlock] at h; omega)
end Go.Proofs.Ytaihdjdaamglnaa
/- the model's l4Copy -/
namespace Go.Proofs.Ytaihdjdaamglnaa
set_option linter.unusedVariables false
set_option linter.unusedSimpArgs false
open Go.RowKit
theorem Below.gr {B : Nat} {a w w' : World} {r : Option Nat} (h : Below B a w) (hg : w.grownBy w' r) (hB : B ≤ w.heap.size) (hr : ∀ g, r = some g → B ≤ g) : Below B a w' := h.grown hg hB hr
/-- two variables, and what lies below is as it was -/
structure Cop (w : World) (cs zs : List Value) (w' : World) : Prop where
  b : Below w.heap.size w w'
  p : Bx w' w.heap.size cs
  r : Bx w' (w.heap.size + 1) zs
theorem Cop.below {w w1 w2 : World} {cs zs : List Value} (h : Cop w cs zs w1) (hb : Below w1.heap.size w1 w2) : Cop w cs zs w2 := ⟨belS h.b hb, h.p.below hb, h.r.below hb⟩
theorem Cop.alloc {w w1 : World} {cs zs : List Value} (h : Cop w cs zs w1) (o : Obj) : Cop w cs zs (w1.alloc o) := h.below (bx_box w1 o)
theorem Cop.drw {w w1 : World} {cs zs : List Value} (h : Cop w cs zs w1) : Cop w cs zs w1.drew := ⟨⟨h.b.os, h.b.tape, h.b.output, h.b.size, h.b.block⟩, h.p.dr, h.r.dr⟩
theorem Cop.grown {w w1 w2 : World} {cs zs : List Value} {r : Option Nat} (h : Cop w cs zs w1) (hg : w1.grownBy w2 r) (hr : ∀ g, r = some g → w.heap.size + 1 < g) : Cop w cs zs w2 :=
  ⟨h.b.grown hg h.b.size (fun g e => by have := hr g e; omega), h.p.grown hg (fun e => by have := hr _ e; omega), h.r.grown hg (fun e => by have := hr _ e; omega)⟩
def CopS (w : World) (c0 c1 c2 c3 c4 c5 : Value) (zs : List Value) (w' : World) : Prop :=
  w'.cell? ⟨w.heap.size, 0, none⟩ = some c0 ∧ w'.cell? ⟨w.heap.size, 1, none⟩ = some c1 ∧ w'.cell? ⟨w.heap.size, 2, none⟩ = some c2 ∧ w'.cell? ⟨w.heap.size, 3, none⟩ = some c3 ∧ w'.cell? ⟨w.heap.size, 4, none⟩ = some c4 ∧ w'.cell? ⟨w.heap.size, 5, none⟩ = some c5 ∧ Cop w [c0, c1, c2, c3, c4, c5] zs w'
theorem copS_of {w w' : World} {c0 c1 c2 c3 c4 c5 : Value} {zs : List Value} (h : Cop w [c0, c1, c2, c3, c4, c5] zs w') : w'.cell? ⟨w.heap.size, 0, none⟩ = some c0 ∧ w'.cell? ⟨w.heap.size, 1, none⟩ = some c1 ∧ w'.cell? ⟨w.heap.size, 2, none⟩ = some c2 ∧ w'.cell? ⟨w.heap.size, 3, none⟩ = some c3 ∧ w'.cell? ⟨w.heap.size, 4, none⟩ = some c4 ∧ w'.cell? ⟨w.heap.size, 5, none⟩ = some c5 ∧ Cop w [c0, c1, c2, c3, c4, c5] zs w' :=
  ⟨h.p.cell 0 (by simp), h.p.cell 1 (by simp), h.p.cell 2 (by simp), h.p.cell 3 (by simp), h.p.cell 4 (by simp), h.p.cell 5 (by simp), h⟩
/-- append of nothing, at a step of a region that draws -/
theorem step_laysZ {ops : Array Oper} {o : Oper} {a : Act} {K : Act → World → Prop} {Q : Exit → Act → World → Prop} {E : Prop} (hgd : o.guard = none) (s x : Operand)
    (ho : o.op = .call { callee := .builtin .append, args := #[s, x], argTypes := #[27, 27] }) (g cp : Nat) (w : World) (ad : Option Addr) (c : Nat)
    (hs : a.eval s = .slice (some ⟨g, 0, none⟩) 0 cp) (hx : a.eval x = .slice ad 0 c)
    (h : K (a.put o.dst (.slice (some ⟨g, 0, none⟩) 0 cp)) w) : if Region.wanted o (yielded ops a.tmps) = true then Oper.wp Try.prog o a w K Q else E := by
  have hw : Region.wanted o (yielded ops a.tmps) = true := by simp [Region.wanted, hgd]
  rw [if_pos hw]
  have hr : (Builtin.append_ #[27, 27] o.type #[.slice (some ⟨g, 0, none⟩) 0 cp, .slice ad 0 c]).run Try.prog w = .ok (.slice (some ⟨g, 0, none⟩) 0 cp) w := by
    cases ad <;> simp [Builtin.append_, go_sem]
  unfold Oper.wp execOp
  simp only [ho, resolve, invoke, builtin, Sem.run_bind, Sem.run_pure, Result.andThen_ok, List.map_toArray, List.map_cons, List.map_nil, hs, hx, hr]
  exact h
/-- append of a slice of layers to a row of one's own, at a step of a region that draws -/
theorem step_laysN {ops : Array Oper} {o : Oper} {a : Act} {K : Act → World → Prop} {Q : Exit → Act → World → Prop} {E : Prop} (hgd : o.guard = none) (s x : Operand)
    (ho : o.op = .call { callee := .builtin .append, args := #[s, x], argTypes := #[27, 27] }) (B : Nat) (v : Value) (y : List LayerD) (w : World) (ad : Option Addr) (c : Nat)
    (hs : a.eval s = v) (hO : OwnsF cLayer 81 2 w B v []) (hx : a.eval x = .slice ad y.length c) (hy : SliceAt (rFlat cLayer) 2 0 w (.slice ad y.length c) y) (hv : ∃ g cp, v = .slice (some ⟨g, 0, none⟩) 0 cp) (hm : y.length ≤ 2097152) (hB : B ≤ w.heap.size)
    (h : ∀ v' w', OwnsF cLayer 81 2 w' B v' y → w.grownBy w' v.ownBlock → K (a.put o.dst v') w') : if Region.wanted o (yielded ops a.tmps) = true then Oper.wp Try.prog o a w K Q else E := by
  by_cases hl : 0 < y.length
  case neg =>
    obtain rfl : y = [] := List.eq_nil_of_length_eq_zero (by omega)
    obtain ⟨g, cp, rfl⟩ := hv
    exact step_laysZ hgd s x ho g cp w ad c hs hx (h _ _ hO (grownBy_refl _ _))
  obtain ⟨i0, hi, hz0, hz1, hz2⟩ := info_parts infoLay
  obtain ⟨a', c', e, hlen, hml, hy⟩ := flatAt_of_slice cLayer_len (by decide) hy
  injection e with e1 e2 e3
  subst e1
  rcases hy with hy | ⟨b, o', rfl, hlt, hy⟩
  · omega
  · refine step_append_lies w hgd s x 27 ho B 81 i0 _ 2 24 Try.underlying27 hi hz0 hz1 hz2 rfl (by decide) v 0 [] hs (by simpa [OwnsF] using hO) ⟨b, o', none⟩ y.length c (y.flatMap cLayer) hx hlen ?_ ?_ hl (by unfold maxLen; omega) (by omega) hB _ rfl ?_
    · intro j u hj
      have hj2 : j < y.length * 2 := by rw [← hlen]; exact (List.getElem?_eq_some_iff.1 hj).1
      rw [Addr.add_lit, hy j hj2]; exact hj
    · intro u hu
      obtain ⟨d, _, hd⟩ := List.mem_flatMap.1 hu
      exact cLayer_one d u hd
    · intro g cap w' h1 h2 _ _
      refine h _ w' ?_ h2
      unfold OwnsF
      simpa using h1
theorem l4_end {w w4 : World} {kd : List UInt8} {on br : Bool} {cl : List CellD} {cnt : Int} {l : List LayerD} {ga ua : Option Addr} {gc uc : Nat} {cs : List Value} {c0 c1 c2 c3 c4 c5 : Value} (h : Cop w cs [c0, c1, c2, c3, c4, c5] w4)
    (hc : OwnsF cCell 134 2 w4 (w.heap.size + 1 + 1) (.slice ga cl.length gc) cl) (hl : OwnsF cLayer 81 2 w4 (w.heap.size + 1 + 1) (.slice ua l.length uc) l) (hmc : cl.length ≤ 2097152) (hm : l.length ≤ 2097152) :
    Bx ((((((w4.setCell ⟨w.heap.size + 1, 0, none⟩ (.string ⟨kd.toArray⟩)).setCell ⟨w.heap.size + 1, 1, none⟩ (.bool on)).setCell ⟨w.heap.size + 1, 2, none⟩ (.bool br)).setCell ⟨w.heap.size + 1, 3, none⟩ (.slice ga cl.length gc)).setCell ⟨w.heap.size + 1, 4, none⟩ (.int .i64 cnt)).setCell ⟨w.heap.size + 1, 5, none⟩ (.slice ua l.length uc)) (w.heap.size + 1) [.string ⟨kd.toArray⟩, .bool on, .bool br, .slice ga cl.length gc, .int .i64 cnt, .slice ua l.length uc] ∧
    oPart ((((((w4.setCell ⟨w.heap.size + 1, 0, none⟩ (.string ⟨kd.toArray⟩)).setCell ⟨w.heap.size + 1, 1, none⟩ (.bool on)).setCell ⟨w.heap.size + 1, 2, none⟩ (.bool br)).setCell ⟨w.heap.size + 1, 3, none⟩ (.slice ga cl.length gc)).setCell ⟨w.heap.size + 1, 4, none⟩ (.int .i64 cnt)).setCell ⟨w.heap.size + 1, 5, none⟩ (.slice ua l.length uc)) w.heap.size [.string ⟨kd.toArray⟩, .bool on, .bool br, .slice ga cl.length gc, .int .i64 cnt, .slice ua l.length uc] ⟨⟨kd, on, br, cl, cnt⟩, l⟩ ∧
    Below w.heap.size w ((((((w4.setCell ⟨w.heap.size + 1, 0, none⟩ (.string ⟨kd.toArray⟩)).setCell ⟨w.heap.size + 1, 1, none⟩ (.bool on)).setCell ⟨w.heap.size + 1, 2, none⟩ (.bool br)).setCell ⟨w.heap.size + 1, 3, none⟩ (.slice ga cl.length gc)).setCell ⟨w.heap.size + 1, 4, none⟩ (.int .i64 cnt)).setCell ⟨w.heap.size + 1, 5, none⟩ (.slice ua l.length uc)) := by
  refine ⟨h.r.put6 _ _ _ _ _ _, ⟨_, _, rfl, ?_, ?_⟩, below_put6 h.b (w.heap.size + 1) (by omega) _ _ _ _ _ _⟩
  · exact ownsF_base (ownsF_put6 hc (w.heap.size + 1) (by omega) _ _ _ _ _ _) (by omega)
  · exact ownsF_base (ownsF_put6 hl (w.heap.size + 1) (by omega) _ _ _ _ _ _) (by omega)
theorem l4_end0 {w w4 : World} {kd : List UInt8} {on br : Bool} {cl : List CellD} {cnt : Int} {ga ua : Option Addr} {gc : Nat} {cs : List Value} {c0 c1 c2 c3 c4 c5 : Value} (h : Cop w cs [c0, c1, c2, c3, c4, c5] w4)
    (hc : OwnsF cCell 134 2 w4 (w.heap.size + 1 + 1) (.slice ga cl.length gc) cl) (hl : OwnsF cLayer 81 2 w4 (w.heap.size + 1 + 1) (.slice ua 0 0) []) (hmc : cl.length ≤ 2097152) :
    Bx ((((((w4.setCell ⟨w.heap.size + 1, 0, none⟩ (.string ⟨kd.toArray⟩)).setCell ⟨w.heap.size + 1, 1, none⟩ (.bool on)).setCell ⟨w.heap.size + 1, 2, none⟩ (.bool br)).setCell ⟨w.heap.size + 1, 3, none⟩ (.slice ga cl.length gc)).setCell ⟨w.heap.size + 1, 4, none⟩ (.int .i64 cnt)).setCell ⟨w.heap.size + 1, 5, none⟩ (.slice ua 0 0)) (w.heap.size + 1) [.string ⟨kd.toArray⟩, .bool on, .bool br, .slice ga cl.length gc, .int .i64 cnt, .slice ua 0 0] ∧
    oPart ((((((w4.setCell ⟨w.heap.size + 1, 0, none⟩ (.string ⟨kd.toArray⟩)).setCell ⟨w.heap.size + 1, 1, none⟩ (.bool on)).setCell ⟨w.heap.size + 1, 2, none⟩ (.bool br)).setCell ⟨w.heap.size + 1, 3, none⟩ (.slice ga cl.length gc)).setCell ⟨w.heap.size + 1, 4, none⟩ (.int .i64 cnt)).setCell ⟨w.heap.size + 1, 5, none⟩ (.slice ua 0 0)) w.heap.size [.string ⟨kd.toArray⟩, .bool on, .bool br, .slice ga cl.length gc, .int .i64 cnt, .slice ua 0 0] ⟨⟨kd, on, br, cl, cnt⟩, []⟩ ∧
    Below w.heap.size w ((((((w4.setCell ⟨w.heap.size + 1, 0, none⟩ (.string ⟨kd.toArray⟩)).setCell ⟨w.heap.size + 1, 1, none⟩ (.bool on)).setCell ⟨w.heap.size + 1, 2, none⟩ (.bool br)).setCell ⟨w.heap.size + 1, 3, none⟩ (.slice ga cl.length gc)).setCell ⟨w.heap.size + 1, 4, none⟩ (.int .i64 cnt)).setCell ⟨w.heap.size + 1, 5, none⟩ (.slice ua 0 0)) := by
  refine ⟨h.r.put6 _ _ _ _ _ _, ⟨_, _, rfl, ?_, ?_⟩, below_put6 h.b (w.heap.size + 1) (by omega) _ _ _ _ _ _⟩
  · exact ownsF_base (ownsF_put6 hc (w.heap.size + 1) (by omega) _ _ _ _ _ _) (by omega)
  · exact ownsF_base (ownsF_put6 hl (w.heap.size + 1) (by omega) _ _ _ _ _ _) (by omega)
/-- the empty row made at the end -/
theorem l4_end1 {w w4 : World} {kd : List UInt8} {on br : Bool} {cl : List CellD} {cnt : Int} {ga : Option Addr} {gc : Nat} {cs : List Value} {c0 c1 c2 c3 c4 c5 : Value} (h : Cop w cs [c0, c1, c2, c3, c4, c5] w4)
    (hc : OwnsF cCell 134 2 w4 (w.heap.size + 1 + 1) (.slice ga cl.length gc) cl) (hmc : cl.length ≤ 2097152) :
    Bx ((((((w4.setCell ⟨w.heap.size + 1, 0, none⟩ (.string ⟨kd.toArray⟩)).setCell ⟨w.heap.size + 1, 1, none⟩ (.bool on)).setCell ⟨w.heap.size + 1, 2, none⟩ (.bool br)).setCell ⟨w.heap.size + 1, 3, none⟩ (.slice ga cl.length gc)).setCell ⟨w.heap.size + 1, 4, none⟩ (.int .i64 cnt)).setCell ⟨w.heap.size + 1, 5, none⟩ (.slice (some ⟨w4.heap.size, 0, none⟩) 0 0)) (w.heap.size + 1) [.string ⟨kd.toArray⟩, .bool on, .bool br, .slice ga cl.length gc, .int .i64 cnt, .slice (some ⟨w4.heap.size, 0, none⟩) 0 0] ∧
    oPart (((((((w4.setCell ⟨w.heap.size + 1, 0, none⟩ (.string ⟨kd.toArray⟩)).setCell ⟨w.heap.size + 1, 1, none⟩ (.bool on)).setCell ⟨w.heap.size + 1, 2, none⟩ (.bool br)).setCell ⟨w.heap.size + 1, 3, none⟩ (.slice ga cl.length gc)).setCell ⟨w.heap.size + 1, 4, none⟩ (.int .i64 cnt)).setCell ⟨w.heap.size + 1, 5, none⟩ (.slice (some ⟨w4.heap.size, 0, none⟩) 0 0)).alloc (.cells #[] 81)) w.heap.size [.string ⟨kd.toArray⟩, .bool on, .bool br, .slice ga cl.length gc, .int .i64 cnt, .slice (some ⟨w4.heap.size, 0, none⟩) 0 0] ⟨⟨kd, on, br, cl, cnt⟩, []⟩ ∧
    Below w.heap.size w ((((((w4.setCell ⟨w.heap.size + 1, 0, none⟩ (.string ⟨kd.toArray⟩)).setCell ⟨w.heap.size + 1, 1, none⟩ (.bool on)).setCell ⟨w.heap.size + 1, 2, none⟩ (.bool br)).setCell ⟨w.heap.size + 1, 3, none⟩ (.slice ga cl.length gc)).setCell ⟨w.heap.size + 1, 4, none⟩ (.int .i64 cnt)).setCell ⟨w.heap.size + 1, 5, none⟩ (.slice (some ⟨w4.heap.size, 0, none⟩) 0 0)) := by
  have hz : ((((((w4.setCell ⟨w.heap.size + 1, 0, none⟩ (.string ⟨kd.toArray⟩)).setCell ⟨w.heap.size + 1, 1, none⟩ (.bool on)).setCell ⟨w.heap.size + 1, 2, none⟩ (.bool br)).setCell ⟨w.heap.size + 1, 3, none⟩ (.slice ga cl.length gc)).setCell ⟨w.heap.size + 1, 4, none⟩ (.int .i64 cnt)).setCell ⟨w.heap.size + 1, 5, none⟩ (.slice (some ⟨w4.heap.size, 0, none⟩) 0 0)).heap.size = w4.heap.size := by simp
  have hn := ownsF_new cLayer 81 2 ((((((w4.setCell ⟨w.heap.size + 1, 0, none⟩ (.string ⟨kd.toArray⟩)).setCell ⟨w.heap.size + 1, 1, none⟩ (.bool on)).setCell ⟨w.heap.size + 1, 2, none⟩ (.bool br)).setCell ⟨w.heap.size + 1, 3, none⟩ (.slice ga cl.length gc)).setCell ⟨w.heap.size + 1, 4, none⟩ (.int .i64 cnt)).setCell ⟨w.heap.size + 1, 5, none⟩ (.slice (some ⟨w4.heap.size, 0, none⟩) 0 0))
  rw [hz] at hn
  refine ⟨h.r.put6 _ _ _ _ _ _, ⟨_, _, rfl, ?_, ?_⟩, below_put6 h.b (w.heap.size + 1) (by omega) _ _ _ _ _ _⟩
  · exact ownsF_alloc (ownsF_base (ownsF_put6 hc (w.heap.size + 1) (by omega) _ _ _ _ _ _) (by omega)) _
  · exact ownsF_base hn (by have := h.b.size; omega)
set_option maxRecDepth 100000 in
set_option maxHeartbeats 3200000 in
theorem l4Copy_own (v : Value) (x : PartD) (w : World) (hx : ValAt rPart 0 w v x) (hs : SmallP x) :
    Calls Try.prog 127 #[v] w fun e w' => GivesOP x w e w' := by
  obtain ⟨_, rfl, hx⟩ := hx
  obtain ⟨xc, l⟩ := x
  obtain ⟨v3, v5, rfl, h3, h5⟩ := hx
  have HCC := Lib.hid (fun W (hb : Below w.heap.size w W) => l3Copy_any (vCore xc v3) xc W ⟨v3, rfl, FlatAt.below (flatAt_of_slice cCell_len (by decide) h3) hb (Nat.le_refl _)⟩ hs.cells)
  unfold GivesCore OwnsCore at HCC
  have hm := hs.lays
  have hmc := hs.cells
  simp only at h3 h5 hm
  obtain ⟨ra, rc, rfl, _⟩ := sliceAt_len h3
  obtain ⟨sa, sc, rfl, hl⟩ := sliceAt_len h5
  have H5 := Lib.hid h5
  obtain ⟨kd, on, br, cl, cnt⟩ := xc
  unfold vCore at HCC
  simp only at HCC h3 hmc ⊢
  clear h3 h5 hs
  unfold maxLen at hl
  have BS := Lib.hid (bx_start2 w [.string ⟨kd.toArray⟩, .bool on, .bool br, .slice ra cl.length rc, .int .i64 cnt, .slice sa l.length sc] [.string ⟨#[]⟩, .bool false, .bool false, .slice none 0 0, .int .i64 0, .slice none 0 0] 29 29)
  have CS := Lib.hid (Cop.drw ⟨BS.out.2.2, BS.out.1, BS.out.2.1⟩)
  go_enter Try.func127, Try.ntmps127
  go_wp2_with fail
  have HO0 := Lib.hid (show ∀ o1 o2, OwnsF cLayer 81 2 (((w.alloc o1).alloc o2).drew.alloc (.cells #[] 81)) (w.heap.size + 1 + 1) (.slice (some ⟨w.heap.size + 1 + 1, 0, none⟩) 0 0) [] from fun o1 o2 => by have h := ownsF_new cLayer 81 2 ((w.alloc o1).alloc o2).drew; simpa using h)
  have q0 := CS.out.p.cell 0 (by simp)
  have q1 := CS.out.p.cell 1 (by simp)
  have q2 := CS.out.p.cell 2 (by simp)
  have q3 := CS.out.p.cell 3 (by simp)
  have q4 := CS.out.p.cell 4 (by simp)
  have q5 := CS.out.p.cell 5 (by simp)
  simp only [List.getElem_cons_zero, List.getElem_cons_succ] at q0 q1 q2 q3 q4 q5
  refine wp_region_any (by kernel_rfl) ?_
  change wpAny _ _ _ _ _ _ _ (World.drew _)
  refine wpAny_take (i := 0) (v := ?_) rfl (by kernel_rfl) (by kernel_rfl) (by kernel_rfl) (fun _ _ _ h => h) (Or.inl ⟨by rfl, ?_⟩) ?_
  rotate_left
  · intro w; go_simp; try (with_reducible rfl)
  refine wpAny_take (i := 4) (v := ?_) rfl (by kernel_rfl) (by kernel_rfl) (by kernel_rfl) (fun _ _ _ h => h) (Or.inl ⟨by rfl, ?_⟩) ?_
  rotate_left
  · intro w; go_simp; try (with_reducible rfl)
  -- GENERATED by gen/ch4cp.py
  refine wpAny_ready (rs := [1, 3, 5]) (by kernel_rfl) (by simp) ?_
  refine AllReady.cons rfl (fun K hK => ?_) ?_
  · go_simp
    refine hK _ _ ?_
    clear hK K
    refine wpAny_ready (rs := [2, 3, 5]) (by kernel_rfl) (by simp) ?_
    refine AllReady.cons rfl (fun K hK => ?_) ?_
    · go_simp
      refine (HCC.out _ CS.out.b).mono ?_
      rintro e w2 ⟨_, rfl, ⟨cv, rfl, ho5⟩, hb5⟩
      obtain ⟨ga, gc, rfl⟩ := slice_of ho5
      have HC5 := Lib.hid (CS.out.below hb5)
      have lp := HC5.out.p.lt
      have lr := HC5.out.r.lt
      have np : ¬ w.heap.size = w2.heap.size := by omega
      have nr : ¬ w.heap.size + 1 = w2.heap.size := by omega
      have q0 := HC5.out.p.cell 0 (by simp)
      have q1 := HC5.out.p.cell 1 (by simp)
      have q2 := HC5.out.p.cell 2 (by simp)
      have q3 := HC5.out.p.cell 3 (by simp)
      have q4 := HC5.out.p.cell 4 (by simp)
      have q5 := HC5.out.p.cell 5 (by simp)
      have r0 := HC5.out.r.cell 0 (by simp)
      have z0 := HC5.out.r.froz 0 (by simp)
      have r1 := HC5.out.r.cell 1 (by simp)
      have z1 := HC5.out.r.froz 1 (by simp)
      have r2 := HC5.out.r.cell 2 (by simp)
      have z2 := HC5.out.r.froz 2 (by simp)
      have r3 := HC5.out.r.cell 3 (by simp)
      have z3 := HC5.out.r.froz 3 (by simp)
      have r4 := HC5.out.r.cell 4 (by simp)
      have z4 := HC5.out.r.froz 4 (by simp)
      have r5 := HC5.out.r.cell 5 (by simp)
      have z5 := HC5.out.r.froz 5 (by simp)
      simp only [List.getElem_cons_zero, List.getElem_cons_succ] at q0 q1 q2 q3 q4 q5 r0 r1 r2 r3 r4 r5
      refine hK _ _ ?_
      clear hK K
      refine wpAny_ready (rs := [3, 5]) (by kernel_rfl) (by simp) ?_
      refine AllReady.cons rfl (fun K hK => ?_) ?_
      · go_simp
        refine hK _ _ ?_
        clear hK K
        refine wpAny_ready (rs := [5]) (by kernel_rfl) (by simp) ?_
        refine AllReady.cons rfl (fun K hK => ?_) ?_
        · go_simp
          refine hK _ _ ?_
          clear hK K
          refine wpAny_ready (rs := [6]) (by kernel_rfl) (by simp) ?_
          refine AllReady.cons rfl (fun K hK => ?_) ?_
          · have P1 := ownsF_base (B' := w.heap.size + 1 + 1) (ownsF_new cLayer 81 2 w2) HC5.out.r.lt
            have P2 := HC5.out.alloc (.cells #[] 81)
            have P3 := SliceAt.below H5.out (good_flat cLayer_len) P2.b (Nat.le_refl _)
            have P4 := P2.r.lt
            refine step_laysN rfl _ _ rfl (w.heap.size + 1 + 1) _ l _ sa sc ?_ P1 ?_ P3 ⟨_, _, rfl⟩ hm P4 ?_
            · simp [Act.eval, Act.put]
            · simp [Act.eval, Act.put]
            intro v4 w4 hO4 hg4
            obtain ⟨ua, uc, rfl⟩ := slice_of hO4
            have HC6 := Lib.hid (P2.grown hg4 (fun g hg => (World.ownsRow.lt P1 g hg).1))
            have lp := HC6.out.p.lt
            have lr := HC6.out.r.lt
            have np : ¬ w.heap.size = w4.heap.size := by omega
            have nr : ¬ w.heap.size + 1 = w4.heap.size := by omega
            have q0 := HC6.out.p.cell 0 (by simp)
            have q1 := HC6.out.p.cell 1 (by simp)
            have q2 := HC6.out.p.cell 2 (by simp)
            have q3 := HC6.out.p.cell 3 (by simp)
            have q4 := HC6.out.p.cell 4 (by simp)
            have q5 := HC6.out.p.cell 5 (by simp)
            have r0 := HC6.out.r.cell 0 (by simp)
            have z0 := HC6.out.r.froz 0 (by simp)
            have r1 := HC6.out.r.cell 1 (by simp)
            have z1 := HC6.out.r.froz 1 (by simp)
            have r2 := HC6.out.r.cell 2 (by simp)
            have z2 := HC6.out.r.froz 2 (by simp)
            have r3 := HC6.out.r.cell 3 (by simp)
            have z3 := HC6.out.r.froz 3 (by simp)
            have r4 := HC6.out.r.cell 4 (by simp)
            have z4 := HC6.out.r.froz 4 (by simp)
            have r5 := HC6.out.r.cell 5 (by simp)
            have z5 := HC6.out.r.froz 5 (by simp)
            simp only [List.getElem_cons_zero, List.getElem_cons_succ] at q0 q1 q2 q3 q4 q5 r0 r1 r2 r3 r4 r5
            refine hK _ _ ?_
            clear hK K
            refine wpAny_ready (rs := [7]) (by kernel_rfl) (by simp) ?_
            refine AllReady.cons rfl (fun K hK => ?_) ?_
            · go_simp
              refine hK _ _ ?_
              clear hK K
              refine wpAny_ready (rs := [8]) (by kernel_rfl) (by simp) ?_
              refine AllReady.cons rfl (fun K hK => ?_) ?_
              · go_simp
                refine hK _ _ ?_
                clear hK K
                refine wpAny_done (by kernel_rfl) ?_ _
                have OC0 := ownsF_keptF (ownsF_alloc ho5 _) P1 hg4 (by decide)
                have E6 := l4_end (kd := kd) (on := on) (br := br) (cnt := cnt) HC6.out (ownsF_base OC0 (by have h1 := CS.out.b.size; simp at h1 ⊢; try omega)) hO4 hmc hm
                clear q0 r0 z0 q1 r1 z1 q2 r2 z2 q3 r3 z3 q4 r4 z4 q5 r5 z5
                generalize ((((((w4.setCell ⟨w.heap.size + 1, 0, none⟩ (.string ⟨kd.toArray⟩)).setCell ⟨w.heap.size + 1, 1, none⟩ (.bool on)).setCell ⟨w.heap.size + 1, 2, none⟩ (.bool br)).setCell ⟨w.heap.size + 1, 3, none⟩ (.slice ga cl.length gc)).setCell ⟨w.heap.size + 1, 4, none⟩ (.int .i64 cnt)).setCell ⟨w.heap.size + 1, 5, none⟩ (.slice ua l.length uc)) = WE at *
                go_wp2_with fail
                obtain ⟨BE, RE, HE⟩ := E6
                have e0 := BE.cell 0 (by simp)
                have e1 := BE.cell 1 (by simp)
                have e2 := BE.cell 2 (by simp)
                have e3 := BE.cell 3 (by simp)
                have e4 := BE.cell 4 (by simp)
                have e5 := BE.cell 5 (by simp)
                simp only [List.getElem_cons_zero, List.getElem_cons_succ] at e0 e1 e2 e3 e4 e5
                exact bodyPost_ret (v := .agg #[.string ⟨kd.toArray⟩, .bool on, .bool br, .slice ga cl.length gc, .int .i64 cnt, .slice ua l.length uc]) (by simp [results, Try.results127, go_sem, e0, e1, e2, e3, e4, e5]) rfl ⟨_, rfl, RE, HE⟩
              exact AllReady.nil
            exact AllReady.nil
          exact AllReady.nil
        exact AllReady.nil
      refine AllReady.cons rfl (fun K hK => ?_) ?_
      · go_simp
        refine hK _ _ ?_
        clear hK K
        refine wpAny_ready (rs := [3]) (by kernel_rfl) (by simp) ?_
        refine AllReady.cons rfl (fun K hK => ?_) ?_
        · go_simp
          refine hK _ _ ?_
          clear hK K
          refine wpAny_ready (rs := [6]) (by kernel_rfl) (by simp) ?_
          refine AllReady.cons rfl (fun K hK => ?_) ?_
          · have P1 := ownsF_base (B' := w.heap.size + 1 + 1) (ownsF_new cLayer 81 2 w2) HC5.out.r.lt
            have P2 := HC5.out.alloc (.cells #[] 81)
            have P3 := SliceAt.below H5.out (good_flat cLayer_len) P2.b (Nat.le_refl _)
            have P4 := P2.r.lt
            refine step_laysN rfl _ _ rfl (w.heap.size + 1 + 1) _ l _ sa sc ?_ P1 ?_ P3 ⟨_, _, rfl⟩ hm P4 ?_
            · simp [Act.eval, Act.put]
            · simp [Act.eval, Act.put]
            intro v4 w4 hO4 hg4
            obtain ⟨ua, uc, rfl⟩ := slice_of hO4
            have HC6 := Lib.hid (P2.grown hg4 (fun g hg => (World.ownsRow.lt P1 g hg).1))
            have lp := HC6.out.p.lt
            have lr := HC6.out.r.lt
            have np : ¬ w.heap.size = w4.heap.size := by omega
            have nr : ¬ w.heap.size + 1 = w4.heap.size := by omega
            have q0 := HC6.out.p.cell 0 (by simp)
            have q1 := HC6.out.p.cell 1 (by simp)
            have q2 := HC6.out.p.cell 2 (by simp)
            have q3 := HC6.out.p.cell 3 (by simp)
            have q4 := HC6.out.p.cell 4 (by simp)
            have q5 := HC6.out.p.cell 5 (by simp)
            have r0 := HC6.out.r.cell 0 (by simp)
            have z0 := HC6.out.r.froz 0 (by simp)
            have r1 := HC6.out.r.cell 1 (by simp)
            have z1 := HC6.out.r.froz 1 (by simp)
            have r2 := HC6.out.r.cell 2 (by simp)
            have z2 := HC6.out.r.froz 2 (by simp)
            have r3 := HC6.out.r.cell 3 (by simp)
            have z3 := HC6.out.r.froz 3 (by simp)
            have r4 := HC6.out.r.cell 4 (by simp)
            have z4 := HC6.out.r.froz 4 (by simp)
            have r5 := HC6.out.r.cell 5 (by simp)
            have z5 := HC6.out.r.froz 5 (by simp)
            simp only [List.getElem_cons_zero, List.getElem_cons_succ] at q0 q1 q2 q3 q4 q5 r0 r1 r2 r3 r4 r5
            refine hK _ _ ?_
            clear hK K
            refine wpAny_ready (rs := [7]) (by kernel_rfl) (by simp) ?_
            refine AllReady.cons rfl (fun K hK => ?_) ?_
            · go_simp
              refine hK _ _ ?_
              clear hK K
              refine wpAny_ready (rs := [8]) (by kernel_rfl) (by simp) ?_
              refine AllReady.cons rfl (fun K hK => ?_) ?_
              · go_simp
                refine hK _ _ ?_
                clear hK K
                refine wpAny_done (by kernel_rfl) ?_ _
                have OC0 := ownsF_keptF (ownsF_alloc ho5 _) P1 hg4 (by decide)
                have E6 := l4_end (kd := kd) (on := on) (br := br) (cnt := cnt) HC6.out (ownsF_base OC0 (by have h1 := CS.out.b.size; simp at h1 ⊢; try omega)) hO4 hmc hm
                clear q0 r0 z0 q1 r1 z1 q2 r2 z2 q3 r3 z3 q4 r4 z4 q5 r5 z5
                generalize ((((((w4.setCell ⟨w.heap.size + 1, 0, none⟩ (.string ⟨kd.toArray⟩)).setCell ⟨w.heap.size + 1, 1, none⟩ (.bool on)).setCell ⟨w.heap.size + 1, 2, none⟩ (.bool br)).setCell ⟨w.heap.size + 1, 3, none⟩ (.slice ga cl.length gc)).setCell ⟨w.heap.size + 1, 4, none⟩ (.int .i64 cnt)).setCell ⟨w.heap.size + 1, 5, none⟩ (.slice ua l.length uc)) = WE at *
                go_wp2_with fail
                obtain ⟨BE, RE, HE⟩ := E6
                have e0 := BE.cell 0 (by simp)
                have e1 := BE.cell 1 (by simp)
                have e2 := BE.cell 2 (by simp)
                have e3 := BE.cell 3 (by simp)
                have e4 := BE.cell 4 (by simp)
                have e5 := BE.cell 5 (by simp)
                simp only [List.getElem_cons_zero, List.getElem_cons_succ] at e0 e1 e2 e3 e4 e5
                exact bodyPost_ret (v := .agg #[.string ⟨kd.toArray⟩, .bool on, .bool br, .slice ga cl.length gc, .int .i64 cnt, .slice ua l.length uc]) (by simp [results, Try.results127, go_sem, e0, e1, e2, e3, e4, e5]) rfl ⟨_, rfl, RE, HE⟩
              exact AllReady.nil
            exact AllReady.nil
          exact AllReady.nil
        exact AllReady.nil
      exact AllReady.nil
    refine AllReady.cons rfl (fun K hK => ?_) ?_
    · go_simp
      refine hK _ _ ?_
      clear hK K
      refine wpAny_ready (rs := [2, 5]) (by kernel_rfl) (by simp) ?_
      refine AllReady.cons rfl (fun K hK => ?_) ?_
      · go_simp
        refine (HCC.out _ (CS.out.alloc _).b).mono ?_
        rintro e w2 ⟨_, rfl, ⟨cv, rfl, ho5⟩, hb5⟩
        obtain ⟨ga, gc, rfl⟩ := slice_of ho5
        have HC5 := Lib.hid ((CS.out.alloc _).below hb5)
        have lp := HC5.out.p.lt
        have lr := HC5.out.r.lt
        have np : ¬ w.heap.size = w2.heap.size := by omega
        have nr : ¬ w.heap.size + 1 = w2.heap.size := by omega
        have q0 := HC5.out.p.cell 0 (by simp)
        have q1 := HC5.out.p.cell 1 (by simp)
        have q2 := HC5.out.p.cell 2 (by simp)
        have q3 := HC5.out.p.cell 3 (by simp)
        have q4 := HC5.out.p.cell 4 (by simp)
        have q5 := HC5.out.p.cell 5 (by simp)
        have r0 := HC5.out.r.cell 0 (by simp)
        have z0 := HC5.out.r.froz 0 (by simp)
        have r1 := HC5.out.r.cell 1 (by simp)
        have z1 := HC5.out.r.froz 1 (by simp)
        have r2 := HC5.out.r.cell 2 (by simp)
        have z2 := HC5.out.r.froz 2 (by simp)
        have r3 := HC5.out.r.cell 3 (by simp)
        have z3 := HC5.out.r.froz 3 (by simp)
        have r4 := HC5.out.r.cell 4 (by simp)
        have z4 := HC5.out.r.froz 4 (by simp)
        have r5 := HC5.out.r.cell 5 (by simp)
        have z5 := HC5.out.r.froz 5 (by simp)
        simp only [List.getElem_cons_zero, List.getElem_cons_succ] at q0 q1 q2 q3 q4 q5 r0 r1 r2 r3 r4 r5
        refine hK _ _ ?_
        clear hK K
        refine wpAny_ready (rs := [5]) (by kernel_rfl) (by simp) ?_
        refine AllReady.cons rfl (fun K hK => ?_) ?_
        · go_simp
          refine hK _ _ ?_
          clear hK K
          refine wpAny_ready (rs := [6]) (by kernel_rfl) (by simp) ?_
          refine AllReady.cons rfl (fun K hK => ?_) ?_
          · have P1 := ownsF_below (HO0.out _ _) hb5 (Nat.le_refl _)
            have P2 := HC5.out
            have P3 := SliceAt.below H5.out (good_flat cLayer_len) P2.b (Nat.le_refl _)
            have P4 := P2.r.lt
            refine step_laysN rfl _ _ rfl (w.heap.size + 1 + 1) _ l _ sa sc ?_ P1 ?_ P3 ⟨_, _, rfl⟩ hm P4 ?_
            · simp [Act.eval, Act.put]
            · simp [Act.eval, Act.put]
            intro v4 w4 hO4 hg4
            obtain ⟨ua, uc, rfl⟩ := slice_of hO4
            have HC6 := Lib.hid (P2.grown hg4 (fun g hg => (World.ownsRow.lt P1 g hg).1))
            have lp := HC6.out.p.lt
            have lr := HC6.out.r.lt
            have np : ¬ w.heap.size = w4.heap.size := by omega
            have nr : ¬ w.heap.size + 1 = w4.heap.size := by omega
            have q0 := HC6.out.p.cell 0 (by simp)
            have q1 := HC6.out.p.cell 1 (by simp)
            have q2 := HC6.out.p.cell 2 (by simp)
            have q3 := HC6.out.p.cell 3 (by simp)
            have q4 := HC6.out.p.cell 4 (by simp)
            have q5 := HC6.out.p.cell 5 (by simp)
            have r0 := HC6.out.r.cell 0 (by simp)
            have z0 := HC6.out.r.froz 0 (by simp)
            have r1 := HC6.out.r.cell 1 (by simp)
            have z1 := HC6.out.r.froz 1 (by simp)
            have r2 := HC6.out.r.cell 2 (by simp)
            have z2 := HC6.out.r.froz 2 (by simp)
            have r3 := HC6.out.r.cell 3 (by simp)
            have z3 := HC6.out.r.froz 3 (by simp)
            have r4 := HC6.out.r.cell 4 (by simp)
            have z4 := HC6.out.r.froz 4 (by simp)
            have r5 := HC6.out.r.cell 5 (by simp)
            have z5 := HC6.out.r.froz 5 (by simp)
            simp only [List.getElem_cons_zero, List.getElem_cons_succ] at q0 q1 q2 q3 q4 q5 r0 r1 r2 r3 r4 r5
            refine hK _ _ ?_
            clear hK K
            refine wpAny_ready (rs := [7]) (by kernel_rfl) (by simp) ?_
            refine AllReady.cons rfl (fun K hK => ?_) ?_
            · go_simp
              refine hK _ _ ?_
              clear hK K
              refine wpAny_ready (rs := [8]) (by kernel_rfl) (by simp) ?_
              refine AllReady.cons rfl (fun K hK => ?_) ?_
              · go_simp
                refine hK _ _ ?_
                clear hK K
                refine wpAny_done (by kernel_rfl) ?_ _
                have OC0 := ownsF_keptF ho5 P1 hg4 (by decide)
                have E6 := l4_end (kd := kd) (on := on) (br := br) (cnt := cnt) HC6.out (ownsF_base OC0 (by have h1 := CS.out.b.size; simp at h1 ⊢; try omega)) hO4 hmc hm
                clear q0 r0 z0 q1 r1 z1 q2 r2 z2 q3 r3 z3 q4 r4 z4 q5 r5 z5
                generalize ((((((w4.setCell ⟨w.heap.size + 1, 0, none⟩ (.string ⟨kd.toArray⟩)).setCell ⟨w.heap.size + 1, 1, none⟩ (.bool on)).setCell ⟨w.heap.size + 1, 2, none⟩ (.bool br)).setCell ⟨w.heap.size + 1, 3, none⟩ (.slice ga cl.length gc)).setCell ⟨w.heap.size + 1, 4, none⟩ (.int .i64 cnt)).setCell ⟨w.heap.size + 1, 5, none⟩ (.slice ua l.length uc)) = WE at *
                go_wp2_with fail
                obtain ⟨BE, RE, HE⟩ := E6
                have e0 := BE.cell 0 (by simp)
                have e1 := BE.cell 1 (by simp)
                have e2 := BE.cell 2 (by simp)
                have e3 := BE.cell 3 (by simp)
                have e4 := BE.cell 4 (by simp)
                have e5 := BE.cell 5 (by simp)
                simp only [List.getElem_cons_zero, List.getElem_cons_succ] at e0 e1 e2 e3 e4 e5
                exact bodyPost_ret (v := .agg #[.string ⟨kd.toArray⟩, .bool on, .bool br, .slice ga cl.length gc, .int .i64 cnt, .slice ua l.length uc]) (by simp [results, Try.results127, go_sem, e0, e1, e2, e3, e4, e5]) rfl ⟨_, rfl, RE, HE⟩
              exact AllReady.nil
            exact AllReady.nil
          exact AllReady.nil
        exact AllReady.nil
      refine AllReady.cons rfl (fun K hK => ?_) ?_
      · go_simp
        refine hK _ _ ?_
        clear hK K
        refine wpAny_ready (rs := [2]) (by kernel_rfl) (by simp) ?_
        refine AllReady.cons rfl (fun K hK => ?_) ?_
        · go_simp
          refine (HCC.out _ (CS.out.alloc _).b).mono ?_
          rintro e w2 ⟨_, rfl, ⟨cv, rfl, ho5⟩, hb5⟩
          obtain ⟨ga, gc, rfl⟩ := slice_of ho5
          have HC5 := Lib.hid ((CS.out.alloc _).below hb5)
          have lp := HC5.out.p.lt
          have lr := HC5.out.r.lt
          have np : ¬ w.heap.size = w2.heap.size := by omega
          have nr : ¬ w.heap.size + 1 = w2.heap.size := by omega
          have q0 := HC5.out.p.cell 0 (by simp)
          have q1 := HC5.out.p.cell 1 (by simp)
          have q2 := HC5.out.p.cell 2 (by simp)
          have q3 := HC5.out.p.cell 3 (by simp)
          have q4 := HC5.out.p.cell 4 (by simp)
          have q5 := HC5.out.p.cell 5 (by simp)
          have r0 := HC5.out.r.cell 0 (by simp)
          have z0 := HC5.out.r.froz 0 (by simp)
          have r1 := HC5.out.r.cell 1 (by simp)
          have z1 := HC5.out.r.froz 1 (by simp)
          have r2 := HC5.out.r.cell 2 (by simp)
          have z2 := HC5.out.r.froz 2 (by simp)
          have r3 := HC5.out.r.cell 3 (by simp)
          have z3 := HC5.out.r.froz 3 (by simp)
          have r4 := HC5.out.r.cell 4 (by simp)
          have z4 := HC5.out.r.froz 4 (by simp)
          have r5 := HC5.out.r.cell 5 (by simp)
          have z5 := HC5.out.r.froz 5 (by simp)
          simp only [List.getElem_cons_zero, List.getElem_cons_succ] at q0 q1 q2 q3 q4 q5 r0 r1 r2 r3 r4 r5
          refine hK _ _ ?_
          clear hK K
          refine wpAny_ready (rs := [6]) (by kernel_rfl) (by simp) ?_
          refine AllReady.cons rfl (fun K hK => ?_) ?_
          · have P1 := ownsF_below (HO0.out _ _) hb5 (Nat.le_refl _)
            have P2 := HC5.out
            have P3 := SliceAt.below H5.out (good_flat cLayer_len) P2.b (Nat.le_refl _)
            have P4 := P2.r.lt
            refine step_laysN rfl _ _ rfl (w.heap.size + 1 + 1) _ l _ sa sc ?_ P1 ?_ P3 ⟨_, _, rfl⟩ hm P4 ?_
            · simp [Act.eval, Act.put]
            · simp [Act.eval, Act.put]
            intro v4 w4 hO4 hg4
            obtain ⟨ua, uc, rfl⟩ := slice_of hO4
            have HC6 := Lib.hid (P2.grown hg4 (fun g hg => (World.ownsRow.lt P1 g hg).1))
            have lp := HC6.out.p.lt
            have lr := HC6.out.r.lt
            have np : ¬ w.heap.size = w4.heap.size := by omega
            have nr : ¬ w.heap.size + 1 = w4.heap.size := by omega
            have q0 := HC6.out.p.cell 0 (by simp)
            have q1 := HC6.out.p.cell 1 (by simp)
            have q2 := HC6.out.p.cell 2 (by simp)
            have q3 := HC6.out.p.cell 3 (by simp)
            have q4 := HC6.out.p.cell 4 (by simp)
            have q5 := HC6.out.p.cell 5 (by simp)
            have r0 := HC6.out.r.cell 0 (by simp)
            have z0 := HC6.out.r.froz 0 (by simp)
            have r1 := HC6.out.r.cell 1 (by simp)
            have z1 := HC6.out.r.froz 1 (by simp)
            have r2 := HC6.out.r.cell 2 (by simp)
            have z2 := HC6.out.r.froz 2 (by simp)
            have r3 := HC6.out.r.cell 3 (by simp)
            have z3 := HC6.out.r.froz 3 (by simp)
            have r4 := HC6.out.r.cell 4 (by simp)
            have z4 := HC6.out.r.froz 4 (by simp)
            have r5 := HC6.out.r.cell 5 (by simp)
            have z5 := HC6.out.r.froz 5 (by simp)
            simp only [List.getElem_cons_zero, List.getElem_cons_succ] at q0 q1 q2 q3 q4 q5 r0 r1 r2 r3 r4 r5
            refine hK _ _ ?_
            clear hK K
            refine wpAny_ready (rs := [7]) (by kernel_rfl) (by simp) ?_
            refine AllReady.cons rfl (fun K hK => ?_) ?_
            · go_simp
              refine hK _ _ ?_
              clear hK K
              refine wpAny_ready (rs := [8]) (by kernel_rfl) (by simp) ?_
              refine AllReady.cons rfl (fun K hK => ?_) ?_
              · go_simp
                refine hK _ _ ?_
                clear hK K
                refine wpAny_done (by kernel_rfl) ?_ _
                have OC0 := ownsF_keptF ho5 P1 hg4 (by decide)
                have E6 := l4_end (kd := kd) (on := on) (br := br) (cnt := cnt) HC6.out (ownsF_base OC0 (by have h1 := CS.out.b.size; simp at h1 ⊢; try omega)) hO4 hmc hm
                clear q0 r0 z0 q1 r1 z1 q2 r2 z2 q3 r3 z3 q4 r4 z4 q5 r5 z5
                generalize ((((((w4.setCell ⟨w.heap.size + 1, 0, none⟩ (.string ⟨kd.toArray⟩)).setCell ⟨w.heap.size + 1, 1, none⟩ (.bool on)).setCell ⟨w.heap.size + 1, 2, none⟩ (.bool br)).setCell ⟨w.heap.size + 1, 3, none⟩ (.slice ga cl.length gc)).setCell ⟨w.heap.size + 1, 4, none⟩ (.int .i64 cnt)).setCell ⟨w.heap.size + 1, 5, none⟩ (.slice ua l.length uc)) = WE at *
                go_wp2_with fail
                obtain ⟨BE, RE, HE⟩ := E6
                have e0 := BE.cell 0 (by simp)
                have e1 := BE.cell 1 (by simp)
                have e2 := BE.cell 2 (by simp)
                have e3 := BE.cell 3 (by simp)
                have e4 := BE.cell 4 (by simp)
                have e5 := BE.cell 5 (by simp)
                simp only [List.getElem_cons_zero, List.getElem_cons_succ] at e0 e1 e2 e3 e4 e5
                exact bodyPost_ret (v := .agg #[.string ⟨kd.toArray⟩, .bool on, .bool br, .slice ga cl.length gc, .int .i64 cnt, .slice ua l.length uc]) (by simp [results, Try.results127, go_sem, e0, e1, e2, e3, e4, e5]) rfl ⟨_, rfl, RE, HE⟩
              exact AllReady.nil
            exact AllReady.nil
          exact AllReady.nil
        exact AllReady.nil
      exact AllReady.nil
    refine AllReady.cons rfl (fun K hK => ?_) ?_
    · go_simp
      refine hK _ _ ?_
      clear hK K
      refine wpAny_ready (rs := [2, 3]) (by kernel_rfl) (by simp) ?_
      refine AllReady.cons rfl (fun K hK => ?_) ?_
      · go_simp
        refine (HCC.out _ CS.out.b).mono ?_
        rintro e w2 ⟨_, rfl, ⟨cv, rfl, ho5⟩, hb5⟩
        obtain ⟨ga, gc, rfl⟩ := slice_of ho5
        have HC5 := Lib.hid (CS.out.below hb5)
        have lp := HC5.out.p.lt
        have lr := HC5.out.r.lt
        have np : ¬ w.heap.size = w2.heap.size := by omega
        have nr : ¬ w.heap.size + 1 = w2.heap.size := by omega
        have q0 := HC5.out.p.cell 0 (by simp)
        have q1 := HC5.out.p.cell 1 (by simp)
        have q2 := HC5.out.p.cell 2 (by simp)
        have q3 := HC5.out.p.cell 3 (by simp)
        have q4 := HC5.out.p.cell 4 (by simp)
        have q5 := HC5.out.p.cell 5 (by simp)
        have r0 := HC5.out.r.cell 0 (by simp)
        have z0 := HC5.out.r.froz 0 (by simp)
        have r1 := HC5.out.r.cell 1 (by simp)
        have z1 := HC5.out.r.froz 1 (by simp)
        have r2 := HC5.out.r.cell 2 (by simp)
        have z2 := HC5.out.r.froz 2 (by simp)
        have r3 := HC5.out.r.cell 3 (by simp)
        have z3 := HC5.out.r.froz 3 (by simp)
        have r4 := HC5.out.r.cell 4 (by simp)
        have z4 := HC5.out.r.froz 4 (by simp)
        have r5 := HC5.out.r.cell 5 (by simp)
        have z5 := HC5.out.r.froz 5 (by simp)
        simp only [List.getElem_cons_zero, List.getElem_cons_succ] at q0 q1 q2 q3 q4 q5 r0 r1 r2 r3 r4 r5
        refine hK _ _ ?_
        clear hK K
        refine wpAny_ready (rs := [3]) (by kernel_rfl) (by simp) ?_
        refine AllReady.cons rfl (fun K hK => ?_) ?_
        · go_simp
          refine hK _ _ ?_
          clear hK K
          refine wpAny_ready (rs := [6]) (by kernel_rfl) (by simp) ?_
          refine AllReady.cons rfl (fun K hK => ?_) ?_
          · have P1 := ownsF_base (B' := w.heap.size + 1 + 1) (ownsF_new cLayer 81 2 w2) HC5.out.r.lt
            have P2 := HC5.out.alloc (.cells #[] 81)
            have P3 := SliceAt.below H5.out (good_flat cLayer_len) P2.b (Nat.le_refl _)
            have P4 := P2.r.lt
            refine step_laysN rfl _ _ rfl (w.heap.size + 1 + 1) _ l _ sa sc ?_ P1 ?_ P3 ⟨_, _, rfl⟩ hm P4 ?_
            · simp [Act.eval, Act.put]
            · simp [Act.eval, Act.put]
            intro v4 w4 hO4 hg4
            obtain ⟨ua, uc, rfl⟩ := slice_of hO4
            have HC6 := Lib.hid (P2.grown hg4 (fun g hg => (World.ownsRow.lt P1 g hg).1))
            have lp := HC6.out.p.lt
            have lr := HC6.out.r.lt
            have np : ¬ w.heap.size = w4.heap.size := by omega
            have nr : ¬ w.heap.size + 1 = w4.heap.size := by omega
            have q0 := HC6.out.p.cell 0 (by simp)
            have q1 := HC6.out.p.cell 1 (by simp)
            have q2 := HC6.out.p.cell 2 (by simp)
            have q3 := HC6.out.p.cell 3 (by simp)
            have q4 := HC6.out.p.cell 4 (by simp)
            have q5 := HC6.out.p.cell 5 (by simp)
            have r0 := HC6.out.r.cell 0 (by simp)
            have z0 := HC6.out.r.froz 0 (by simp)
            have r1 := HC6.out.r.cell 1 (by simp)
            have z1 := HC6.out.r.froz 1 (by simp)
            have r2 := HC6.out.r.cell 2 (by simp)
            have z2 := HC6.out.r.froz 2 (by simp)
            have r3 := HC6.out.r.cell 3 (by simp)
            have z3 := HC6.out.r.froz 3 (by simp)
            have r4 := HC6.out.r.cell 4 (by simp)
            have z4 := HC6.out.r.froz 4 (by simp)
            have r5 := HC6.out.r.cell 5 (by simp)
            have z5 := HC6.out.r.froz 5 (by simp)
            simp only [List.getElem_cons_zero, List.getElem_cons_succ] at q0 q1 q2 q3 q4 q5 r0 r1 r2 r3 r4 r5
            refine hK _ _ ?_
            clear hK K
            refine wpAny_ready (rs := [7]) (by kernel_rfl) (by simp) ?_
            refine AllReady.cons rfl (fun K hK => ?_) ?_
            · go_simp
              refine hK _ _ ?_
              clear hK K
              refine wpAny_ready (rs := [8]) (by kernel_rfl) (by simp) ?_
              refine AllReady.cons rfl (fun K hK => ?_) ?_
              · go_simp
                refine hK _ _ ?_
                clear hK K
                refine wpAny_done (by kernel_rfl) ?_ _
                have OC0 := ownsF_keptF (ownsF_alloc ho5 _) P1 hg4 (by decide)
                have E6 := l4_end (kd := kd) (on := on) (br := br) (cnt := cnt) HC6.out (ownsF_base OC0 (by have h1 := CS.out.b.size; simp at h1 ⊢; try omega)) hO4 hmc hm
                clear q0 r0 z0 q1 r1 z1 q2 r2 z2 q3 r3 z3 q4 r4 z4 q5 r5 z5
                generalize ((((((w4.setCell ⟨w.heap.size + 1, 0, none⟩ (.string ⟨kd.toArray⟩)).setCell ⟨w.heap.size + 1, 1, none⟩ (.bool on)).setCell ⟨w.heap.size + 1, 2, none⟩ (.bool br)).setCell ⟨w.heap.size + 1, 3, none⟩ (.slice ga cl.length gc)).setCell ⟨w.heap.size + 1, 4, none⟩ (.int .i64 cnt)).setCell ⟨w.heap.size + 1, 5, none⟩ (.slice ua l.length uc)) = WE at *
                go_wp2_with fail
                obtain ⟨BE, RE, HE⟩ := E6
                have e0 := BE.cell 0 (by simp)
                have e1 := BE.cell 1 (by simp)
                have e2 := BE.cell 2 (by simp)
                have e3 := BE.cell 3 (by simp)
                have e4 := BE.cell 4 (by simp)
                have e5 := BE.cell 5 (by simp)
                simp only [List.getElem_cons_zero, List.getElem_cons_succ] at e0 e1 e2 e3 e4 e5
                exact bodyPost_ret (v := .agg #[.string ⟨kd.toArray⟩, .bool on, .bool br, .slice ga cl.length gc, .int .i64 cnt, .slice ua l.length uc]) (by simp [results, Try.results127, go_sem, e0, e1, e2, e3, e4, e5]) rfl ⟨_, rfl, RE, HE⟩
              exact AllReady.nil
            exact AllReady.nil
          exact AllReady.nil
        exact AllReady.nil
      refine AllReady.cons rfl (fun K hK => ?_) ?_
      · go_simp
        refine hK _ _ ?_
        clear hK K
        refine wpAny_ready (rs := [2]) (by kernel_rfl) (by simp) ?_
        refine AllReady.cons rfl (fun K hK => ?_) ?_
        · go_simp
          refine (HCC.out _ (CS.out.alloc _).b).mono ?_
          rintro e w2 ⟨_, rfl, ⟨cv, rfl, ho5⟩, hb5⟩
          obtain ⟨ga, gc, rfl⟩ := slice_of ho5
          have HC5 := Lib.hid ((CS.out.alloc _).below hb5)
          have lp := HC5.out.p.lt
          have lr := HC5.out.r.lt
          have np : ¬ w.heap.size = w2.heap.size := by omega
          have nr : ¬ w.heap.size + 1 = w2.heap.size := by omega
          have q0 := HC5.out.p.cell 0 (by simp)
          have q1 := HC5.out.p.cell 1 (by simp)
          have q2 := HC5.out.p.cell 2 (by simp)
          have q3 := HC5.out.p.cell 3 (by simp)
          have q4 := HC5.out.p.cell 4 (by simp)
          have q5 := HC5.out.p.cell 5 (by simp)
          have r0 := HC5.out.r.cell 0 (by simp)
          have z0 := HC5.out.r.froz 0 (by simp)
          have r1 := HC5.out.r.cell 1 (by simp)
          have z1 := HC5.out.r.froz 1 (by simp)
          have r2 := HC5.out.r.cell 2 (by simp)
          have z2 := HC5.out.r.froz 2 (by simp)
          have r3 := HC5.out.r.cell 3 (by simp)
          have z3 := HC5.out.r.froz 3 (by simp)
          have r4 := HC5.out.r.cell 4 (by simp)
          have z4 := HC5.out.r.froz 4 (by simp)
          have r5 := HC5.out.r.cell 5 (by simp)
          have z5 := HC5.out.r.froz 5 (by simp)
          simp only [List.getElem_cons_zero, List.getElem_cons_succ] at q0 q1 q2 q3 q4 q5 r0 r1 r2 r3 r4 r5
          refine hK _ _ ?_
          clear hK K
          refine wpAny_ready (rs := [6]) (by kernel_rfl) (by simp) ?_
          refine AllReady.cons rfl (fun K hK => ?_) ?_
          · have P1 := ownsF_below (HO0.out _ _) hb5 (Nat.le_refl _)
            have P2 := HC5.out
            have P3 := SliceAt.below H5.out (good_flat cLayer_len) P2.b (Nat.le_refl _)
            have P4 := P2.r.lt
            refine step_laysN rfl _ _ rfl (w.heap.size + 1 + 1) _ l _ sa sc ?_ P1 ?_ P3 ⟨_, _, rfl⟩ hm P4 ?_
            · simp [Act.eval, Act.put]
            · simp [Act.eval, Act.put]
            intro v4 w4 hO4 hg4
            obtain ⟨ua, uc, rfl⟩ := slice_of hO4
            have HC6 := Lib.hid (P2.grown hg4 (fun g hg => (World.ownsRow.lt P1 g hg).1))
            have lp := HC6.out.p.lt
            have lr := HC6.out.r.lt
            have np : ¬ w.heap.size = w4.heap.size := by omega
            have nr : ¬ w.heap.size + 1 = w4.heap.size := by omega
            have q0 := HC6.out.p.cell 0 (by simp)
            have q1 := HC6.out.p.cell 1 (by simp)
            have q2 := HC6.out.p.cell 2 (by simp)
            have q3 := HC6.out.p.cell 3 (by simp)
            have q4 := HC6.out.p.cell 4 (by simp)
            have q5 := HC6.out.p.cell 5 (by simp)
            have r0 := HC6.out.r.cell 0 (by simp)
            have z0 := HC6.out.r.froz 0 (by simp)
            have r1 := HC6.out.r.cell 1 (by simp)
            have z1 := HC6.out.r.froz 1 (by simp)
            have r2 := HC6.out.r.cell 2 (by simp)
            have z2 := HC6.out.r.froz 2 (by simp)
            have r3 := HC6.out.r.cell 3 (by simp)
            have z3 := HC6.out.r.froz 3 (by simp)
            have r4 := HC6.out.r.cell 4 (by simp)
            have z4 := HC6.out.r.froz 4 (by simp)
            have r5 := HC6.out.r.cell 5 (by simp)
            have z5 := HC6.out.r.froz 5 (by simp)
            simp only [List.getElem_cons_zero, List.getElem_cons_succ] at q0 q1 q2 q3 q4 q5 r0 r1 r2 r3 r4 r5
            refine hK _ _ ?_
            clear hK K
            refine wpAny_ready (rs := [7]) (by kernel_rfl) (by simp) ?_
            refine AllReady.cons rfl (fun K hK => ?_) ?_
            · go_simp
              refine hK _ _ ?_
              clear hK K
              refine wpAny_ready (rs := [8]) (by kernel_rfl) (by simp) ?_
              refine AllReady.cons rfl (fun K hK => ?_) ?_
              · go_simp
                refine hK _ _ ?_
                clear hK K
                refine wpAny_done (by kernel_rfl) ?_ _
                have OC0 := ownsF_keptF ho5 P1 hg4 (by decide)
                have E6 := l4_end (kd := kd) (on := on) (br := br) (cnt := cnt) HC6.out (ownsF_base OC0 (by have h1 := CS.out.b.size; simp at h1 ⊢; try omega)) hO4 hmc hm
                clear q0 r0 z0 q1 r1 z1 q2 r2 z2 q3 r3 z3 q4 r4 z4 q5 r5 z5
                generalize ((((((w4.setCell ⟨w.heap.size + 1, 0, none⟩ (.string ⟨kd.toArray⟩)).setCell ⟨w.heap.size + 1, 1, none⟩ (.bool on)).setCell ⟨w.heap.size + 1, 2, none⟩ (.bool br)).setCell ⟨w.heap.size + 1, 3, none⟩ (.slice ga cl.length gc)).setCell ⟨w.heap.size + 1, 4, none⟩ (.int .i64 cnt)).setCell ⟨w.heap.size + 1, 5, none⟩ (.slice ua l.length uc)) = WE at *
                go_wp2_with fail
                obtain ⟨BE, RE, HE⟩ := E6
                have e0 := BE.cell 0 (by simp)
                have e1 := BE.cell 1 (by simp)
                have e2 := BE.cell 2 (by simp)
                have e3 := BE.cell 3 (by simp)
                have e4 := BE.cell 4 (by simp)
                have e5 := BE.cell 5 (by simp)
                simp only [List.getElem_cons_zero, List.getElem_cons_succ] at e0 e1 e2 e3 e4 e5
                exact bodyPost_ret (v := .agg #[.string ⟨kd.toArray⟩, .bool on, .bool br, .slice ga cl.length gc, .int .i64 cnt, .slice ua l.length uc]) (by simp [results, Try.results127, go_sem, e0, e1, e2, e3, e4, e5]) rfl ⟨_, rfl, RE, HE⟩
              exact AllReady.nil
            exact AllReady.nil
          exact AllReady.nil
        exact AllReady.nil
      exact AllReady.nil
    exact AllReady.nil
  refine AllReady.cons rfl (fun K hK => ?_) ?_
  · go_simp
    refine hK _ _ ?_
    clear hK K
    refine wpAny_ready (rs := [1, 5]) (by kernel_rfl) (by simp) ?_
    refine AllReady.cons rfl (fun K hK => ?_) ?_
    · go_simp
      refine hK _ _ ?_
      clear hK K
      refine wpAny_ready (rs := [2, 5]) (by kernel_rfl) (by simp) ?_
      refine AllReady.cons rfl (fun K hK => ?_) ?_
      · go_simp
        refine (HCC.out _ (CS.out.alloc _).b).mono ?_
        rintro e w2 ⟨_, rfl, ⟨cv, rfl, ho5⟩, hb5⟩
        obtain ⟨ga, gc, rfl⟩ := slice_of ho5
        have HC5 := Lib.hid ((CS.out.alloc _).below hb5)
        have lp := HC5.out.p.lt
        have lr := HC5.out.r.lt
        have np : ¬ w.heap.size = w2.heap.size := by omega
        have nr : ¬ w.heap.size + 1 = w2.heap.size := by omega
        have q0 := HC5.out.p.cell 0 (by simp)
        have q1 := HC5.out.p.cell 1 (by simp)
        have q2 := HC5.out.p.cell 2 (by simp)
        have q3 := HC5.out.p.cell 3 (by simp)
        have q4 := HC5.out.p.cell 4 (by simp)
        have q5 := HC5.out.p.cell 5 (by simp)
        have r0 := HC5.out.r.cell 0 (by simp)
        have z0 := HC5.out.r.froz 0 (by simp)
        have r1 := HC5.out.r.cell 1 (by simp)
        have z1 := HC5.out.r.froz 1 (by simp)
        have r2 := HC5.out.r.cell 2 (by simp)
        have z2 := HC5.out.r.froz 2 (by simp)
        have r3 := HC5.out.r.cell 3 (by simp)
        have z3 := HC5.out.r.froz 3 (by simp)
        have r4 := HC5.out.r.cell 4 (by simp)
        have z4 := HC5.out.r.froz 4 (by simp)
        have r5 := HC5.out.r.cell 5 (by simp)
        have z5 := HC5.out.r.froz 5 (by simp)
        simp only [List.getElem_cons_zero, List.getElem_cons_succ] at q0 q1 q2 q3 q4 q5 r0 r1 r2 r3 r4 r5
        refine hK _ _ ?_
        clear hK K
        refine wpAny_ready (rs := [5]) (by kernel_rfl) (by simp) ?_
        refine AllReady.cons rfl (fun K hK => ?_) ?_
        · go_simp
          refine hK _ _ ?_
          clear hK K
          refine wpAny_ready (rs := [6]) (by kernel_rfl) (by simp) ?_
          refine AllReady.cons rfl (fun K hK => ?_) ?_
          · have P1 := ownsF_below (HO0.out _ _) hb5 (Nat.le_refl _)
            have P2 := HC5.out
            have P3 := SliceAt.below H5.out (good_flat cLayer_len) P2.b (Nat.le_refl _)
            have P4 := P2.r.lt
            refine step_laysN rfl _ _ rfl (w.heap.size + 1 + 1) _ l _ sa sc ?_ P1 ?_ P3 ⟨_, _, rfl⟩ hm P4 ?_
            · simp [Act.eval, Act.put]
            · simp [Act.eval, Act.put]
            intro v4 w4 hO4 hg4
            obtain ⟨ua, uc, rfl⟩ := slice_of hO4
            have HC6 := Lib.hid (P2.grown hg4 (fun g hg => (World.ownsRow.lt P1 g hg).1))
            have lp := HC6.out.p.lt
            have lr := HC6.out.r.lt
            have np : ¬ w.heap.size = w4.heap.size := by omega
            have nr : ¬ w.heap.size + 1 = w4.heap.size := by omega
            have q0 := HC6.out.p.cell 0 (by simp)
            have q1 := HC6.out.p.cell 1 (by simp)
            have q2 := HC6.out.p.cell 2 (by simp)
            have q3 := HC6.out.p.cell 3 (by simp)
            have q4 := HC6.out.p.cell 4 (by simp)
            have q5 := HC6.out.p.cell 5 (by simp)
            have r0 := HC6.out.r.cell 0 (by simp)
            have z0 := HC6.out.r.froz 0 (by simp)
            have r1 := HC6.out.r.cell 1 (by simp)
            have z1 := HC6.out.r.froz 1 (by simp)
            have r2 := HC6.out.r.cell 2 (by simp)
            have z2 := HC6.out.r.froz 2 (by simp)
            have r3 := HC6.out.r.cell 3 (by simp)
            have z3 := HC6.out.r.froz 3 (by simp)
            have r4 := HC6.out.r.cell 4 (by simp)
            have z4 := HC6.out.r.froz 4 (by simp)
            have r5 := HC6.out.r.cell 5 (by simp)
            have z5 := HC6.out.r.froz 5 (by simp)
            simp only [List.getElem_cons_zero, List.getElem_cons_succ] at q0 q1 q2 q3 q4 q5 r0 r1 r2 r3 r4 r5
            refine hK _ _ ?_
            clear hK K
            refine wpAny_ready (rs := [7]) (by kernel_rfl) (by simp) ?_
            refine AllReady.cons rfl (fun K hK => ?_) ?_
            · go_simp
              refine hK _ _ ?_
              clear hK K
              refine wpAny_ready (rs := [8]) (by kernel_rfl) (by simp) ?_
              refine AllReady.cons rfl (fun K hK => ?_) ?_
              · go_simp
                refine hK _ _ ?_
                clear hK K
                refine wpAny_done (by kernel_rfl) ?_ _
                have OC0 := ownsF_keptF ho5 P1 hg4 (by decide)
                have E6 := l4_end (kd := kd) (on := on) (br := br) (cnt := cnt) HC6.out (ownsF_base OC0 (by have h1 := CS.out.b.size; simp at h1 ⊢; try omega)) hO4 hmc hm
                clear q0 r0 z0 q1 r1 z1 q2 r2 z2 q3 r3 z3 q4 r4 z4 q5 r5 z5
                generalize ((((((w4.setCell ⟨w.heap.size + 1, 0, none⟩ (.string ⟨kd.toArray⟩)).setCell ⟨w.heap.size + 1, 1, none⟩ (.bool on)).setCell ⟨w.heap.size + 1, 2, none⟩ (.bool br)).setCell ⟨w.heap.size + 1, 3, none⟩ (.slice ga cl.length gc)).setCell ⟨w.heap.size + 1, 4, none⟩ (.int .i64 cnt)).setCell ⟨w.heap.size + 1, 5, none⟩ (.slice ua l.length uc)) = WE at *
                go_wp2_with fail
                obtain ⟨BE, RE, HE⟩ := E6
                have e0 := BE.cell 0 (by simp)
                have e1 := BE.cell 1 (by simp)
                have e2 := BE.cell 2 (by simp)
                have e3 := BE.cell 3 (by simp)
                have e4 := BE.cell 4 (by simp)
                have e5 := BE.cell 5 (by simp)
                simp only [List.getElem_cons_zero, List.getElem_cons_succ] at e0 e1 e2 e3 e4 e5
                exact bodyPost_ret (v := .agg #[.string ⟨kd.toArray⟩, .bool on, .bool br, .slice ga cl.length gc, .int .i64 cnt, .slice ua l.length uc]) (by simp [results, Try.results127, go_sem, e0, e1, e2, e3, e4, e5]) rfl ⟨_, rfl, RE, HE⟩
              exact AllReady.nil
            exact AllReady.nil
          exact AllReady.nil
        exact AllReady.nil
      refine AllReady.cons rfl (fun K hK => ?_) ?_
      · go_simp
        refine hK _ _ ?_
        clear hK K
        refine wpAny_ready (rs := [2]) (by kernel_rfl) (by simp) ?_
        refine AllReady.cons rfl (fun K hK => ?_) ?_
        · go_simp
          refine (HCC.out _ (CS.out.alloc _).b).mono ?_
          rintro e w2 ⟨_, rfl, ⟨cv, rfl, ho5⟩, hb5⟩
          obtain ⟨ga, gc, rfl⟩ := slice_of ho5
          have HC5 := Lib.hid ((CS.out.alloc _).below hb5)
          have lp := HC5.out.p.lt
          have lr := HC5.out.r.lt
          have np : ¬ w.heap.size = w2.heap.size := by omega
          have nr : ¬ w.heap.size + 1 = w2.heap.size := by omega
          have q0 := HC5.out.p.cell 0 (by simp)
          have q1 := HC5.out.p.cell 1 (by simp)
          have q2 := HC5.out.p.cell 2 (by simp)
          have q3 := HC5.out.p.cell 3 (by simp)
          have q4 := HC5.out.p.cell 4 (by simp)
          have q5 := HC5.out.p.cell 5 (by simp)
          have r0 := HC5.out.r.cell 0 (by simp)
          have z0 := HC5.out.r.froz 0 (by simp)
          have r1 := HC5.out.r.cell 1 (by simp)
          have z1 := HC5.out.r.froz 1 (by simp)
          have r2 := HC5.out.r.cell 2 (by simp)
          have z2 := HC5.out.r.froz 2 (by simp)
          have r3 := HC5.out.r.cell 3 (by simp)
          have z3 := HC5.out.r.froz 3 (by simp)
          have r4 := HC5.out.r.cell 4 (by simp)
          have z4 := HC5.out.r.froz 4 (by simp)
          have r5 := HC5.out.r.cell 5 (by simp)
          have z5 := HC5.out.r.froz 5 (by simp)
          simp only [List.getElem_cons_zero, List.getElem_cons_succ] at q0 q1 q2 q3 q4 q5 r0 r1 r2 r3 r4 r5
          refine hK _ _ ?_
          clear hK K
          refine wpAny_ready (rs := [6]) (by kernel_rfl) (by simp) ?_
          refine AllReady.cons rfl (fun K hK => ?_) ?_
          · have P1 := ownsF_below (HO0.out _ _) hb5 (Nat.le_refl _)
            have P2 := HC5.out
            have P3 := SliceAt.below H5.out (good_flat cLayer_len) P2.b (Nat.le_refl _)
            have P4 := P2.r.lt
            refine step_laysN rfl _ _ rfl (w.heap.size + 1 + 1) _ l _ sa sc ?_ P1 ?_ P3 ⟨_, _, rfl⟩ hm P4 ?_
            · simp [Act.eval, Act.put]
            · simp [Act.eval, Act.put]
            intro v4 w4 hO4 hg4
            obtain ⟨ua, uc, rfl⟩ := slice_of hO4
            have HC6 := Lib.hid (P2.grown hg4 (fun g hg => (World.ownsRow.lt P1 g hg).1))
            have lp := HC6.out.p.lt
            have lr := HC6.out.r.lt
            have np : ¬ w.heap.size = w4.heap.size := by omega
            have nr : ¬ w.heap.size + 1 = w4.heap.size := by omega
            have q0 := HC6.out.p.cell 0 (by simp)
            have q1 := HC6.out.p.cell 1 (by simp)
            have q2 := HC6.out.p.cell 2 (by simp)
            have q3 := HC6.out.p.cell 3 (by simp)
            have q4 := HC6.out.p.cell 4 (by simp)
            have q5 := HC6.out.p.cell 5 (by simp)
            have r0 := HC6.out.r.cell 0 (by simp)
            have z0 := HC6.out.r.froz 0 (by simp)
            have r1 := HC6.out.r.cell 1 (by simp)
            have z1 := HC6.out.r.froz 1 (by simp)
            have r2 := HC6.out.r.cell 2 (by simp)
            have z2 := HC6.out.r.froz 2 (by simp)
            have r3 := HC6.out.r.cell 3 (by simp)
            have z3 := HC6.out.r.froz 3 (by simp)
            have r4 := HC6.out.r.cell 4 (by simp)
            have z4 := HC6.out.r.froz 4 (by simp)
            have r5 := HC6.out.r.cell 5 (by simp)
            have z5 := HC6.out.r.froz 5 (by simp)
            simp only [List.getElem_cons_zero, List.getElem_cons_succ] at q0 q1 q2 q3 q4 q5 r0 r1 r2 r3 r4 r5
            refine hK _ _ ?_
            clear hK K
            refine wpAny_ready (rs := [7]) (by kernel_rfl) (by simp) ?_
            refine AllReady.cons rfl (fun K hK => ?_) ?_
            · go_simp
              refine hK _ _ ?_
              clear hK K
              refine wpAny_ready (rs := [8]) (by kernel_rfl) (by simp) ?_
              refine AllReady.cons rfl (fun K hK => ?_) ?_
              · go_simp
                refine hK _ _ ?_
                clear hK K
                refine wpAny_done (by kernel_rfl) ?_ _
                have OC0 := ownsF_keptF ho5 P1 hg4 (by decide)
                have E6 := l4_end (kd := kd) (on := on) (br := br) (cnt := cnt) HC6.out (ownsF_base OC0 (by have h1 := CS.out.b.size; simp at h1 ⊢; try omega)) hO4 hmc hm
                clear q0 r0 z0 q1 r1 z1 q2 r2 z2 q3 r3 z3 q4 r4 z4 q5 r5 z5
                generalize ((((((w4.setCell ⟨w.heap.size + 1, 0, none⟩ (.string ⟨kd.toArray⟩)).setCell ⟨w.heap.size + 1, 1, none⟩ (.bool on)).setCell ⟨w.heap.size + 1, 2, none⟩ (.bool br)).setCell ⟨w.heap.size + 1, 3, none⟩ (.slice ga cl.length gc)).setCell ⟨w.heap.size + 1, 4, none⟩ (.int .i64 cnt)).setCell ⟨w.heap.size + 1, 5, none⟩ (.slice ua l.length uc)) = WE at *
                go_wp2_with fail
                obtain ⟨BE, RE, HE⟩ := E6
                have e0 := BE.cell 0 (by simp)
                have e1 := BE.cell 1 (by simp)
                have e2 := BE.cell 2 (by simp)
                have e3 := BE.cell 3 (by simp)
                have e4 := BE.cell 4 (by simp)
                have e5 := BE.cell 5 (by simp)
                simp only [List.getElem_cons_zero, List.getElem_cons_succ] at e0 e1 e2 e3 e4 e5
                exact bodyPost_ret (v := .agg #[.string ⟨kd.toArray⟩, .bool on, .bool br, .slice ga cl.length gc, .int .i64 cnt, .slice ua l.length uc]) (by simp [results, Try.results127, go_sem, e0, e1, e2, e3, e4, e5]) rfl ⟨_, rfl, RE, HE⟩
              exact AllReady.nil
            exact AllReady.nil
          exact AllReady.nil
        exact AllReady.nil
      exact AllReady.nil
    refine AllReady.cons rfl (fun K hK => ?_) ?_
    · go_simp
      refine hK _ _ ?_
      clear hK K
      refine wpAny_ready (rs := [1]) (by kernel_rfl) (by simp) ?_
      refine AllReady.cons rfl (fun K hK => ?_) ?_
      · go_simp
        refine hK _ _ ?_
        clear hK K
        refine wpAny_ready (rs := [2]) (by kernel_rfl) (by simp) ?_
        refine AllReady.cons rfl (fun K hK => ?_) ?_
        · go_simp
          refine (HCC.out _ (CS.out.alloc _).b).mono ?_
          rintro e w2 ⟨_, rfl, ⟨cv, rfl, ho5⟩, hb5⟩
          obtain ⟨ga, gc, rfl⟩ := slice_of ho5
          have HC5 := Lib.hid ((CS.out.alloc _).below hb5)
          have lp := HC5.out.p.lt
          have lr := HC5.out.r.lt
          have np : ¬ w.heap.size = w2.heap.size := by omega
          have nr : ¬ w.heap.size + 1 = w2.heap.size := by omega
          have q0 := HC5.out.p.cell 0 (by simp)
          have q1 := HC5.out.p.cell 1 (by simp)
          have q2 := HC5.out.p.cell 2 (by simp)
          have q3 := HC5.out.p.cell 3 (by simp)
          have q4 := HC5.out.p.cell 4 (by simp)
          have q5 := HC5.out.p.cell 5 (by simp)
          have r0 := HC5.out.r.cell 0 (by simp)
          have z0 := HC5.out.r.froz 0 (by simp)
          have r1 := HC5.out.r.cell 1 (by simp)
          have z1 := HC5.out.r.froz 1 (by simp)
          have r2 := HC5.out.r.cell 2 (by simp)
          have z2 := HC5.out.r.froz 2 (by simp)
          have r3 := HC5.out.r.cell 3 (by simp)
          have z3 := HC5.out.r.froz 3 (by simp)
          have r4 := HC5.out.r.cell 4 (by simp)
          have z4 := HC5.out.r.froz 4 (by simp)
          have r5 := HC5.out.r.cell 5 (by simp)
          have z5 := HC5.out.r.froz 5 (by simp)
          simp only [List.getElem_cons_zero, List.getElem_cons_succ] at q0 q1 q2 q3 q4 q5 r0 r1 r2 r3 r4 r5
          refine hK _ _ ?_
          clear hK K
          refine wpAny_ready (rs := [6]) (by kernel_rfl) (by simp) ?_
          refine AllReady.cons rfl (fun K hK => ?_) ?_
          · have P1 := ownsF_below (HO0.out _ _) hb5 (Nat.le_refl _)
            have P2 := HC5.out
            have P3 := SliceAt.below H5.out (good_flat cLayer_len) P2.b (Nat.le_refl _)
            have P4 := P2.r.lt
            refine step_laysN rfl _ _ rfl (w.heap.size + 1 + 1) _ l _ sa sc ?_ P1 ?_ P3 ⟨_, _, rfl⟩ hm P4 ?_
            · simp [Act.eval, Act.put]
            · simp [Act.eval, Act.put]
            intro v4 w4 hO4 hg4
            obtain ⟨ua, uc, rfl⟩ := slice_of hO4
            have HC6 := Lib.hid (P2.grown hg4 (fun g hg => (World.ownsRow.lt P1 g hg).1))
            have lp := HC6.out.p.lt
            have lr := HC6.out.r.lt
            have np : ¬ w.heap.size = w4.heap.size := by omega
            have nr : ¬ w.heap.size + 1 = w4.heap.size := by omega
            have q0 := HC6.out.p.cell 0 (by simp)
            have q1 := HC6.out.p.cell 1 (by simp)
            have q2 := HC6.out.p.cell 2 (by simp)
            have q3 := HC6.out.p.cell 3 (by simp)
            have q4 := HC6.out.p.cell 4 (by simp)
            have q5 := HC6.out.p.cell 5 (by simp)
            have r0 := HC6.out.r.cell 0 (by simp)
            have z0 := HC6.out.r.froz 0 (by simp)
            have r1 := HC6.out.r.cell 1 (by simp)
            have z1 := HC6.out.r.froz 1 (by simp)
            have r2 := HC6.out.r.cell 2 (by simp)
            have z2 := HC6.out.r.froz 2 (by simp)
            have r3 := HC6.out.r.cell 3 (by simp)
            have z3 := HC6.out.r.froz 3 (by simp)
            have r4 := HC6.out.r.cell 4 (by simp)
            have z4 := HC6.out.r.froz 4 (by simp)
            have r5 := HC6.out.r.cell 5 (by simp)
            have z5 := HC6.out.r.froz 5 (by simp)
            simp only [List.getElem_cons_zero, List.getElem_cons_succ] at q0 q1 q2 q3 q4 q5 r0 r1 r2 r3 r4 r5
            refine hK _ _ ?_
            clear hK K
            refine wpAny_ready (rs := [7]) (by kernel_rfl) (by simp) ?_
            refine AllReady.cons rfl (fun K hK => ?_) ?_
            · go_simp
              refine hK _ _ ?_
              clear hK K
              refine wpAny_ready (rs := [8]) (by kernel_rfl) (by simp) ?_
              refine AllReady.cons rfl (fun K hK => ?_) ?_
              · go_simp
                refine hK _ _ ?_
                clear hK K
                refine wpAny_done (by kernel_rfl) ?_ _
                have OC0 := ownsF_keptF ho5 P1 hg4 (by decide)
                have E6 := l4_end (kd := kd) (on := on) (br := br) (cnt := cnt) HC6.out (ownsF_base OC0 (by have h1 := CS.out.b.size; simp at h1 ⊢; try omega)) hO4 hmc hm
                clear q0 r0 z0 q1 r1 z1 q2 r2 z2 q3 r3 z3 q4 r4 z4 q5 r5 z5
                generalize ((((((w4.setCell ⟨w.heap.size + 1, 0, none⟩ (.string ⟨kd.toArray⟩)).setCell ⟨w.heap.size + 1, 1, none⟩ (.bool on)).setCell ⟨w.heap.size + 1, 2, none⟩ (.bool br)).setCell ⟨w.heap.size + 1, 3, none⟩ (.slice ga cl.length gc)).setCell ⟨w.heap.size + 1, 4, none⟩ (.int .i64 cnt)).setCell ⟨w.heap.size + 1, 5, none⟩ (.slice ua l.length uc)) = WE at *
                go_wp2_with fail
                obtain ⟨BE, RE, HE⟩ := E6
                have e0 := BE.cell 0 (by simp)
                have e1 := BE.cell 1 (by simp)
                have e2 := BE.cell 2 (by simp)
                have e3 := BE.cell 3 (by simp)
                have e4 := BE.cell 4 (by simp)
                have e5 := BE.cell 5 (by simp)
                simp only [List.getElem_cons_zero, List.getElem_cons_succ] at e0 e1 e2 e3 e4 e5
                exact bodyPost_ret (v := .agg #[.string ⟨kd.toArray⟩, .bool on, .bool br, .slice ga cl.length gc, .int .i64 cnt, .slice ua l.length uc]) (by simp [results, Try.results127, go_sem, e0, e1, e2, e3, e4, e5]) rfl ⟨_, rfl, RE, HE⟩
              exact AllReady.nil
            exact AllReady.nil
          exact AllReady.nil
        exact AllReady.nil
      exact AllReady.nil
    exact AllReady.nil
  refine AllReady.cons rfl (fun K hK => ?_) ?_
  · go_simp
    refine hK _ _ ?_
    clear hK K
    refine wpAny_ready (rs := [1, 3]) (by kernel_rfl) (by simp) ?_
    refine AllReady.cons rfl (fun K hK => ?_) ?_
    · go_simp
      refine hK _ _ ?_
      clear hK K
      refine wpAny_ready (rs := [2, 3]) (by kernel_rfl) (by simp) ?_
      refine AllReady.cons rfl (fun K hK => ?_) ?_
      · go_simp
        refine (HCC.out _ CS.out.b).mono ?_
        rintro e w2 ⟨_, rfl, ⟨cv, rfl, ho5⟩, hb5⟩
        obtain ⟨ga, gc, rfl⟩ := slice_of ho5
        have HC5 := Lib.hid (CS.out.below hb5)
        have lp := HC5.out.p.lt
        have lr := HC5.out.r.lt
        have np : ¬ w.heap.size = w2.heap.size := by omega
        have nr : ¬ w.heap.size + 1 = w2.heap.size := by omega
        have q0 := HC5.out.p.cell 0 (by simp)
        have q1 := HC5.out.p.cell 1 (by simp)
        have q2 := HC5.out.p.cell 2 (by simp)
        have q3 := HC5.out.p.cell 3 (by simp)
        have q4 := HC5.out.p.cell 4 (by simp)
        have q5 := HC5.out.p.cell 5 (by simp)
        have r0 := HC5.out.r.cell 0 (by simp)
        have z0 := HC5.out.r.froz 0 (by simp)
        have r1 := HC5.out.r.cell 1 (by simp)
        have z1 := HC5.out.r.froz 1 (by simp)
        have r2 := HC5.out.r.cell 2 (by simp)
        have z2 := HC5.out.r.froz 2 (by simp)
        have r3 := HC5.out.r.cell 3 (by simp)
        have z3 := HC5.out.r.froz 3 (by simp)
        have r4 := HC5.out.r.cell 4 (by simp)
        have z4 := HC5.out.r.froz 4 (by simp)
        have r5 := HC5.out.r.cell 5 (by simp)
        have z5 := HC5.out.r.froz 5 (by simp)
        simp only [List.getElem_cons_zero, List.getElem_cons_succ] at q0 q1 q2 q3 q4 q5 r0 r1 r2 r3 r4 r5
        refine hK _ _ ?_
        clear hK K
        refine wpAny_ready (rs := [3]) (by kernel_rfl) (by simp) ?_
        refine AllReady.cons rfl (fun K hK => ?_) ?_
        · go_simp
          refine hK _ _ ?_
          clear hK K
          refine wpAny_ready (rs := [6]) (by kernel_rfl) (by simp) ?_
          refine AllReady.cons rfl (fun K hK => ?_) ?_
          · have P1 := ownsF_base (B' := w.heap.size + 1 + 1) (ownsF_new cLayer 81 2 w2) HC5.out.r.lt
            have P2 := HC5.out.alloc (.cells #[] 81)
            have P3 := SliceAt.below H5.out (good_flat cLayer_len) P2.b (Nat.le_refl _)
            have P4 := P2.r.lt
            refine step_laysN rfl _ _ rfl (w.heap.size + 1 + 1) _ l _ sa sc ?_ P1 ?_ P3 ⟨_, _, rfl⟩ hm P4 ?_
            · simp [Act.eval, Act.put]
            · simp [Act.eval, Act.put]
            intro v4 w4 hO4 hg4
            obtain ⟨ua, uc, rfl⟩ := slice_of hO4
            have HC6 := Lib.hid (P2.grown hg4 (fun g hg => (World.ownsRow.lt P1 g hg).1))
            have lp := HC6.out.p.lt
            have lr := HC6.out.r.lt
            have np : ¬ w.heap.size = w4.heap.size := by omega
            have nr : ¬ w.heap.size + 1 = w4.heap.size := by omega
            have q0 := HC6.out.p.cell 0 (by simp)
            have q1 := HC6.out.p.cell 1 (by simp)
            have q2 := HC6.out.p.cell 2 (by simp)
            have q3 := HC6.out.p.cell 3 (by simp)
            have q4 := HC6.out.p.cell 4 (by simp)
            have q5 := HC6.out.p.cell 5 (by simp)
            have r0 := HC6.out.r.cell 0 (by simp)
            have z0 := HC6.out.r.froz 0 (by simp)
            have r1 := HC6.out.r.cell 1 (by simp)
            have z1 := HC6.out.r.froz 1 (by simp)
            have r2 := HC6.out.r.cell 2 (by simp)
            have z2 := HC6.out.r.froz 2 (by simp)
            have r3 := HC6.out.r.cell 3 (by simp)
            have z3 := HC6.out.r.froz 3 (by simp)
            have r4 := HC6.out.r.cell 4 (by simp)
            have z4 := HC6.out.r.froz 4 (by simp)
            have r5 := HC6.out.r.cell 5 (by simp)
            have z5 := HC6.out.r.froz 5 (by simp)
            simp only [List.getElem_cons_zero, List.getElem_cons_succ] at q0 q1 q2 q3 q4 q5 r0 r1 r2 r3 r4 r5
            refine hK _ _ ?_
            clear hK K
            refine wpAny_ready (rs := [7]) (by kernel_rfl) (by simp) ?_
            refine AllReady.cons rfl (fun K hK => ?_) ?_
            · go_simp
              refine hK _ _ ?_
              clear hK K
              refine wpAny_ready (rs := [8]) (by kernel_rfl) (by simp) ?_
              refine AllReady.cons rfl (fun K hK => ?_) ?_
              · go_simp
                refine hK _ _ ?_
                clear hK K
                refine wpAny_done (by kernel_rfl) ?_ _
                have OC0 := ownsF_keptF (ownsF_alloc ho5 _) P1 hg4 (by decide)
                have E6 := l4_end (kd := kd) (on := on) (br := br) (cnt := cnt) HC6.out (ownsF_base OC0 (by have h1 := CS.out.b.size; simp at h1 ⊢; try omega)) hO4 hmc hm
                clear q0 r0 z0 q1 r1 z1 q2 r2 z2 q3 r3 z3 q4 r4 z4 q5 r5 z5
                generalize ((((((w4.setCell ⟨w.heap.size + 1, 0, none⟩ (.string ⟨kd.toArray⟩)).setCell ⟨w.heap.size + 1, 1, none⟩ (.bool on)).setCell ⟨w.heap.size + 1, 2, none⟩ (.bool br)).setCell ⟨w.heap.size + 1, 3, none⟩ (.slice ga cl.length gc)).setCell ⟨w.heap.size + 1, 4, none⟩ (.int .i64 cnt)).setCell ⟨w.heap.size + 1, 5, none⟩ (.slice ua l.length uc)) = WE at *
                go_wp2_with fail
                obtain ⟨BE, RE, HE⟩ := E6
                have e0 := BE.cell 0 (by simp)
                have e1 := BE.cell 1 (by simp)
                have e2 := BE.cell 2 (by simp)
                have e3 := BE.cell 3 (by simp)
                have e4 := BE.cell 4 (by simp)
                have e5 := BE.cell 5 (by simp)
                simp only [List.getElem_cons_zero, List.getElem_cons_succ] at e0 e1 e2 e3 e4 e5
                exact bodyPost_ret (v := .agg #[.string ⟨kd.toArray⟩, .bool on, .bool br, .slice ga cl.length gc, .int .i64 cnt, .slice ua l.length uc]) (by simp [results, Try.results127, go_sem, e0, e1, e2, e3, e4, e5]) rfl ⟨_, rfl, RE, HE⟩
              exact AllReady.nil
            exact AllReady.nil
          exact AllReady.nil
        exact AllReady.nil
      refine AllReady.cons rfl (fun K hK => ?_) ?_
      · go_simp
        refine hK _ _ ?_
        clear hK K
        refine wpAny_ready (rs := [2]) (by kernel_rfl) (by simp) ?_
        refine AllReady.cons rfl (fun K hK => ?_) ?_
        · go_simp
          refine (HCC.out _ (CS.out.alloc _).b).mono ?_
          rintro e w2 ⟨_, rfl, ⟨cv, rfl, ho5⟩, hb5⟩
          obtain ⟨ga, gc, rfl⟩ := slice_of ho5
          have HC5 := Lib.hid ((CS.out.alloc _).below hb5)
          have lp := HC5.out.p.lt
          have lr := HC5.out.r.lt
          have np : ¬ w.heap.size = w2.heap.size := by omega
          have nr : ¬ w.heap.size + 1 = w2.heap.size := by omega
          have q0 := HC5.out.p.cell 0 (by simp)
          have q1 := HC5.out.p.cell 1 (by simp)
          have q2 := HC5.out.p.cell 2 (by simp)
          have q3 := HC5.out.p.cell 3 (by simp)
          have q4 := HC5.out.p.cell 4 (by simp)
          have q5 := HC5.out.p.cell 5 (by simp)
          have r0 := HC5.out.r.cell 0 (by simp)
          have z0 := HC5.out.r.froz 0 (by simp)
          have r1 := HC5.out.r.cell 1 (by simp)
          have z1 := HC5.out.r.froz 1 (by simp)
          have r2 := HC5.out.r.cell 2 (by simp)
          have z2 := HC5.out.r.froz 2 (by simp)
          have r3 := HC5.out.r.cell 3 (by simp)
          have z3 := HC5.out.r.froz 3 (by simp)
          have r4 := HC5.out.r.cell 4 (by simp)
          have z4 := HC5.out.r.froz 4 (by simp)
          have r5 := HC5.out.r.cell 5 (by simp)
          have z5 := HC5.out.r.froz 5 (by simp)
          simp only [List.getElem_cons_zero, List.getElem_cons_succ] at q0 q1 q2 q3 q4 q5 r0 r1 r2 r3 r4 r5
          refine hK _ _ ?_
          clear hK K
          refine wpAny_ready (rs := [6]) (by kernel_rfl) (by simp) ?_
          refine AllReady.cons rfl (fun K hK => ?_) ?_
          · have P1 := ownsF_below (HO0.out _ _) hb5 (Nat.le_refl _)
            have P2 := HC5.out
            have P3 := SliceAt.below H5.out (good_flat cLayer_len) P2.b (Nat.le_refl _)
            have P4 := P2.r.lt
            refine step_laysN rfl _ _ rfl (w.heap.size + 1 + 1) _ l _ sa sc ?_ P1 ?_ P3 ⟨_, _, rfl⟩ hm P4 ?_
            · simp [Act.eval, Act.put]
            · simp [Act.eval, Act.put]
            intro v4 w4 hO4 hg4
            obtain ⟨ua, uc, rfl⟩ := slice_of hO4
            have HC6 := Lib.hid (P2.grown hg4 (fun g hg => (World.ownsRow.lt P1 g hg).1))
            have lp := HC6.out.p.lt
            have lr := HC6.out.r.lt
            have np : ¬ w.heap.size = w4.heap.size := by omega
            have nr : ¬ w.heap.size + 1 = w4.heap.size := by omega
            have q0 := HC6.out.p.cell 0 (by simp)
            have q1 := HC6.out.p.cell 1 (by simp)
            have q2 := HC6.out.p.cell 2 (by simp)
            have q3 := HC6.out.p.cell 3 (by simp)
            have q4 := HC6.out.p.cell 4 (by simp)
            have q5 := HC6.out.p.cell 5 (by simp)
            have r0 := HC6.out.r.cell 0 (by simp)
            have z0 := HC6.out.r.froz 0 (by simp)
            have r1 := HC6.out.r.cell 1 (by simp)
            have z1 := HC6.out.r.froz 1 (by simp)
            have r2 := HC6.out.r.cell 2 (by simp)
            have z2 := HC6.out.r.froz 2 (by simp)
            have r3 := HC6.out.r.cell 3 (by simp)
            have z3 := HC6.out.r.froz 3 (by simp)
            have r4 := HC6.out.r.cell 4 (by simp)
            have z4 := HC6.out.r.froz 4 (by simp)
            have r5 := HC6.out.r.cell 5 (by simp)
            have z5 := HC6.out.r.froz 5 (by simp)
            simp only [List.getElem_cons_zero, List.getElem_cons_succ] at q0 q1 q2 q3 q4 q5 r0 r1 r2 r3 r4 r5
            refine hK _ _ ?_
            clear hK K
            refine wpAny_ready (rs := [7]) (by kernel_rfl) (by simp) ?_
            refine AllReady.cons rfl (fun K hK => ?_) ?_
            · go_simp
              refine hK _ _ ?_
              clear hK K
              refine wpAny_ready (rs := [8]) (by kernel_rfl) (by simp) ?_
              refine AllReady.cons rfl (fun K hK => ?_) ?_
              · go_simp
                refine hK _ _ ?_
                clear hK K
                refine wpAny_done (by kernel_rfl) ?_ _
                have OC0 := ownsF_keptF ho5 P1 hg4 (by decide)
                have E6 := l4_end (kd := kd) (on := on) (br := br) (cnt := cnt) HC6.out (ownsF_base OC0 (by have h1 := CS.out.b.size; simp at h1 ⊢; try omega)) hO4 hmc hm
                clear q0 r0 z0 q1 r1 z1 q2 r2 z2 q3 r3 z3 q4 r4 z4 q5 r5 z5
                generalize ((((((w4.setCell ⟨w.heap.size + 1, 0, none⟩ (.string ⟨kd.toArray⟩)).setCell ⟨w.heap.size + 1, 1, none⟩ (.bool on)).setCell ⟨w.heap.size + 1, 2, none⟩ (.bool br)).setCell ⟨w.heap.size + 1, 3, none⟩ (.slice ga cl.length gc)).setCell ⟨w.heap.size + 1, 4, none⟩ (.int .i64 cnt)).setCell ⟨w.heap.size + 1, 5, none⟩ (.slice ua l.length uc)) = WE at *
                go_wp2_with fail
                obtain ⟨BE, RE, HE⟩ := E6
                have e0 := BE.cell 0 (by simp)
                have e1 := BE.cell 1 (by simp)
                have e2 := BE.cell 2 (by simp)
                have e3 := BE.cell 3 (by simp)
                have e4 := BE.cell 4 (by simp)
                have e5 := BE.cell 5 (by simp)
                simp only [List.getElem_cons_zero, List.getElem_cons_succ] at e0 e1 e2 e3 e4 e5
                exact bodyPost_ret (v := .agg #[.string ⟨kd.toArray⟩, .bool on, .bool br, .slice ga cl.length gc, .int .i64 cnt, .slice ua l.length uc]) (by simp [results, Try.results127, go_sem, e0, e1, e2, e3, e4, e5]) rfl ⟨_, rfl, RE, HE⟩
              exact AllReady.nil
            exact AllReady.nil
          exact AllReady.nil
        exact AllReady.nil
      exact AllReady.nil
    refine AllReady.cons rfl (fun K hK => ?_) ?_
    · go_simp
      refine hK _ _ ?_
      clear hK K
      refine wpAny_ready (rs := [1]) (by kernel_rfl) (by simp) ?_
      refine AllReady.cons rfl (fun K hK => ?_) ?_
      · go_simp
        refine hK _ _ ?_
        clear hK K
        refine wpAny_ready (rs := [2]) (by kernel_rfl) (by simp) ?_
        refine AllReady.cons rfl (fun K hK => ?_) ?_
        · go_simp
          refine (HCC.out _ (CS.out.alloc _).b).mono ?_
          rintro e w2 ⟨_, rfl, ⟨cv, rfl, ho5⟩, hb5⟩
          obtain ⟨ga, gc, rfl⟩ := slice_of ho5
          have HC5 := Lib.hid ((CS.out.alloc _).below hb5)
          have lp := HC5.out.p.lt
          have lr := HC5.out.r.lt
          have np : ¬ w.heap.size = w2.heap.size := by omega
          have nr : ¬ w.heap.size + 1 = w2.heap.size := by omega
          have q0 := HC5.out.p.cell 0 (by simp)
          have q1 := HC5.out.p.cell 1 (by simp)
          have q2 := HC5.out.p.cell 2 (by simp)
          have q3 := HC5.out.p.cell 3 (by simp)
          have q4 := HC5.out.p.cell 4 (by simp)
          have q5 := HC5.out.p.cell 5 (by simp)
          have r0 := HC5.out.r.cell 0 (by simp)
          have z0 := HC5.out.r.froz 0 (by simp)
          have r1 := HC5.out.r.cell 1 (by simp)
          have z1 := HC5.out.r.froz 1 (by simp)
          have r2 := HC5.out.r.cell 2 (by simp)
          have z2 := HC5.out.r.froz 2 (by simp)
          have r3 := HC5.out.r.cell 3 (by simp)
          have z3 := HC5.out.r.froz 3 (by simp)
          have r4 := HC5.out.r.cell 4 (by simp)
          have z4 := HC5.out.r.froz 4 (by simp)
          have r5 := HC5.out.r.cell 5 (by simp)
          have z5 := HC5.out.r.froz 5 (by simp)
          simp only [List.getElem_cons_zero, List.getElem_cons_succ] at q0 q1 q2 q3 q4 q5 r0 r1 r2 r3 r4 r5
          refine hK _ _ ?_
          clear hK K
          refine wpAny_ready (rs := [6]) (by kernel_rfl) (by simp) ?_
          refine AllReady.cons rfl (fun K hK => ?_) ?_
          · have P1 := ownsF_below (HO0.out _ _) hb5 (Nat.le_refl _)
            have P2 := HC5.out
            have P3 := SliceAt.below H5.out (good_flat cLayer_len) P2.b (Nat.le_refl _)
            have P4 := P2.r.lt
            refine step_laysN rfl _ _ rfl (w.heap.size + 1 + 1) _ l _ sa sc ?_ P1 ?_ P3 ⟨_, _, rfl⟩ hm P4 ?_
            · simp [Act.eval, Act.put]
            · simp [Act.eval, Act.put]
            intro v4 w4 hO4 hg4
            obtain ⟨ua, uc, rfl⟩ := slice_of hO4
            have HC6 := Lib.hid (P2.grown hg4 (fun g hg => (World.ownsRow.lt P1 g hg).1))
            have lp := HC6.out.p.lt
            have lr := HC6.out.r.lt
            have np : ¬ w.heap.size = w4.heap.size := by omega
            have nr : ¬ w.heap.size + 1 = w4.heap.size := by omega
            have q0 := HC6.out.p.cell 0 (by simp)
            have q1 := HC6.out.p.cell 1 (by simp)
            have q2 := HC6.out.p.cell 2 (by simp)
            have q3 := HC6.out.p.cell 3 (by simp)
            have q4 := HC6.out.p.cell 4 (by simp)
            have q5 := HC6.out.p.cell 5 (by simp)
            have r0 := HC6.out.r.cell 0 (by simp)
            have z0 := HC6.out.r.froz 0 (by simp)
            have r1 := HC6.out.r.cell 1 (by simp)
            have z1 := HC6.out.r.froz 1 (by simp)
            have r2 := HC6.out.r.cell 2 (by simp)
            have z2 := HC6.out.r.froz 2 (by simp)
            have r3 := HC6.out.r.cell 3 (by simp)
            have z3 := HC6.out.r.froz 3 (by simp)
            have r4 := HC6.out.r.cell 4 (by simp)
            have z4 := HC6.out.r.froz 4 (by simp)
            have r5 := HC6.out.r.cell 5 (by simp)
            have z5 := HC6.out.r.froz 5 (by simp)
            simp only [List.getElem_cons_zero, List.getElem_cons_succ] at q0 q1 q2 q3 q4 q5 r0 r1 r2 r3 r4 r5
            refine hK _ _ ?_
            clear hK K
            refine wpAny_ready (rs := [7]) (by kernel_rfl) (by simp) ?_
            refine AllReady.cons rfl (fun K hK => ?_) ?_
            · go_simp
              refine hK _ _ ?_
              clear hK K
              refine wpAny_ready (rs := [8]) (by kernel_rfl) (by simp) ?_
              refine AllReady.cons rfl (fun K hK => ?_) ?_
              · go_simp
                refine hK _ _ ?_
                clear hK K
                refine wpAny_done (by kernel_rfl) ?_ _
                have OC0 := ownsF_keptF ho5 P1 hg4 (by decide)
                have E6 := l4_end (kd := kd) (on := on) (br := br) (cnt := cnt) HC6.out (ownsF_base OC0 (by have h1 := CS.out.b.size; simp at h1 ⊢; try omega)) hO4 hmc hm
                clear q0 r0 z0 q1 r1 z1 q2 r2 z2 q3 r3 z3 q4 r4 z4 q5 r5 z5
                generalize ((((((w4.setCell ⟨w.heap.size + 1, 0, none⟩ (.string ⟨kd.toArray⟩)).setCell ⟨w.heap.size + 1, 1, none⟩ (.bool on)).setCell ⟨w.heap.size + 1, 2, none⟩ (.bool br)).setCell ⟨w.heap.size + 1, 3, none⟩ (.slice ga cl.length gc)).setCell ⟨w.heap.size + 1, 4, none⟩ (.int .i64 cnt)).setCell ⟨w.heap.size + 1, 5, none⟩ (.slice ua l.length uc)) = WE at *
                go_wp2_with fail
                obtain ⟨BE, RE, HE⟩ := E6
                have e0 := BE.cell 0 (by simp)
                have e1 := BE.cell 1 (by simp)
                have e2 := BE.cell 2 (by simp)
                have e3 := BE.cell 3 (by simp)
                have e4 := BE.cell 4 (by simp)
                have e5 := BE.cell 5 (by simp)
                simp only [List.getElem_cons_zero, List.getElem_cons_succ] at e0 e1 e2 e3 e4 e5
                exact bodyPost_ret (v := .agg #[.string ⟨kd.toArray⟩, .bool on, .bool br, .slice ga cl.length gc, .int .i64 cnt, .slice ua l.length uc]) (by simp [results, Try.results127, go_sem, e0, e1, e2, e3, e4, e5]) rfl ⟨_, rfl, RE, HE⟩
              exact AllReady.nil
            exact AllReady.nil
          exact AllReady.nil
        exact AllReady.nil
      exact AllReady.nil
    exact AllReady.nil
  exact AllReady.nil
end Go.Proofs.Ytaihdjdaamglnaa
/- the model's l4Copy, as a reading -/
namespace Go.Proofs.Ytaihdjdaamglnaa
open Go.RowKit
theorem l4Copy_any (v : Value) (x : PartD) (w : World) (hx : ValAt rPart 0 w v x) (hs : SmallP x) :
    Calls Try.prog 127 #[v] w fun e w' => GivesV rPart x w e w' :=
  (l4Copy_own v x w hx hs).mono fun e w' h => by
    obtain ⟨cs, h1, h2, h3⟩ := h
    exact ⟨cs, h1, oPart_r h2 hs, h3⟩
end Go.Proofs.Ytaihdjdaamglnaa
namespace Go.Proofs.Ytaihdjdaamglnaa
set_option linter.unusedVariables false
set_option linter.unusedSimpArgs false
open Go.RowKit
set_option maxRecDepth 100000 in
set_option maxHeartbeats 3200000 in
theorem specWrap_bad1 (v : Value) (x : PartD) (s : ByteArray) (w : World) (hx : ValAt rPart 0 w v x) (hs : SmallP x) (hk : ∀ c ∈ x.fCore.fCells, c.fKey.length ≤ maxLen) (hz : s.size ≤ 1048576) (hp : partB x = false) :
    Calls Try.prog 113 #[v, .string s] w fun e w' => GivesOPR (wrapP x s.data.toList) (wrapR x s.data.toList) w e w' := by
  obtain ⟨hwp, hwr⟩ := wrap_bad (x := x) (s := s.data.toList) (fun h => by rw [hp] at h; exact absurd h.1 (by decide))
  rw [hwp, hwr]
  clear hwp hwr
  obtain ⟨_, rfl, hx⟩ := hx
  have HX := Lib.hid (fun W (hb : Below w.heap.size w W) => goodPart.keep hx (kept_below hb (Nat.le_refl _)))
  have HIP := Lib.hid (fun cs W (h : rPart 0 W cs x) => specIsPart_any (.agg cs.toArray) x W ⟨cs, rfl, h⟩ hk)
  have HCP := Lib.hid (fun cs W (h : rPart 0 W cs x) => l4Copy_own (.agg cs.toArray) x W ⟨cs, rfl, h⟩ hs)
  have HLN := Lib.hid (fun W => l4Row_any s W)
  have HSZ := Lib.hid hs.lays
  unfold l4V at HLN
  unfold GivesOPR vReply
  unfold GivesOP at HCP
  rw [hp] at HIP
  generalize decide (0 ≤ layI s.data.toList) = bb at *
  generalize needI (layI s.data.toList) = nd at *
  generalize giveI (layI s.data.toList) = gv at *
  obtain ⟨⟨a0, a1, a2, a3, a4⟩, l⟩ := x
  obtain ⟨v3, v5, rfl, h3, h5⟩ := hx
  simp only at h3 h5 HSZ
  obtain ⟨ra, rc, rfl, _⟩ := sliceAt_len h3
  obtain ⟨sa, sc, rfl, hl, hcap⟩ := sliceAt_cap h5
  clear h3 h5 hs hk hcap hl
  have BS := Lib.hid (bx_start3 w [.string ⟨a0.toArray⟩, .bool a1, .bool a2, .slice ra a3.length rc, .int .i64 a4, .slice sa l.length sc] [.string ⟨#[]⟩, .bool false, .bool false, .slice none 0 0, .int .i64 0, .slice none 0 0] [.int .i64 0, .int .i64 0, .string ⟨#[]⟩, .int .i64 0, .int .i64 0] 29 29 33)
  have HR0 := Lib.hid (HX.out _ BS.out.2.2.2)
  clear hp
  go_enter Try.func113, Try.ntmps113
  go_wp2_with fail
  refine (HCP.out _ _ HR0.out).mono ?_
  rintro e w1 ⟨_, rfl, ⟨u3, u5, rfl, ho3, ho5⟩, hb⟩
  simp only at ho3 ho5
  obtain ⟨ga, gc, rfl⟩ := slice_of ho3
  obtain ⟨ua, uc, rfl⟩ := slice_of ho5
  have HB1 := Lib.hid ((belS BS.out.2.2.2 hb).alloc (belS BS.out.2.2.2 hb).size (.cells #[.string ⟨a0.toArray⟩, .bool a1, .bool a2, .slice ga a3.length gc, .int .i64 a4, .slice ua l.length uc] 29))
  have B31 := Lib.hid ((BS.out.1.below hb).alloc (.cells #[.string ⟨a0.toArray⟩, .bool a1, .bool a2, .slice ga a3.length gc, .int .i64 a4, .slice ua l.length uc] 29))
  have B41 := Lib.hid ((BS.out.2.1.below hb).alloc (.cells #[.string ⟨a0.toArray⟩, .bool a1, .bool a2, .slice ga a3.length gc, .int .i64 a4, .slice ua l.length uc] 29))
  have B51 := Lib.hid ((BS.out.2.2.1.below hb).alloc (.cells #[.string ⟨a0.toArray⟩, .bool a1, .bool a2, .slice ga a3.length gc, .int .i64 a4, .slice ua l.length uc] 29))
  have BQ1 := Lib.hid (Bx.new w1 [.string ⟨a0.toArray⟩, .bool a1, .bool a2, .slice ga a3.length gc, .int .i64 a4, .slice ua l.length uc] 29)
  have O3 := Lib.hid (ownsF_alloc (ownsF_base (B' := w.heap.size + 1 + 1 + 1) ho3 (by simp)) (.cells #[.string ⟨a0.toArray⟩, .bool a1, .bool a2, .slice ga a3.length gc, .int .i64 a4, .slice ua l.length uc] 29))
  have O5 := Lib.hid (ownsF_alloc (ownsF_base (B' := w.heap.size + 1 + 1 + 1) ho5 (by simp)) (.cells #[.string ⟨a0.toArray⟩, .bool a1, .bool a2, .slice ga a3.length gc, .int .i64 a4, .slice ua l.length uc] 29))
  have h3s := hb.size
  simp at h3s
  have HU5 := Lib.hid (fun g (h : (Value.slice ua l.length uc).ownBlock = some g) => (show w.heap.size + 1 + 1 + 1 ≤ g ∧ g < w1.heap.size from ⟨by have := (World.ownsRow.lt ho5 g h).1; simpa using this, (World.ownsRow.lt ho5 g h).2⟩))
  have HU3 := Lib.hid (fun g (h : (Value.slice ga a3.length gc).ownBlock = some g) => (show g < w1.heap.size from (World.ownsRow.lt ho3 g h).2))
  clear hb ho3 ho5 BS
  go_wp2_with fail
  refine (HLN.out _).mono ?_
  rintro e w2 ⟨rfl, hb⟩
  have HB2 := Lib.hid (belS HB1.out hb)
  have B32 := Lib.hid (B31.out.below hb)
  have B42 := Lib.hid (B41.out.below hb)
  have B52 := Lib.hid (B51.out.below hb)
  have BQ2 := Lib.hid (BQ1.out.below hb)
  have P3 := Lib.hid (ownsF_below O3.out hb (Nat.le_refl _))
  have P5 := Lib.hid (ownsF_below O5.out hb (Nat.le_refl _))
  have h4s2 := hb.size
  simp at h4s2
  clear hb B31 B41 B51 BQ1
  have p0 := B32.out.cell 0 (by simp)
  have p1 := B32.out.cell 1 (by simp)
  have p2 := B32.out.cell 2 (by simp)
  have p3 := B32.out.cell 3 (by simp)
  have p4 := B32.out.cell 4 (by simp)
  have p5 := B32.out.cell 5 (by simp)
  simp only [List.getElem_cons_zero, List.getElem_cons_succ] at p0 p1 p2 p3 p4 p5
  go_wp2_with fail
  refine (HIP.out _ _ (HX.out _ HB2.out)).mono ?_
  rintro e w3 ⟨rfl, hb⟩
  clear p0 p1 p2 p3 p4 p5
  have HB3 := Lib.hid (belS HB2.out hb)
  have B33 := Lib.hid (B32.out.below hb)
  have B43 := Lib.hid (B42.out.below hb)
  have B53 := Lib.hid (B52.out.below hb)
  have BQ3 := Lib.hid (BQ2.out.below hb)
  have R3 := Lib.hid (ownsF_below P3.out hb (Nat.le_refl _))
  have R5 := Lib.hid (ownsF_below P5.out hb (Nat.le_refl _))
  have h4s3 := hb.size
  skip
  clear hb B32 B42 B52 BQ2
  have p0 := B33.out.cell 0 (by simp)
  have p1 := B33.out.cell 1 (by simp)
  have p2 := B33.out.cell 2 (by simp)
  have p3 := B33.out.cell 3 (by simp)
  have p4 := B33.out.cell 4 (by simp)
  have p5 := B33.out.cell 5 (by simp)
  simp only [List.getElem_cons_zero, List.getElem_cons_succ] at p0 p1 p2 p3 p4 p5
  have q0 := BQ3.out.cell 0 (by simp)
  have q1 := BQ3.out.cell 1 (by simp)
  have q2 := BQ3.out.cell 2 (by simp)
  have q3 := BQ3.out.cell 3 (by simp)
  have q4 := BQ3.out.cell 4 (by simp)
  have q5 := BQ3.out.cell 5 (by simp)
  simp only [List.getElem_cons_zero, List.getElem_cons_succ] at q0 q1 q2 q3 q4 q5
  have r0 := B43.out.cell 0 (by simp)
  have r1 := B43.out.cell 1 (by simp)
  have r2 := B43.out.cell 2 (by simp)
  have r3 := B43.out.cell 3 (by simp)
  have r4 := B43.out.cell 4 (by simp)
  have r5 := B43.out.cell 5 (by simp)
  simp only [List.getElem_cons_zero, List.getElem_cons_succ] at r0 r1 r2 r3 r4 r5
  have z0 := B43.out.froz 0 (by simp)
  have z1 := B43.out.froz 1 (by simp)
  have z2 := B43.out.froz 2 (by simp)
  have z3 := B43.out.froz 3 (by simp)
  have z4 := B43.out.froz 4 (by simp)
  have z5 := B43.out.froz 5 (by simp)
  have s0 := B53.out.cell 0 (by simp)
  have s1 := B53.out.cell 1 (by simp)
  have s2 := B53.out.cell 2 (by simp)
  have s3 := B53.out.cell 3 (by simp)
  have s4 := B53.out.cell 4 (by simp)
  simp only [List.getElem_cons_zero, List.getElem_cons_succ] at s0 s1 s2 s3 s4
  have y0 := B53.out.froz 0 (by simp)
  have y1 := B53.out.froz 1 (by simp)
  have y2 := B53.out.froz 2 (by simp)
  have y3 := B53.out.froz 3 (by simp)
  have y4 := B53.out.froz 4 (by simp)
  go_wp2_with fail
  clear p0 p1 p2 p3 p4 p5 q0 q1 q2 q3 q4 q5
  clear r0 r1 r2 r3 r4 r5 z0 z1 z2 z3 z4 z5 s0 s1 s2 s3 s4 y0 y1 y2 y3 y4
  have E4 := Lib.hid ((B43.out.put6 (.string ⟨a0.toArray⟩) (.bool a1) (.bool a2) (.slice ga a3.length gc) (.int .i64 a4) (.slice ua l.length uc)).put5o (c := w.heap.size + 1 + 1) (by omega) (.int .i64 7) (.int .i64 0) (.string ⟨#[]⟩) (.int .i64 0) (.int .i64 0))
  have E5 := Lib.hid ((B53.out.put6o (c := w.heap.size + 1) (by omega) (.string ⟨a0.toArray⟩) (.bool a1) (.bool a2) (.slice ga a3.length gc) (.int .i64 a4) (.slice ua l.length uc)).put5 (.int .i64 7) (.int .i64 0) (.string ⟨#[]⟩) (.int .i64 0) (.int .i64 0))
  have EB := Lib.hid (below_put5 (below_put6 HB3.out (w.heap.size + 1) (by omega) (.string ⟨a0.toArray⟩) (.bool a1) (.bool a2) (.slice ga a3.length gc) (.int .i64 a4) (.slice ua l.length uc)) (w.heap.size + 1 + 1) (by omega) (.int .i64 7) (.int .i64 0) (.string ⟨#[]⟩) (.int .i64 0) (.int .i64 0))
  have OC := Lib.hid (ownsF_put5 (ownsF_put6 R3.out (w.heap.size + 1) (by omega) (.string ⟨a0.toArray⟩) (.bool a1) (.bool a2) (.slice ga a3.length gc) (.int .i64 a4) (.slice ua l.length uc)) (w.heap.size + 1 + 1) (by omega) (.int .i64 7) (.int .i64 0) (.string ⟨#[]⟩) (.int .i64 0) (.int .i64 0))
  have OL := Lib.hid (ownsF_put5 (ownsF_put6 R5.out (w.heap.size + 1) (by omega) (.string ⟨a0.toArray⟩) (.bool a1) (.bool a2) (.slice ga a3.length gc) (.int .i64 a4) (.slice ua l.length uc)) (w.heap.size + 1 + 1) (by omega) (.int .i64 7) (.int .i64 0) (.string ⟨#[]⟩) (.int .i64 0) (.int .i64 0))
  generalize (((((((((((w3.setCell ⟨w.heap.size + 1, 0, none⟩ (.string ⟨a0.toArray⟩)).setCell ⟨w.heap.size + 1, 1, none⟩ (.bool a1)).setCell ⟨w.heap.size + 1, 2, none⟩ (.bool a2)).setCell ⟨w.heap.size + 1, 3, none⟩ (.slice ga a3.length gc)).setCell ⟨w.heap.size + 1, 4, none⟩ (.int .i64 a4)).setCell ⟨w.heap.size + 1, 5, none⟩ (.slice ua l.length uc)).setCell ⟨w.heap.size + 1 + 1, 0, none⟩ (.int .i64 7)).setCell ⟨w.heap.size + 1 + 1, 1, none⟩ (.int .i64 0)).setCell ⟨w.heap.size + 1 + 1, 2, none⟩ (.string ⟨#[]⟩)).setCell ⟨w.heap.size + 1 + 1, 3, none⟩ (.int .i64 0)).setCell ⟨w.heap.size + 1 + 1, 4, none⟩ (.int .i64 0)) = WE at *
  have r0 := E4.out.cell 0 (by simp)
  have r1 := E4.out.cell 1 (by simp)
  have r2 := E4.out.cell 2 (by simp)
  have r3 := E4.out.cell 3 (by simp)
  have r4 := E4.out.cell 4 (by simp)
  have r5 := E4.out.cell 5 (by simp)
  simp only [List.getElem_cons_zero, List.getElem_cons_succ] at r0 r1 r2 r3 r4 r5
  have s0 := E5.out.cell 0 (by simp)
  have s1 := E5.out.cell 1 (by simp)
  have s2 := E5.out.cell 2 (by simp)
  have s3 := E5.out.cell 3 (by simp)
  have s4 := E5.out.cell 4 (by simp)
  simp only [List.getElem_cons_zero, List.getElem_cons_succ] at s0 s1 s2 s3 s4
  exact bodyPost_ret (v := .tuple #[.agg #[.string ⟨a0.toArray⟩, .bool a1, .bool a2, .slice ga a3.length gc, .int .i64 a4, .slice ua l.length uc], .agg #[.int .i64 7, .int .i64 0, .string ⟨#[]⟩, .int .i64 0, .int .i64 0]]) (by simp [results, Try.results113, go_sem, r0, r1, r2, r3, r4, r5, s0, s1, s2, s3, s4]) rfl ⟨_, rfl, ⟨_, _, rfl, ownsF_base OC.out (by omega), ownsF_base OL.out (by omega)⟩, EB.out⟩
set_option maxRecDepth 100000 in
set_option maxHeartbeats 3200000 in
theorem specWrap_bad2 (v : Value) (x : PartD) (s : ByteArray) (w : World) (hx : ValAt rPart 0 w v x) (hs : SmallP x) (hk : ∀ c ∈ x.fCore.fCells, c.fKey.length ≤ maxLen) (hz : s.size ≤ 1048576) (hc : ¬ 0 ≤ layI s.data.toList) (hp : partB x = true) :
    Calls Try.prog 113 #[v, .string s] w fun e w' => GivesOPR (wrapP x s.data.toList) (wrapR x s.data.toList) w e w' := by
  obtain ⟨hwp, hwr⟩ := wrap_bad (x := x) (s := s.data.toList) (fun h => hc h.2)
  rw [hwp, hwr]
  clear hwp hwr
  obtain ⟨_, rfl, hx⟩ := hx
  have HX := Lib.hid (fun W (hb : Below w.heap.size w W) => goodPart.keep hx (kept_below hb (Nat.le_refl _)))
  have HIP := Lib.hid (fun cs W (h : rPart 0 W cs x) => specIsPart_any (.agg cs.toArray) x W ⟨cs, rfl, h⟩ hk)
  have HCP := Lib.hid (fun cs W (h : rPart 0 W cs x) => l4Copy_own (.agg cs.toArray) x W ⟨cs, rfl, h⟩ hs)
  have HLN := Lib.hid (fun W => l4Row_any s W)
  have HSZ := Lib.hid hs.lays
  unfold l4V at HLN
  unfold GivesOPR vReply
  unfold GivesOP at HCP
  rw [hp] at HIP
  rw [show decide (0 ≤ layI s.data.toList) = false from decide_eq_false hc] at HLN
  generalize needI (layI s.data.toList) = nd at *
  generalize giveI (layI s.data.toList) = gv at *
  obtain ⟨⟨a0, a1, a2, a3, a4⟩, l⟩ := x
  obtain ⟨v3, v5, rfl, h3, h5⟩ := hx
  simp only at h3 h5 HSZ
  obtain ⟨ra, rc, rfl, _⟩ := sliceAt_len h3
  obtain ⟨sa, sc, rfl, hl, hcap⟩ := sliceAt_cap h5
  clear h3 h5 hs hk hcap hl
  have BS := Lib.hid (bx_start3 w [.string ⟨a0.toArray⟩, .bool a1, .bool a2, .slice ra a3.length rc, .int .i64 a4, .slice sa l.length sc] [.string ⟨#[]⟩, .bool false, .bool false, .slice none 0 0, .int .i64 0, .slice none 0 0] [.int .i64 0, .int .i64 0, .string ⟨#[]⟩, .int .i64 0, .int .i64 0] 29 29 33)
  have HR0 := Lib.hid (HX.out _ BS.out.2.2.2)
  clear hc hp
  go_enter Try.func113, Try.ntmps113
  go_wp2_with fail
  refine (HCP.out _ _ HR0.out).mono ?_
  rintro e w1 ⟨_, rfl, ⟨u3, u5, rfl, ho3, ho5⟩, hb⟩
  simp only at ho3 ho5
  obtain ⟨ga, gc, rfl⟩ := slice_of ho3
  obtain ⟨ua, uc, rfl⟩ := slice_of ho5
  have HB1 := Lib.hid ((belS BS.out.2.2.2 hb).alloc (belS BS.out.2.2.2 hb).size (.cells #[.string ⟨a0.toArray⟩, .bool a1, .bool a2, .slice ga a3.length gc, .int .i64 a4, .slice ua l.length uc] 29))
  have B31 := Lib.hid ((BS.out.1.below hb).alloc (.cells #[.string ⟨a0.toArray⟩, .bool a1, .bool a2, .slice ga a3.length gc, .int .i64 a4, .slice ua l.length uc] 29))
  have B41 := Lib.hid ((BS.out.2.1.below hb).alloc (.cells #[.string ⟨a0.toArray⟩, .bool a1, .bool a2, .slice ga a3.length gc, .int .i64 a4, .slice ua l.length uc] 29))
  have B51 := Lib.hid ((BS.out.2.2.1.below hb).alloc (.cells #[.string ⟨a0.toArray⟩, .bool a1, .bool a2, .slice ga a3.length gc, .int .i64 a4, .slice ua l.length uc] 29))
  have BQ1 := Lib.hid (Bx.new w1 [.string ⟨a0.toArray⟩, .bool a1, .bool a2, .slice ga a3.length gc, .int .i64 a4, .slice ua l.length uc] 29)
  have O3 := Lib.hid (ownsF_alloc (ownsF_base (B' := w.heap.size + 1 + 1 + 1) ho3 (by simp)) (.cells #[.string ⟨a0.toArray⟩, .bool a1, .bool a2, .slice ga a3.length gc, .int .i64 a4, .slice ua l.length uc] 29))
  have O5 := Lib.hid (ownsF_alloc (ownsF_base (B' := w.heap.size + 1 + 1 + 1) ho5 (by simp)) (.cells #[.string ⟨a0.toArray⟩, .bool a1, .bool a2, .slice ga a3.length gc, .int .i64 a4, .slice ua l.length uc] 29))
  have h3s := hb.size
  simp at h3s
  have HU5 := Lib.hid (fun g (h : (Value.slice ua l.length uc).ownBlock = some g) => (show w.heap.size + 1 + 1 + 1 ≤ g ∧ g < w1.heap.size from ⟨by have := (World.ownsRow.lt ho5 g h).1; simpa using this, (World.ownsRow.lt ho5 g h).2⟩))
  have HU3 := Lib.hid (fun g (h : (Value.slice ga a3.length gc).ownBlock = some g) => (show g < w1.heap.size from (World.ownsRow.lt ho3 g h).2))
  clear hb ho3 ho5 BS
  go_wp2_with fail
  refine (HLN.out _).mono ?_
  rintro e w2 ⟨rfl, hb⟩
  have HB2 := Lib.hid (belS HB1.out hb)
  have B32 := Lib.hid (B31.out.below hb)
  have B42 := Lib.hid (B41.out.below hb)
  have B52 := Lib.hid (B51.out.below hb)
  have BQ2 := Lib.hid (BQ1.out.below hb)
  have P3 := Lib.hid (ownsF_below O3.out hb (Nat.le_refl _))
  have P5 := Lib.hid (ownsF_below O5.out hb (Nat.le_refl _))
  have h4s2 := hb.size
  simp at h4s2
  clear hb B31 B41 B51 BQ1
  have p0 := B32.out.cell 0 (by simp)
  have p1 := B32.out.cell 1 (by simp)
  have p2 := B32.out.cell 2 (by simp)
  have p3 := B32.out.cell 3 (by simp)
  have p4 := B32.out.cell 4 (by simp)
  have p5 := B32.out.cell 5 (by simp)
  simp only [List.getElem_cons_zero, List.getElem_cons_succ] at p0 p1 p2 p3 p4 p5
  go_wp2_with fail
  refine (HIP.out _ _ (HX.out _ HB2.out)).mono ?_
  rintro e w3 ⟨rfl, hb⟩
  clear p0 p1 p2 p3 p4 p5
  have HB3 := Lib.hid (belS HB2.out hb)
  have B33 := Lib.hid (B32.out.below hb)
  have B43 := Lib.hid (B42.out.below hb)
  have B53 := Lib.hid (B52.out.below hb)
  have BQ3 := Lib.hid (BQ2.out.below hb)
  have R3 := Lib.hid (ownsF_below P3.out hb (Nat.le_refl _))
  have R5 := Lib.hid (ownsF_below P5.out hb (Nat.le_refl _))
  have h4s3 := hb.size
  skip
  clear hb B32 B42 B52 BQ2
  have p0 := B33.out.cell 0 (by simp)
  have p1 := B33.out.cell 1 (by simp)
  have p2 := B33.out.cell 2 (by simp)
  have p3 := B33.out.cell 3 (by simp)
  have p4 := B33.out.cell 4 (by simp)
  have p5 := B33.out.cell 5 (by simp)
  simp only [List.getElem_cons_zero, List.getElem_cons_succ] at p0 p1 p2 p3 p4 p5
  have q0 := BQ3.out.cell 0 (by simp)
  have q1 := BQ3.out.cell 1 (by simp)
  have q2 := BQ3.out.cell 2 (by simp)
  have q3 := BQ3.out.cell 3 (by simp)
  have q4 := BQ3.out.cell 4 (by simp)
  have q5 := BQ3.out.cell 5 (by simp)
  simp only [List.getElem_cons_zero, List.getElem_cons_succ] at q0 q1 q2 q3 q4 q5
  have r0 := B43.out.cell 0 (by simp)
  have r1 := B43.out.cell 1 (by simp)
  have r2 := B43.out.cell 2 (by simp)
  have r3 := B43.out.cell 3 (by simp)
  have r4 := B43.out.cell 4 (by simp)
  have r5 := B43.out.cell 5 (by simp)
  simp only [List.getElem_cons_zero, List.getElem_cons_succ] at r0 r1 r2 r3 r4 r5
  have z0 := B43.out.froz 0 (by simp)
  have z1 := B43.out.froz 1 (by simp)
  have z2 := B43.out.froz 2 (by simp)
  have z3 := B43.out.froz 3 (by simp)
  have z4 := B43.out.froz 4 (by simp)
  have z5 := B43.out.froz 5 (by simp)
  have s0 := B53.out.cell 0 (by simp)
  have s1 := B53.out.cell 1 (by simp)
  have s2 := B53.out.cell 2 (by simp)
  have s3 := B53.out.cell 3 (by simp)
  have s4 := B53.out.cell 4 (by simp)
  simp only [List.getElem_cons_zero, List.getElem_cons_succ] at s0 s1 s2 s3 s4
  have y0 := B53.out.froz 0 (by simp)
  have y1 := B53.out.froz 1 (by simp)
  have y2 := B53.out.froz 2 (by simp)
  have y3 := B53.out.froz 3 (by simp)
  have y4 := B53.out.froz 4 (by simp)
  go_wp2_with fail
  clear p0 p1 p2 p3 p4 p5 q0 q1 q2 q3 q4 q5
  clear r0 r1 r2 r3 r4 r5 z0 z1 z2 z3 z4 z5 s0 s1 s2 s3 s4 y0 y1 y2 y3 y4
  have E4 := Lib.hid ((B43.out.put6 (.string ⟨a0.toArray⟩) (.bool a1) (.bool a2) (.slice ga a3.length gc) (.int .i64 a4) (.slice ua l.length uc)).put5o (c := w.heap.size + 1 + 1) (by omega) (.int .i64 7) (.int .i64 0) (.string ⟨#[]⟩) (.int .i64 0) (.int .i64 0))
  have E5 := Lib.hid ((B53.out.put6o (c := w.heap.size + 1) (by omega) (.string ⟨a0.toArray⟩) (.bool a1) (.bool a2) (.slice ga a3.length gc) (.int .i64 a4) (.slice ua l.length uc)).put5 (.int .i64 7) (.int .i64 0) (.string ⟨#[]⟩) (.int .i64 0) (.int .i64 0))
  have EB := Lib.hid (below_put5 (below_put6 HB3.out (w.heap.size + 1) (by omega) (.string ⟨a0.toArray⟩) (.bool a1) (.bool a2) (.slice ga a3.length gc) (.int .i64 a4) (.slice ua l.length uc)) (w.heap.size + 1 + 1) (by omega) (.int .i64 7) (.int .i64 0) (.string ⟨#[]⟩) (.int .i64 0) (.int .i64 0))
  have OC := Lib.hid (ownsF_put5 (ownsF_put6 R3.out (w.heap.size + 1) (by omega) (.string ⟨a0.toArray⟩) (.bool a1) (.bool a2) (.slice ga a3.length gc) (.int .i64 a4) (.slice ua l.length uc)) (w.heap.size + 1 + 1) (by omega) (.int .i64 7) (.int .i64 0) (.string ⟨#[]⟩) (.int .i64 0) (.int .i64 0))
  have OL := Lib.hid (ownsF_put5 (ownsF_put6 R5.out (w.heap.size + 1) (by omega) (.string ⟨a0.toArray⟩) (.bool a1) (.bool a2) (.slice ga a3.length gc) (.int .i64 a4) (.slice ua l.length uc)) (w.heap.size + 1 + 1) (by omega) (.int .i64 7) (.int .i64 0) (.string ⟨#[]⟩) (.int .i64 0) (.int .i64 0))
  generalize (((((((((((w3.setCell ⟨w.heap.size + 1, 0, none⟩ (.string ⟨a0.toArray⟩)).setCell ⟨w.heap.size + 1, 1, none⟩ (.bool a1)).setCell ⟨w.heap.size + 1, 2, none⟩ (.bool a2)).setCell ⟨w.heap.size + 1, 3, none⟩ (.slice ga a3.length gc)).setCell ⟨w.heap.size + 1, 4, none⟩ (.int .i64 a4)).setCell ⟨w.heap.size + 1, 5, none⟩ (.slice ua l.length uc)).setCell ⟨w.heap.size + 1 + 1, 0, none⟩ (.int .i64 7)).setCell ⟨w.heap.size + 1 + 1, 1, none⟩ (.int .i64 0)).setCell ⟨w.heap.size + 1 + 1, 2, none⟩ (.string ⟨#[]⟩)).setCell ⟨w.heap.size + 1 + 1, 3, none⟩ (.int .i64 0)).setCell ⟨w.heap.size + 1 + 1, 4, none⟩ (.int .i64 0)) = WE at *
  have r0 := E4.out.cell 0 (by simp)
  have r1 := E4.out.cell 1 (by simp)
  have r2 := E4.out.cell 2 (by simp)
  have r3 := E4.out.cell 3 (by simp)
  have r4 := E4.out.cell 4 (by simp)
  have r5 := E4.out.cell 5 (by simp)
  simp only [List.getElem_cons_zero, List.getElem_cons_succ] at r0 r1 r2 r3 r4 r5
  have s0 := E5.out.cell 0 (by simp)
  have s1 := E5.out.cell 1 (by simp)
  have s2 := E5.out.cell 2 (by simp)
  have s3 := E5.out.cell 3 (by simp)
  have s4 := E5.out.cell 4 (by simp)
  simp only [List.getElem_cons_zero, List.getElem_cons_succ] at s0 s1 s2 s3 s4
  exact bodyPost_ret (v := .tuple #[.agg #[.string ⟨a0.toArray⟩, .bool a1, .bool a2, .slice ga a3.length gc, .int .i64 a4, .slice ua l.length uc], .agg #[.int .i64 7, .int .i64 0, .string ⟨#[]⟩, .int .i64 0, .int .i64 0]]) (by simp [results, Try.results113, go_sem, r0, r1, r2, r3, r4, r5, s0, s1, s2, s3, s4]) rfl ⟨_, rfl, ⟨_, _, rfl, ownsF_base OC.out (by omega), ownsF_base OL.out (by omega)⟩, EB.out⟩
set_option maxRecDepth 100000 in
set_option maxHeartbeats 3200000 in
theorem specWrap_full (v : Value) (x : PartD) (s : ByteArray) (w : World) (hx : ValAt rPart 0 w v x) (hs : SmallP x) (hk : ∀ c ∈ x.fCore.fCells, c.fKey.length ≤ maxLen) (hz : s.size ≤ 1048576) (hc : 0 ≤ layI s.data.toList) (hp : partB x = true) (h3 : x.fLayers.length = 3) :
    Calls Try.prog 113 #[v, .string s] w fun e w' => GivesOPR (wrapP x s.data.toList) (wrapR x s.data.toList) w e w' := by
  obtain ⟨hwp, hwr⟩ := wrap_full (x := x) (s := s.data.toList) ⟨hp, hc⟩ h3
  rw [hwp, hwr]
  clear hwp hwr
  have H3 := Lib.hid h3
  clear h3
  obtain ⟨_, rfl, hx⟩ := hx
  have HX := Lib.hid (fun W (hb : Below w.heap.size w W) => goodPart.keep hx (kept_below hb (Nat.le_refl _)))
  have HIP := Lib.hid (fun cs W (h : rPart 0 W cs x) => specIsPart_any (.agg cs.toArray) x W ⟨cs, rfl, h⟩ hk)
  have HCP := Lib.hid (fun cs W (h : rPart 0 W cs x) => l4Copy_own (.agg cs.toArray) x W ⟨cs, rfl, h⟩ hs)
  have HLN := Lib.hid (fun W => l4Row_any s W)
  have HSZ := Lib.hid hs.lays
  unfold l4V at HLN
  unfold GivesOPR vReply
  unfold GivesOP at HCP
  rw [hp] at HIP
  rw [show decide (0 ≤ layI s.data.toList) = true from decide_eq_true hc] at HLN
  generalize needI (layI s.data.toList) = nd at *
  generalize giveI (layI s.data.toList) = gv at *
  obtain ⟨⟨a0, a1, a2, a3, a4⟩, l⟩ := x
  obtain ⟨v3, v5, rfl, h3, h5⟩ := hx
  simp only at h3 h5 HSZ
  obtain ⟨ra, rc, rfl, _⟩ := sliceAt_len h3
  obtain ⟨sa, sc, rfl, hl, hcap⟩ := sliceAt_cap h5
  clear h3 h5 hs hk hcap hl
  have BS := Lib.hid (bx_start3 w [.string ⟨a0.toArray⟩, .bool a1, .bool a2, .slice ra a3.length rc, .int .i64 a4, .slice sa l.length sc] [.string ⟨#[]⟩, .bool false, .bool false, .slice none 0 0, .int .i64 0, .slice none 0 0] [.int .i64 0, .int .i64 0, .string ⟨#[]⟩, .int .i64 0, .int .i64 0] 29 29 33)
  have HR0 := Lib.hid (HX.out _ BS.out.2.2.2)
  clear hc hp
  go_enter Try.func113, Try.ntmps113
  go_wp2_with fail
  refine (HCP.out _ _ HR0.out).mono ?_
  rintro e w1 ⟨_, rfl, ⟨u3, u5, rfl, ho3, ho5⟩, hb⟩
  simp only at ho3 ho5
  obtain ⟨ga, gc, rfl⟩ := slice_of ho3
  obtain ⟨ua, uc, rfl⟩ := slice_of ho5
  have HB1 := Lib.hid ((belS BS.out.2.2.2 hb).alloc (belS BS.out.2.2.2 hb).size (.cells #[.string ⟨a0.toArray⟩, .bool a1, .bool a2, .slice ga a3.length gc, .int .i64 a4, .slice ua l.length uc] 29))
  have B31 := Lib.hid ((BS.out.1.below hb).alloc (.cells #[.string ⟨a0.toArray⟩, .bool a1, .bool a2, .slice ga a3.length gc, .int .i64 a4, .slice ua l.length uc] 29))
  have B41 := Lib.hid ((BS.out.2.1.below hb).alloc (.cells #[.string ⟨a0.toArray⟩, .bool a1, .bool a2, .slice ga a3.length gc, .int .i64 a4, .slice ua l.length uc] 29))
  have B51 := Lib.hid ((BS.out.2.2.1.below hb).alloc (.cells #[.string ⟨a0.toArray⟩, .bool a1, .bool a2, .slice ga a3.length gc, .int .i64 a4, .slice ua l.length uc] 29))
  have BQ1 := Lib.hid (Bx.new w1 [.string ⟨a0.toArray⟩, .bool a1, .bool a2, .slice ga a3.length gc, .int .i64 a4, .slice ua l.length uc] 29)
  have O3 := Lib.hid (ownsF_alloc (ownsF_base (B' := w.heap.size + 1 + 1 + 1) ho3 (by simp)) (.cells #[.string ⟨a0.toArray⟩, .bool a1, .bool a2, .slice ga a3.length gc, .int .i64 a4, .slice ua l.length uc] 29))
  have O5 := Lib.hid (ownsF_alloc (ownsF_base (B' := w.heap.size + 1 + 1 + 1) ho5 (by simp)) (.cells #[.string ⟨a0.toArray⟩, .bool a1, .bool a2, .slice ga a3.length gc, .int .i64 a4, .slice ua l.length uc] 29))
  have h3s := hb.size
  simp at h3s
  have HU5 := Lib.hid (fun g (h : (Value.slice ua l.length uc).ownBlock = some g) => (show w.heap.size + 1 + 1 + 1 ≤ g ∧ g < w1.heap.size from ⟨by have := (World.ownsRow.lt ho5 g h).1; simpa using this, (World.ownsRow.lt ho5 g h).2⟩))
  have HU3 := Lib.hid (fun g (h : (Value.slice ga a3.length gc).ownBlock = some g) => (show g < w1.heap.size from (World.ownsRow.lt ho3 g h).2))
  clear hb ho3 ho5 BS
  go_wp2_with fail
  refine (HLN.out _).mono ?_
  rintro e w2 ⟨rfl, hb⟩
  have HB2 := Lib.hid (belS HB1.out hb)
  have B32 := Lib.hid (B31.out.below hb)
  have B42 := Lib.hid (B41.out.below hb)
  have B52 := Lib.hid (B51.out.below hb)
  have BQ2 := Lib.hid (BQ1.out.below hb)
  have P3 := Lib.hid (ownsF_below O3.out hb (Nat.le_refl _))
  have P5 := Lib.hid (ownsF_below O5.out hb (Nat.le_refl _))
  have h4s2 := hb.size
  simp at h4s2
  clear hb B31 B41 B51 BQ1
  have p0 := B32.out.cell 0 (by simp)
  have p1 := B32.out.cell 1 (by simp)
  have p2 := B32.out.cell 2 (by simp)
  have p3 := B32.out.cell 3 (by simp)
  have p4 := B32.out.cell 4 (by simp)
  have p5 := B32.out.cell 5 (by simp)
  simp only [List.getElem_cons_zero, List.getElem_cons_succ] at p0 p1 p2 p3 p4 p5
  go_wp2_with fail
  refine (HIP.out _ _ (HX.out _ HB2.out)).mono ?_
  rintro e w3 ⟨rfl, hb⟩
  clear p0 p1 p2 p3 p4 p5
  have HB3 := Lib.hid (belS HB2.out hb)
  have B33 := Lib.hid (B32.out.below hb)
  have B43 := Lib.hid (B42.out.below hb)
  have B53 := Lib.hid (B52.out.below hb)
  have BQ3 := Lib.hid (BQ2.out.below hb)
  have R3 := Lib.hid (ownsF_below P3.out hb (Nat.le_refl _))
  have R5 := Lib.hid (ownsF_below P5.out hb (Nat.le_refl _))
  have h4s3 := hb.size
  skip
  clear hb B32 B42 B52 BQ2
  have h3 := H3.out
  try simp only at h3
  have hl3 : ((l.length : Int) == 3) = true := by rw [h3]; rfl
  clear h3
  have p0 := B33.out.cell 0 (by simp)
  have p1 := B33.out.cell 1 (by simp)
  have p2 := B33.out.cell 2 (by simp)
  have p3 := B33.out.cell 3 (by simp)
  have p4 := B33.out.cell 4 (by simp)
  have p5 := B33.out.cell 5 (by simp)
  simp only [List.getElem_cons_zero, List.getElem_cons_succ] at p0 p1 p2 p3 p4 p5
  have q0 := BQ3.out.cell 0 (by simp)
  have q1 := BQ3.out.cell 1 (by simp)
  have q2 := BQ3.out.cell 2 (by simp)
  have q3 := BQ3.out.cell 3 (by simp)
  have q4 := BQ3.out.cell 4 (by simp)
  have q5 := BQ3.out.cell 5 (by simp)
  simp only [List.getElem_cons_zero, List.getElem_cons_succ] at q0 q1 q2 q3 q4 q5
  have r0 := B43.out.cell 0 (by simp)
  have r1 := B43.out.cell 1 (by simp)
  have r2 := B43.out.cell 2 (by simp)
  have r3 := B43.out.cell 3 (by simp)
  have r4 := B43.out.cell 4 (by simp)
  have r5 := B43.out.cell 5 (by simp)
  simp only [List.getElem_cons_zero, List.getElem_cons_succ] at r0 r1 r2 r3 r4 r5
  have z0 := B43.out.froz 0 (by simp)
  have z1 := B43.out.froz 1 (by simp)
  have z2 := B43.out.froz 2 (by simp)
  have z3 := B43.out.froz 3 (by simp)
  have z4 := B43.out.froz 4 (by simp)
  have z5 := B43.out.froz 5 (by simp)
  have s0 := B53.out.cell 0 (by simp)
  have s1 := B53.out.cell 1 (by simp)
  have s2 := B53.out.cell 2 (by simp)
  have s3 := B53.out.cell 3 (by simp)
  have s4 := B53.out.cell 4 (by simp)
  simp only [List.getElem_cons_zero, List.getElem_cons_succ] at s0 s1 s2 s3 s4
  have y0 := B53.out.froz 0 (by simp)
  have y1 := B53.out.froz 1 (by simp)
  have y2 := B53.out.froz 2 (by simp)
  have y3 := B53.out.froz 3 (by simp)
  have y4 := B53.out.froz 4 (by simp)
  go_wp2_with fail
  clear p0 p1 p2 p3 p4 p5 q0 q1 q2 q3 q4 q5
  clear r0 r1 r2 r3 r4 r5 z0 z1 z2 z3 z4 z5 s0 s1 s2 s3 s4 y0 y1 y2 y3 y4
  have E4 := Lib.hid ((B43.out.put6 (.string ⟨a0.toArray⟩) (.bool a1) (.bool a2) (.slice ga a3.length gc) (.int .i64 a4) (.slice ua l.length uc)).put5o (c := w.heap.size + 1 + 1) (by omega) (.int .i64 5) (.int .i64 0) (.string ⟨#[]⟩) (.int .i64 0) (.int .i64 0))
  have E5 := Lib.hid ((B53.out.put6o (c := w.heap.size + 1) (by omega) (.string ⟨a0.toArray⟩) (.bool a1) (.bool a2) (.slice ga a3.length gc) (.int .i64 a4) (.slice ua l.length uc)).put5 (.int .i64 5) (.int .i64 0) (.string ⟨#[]⟩) (.int .i64 0) (.int .i64 0))
  have EB := Lib.hid (below_put5 (below_put6 HB3.out (w.heap.size + 1) (by omega) (.string ⟨a0.toArray⟩) (.bool a1) (.bool a2) (.slice ga a3.length gc) (.int .i64 a4) (.slice ua l.length uc)) (w.heap.size + 1 + 1) (by omega) (.int .i64 5) (.int .i64 0) (.string ⟨#[]⟩) (.int .i64 0) (.int .i64 0))
  have OC := Lib.hid (ownsF_put5 (ownsF_put6 R3.out (w.heap.size + 1) (by omega) (.string ⟨a0.toArray⟩) (.bool a1) (.bool a2) (.slice ga a3.length gc) (.int .i64 a4) (.slice ua l.length uc)) (w.heap.size + 1 + 1) (by omega) (.int .i64 5) (.int .i64 0) (.string ⟨#[]⟩) (.int .i64 0) (.int .i64 0))
  have OL := Lib.hid (ownsF_put5 (ownsF_put6 R5.out (w.heap.size + 1) (by omega) (.string ⟨a0.toArray⟩) (.bool a1) (.bool a2) (.slice ga a3.length gc) (.int .i64 a4) (.slice ua l.length uc)) (w.heap.size + 1 + 1) (by omega) (.int .i64 5) (.int .i64 0) (.string ⟨#[]⟩) (.int .i64 0) (.int .i64 0))
  generalize (((((((((((w3.setCell ⟨w.heap.size + 1, 0, none⟩ (.string ⟨a0.toArray⟩)).setCell ⟨w.heap.size + 1, 1, none⟩ (.bool a1)).setCell ⟨w.heap.size + 1, 2, none⟩ (.bool a2)).setCell ⟨w.heap.size + 1, 3, none⟩ (.slice ga a3.length gc)).setCell ⟨w.heap.size + 1, 4, none⟩ (.int .i64 a4)).setCell ⟨w.heap.size + 1, 5, none⟩ (.slice ua l.length uc)).setCell ⟨w.heap.size + 1 + 1, 0, none⟩ (.int .i64 5)).setCell ⟨w.heap.size + 1 + 1, 1, none⟩ (.int .i64 0)).setCell ⟨w.heap.size + 1 + 1, 2, none⟩ (.string ⟨#[]⟩)).setCell ⟨w.heap.size + 1 + 1, 3, none⟩ (.int .i64 0)).setCell ⟨w.heap.size + 1 + 1, 4, none⟩ (.int .i64 0)) = WE at *
  have r0 := E4.out.cell 0 (by simp)
  have r1 := E4.out.cell 1 (by simp)
  have r2 := E4.out.cell 2 (by simp)
  have r3 := E4.out.cell 3 (by simp)
  have r4 := E4.out.cell 4 (by simp)
  have r5 := E4.out.cell 5 (by simp)
  simp only [List.getElem_cons_zero, List.getElem_cons_succ] at r0 r1 r2 r3 r4 r5
  have s0 := E5.out.cell 0 (by simp)
  have s1 := E5.out.cell 1 (by simp)
  have s2 := E5.out.cell 2 (by simp)
  have s3 := E5.out.cell 3 (by simp)
  have s4 := E5.out.cell 4 (by simp)
  simp only [List.getElem_cons_zero, List.getElem_cons_succ] at s0 s1 s2 s3 s4
  exact bodyPost_ret (v := .tuple #[.agg #[.string ⟨a0.toArray⟩, .bool a1, .bool a2, .slice ga a3.length gc, .int .i64 a4, .slice ua l.length uc], .agg #[.int .i64 5, .int .i64 0, .string ⟨#[]⟩, .int .i64 0, .int .i64 0]]) (by simp [results, Try.results113, go_sem, r0, r1, r2, r3, r4, r5, s0, s1, s2, s3, s4]) rfl ⟨_, rfl, ⟨_, _, rfl, ownsF_base OC.out (by omega), ownsF_base OL.out (by omega)⟩, EB.out⟩
set_option maxRecDepth 100000 in
set_option maxHeartbeats 3200000 in
theorem specWrap_fail (v : Value) (x : PartD) (s : ByteArray) (w : World) (hx : ValAt rPart 0 w v x) (hs : SmallP x) (hk : ∀ c ∈ x.fCore.fCells, c.fKey.length ≤ maxLen) (hz : s.size ≤ 1048576) (hc : 0 ≤ layI s.data.toList) (hp : partB x = true) (h3 : ¬ x.fLayers.length = 3) (ho : offersF (faceP x) (needI (layI s.data.toList)) = false) :
    Calls Try.prog 113 #[v, .string s] w fun e w' => GivesOPR (wrapP x s.data.toList) (wrapR x s.data.toList) w e w' := by
  obtain ⟨hwp, hwr⟩ := wrap_fail (x := x) (s := s.data.toList) ⟨hp, hc⟩ h3 ho
  rw [hwp, hwr]
  clear hwp hwr
  have H3 := Lib.hid h3
  clear h3
  have HOF := Lib.hid (fun W => specOffers_any (faceP x) (needI (layI s.data.toList)) W)
  rw [ho] at HOF
  have HFO := Lib.hid (fun cs W (h : rPart 0 W cs x) => specFaceOf_any (.agg cs.toArray) x W ⟨cs, rfl, h⟩)
  clear ho
  obtain ⟨_, rfl, hx⟩ := hx
  have HX := Lib.hid (fun W (hb : Below w.heap.size w W) => goodPart.keep hx (kept_below hb (Nat.le_refl _)))
  have HIP := Lib.hid (fun cs W (h : rPart 0 W cs x) => specIsPart_any (.agg cs.toArray) x W ⟨cs, rfl, h⟩ hk)
  have HCP := Lib.hid (fun cs W (h : rPart 0 W cs x) => l4Copy_own (.agg cs.toArray) x W ⟨cs, rfl, h⟩ hs)
  have HLN := Lib.hid (fun W => l4Row_any s W)
  have HSZ := Lib.hid hs.lays
  unfold l4V at HLN
  unfold GivesOPR vReply
  unfold GivesOP at HCP
  rw [hp] at HIP
  rw [show decide (0 ≤ layI s.data.toList) = true from decide_eq_true hc] at HLN
  generalize needI (layI s.data.toList) = nd at *
  generalize giveI (layI s.data.toList) = gv at *
  generalize faceP x = fp at *
  obtain ⟨⟨a0, a1, a2, a3, a4⟩, l⟩ := x
  obtain ⟨v3, v5, rfl, h3, h5⟩ := hx
  simp only at h3 h5 HSZ
  obtain ⟨ra, rc, rfl, _⟩ := sliceAt_len h3
  obtain ⟨sa, sc, rfl, hl, hcap⟩ := sliceAt_cap h5
  clear h3 h5 hs hk hcap hl
  have BS := Lib.hid (bx_start3 w [.string ⟨a0.toArray⟩, .bool a1, .bool a2, .slice ra a3.length rc, .int .i64 a4, .slice sa l.length sc] [.string ⟨#[]⟩, .bool false, .bool false, .slice none 0 0, .int .i64 0, .slice none 0 0] [.int .i64 0, .int .i64 0, .string ⟨#[]⟩, .int .i64 0, .int .i64 0] 29 29 33)
  have HR0 := Lib.hid (HX.out _ BS.out.2.2.2)
  clear hc hp
  go_enter Try.func113, Try.ntmps113
  go_wp2_with fail
  refine (HCP.out _ _ HR0.out).mono ?_
  rintro e w1 ⟨_, rfl, ⟨u3, u5, rfl, ho3, ho5⟩, hb⟩
  simp only at ho3 ho5
  obtain ⟨ga, gc, rfl⟩ := slice_of ho3
  obtain ⟨ua, uc, rfl⟩ := slice_of ho5
  have HB1 := Lib.hid ((belS BS.out.2.2.2 hb).alloc (belS BS.out.2.2.2 hb).size (.cells #[.string ⟨a0.toArray⟩, .bool a1, .bool a2, .slice ga a3.length gc, .int .i64 a4, .slice ua l.length uc] 29))
  have B31 := Lib.hid ((BS.out.1.below hb).alloc (.cells #[.string ⟨a0.toArray⟩, .bool a1, .bool a2, .slice ga a3.length gc, .int .i64 a4, .slice ua l.length uc] 29))
  have B41 := Lib.hid ((BS.out.2.1.below hb).alloc (.cells #[.string ⟨a0.toArray⟩, .bool a1, .bool a2, .slice ga a3.length gc, .int .i64 a4, .slice ua l.length uc] 29))
  have B51 := Lib.hid ((BS.out.2.2.1.below hb).alloc (.cells #[.string ⟨a0.toArray⟩, .bool a1, .bool a2, .slice ga a3.length gc, .int .i64 a4, .slice ua l.length uc] 29))
  have BQ1 := Lib.hid (Bx.new w1 [.string ⟨a0.toArray⟩, .bool a1, .bool a2, .slice ga a3.length gc, .int .i64 a4, .slice ua l.length uc] 29)
  have O3 := Lib.hid (ownsF_alloc (ownsF_base (B' := w.heap.size + 1 + 1 + 1) ho3 (by simp)) (.cells #[.string ⟨a0.toArray⟩, .bool a1, .bool a2, .slice ga a3.length gc, .int .i64 a4, .slice ua l.length uc] 29))
  have O5 := Lib.hid (ownsF_alloc (ownsF_base (B' := w.heap.size + 1 + 1 + 1) ho5 (by simp)) (.cells #[.string ⟨a0.toArray⟩, .bool a1, .bool a2, .slice ga a3.length gc, .int .i64 a4, .slice ua l.length uc] 29))
  have h3s := hb.size
  simp at h3s
  have HU5 := Lib.hid (fun g (h : (Value.slice ua l.length uc).ownBlock = some g) => (show w.heap.size + 1 + 1 + 1 ≤ g ∧ g < w1.heap.size from ⟨by have := (World.ownsRow.lt ho5 g h).1; simpa using this, (World.ownsRow.lt ho5 g h).2⟩))
  have HU3 := Lib.hid (fun g (h : (Value.slice ga a3.length gc).ownBlock = some g) => (show g < w1.heap.size from (World.ownsRow.lt ho3 g h).2))
  clear hb ho3 ho5 BS
  go_wp2_with fail
  refine (HLN.out _).mono ?_
  rintro e w2 ⟨rfl, hb⟩
  have HB2 := Lib.hid (belS HB1.out hb)
  have B32 := Lib.hid (B31.out.below hb)
  have B42 := Lib.hid (B41.out.below hb)
  have B52 := Lib.hid (B51.out.below hb)
  have BQ2 := Lib.hid (BQ1.out.below hb)
  have P3 := Lib.hid (ownsF_below O3.out hb (Nat.le_refl _))
  have P5 := Lib.hid (ownsF_below O5.out hb (Nat.le_refl _))
  have h4s2 := hb.size
  simp at h4s2
  clear hb B31 B41 B51 BQ1
  have p0 := B32.out.cell 0 (by simp)
  have p1 := B32.out.cell 1 (by simp)
  have p2 := B32.out.cell 2 (by simp)
  have p3 := B32.out.cell 3 (by simp)
  have p4 := B32.out.cell 4 (by simp)
  have p5 := B32.out.cell 5 (by simp)
  simp only [List.getElem_cons_zero, List.getElem_cons_succ] at p0 p1 p2 p3 p4 p5
  go_wp2_with fail
  refine (HIP.out _ _ (HX.out _ HB2.out)).mono ?_
  rintro e w3 ⟨rfl, hb⟩
  clear p0 p1 p2 p3 p4 p5
  have HB3 := Lib.hid (belS HB2.out hb)
  have B33 := Lib.hid (B32.out.below hb)
  have B43 := Lib.hid (B42.out.below hb)
  have B53 := Lib.hid (B52.out.below hb)
  have BQ3 := Lib.hid (BQ2.out.below hb)
  have R3 := Lib.hid (ownsF_below P3.out hb (Nat.le_refl _))
  have R5 := Lib.hid (ownsF_below P5.out hb (Nat.le_refl _))
  have h4s3 := hb.size
  skip
  clear hb B32 B42 B52 BQ2
  have h3 := H3.out
  try simp only at h3
  have hl3 : ¬ (l.length : Int) = 3 := by omega
  clear h3
  have p0 := B33.out.cell 0 (by simp)
  have p1 := B33.out.cell 1 (by simp)
  have p2 := B33.out.cell 2 (by simp)
  have p3 := B33.out.cell 3 (by simp)
  have p4 := B33.out.cell 4 (by simp)
  have p5 := B33.out.cell 5 (by simp)
  simp only [List.getElem_cons_zero, List.getElem_cons_succ] at p0 p1 p2 p3 p4 p5
  go_wp2_with fail
  refine (HFO.out _ _ (HX.out _ HB3.out)).mono ?_
  rintro e w4 ⟨rfl, hb⟩
  clear p0 p1 p2 p3 p4 p5
  have HB4 := Lib.hid (belS HB3.out hb)
  have B34 := Lib.hid (B33.out.below hb)
  have B44 := Lib.hid (B43.out.below hb)
  have B54 := Lib.hid (B53.out.below hb)
  have BQ4 := Lib.hid (BQ3.out.below hb)
  have S3 := Lib.hid (ownsF_below R3.out hb (Nat.le_refl _))
  have S5 := Lib.hid (ownsF_below R5.out hb (Nat.le_refl _))
  have h4s4 := hb.size
  skip
  clear hb B33 B43 B53 BQ3
  go_wp2_with fail
  refine (HOF.out _).mono ?_
  rintro e w5 ⟨rfl, rfl⟩
  have BPd := Lib.hid (bx_dr B34.out)
  have BQd := Lib.hid (bx_dr BQ4.out)
  have B4d := Lib.hid (bx_dr B44.out)
  have B5d := Lib.hid (bx_dr B54.out)
  have p0 := BPd.out.cell 0 (by simp)
  have p1 := BPd.out.cell 1 (by simp)
  have p2 := BPd.out.cell 2 (by simp)
  have p3 := BPd.out.cell 3 (by simp)
  have p4 := BPd.out.cell 4 (by simp)
  have p5 := BPd.out.cell 5 (by simp)
  simp only [List.getElem_cons_zero, List.getElem_cons_succ] at p0 p1 p2 p3 p4 p5
  have q0 := BQd.out.cell 0 (by simp)
  have q1 := BQd.out.cell 1 (by simp)
  have q2 := BQd.out.cell 2 (by simp)
  have q3 := BQd.out.cell 3 (by simp)
  have q4 := BQd.out.cell 4 (by simp)
  have q5 := BQd.out.cell 5 (by simp)
  simp only [List.getElem_cons_zero, List.getElem_cons_succ] at q0 q1 q2 q3 q4 q5
  go_wp2_with fail
  go_region_with (first
      | (go_at_call 41; (with_reducible refine (HFO.out _ _ (HX.out _ (bel_dr HB4.out))).mono ?_); rintro e w6 ⟨rfl, hb6⟩; have BQ6 := Lib.hid (BQd.out.below hb6); have B46 := Lib.hid (B4d.out.below hb6); have B56 := Lib.hid (B5d.out.below hb6); have q0' := BQ6.out.cell 0 (by simp); have q1' := BQ6.out.cell 1 (by simp); have q2' := BQ6.out.cell 2 (by simp); have q3' := BQ6.out.cell 3 (by simp); have q4' := BQ6.out.cell 4 (by simp); have q5' := BQ6.out.cell 5 (by simp); have r0 := B46.out.cell 0 (by simp); have z0 := B46.out.froz 0 (by simp); have r1 := B46.out.cell 1 (by simp); have z1 := B46.out.froz 1 (by simp); have r2 := B46.out.cell 2 (by simp); have z2 := B46.out.froz 2 (by simp); have r3 := B46.out.cell 3 (by simp); have z3 := B46.out.froz 3 (by simp); have r4 := B46.out.cell 4 (by simp); have z4 := B46.out.froz 4 (by simp); have r5 := B46.out.cell 5 (by simp); have z5 := B46.out.froz 5 (by simp); have s0 := B56.out.cell 0 (by simp); have y0 := B56.out.froz 0 (by simp); have s1 := B56.out.cell 1 (by simp); have y1 := B56.out.froz 1 (by simp); have s2 := B56.out.cell 2 (by simp); have y2 := B56.out.froz 2 (by simp); have s3 := B56.out.cell 3 (by simp); have y3 := B56.out.froz 3 (by simp); have s4 := B56.out.cell 4 (by simp); have y4 := B56.out.froz 4 (by simp); simp only [List.getElem_cons_zero, List.getElem_cons_succ] at q0' q1' q2' q3' q4' q5' r0 r1 r2 r3 r4 r5 s0 s1 s2 s3 s4))
  all_goals (try go_wp2_with fail)
  all_goals
    have HB6 := Lib.hid (belS (bel_dr HB4.out) hb6)
    have T3 := Lib.hid (ownsF_below (ownsF_drew S3.out) hb6 (Nat.le_refl _))
    have T5 := Lib.hid (ownsF_below (ownsF_drew S5.out) hb6 (Nat.le_refl _))
  all_goals
    refine bodyPost_ret (v := .tuple #[.agg #[.string ⟨a0.toArray⟩, .bool a1, .bool a2, .slice ga a3.length gc, .int .i64 a4, .slice ua l.length uc], .agg #[.int .i64 1, .int .i64 0, .string ⟨#[]⟩, .int .i64 nd, .int .i64 fp]]) (by simp [results, Try.results113, go_sem, cell_set_at, cell_set_ne, r0, r1, r2, r3, r4, r5, s0, s1, s2, s3, s4]) rfl ⟨_, rfl, ⟨_, _, rfl, ?_, ?_⟩, ?_⟩
    · refine ownsF_base (B := (((w.heap.size + 1) + 1) + 1)) ?_ (by omega)
      repeat (first | with_reducible exact T3.out | with_reducible refine ownsF_set ?_ (by simp; try omega) | with_reducible refine ownsF_drew ?_)
    · refine ownsF_base (B := (((w.heap.size + 1) + 1) + 1)) ?_ (by omega)
      repeat (first | with_reducible exact T5.out | with_reducible refine ownsF_set ?_ (by simp; try omega) | with_reducible refine ownsF_drew ?_)
    · repeat (first | with_reducible exact HB6.out | with_reducible refine Below.setCell ?_ (by simp; try omega) _ | with_reducible refine Below.drew ?_)
set_option maxRecDepth 100000 in
set_option maxHeartbeats 3200000 in
theorem specWrap_ok (v : Value) (x : PartD) (s : ByteArray) (w : World) (hx : ValAt rPart 0 w v x) (hs : SmallP x) (hk : ∀ c ∈ x.fCore.fCells, c.fKey.length ≤ maxLen) (hz : s.size ≤ 1048576) (hc : 0 ≤ layI s.data.toList) (hp : partB x = true) (h3 : ¬ x.fLayers.length = 3) (ho : offersF (faceP x) (needI (layI s.data.toList)) = true) :
    Calls Try.prog 113 #[v, .string s] w fun e w' => GivesOPR (wrapP x s.data.toList) (wrapR x s.data.toList) w e w' := by
  obtain ⟨hwp, hwr⟩ := wrap_ok (x := x) (s := s.data.toList) ⟨hp, hc⟩ h3 ho
  rw [hwp, hwr]
  clear hwp hwr
  have H3 := Lib.hid h3
  clear h3
  have HOF := Lib.hid (fun W => specOffers_any (faceP x) (needI (layI s.data.toList)) W)
  rw [ho] at HOF
  have HFO := Lib.hid (fun cs W (h : rPart 0 W cs x) => specFaceOf_any (.agg cs.toArray) x W ⟨cs, rfl, h⟩)
  clear ho
  obtain ⟨_, rfl, hx⟩ := hx
  have HX := Lib.hid (fun W (hb : Below w.heap.size w W) => goodPart.keep hx (kept_below hb (Nat.le_refl _)))
  have HIP := Lib.hid (fun cs W (h : rPart 0 W cs x) => specIsPart_any (.agg cs.toArray) x W ⟨cs, rfl, h⟩ hk)
  have HCP := Lib.hid (fun cs W (h : rPart 0 W cs x) => l4Copy_own (.agg cs.toArray) x W ⟨cs, rfl, h⟩ hs)
  have HLN := Lib.hid (fun W => l4Row_any s W)
  have HSZ := Lib.hid hs.lays
  unfold l4V at HLN
  unfold GivesOPR vReply
  unfold GivesOP at HCP
  rw [hp] at HIP
  rw [show decide (0 ≤ layI s.data.toList) = true from decide_eq_true hc] at HLN
  generalize needI (layI s.data.toList) = nd at *
  generalize giveI (layI s.data.toList) = gv at *
  generalize faceP x = fp at *
  obtain ⟨⟨a0, a1, a2, a3, a4⟩, l⟩ := x
  obtain ⟨v3, v5, rfl, h3, h5⟩ := hx
  simp only at h3 h5 HSZ
  obtain ⟨ra, rc, rfl, _⟩ := sliceAt_len h3
  obtain ⟨sa, sc, rfl, hl, hcap⟩ := sliceAt_cap h5
  clear h3 h5 hs hk hcap hl
  have BS := Lib.hid (bx_start3 w [.string ⟨a0.toArray⟩, .bool a1, .bool a2, .slice ra a3.length rc, .int .i64 a4, .slice sa l.length sc] [.string ⟨#[]⟩, .bool false, .bool false, .slice none 0 0, .int .i64 0, .slice none 0 0] [.int .i64 0, .int .i64 0, .string ⟨#[]⟩, .int .i64 0, .int .i64 0] 29 29 33)
  have HR0 := Lib.hid (HX.out _ BS.out.2.2.2)
  clear hc hp
  go_enter Try.func113, Try.ntmps113
  go_wp2_with fail
  refine (HCP.out _ _ HR0.out).mono ?_
  rintro e w1 ⟨_, rfl, ⟨u3, u5, rfl, ho3, ho5⟩, hb⟩
  simp only at ho3 ho5
  obtain ⟨ga, gc, rfl⟩ := slice_of ho3
  obtain ⟨ua, uc, rfl⟩ := slice_of ho5
  have HB1 := Lib.hid ((belS BS.out.2.2.2 hb).alloc (belS BS.out.2.2.2 hb).size (.cells #[.string ⟨a0.toArray⟩, .bool a1, .bool a2, .slice ga a3.length gc, .int .i64 a4, .slice ua l.length uc] 29))
  have B31 := Lib.hid ((BS.out.1.below hb).alloc (.cells #[.string ⟨a0.toArray⟩, .bool a1, .bool a2, .slice ga a3.length gc, .int .i64 a4, .slice ua l.length uc] 29))
  have B41 := Lib.hid ((BS.out.2.1.below hb).alloc (.cells #[.string ⟨a0.toArray⟩, .bool a1, .bool a2, .slice ga a3.length gc, .int .i64 a4, .slice ua l.length uc] 29))
  have B51 := Lib.hid ((BS.out.2.2.1.below hb).alloc (.cells #[.string ⟨a0.toArray⟩, .bool a1, .bool a2, .slice ga a3.length gc, .int .i64 a4, .slice ua l.length uc] 29))
  have BQ1 := Lib.hid (Bx.new w1 [.string ⟨a0.toArray⟩, .bool a1, .bool a2, .slice ga a3.length gc, .int .i64 a4, .slice ua l.length uc] 29)
  have O3 := Lib.hid (ownsF_alloc (ownsF_base (B' := w.heap.size + 1 + 1 + 1) ho3 (by simp)) (.cells #[.string ⟨a0.toArray⟩, .bool a1, .bool a2, .slice ga a3.length gc, .int .i64 a4, .slice ua l.length uc] 29))
  have O5 := Lib.hid (ownsF_alloc (ownsF_base (B' := w.heap.size + 1 + 1 + 1) ho5 (by simp)) (.cells #[.string ⟨a0.toArray⟩, .bool a1, .bool a2, .slice ga a3.length gc, .int .i64 a4, .slice ua l.length uc] 29))
  have h3s := hb.size
  simp at h3s
  have HU5 := Lib.hid (fun g (h : (Value.slice ua l.length uc).ownBlock = some g) => (show w.heap.size + 1 + 1 + 1 ≤ g ∧ g < w1.heap.size from ⟨by have := (World.ownsRow.lt ho5 g h).1; simpa using this, (World.ownsRow.lt ho5 g h).2⟩))
  have HU3 := Lib.hid (fun g (h : (Value.slice ga a3.length gc).ownBlock = some g) => (show g < w1.heap.size from (World.ownsRow.lt ho3 g h).2))
  clear hb ho3 ho5 BS
  go_wp2_with fail
  refine (HLN.out _).mono ?_
  rintro e w2 ⟨rfl, hb⟩
  have HB2 := Lib.hid (belS HB1.out hb)
  have B32 := Lib.hid (B31.out.below hb)
  have B42 := Lib.hid (B41.out.below hb)
  have B52 := Lib.hid (B51.out.below hb)
  have BQ2 := Lib.hid (BQ1.out.below hb)
  have P3 := Lib.hid (ownsF_below O3.out hb (Nat.le_refl _))
  have P5 := Lib.hid (ownsF_below O5.out hb (Nat.le_refl _))
  have h4s2 := hb.size
  simp at h4s2
  clear hb B31 B41 B51 BQ1
  have p0 := B32.out.cell 0 (by simp)
  have p1 := B32.out.cell 1 (by simp)
  have p2 := B32.out.cell 2 (by simp)
  have p3 := B32.out.cell 3 (by simp)
  have p4 := B32.out.cell 4 (by simp)
  have p5 := B32.out.cell 5 (by simp)
  simp only [List.getElem_cons_zero, List.getElem_cons_succ] at p0 p1 p2 p3 p4 p5
  go_wp2_with fail
  refine (HIP.out _ _ (HX.out _ HB2.out)).mono ?_
  rintro e w3 ⟨rfl, hb⟩
  clear p0 p1 p2 p3 p4 p5
  have HB3 := Lib.hid (belS HB2.out hb)
  have B33 := Lib.hid (B32.out.below hb)
  have B43 := Lib.hid (B42.out.below hb)
  have B53 := Lib.hid (B52.out.below hb)
  have BQ3 := Lib.hid (BQ2.out.below hb)
  have R3 := Lib.hid (ownsF_below P3.out hb (Nat.le_refl _))
  have R5 := Lib.hid (ownsF_below P5.out hb (Nat.le_refl _))
  have h4s3 := hb.size
  skip
  clear hb B32 B42 B52 BQ2
  have h3 := H3.out
  try simp only at h3
  have hl3 : ¬ (l.length : Int) = 3 := by omega
  clear h3
  have p0 := B33.out.cell 0 (by simp)
  have p1 := B33.out.cell 1 (by simp)
  have p2 := B33.out.cell 2 (by simp)
  have p3 := B33.out.cell 3 (by simp)
  have p4 := B33.out.cell 4 (by simp)
  have p5 := B33.out.cell 5 (by simp)
  simp only [List.getElem_cons_zero, List.getElem_cons_succ] at p0 p1 p2 p3 p4 p5
  go_wp2_with fail
  refine (HFO.out _ _ (HX.out _ HB3.out)).mono ?_
  rintro e w4 ⟨rfl, hb⟩
  clear p0 p1 p2 p3 p4 p5
  have HB4 := Lib.hid (belS HB3.out hb)
  have B34 := Lib.hid (B33.out.below hb)
  have B44 := Lib.hid (B43.out.below hb)
  have B54 := Lib.hid (B53.out.below hb)
  have BQ4 := Lib.hid (BQ3.out.below hb)
  have S3 := Lib.hid (ownsF_below R3.out hb (Nat.le_refl _))
  have S5 := Lib.hid (ownsF_below R5.out hb (Nat.le_refl _))
  have h4s4 := hb.size
  skip
  clear hb B33 B43 B53 BQ3
  go_wp2_with fail
  refine (HOF.out _).mono ?_
  rintro e w5 ⟨rfl, rfl⟩
  have hcl : ∀ j, j < 2 → (w4.alloc (.cells #[.string s, .int .i64 0] 81)).cell? ⟨w4.heap.size, j, none⟩ = (cLayer ⟨s.data.toList, 0⟩)[j]? := cell_newL w4 ⟨s.data.toList, 0⟩ _ rfl
  have hlen : (l ++ [(⟨s.data.toList, 0⟩ : LayerD)]).length = l.length + 1 := by simp
  have hcap : l.length ≤ 4194304 := by have := HSZ.out; omega
  have hBs : w.heap.size + 1 + 1 + 1 ≤ (w4.alloc (.cells #[.string s, .int .i64 0] 81)).heap.size := by simp; omega
  have q0 := BQ4.out.cell 0 (by simp)
  have q1 := BQ4.out.cell 1 (by simp)
  have q2 := BQ4.out.cell 2 (by simp)
  have q3 := BQ4.out.cell 3 (by simp)
  have q4 := BQ4.out.cell 4 (by simp)
  have q5 := BQ4.out.cell 5 (by simp)
  simp only [List.getElem_cons_zero, List.getElem_cons_succ] at q0 q1 q2 q3 q4 q5
  have p0 := BQ4.out.froz 0 (by simp)
  have p1 := BQ4.out.froz 1 (by simp)
  have p2 := BQ4.out.froz 2 (by simp)
  have p3 := BQ4.out.froz 3 (by simp)
  have p4 := BQ4.out.froz 4 (by simp)
  have p5 := BQ4.out.froz 5 (by simp)
  go_wp2_with (at_builtin; refine append_lay rfl _ _ rfl (w.heap.size + 1 + 1 + 1) (.slice ua l.length uc) l ⟨s.data.toList, 0⟩ (w4.alloc (.cells #[.string s, .int .i64 0] 81)) w4.heap.size rfl (ownsF_alloc S5.out _) rfl hcl hcap hBs ?_; intro v6 w6 hO6 hg6; obtain ⟨va, vc, rfl⟩ := slice_lenW hO6 hlen; have HO6 := Lib.hid hO6; clear hO6; have HG6 := Lib.hid hg6; clear hg6; have QX := Lib.hid ((BQ4.out.alloc (.cells #[.string s, .int .i64 0] 81)).grown HG6.out (fun e => by have := HU5.out _ e; omega)); have B46 := Lib.hid ((B44.out.alloc (.cells #[.string s, .int .i64 0] 81)).grown HG6.out (fun e => by have := HU5.out _ e; omega)); have B56 := Lib.hid ((B54.out.alloc (.cells #[.string s, .int .i64 0] 81)).grown HG6.out (fun e => by have := HU5.out _ e; omega)); have B47 := Lib.hid (B46.out.other (c := w1.heap.size) (by omega) 5 (.slice va (l.length + 1) vc)); have B57 := Lib.hid (B56.out.other (c := w1.heap.size) (by omega) 5 (.slice va (l.length + 1) vc)); have BQ7 := Lib.hid (QX.out.set 5 (by simp) (.slice va (l.length + 1) vc)); have q5' := QX.out.cell 5 (by simp); have p5' := QX.out.froz 5 (by simp); simp only [List.set_cons_succ, List.set_cons_zero] at BQ7; have x0 := BQ7.out.cell 0 (by simp); have r0 := B47.out.cell 0 (by simp); have z0 := B47.out.froz 0 (by simp); have x1 := BQ7.out.cell 1 (by simp); have r1 := B47.out.cell 1 (by simp); have z1 := B47.out.froz 1 (by simp); have x2 := BQ7.out.cell 2 (by simp); have r2 := B47.out.cell 2 (by simp); have z2 := B47.out.froz 2 (by simp); have x3 := BQ7.out.cell 3 (by simp); have r3 := B47.out.cell 3 (by simp); have z3 := B47.out.froz 3 (by simp); have x4 := BQ7.out.cell 4 (by simp); have r4 := B47.out.cell 4 (by simp); have z4 := B47.out.froz 4 (by simp); have x5 := BQ7.out.cell 5 (by simp); have r5 := B47.out.cell 5 (by simp); have z5 := B47.out.froz 5 (by simp); have s0 := B57.out.cell 0 (by simp); have y0 := B57.out.froz 0 (by simp); have s1 := B57.out.cell 1 (by simp); have y1 := B57.out.froz 1 (by simp); have s2 := B57.out.cell 2 (by simp); have y2 := B57.out.froz 2 (by simp); have s3 := B57.out.cell 3 (by simp); have y3 := B57.out.froz 3 (by simp); have s4 := B57.out.cell 4 (by simp); have y4 := B57.out.froz 4 (by simp); simp only [List.getElem_cons_zero, List.getElem_cons_succ] at q5' x0 r0 x1 r1 x2 r2 x3 r3 x4 r4 x5 r5 s0 s1 s2 s3 s4)
  have HB6 := Lib.hid (below_appendF (HB4.out.alloc HB4.out.size _) (ownsF_base (B' := w.heap.size) (ownsF_alloc S5.out _) (by omega)) HG6.out (Nat.le_trans (by omega) hBs))
  have U3 := Lib.hid (ownsF_keptF (ownsF_alloc S3.out _) (ownsF_alloc S5.out _) HG6.out (by decide))
  have hnb : (Value.slice va (l.length + 1) vc).ownBlock ≠ some w1.heap.size := lay_not_bool HO6.out (by rw [hlen]; omega) (QX.out.cell 1 (by simp))
  have HB7 := Lib.hid (HB6.out.setCell (p := ⟨w1.heap.size, 5, none⟩) (by simp; omega) (.slice va (l.length + 1) vc))
  have T3 := Lib.hid (ownsF_setNe (p := ⟨w1.heap.size, 5, none⟩) (u := .slice va (l.length + 1) vc) U3.out (fun e => Nat.lt_irrefl _ (HU3.out _ e)))
  have T5 := Lib.hid (ownsF_setNe (p := ⟨w1.heap.size, 5, none⟩) (u := .slice va (l.length + 1) vc) HO6.out hnb)
  all_goals
    refine bodyPost_ret (v := .tuple #[.agg #[.string ⟨a0.toArray⟩, .bool a1, .bool a2, .slice ga a3.length gc, .int .i64 a4, .slice va (l.length + 1) vc], .agg #[.int .i64 0, .int .i64 gv, .string ⟨#[]⟩, .int .i64 0, .int .i64 0]]) (by simp [results, Try.results113, go_sem, cell_set_at, cell_set_ne, r0, r1, r2, r3, r4, r5, s0, s1, s2, s3, s4]) rfl ⟨_, rfl, ⟨_, _, rfl, ?_, ?_⟩, ?_⟩
    · refine ownsF_base (B := (((w.heap.size + 1) + 1) + 1)) ?_ (by omega)
      repeat (first | with_reducible exact T3.out | with_reducible refine ownsF_set ?_ (by simp; try omega) | with_reducible refine ownsF_drew ?_)
    · refine ownsF_base (B := (((w.heap.size + 1) + 1) + 1)) ?_ (by omega)
      repeat (first | with_reducible exact T5.out | with_reducible refine ownsF_set ?_ (by simp; try omega) | with_reducible refine ownsF_drew ?_)
    · repeat (first | with_reducible exact HB7.out | with_reducible refine Below.setCell ?_ (by simp; try omega) _ | with_reducible refine Below.drew ?_)
theorem specWrap_any (v : Value) (x : PartD) (s : ByteArray) (w : World) (hx : ValAt rPart 0 w v x) (hs : SmallP x) (hk : ∀ c ∈ x.fCore.fCells, c.fKey.length ≤ maxLen) (hz : s.size ≤ 1048576) :
    Calls Try.prog 113 #[v, .string s] w fun e w' => GivesOPR (wrapP x s.data.toList) (wrapR x s.data.toList) w e w' := by
  cases hp : partB x with
  | false => exact specWrap_bad1 v x s w hx hs hk hz hp
  | true =>
    by_cases hc : 0 ≤ layI s.data.toList
    · by_cases h3 : x.fLayers.length = 3
      · exact specWrap_full v x s w hx hs hk hz hc hp h3
      · cases ho : offersF (faceP x) (needI (layI s.data.toList)) with
        | false => exact specWrap_fail v x s w hx hs hk hz hc hp h3 ho
        | true => exact specWrap_ok v x s w hx hs hk hz hc hp h3 ho
    · exact specWrap_bad2 v x s w hx hs hk hz hc hp
end Go.Proofs.Ytaihdjdaamglnaa
