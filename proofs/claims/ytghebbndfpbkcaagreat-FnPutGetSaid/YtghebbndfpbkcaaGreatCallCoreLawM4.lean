/- Cores: when two are equal. -/
import Derived.Test.YtghebbndfpbkcaaGreatCallCoreLawM3
import Derived.Test.YtghebbndfpbkcaaGreatCallCoreLawM2
import Derived.Test.YtghebbndfpbkcaaGreatCallCoreLawM0
import Derived.Deep.Slices
import Derived.StillTailTactics
import Derived.Test.YtghebbndfpbkcaaGreatCallCoreLawM1
/- The model's l3Do, method by method. Written by gen/ch3doS.py. -/
namespace Go.Proofs.YtghebbndfpbkcaaGreat
set_option linter.unusedVariables false
set_option linter.unusedSimpArgs false
open Go.RowKit
set_option maxRecDepth 100000 in
set_option maxHeartbeats 3200000 in
theorem l3Do_Hear (d : CoreD) (cv : Value) (key : List UInt8) (n : Int) (t : List UInt8) (runs : Bool) (w : World) (hx : FlatAt cCell 2 w cv d.fCells) (hs : SortC d.fCells) (hm : d.fCells.length ≤ 4) (hk : ∀ y ∈ d.fCells, y.fKey.length ≤ maxLen) (ht : t.length ≤ 1048576) (hn1 : -9223372036854775808 ≤ d.fCount) (hn2 : d.fCount ≤ 9223372036854775807) (hr : hasI (coreF d) 0 = runs) :
    Calls Tryz.prog 54 #[vCore d cv, .agg #[.string ⟨#[72, 101, 97, 114]⟩, .string ⟨key.toArray⟩, .int .i64 n, .string ⟨t.toArray⟩], .bool runs] w fun e w' => SaysC cv d (hearD d n) w e w' := by
  have HX := Lib.hid hx
  have HCV := Lib.hid (show cvAny cv from by obtain ⟨a, c, e, _⟩ := flatAt_len hx; exact ⟨_, _, _, e⟩)
  have HU := Lib.hid (fun W => l3Up_any d.fCount W hn2 hn1)
  have HO := Lib.hid (show ∀ out, hearD d n = out → hearD d n = out from fun _ h => h)
  obtain ⟨a, c, rfl, _⟩ := flatAt_len HX.out
  clear hx hs hr hk ht hn1 hn2
  obtain ⟨kd, on, br, l, cnt⟩ := d
  simp only at *
  have B0 := Lib.hid (bx_start4 w [.string ⟨kd.toArray⟩, .bool on, .bool br, .slice a l.length c, .int .i64 cnt] [.string ⟨#[72, 101, 97, 114]⟩, .string ⟨key.toArray⟩, .int .i64 n, .string ⟨t.toArray⟩] [.string ⟨#[]⟩, .bool false, .bool false, .slice none 0 0, .int .i64 0] [.int .i64 0, .int .i64 0, .string ⟨#[]⟩, .int .i64 0, .int .i64 0] 26 28 26 32)
  have HB4 := Lib.hid (show ∀ o1 o2 o3 o4, Below w.heap.size w ((((w.alloc o1).alloc o2).alloc o3).alloc o4) from fun o1 o2 o3 o4 => ((((Below.refl _ _).alloc (Nat.le_refl _) _).alloc (by simp) _).alloc (by simp; omega) _).alloc (by simp; omega) _)
  cases br with
  | true =>
    have HE := Lib.hid (show hearD ⟨kd, on, true, l, cnt⟩ n = ((⟨kd, on, true, l, cnt⟩ : CoreD), rC 3) from rfl)
    generalize hearD ⟨kd, on, true, l, cnt⟩ n = out at *
    clear HO
    obtain ⟨BP0, BQ0, BR0, BS0, HB0⟩ := B0.out
    have BP := Lib.hid BP0
    have BQ := Lib.hid BQ0
    have BR := Lib.hid BR0
    have BS := Lib.hid BS0
    have HB := Lib.hid HB0
    clear BP0 BQ0 BR0 BS0 HB0 B0
    unfold vCore
    go_enter Tryz.func54, Tryz.ntmps54
    go_wp2_with fail
    refine bodyPost_ret (v := .tuple #[.agg #[.string ⟨kd.toArray⟩, .bool on, .bool true, .slice a l.length c, .int .i64 cnt], vReply (rC 3)]) (by simp [results, Tryz.results54, go_sem, vReply, rC]) rfl ?_
    rw [HE.out]
    exact saysC_of (cv := .slice a l.length c) ⟨rfl, HB4.out _ _ _ _⟩ rfl
  | false =>
    by_cases h1 : n = 1
    · subst h1
      have HE := Lib.hid (show hearD ⟨kd, on, false, l, cnt⟩ 1 = ((⟨kd, true, false, l, upI cnt⟩ : CoreD), rV (upI cnt)) from rfl)
      generalize hearD ⟨kd, on, false, l, cnt⟩ 1 = out at *
      generalize upI cnt = cnt2 at *
      clear HO
      obtain ⟨BP0, BQ0, BR0, BS0, HB0⟩ := B0.out
      have BP := Lib.hid BP0
      have BQ := Lib.hid BQ0
      have BR := Lib.hid BR0
      have BS := Lib.hid BS0
      have HB := Lib.hid HB0
      clear BP0 BQ0 BR0 BS0 HB0 B0
      unfold vCore
      go_enter Tryz.func54, Tryz.ntmps54
      go_wp2_with fail
      refine (HU.out _).mono ?_
      rintro e w1 ⟨rfl, rfl⟩
      go_wp2_with fail
      go_region
      go_wp2_with fail
      refine bodyPost_ret (v := .tuple #[.agg #[.string ⟨kd.toArray⟩, .bool true, .bool false, .slice a l.length c, .int .i64 cnt2], vReply (rV cnt2)]) (by simp [results, Tryz.results54, go_sem, vReply, rV]) rfl ?_
      rw [HE.out]
      exact saysC_of (cv := .slice a l.length c) ⟨rfl, belDr (HB4.out _ _ _ _)⟩ rfl
    · have h1b : (n == 1) = false := by simpa using h1
      by_cases h0 : n = 0
      · subst h0
        clear h1 h1b
        cases on
        case false =>
          have HE := Lib.hid (show hearD ⟨kd, false, false, l, cnt⟩ 0 = ((⟨kd, false, false, l, upI cnt⟩ : CoreD), rV (upI cnt)) from rfl)
          generalize hearD ⟨kd, false, false, l, cnt⟩ 0 = out at *
          generalize upI cnt = cnt2 at *
          clear HO
          obtain ⟨BP0, BQ0, BR0, BS0, HB0⟩ := B0.out
          have BP := Lib.hid BP0
          have BQ := Lib.hid BQ0
          have BR := Lib.hid BR0
          have BS := Lib.hid BS0
          have HB := Lib.hid HB0
          clear BP0 BQ0 BR0 BS0 HB0 B0
          unfold vCore
          go_enter Tryz.func54, Tryz.ntmps54
          go_wp2_with fail
          refine (HU.out _).mono ?_
          rintro e w1 ⟨rfl, rfl⟩
          go_wp2_with fail
          go_region
          go_wp2_with fail
          refine bodyPost_ret (v := .tuple #[.agg #[.string ⟨kd.toArray⟩, .bool false, .bool false, .slice a l.length c, .int .i64 cnt2], vReply (rV cnt2)]) (by simp [results, Tryz.results54, go_sem, vReply, rV]) rfl ?_
          rw [HE.out]
          exact saysC_of (cv := .slice a l.length c) ⟨rfl, belDr (HB4.out _ _ _ _)⟩ rfl
        case true =>
          have HE := Lib.hid (show hearD ⟨kd, true, false, l, cnt⟩ 0 = ((⟨kd, false, false, l, upI cnt⟩ : CoreD), rV (upI cnt)) from rfl)
          generalize hearD ⟨kd, true, false, l, cnt⟩ 0 = out at *
          generalize upI cnt = cnt2 at *
          clear HO
          obtain ⟨BP0, BQ0, BR0, BS0, HB0⟩ := B0.out
          have BP := Lib.hid BP0
          have BQ := Lib.hid BQ0
          have BR := Lib.hid BR0
          have BS := Lib.hid BS0
          have HB := Lib.hid HB0
          clear BP0 BQ0 BR0 BS0 HB0 B0
          unfold vCore
          go_enter Tryz.func54, Tryz.ntmps54
          go_wp2_with fail
          refine (HU.out _).mono ?_
          rintro e w1 ⟨rfl, rfl⟩
          go_wp2_with fail
          go_region
          go_wp2_with fail
          refine bodyPost_ret (v := .tuple #[.agg #[.string ⟨kd.toArray⟩, .bool false, .bool false, .slice a l.length c, .int .i64 cnt2], vReply (rV cnt2)]) (by simp [results, Tryz.results54, go_sem, vReply, rV]) rfl ?_
          rw [HE.out]
          exact saysC_of (cv := .slice a l.length c) ⟨rfl, belDr (HB4.out _ _ _ _)⟩ rfl
      · have h0b : (n != 0) = true := by simpa using h0
        have hh := Lib.hid (And.intro h0 h1)
        clear h0 h1
        cases on
        case false =>
          have HE := Lib.hid (show hearD ⟨kd, false, false, l, cnt⟩ n = ((⟨kd, false, false, l, upI cnt⟩ : CoreD), rV (upI cnt)) from by unfold hearD; simp [hh.out.1, hh.out.2])
          generalize hearD ⟨kd, false, false, l, cnt⟩ n = out at *
          generalize upI cnt = cnt2 at *
          clear HO
          obtain ⟨BP0, BQ0, BR0, BS0, HB0⟩ := B0.out
          have BP := Lib.hid BP0
          have BQ := Lib.hid BQ0
          have BR := Lib.hid BR0
          have BS := Lib.hid BS0
          have HB := Lib.hid HB0
          clear BP0 BQ0 BR0 BS0 HB0 B0
          unfold vCore
          go_enter Tryz.func54, Tryz.ntmps54
          go_wp2_with fail
          refine (HU.out _).mono ?_
          rintro e w1 ⟨rfl, rfl⟩
          go_wp2_with fail
          go_region
          go_wp2_with fail
          refine bodyPost_ret (v := .tuple #[.agg #[.string ⟨kd.toArray⟩, .bool false, .bool false, .slice a l.length c, .int .i64 cnt2], vReply (rV cnt2)]) (by simp [results, Tryz.results54, go_sem, vReply, rV]) rfl ?_
          rw [HE.out]
          exact saysC_of (cv := .slice a l.length c) ⟨rfl, belDr (HB4.out _ _ _ _)⟩ rfl
        case true =>
          have HE := Lib.hid (show hearD ⟨kd, true, false, l, cnt⟩ n = ((⟨kd, true, false, l, upI cnt⟩ : CoreD), rV (upI cnt)) from by unfold hearD; simp [hh.out.1, hh.out.2])
          generalize hearD ⟨kd, true, false, l, cnt⟩ n = out at *
          generalize upI cnt = cnt2 at *
          clear HO
          obtain ⟨BP0, BQ0, BR0, BS0, HB0⟩ := B0.out
          have BP := Lib.hid BP0
          have BQ := Lib.hid BQ0
          have BR := Lib.hid BR0
          have BS := Lib.hid BS0
          have HB := Lib.hid HB0
          clear BP0 BQ0 BR0 BS0 HB0 B0
          unfold vCore
          go_enter Tryz.func54, Tryz.ntmps54
          go_wp2_with fail
          refine (HU.out _).mono ?_
          rintro e w1 ⟨rfl, rfl⟩
          go_wp2_with fail
          go_region
          go_wp2_with fail
          refine bodyPost_ret (v := .tuple #[.agg #[.string ⟨kd.toArray⟩, .bool true, .bool false, .slice a l.length c, .int .i64 cnt2], vReply (rV cnt2)]) (by simp [results, Tryz.results54, go_sem, vReply, rV]) rfl ?_
          rw [HE.out]
          exact saysC_of (cv := .slice a l.length c) ⟨rfl, belDr (HB4.out _ _ _ _)⟩ rfl
set_option maxRecDepth 100000 in
set_option maxHeartbeats 3200000 in
theorem l3Do_Save (d : CoreD) (cv : Value) (key : List UInt8) (n : Int) (t : List UInt8) (runs : Bool) (w : World) (hx : FlatAt cCell 2 w cv d.fCells) (hs : SortC d.fCells) (hm : d.fCells.length ≤ 4) (hk : ∀ y ∈ d.fCells, y.fKey.length ≤ maxLen) (ht : t.length ≤ 1048576) (hn1 : -9223372036854775808 ≤ d.fCount) (hn2 : d.fCount ≤ 9223372036854775807) (hr : hasI (coreF d) 0 = runs) :
    Calls Tryz.prog 54 #[vCore d cv, .agg #[.string ⟨#[83, 97, 118, 101]⟩, .string ⟨key.toArray⟩, .int .i64 n, .string ⟨t.toArray⟩], .bool runs] w fun e w' => SaysC cv d (saveD d) w e w' := by
  have HX := Lib.hid hx
  have HCV := Lib.hid (show cvAny cv from by obtain ⟨a, c, e, _⟩ := flatAt_len hx; exact ⟨_, _, _, e⟩)
  have HF := Lib.hid (fun W (hw : Below w.heap.size w W) => specFormatCells_any cv d.fCells W (hx.below hw (Nat.le_refl _)) hk)
  have HO := Lib.hid (show ∀ out, saveD d = out → saveD d = out from fun _ h => h)
  obtain ⟨a, c, rfl, _⟩ := flatAt_len HX.out
  clear hx hs hr hk ht hn1 hn2
  obtain ⟨kd, on, br, l, cnt⟩ := d
  simp only at *
  have B0 := Lib.hid (bx_start4 w [.string ⟨kd.toArray⟩, .bool on, .bool br, .slice a l.length c, .int .i64 cnt] [.string ⟨#[83, 97, 118, 101]⟩, .string ⟨key.toArray⟩, .int .i64 n, .string ⟨t.toArray⟩] [.string ⟨#[]⟩, .bool false, .bool false, .slice none 0 0, .int .i64 0] [.int .i64 0, .int .i64 0, .string ⟨#[]⟩, .int .i64 0, .int .i64 0] 26 28 26 32)
  have HB4 := Lib.hid (show ∀ o1 o2 o3 o4, Below w.heap.size w ((((w.alloc o1).alloc o2).alloc o3).alloc o4) from fun o1 o2 o3 o4 => ((((Below.refl _ _).alloc (Nat.le_refl _) _).alloc (by simp) _).alloc (by simp; omega) _).alloc (by simp; omega) _)
  cases br with
  | true =>
    have HE := Lib.hid (show saveD ⟨kd, on, true, l, cnt⟩ = ((⟨kd, on, true, l, cnt⟩ : CoreD), rC 3) from rfl)
    generalize saveD ⟨kd, on, true, l, cnt⟩ = out at *
    clear HO
    obtain ⟨BP0, BQ0, BR0, BS0, HB0⟩ := B0.out
    have BP := Lib.hid BP0
    have BQ := Lib.hid BQ0
    have BR := Lib.hid BR0
    have BS := Lib.hid BS0
    have HB := Lib.hid HB0
    clear BP0 BQ0 BR0 BS0 HB0 B0
    unfold vCore
    go_enter Tryz.func54, Tryz.ntmps54
    go_wp2_with fail
    refine bodyPost_ret (v := .tuple #[.agg #[.string ⟨kd.toArray⟩, .bool on, .bool true, .slice a l.length c, .int .i64 cnt], vReply (rC 3)]) (by simp [results, Tryz.results54, go_sem, vReply, rC]) rfl ?_
    rw [HE.out]
    exact saysC_of (cv := .slice a l.length c) ⟨rfl, HB4.out _ _ _ _⟩ rfl
  | false =>
    have HE := Lib.hid (show saveD ⟨kd, on, false, l, cnt⟩ = ((⟨kd, on, false, l, cnt⟩ : CoreD), rT (fmtC l)) from rfl)
    generalize saveD ⟨kd, on, false, l, cnt⟩ = out at *
    generalize fmtC l = ft at *
    clear HO
    obtain ⟨BP0, BQ0, BR0, BS0, HB0⟩ := B0.out
    have BP := Lib.hid BP0
    have BQ := Lib.hid BQ0
    have BR := Lib.hid BR0
    have BS := Lib.hid BS0
    have HB := Lib.hid HB0
    clear BP0 BQ0 BR0 BS0 HB0 B0
    unfold vCore
    go_enter Tryz.func54, Tryz.ntmps54
    go_wp2_with fail
    have HFX := Lib.hid (HF.out _ (belDr HB.out))
    have BPd := Lib.hid (bx_dr BP.out)
    have BRd := Lib.hid (bx_dr BR.out)
    have BSd := Lib.hid (bx_dr BS.out)
    refine wp_region_held_drew (S := (fun w' => w'.cell? ⟨w.heap.size, 0, none⟩ = some (.string ⟨kd.toArray⟩) ∧ w'.cell? ⟨w.heap.size, 1, none⟩ = some (.bool on) ∧ w'.cell? ⟨w.heap.size, 2, none⟩ = some (.bool false) ∧ w'.cell? ⟨w.heap.size, 3, none⟩ = some (.slice a l.length c) ∧ w'.cell? ⟨w.heap.size, 4, none⟩ = some (.int .i64 cnt))) (by kernel_rfl) ?_ (fun hHeld => ?_)
    · go_keep
    refine wpAnyH_take (i := 0) (v := ?_) rfl (by kernel_rfl) (by kernel_rfl) (by kernel_rfl) (fun _ _ _ h => h) (Or.inl ⟨by rfl, ?_⟩) (by assumption) ?_
    rotate_left
    · intro w hSw; (try dsimp only at hSw); go_simp; with_reducible rfl
    try simp only [Act.put, List.getElem_toArray, List.getElem_cons_zero, List.getElem_cons_succ, List.setIfInBounds_toArray, List.set_cons_zero, List.set_cons_succ]
    refine wpAnyH_take (i := 1) (v := ?_) rfl (by kernel_rfl) (by kernel_rfl) (by kernel_rfl) (fun _ _ _ h => h) (Or.inl ⟨by rfl, ?_⟩) (by assumption) ?_
    rotate_left
    · intro w hSw; (try dsimp only at hSw); go_simp; with_reducible rfl
    try simp only [Act.put, List.getElem_toArray, List.getElem_cons_zero, List.getElem_cons_succ, List.setIfInBounds_toArray, List.set_cons_zero, List.set_cons_succ]
    refine wpAnyH_take (i := 2) (v := ?_) rfl (by kernel_rfl) (by kernel_rfl) (by kernel_rfl) (fun _ _ _ h => h) (Or.inl ⟨by rfl, ?_⟩) (by assumption) ?_
    rotate_left
    · intro w hSw; (try dsimp only at hSw); go_simp; with_reducible rfl
    try simp only [Act.put, List.getElem_toArray, List.getElem_cons_zero, List.getElem_cons_succ, List.setIfInBounds_toArray, List.set_cons_zero, List.set_cons_succ]
    refine wpAnyH_ready (rs := [3]) (by kernel_rfl) (by simp) ?_
    refine AllReadyH.cons rfl (fun K hK => ?_) AllReadyH.nil
    go_simp
    go_at_call 84; (with_reducible refine HFX.out.mono ?_); rintro e w1 ⟨rfl, hb⟩; have BP := Lib.hid (BPd.out.below hb); have BR := Lib.hid (BRd.out.below hb); have BS := Lib.hid (BSd.out.below hb); have HB := Lib.hid (belS (belDr HB.out) hb); clear hb; have r0 : w1.cell? ⟨w.heap.size + 1 + 1, 0, none⟩ = some (.string ⟨#[]⟩) := BR.out.cell 0 (by simp); have r1 : w1.cell? ⟨w.heap.size + 1 + 1, 1, none⟩ = some (.bool false) := BR.out.cell 1 (by simp); have r2 : w1.cell? ⟨w.heap.size + 1 + 1, 2, none⟩ = some (.bool false) := BR.out.cell 2 (by simp); have r3 : w1.cell? ⟨w.heap.size + 1 + 1, 3, none⟩ = some (.slice none 0 0) := BR.out.cell 3 (by simp); have r4 : w1.cell? ⟨w.heap.size + 1 + 1, 4, none⟩ = some (.int .i64 0) := BR.out.cell 4 (by simp); have s0 : w1.cell? ⟨w.heap.size + 1 + 1 + 1, 0, none⟩ = some (.int .i64 0) := BS.out.cell 0 (by simp); have s1 : w1.cell? ⟨w.heap.size + 1 + 1 + 1, 1, none⟩ = some (.int .i64 0) := BS.out.cell 1 (by simp); have s2 : w1.cell? ⟨w.heap.size + 1 + 1 + 1, 2, none⟩ = some (.string ⟨#[]⟩) := BS.out.cell 2 (by simp); have s3 : w1.cell? ⟨w.heap.size + 1 + 1 + 1, 3, none⟩ = some (.int .i64 0) := BS.out.cell 3 (by simp); have s4 : w1.cell? ⟨w.heap.size + 1 + 1 + 1, 4, none⟩ = some (.int .i64 0) := BS.out.cell 4 (by simp); have p0 : w1.cell? ⟨w.heap.size, 0, none⟩ = some (.string ⟨kd.toArray⟩) := BP.out.cell 0 (by simp); have p1 : w1.cell? ⟨w.heap.size, 1, none⟩ = some (.bool on) := BP.out.cell 1 (by simp); have p2 : w1.cell? ⟨w.heap.size, 2, none⟩ = some (.bool false) := BP.out.cell 2 (by simp); have p3 : w1.cell? ⟨w.heap.size, 3, none⟩ = some (.slice a l.length c) := BP.out.cell 3 (by simp); have p4 : w1.cell? ⟨w.heap.size, 4, none⟩ = some (.int .i64 cnt) := BP.out.cell 4 (by simp); have y0 : w1.frozen? ⟨w.heap.size + 1 + 1, 0, none⟩ = false := BR.out.froz 0 (by simp); have y1 : w1.frozen? ⟨w.heap.size + 1 + 1, 1, none⟩ = false := BR.out.froz 1 (by simp); have y2 : w1.frozen? ⟨w.heap.size + 1 + 1, 2, none⟩ = false := BR.out.froz 2 (by simp); have y3 : w1.frozen? ⟨w.heap.size + 1 + 1, 3, none⟩ = false := BR.out.froz 3 (by simp); have y4 : w1.frozen? ⟨w.heap.size + 1 + 1, 4, none⟩ = false := BR.out.froz 4 (by simp); have z0 : w1.frozen? ⟨w.heap.size + 1 + 1 + 1, 0, none⟩ = false := BS.out.froz 0 (by simp); have z1 : w1.frozen? ⟨w.heap.size + 1 + 1 + 1, 1, none⟩ = false := BS.out.froz 1 (by simp); have z2 : w1.frozen? ⟨w.heap.size + 1 + 1 + 1, 2, none⟩ = false := BS.out.froz 2 (by simp); have z3 : w1.frozen? ⟨w.heap.size + 1 + 1 + 1, 3, none⟩ = false := BS.out.froz 3 (by simp); have z4 : w1.frozen? ⟨w.heap.size + 1 + 1 + 1, 4, none⟩ = false := BS.out.froz 4 (by simp); have L0 : w.heap.size < w1.heap.size := BP.out.lt; have L3 : w.heap.size + 1 + 1 + 1 < w1.heap.size := BS.out.lt
    refine hK.out _ _ ?_ (fun hHeld => ?_)
    · exact ⟨p0, p1, p2, p3, p4⟩
    clear hK K
    try simp only [Act.put, List.getElem_toArray, List.getElem_cons_zero, List.getElem_cons_succ, List.setIfInBounds_toArray, List.set_cons_zero, List.set_cons_succ]
    refine wpAnyH_take (i := 4) (v := ?_) rfl (by kernel_rfl) (by kernel_rfl) (by kernel_rfl) (fun _ _ _ h => h) (Or.inl ⟨by rfl, ?_⟩) (by assumption) ?_
    rotate_left
    · intro w hSw; (try dsimp only at hSw); go_simp; with_reducible rfl
    try simp only [Act.put, List.getElem_toArray, List.getElem_cons_zero, List.getElem_cons_succ, List.setIfInBounds_toArray, List.set_cons_zero, List.set_cons_succ]
    refine wpAnyH_ready (rs := [5]) (by kernel_rfl) (by simp) ?_
    refine AllReadyH.cons rfl (fun K hK => ?_) AllReadyH.nil
    go_simp
    refine hK.out _ _ ?_ (fun hHeld => ?_)
    · exact ⟨cP5 (by omega) p0, cP5 (by omega) p1, cP5 (by omega) p2, cP5 (by omega) p3, cP5 (by omega) p4⟩
    clear hK K
    try simp only [Act.put, List.getElem_toArray, List.getElem_cons_zero, List.getElem_cons_succ, List.setIfInBounds_toArray, List.set_cons_zero, List.set_cons_succ]
    refine wpAnyH_ready (rs := [6]) (by kernel_rfl) (by simp) ?_
    refine AllReadyH.cons rfl (fun K hK => ?_) AllReadyH.nil
    go_simp
    refine hK.out _ _ ?_ (fun hHeld => ?_)
    · exact ⟨cP5 (by omega) (cP5 (by omega) p0), cP5 (by omega) (cP5 (by omega) p1), cP5 (by omega) (cP5 (by omega) p2), cP5 (by omega) (cP5 (by omega) p3), cP5 (by omega) (cP5 (by omega) p4)⟩
    clear hK K
    try simp only [Act.put, List.getElem_toArray, List.getElem_cons_zero, List.getElem_cons_succ, List.setIfInBounds_toArray, List.set_cons_zero, List.set_cons_succ]
    refine wpAnyH_done (by kernel_rfl) ?_ _
    go_wp2_with fail
    refine bodyPost_ret (v := .tuple #[.agg #[.string ⟨kd.toArray⟩, .bool on, .bool false, .slice a l.length c, .int .i64 cnt], vReply (rT ft)]) (by simp [results, Tryz.results54, go_sem, vReply, rT, cell_set_at, cell_set_ne, r0, r1, r2, r3, r4, s0, s1, s2, s3, s4]) rfl ?_
    rw [HE.out]
    exact saysC_of (cv := .slice a l.length c) ⟨rfl, belP5 (belP5 HB.out _ (by omega) _ _ _ _ _) _ (by omega) _ _ _ _ _⟩ rfl
end Go.Proofs.YtghebbndfpbkcaaGreat
/- the model's l3Copy -/
namespace Go.Proofs.YtghebbndfpbkcaaGreat
set_option linter.unusedVariables false
set_option linter.unusedSimpArgs false
open Go.RowKit
set_option maxRecDepth 100000 in
set_option maxHeartbeats 3200000 in
theorem l3Copy_any (v : Value) (d : CoreD) (w : World) (hx : CoreAt w v d) (hm : d.fCells.length ≤ 2097152) :
    Calls Tryz.prog 50 #[v] w fun e w' => GivesCore d w e w' := by
  obtain ⟨cv, rfl, hx⟩ := hx
  obtain ⟨i0, hi, hz0, hz1, hz2⟩ := info_parts cell_info
  obtain ⟨kd, on, br, l, cnt⟩ := d
  unfold vCore
  simp only at *
  have HX := Lib.hid hx
  obtain ⟨a, c, rfl, hml⟩ := flatAt_len hx
  clear hx
  have HB3 := Lib.hid (show ∀ o1 o2 o3, Below w.heap.size w (((w.alloc o1).alloc o2).alloc o3) from fun o1 o2 o3 => (((Below.refl _ _).alloc (Nat.le_refl _) _).alloc (by simp) _).alloc (by simp; omega) _)
  have HO3 := Lib.hid (show ∀ o1 o2, OwnsF cCell 36 2 (((w.alloc o1).alloc o2).alloc (.cells #[] 36)) (w.heap.size + 1 + 1) (.slice (some ⟨w.heap.size + 1 + 1, 0, none⟩) 0 0) [] from fun o1 o2 => by have h := ownsF_new cCell 36 2 ((w.alloc o1).alloc o2); simpa using h)
  cases a with
  | none =>
    have hl0 : l = [] := by
      obtain ⟨a', c', e, _, _, h⟩ := HX.out
      injection e with e1 e2
      rcases h with h | ⟨b, o, rfl, _⟩
      · exact List.eq_nil_of_length_eq_zero h
      · simp at e1
    subst hl0
    simp only [List.length_nil] at *
    go_enter Tryz.func50, Tryz.ntmps50
    go_wp2_with fail
    refine bodyPost_ret (v := .agg #[.string ⟨kd.toArray⟩, .bool on, .bool br, .slice (some ⟨w.heap.size + 1 + 1, 0, none⟩) 0 0, .int .i64 cnt]) (by simp [results, Tryz.results50, go_sem, cell_set_at, cell_set_ne]) rfl ?_
    exact ⟨_, rfl, ⟨_, rfl, ownsF_base (HO3.out _ _) (by omega)⟩, HB3.out _ _ _⟩
  | some ad =>
    have HN := Lib.hid (fun o1 o2 o3 => show ∀ j u, (l.flatMap cCell)[j]? = some u → (((w.alloc o1).alloc o2).alloc o3).cell? (ad.add j) = some u from fun j u hj => by
      have h9 := HX.out.below (HB3.out o1 o2 o3) (Nat.le_refl _)
      obtain ⟨a', c', e, _, _, h⟩ := h9
      injection e with e1 e2
      have hjl : j < (l.flatMap cCell).length := (List.getElem?_eq_some_iff.1 hj).1
      rw [flat_len cCell 2 cCell_len] at hjl
      rcases h with h | ⟨b, o, rfl, _, h⟩
      · omega
      · injection e1 with e1
        subst e1
        rw [Addr.add_lit, h j hjl]; exact hj)
    have h1c : ∀ u ∈ l.flatMap cCell, u.oneCell' = true := fun u hu => by
      obtain ⟨y, _, hy⟩ := List.mem_flatMap.1 hu
      exact cCell_one y u hy
    have hfl := flat_len cCell 2 cCell_len l
    have H1 := Lib.hid h1c
    have HFL := Lib.hid hfl
    clear h1c hfl
    go_enter Tryz.func50, Tryz.ntmps50
    go_wp2_with (at_builtin; refine wpList_append_own _ rfl _ _ 24 rfl (w.heap.size + 1 + 1) 36 i0 _ 2 24 Tryz.underlying24 hi hz0 hz1 hz2 rfl (by decide) (.slice (some ⟨w.heap.size + 1 + 1, 0, none⟩) 0 0) 0 [] (by rfl) (HO3.out _ _) ad l.length c (l.flatMap cCell) (by rfl) HFL.out (HN.out _ _ _) H1.out (by unfold maxLen; omega) (by omega) (by simp; try omega) ?_; intro v' w' ho hgr hnil; clear hnil; have q0 : w'.cell? ⟨w.heap.size, 0, none⟩ = some (.string ⟨kd.toArray⟩) := (hgr.cell_far ⟨w.heap.size, 0, none⟩ (by simp <;> omega) (by simp [Value.ownBlock] <;> omega)).trans (by simp [go_sem]); have q1 : w'.cell? ⟨w.heap.size, 1, none⟩ = some (.bool on) := (hgr.cell_far ⟨w.heap.size, 1, none⟩ (by simp <;> omega) (by simp [Value.ownBlock] <;> omega)).trans (by simp [go_sem]); have q2 : w'.cell? ⟨w.heap.size, 2, none⟩ = some (.bool br) := (hgr.cell_far ⟨w.heap.size, 2, none⟩ (by simp <;> omega) (by simp [Value.ownBlock] <;> omega)).trans (by simp [go_sem]); have q3 : w'.cell? ⟨w.heap.size, 3, none⟩ = some (.slice (some ad) l.length c) := (hgr.cell_far ⟨w.heap.size, 3, none⟩ (by simp <;> omega) (by simp [Value.ownBlock] <;> omega)).trans (by simp [go_sem]); have q4 : w'.cell? ⟨w.heap.size, 4, none⟩ = some (.int .i64 cnt) := (hgr.cell_far ⟨w.heap.size, 4, none⟩ (by simp <;> omega) (by simp [Value.ownBlock] <;> omega)).trans (by simp [go_sem]); have r0 : w'.cell? ⟨w.heap.size + 1, 0, none⟩ = some (.string ⟨#[]⟩) := (hgr.cell_far ⟨w.heap.size + 1, 0, none⟩ (by simp <;> omega) (by simp [Value.ownBlock] <;> omega)).trans (by simp [go_sem]); have r1 : w'.cell? ⟨w.heap.size + 1, 1, none⟩ = some (.bool false) := (hgr.cell_far ⟨w.heap.size + 1, 1, none⟩ (by simp <;> omega) (by simp [Value.ownBlock] <;> omega)).trans (by simp [go_sem]); have r2 : w'.cell? ⟨w.heap.size + 1, 2, none⟩ = some (.bool false) := (hgr.cell_far ⟨w.heap.size + 1, 2, none⟩ (by simp <;> omega) (by simp [Value.ownBlock] <;> omega)).trans (by simp [go_sem]); have r3 : w'.cell? ⟨w.heap.size + 1, 3, none⟩ = some (.slice none 0 0) := (hgr.cell_far ⟨w.heap.size + 1, 3, none⟩ (by simp <;> omega) (by simp [Value.ownBlock] <;> omega)).trans (by simp [go_sem]); have r4 : w'.cell? ⟨w.heap.size + 1, 4, none⟩ = some (.int .i64 0) := (hgr.cell_far ⟨w.heap.size + 1, 4, none⟩ (by simp <;> omega) (by simp [Value.ownBlock] <;> omega)).trans (by simp [go_sem]); have y0 : ∀ o, w'.frozen? ⟨w.heap.size, o, none⟩ = false := (fun o => (hgr.frozen_far ⟨w.heap.size, o, none⟩ (by simp <;> omega) (by simp [Value.ownBlock] <;> omega)).trans (by simp [go_sem])); have y1 : ∀ o, w'.frozen? ⟨w.heap.size + 1, o, none⟩ = false := (fun o => (hgr.frozen_far ⟨w.heap.size + 1, o, none⟩ (by simp <;> omega) (by simp [Value.ownBlock] <;> omega)).trans (by simp [go_sem])); have HG := Lib.hid hgr; have HO := Lib.hid (show OwnsF cCell 36 2 w' (w.heap.size + 1 + 1) v' l from by simpa [OwnsF] using ho); obtain ⟨ua, uc, rfl⟩ := slice_of HO.out)
    refine bodyPost_ret (v := .agg #[.string ⟨kd.toArray⟩, .bool on, .bool br, .slice ua l.length uc, .int .i64 cnt]) (by simp [results, Tryz.results50, go_sem, cell_set_at, cell_set_ne, q0, q1, q2, q3, q4, r0, r1, r2, r3, r4]) rfl ?_
    refine ⟨_, rfl, ⟨_, rfl, ?_⟩, ?_⟩
    · refine ownsF_base (B := w.heap.size + 1 + 1) ?_ (by omega)
      repeat (with_reducible refine ownsF_set ?_ (by simp; try omega))
      exact HO.out
    · repeat (with_reducible refine Below.setCell ?_ (by simp; try omega) _)
      exact (HB3.out _ _ _).grown HG.out (by simp; omega) (fun k h => by simp [Value.ownBlock] at h; omega)
end Go.Proofs.YtghebbndfpbkcaaGreat
/- Contracts of chapter 3: the model's IsCore. -/
namespace Go.Proofs.YtghebbndfpbkcaaGreat
set_option linter.unusedVariables false
open Go.RowKit
theorem l2Has_0 (f : Int) (x : Bool) (h : hasI f 0 = x) (hf : isF f = true) (w : World) :
    Calls Tryz.prog 44 #[.int .i64 f, .int .i64 0] w fun e w' => e = .returned (.bool x) ∧ w = w' := l2Has_b f 0 x h hf (by decide) w
theorem l2Has_1 (f : Int) (x : Bool) (h : hasI f 1 = x) (hf : isF f = true) (w : World) :
    Calls Tryz.prog 44 #[.int .i64 f, .int .i64 1] w fun e w' => e = .returned (.bool x) ∧ w = w' := l2Has_b f 1 x h hf (by decide) w
set_option maxRecDepth 100000 in
set_option maxHeartbeats 6400000 in
theorem specIsCore_any (v : Value) (d : CoreD) (w : World) (hx : CoreAt w v d) (hs : ∀ c ∈ d.fCells, c.fKey.length ≤ maxLen) :
    Calls Tryz.prog 12 #[v] w fun e w' => e = .returned (.bool (coreB d)) ∧ Below w.heap.size w w' := by
  obtain ⟨cv, rfl, hx⟩ := hx
  have HKD := Lib.hid (specKind_b d.fKind)
  have HH0 := Lib.hid (l2Has_0 (kfI (kindI d.fKind)) _ rfl (kfI_face _))
  have HH1 := Lib.hid (l2Has_1 (kfI (kindI d.fKind)) _ rfl (kfI_face _))
  have HR := Lib.hid (show coreB d = (decide (0 ≤ kindI d.fKind) && cellsB d.fCells && (decide (d.fCells.length = 0) || hasI (kfI (kindI d.fKind)) 1) && (!(d.fOn || d.fBroken) || hasI (kfI (kindI d.fKind)) 0) && numB d.fCount && !(d.fOn && d.fBroken)) from rfl)
  generalize coreB d = res at *
  obtain ⟨kd, on, br, l, cnt⟩ := d
  unfold vCore
  simp only at *
  obtain ⟨a, c, rfl, hl⟩ := flatAt_len hx
  unfold maxLen at hl
  have HB0 := Lib.hid (show ∀ o, Below w.heap.size w (w.alloc o) from fun o => (Below.refl w.heap.size w).alloc (Nat.le_refl _) o)
  have HIC := Lib.hid (fun w0 hb => specIsCells_any _ l w0 (hx.below hb (Nat.le_refl _)) hs)
  clear hx hs
  have HK := Lib.hid (HKD.out _ rfl)
  generalize hasI (kfI (kindI kd)) 1 = h1 at *
  generalize hasI (kfI (kindI kd)) 0 = h0 at *
  generalize kfI (kindI kd) = f at *
  generalize decide (0 ≤ kindI kd) = kk at *
  generalize cellsB l = cb at *
  have HN0 := Lib.hid (show cnt < 0 → numB cnt = false from fun h => by simp [numB]; omega)
  have HN1 := Lib.hid (show 999 < cnt → numB cnt = false from fun h => by simp [numB]; omega)
  have HN2 := Lib.hid (show 0 ≤ cnt → cnt ≤ 999 → numB cnt = true from fun h h2 => by simp [numB]; omega)
  generalize numB cnt = nb at *
  clear HKD
  go_enter Tryz.func12, Tryz.ntmps12
  go_wp2_with fail
  refine (HK.out _).mono ?_
  rintro e w1 ⟨rfl, hb⟩
  have HB1 := Lib.hid ((HB0.out _).trans (hb.mono (HB0.out _).size))
  obtain ⟨hcc, _⟩ := bcell hb
  simp at hcc
  have hc0 := hcc w.heap.size 0 (by omega)
  have hc1 := hcc w.heap.size 1 (by omega)
  have hc2 := hcc w.heap.size 2 (by omega)
  have hc3 := hcc w.heap.size 3 (by omega)
  have hc4 := hcc w.heap.size 4 (by omega)
  simp at hc0 hc1 hc2 hc3 hc4
  have HLT := Lib.hid (show w.heap.size < w1.heap.size from by have := hb.size; simp at this; omega)
  clear hb hcc
  cases kk with
  | false =>
    go_wp2_with (first | (go_at_call 44; (with_reducible refine (HH0.out _).mono ?_); rintro e w' ⟨rfl, rfl⟩))
    go_ret
    exact ⟨ret_bool (by rw [HR.out]; rfl), HB1.out⟩
  | true =>
    go_wp2_with (first | (go_at_call 44; (with_reducible refine (HH0.out _).mono ?_); rintro e w' ⟨rfl, rfl⟩))
    refine (HIC.out _ HB1.out).mono ?_
    rintro e w2 ⟨rfl, hb⟩
    have HB := Lib.hid (HB1.out.trans (hb.mono HB1.out.size))
    have c0 := (hb.cell (p := ⟨w.heap.size, 0, none⟩) HLT.out).trans hc0
    have c1 := (hb.cell (p := ⟨w.heap.size, 1, none⟩) HLT.out).trans hc1
    have c2 := (hb.cell (p := ⟨w.heap.size, 2, none⟩) HLT.out).trans hc2
    have c3 := (hb.cell (p := ⟨w.heap.size, 3, none⟩) HLT.out).trans hc3
    have c4 := (hb.cell (p := ⟨w.heap.size, 4, none⟩) HLT.out).trans hc4
    clear hb hc0 hc1 hc2 hc3 hc4
    cases cb with
    | false =>
      go_wp2_with fail
      go_ret
      exact ⟨ret_bool (by rw [HR.out]; rfl), HB.out⟩
    | true =>
      by_cases hn : 0 < l.length
      · have hg : decide ((0 : Int) < (l.length : Int)) = true := decide_eq_true (by omega)
        rw [show decide (l.length = 0) = false from decide_eq_false (by omega)] at HR
        cases h1 with
        | false =>
          go_wp2_with (first | (go_at_call 44; (with_reducible refine (HH1.out _).mono ?_); rintro e w' ⟨rfl, rfl⟩))
          go_ret
          exact ⟨ret_bool (by rw [HR.out]; rfl), HB.out⟩
        | true =>
          by_cases hv : cnt < 0
          · rw [HN0.out hv] at HR
            go_wp2_with (first | (go_at_call 44; (with_reducible refine (HH1.out _).mono ?_); rintro e w' ⟨rfl, rfl⟩))
            go_ret
            exact ⟨ret_bool (by rw [HR.out]; cases on <;> cases br <;> cases h0 <;> rfl), HB.out⟩
          · by_cases hv2 : 999 < cnt
            · rw [HN1.out hv2] at HR
              go_wp2_with (first | (go_at_call 44; (with_reducible refine (HH1.out _).mono ?_); rintro e w' ⟨rfl, rfl⟩))
              go_ret
              exact ⟨ret_bool (by rw [HR.out]; cases on <;> cases br <;> cases h0 <;> rfl), HB.out⟩
            · rw [HN2.out (by omega) (by omega)] at HR
              cases on <;> cases br <;> cases h0
              all_goals
                go_wp2_with (first | (go_at_call 44; (with_reducible refine (HH1.out _).mono ?_); rintro e w' ⟨rfl, rfl⟩))
                go_ret
                exact ⟨ret_bool (by rw [HR.out]; rfl), HB.out⟩
      · have hg : decide ((0 : Int) < (l.length : Int)) = false := decide_eq_false (by omega)
        rw [show decide (l.length = 0) = true from decide_eq_true (by omega)] at HR
        have hg2 : (l.length : Int) ≤ 0 := by omega
        clear hn
        by_cases hv : cnt < 0
        · rw [HN0.out hv] at HR
          go_wp2_with fail
          go_ret
          exact ⟨ret_bool (by rw [HR.out]; cases on <;> cases br <;> cases h0 <;> rfl), HB.out⟩
        · by_cases hv2 : 999 < cnt
          · rw [HN1.out hv2] at HR
            go_wp2_with fail
            go_ret
            exact ⟨ret_bool (by rw [HR.out]; cases on <;> cases br <;> cases h0 <;> rfl), HB.out⟩
          · rw [HN2.out (by omega) (by omega)] at HR
            cases on <;> cases br <;> cases h0
            all_goals
              go_wp2_with fail
              go_ret
              exact ⟨ret_bool (by rw [HR.out]; rfl), HB.out⟩
end Go.Proofs.YtghebbndfpbkcaaGreat
/- The model's IsCall, method by method: three of them. Written by gen/ch3calls.py. -/
namespace Go.Proofs.YtghebbndfpbkcaaGreat
set_option linter.unusedVariables false
open Go.RowKit
set_option maxRecDepth 100000 in
set_option maxHeartbeats 3200000 in
theorem specIsCall_Start (key : List UInt8) (v : Int) (text : List UInt8) (w : World) (hk : key.length ≤ maxLen) :
    Calls Tryz.prog 51 #[.agg #[.string ⟨#[83, 116, 97, 114, 116]⟩, .string ⟨key.toArray⟩, .int .i64 v, .string ⟨text.toArray⟩]] w fun e w' => e = .returned (.bool (callB ⟨mStart, key, v, text⟩)) ∧ Below w.heap.size w w' := by
  have HR := Lib.hid (show callB ⟨mStart, key, v, text⟩ = (key.isEmpty && (v == 0) && (text.isEmpty || false)) from rfl)
  have HW := Lib.hid (show ∀ w0, Calls Tryz.prog 53 #[.string ⟨#[83, 116, 97, 114, 116]⟩] w0 fun e w' => e = .returned (.int .i64 1) ∧ Below w0.heap.size w0 w' from fun w0 => specWant_b mStart 1 rfl w0)
  generalize callB ⟨mStart, key, v, text⟩ = res at *
  clear hk
  have HB0 := Lib.hid (show ∀ o, Below w.heap.size w (w.alloc o) from fun o => (Below.refl w.heap.size w).alloc (Nat.le_refl _) o)
  go_enter Tryz.func51, Tryz.ntmps51
  go_wp2_with fail
  refine (HW.out _).mono ?_
  rintro e w1 ⟨rfl, hb⟩
  have HB := Lib.hid ((HB0.out _).trans (hb.mono (HB0.out _).size))
  obtain ⟨hcc, _⟩ := bcell hb
  simp at hcc
  have c0 := hcc w.heap.size 0 (by omega)
  have c1 := hcc w.heap.size 1 (by omega)
  have c2 := hcc w.heap.size 2 (by omega)
  have c3 := hcc w.heap.size 3 (by omega)
  simp at c0 c1 c2 c3
  clear hb hcc
  cases key <;> cases text
  all_goals
    by_cases h0 : v = 0
    · subst h0
      go_wp2_with fail
      go_ret
      exact ⟨ret_bool (by rw [HR.out]; rfl), HB.out⟩
    · have hv0 : (v == 0) = false := by simpa using h0
      rw [hv0] at HR
      clear h0
      go_wp2_with fail
      go_ret
      exact ⟨ret_bool (by rw [HR.out]; rfl), HB.out⟩
set_option maxRecDepth 100000 in
set_option maxHeartbeats 3200000 in
theorem specIsCall_Stop (key : List UInt8) (v : Int) (text : List UInt8) (w : World) (hk : key.length ≤ maxLen) :
    Calls Tryz.prog 51 #[.agg #[.string ⟨#[83, 116, 111, 112]⟩, .string ⟨key.toArray⟩, .int .i64 v, .string ⟨text.toArray⟩]] w fun e w' => e = .returned (.bool (callB ⟨mStop, key, v, text⟩)) ∧ Below w.heap.size w w' := by
  have HR := Lib.hid (show callB ⟨mStop, key, v, text⟩ = (key.isEmpty && (v == 0) && (text.isEmpty || false)) from rfl)
  have HW := Lib.hid (show ∀ w0, Calls Tryz.prog 53 #[.string ⟨#[83, 116, 111, 112]⟩] w0 fun e w' => e = .returned (.int .i64 1) ∧ Below w0.heap.size w0 w' from fun w0 => specWant_b mStop 1 rfl w0)
  generalize callB ⟨mStop, key, v, text⟩ = res at *
  clear hk
  have HB0 := Lib.hid (show ∀ o, Below w.heap.size w (w.alloc o) from fun o => (Below.refl w.heap.size w).alloc (Nat.le_refl _) o)
  go_enter Tryz.func51, Tryz.ntmps51
  go_wp2_with fail
  refine (HW.out _).mono ?_
  rintro e w1 ⟨rfl, hb⟩
  have HB := Lib.hid ((HB0.out _).trans (hb.mono (HB0.out _).size))
  obtain ⟨hcc, _⟩ := bcell hb
  simp at hcc
  have c0 := hcc w.heap.size 0 (by omega)
  have c1 := hcc w.heap.size 1 (by omega)
  have c2 := hcc w.heap.size 2 (by omega)
  have c3 := hcc w.heap.size 3 (by omega)
  simp at c0 c1 c2 c3
  clear hb hcc
  cases key <;> cases text
  all_goals
    by_cases h0 : v = 0
    · subst h0
      go_wp2_with fail
      go_ret
      exact ⟨ret_bool (by rw [HR.out]; rfl), HB.out⟩
    · have hv0 : (v == 0) = false := by simpa using h0
      rw [hv0] at HR
      clear h0
      go_wp2_with fail
      go_ret
      exact ⟨ret_bool (by rw [HR.out]; rfl), HB.out⟩
set_option maxRecDepth 100000 in
set_option maxHeartbeats 3200000 in
theorem specIsCall_Get (key : List UInt8) (v : Int) (text : List UInt8) (w : World) (hk : key.length ≤ maxLen) :
    Calls Tryz.prog 51 #[.agg #[.string ⟨#[71, 101, 116]⟩, .string ⟨key.toArray⟩, .int .i64 v, .string ⟨text.toArray⟩]] w fun e w' => e = .returned (.bool (callB ⟨mGet, key, v, text⟩)) ∧ Below w.heap.size w w' := by
  have HR := Lib.hid (show callB ⟨mGet, key, v, text⟩ = (nameB key && (v == 0) && (text.isEmpty || false)) from rfl)
  have HW := Lib.hid (show ∀ w0, Calls Tryz.prog 53 #[.string ⟨#[71, 101, 116]⟩] w0 fun e w' => e = .returned (.int .i64 2) ∧ Below w0.heap.size w0 w' from fun w0 => specWant_b mGet 2 rfl w0)
  have HN := Lib.hid (specIsName_b key _ rfl hk)
  generalize callB ⟨mGet, key, v, text⟩ = res at *
  generalize nameB key = kn at *
  clear hk
  have HB0 := Lib.hid (show ∀ o, Below w.heap.size w (w.alloc o) from fun o => (Below.refl w.heap.size w).alloc (Nat.le_refl _) o)
  go_enter Tryz.func51, Tryz.ntmps51
  go_wp2_with fail
  refine (HW.out _).mono ?_
  rintro e w1 ⟨rfl, hb⟩
  have HB := Lib.hid ((HB0.out _).trans (hb.mono (HB0.out _).size))
  obtain ⟨hcc, _⟩ := bcell hb
  simp at hcc
  have c0 := hcc w.heap.size 0 (by omega)
  have c1 := hcc w.heap.size 1 (by omega)
  have c2 := hcc w.heap.size 2 (by omega)
  have c3 := hcc w.heap.size 3 (by omega)
  simp at c0 c1 c2 c3
  clear hb hcc
  cases kn <;> cases text
  all_goals
    by_cases h0 : v = 0
    · subst h0
      go_wp2_with (first | (go_at_call 74; (with_reducible refine (HN.out _).mono ?_); rintro e w' ⟨rfl, rfl⟩))
      go_ret
      exact ⟨ret_bool (by rw [HR.out]; rfl), HB.out⟩
    · have hv0 : (v == 0) = false := by simpa using h0
      rw [hv0] at HR
      clear h0
      go_wp2_with (first | (go_at_call 74; (with_reducible refine (HN.out _).mono ?_); rintro e w' ⟨rfl, rfl⟩))
      go_ret
      exact ⟨ret_bool (by rw [HR.out]; rfl), HB.out⟩
end Go.Proofs.YtghebbndfpbkcaaGreat
/- The model's IsCall, method by method: three more. Written by gen/ch3calls.py. -/
namespace Go.Proofs.YtghebbndfpbkcaaGreat
set_option linter.unusedVariables false
open Go.RowKit
set_option maxRecDepth 100000 in
set_option maxHeartbeats 3200000 in
theorem specIsCall_Put (key : List UInt8) (v : Int) (text : List UInt8) (w : World) (hk : key.length ≤ maxLen) :
    Calls Tryz.prog 51 #[.agg #[.string ⟨#[80, 117, 116]⟩, .string ⟨key.toArray⟩, .int .i64 v, .string ⟨text.toArray⟩]] w fun e w' => e = .returned (.bool (callB ⟨mPut, key, v, text⟩)) ∧ Below w.heap.size w w' := by
  have HR := Lib.hid (show callB ⟨mPut, key, v, text⟩ = (nameB key && numB v && (text.isEmpty || false)) from rfl)
  have HW := Lib.hid (show ∀ w0, Calls Tryz.prog 53 #[.string ⟨#[80, 117, 116]⟩] w0 fun e w' => e = .returned (.int .i64 2) ∧ Below w0.heap.size w0 w' from fun w0 => specWant_b mPut 2 rfl w0)
  have HN := Lib.hid (specIsName_b key _ rfl hk)
  generalize callB ⟨mPut, key, v, text⟩ = res at *
  generalize nameB key = kn at *
  clear hk
  have HB0 := Lib.hid (show ∀ o, Below w.heap.size w (w.alloc o) from fun o => (Below.refl w.heap.size w).alloc (Nat.le_refl _) o)
  go_enter Tryz.func51, Tryz.ntmps51
  go_wp2_with fail
  refine (HW.out _).mono ?_
  rintro e w1 ⟨rfl, hb⟩
  have HB := Lib.hid ((HB0.out _).trans (hb.mono (HB0.out _).size))
  obtain ⟨hcc, _⟩ := bcell hb
  simp at hcc
  have c0 := hcc w.heap.size 0 (by omega)
  have c1 := hcc w.heap.size 1 (by omega)
  have c2 := hcc w.heap.size 2 (by omega)
  have c3 := hcc w.heap.size 3 (by omega)
  simp at c0 c1 c2 c3
  clear hb hcc
  cases kn <;> cases text
  all_goals
    by_cases h0 : v = 0
    · subst h0
      rw [show numB 0 = true from rfl] at HR
      go_wp2_with (first | (go_at_call 74; (with_reducible refine (HN.out _).mono ?_); rintro e w' ⟨rfl, rfl⟩))
      go_ret
      exact ⟨ret_bool (by rw [HR.out]; rfl), HB.out⟩
    · have hv0 : (v == 0) = false := by simpa using h0
      by_cases h1 : v < 0
      · rw [show numB v = false by simp [numB]; omega] at HR
        have hv1 : decide (0 < v) = false := decide_eq_false (by omega)
        clear h0
        go_wp2_with (first | (go_at_call 74; (with_reducible refine (HN.out _).mono ?_); rintro e w' ⟨rfl, rfl⟩))
        go_ret
        exact ⟨ret_bool (by rw [HR.out]; rfl), HB.out⟩
      · by_cases h2 : 999 < v
        · rw [show numB v = false by simp [numB]; omega] at HR
          have hv1 : decide (0 < v) = true := decide_eq_true (by omega)
          have hv2 : decide (v ≤ 999) = false := decide_eq_false (by omega)
          clear h0
          go_wp2_with (first | (go_at_call 74; (with_reducible refine (HN.out _).mono ?_); rintro e w' ⟨rfl, rfl⟩))
          go_ret
          exact ⟨ret_bool (by rw [HR.out]; rfl), HB.out⟩
        · rw [show numB v = true by simp [numB]; omega] at HR
          have hv1 : decide (0 < v) = true := decide_eq_true (by omega)
          have hv2 : decide (v ≤ 999) = true := decide_eq_true (by omega)
          have hv3 : 0 < v := by omega
          have hv4 : v ≤ 999 := by omega
          clear h0
          go_wp2_with (first | (go_at_call 74; (with_reducible refine (HN.out _).mono ?_); rintro e w' ⟨rfl, rfl⟩))
          go_ret
          exact ⟨ret_bool (by rw [HR.out]; rfl), HB.out⟩
set_option maxRecDepth 100000 in
set_option maxHeartbeats 3200000 in
theorem specIsCall_Tell (key : List UInt8) (v : Int) (text : List UInt8) (w : World) (hk : key.length ≤ maxLen) :
    Calls Tryz.prog 51 #[.agg #[.string ⟨#[84, 101, 108, 108]⟩, .string ⟨key.toArray⟩, .int .i64 v, .string ⟨text.toArray⟩]] w fun e w' => e = .returned (.bool (callB ⟨mTell, key, v, text⟩)) ∧ Below w.heap.size w w' := by
  have HR := Lib.hid (show callB ⟨mTell, key, v, text⟩ = (key.isEmpty && (v == 0) && (text.isEmpty || false)) from rfl)
  have HW := Lib.hid (show ∀ w0, Calls Tryz.prog 53 #[.string ⟨#[84, 101, 108, 108]⟩] w0 fun e w' => e = .returned (.int .i64 4) ∧ Below w0.heap.size w0 w' from fun w0 => specWant_b mTell 4 rfl w0)
  generalize callB ⟨mTell, key, v, text⟩ = res at *
  clear hk
  have HB0 := Lib.hid (show ∀ o, Below w.heap.size w (w.alloc o) from fun o => (Below.refl w.heap.size w).alloc (Nat.le_refl _) o)
  go_enter Tryz.func51, Tryz.ntmps51
  go_wp2_with fail
  refine (HW.out _).mono ?_
  rintro e w1 ⟨rfl, hb⟩
  have HB := Lib.hid ((HB0.out _).trans (hb.mono (HB0.out _).size))
  obtain ⟨hcc, _⟩ := bcell hb
  simp at hcc
  have c0 := hcc w.heap.size 0 (by omega)
  have c1 := hcc w.heap.size 1 (by omega)
  have c2 := hcc w.heap.size 2 (by omega)
  have c3 := hcc w.heap.size 3 (by omega)
  simp at c0 c1 c2 c3
  clear hb hcc
  cases key <;> cases text
  all_goals
    by_cases h0 : v = 0
    · subst h0
      go_wp2_with fail
      go_ret
      exact ⟨ret_bool (by rw [HR.out]; rfl), HB.out⟩
    · have hv0 : (v == 0) = false := by simpa using h0
      rw [hv0] at HR
      clear h0
      go_wp2_with fail
      go_ret
      exact ⟨ret_bool (by rw [HR.out]; rfl), HB.out⟩
set_option maxRecDepth 100000 in
set_option maxHeartbeats 3200000 in
theorem specIsCall_Hear (key : List UInt8) (v : Int) (text : List UInt8) (w : World) (hk : key.length ≤ maxLen) :
    Calls Tryz.prog 51 #[.agg #[.string ⟨#[72, 101, 97, 114]⟩, .string ⟨key.toArray⟩, .int .i64 v, .string ⟨text.toArray⟩]] w fun e w' => e = .returned (.bool (callB ⟨mHear, key, v, text⟩)) ∧ Below w.heap.size w w' := by
  have HR := Lib.hid (show callB ⟨mHear, key, v, text⟩ = (key.isEmpty && numB v && (text.isEmpty || false)) from rfl)
  have HW := Lib.hid (show ∀ w0, Calls Tryz.prog 53 #[.string ⟨#[72, 101, 97, 114]⟩] w0 fun e w' => e = .returned (.int .i64 8) ∧ Below w0.heap.size w0 w' from fun w0 => specWant_b mHear 8 rfl w0)
  generalize callB ⟨mHear, key, v, text⟩ = res at *
  clear hk
  have HB0 := Lib.hid (show ∀ o, Below w.heap.size w (w.alloc o) from fun o => (Below.refl w.heap.size w).alloc (Nat.le_refl _) o)
  go_enter Tryz.func51, Tryz.ntmps51
  go_wp2_with fail
  refine (HW.out _).mono ?_
  rintro e w1 ⟨rfl, hb⟩
  have HB := Lib.hid ((HB0.out _).trans (hb.mono (HB0.out _).size))
  obtain ⟨hcc, _⟩ := bcell hb
  simp at hcc
  have c0 := hcc w.heap.size 0 (by omega)
  have c1 := hcc w.heap.size 1 (by omega)
  have c2 := hcc w.heap.size 2 (by omega)
  have c3 := hcc w.heap.size 3 (by omega)
  simp at c0 c1 c2 c3
  clear hb hcc
  cases key <;> cases text
  all_goals
    by_cases h0 : v = 0
    · subst h0
      rw [show numB 0 = true from rfl] at HR
      go_wp2_with fail
      go_ret
      exact ⟨ret_bool (by rw [HR.out]; rfl), HB.out⟩
    · have hv0 : (v == 0) = false := by simpa using h0
      by_cases h1 : v < 0
      · rw [show numB v = false by simp [numB]; omega] at HR
        have hv1 : decide (0 < v) = false := decide_eq_false (by omega)
        clear h0
        go_wp2_with fail
        go_ret
        exact ⟨ret_bool (by rw [HR.out]; rfl), HB.out⟩
      · by_cases h2 : 999 < v
        · rw [show numB v = false by simp [numB]; omega] at HR
          have hv1 : decide (0 < v) = true := decide_eq_true (by omega)
          have hv2 : decide (v ≤ 999) = false := decide_eq_false (by omega)
          clear h0
          go_wp2_with fail
          go_ret
          exact ⟨ret_bool (by rw [HR.out]; rfl), HB.out⟩
        · rw [show numB v = true by simp [numB]; omega] at HR
          have hv1 : decide (0 < v) = true := decide_eq_true (by omega)
          have hv2 : decide (v ≤ 999) = true := decide_eq_true (by omega)
          have hv3 : 0 < v := by omega
          have hv4 : v ≤ 999 := by omega
          clear h0
          go_wp2_with fail
          go_ret
          exact ⟨ret_bool (by rw [HR.out]; rfl), HB.out⟩
end Go.Proofs.YtghebbndfpbkcaaGreat
/- The model's IsCall, method by method: the last three; whatever the method is. Written by gen/ch3calls.py. -/
namespace Go.Proofs.YtghebbndfpbkcaaGreat
set_option linter.unusedVariables false
open Go.RowKit
set_option maxRecDepth 100000 in
set_option maxHeartbeats 3200000 in
theorem specIsCall_Load (key : List UInt8) (v : Int) (text : List UInt8) (w : World) (hk : key.length ≤ maxLen) :
    Calls Tryz.prog 51 #[.agg #[.string ⟨#[76, 111, 97, 100]⟩, .string ⟨key.toArray⟩, .int .i64 v, .string ⟨text.toArray⟩]] w fun e w' => e = .returned (.bool (callB ⟨mLoad, key, v, text⟩)) ∧ Below w.heap.size w w' := by
  have HR := Lib.hid (show callB ⟨mLoad, key, v, text⟩ = (key.isEmpty && (v == 0) && (text.isEmpty || true)) from rfl)
  have HW := Lib.hid (show ∀ w0, Calls Tryz.prog 53 #[.string ⟨#[76, 111, 97, 100]⟩] w0 fun e w' => e = .returned (.int .i64 16) ∧ Below w0.heap.size w0 w' from fun w0 => specWant_b mLoad 16 rfl w0)
  generalize callB ⟨mLoad, key, v, text⟩ = res at *
  clear hk
  have HB0 := Lib.hid (show ∀ o, Below w.heap.size w (w.alloc o) from fun o => (Below.refl w.heap.size w).alloc (Nat.le_refl _) o)
  go_enter Tryz.func51, Tryz.ntmps51
  go_wp2_with fail
  refine (HW.out _).mono ?_
  rintro e w1 ⟨rfl, hb⟩
  have HB := Lib.hid ((HB0.out _).trans (hb.mono (HB0.out _).size))
  obtain ⟨hcc, _⟩ := bcell hb
  simp at hcc
  have c0 := hcc w.heap.size 0 (by omega)
  have c1 := hcc w.heap.size 1 (by omega)
  have c2 := hcc w.heap.size 2 (by omega)
  have c3 := hcc w.heap.size 3 (by omega)
  simp at c0 c1 c2 c3
  clear hb hcc
  cases key <;> cases text
  all_goals
    by_cases h0 : v = 0
    · subst h0
      go_wp2_with fail
      go_ret
      exact ⟨ret_bool (by rw [HR.out]; rfl), HB.out⟩
    · have hv0 : (v == 0) = false := by simpa using h0
      rw [hv0] at HR
      clear h0
      go_wp2_with fail
      go_ret
      exact ⟨ret_bool (by rw [HR.out]; rfl), HB.out⟩
set_option maxRecDepth 100000 in
set_option maxHeartbeats 3200000 in
theorem specIsCall_Save (key : List UInt8) (v : Int) (text : List UInt8) (w : World) (hk : key.length ≤ maxLen) :
    Calls Tryz.prog 51 #[.agg #[.string ⟨#[83, 97, 118, 101]⟩, .string ⟨key.toArray⟩, .int .i64 v, .string ⟨text.toArray⟩]] w fun e w' => e = .returned (.bool (callB ⟨mSave, key, v, text⟩)) ∧ Below w.heap.size w w' := by
  have HR := Lib.hid (show callB ⟨mSave, key, v, text⟩ = (key.isEmpty && (v == 0) && (text.isEmpty || false)) from rfl)
  have HW := Lib.hid (show ∀ w0, Calls Tryz.prog 53 #[.string ⟨#[83, 97, 118, 101]⟩] w0 fun e w' => e = .returned (.int .i64 16) ∧ Below w0.heap.size w0 w' from fun w0 => specWant_b mSave 16 rfl w0)
  generalize callB ⟨mSave, key, v, text⟩ = res at *
  clear hk
  have HB0 := Lib.hid (show ∀ o, Below w.heap.size w (w.alloc o) from fun o => (Below.refl w.heap.size w).alloc (Nat.le_refl _) o)
  go_enter Tryz.func51, Tryz.ntmps51
  go_wp2_with fail
  refine (HW.out _).mono ?_
  rintro e w1 ⟨rfl, hb⟩
  have HB := Lib.hid ((HB0.out _).trans (hb.mono (HB0.out _).size))
  obtain ⟨hcc, _⟩ := bcell hb
  simp at hcc
  have c0 := hcc w.heap.size 0 (by omega)
  have c1 := hcc w.heap.size 1 (by omega)
  have c2 := hcc w.heap.size 2 (by omega)
  have c3 := hcc w.heap.size 3 (by omega)
  simp at c0 c1 c2 c3
  clear hb hcc
  cases key <;> cases text
  all_goals
    by_cases h0 : v = 0
    · subst h0
      go_wp2_with fail
      go_ret
      exact ⟨ret_bool (by rw [HR.out]; rfl), HB.out⟩
    · have hv0 : (v == 0) = false := by simpa using h0
      rw [hv0] at HR
      clear h0
      go_wp2_with fail
      go_ret
      exact ⟨ret_bool (by rw [HR.out]; rfl), HB.out⟩
set_option maxRecDepth 100000 in
set_option maxHeartbeats 3200000 in
theorem specIsCall_Heal (key : List UInt8) (v : Int) (text : List UInt8) (w : World) (hk : key.length ≤ maxLen) :
    Calls Tryz.prog 51 #[.agg #[.string ⟨#[72, 101, 97, 108]⟩, .string ⟨key.toArray⟩, .int .i64 v, .string ⟨text.toArray⟩]] w fun e w' => e = .returned (.bool (callB ⟨mHeal, key, v, text⟩)) ∧ Below w.heap.size w w' := by
  have HR := Lib.hid (show callB ⟨mHeal, key, v, text⟩ = (key.isEmpty && (v == 0) && (text.isEmpty || false)) from rfl)
  have HW := Lib.hid (show ∀ w0, Calls Tryz.prog 53 #[.string ⟨#[72, 101, 97, 108]⟩] w0 fun e w' => e = .returned (.int .i64 32) ∧ Below w0.heap.size w0 w' from fun w0 => specWant_b mHeal 32 rfl w0)
  generalize callB ⟨mHeal, key, v, text⟩ = res at *
  clear hk
  have HB0 := Lib.hid (show ∀ o, Below w.heap.size w (w.alloc o) from fun o => (Below.refl w.heap.size w).alloc (Nat.le_refl _) o)
  go_enter Tryz.func51, Tryz.ntmps51
  go_wp2_with fail
  refine (HW.out _).mono ?_
  rintro e w1 ⟨rfl, hb⟩
  have HB := Lib.hid ((HB0.out _).trans (hb.mono (HB0.out _).size))
  obtain ⟨hcc, _⟩ := bcell hb
  simp at hcc
  have c0 := hcc w.heap.size 0 (by omega)
  have c1 := hcc w.heap.size 1 (by omega)
  have c2 := hcc w.heap.size 2 (by omega)
  have c3 := hcc w.heap.size 3 (by omega)
  simp at c0 c1 c2 c3
  clear hb hcc
  cases key <;> cases text
  all_goals
    by_cases h0 : v = 0
    · subst h0
      go_wp2_with fail
      go_ret
      exact ⟨ret_bool (by rw [HR.out]; rfl), HB.out⟩
    · have hv0 : (v == 0) = false := by simpa using h0
      rw [hv0] at HR
      clear h0
      go_wp2_with fail
      go_ret
      exact ⟨ret_bool (by rw [HR.out]; rfl), HB.out⟩
set_option maxRecDepth 100000 in
set_option maxHeartbeats 1600000 in
theorem specIsCall_any (d : CallD) (w : World) (hk : d.fKey.length ≤ maxLen) :
    Calls Tryz.prog 51 #[vCall d] w fun e w' => e = .returned (.bool (callB d)) ∧ Below w.heap.size w w' := by
  obtain ⟨m, key, v, text⟩ := d
  unfold vCall
  simp only at *
  rcases meth_cases m with rfl | rfl | rfl | rfl | rfl | rfl | rfl | rfl | rfl | ⟨hw, hStart, hStop, hGet, hPut, hTell, hHear, hLoad, hSave, hHeal⟩
  · exact specIsCall_Start key v text w hk
  · exact specIsCall_Stop key v text w hk
  · exact specIsCall_Get key v text w hk
  · exact specIsCall_Put key v text w hk
  · exact specIsCall_Tell key v text w hk
  · exact specIsCall_Hear key v text w hk
  · exact specIsCall_Load key v text w hk
  · exact specIsCall_Save key v text w hk
  · exact specIsCall_Heal key v text w hk
  · have HR := Lib.hid (show callB ⟨m, key, v, text⟩ = false by unfold callB; simp only; rw [hw]; rfl)
    have bGet : (m == [71, 101, 116]) = false := by simpa using hGet
    have bPut : (m == [80, 117, 116]) = false := by simpa using hPut
    have bHear : (m == [72, 101, 97, 114]) = false := by simpa using hHear
    have bLoad : (m == [76, 111, 97, 100]) = false := by simpa using hLoad
    have HW := Lib.hid (specWant_b m 0 hw)
    have HB0 := Lib.hid (show ∀ o, Below w.heap.size w (w.alloc o) from fun o => (Below.refl w.heap.size w).alloc (Nat.le_refl _) o)
    generalize callB ⟨m, key, v, text⟩ = res at *
    clear hw hk hStart hStop hGet hPut hTell hHear hLoad hSave hHeal
    go_enter Tryz.func51, Tryz.ntmps51
    go_wp2_with fail
    refine (HW.out _).mono ?_
    rintro e w1 ⟨rfl, hb⟩
    have HB := Lib.hid ((HB0.out _).trans (hb.mono (HB0.out _).size))
    clear hb
    go_wp2_with fail
    go_ret
    exact ⟨ret_bool HR.out.symm, HB.out⟩
end Go.Proofs.YtghebbndfpbkcaaGreat
/- What calls do to a core, plain: the kind stays, valid cores stay valid, what is refused changes nothing, what is put is got, what is saved is loaded. -/
namespace Go.Proofs.YtghebbndfpbkcaaGreat
set_option linter.unusedVariables false
set_option linter.unusedSimpArgs false
open Go.RowKit
theorem mthD_kind (d : CoreD) (x : CallD) : (mthD d x).1.fKind = d.fKind := by
  unfold mthD startD stopD getD1 putD tellD hearD loadD saveD healD
  repeat' split
  all_goals rfl
theorem doD_kind (d : CoreD) (x : CallD) : (doD d x).1.fKind = d.fKind := by
  unfold doD doV
  repeat' split
  all_goals first | rfl | exact mthD_kind d x
theorem coreB_iff (d : CoreD) : coreB d = true ↔ (0 ≤ kindI d.fKind ∧ cellsB d.fCells = true ∧ (d.fCells.length = 0 ∨ hasI (coreF d) 1 = true) ∧ ((d.fOn = false ∧ d.fBroken = false) ∨ hasI (coreF d) 0 = true) ∧ numB d.fCount = true ∧ ¬ (d.fOn = true ∧ d.fBroken = true)) := by
  unfold coreB
  simp only [Bool.and_eq_true, Bool.or_eq_true, decide_eq_true_eq, Bool.not_eq_true', Bool.or_eq_false_iff, Bool.and_eq_false_iff]
  constructor
  · rintro ⟨⟨⟨⟨⟨h1, h2⟩, h3⟩, h4⟩, h5⟩, h6⟩
    refine ⟨h1, h2, h3, h4, h5, ?_⟩
    rintro ⟨k1, k2⟩
    rcases h6 with h6 | h6
    · rw [k1] at h6; cases h6
    · rw [k2] at h6; cases h6
  · rintro ⟨h1, h2, h3, h4, h5, h6⟩
    refine ⟨⟨⟨⟨⟨h1, h2⟩, h3⟩, h4⟩, h5⟩, ?_⟩
    cases h : d.fOn
    · exact Or.inl rfl
    · right
      cases h' : d.fBroken
      · rfl
      · exact absurd ⟨h, h'⟩ h6
theorem kf_hear : ∀ j : _root_.Fin 8, offersF (kfN j) 8 = true → hasI (kfN j) 0 = true := by decide +kernel
theorem kf_save : ∀ j : _root_.Fin 8, offersF (kfN j) 16 = true → hasI (kfN j) 1 = true := by decide +kernel
theorem off_run {f : Int} (hf : isF f = true) (h : offersF f 1 = true) : hasI f 0 = true := by rw [← off_has hf 0 (by omega)]; exact h
theorem off_keep {f : Int} (hf : isF f = true) (h : offersF f 2 = true) : hasI f 1 = true := by rw [← off_has hf 1 (by omega)]; exact h
theorem core_hear {d : CoreD} (h : coreB d = true) (ho : offersF (coreF d) 8 = true) : hasI (coreF d) 0 = true := by
  obtain ⟨j, hj, _, e⟩ := coreB_kind h
  rw [e] at ho ⊢; exact kf_hear ⟨j, hj⟩ ho
theorem core_save {d : CoreD} (h : coreB d = true) (ho : offersF (coreF d) 16 = true) : hasI (coreF d) 1 = true := by
  obtain ⟨j, hj, _, e⟩ := coreB_kind h
  rw [e] at ho ⊢; exact kf_save ⟨j, hj⟩ ho
/-- the nine methods, and what each wants -/
theorem callB_meth {x : CallD} (h : callB x = true) : (x.fMethod = mStart ∧ wantF x.fMethod = 1) ∨ (x.fMethod = mStop ∧ wantF x.fMethod = 1) ∨ (x.fMethod = mGet ∧ wantF x.fMethod = 2) ∨ (x.fMethod = mPut ∧ wantF x.fMethod = 2) ∨ (x.fMethod = mTell ∧ wantF x.fMethod = 4) ∨
    (x.fMethod = mHear ∧ wantF x.fMethod = 8) ∨ (x.fMethod = mLoad ∧ wantF x.fMethod = 16) ∨ (x.fMethod = mSave ∧ wantF x.fMethod = 16) ∨ (x.fMethod = mHeal ∧ wantF x.fMethod = 32) := by
  have h0 := h
  simp only [callB, Bool.and_eq_true, bne_iff_ne, ne_eq] at h
  have hw := h.1.1.1
  rcases meth_cases x.fMethod with hm | hm | hm | hm | hm | hm | hm | hm | hm | hm
  case inr.inr.inr.inr.inr.inr.inr.inr.inr => exact absurd hm.1 hw
  all_goals rw [hm]; simp +decide
theorem callB_put {x : CallD} (h : callB x = true) (hm : x.fMethod = mPut) : nameB x.fKey = true ∧ numB x.fValue = true := by
  simp only [callB, Bool.and_eq_true, hm] at h
  have h1 := h.1.1.2
  have h2 := h.1.2
  simp +decide at h1 h2
  exact ⟨h1, h2⟩
theorem doD_good {d : CoreD} {x : CallD} (h1 : coreB d = true) (h2 : callB x = true) (h3 : offersF (coreF d) (wantF x.fMethod) = true) : doD d x = mthD d x := by
  unfold doD doV; rw [h1, h2, Bool.and_self, if_pos rfl, if_pos h3]
theorem doD_fail {d : CoreD} {x : CallD} (h1 : coreB d = true) (h2 : callB x = true) (h3 : offersF (coreF d) (wantF x.fMethod) = false) : doD d x = (d, ⟨1, 0, [], wantF x.fMethod, coreF d⟩) := by
  unfold doD doV; rw [h1, h2, Bool.and_self, if_pos rfl, if_neg (by rw [h3]; simp)]
theorem doD_bad {d : CoreD} {x : CallD} (h : coreB d = false ∨ callB x = false) : doD d x = (d, rC 7) := by
  unfold doD; rw [if_neg]; rcases h with h | h <;> rw [h] <;> simp
theorem mthD_Start {d : CoreD} {x : CallD} (h : x.fMethod = mStart) : mthD d x = startD d := if_pos h
theorem mthD_Stop {d : CoreD} {x : CallD} (h : x.fMethod = mStop) : mthD d x = stopD d := by unfold mthD; rw [h]; rfl
theorem mthD_Get {d : CoreD} {x : CallD} (h : x.fMethod = mGet) : mthD d x = getD1 d x.fKey := by unfold mthD; rw [h]; rfl
theorem mthD_Put {d : CoreD} {x : CallD} (h : x.fMethod = mPut) : mthD d x = putD d x.fKey x.fValue := by unfold mthD; rw [h]; rfl
theorem mthD_Tell {d : CoreD} {x : CallD} (h : x.fMethod = mTell) : mthD d x = tellD d := by unfold mthD; rw [h]; rfl
theorem mthD_Hear {d : CoreD} {x : CallD} (h : x.fMethod = mHear) : mthD d x = hearD d x.fValue := by unfold mthD; rw [h]; rfl
theorem mthD_Load {d : CoreD} {x : CallD} (h : x.fMethod = mLoad) : mthD d x = loadD d x.fText := by unfold mthD; rw [h]; rfl
theorem mthD_Save {d : CoreD} {x : CallD} (h : x.fMethod = mSave) : mthD d x = saveD d := by unfold mthD; rw [h]; rfl
theorem mthD_Heal {d : CoreD} {x : CallD} (h : x.fMethod = mHeal) : mthD d x = healD d := by unfold mthD; rw [h]; rfl
theorem coreF_face (d : CoreD) : isF (coreF d) = true := kfI_face _
theorem mthD_core {d : CoreD} {x : CallD} (h1 : coreB d = true) (h2 : callB x = true) (h3 : offersF (coreF d) (wantF x.fMethod) = true) : coreB (mthD d x).1 = true := by
  have h := (coreB_iff d).1 h1
  obtain ⟨hk, hc, hl, ho, hn, hb⟩ := h
  have hrun := off_run (coreF_face d)
  have hkeep := off_keep (coreF_face d)
  have hhear := core_hear h1
  have hsave := core_save h1
  rw [coreB_iff]
  rcases callB_meth h2 with ⟨hm, hw⟩ | ⟨hm, hw⟩ | ⟨hm, hw⟩ | ⟨hm, hw⟩ | ⟨hm, hw⟩ | ⟨hm, hw⟩ | ⟨hm, hw⟩ | ⟨hm, hw⟩ | ⟨hm, hw⟩ <;> rw [hw] at h3
  · rw [mthD_Start hm]; unfold startD
    repeat' split
    · exact ⟨hk, hc, hl, ho, hn, hb⟩
    · exact ⟨hk, hc, hl, Or.inr (hrun h3), hn, by simp⟩
    · rename_i k1 k2
      exact ⟨hk, hc, hl, Or.inr (hrun h3), upI_num hn, by simpa using k1⟩
  · rw [mthD_Stop hm]; unfold stopD
    repeat' split
    · exact ⟨hk, hc, hl, ho, hn, hb⟩
    · exact ⟨hk, hc, hl, Or.inr (hrun h3), hn, by simp⟩
    · exact ⟨hk, hc, hl, ho, hn, hb⟩
  · rw [mthD_Get hm]; unfold getD1
    repeat' split
    all_goals exact ⟨hk, hc, hl, ho, hn, hb⟩
  · rw [mthD_Put hm]; unfold putD
    have hp := callB_put h2 hm
    repeat' split
    · rename_i k1 k2
      exact ⟨hk, putC_cells hc hp.1 hp.2 k2, Or.inr (hkeep h3), ho, upI_num hn, hb⟩
    all_goals exact ⟨hk, hc, hl, ho, hn, hb⟩
  · rw [mthD_Tell hm]; exact ⟨hk, hc, hl, ho, hn, hb⟩
  · rw [mthD_Hear hm]; unfold hearD
    split
    · exact ⟨hk, hc, hl, ho, hn, hb⟩
    · rename_i k1
      exact ⟨hk, hc, hl, Or.inr (hhear h3), upI_num hn, fun h => k1 h.2⟩
  · rw [mthD_Load hm]; unfold loadD
    repeat' split
    · exact ⟨hk, hc, hl, ho, hn, hb⟩
    · rename_i k1 k2
      exact ⟨hk, (prsC_fmt k2).1, Or.inr (hsave h3), ho, hn, hb⟩
    · exact ⟨hk, hc, hl, ho, hn, hb⟩
  · rw [mthD_Save hm]; unfold saveD
    split <;> exact ⟨hk, hc, hl, ho, hn, hb⟩
  · rw [mthD_Heal hm]; exact ⟨hk, hc, hl, Or.inl ⟨rfl, rfl⟩, hn, by simp [healD]⟩
theorem doD_core {d : CoreD} (x : CallD) (h1 : coreB d = true) : coreB (doD d x).1 = true := by
  cases h2 : callB x with
  | false => rw [doD_bad (Or.inr h2)]; exact h1
  | true =>
    cases h3 : offersF (coreF d) (wantF x.fMethod) with
    | false => rw [doD_fail h1 h2 h3]; exact h1
    | true => rw [doD_good h1 h2 h3]; exact mthD_core h1 h2 h3
theorem mthD_code (d : CoreD) (x : CallD) : (mthD d x).2.fCode ≠ 1 ∧ (mthD d x).2.fCode ≠ 7 := by
  unfold mthD startD stopD getD1 putD tellD hearD loadD saveD healD idleI
  repeat' split
  all_goals simp [rC, rV, rT]
theorem mthD_quiet (d : CoreD) (x : CallD) (h : (mthD d x).2.fCode = 2 ∨ (mthD d x).2.fCode = 4 ∨ (mthD d x).2.fCode = 5 ∨ (mthD d x).2.fCode = 6) : (mthD d x).1 = d := by
  revert h
  unfold mthD startD stopD getD1 putD tellD hearD loadD saveD healD
  repeat' split
  all_goals first | (intro _; rfl) | (intro h; simp [rC, rV, rT] at h)
theorem doD_quiet {d : CoreD} {x : CallD} (h : (doD d x).2.fCode = 2 ∨ (doD d x).2.fCode = 4 ∨ (doD d x).2.fCode = 5 ∨ (doD d x).2.fCode = 6) : (doD d x).1 = d := by
  revert h
  unfold doD doV
  repeat' split
  · exact mthD_quiet d x
  · intro _; rfl
  · intro _; rfl
end Go.Proofs.YtghebbndfpbkcaaGreat
/- The model's CallCore. -/
namespace Go.Proofs.YtghebbndfpbkcaaGreat
set_option linter.unusedVariables false
set_option linter.unusedSimpArgs false
open Go.RowKit
theorem l3Do_c (d : CoreD) (cv : Value) (x : CallD) (runs : Bool) (w : World) (hx : FlatAt cCell 2 w cv d.fCells) (h1 : coreB d = true) (h2 : callB x = true) (hk : ∀ y ∈ d.fCells, y.fKey.length ≤ maxLen) (ht : x.fText.length ≤ 1048576) (hr : hasI (coreF d) 0 = runs) :
    Calls Tryz.prog 54 #[vCore d cv, vCall x, .bool runs] w fun e w' => SaysC cv d (mthD d x) w e w' := by
  have hc := (coreB_iff d).1 h1
  have hs := cellsB_sort hc.2.1
  have hm : d.fCells.length ≤ 4 := by have := hc.2.1; simp only [cellsB, Bool.and_eq_true, decide_eq_true_eq] at this; exact this.1
  have hn := hc.2.2.2.2.1
  simp only [numB, Bool.and_eq_true, decide_eq_true_eq] at hn
  obtain ⟨m, k, n, t⟩ := x
  simp only at ht
  rcases callB_meth h2 with ⟨hm2, _⟩ | ⟨hm2, _⟩ | ⟨hm2, _⟩ | ⟨hm2, _⟩ | ⟨hm2, _⟩ | ⟨hm2, _⟩ | ⟨hm2, _⟩ | ⟨hm2, _⟩ | ⟨hm2, _⟩ <;> simp only at hm2 <;> subst hm2
  · rw [mthD_Start rfl]; exact l3Do_Start d cv k n t runs w hx hs hm hk ht (by omega) (by omega) hr
  · rw [mthD_Stop rfl]; exact l3Do_Stop d cv k n t runs w hx hs hm hk ht (by omega) (by omega) hr
  · rw [mthD_Get rfl]; exact l3Do_Get d cv k n t runs w hx hs hm hk ht (by omega) (by omega) hr
  · rw [mthD_Put rfl]; exact l3Do_Put d cv k n t runs w hx hs hm hk ht (by omega) (by omega) hr
  · rw [mthD_Tell rfl]; exact l3Do_Tell d cv k n t runs w hx hs hm hk ht (by omega) (by omega) hr
  · rw [mthD_Hear rfl]; exact l3Do_Hear d cv k n t runs w hx hs hm hk ht (by omega) (by omega) hr
  · rw [mthD_Load rfl]; exact l3Do_Load d cv k n t runs w hx hs hm hk ht (by omega) (by omega) hr
  · rw [mthD_Save rfl]; exact l3Do_Save d cv k n t runs w hx hs hm hk ht (by omega) (by omega) hr
  · rw [mthD_Heal rfl]; exact l3Do_Heal d cv k n t runs w hx hs hm hk ht (by omega) (by omega) hr
def GivesCR (out : CoreD × ReplyD) (w : World) (e : Ending) (w' : World) : Prop := ∃ cv, e = .returned (.tuple #[vCore out.1 cv, vReply out.2]) ∧ OwnsF cCell 36 2 w' w.heap.size cv out.1.fCells ∧ Below w.heap.size w w'
set_option maxRecDepth 100000 in
set_option maxHeartbeats 3200000 in
theorem specCallCore_c (v : Value) (d : CoreD) (x : CallD) (w : World) (hx : CoreAt w v d) (hm : d.fCells.length ≤ 2097152) (hs : ∀ y ∈ d.fCells, y.fKey.length ≤ maxLen) (hk : x.fKey.length ≤ maxLen) (ht : x.fText.length ≤ 1048576) :
    Calls Tryz.prog 18 #[v, vCall x] w fun e w' => GivesCR (doD d x) w e w' := by
  obtain ⟨cv, rfl, hx⟩ := hx
  have HX := Lib.hid hx
  have HCP := Lib.hid (fun W (hw : Below w.heap.size w W) => l3Copy_any (vCore d cv) d W ⟨cv, rfl, hx.below hw (Nat.le_refl _)⟩ hm)
  have HIC := Lib.hid (fun W (hw : Below w.heap.size w W) => specIsCore_any (vCore d cv) d W ⟨cv, rfl, hx.below hw (Nat.le_refl _)⟩ hs)
  have HIX := Lib.hid (fun W => specIsCall_any x W hk)
  have HKF := Lib.hid (fun W (h : decide (0 ≤ kindI d.fKind) = true) => specKind_b d.fKind true h W)
  have HWO := Lib.hid (fun W => specWant_b x.fMethod _ rfl W)
  have HOF := Lib.hid (fun W => specOffers_any (coreF d) (wantF x.fMethod) W)
  have HL2 := Lib.hid (fun W => l2Has_0 (coreF d) _ rfl (coreF_face d) W)
  have HDO := Lib.hid (fun u W (hu : FlatAt cCell 2 W u d.fCells) (h1 : coreB d = true) (h2 : callB x = true) => l3Do_c d u x _ W hu h1 h2 hs ht rfl)
  have HKI := Lib.hid (show coreB d = true → decide (0 ≤ kindI d.fKind) = true from fun h => decide_eq_true ((coreB_iff d).1 h).1)
  have HBAD := Lib.hid (show (coreB d = false ∨ callB x = false) → doD d x = (d, rC 7) from fun h => doD_bad h)
  have HFAIL := Lib.hid (show coreB d = true → callB x = true → offersF (coreF d) (wantF x.fMethod) = false → doD d x = (d, ⟨1, 0, [], wantF x.fMethod, coreF d⟩) from fun h1 h2 h3 => doD_fail h1 h2 h3)
  have HGOOD := Lib.hid (show coreB d = true → callB x = true → offersF (coreF d) (wantF x.fMethod) = true → doD d x = mthD d x from fun h1 h2 h3 => doD_good h1 h2 h3)
  have HFK := Lib.hid (show coreF d = kfI (kindI d.fKind) from rfl)
  rw [← HFK.out] at HKF
  generalize doD d x = out at *
  generalize mthD d x = mt at *
  generalize hasI (coreF d) 0 = runs at *
  generalize offersF (coreF d) (wantF x.fMethod) = of at *
  generalize wantF x.fMethod = wt at *
  generalize callB x = cb at *
  generalize coreB d = kb at *
  clear HFK
  generalize coreF d = cf at *
  generalize decide (0 ≤ kindI d.fKind) = ki at *
  clear hs hx hk ht
  obtain ⟨a, c, rfl, _⟩ := flatAt_len HX.out
  obtain ⟨kd, on, br, l, cnt⟩ := d
  obtain ⟨m, k, n, t⟩ := x
  unfold vCore at HCP HIC HDO ⊢
  unfold vCall at HIX HDO ⊢
  simp only at *
  have B0 := Lib.hid (bx_start4 w [.string ⟨kd.toArray⟩, .bool on, .bool br, .slice a l.length c, .int .i64 cnt] [.string ⟨m.toArray⟩, .string ⟨k.toArray⟩, .int .i64 n, .string ⟨t.toArray⟩] [.string ⟨#[]⟩, .bool false, .bool false, .slice none 0 0, .int .i64 0] [.int .i64 0, .int .i64 0, .string ⟨#[]⟩, .int .i64 0, .int .i64 0] 26 28 26 32)
  go_enter Tryz.func18, Tryz.ntmps18
  go_wp2_with fail
  refine (HCP.out _ B0.out.2.2.2.2).mono ?_
  rintro e w1 ⟨_, rfl, ⟨cv1, rfl, ho⟩, hb⟩
  have HB1 := Lib.hid (belS B0.out.2.2.2.2 hb)
  have HO1 := Lib.hid (show OwnsF cCell 36 2 w1 (w.heap.size + 1 + 1 + 1 + 1) cv1 l from by simpa using ho)
  have hsz1 := hb.size
  simp at hsz1
  obtain ⟨ca, cc, rfl⟩ := slice_of HO1.out
  have BP1 := Lib.hid (B0.out.1.below hb)
  have BQ1 := Lib.hid (B0.out.2.1.below hb)
  have BR1 := Lib.hid (B0.out.2.2.1.below hb)
  have BS1 := Lib.hid (B0.out.2.2.2.1.below hb)
  clear hb ho B0
  unfold vCore
  simp only
  have BQQ := Lib.hid (Bx.new w1 [.string ⟨kd.toArray⟩, .bool on, .bool br, .slice ca l.length cc, .int .i64 cnt] 26)
  have HBA := Lib.hid (bx_box w1 (.cells #[.string ⟨kd.toArray⟩, .bool on, .bool br, .slice ca l.length cc, .int .i64 cnt] 26))
  have p0 := BP1.out.cell 0 (by simp)
  have p1 := BP1.out.cell 1 (by simp)
  have p2 := BP1.out.cell 2 (by simp)
  have p3 := BP1.out.cell 3 (by simp)
  have p4 := BP1.out.cell 4 (by simp)
  simp only [List.getElem_cons_zero, List.getElem_cons_succ] at p0 p1 p2 p3 p4
  have L0 := BP1.out.lt
  have hap := @past_cell w.heap.size
  go_wp2_with fail
  clear p0 p1 p2 p3 p4 hap L0
  generalize w1.alloc (.cells #[.string ⟨kd.toArray⟩, .bool on, .bool br, .slice ca l.length cc, .int .i64 cnt] 26) = w2 at *
  have BP := Lib.hid (BP1.out.below HBA.out)
  have BQ := Lib.hid (BQ1.out.below HBA.out)
  have BR := Lib.hid (BR1.out.below HBA.out)
  have BS := Lib.hid (BS1.out.below HBA.out)
  have HB := Lib.hid (belS HB1.out HBA.out)
  have HO := Lib.hid (ownsF_below HO1.out HBA.out (Nat.le_refl _))
  have hw12 : w1.heap.size < w2.heap.size := BQQ.out.lt
  clear BP1 BQ1 BR1 BS1 HB1 HO1 HBA
  refine (HIC.out _ HB.out).mono ?_
  rintro e w3 ⟨rfl, hb⟩
  have BP := Lib.hid (BP.out.below hb)
  have BQ := Lib.hid (BQ.out.below hb)
  have BR := Lib.hid (BR.out.below hb)
  have BS := Lib.hid (BS.out.below hb)
  have BQQ := Lib.hid (BQQ.out.below hb)
  have HB := Lib.hid (belS HB.out hb)
  have HO := Lib.hid (ownsF_below HO.out hb (Nat.le_refl _))
  have hw23 := hb.size
  clear hb
  have L0 := BP.out.lt
  have L1 := BQ.out.lt
  have L2 := BR.out.lt
  have L3 := BS.out.lt
  have L4 := BQQ.out.lt
  cases kb
  case false =>
    have HE := Lib.hid (HBAD.out (Or.inl rfl))
    clear HBAD HFAIL HGOOD
    have o0 := BQQ.out.cell 0 (by simp)
    have o1 := BQQ.out.cell 1 (by simp)
    have o2 := BQQ.out.cell 2 (by simp)
    have o3 := BQQ.out.cell 3 (by simp)
    have o4 := BQQ.out.cell 4 (by simp)
    simp only [List.getElem_cons_zero, List.getElem_cons_succ] at o0 o1 o2 o3 o4
    have r0 := BR.out.cell 0 (by simp)
    have r1 := BR.out.cell 1 (by simp)
    have r2 := BR.out.cell 2 (by simp)
    have r3 := BR.out.cell 3 (by simp)
    have r4 := BR.out.cell 4 (by simp)
    simp only [List.getElem_cons_zero, List.getElem_cons_succ] at r0 r1 r2 r3 r4
    have s0 := BS.out.cell 0 (by simp)
    have s1 := BS.out.cell 1 (by simp)
    have s2 := BS.out.cell 2 (by simp)
    have s3 := BS.out.cell 3 (by simp)
    have s4 := BS.out.cell 4 (by simp)
    simp only [List.getElem_cons_zero, List.getElem_cons_succ] at s0 s1 s2 s3 s4
    have y0 := BR.out.froz 0 (by simp)
    have y1 := BR.out.froz 1 (by simp)
    have y2 := BR.out.froz 2 (by simp)
    have y3 := BR.out.froz 3 (by simp)
    have y4 := BR.out.froz 4 (by simp)
    have z0 := BS.out.froz 0 (by simp)
    have z1 := BS.out.froz 1 (by simp)
    have z2 := BS.out.froz 2 (by simp)
    have z3 := BS.out.froz 3 (by simp)
    have z4 := BS.out.froz 4 (by simp)
    go_wp2_with fail
    refine bodyPost_ret (v := .tuple #[.agg #[.string ⟨kd.toArray⟩, .bool on, .bool br, .slice ca l.length cc, .int .i64 cnt], vReply (rC 7)]) (by simp [results, Tryz.results18, go_sem, vReply, rC, cell_set_at, cell_set_ne, r0, r1, r2, r3, r4, s0, s1, s2, s3, s4]) rfl ?_
    rw [HE.out]
    refine ⟨_, rfl, ?_, belP5 (belP5 HB.out _ (by omega) _ _ _ _ _) _ (by omega) _ _ _ _ _⟩
    exact ownsF_base (B := w.heap.size + 1 + 1 + 1 + 1) (flat_p5 _ (flat_p5 _ HO.out _ (by omega) _ _ _ _ _) _ (by omega) _ _ _ _ _) (by omega)
  case true =>
    have q0 := BQ.out.cell 0 (by simp)
    have q1 := BQ.out.cell 1 (by simp)
    have q2 := BQ.out.cell 2 (by simp)
    have q3 := BQ.out.cell 3 (by simp)
    simp only [List.getElem_cons_zero, List.getElem_cons_succ] at q0 q1 q2 q3
    go_wp2_with fail
    clear q0 q1 q2 q3
    refine (HIX.out _).mono ?_
    rintro e w4 ⟨rfl, hb⟩
    have BP := Lib.hid (BP.out.below hb)
    have BQ := Lib.hid (BQ.out.below hb)
    have BR := Lib.hid (BR.out.below hb)
    have BS := Lib.hid (BS.out.below hb)
    have BQQ := Lib.hid (BQQ.out.below hb)
    have HB := Lib.hid (belS HB.out hb)
    have HO := Lib.hid (ownsF_below HO.out hb (Nat.le_refl _))
    have hw34 := hb.size
    clear hb
    have L0 := BP.out.lt
    have L1 := BQ.out.lt
    have L2 := BR.out.lt
    have L3 := BS.out.lt
    have L4 := BQQ.out.lt
    cases cb
    case false =>
      have HE := Lib.hid (HBAD.out (Or.inr rfl))
      clear HBAD HFAIL HGOOD
      have o0 := BQQ.out.cell 0 (by simp)
      have o1 := BQQ.out.cell 1 (by simp)
      have o2 := BQQ.out.cell 2 (by simp)
      have o3 := BQQ.out.cell 3 (by simp)
      have o4 := BQQ.out.cell 4 (by simp)
      simp only [List.getElem_cons_zero, List.getElem_cons_succ] at o0 o1 o2 o3 o4
      have r0 := BR.out.cell 0 (by simp)
      have r1 := BR.out.cell 1 (by simp)
      have r2 := BR.out.cell 2 (by simp)
      have r3 := BR.out.cell 3 (by simp)
      have r4 := BR.out.cell 4 (by simp)
      simp only [List.getElem_cons_zero, List.getElem_cons_succ] at r0 r1 r2 r3 r4
      have s0 := BS.out.cell 0 (by simp)
      have s1 := BS.out.cell 1 (by simp)
      have s2 := BS.out.cell 2 (by simp)
      have s3 := BS.out.cell 3 (by simp)
      have s4 := BS.out.cell 4 (by simp)
      simp only [List.getElem_cons_zero, List.getElem_cons_succ] at s0 s1 s2 s3 s4
      have y0 := BR.out.froz 0 (by simp)
      have y1 := BR.out.froz 1 (by simp)
      have y2 := BR.out.froz 2 (by simp)
      have y3 := BR.out.froz 3 (by simp)
      have y4 := BR.out.froz 4 (by simp)
      have z0 := BS.out.froz 0 (by simp)
      have z1 := BS.out.froz 1 (by simp)
      have z2 := BS.out.froz 2 (by simp)
      have z3 := BS.out.froz 3 (by simp)
      have z4 := BS.out.froz 4 (by simp)
      go_wp2_with fail
      refine bodyPost_ret (v := .tuple #[.agg #[.string ⟨kd.toArray⟩, .bool on, .bool br, .slice ca l.length cc, .int .i64 cnt], vReply (rC 7)]) (by simp [results, Tryz.results18, go_sem, vReply, rC, cell_set_at, cell_set_ne, r0, r1, r2, r3, r4, s0, s1, s2, s3, s4]) rfl ?_
      rw [HE.out]
      refine ⟨_, rfl, ?_, belP5 (belP5 HB.out _ (by omega) _ _ _ _ _) _ (by omega) _ _ _ _ _⟩
      exact ownsF_base (B := w.heap.size + 1 + 1 + 1 + 1) (flat_p5 _ (flat_p5 _ HO.out _ (by omega) _ _ _ _ _) _ (by omega) _ _ _ _ _) (by omega)
    case true =>
      have hki := HKI.out (by first | rfl | trivial)
      subst hki
      have p0 := BP.out.cell 0 (by simp)
      have p1 := BP.out.cell 1 (by simp)
      have p2 := BP.out.cell 2 (by simp)
      have p3 := BP.out.cell 3 (by simp)
      have p4 := BP.out.cell 4 (by simp)
      simp only [List.getElem_cons_zero, List.getElem_cons_succ] at p0 p1 p2 p3 p4
      go_wp2_with fail
      clear p0 p1 p2 p3 p4
      refine (HKF.out _ (by first | rfl | trivial)).mono ?_
      rintro e w5 ⟨rfl, hb⟩
      have BP := Lib.hid (BP.out.below hb)
      have BQ := Lib.hid (BQ.out.below hb)
      have BR := Lib.hid (BR.out.below hb)
      have BS := Lib.hid (BS.out.below hb)
      have BQQ := Lib.hid (BQQ.out.below hb)
      have HB := Lib.hid (belS HB.out hb)
      have HO := Lib.hid (ownsF_below HO.out hb (Nat.le_refl _))
      have hw45 := hb.size
      clear hb
      have q0 := BQ.out.cell 0 (by simp)
      have q1 := BQ.out.cell 1 (by simp)
      have q2 := BQ.out.cell 2 (by simp)
      have q3 := BQ.out.cell 3 (by simp)
      simp only [List.getElem_cons_zero, List.getElem_cons_succ] at q0 q1 q2 q3
      go_wp2_with fail
      clear q0 q1 q2 q3
      refine (HWO.out _).mono ?_
      rintro e w6 ⟨rfl, hb⟩
      have BP := Lib.hid (BP.out.below hb)
      have BQ := Lib.hid (BQ.out.below hb)
      have BR := Lib.hid (BR.out.below hb)
      have BS := Lib.hid (BS.out.below hb)
      have BQQ := Lib.hid (BQQ.out.below hb)
      have HB := Lib.hid (belS HB.out hb)
      have HO := Lib.hid (ownsF_below HO.out hb (Nat.le_refl _))
      have hw56 := hb.size
      clear hb
      go_wp2_with fail
      refine (HOF.out _).mono ?_
      rintro e w7 ⟨rfl, rfl⟩
      cases of
      case false =>
        have HE := Lib.hid (HFAIL.out (by first | rfl | trivial) (by first | rfl | trivial) (by first | rfl | trivial))
        clear HBAD HFAIL HGOOD
        have BPd := Lib.hid (bx_dr BP.out)
        have BQd := Lib.hid (bx_dr BQ.out)
        have BRd := Lib.hid (bx_dr BR.out)
        have BSd := Lib.hid (bx_dr BS.out)
        have BQQd := Lib.hid (bx_dr BQQ.out)
        go_wp2_with fail
        refine wp_region_held_drew (S := (fun w' => w'.cell? ⟨w1.heap.size, 0, none⟩ = some (.string ⟨kd.toArray⟩) ∧ w'.cell? ⟨w1.heap.size, 1, none⟩ = some (.bool on) ∧ w'.cell? ⟨w1.heap.size, 2, none⟩ = some (.bool br) ∧ w'.cell? ⟨w1.heap.size, 3, none⟩ = some (.slice ca l.length cc) ∧ w'.cell? ⟨w1.heap.size, 4, none⟩ = some (.int .i64 cnt) ∧ w'.cell? ⟨w.heap.size + 1, 0, none⟩ = some (.string ⟨m.toArray⟩))) (by kernel_rfl) ?_ (fun hHeld => ?_)
        · exact ⟨BQQd.out.cell 0 (by simp), BQQd.out.cell 1 (by simp), BQQd.out.cell 2 (by simp), BQQd.out.cell 3 (by simp), BQQd.out.cell 4 (by simp), BQd.out.cell 0 (by simp)⟩
        refine wpAnyH_take (i := 0) (v := ?_) rfl (by kernel_rfl) (by kernel_rfl) (by kernel_rfl) (fun _ _ _ h => h) (Or.inl ⟨by rfl, ?_⟩) (by assumption) ?_
        rotate_left
        · intro w hSw; (try dsimp only at hSw); go_simp; with_reducible rfl
        try simp only [Act.put, List.getElem_toArray, List.getElem_cons_zero, List.getElem_cons_succ, List.setIfInBounds_toArray, List.set_cons_zero, List.set_cons_succ]
        refine wpAnyH_take (i := 1) (v := ?_) rfl (by kernel_rfl) (by kernel_rfl) (by kernel_rfl) (fun _ _ _ h => h) (Or.inl ⟨by rfl, ?_⟩) (by assumption) ?_
        rotate_left
        · intro w hSw; (try dsimp only at hSw); go_simp; with_reducible rfl
        try simp only [Act.put, List.getElem_toArray, List.getElem_cons_zero, List.getElem_cons_succ, List.setIfInBounds_toArray, List.set_cons_zero, List.set_cons_succ]
        refine wpAnyH_take (i := 2) (v := ?_) rfl (by kernel_rfl) (by kernel_rfl) (by kernel_rfl) (fun _ _ _ h => h) (Or.inl ⟨by rfl, ?_⟩) (by assumption) ?_
        rotate_left
        · intro w hSw; (try dsimp only at hSw); go_simp; with_reducible rfl
        try simp only [Act.put, List.getElem_toArray, List.getElem_cons_zero, List.getElem_cons_succ, List.setIfInBounds_toArray, List.set_cons_zero, List.set_cons_succ]
        refine wpAnyH_take (i := 4) (v := ?_) rfl (by kernel_rfl) (by kernel_rfl) (by kernel_rfl) (fun _ _ _ h => h) (Or.inl ⟨by rfl, ?_⟩) (by assumption) ?_
        rotate_left
        · intro w hSw; (try dsimp only at hSw); go_simp; with_reducible rfl
        try simp only [Act.put, List.getElem_toArray, List.getElem_cons_zero, List.getElem_cons_succ, List.setIfInBounds_toArray, List.set_cons_zero, List.set_cons_succ]
        refine wpAnyH_ready (rs := [3]) (by kernel_rfl) (by simp) ?_
        refine AllReadyH.cons rfl (fun K hK => ?_) AllReadyH.nil
        go_simp
        go_at_call 53; (with_reducible refine (HWO.out _).mono ?_); rintro e w7 ⟨rfl, hb⟩; have BP := Lib.hid (BPd.out.below hb); have BQ := Lib.hid (BQd.out.below hb); have BR := Lib.hid (BRd.out.below hb); have BS := Lib.hid (BSd.out.below hb); have BQQ := Lib.hid (BQQd.out.below hb); have HB := Lib.hid (belS (belDr HB.out) hb); have HO := Lib.hid (ownsF_below (ownsF_drew HO.out) hb (Nat.le_refl _)); have hw67 := hb.size; have r0 : w7.cell? ⟨w.heap.size + 1 + 1, 0, none⟩ = some (.string ⟨#[]⟩) := BR.out.cell 0 (by simp); have y0 : w7.frozen? ⟨w.heap.size + 1 + 1, 0, none⟩ = false := BR.out.froz 0 (by simp); have r1 : w7.cell? ⟨w.heap.size + 1 + 1, 1, none⟩ = some (.bool false) := BR.out.cell 1 (by simp); have y1 : w7.frozen? ⟨w.heap.size + 1 + 1, 1, none⟩ = false := BR.out.froz 1 (by simp); have r2 : w7.cell? ⟨w.heap.size + 1 + 1, 2, none⟩ = some (.bool false) := BR.out.cell 2 (by simp); have y2 : w7.frozen? ⟨w.heap.size + 1 + 1, 2, none⟩ = false := BR.out.froz 2 (by simp); have r3 : w7.cell? ⟨w.heap.size + 1 + 1, 3, none⟩ = some (.slice none 0 0) := BR.out.cell 3 (by simp); have y3 : w7.frozen? ⟨w.heap.size + 1 + 1, 3, none⟩ = false := BR.out.froz 3 (by simp); have r4 : w7.cell? ⟨w.heap.size + 1 + 1, 4, none⟩ = some (.int .i64 0) := BR.out.cell 4 (by simp); have y4 : w7.frozen? ⟨w.heap.size + 1 + 1, 4, none⟩ = false := BR.out.froz 4 (by simp); have s0 : w7.cell? ⟨w.heap.size + 1 + 1 + 1, 0, none⟩ = some (.int .i64 0) := BS.out.cell 0 (by simp); have z0 : w7.frozen? ⟨w.heap.size + 1 + 1 + 1, 0, none⟩ = false := BS.out.froz 0 (by simp); have s1 : w7.cell? ⟨w.heap.size + 1 + 1 + 1, 1, none⟩ = some (.int .i64 0) := BS.out.cell 1 (by simp); have z1 : w7.frozen? ⟨w.heap.size + 1 + 1 + 1, 1, none⟩ = false := BS.out.froz 1 (by simp); have s2 : w7.cell? ⟨w.heap.size + 1 + 1 + 1, 2, none⟩ = some (.string ⟨#[]⟩) := BS.out.cell 2 (by simp); have z2 : w7.frozen? ⟨w.heap.size + 1 + 1 + 1, 2, none⟩ = false := BS.out.froz 2 (by simp); have s3 : w7.cell? ⟨w.heap.size + 1 + 1 + 1, 3, none⟩ = some (.int .i64 0) := BS.out.cell 3 (by simp); have z3 : w7.frozen? ⟨w.heap.size + 1 + 1 + 1, 3, none⟩ = false := BS.out.froz 3 (by simp); have s4 : w7.cell? ⟨w.heap.size + 1 + 1 + 1, 4, none⟩ = some (.int .i64 0) := BS.out.cell 4 (by simp); have z4 : w7.frozen? ⟨w.heap.size + 1 + 1 + 1, 4, none⟩ = false := BS.out.froz 4 (by simp); have o0 : w7.cell? ⟨w1.heap.size, 0, none⟩ = some (.string ⟨kd.toArray⟩) := BQQ.out.cell 0 (by simp); have o1 : w7.cell? ⟨w1.heap.size, 1, none⟩ = some (.bool on) := BQQ.out.cell 1 (by simp); have o2 : w7.cell? ⟨w1.heap.size, 2, none⟩ = some (.bool br) := BQQ.out.cell 2 (by simp); have o3 : w7.cell? ⟨w1.heap.size, 3, none⟩ = some (.slice ca l.length cc) := BQQ.out.cell 3 (by simp); have o4 : w7.cell? ⟨w1.heap.size, 4, none⟩ = some (.int .i64 cnt) := BQQ.out.cell 4 (by simp); have q0 : w7.cell? ⟨w.heap.size + 1, 0, none⟩ = some (.string ⟨m.toArray⟩) := BQ.out.cell 0 (by simp); have q1 : w7.cell? ⟨w.heap.size + 1, 1, none⟩ = some (.string ⟨k.toArray⟩) := BQ.out.cell 1 (by simp); have q2 : w7.cell? ⟨w.heap.size + 1, 2, none⟩ = some (.int .i64 n) := BQ.out.cell 2 (by simp); have q3 : w7.cell? ⟨w.heap.size + 1, 3, none⟩ = some (.string ⟨t.toArray⟩) := BQ.out.cell 3 (by simp); have L2 : w.heap.size + 1 + 1 < w7.heap.size := BR.out.lt; have L3 : w.heap.size + 1 + 1 + 1 < w7.heap.size := BS.out.lt; have L4 : w1.heap.size < w7.heap.size := BQQ.out.lt; clear hb
        refine hK.out _ _ ?_ (fun hHeld => ?_)
        · exact ⟨o0, o1, o2, o3, o4, q0⟩
        clear hK K
        try simp only [Act.put, List.getElem_toArray, List.getElem_cons_zero, List.getElem_cons_succ, List.setIfInBounds_toArray, List.set_cons_zero, List.set_cons_succ]
        refine wpAnyH_take (i := 5) (v := ?_) rfl (by kernel_rfl) (by kernel_rfl) (by kernel_rfl) (fun _ _ _ h => h) (Or.inl ⟨by rfl, ?_⟩) (by assumption) ?_
        rotate_left
        · intro w hSw; (try dsimp only at hSw); go_simp; with_reducible rfl
        try simp only [Act.put, List.getElem_toArray, List.getElem_cons_zero, List.getElem_cons_succ, List.setIfInBounds_toArray, List.set_cons_zero, List.set_cons_succ]
        refine wpAnyH_ready (rs := [6]) (by kernel_rfl) (by simp) ?_
        refine AllReadyH.cons rfl (fun K hK => ?_) AllReadyH.nil
        go_simp
        refine hK.out _ _ ?_ (fun hHeld => ?_)
        · exact ⟨cP5 (by omega) o0, cP5 (by omega) o1, cP5 (by omega) o2, cP5 (by omega) o3, cP5 (by omega) o4, cP5 (by omega) q0⟩
        clear hK K
        try simp only [Act.put, List.getElem_toArray, List.getElem_cons_zero, List.getElem_cons_succ, List.setIfInBounds_toArray, List.set_cons_zero, List.set_cons_succ]
        refine wpAnyH_ready (rs := [7]) (by kernel_rfl) (by simp) ?_
        refine AllReadyH.cons rfl (fun K hK => ?_) AllReadyH.nil
        go_simp
        refine hK.out _ _ ?_ (fun hHeld => ?_)
        · exact ⟨cP5 (by omega) (cP5 (by omega) o0), cP5 (by omega) (cP5 (by omega) o1), cP5 (by omega) (cP5 (by omega) o2), cP5 (by omega) (cP5 (by omega) o3), cP5 (by omega) (cP5 (by omega) o4), cP5 (by omega) (cP5 (by omega) q0)⟩
        clear hK K
        try simp only [Act.put, List.getElem_toArray, List.getElem_cons_zero, List.getElem_cons_succ, List.setIfInBounds_toArray, List.set_cons_zero, List.set_cons_succ]
        refine wpAnyH_done (by kernel_rfl) ?_ _
        go_wp2_with fail
        refine bodyPost_ret (v := .tuple #[.agg #[.string ⟨kd.toArray⟩, .bool on, .bool br, .slice ca l.length cc, .int .i64 cnt], .agg #[.int .i64 1, .int .i64 0, .string ⟨#[]⟩, .int .i64 wt, .int .i64 cf]]) (by simp [results, Tryz.results18, go_sem, cell_set_at, cell_set_ne, r0, r1, r2, r3, r4, s0, s1, s2, s3, s4]) rfl ?_
        rw [HE.out]
        refine ⟨_, rfl, ?_, belP5 (belP5 HB.out _ (by omega) _ _ _ _ _) _ (by omega) _ _ _ _ _⟩
        exact ownsF_base (B := w.heap.size + 1 + 1 + 1 + 1) (flat_p5 _ (flat_p5 _ HO.out _ (by omega) _ _ _ _ _) _ (by omega) _ _ _ _ _) (by omega)
      case true =>
        have HE := Lib.hid (HGOOD.out (by first | rfl | trivial) (by first | rfl | trivial) (by first | rfl | trivial))
        clear HBAD HFAIL HGOOD
        have BPd := Lib.hid (bx_dr BP.out)
        have BQd := Lib.hid (bx_dr BQ.out)
        have BRd := Lib.hid (bx_dr BR.out)
        have BSd := Lib.hid (bx_dr BS.out)
        have BQQd := Lib.hid (bx_dr BQQ.out)
        go_wp2_with fail
        have HDD := Lib.hid (HDO.out (.slice ca l.length cc) _ (ownsF_at (ownsF_drew HO.out) (by omega)) (by first | rfl | trivial) (by first | rfl | trivial))
        refine wp_region_held_drew (S := (fun w' => w'.cell? ⟨w1.heap.size, 0, none⟩ = some (.string ⟨kd.toArray⟩) ∧ w'.cell? ⟨w1.heap.size, 1, none⟩ = some (.bool on) ∧ w'.cell? ⟨w1.heap.size, 2, none⟩ = some (.bool br) ∧ w'.cell? ⟨w1.heap.size, 3, none⟩ = some (.slice ca l.length cc) ∧ w'.cell? ⟨w1.heap.size, 4, none⟩ = some (.int .i64 cnt) ∧ w'.cell? ⟨w.heap.size + 1, 0, none⟩ = some (.string ⟨m.toArray⟩) ∧ w'.cell? ⟨w.heap.size + 1, 1, none⟩ = some (.string ⟨k.toArray⟩) ∧ w'.cell? ⟨w.heap.size + 1, 2, none⟩ = some (.int .i64 n) ∧ w'.cell? ⟨w.heap.size + 1, 3, none⟩ = some (.string ⟨t.toArray⟩))) (by kernel_rfl) ?_ (fun hHeld => ?_)
        · exact ⟨BQQd.out.cell 0 (by simp), BQQd.out.cell 1 (by simp), BQQd.out.cell 2 (by simp), BQQd.out.cell 3 (by simp), BQQd.out.cell 4 (by simp), BQd.out.cell 0 (by simp), BQd.out.cell 1 (by simp), BQd.out.cell 2 (by simp), BQd.out.cell 3 (by simp)⟩
        refine wpAnyH_take (i := 0) (v := ?_) rfl (by kernel_rfl) (by kernel_rfl) (by kernel_rfl) (fun _ _ _ h => h) (Or.inl ⟨by rfl, ?_⟩) (by assumption) ?_
        rotate_left
        · intro w hSw; (try dsimp only at hSw); go_simp; with_reducible rfl
        try simp only [Act.put, List.getElem_toArray, List.getElem_cons_zero, List.getElem_cons_succ, List.setIfInBounds_toArray, List.set_cons_zero, List.set_cons_succ]
        refine wpAnyH_take (i := 1) (v := ?_) rfl (by kernel_rfl) (by kernel_rfl) (by kernel_rfl) (fun _ _ _ h => h) (Or.inl ⟨by rfl, ?_⟩) (by assumption) ?_
        rotate_left
        · intro w hSw; (try dsimp only at hSw); go_simp; with_reducible rfl
        try simp only [Act.put, List.getElem_toArray, List.getElem_cons_zero, List.getElem_cons_succ, List.setIfInBounds_toArray, List.set_cons_zero, List.set_cons_succ]
        refine wpAnyH_take (i := 2) (v := ?_) rfl (by kernel_rfl) (by kernel_rfl) (by kernel_rfl) (fun _ _ _ h => h) (Or.inl ⟨by rfl, ?_⟩) (by assumption) ?_
        rotate_left
        · intro w hSw; (try dsimp only at hSw); go_simp; with_reducible rfl
        try simp only [Act.put, List.getElem_toArray, List.getElem_cons_zero, List.getElem_cons_succ, List.setIfInBounds_toArray, List.set_cons_zero, List.set_cons_succ]
        refine wpAnyH_ready (rs := [3]) (by kernel_rfl) (by simp) ?_
        refine AllReadyH.cons rfl (fun K hK => ?_) AllReadyH.nil
        go_simp
        go_at_call 44; (with_reducible refine (HL2.out _).mono ?_); rintro e w' ⟨rfl, rfl⟩
        refine hK.out _ _ ?_ (fun hHeld => ?_)
        · exact ⟨BQQd.out.cell 0 (by simp), BQQd.out.cell 1 (by simp), BQQd.out.cell 2 (by simp), BQQd.out.cell 3 (by simp), BQQd.out.cell 4 (by simp), BQd.out.cell 0 (by simp), BQd.out.cell 1 (by simp), BQd.out.cell 2 (by simp), BQd.out.cell 3 (by simp)⟩
        clear hK K
        try simp only [Act.put, List.getElem_toArray, List.getElem_cons_zero, List.getElem_cons_succ, List.setIfInBounds_toArray, List.set_cons_zero, List.set_cons_succ]
        refine wpAnyH_ready (rs := [4]) (by kernel_rfl) (by simp) ?_
        refine AllReadyH.cons rfl (fun K hK => ?_) AllReadyH.nil
        go_simp
        go_at_call 54; refine (HDD.out).mono ?_; rintro e w7 ⟨u, rfl, hu, hb⟩; have BP := Lib.hid (BPd.out.below hb); have BQ := Lib.hid (BQd.out.below hb); have BR := Lib.hid (BRd.out.below hb); have BS := Lib.hid (BSd.out.below hb); have BQQ := Lib.hid (BQQd.out.below hb); have HB := Lib.hid (belS (belDr HB.out) hb); have HO := Lib.hid (ownsF_below (ownsF_drew HO.out) hb (Nat.le_refl _)); have hw67 := hb.size; have HU := Lib.hid hu; clear hu; obtain ⟨ua, uc, rfl⟩ : ∃ ua uc, u = .slice ua mt.1.fCells.length uc := (by rcases HU.out with ⟨h1, h2⟩ | h; exact ⟨ca, cc, by rw [h1, h2]⟩; exact slice_of h); obtain ⟨⟨kd1, on1, br1, l1, cnt1⟩, g0, g1, g2, g3, g4⟩ := mt; unfold vCore vReply; simp only; have r0 : w7.cell? ⟨w.heap.size + 1 + 1, 0, none⟩ = some (.string ⟨#[]⟩) := BR.out.cell 0 (by simp); have y0 : w7.frozen? ⟨w.heap.size + 1 + 1, 0, none⟩ = false := BR.out.froz 0 (by simp); have r1 : w7.cell? ⟨w.heap.size + 1 + 1, 1, none⟩ = some (.bool false) := BR.out.cell 1 (by simp); have y1 : w7.frozen? ⟨w.heap.size + 1 + 1, 1, none⟩ = false := BR.out.froz 1 (by simp); have r2 : w7.cell? ⟨w.heap.size + 1 + 1, 2, none⟩ = some (.bool false) := BR.out.cell 2 (by simp); have y2 : w7.frozen? ⟨w.heap.size + 1 + 1, 2, none⟩ = false := BR.out.froz 2 (by simp); have r3 : w7.cell? ⟨w.heap.size + 1 + 1, 3, none⟩ = some (.slice none 0 0) := BR.out.cell 3 (by simp); have y3 : w7.frozen? ⟨w.heap.size + 1 + 1, 3, none⟩ = false := BR.out.froz 3 (by simp); have r4 : w7.cell? ⟨w.heap.size + 1 + 1, 4, none⟩ = some (.int .i64 0) := BR.out.cell 4 (by simp); have y4 : w7.frozen? ⟨w.heap.size + 1 + 1, 4, none⟩ = false := BR.out.froz 4 (by simp); have s0 : w7.cell? ⟨w.heap.size + 1 + 1 + 1, 0, none⟩ = some (.int .i64 0) := BS.out.cell 0 (by simp); have z0 : w7.frozen? ⟨w.heap.size + 1 + 1 + 1, 0, none⟩ = false := BS.out.froz 0 (by simp); have s1 : w7.cell? ⟨w.heap.size + 1 + 1 + 1, 1, none⟩ = some (.int .i64 0) := BS.out.cell 1 (by simp); have z1 : w7.frozen? ⟨w.heap.size + 1 + 1 + 1, 1, none⟩ = false := BS.out.froz 1 (by simp); have s2 : w7.cell? ⟨w.heap.size + 1 + 1 + 1, 2, none⟩ = some (.string ⟨#[]⟩) := BS.out.cell 2 (by simp); have z2 : w7.frozen? ⟨w.heap.size + 1 + 1 + 1, 2, none⟩ = false := BS.out.froz 2 (by simp); have s3 : w7.cell? ⟨w.heap.size + 1 + 1 + 1, 3, none⟩ = some (.int .i64 0) := BS.out.cell 3 (by simp); have z3 : w7.frozen? ⟨w.heap.size + 1 + 1 + 1, 3, none⟩ = false := BS.out.froz 3 (by simp); have s4 : w7.cell? ⟨w.heap.size + 1 + 1 + 1, 4, none⟩ = some (.int .i64 0) := BS.out.cell 4 (by simp); have z4 : w7.frozen? ⟨w.heap.size + 1 + 1 + 1, 4, none⟩ = false := BS.out.froz 4 (by simp); have o0 : w7.cell? ⟨w1.heap.size, 0, none⟩ = some (.string ⟨kd.toArray⟩) := BQQ.out.cell 0 (by simp); have o1 : w7.cell? ⟨w1.heap.size, 1, none⟩ = some (.bool on) := BQQ.out.cell 1 (by simp); have o2 : w7.cell? ⟨w1.heap.size, 2, none⟩ = some (.bool br) := BQQ.out.cell 2 (by simp); have o3 : w7.cell? ⟨w1.heap.size, 3, none⟩ = some (.slice ca l.length cc) := BQQ.out.cell 3 (by simp); have o4 : w7.cell? ⟨w1.heap.size, 4, none⟩ = some (.int .i64 cnt) := BQQ.out.cell 4 (by simp); have q0 : w7.cell? ⟨w.heap.size + 1, 0, none⟩ = some (.string ⟨m.toArray⟩) := BQ.out.cell 0 (by simp); have q1 : w7.cell? ⟨w.heap.size + 1, 1, none⟩ = some (.string ⟨k.toArray⟩) := BQ.out.cell 1 (by simp); have q2 : w7.cell? ⟨w.heap.size + 1, 2, none⟩ = some (.int .i64 n) := BQ.out.cell 2 (by simp); have q3 : w7.cell? ⟨w.heap.size + 1, 3, none⟩ = some (.string ⟨t.toArray⟩) := BQ.out.cell 3 (by simp); have L2 : w.heap.size + 1 + 1 < w7.heap.size := BR.out.lt; have L3 : w.heap.size + 1 + 1 + 1 < w7.heap.size := BS.out.lt; have L4 : w1.heap.size < w7.heap.size := BQQ.out.lt; clear hb
        refine hK.out _ _ ?_ (fun hHeld => ?_)
        · exact ⟨o0, o1, o2, o3, o4, q0, q1, q2, q3⟩
        clear hK K
        try simp only [Act.put, List.getElem_toArray, List.getElem_cons_zero, List.getElem_cons_succ, List.setIfInBounds_toArray, List.set_cons_zero, List.set_cons_succ]
        refine wpAnyH_take (i := 5) (v := ?_) rfl (by kernel_rfl) (by kernel_rfl) (by kernel_rfl) (fun _ _ _ h => h) (Or.inl ⟨by rfl, ?_⟩) (by assumption) ?_
        rotate_left
        · intro w hSw; (try dsimp only at hSw); go_simp; with_reducible rfl
        try simp only [Act.put, List.getElem_toArray, List.getElem_cons_zero, List.getElem_cons_succ, List.setIfInBounds_toArray, List.set_cons_zero, List.set_cons_succ]
        refine wpAnyH_take (i := 6) (v := ?_) rfl (by kernel_rfl) (by kernel_rfl) (by kernel_rfl) (fun _ _ _ h => h) (Or.inl ⟨by rfl, ?_⟩) (by assumption) ?_
        rotate_left
        · intro w hSw; (try dsimp only at hSw); go_simp; with_reducible rfl
        try simp only [Act.put, List.getElem_toArray, List.getElem_cons_zero, List.getElem_cons_succ, List.setIfInBounds_toArray, List.set_cons_zero, List.set_cons_succ]
        refine wpAnyH_ready (rs := [7]) (by kernel_rfl) (by simp) ?_
        refine AllReadyH.cons rfl (fun K hK => ?_) AllReadyH.nil
        go_simp
        refine hK.out _ _ ?_ (fun hHeld => ?_)
        · exact ⟨cP5 (by omega) o0, cP5 (by omega) o1, cP5 (by omega) o2, cP5 (by omega) o3, cP5 (by omega) o4, cP5 (by omega) q0, cP5 (by omega) q1, cP5 (by omega) q2, cP5 (by omega) q3⟩
        clear hK K
        try simp only [Act.put, List.getElem_toArray, List.getElem_cons_zero, List.getElem_cons_succ, List.setIfInBounds_toArray, List.set_cons_zero, List.set_cons_succ]
        refine wpAnyH_ready (rs := [8]) (by kernel_rfl) (by simp) ?_
        refine AllReadyH.cons rfl (fun K hK => ?_) AllReadyH.nil
        go_simp
        refine hK.out _ _ ?_ (fun hHeld => ?_)
        · exact ⟨cP5 (by omega) (cP5 (by omega) o0), cP5 (by omega) (cP5 (by omega) o1), cP5 (by omega) (cP5 (by omega) o2), cP5 (by omega) (cP5 (by omega) o3), cP5 (by omega) (cP5 (by omega) o4), cP5 (by omega) (cP5 (by omega) q0), cP5 (by omega) (cP5 (by omega) q1), cP5 (by omega) (cP5 (by omega) q2), cP5 (by omega) (cP5 (by omega) q3)⟩
        clear hK K
        try simp only [Act.put, List.getElem_toArray, List.getElem_cons_zero, List.getElem_cons_succ, List.setIfInBounds_toArray, List.set_cons_zero, List.set_cons_succ]
        refine wpAnyH_done (by kernel_rfl) ?_ _
        go_wp2_with fail
        refine bodyPost_ret (v := .tuple #[.agg #[.string ⟨kd1.toArray⟩, .bool on1, .bool br1, .slice ua l1.length uc, .int .i64 cnt1], .agg #[.int .i64 g0, .int .i64 g1, .string ⟨g2.toArray⟩, .int .i64 g3, .int .i64 g4]]) (by simp [results, Tryz.results18, go_sem, cell_set_at, cell_set_ne, r0, r1, r2, r3, r4, s0, s1, s2, s3, s4]) rfl ?_
        rw [HE.out]
        refine ⟨_, rfl, ?_, belP5 (belP5 HB.out _ (by omega) _ _ _ _ _) _ (by omega) _ _ _ _ _⟩
        have HUO : OwnsF cCell 36 2 w7 (w.heap.size + 1 + 1 + 1 + 1) (.slice ua l1.length uc) l1 := by
          rcases HU.out with ⟨h1, h2⟩ | h
          · (try simp only at h1 h2); rw [h1, h2]; exact HO.out
          · exact ownsF_base h (by simp; omega)
        exact ownsF_base (B := w.heap.size + 1 + 1 + 1 + 1) (flat_p5 _ (flat_p5 _ HUO _ (by omega) _ _ _ _ _) _ (by omega) _ _ _ _ _) (by omega)
end Go.Proofs.YtghebbndfpbkcaaGreat
/- Valid cores have few cells, and short keys. -/
namespace Go.Proofs.YtghebbndfpbkcaaGreat
set_option linter.unusedVariables false
open Go.RowKit
theorem core_len {d : CoreD} (h : coreB d = true) : d.fCells.length ≤ 4 := by
  have := ((coreB_iff d).1 h).2.1
  simp only [cellsB, Bool.and_eq_true, decide_eq_true_eq] at this
  exact this.1
theorem core_keys {d : CoreD} (h : coreB d = true) : ∀ c ∈ d.fCells, c.fKey.length ≤ 8 := by
  have hc := ((coreB_iff d).1 h).2.1
  simp only [cellsB, Bool.and_eq_true, decide_eq_true_eq] at hc
  intro c hm
  obtain ⟨i, hi, rfl⟩ := List.mem_iff_getElem.1 hm
  have := okTo_at d.fCells _ i hc.2 hi
  simp only [okAt, Bool.and_eq_true] at this
  rw [getD_at d.fCells i hi] at this
  exact nameB_len8 this.1.1
theorem core_kind_len {d : CoreD} (h : coreB d = true) : d.fKind.length ≤ 8 := by
  obtain ⟨j, hj, e, _⟩ := coreB_kind h
  rw [e]
  rcases (show j = 0 ∨ j = 1 ∨ j = 2 ∨ j = 3 ∨ j = 4 ∨ j = 5 ∨ j = 6 ∨ j = 7 by omega) with rfl | rfl | rfl | rfl | rfl | rfl | rfl | rfl <;> decide
theorem core_cnt {d : CoreD} (h : coreB d = true) : 0 ≤ d.fCount ∧ d.fCount ≤ 999 := by
  have := ((coreB_iff d).1 h).2.2.2.2.1
  simpa only [numB, Bool.and_eq_true, decide_eq_true_eq] using this
end Go.Proofs.YtghebbndfpbkcaaGreat
/- What calls do to a core, plain: Put and Get, Save and Load, a core that breaks; a list of calls. -/
namespace Go.Proofs.YtghebbndfpbkcaaGreat
set_option linter.unusedVariables false
set_option linter.unusedSimpArgs false
open Go.RowKit
theorem fnd_put_same (l : List CellD) (k : List UInt8) (v : Int) : fnd (putC l k v) k = true ∧ valAt (putC l k v) k = v := by
  induction l with
  | nil => unfold putC fnd valAt; simp [key_irr]
  | cons c r ih =>
    unfold putC
    by_cases h1 : c.fKey < k
    · rw [if_pos h1]; unfold fnd valAt; rw [if_pos h1, if_pos h1]; exact ih
    · rw [if_neg h1]
      by_cases h2 : c.fKey = k
      · rw [if_pos h2]; unfold fnd valAt; simp [key_irr]
      · rw [if_neg h2]; unfold fnd valAt; simp [key_irr]
theorem fnd_put_ne (l : List CellD) (k c : List UInt8) (v : Int) (hc : c ≠ k) : fnd (putC l k v) c = fnd l c ∧ (fnd l c = true → valAt (putC l k v) c = valAt l c) := by
  induction l with
  | nil =>
    unfold putC fnd valAt
    by_cases h : k < c
    · rw [if_pos h, if_pos h]; exact ⟨rfl, fun _ => rfl⟩
    · rw [if_neg h, if_neg h]; exact ⟨by simpa using fun e => hc e.symm, fun h => absurd h (by simp [fnd])⟩
  | cons a r ih =>
    unfold putC
    by_cases h1 : a.fKey < k
    · rw [if_pos h1]; unfold fnd valAt
      by_cases h2 : a.fKey < c
      · rw [if_pos h2, if_pos h2, if_pos h2, if_pos h2]; exact ih
      · rw [if_neg h2, if_neg h2, if_neg h2, if_neg h2]; exact ⟨rfl, fun _ => rfl⟩
    · rw [if_neg h1]
      by_cases h2 : a.fKey = k
      · rw [if_pos h2]; unfold fnd valAt; rw [h2]
        by_cases h3 : k < c
        · simp only [if_pos h3]; exact ⟨trivial, fun _ => trivial⟩
        · simp only [if_neg h3]
          have : ¬ k = c := fun e => hc e.symm
          simp [this]
      · rw [if_neg h2]
        have hka := key_tri h1 h2
        by_cases h3 : k < c
        · have e1 : fnd (⟨k, v⟩ :: a :: r) c = fnd (a :: r) c := by rw [fnd]; rw [if_pos h3]
          have e2 : valAt (⟨k, v⟩ :: a :: r) c = valAt (a :: r) c := by rw [valAt]; rw [if_pos h3]
          exact ⟨e1, fun _ => e2⟩
        · have hck := key_tri h3 (fun e => hc e.symm)
          have h4 : ¬ a.fKey < c := fun e => key_irr _ (key_trans (key_trans hck hka) e)
          have h5 : a.fKey ≠ c := fun e => h3 (by rw [← e]; exact hka)
          have e1 : fnd (⟨k, v⟩ :: a :: r) c = false := by rw [fnd]; rw [if_neg h3]; simpa using fun e => hc e.symm
          have e2 : fnd (a :: r) c = false := by rw [fnd]; rw [if_neg h4]; simpa using h5
          rw [e1, e2]; exact ⟨rfl, fun h => by cases h⟩
def getX (k : List UInt8) : CallD := ⟨mGet, k, 0, []⟩
def putX (x : CallD) : CallD := ⟨mPut, x.fKey, x.fValue, x.fText⟩
theorem getX_ok {k : List UInt8} (h : nameB k = true) : callB (getX k) = true := by
  have h1 : takesK mGet = true := by decide
  have h2 : takesV mGet = false := by decide
  have h3 : (wantF mGet != 0) = true := by decide
  unfold callB getX; simp only [h, h1, h2, h3]; rfl
theorem getX_no {k : List UInt8} (h : nameB k = false) : callB (getX k) = false := by
  have h1 : takesK mGet = true := by decide
  have h2 : takesV mGet = false := by decide
  have h3 : (wantF mGet != 0) = true := by decide
  unfold callB getX; simp only [h, h1, h2, h3]; rfl
/-- what is put, if it is put -/
theorem put_did {p : CoreD} {x : CallD} (hm : x.fMethod = mPut) (h : (doD p x).2.fCode = 0) : coreB p = true ∧ callB x = true ∧ offersF (coreF p) 2 = true ∧ idleI p = 0 ∧
    doD p x = ({ p with fCells := putC p.fCells x.fKey x.fValue, fCount := upI p.fCount }, rV (putC p.fCells x.fKey x.fValue).length) := by
  have hw : wantF x.fMethod = 2 := by rw [hm]; rfl
  cases h1 : coreB p with
  | false => rw [doD_bad (Or.inl h1)] at h; simp [rC] at h
  | true =>
    cases h2 : callB x with
    | false => rw [doD_bad (Or.inr h2)] at h; simp [rC] at h
    | true =>
      cases h3 : offersF (coreF p) (wantF x.fMethod) with
      | false => rw [doD_fail h1 h2 h3] at h; simp at h
      | true =>
        have e := doD_good h1 h2 h3
        rw [mthD_Put hm] at e
        rw [e] at h ⊢
        rw [hw] at h3
        unfold putD at h ⊢
        by_cases hi : idleI p = 0
        · rw [if_pos hi] at h ⊢
          split at h
          · rename_i h5
            rw [if_pos h5]; exact ⟨rfl, rfl, h3, hi, rfl⟩
          · simp [rC] at h
        · rw [if_neg hi] at h
          exact absurd h hi
theorem putX_vals {p : CoreD} {x : CallD} (h : (doD p (putX x)).2.fCode = 0) : (doD p (putX x)).2.fValue = ((doD p (putX x)).1.fCells.length : Int) := by
  obtain ⟨_, _, _, _, e⟩ := put_did (x := putX x) rfl h
  rw [e]; rfl
theorem put_get {p : CoreD} {x : CallD} (h : (doD p (putX x)).2.fCode = 0) : (doD (doD p (putX x)).1 (getX x.fKey)).2 = rV x.fValue := by
  obtain ⟨h1, h2, h3, h4, e⟩ := put_did (x := putX x) rfl h
  have hn : nameB x.fKey = true := (callB_put h2 rfl).1
  have hq : coreB (doD p (putX x)).1 = true := doD_core _ h1
  have hf : coreF (doD p (putX x)).1 = coreF p := by unfold coreF; rw [doD_kind]
  rw [doD_good hq (getX_ok hn) (by rw [hf]; exact h3), mthD_Get rfl]
  have hi : idleI (doD p (putX x)).1 = 0 := by rw [e]; exact h4
  unfold getD1
  rw [if_pos hi, e]
  have := fnd_put_same p.fCells x.fKey x.fValue
  show (if fnd (putC p.fCells x.fKey x.fValue) x.fKey = true then _ else _ : CoreD × ReplyD).2 = _
  rw [if_pos this.1]
  show rV (valAt (putC p.fCells x.fKey x.fValue) x.fKey) = _
  rw [this.2]
theorem put_other {p : CoreD} {x : CallD} (h : (doD p (putX x)).2.fCode = 0) (k : List UInt8) (hk : k ≠ x.fKey) : (doD p (getX k)).2 = (doD (doD p (putX x)).1 (getX k)).2 := by
  obtain ⟨h1, h2, h3, h4, e⟩ := put_did (x := putX x) rfl h
  have hq : coreB (doD p (putX x)).1 = true := doD_core _ h1
  have hf : coreF (doD p (putX x)).1 = coreF p := by unfold coreF; rw [doD_kind]
  cases hn : nameB k with
  | false => rw [doD_bad (Or.inr (getX_no hn)), doD_bad (Or.inr (getX_no hn))]
  | true =>
    rw [doD_good h1 (getX_ok hn) h3, doD_good hq (getX_ok hn) (by rw [hf]; exact h3), mthD_Get rfl, mthD_Get rfl]
    have hi : idleI (doD p (putX x)).1 = 0 := by rw [e]; exact h4
    unfold getD1
    rw [if_pos hi, if_pos h4, e]
    have := fnd_put_ne p.fCells x.fKey k x.fValue hk
    show (if fnd p.fCells k = true then _ else _ : CoreD × ReplyD).2 = (if fnd (putC p.fCells x.fKey x.fValue) k = true then _ else _ : CoreD × ReplyD).2
    rw [this.1]
    cases hfd : fnd p.fCells k with
    | false => rfl
    | true =>
      rw [if_pos rfl, if_pos rfl]
      show rV (valAt p.fCells k) = rV (valAt (putC p.fCells x.fKey x.fValue) k)
      rw [this.2 hfd]
/-- a list of calls, up to the first assertion that fails -/
def doS : CoreD → List CallD → CoreD × List ReplyD
  | d, [] => (d, [])
  | d, x :: r => if (doD d x).2.fCode = 1 then ((doD d x).1, [(doD d x).2]) else ((doS (doD d x).1 r).1, (doD d x).2 :: (doS (doD d x).1 r).2)
theorem doS_kind (l : List CallD) : ∀ d, (doS d l).1.fKind = d.fKind := by
  induction l with
  | nil => intro d; rfl
  | cons x r ih =>
    intro d; unfold doS
    split
    · exact doD_kind d x
    · exact (ih _).trans (doD_kind d x)
theorem doS_core (l : List CallD) : ∀ d, coreB d = true → coreB (doS d l).1 = true := by
  induction l with
  | nil => intro d h; exact h
  | cons x r ih =>
    intro d h; unfold doS
    split
    · exact doD_core x h
    · exact ih _ (doD_core x h)
def saveX : CallD := ⟨mSave, [], 0, []⟩
def loadX (t : List UInt8) : CallD := ⟨mLoad, [], 0, t⟩
def startX : CallD := ⟨mStart, [], 0, []⟩
theorem saveX_ok : callB saveX = true := by decide
theorem startX_ok : callB startX = true := by decide
theorem loadX_ok (t : List UInt8) : callB (loadX t) = true := by
  unfold callB loadX; simp +decide
/-- what Save answers, and that it changes nothing -/
theorem save_same {p : CoreD} : (doD p saveX).1 = p := by
  unfold doD doV
  repeat' split
  · rw [mthD_Save rfl]; unfold saveD; split <;> rfl
  · rfl
  · rfl
theorem save_did {p : CoreD} (hp : coreB p = true) (h : (doD p saveX).2.fCode = 0) : offersF (coreF p) 16 = true ∧ (doD p saveX).2.fText = fmtC p.fCells := by
  cases h3 : offersF (coreF p) (wantF saveX.fMethod) with
  | false => rw [doD_fail hp saveX_ok h3] at h; simp at h
  | true =>
    refine ⟨h3, ?_⟩
    rw [doD_good hp saveX_ok h3, mthD_Save rfl] at h ⊢
    unfold saveD at h ⊢
    split at h
    · simp [rC] at h
    · rename_i hb
      rw [if_neg hb]; rfl
/-- what Load does with what was saved -/
theorem load_did {p x : CoreD} (hp : coreB p = true) (hx : coreB x = true) (hk : x.fKind = p.fKind) (ho : offersF (coreF p) 16 = true) :
    doD x (loadX (fmtC p.fCells)) = if x.fBroken = true then (x, rC 3) else ({ x with fCells := p.fCells }, rV p.fCells.length) := by
  have hf : coreF x = coreF p := by unfold coreF; rw [hk]
  have hc := ((coreB_iff p).1 hp).2.1
  rw [doD_good hx (loadX_ok _) (by rw [hf]; exact ho), mthD_Load rfl]
  unfold loadD
  split
  · rfl
  · rw [show (loadX (fmtC p.fCells)).fText = fmtC p.fCells from rfl, (prs_fmt hc).1, (prs_fmt hc).2, if_pos rfl]
theorem breaks_start {p : CoreD} (hp : coreB p = true) (h : (doD p startX).2.fCode ≠ 1) : ((doD p startX).2.fCode == 3) = (p.fOn || p.fBroken) ∧ (doD p startX).1.fBroken = ((doD p startX).2.fCode == 3) := by
  cases h3 : offersF (coreF p) (wantF startX.fMethod) with
  | false => rw [doD_fail hp startX_ok h3] at h; simp at h
  | true =>
    rw [doD_good hp startX_ok h3, mthD_Start rfl]
    unfold startD
    cases hb : p.fBroken <;> cases ho : p.fOn <;> simp [rC, hb]
/-- a broken core answers so, until it is healed -/
theorem breaks_then {q : CoreD} {x : CallD} (hq : coreB q = true) (hb : q.fBroken = true) (hx : callB x = true) :
    ((doD q x).1.fBroken != ((doD q x).2.fCode == 0 && x.fMethod == mHeal)) = true ∧
    (((doD q x).2.fCode == 0 && x.fMethod == mHeal) || (x.fMethod == mTell || (doD q x).2.fCode == 1) || ((doD q x).2.fCode == 3 && decide (q = (doD q x).1))) = true := by
  have hi : idleI q = 3 := by unfold idleI; rw [if_pos hb]
  cases h3 : offersF (coreF q) (wantF x.fMethod) with
  | false => rw [doD_fail hq hx h3]; simp [hb]
  | true =>
    rw [doD_good hq hx h3]
    rcases callB_meth hx with ⟨hm, hw⟩ | ⟨hm, hw⟩ | ⟨hm, hw⟩ | ⟨hm, hw⟩ | ⟨hm, hw⟩ | ⟨hm, hw⟩ | ⟨hm, hw⟩ | ⟨hm, hw⟩ | ⟨hm, hw⟩
    · rw [mthD_Start hm]; unfold startD; rw [if_pos hb]; simp [hb, rC]
    · rw [mthD_Stop hm]; unfold stopD; rw [if_pos hb]; simp [hb, rC]
    · rw [mthD_Get hm]; unfold getD1; rw [hi]; simp [hb, rC]
    · rw [mthD_Put hm]; unfold putD; rw [hi]; simp [hb, rC]
    · rw [mthD_Tell hm]; unfold tellD; rw [hm]; simp +decide [hb, rV]
    · rw [mthD_Hear hm]; unfold hearD; rw [if_pos hb]; simp [hb, rC]
    · rw [mthD_Load hm]; unfold loadD; rw [if_pos hb]; simp [hb, rC]
    · rw [mthD_Save hm]; unfold saveD; rw [if_pos hb]; simp [hb, rC]
    · rw [mthD_Heal hm]; unfold healD; rw [hm]; simp [rC]
end Go.Proofs.YtghebbndfpbkcaaGreat
/- A list of calls, plain: what the contracts of a call ask of a core is kept by calls; the list from a place on. -/
namespace Go.Proofs.YtghebbndfpbkcaaGreat
set_option linter.unusedVariables false
open Go.RowKit
/-- what the contracts of a call ask of a core -/
def SmC (d : CoreD) : Prop := d.fCells.length ≤ 2097152 ∧ (∀ c ∈ d.fCells, c.fKey.length ≤ 1048576) ∧ d.fKind.length ≤ 1048576 ∧ -9223372036854775808 ≤ d.fCount
theorem smC_do {d : CoreD} (x : CallD) (h : SmC d) : SmC (doD d x).1 := by
  cases hb : coreB d with
  | false => rw [doD_bad (Or.inl hb)]; exact h
  | true =>
    have hv := doD_core x hb
    exact ⟨Nat.le_trans (core_len hv) (by decide), fun c hc => Nat.le_trans (core_keys hv c hc) (by decide), Nat.le_trans (core_kind_len hv) (by decide), by have := (core_cnt hv).1; omega⟩
theorem smC_doS (l : List CallD) : ∀ d, SmC d → SmC (doS d l).1 := by
  induction l with
  | nil => intro d h; exact h
  | cons x r ih =>
    intro d h; unfold doS
    split
    · exact smC_do x h
    · exact ih _ (smC_do x h)
theorem doS_go {d : CoreD} {x : CallD} {r : List CallD} (h : ¬ (doD d x).2.fCode = 1) : doS d (x :: r) = ((doS (doD d x).1 r).1, (doD d x).2 :: (doS (doD d x).1 r).2) := if_neg h
theorem doS_halt {d : CoreD} {x : CallD} {r : List CallD} (h : (doD d x).2.fCode = 1) : doS d (x :: r) = ((doD d x).1, [(doD d x).2]) := if_pos h
/-- k calls have been done, none of them failed: what is left -/
def LeftS (d : CoreD) (l : List CallD) (k : Nat) (dk : CoreD) (rs : List ReplyD) : Prop := rs.length = k ∧ SmC dk ∧ (doS d l).1 = (doS dk (l.drop k)).1 ∧ (doS d l).2 = rs ++ (doS dk (l.drop k)).2
theorem leftS_0 {d : CoreD} (l : List CallD) (h : SmC d) : LeftS d l 0 d [] := ⟨rfl, h, rfl, rfl⟩
theorem leftS_end {d : CoreD} {l : List CallD} {k : Nat} {dk : CoreD} {rs : List ReplyD} (h : LeftS d l k dk rs) (hk : ¬ k < l.length) : (doS d l).1 = dk ∧ (doS d l).2 = rs := by
  obtain ⟨_, _, h1, h2⟩ := h
  rw [List.drop_of_length_le (by omega)] at h1 h2
  exact ⟨h1, by rw [h2]; simp [doS]⟩
theorem leftS_next {d : CoreD} {l : List CallD} {k : Nat} {dk : CoreD} {rs : List ReplyD} (h : LeftS d l k dk rs) (hk : k < l.length) (hc : ¬ (doD dk l[k]).2.fCode = 1) : LeftS d l (k + 1) (doD dk l[k]).1 (rs ++ [(doD dk l[k]).2]) := by
  obtain ⟨h0, hs, h1, h2⟩ := h
  rw [List.drop_eq_getElem_cons hk] at h1 h2
  rw [doS_go hc] at h1 h2
  exact ⟨by simp [h0], smC_do _ hs, h1, by rw [h2]; simp⟩
theorem leftS_stop {d : CoreD} {l : List CallD} {k : Nat} {dk : CoreD} {rs : List ReplyD} (h : LeftS d l k dk rs) (hk : k < l.length) (hc : (doD dk l[k]).2.fCode = 1) : (doS d l).1 = (doD dk l[k]).1 ∧ (doS d l).2 = rs ++ [(doD dk l[k]).2] := by
  obtain ⟨_, _, h1, h2⟩ := h
  rw [List.drop_eq_getElem_cons hk] at h1 h2
  rw [doS_halt hc] at h1 h2
  exact ⟨h1, h2⟩
theorem doS_len (l : List CallD) : ∀ d, (doS d l).2.length ≤ l.length := by
  induction l with
  | nil => intro d; exact Nat.le_refl _
  | cons x r ih =>
    intro d; unfold doS
    split
    · simp
    · have := ih (doD d x).1; simp; omega
end Go.Proofs.YtghebbndfpbkcaaGreat
/- Arguments opened: structs by value, slices of structs. -/
namespace Go.Proofs.YtghebbndfpbkcaaGreat
set_option linter.unusedVariables false
open Go.ChangeShapes Go.WideShapes Go.ChangeAt Go.RowKit Go.WideMaps Go.WideElems
open Go.Deep
section
variable {H : Type} {enc : TypeId × Value → H} {P : Program} {W : World}
theorem leaf_str {n : Nat} {t : TypeId} {c : Value} {x : DataW H × List MemPlace} (ht : P.underlying t = some .string) (h : DataW.trod enc P W 0 (fun _ => true) true n t [c] = some x) : ∃ l : List UInt8, c = .string ⟨l.toArray⟩ ∧ l.length ≤ maxLen := by
  obtain ⟨s, h1, _, h3⟩ := DataW.trod_string ht h
  injection h1 with h1
  exact ⟨s.data.toList, by rw [h1], by rw [Array.length_toList]; exact h3⟩
theorem leaf_int {n : Nat} {t : TypeId} {c : Value} {x : DataW H × List MemPlace} (ht : P.underlying t = some (.int .i64)) (h : DataW.trod enc P W 0 (fun _ => true) true n t [c] = some x) : ∃ z : Int, c = .int .i64 z ∧ -9223372036854775808 ≤ z ∧ z ≤ 9223372036854775807 := by
  obtain ⟨z, h1, _, h3⟩ := DataW.trod_int ht h
  injection h1 with h1
  exact ⟨z, h1, bounds_i64 h3⟩
theorem leaf_bool {n : Nat} {t : TypeId} {c : Value} {x : DataW H × List MemPlace} (ht : P.underlying t = some .bool) (h : DataW.trod enc P W 0 (fun _ => true) true n t [c] = some x) : ∃ b : Bool, c = .bool b := by
  obtain ⟨b, h1, _⟩ := DataW.trod_bool ht h
  injection h1 with h1
  exact ⟨b, h1⟩
theorem field_at {fs : Array Field} {n : Nat} {cs : List Value} {xs : List (DataW H × List MemPlace)} (hl : xs.length = fs.size)
    (hf : ∀ (i : Nat) (f : Field), fs[i]? = some f → DataW.trod enc P W 0 (fun _ => true) true n f.type ((cs.drop f.offset).take (P.cellsOf f.type)) = xs[i]?) (i : Nat) (f : Field) (h : fs[i]? = some f) :
    ∃ x, DataW.trod enc P W 0 (fun _ => true) true n f.type ((cs.drop f.offset).take (P.cellsOf f.type)) = some x := by
  have hi : i < fs.size := (Array.getElem?_eq_some_iff.1 h).1
  exact ⟨xs[i]'(by omega), by rw [hf i f h, List.getElem?_eq_getElem]⟩
theorem field_one {fs : Array Field} {n : Nat} {cs : List Value} {xs : List (DataW H × List MemPlace)} (hl : xs.length = fs.size)
    (hf : ∀ (i : Nat) (f : Field), fs[i]? = some f → DataW.trod enc P W 0 (fun _ => true) true n f.type ((cs.drop f.offset).take (P.cellsOf f.type)) = xs[i]?) (i : Nat) (f : Field) (T o : Nat) (c : Value) (r : List Value) (h : fs[i]? = some f) (hT : f.type = T) (ho : f.offset = o) (hc : P.cellsOf T = 1) (hd : cs.drop o = c :: r) :
    ∃ x, DataW.trod enc P W 0 (fun _ => true) true n T [c] = some x := by
  obtain ⟨x, hx⟩ := field_at hl hf i f h
  subst hT; subst ho
  rw [hc, hd] at hx
  exact ⟨x, hx⟩
/-- a slice of structs of texts and numbers -/
theorem open_flat {α : Type} [Inhabited α] {f : α → List Value} {k : Nat} {G : α → Prop} (hk : ∀ x, (f x).length = k) (hk0 : 0 < k) {t e : TypeId} {n : Nat} {v : Value} {x : DataW H × List MemPlace} (ht : P.underlying t = some (.slice e)) (hc : P.cellsOf e = k)
    (hel : ∀ n cs x, DataW.trod enc P W 0 (fun _ => true) true n e cs = some x → ∃ d, cs = f d ∧ G d) (h : DataW.trod enc P W 0 (fun _ => true) true n t [v] = some x) :
    ∃ l : List α, FlatAt f k W v l ∧ ∀ d ∈ l, G d := by
  rcases open_slice ht h with ⟨h0, _⟩ | ⟨a, len, cap, m, n', D, Pl, hcs, _, hl, hm, hmm, _, hx⟩
  · injection h0 with h0
    subst h0
    exact ⟨[], ⟨none, 0, rfl, by simp, Nat.zero_le _, Or.inl rfl⟩, by simp⟩
  · injection hcs with hcs
    subst hcs
    simp only [if_true] at hmm
    subst hmm
    obtain ⟨F, hF⟩ := choose_lt (α := α) (p := fun i d => (∀ j, j < k → W.cell? ((a.add (i * k)).add j) = (f d)[j]?) ∧ G d) (n := m) (fun i hi => by
      obtain ⟨cs', h1, h2⟩ := hx i hi
      obtain ⟨d, rfl, hg⟩ := hel _ _ _ h2
      rw [hc] at h1
      obtain ⟨_, _, h3⟩ := World.cells?_some h1
      exact ⟨d, h3, hg⟩)
    refine ⟨(List.range len).map F, ?_, ?_⟩
    · obtain ⟨ab, ao, spot⟩ := a
      refine ⟨some ⟨ab, ao, spot⟩, m - len, by simp; omega, by rw [flat_len f k hk, List.length_map], by simp; omega, ?_⟩
      rcases Nat.eq_zero_or_pos len with h0 | hpos
      · left; simp [h0]
      · right
        have g0 := (hF 0 (by omega)).1 0 hk0
        have hlen0 : 0 < (f (F 0)).length := by rw [hk]; exact hk0
        rw [List.getElem?_eq_getElem hlen0] at g0
        have hspot : spot = none := by
          have := World.cell?_spot g0
          simpa [Addr.add] using this
        subst hspot
        have hlt : ab < W.heap.size := by
          simp only [Addr.add_lit, Nat.zero_mul, Nat.add_zero] at g0
          exact World.block_lt_of_cell? W _ g0
        refine ⟨ab, ao, rfl, hlt, fun i hi => ?_⟩
        rw [List.length_map, List.length_range] at hi
        have hq : i / k < len := Nat.div_lt_of_lt_mul (by rw [Nat.mul_comm]; exact hi)
        have hr : i % k < k := Nat.mod_lt _ hk0
        have h1 := (hF (i / k) (by omega)).1 (i % k) hr
        rw [Addr.add_lit, Addr.add_lit] at h1
        have e1 : i / k * k + i % k = i := by rw [Nat.mul_comm]; exact Nat.div_add_mod i k
        rw [show ao + i / k * k + i % k = ao + i by omega] at h1
        rw [h1, ← e1, flat_get f k hk _ (i / k) (by simpa using hq) (i % k) hr]
        simp [e1]
    · intro d hd
      obtain ⟨i, hi, rfl⟩ := List.mem_map.1 hd
      exact (hF i (by have := List.mem_range.1 hi; omega)).2
theorem two_of {α : Type} {l : List α} (h : l.length = 2) : ∃ a b, l = [a, b] := by match l, h with | [a, b], _ => exact ⟨a, b, rfl⟩
theorem three_of {α : Type} {l : List α} (h : l.length = 3) : ∃ a b c, l = [a, b, c] := by match l, h with | [a, b, c], _ => exact ⟨a, b, c, rfl⟩
theorem four_of {α : Type} {l : List α} (h : l.length = 4) : ∃ a b c d, l = [a, b, c, d] := by match l, h with | [a, b, c, d], _ => exact ⟨a, b, c, d, rfl⟩
theorem five_of {α : Type} {l : List α} (h : l.length = 5) : ∃ a b c d e, l = [a, b, c, d, e] := by match l, h with | [a, b, c, d, e], _ => exact ⟨a, b, c, d, e, rfl⟩
end
section
variable {H : Type} {enc : TypeId × Value → H} {W : World}
set_option maxRecDepth 100000 in
theorem open_Cell {n : Nat} {cs : List Value} {x : DataW H × List MemPlace} (h : DataW.trod enc Tryz.prog W 0 (fun _ => true) true n 114 cs = some x) : ∃ d : CellD, cs = cCell d ∧ okCell d := by
  obtain ⟨xs, m, rfl, _, hl, hn, hf⟩ := DataW.trod_struct Tryz.underlying114 h
  rw [show Tryz.prog.cellsOf 114 = 2 by kernel_rfl] at hl
  obtain ⟨c0, c1, rfl⟩ := two_of hl
  obtain ⟨y0, k0⟩ := field_one hn hf 0 _ 9 0 _ _ rfl rfl rfl (by kernel_rfl) rfl
  obtain ⟨y1, k1⟩ := field_one hn hf 1 _ 3 1 _ _ rfl rfl rfl (by kernel_rfl) rfl
  obtain ⟨l0, rfl, b0⟩ := leaf_str Tryz.underlying9 k0
  obtain ⟨l1, rfl, b1⟩ := leaf_int Tryz.underlying3 k1
  exact ⟨⟨l0, l1⟩, rfl, b0, b1⟩
set_option maxRecDepth 100000 in
theorem openS_Cell {n : Nat} {v : Value} {x : DataW H × List MemPlace} (h : DataW.trod enc Tryz.prog W 0 (fun _ => true) true n 46 [v] = some x) : ∃ l : List CellD, FlatAt cCell 2 W v l ∧ ∀ d ∈ l, okCell d :=
  haveI : Inhabited CellD := ⟨⟨[], 0⟩⟩
  open_flat cCell_len (by decide) Tryz.underlying46 (by kernel_rfl) (fun _ _ _ h => open_Cell h) h
set_option maxRecDepth 100000 in
theorem argS_Cell {base : Nat} {v : Value} {d : DataW H} {p : List MemPlace} (hval : Value.okWide Tryz.prog W .any base 46 v) (h : DataW.Trod enc Tryz.prog W 0 (fun _ => true) true 46 v d p) : ∃ l : List CellD, FlatAt cCell 2 W v l ∧ ∀ d ∈ l, okCell d := by
  obtain ⟨a1, len, cap, rfl⟩ := okWide_slice Tryz.underlying46 hval
  obtain ⟨fuel, hf⟩ := h
  exact openS_Cell hf
end
end Go.Proofs.YtghebbndfpbkcaaGreat
/- Arguments opened: cores. -/
namespace Go.Proofs.YtghebbndfpbkcaaGreat
set_option linter.unusedVariables false
open Go.ChangeShapes Go.WideShapes Go.ChangeAt Go.RowKit Go.WideMaps Go.WideElems
open Go.Deep
section
variable {H : Type} {enc : TypeId × Value → H} {W : World}
set_option maxRecDepth 100000 in
theorem open_Core {n : Nat} {cs : List Value} {x : DataW H × List MemPlace} (h : DataW.trod enc Tryz.prog W 0 (fun _ => true) true n 48 cs = some x) :
    ∃ (d : CoreD) (cv : Value), cs = [.string ⟨d.fKind.toArray⟩, .bool d.fOn, .bool d.fBroken, cv, .int .i64 d.fCount] ∧ FlatAt cCell 2 W cv d.fCells ∧ okCore d := by
  obtain ⟨xs, m, rfl, _, hl, hn, hf⟩ := DataW.trod_struct Tryz.underlying48 h
  rw [show Tryz.prog.cellsOf 48 = 5 by kernel_rfl] at hl
  obtain ⟨c0, c1, c2, c3, c4, rfl⟩ := five_of hl
  obtain ⟨y0, k0⟩ := field_one hn hf 0 _ 9 0 _ _ rfl rfl rfl (by kernel_rfl) rfl
  obtain ⟨y1, k1⟩ := field_one hn hf 1 _ 4 1 _ _ rfl rfl rfl (by kernel_rfl) rfl
  obtain ⟨y2, k2⟩ := field_one hn hf 2 _ 4 2 _ _ rfl rfl rfl (by kernel_rfl) rfl
  obtain ⟨y3, k3⟩ := field_one hn hf 3 _ 46 3 _ _ rfl rfl rfl (by kernel_rfl) rfl
  obtain ⟨y4, k4⟩ := field_one hn hf 4 _ 3 4 _ _ rfl rfl rfl (by kernel_rfl) rfl
  obtain ⟨l0, rfl, b0⟩ := leaf_str Tryz.underlying9 k0
  obtain ⟨l1, rfl⟩ := leaf_bool Tryz.underlying4 k1
  obtain ⟨l2, rfl⟩ := leaf_bool Tryz.underlying4 k2
  obtain ⟨l3, b3, e3⟩ := openS_Cell k3
  obtain ⟨l4, rfl, b4⟩ := leaf_int Tryz.underlying3 k4
  exact ⟨⟨l0, l1, l2, l3, l4⟩, c3, rfl, b3, b0, e3, b4⟩
set_option maxRecDepth 100000 in
theorem arg_Core {base : Nat} {v : Value} {d : DataW H} {p : List MemPlace} (hval : Value.okWide Tryz.prog W .any base 48 v) (h : DataW.Trod enc Tryz.prog W 0 (fun _ => true) true 48 v d p) : ∃ d : CoreD, CoreAt W v d ∧ okCore d := by
  obtain ⟨cs, rfl, _⟩ := okWide_struct Tryz.underlying48 hval
  obtain ⟨fuel, hf⟩ := h
  obtain ⟨d, cv, h1, h2, h3⟩ := open_Core hf
  refine ⟨d, ⟨cv, ?_, h2⟩, h3⟩
  simp only [Value.cells] at h1
  unfold vCore
  congr 1
  exact Array.toList_inj.1 h1
end
end Go.Proofs.YtghebbndfpbkcaaGreat
/- Layer: what the laws' own helpers do with it. Written by gen/flat.py. -/
namespace Go.Proofs.YtghebbndfpbkcaaGreat
set_option linter.unusedVariables false
open Go.RowKit
structure LayerD where
  fName : List UInt8
  fCount : Int
deriving DecidableEq
def okLayer (d : LayerD) : Prop := (d.fName.length ≤ maxLen) ∧ (-9223372036854775808 ≤ d.fCount ∧ d.fCount ≤ 9223372036854775807)
def vLayer (d : LayerD) : Value := .agg #[.string ⟨d.fName.toArray⟩, .int .i64 d.fCount]
def cLayer (d : LayerD) : List Value := [.string ⟨d.fName.toArray⟩, .int .i64 d.fCount]
theorem cLayer_len (d : LayerD) : (cLayer d).length = 2 := rfl
theorem cLayer_one (d : LayerD) : ∀ u ∈ cLayer d, u.oneCell' = true := by intro u hu; simp only [cLayer, List.mem_cons, List.not_mem_nil, or_false] at hu; rcases hu with rfl | rfl <;> rfl
def zLayer (d : LayerD) : Nat := d.fName.length
def marksLayer (k : Int) (n : Nat) : List LayerD := (List.range n).map fun i : Nat => ⟨markL (k + i * 2), k + i * 2 + 1⟩
theorem marksLayer_len (k : Int) (n : Nat) : (marksLayer k n).length = n := by simp [marksLayer]
theorem marksLayer_get (k : Int) (n i : Nat) (h : i < n) : (marksLayer k n)[i]'(by rw [marksLayer_len]; exact h) = ⟨markL (k + i * 2), k + i * 2 + 1⟩ := by simp [marksLayer]
end Go.Proofs.YtghebbndfpbkcaaGreat
/- Arguments opened: flat structs. Written by gen/openflat.py. -/
namespace Go.Proofs.YtghebbndfpbkcaaGreat
set_option linter.unusedVariables false
open Go.ChangeShapes Go.WideShapes Go.ChangeAt Go.RowKit Go.WideMaps Go.WideElems
open Go.Deep
section
variable {H : Type} {enc : TypeId × Value → H} {W : World}
end
end Go.Proofs.YtghebbndfpbkcaaGreat
/- Version: what the laws' own helpers do with it. Written by gen/flat.py. -/
namespace Go.Proofs.YtghebbndfpbkcaaGreat
set_option linter.unusedVariables false
open Go.RowKit
structure VersionD where
  fMajor : Int
  fMinor : Int
deriving DecidableEq
def okVersion (d : VersionD) : Prop := (-9223372036854775808 ≤ d.fMajor ∧ d.fMajor ≤ 9223372036854775807) ∧ (-9223372036854775808 ≤ d.fMinor ∧ d.fMinor ≤ 9223372036854775807)
def vVersion (d : VersionD) : Value := .agg #[.int .i64 d.fMajor, .int .i64 d.fMinor]
def cVersion (d : VersionD) : List Value := [.int .i64 d.fMajor, .int .i64 d.fMinor]
theorem cVersion_len (d : VersionD) : (cVersion d).length = 2 := rfl
theorem cVersion_one (d : VersionD) : ∀ u ∈ cVersion d, u.oneCell' = true := by intro u hu; simp only [cVersion, List.mem_cons, List.not_mem_nil, or_false] at hu; rcases hu with rfl | rfl <;> rfl
def zVersion (d : VersionD) : Nat := 0
def marksVersion (k : Int) (n : Nat) : List VersionD := (List.range n).map fun i : Nat => ⟨k + i * 2, k + i * 2 + 1⟩
theorem marksVersion_len (k : Int) (n : Nat) : (marksVersion k n).length = n := by simp [marksVersion]
theorem marksVersion_get (k : Int) (n i : Nat) (h : i < n) : (marksVersion k n)[i]'(by rw [marksVersion_len]; exact h) = ⟨k + i * 2, k + i * 2 + 1⟩ := by simp [marksVersion]
end Go.Proofs.YtghebbndfpbkcaaGreat
/- Arguments opened: flat structs. Written by gen/openflat.py. -/
namespace Go.Proofs.YtghebbndfpbkcaaGreat
set_option linter.unusedVariables false
open Go.ChangeShapes Go.WideShapes Go.ChangeAt Go.RowKit Go.WideMaps Go.WideElems
open Go.Deep
section
variable {H : Type} {enc : TypeId × Value → H} {W : World}
set_option maxRecDepth 100000 in
theorem open_Call {n : Nat} {cs : List Value} {x : DataW H × List MemPlace} (h : DataW.trod enc Tryz.prog W 0 (fun _ => true) true n 49 cs = some x) : ∃ d : CallD, cs = cCall d ∧ okCall d := by
  obtain ⟨xs, m, rfl, _, hl, hn, hf⟩ := DataW.trod_struct Tryz.underlying49 h
  rw [show Tryz.prog.cellsOf 49 = 4 by kernel_rfl] at hl
  obtain ⟨c0, c1, c2, c3, rfl⟩ := four_of hl
  obtain ⟨y0, k0⟩ := field_one hn hf 0 _ 9 0 _ _ rfl rfl rfl (by kernel_rfl) rfl
  obtain ⟨y1, k1⟩ := field_one hn hf 1 _ 9 1 _ _ rfl rfl rfl (by kernel_rfl) rfl
  obtain ⟨y2, k2⟩ := field_one hn hf 2 _ 3 2 _ _ rfl rfl rfl (by kernel_rfl) rfl
  obtain ⟨y3, k3⟩ := field_one hn hf 3 _ 9 3 _ _ rfl rfl rfl (by kernel_rfl) rfl
  obtain ⟨l0, rfl, b0⟩ := leaf_str Tryz.underlying9 k0
  obtain ⟨l1, rfl, b1⟩ := leaf_str Tryz.underlying9 k1
  obtain ⟨l2, rfl, b2⟩ := leaf_int Tryz.underlying3 k2
  obtain ⟨l3, rfl, b3⟩ := leaf_str Tryz.underlying9 k3
  exact ⟨⟨l0, l1, l2, l3⟩, rfl, b0, b1, b2, b3⟩
set_option maxRecDepth 100000 in
theorem arg_Call {base : Nat} {v : Value} {d : DataW H} {p : List MemPlace} (hval : Value.okWide Tryz.prog W .any base 49 v) (h : DataW.Trod enc Tryz.prog W 0 (fun _ => true) true 49 v d p) : ∃ d : CallD, v = vCall d ∧ okCall d := by
  obtain ⟨cs, rfl, _⟩ := okWide_struct Tryz.underlying49 hval
  obtain ⟨fuel, hf⟩ := h
  obtain ⟨d, h1, h2⟩ := open_Call hf
  refine ⟨d, ?_, h2⟩
  simp only [Value.cells] at h1
  unfold vCall
  congr 1
  exact Array.toList_inj.1 h1
set_option maxRecDepth 100000 in
theorem openS_Call {n : Nat} {v : Value} {x : DataW H × List MemPlace} (h : DataW.trod enc Tryz.prog W 0 (fun _ => true) true n 57 [v] = some x) : ∃ l : List CallD, FlatAt cCall 4 W v l ∧ ∀ d ∈ l, okCall d :=
  haveI : Inhabited CallD := ⟨⟨[], [], 0, []⟩⟩
  open_flat cCall_len (by decide) Tryz.underlying57 (by kernel_rfl) (fun _ _ _ h => open_Call h) h
set_option maxRecDepth 100000 in
theorem argS_Call {base : Nat} {v : Value} {d : DataW H} {p : List MemPlace} (hval : Value.okWide Tryz.prog W .any base 57 v) (h : DataW.Trod enc Tryz.prog W 0 (fun _ => true) true 57 v d p) : ∃ l : List CallD, FlatAt cCall 4 W v l ∧ ∀ d ∈ l, okCall d := by
  obtain ⟨a1, len, cap, rfl⟩ := okWide_slice Tryz.underlying57 hval
  obtain ⟨fuel, hf⟩ := h
  exact openS_Call hf
end
end Go.Proofs.YtghebbndfpbkcaaGreat
namespace Go.Proofs.YtghebbndfpbkcaaGreat
set_option linter.unusedVariables false
open Go.RowKit
set_option maxRecDepth 100000 in
set_option maxHeartbeats 1600000 in
theorem eqCore_b (v u : Value) (x y : CoreD) (q : Bool) (hq : decide (x = y) = q) (w : World) (hx : CoreAt w v x) (hy : CoreAt w u y) :
    Calls Tryz.prog 21 #[v, u] w fun e w' => e = .returned (.bool q) ∧ Below w.heap.size w w' := by
  obtain ⟨cv, rfl, hx⟩ := hx
  obtain ⟨cu, rfl, hy⟩ := hy
  have hex := coreD_ext x y
  obtain ⟨a0, a1, a2, a3, a4⟩ := x
  obtain ⟨b0, b1, b2, b3, b4⟩ := y
  unfold vCore
  simp only at *
  have B2 := Lib.hid (show ∀ o1 o2, Below w.heap.size w ((w.alloc o1).alloc o2) from fun o1 o2 => ((Below.refl _ _).alloc (Nat.le_refl _) _).alloc (by simp) _)
  have HX := Lib.hid hx
  have HY := Lib.hid hy
  have HN := Lib.hid (show ¬ (a0 = b0 ∧ a1 = b1 ∧ a2 = b2 ∧ a3 = b3 ∧ a4 = b4) → false = q from fun h => by rw [← hq]; symm; rw [decide_eq_false_iff_not, hex]; exact h)
  have HQ := Lib.hid (show (a0 = b0 ∧ a1 = b1 ∧ a2 = b2 ∧ a3 = b3 ∧ a4 = b4) → true = q from fun h => by rw [← hq]; symm; rw [decide_eq_true_iff, hex]; exact h)
  have HC := Lib.hid (fun o1 o2 => eqCellS_any cv cu a3 b3 ((w.alloc o1).alloc o2) (HX.out.below (B2.out o1 o2) (Nat.le_refl _)) (HY.out.below (B2.out o1 o2) (Nat.le_refl _)))
  clear hx hy hq hex
  by_cases h0 : a0 = b0
  case neg =>
    have HF := Lib.hid (HN.out fun e => h0 e.1)
    have hne : (a0 == b0) = false := by simpa using h0
    have hnf : (a0 != b0) = true := by simpa using h0
    clear h0
    go_enter Tryz.func21, Tryz.ntmps21
    go_wp2_with fail
    go_ret
    exact ⟨ret_bool HF.out, B2.out _ _⟩
  case pos =>
    by_cases h1 : a1 = b1
    case neg =>
      have HF := Lib.hid (HN.out fun e => h1 e.2.1)
      subst h0
      cases a1 <;> cases b1
      all_goals first
        | exact absurd rfl h1
        | (clear h1
           go_enter Tryz.func21, Tryz.ntmps21
           go_wp2_with fail
           go_ret
           exact ⟨ret_bool HF.out, B2.out _ _⟩)
    case pos =>
      by_cases h2 : a2 = b2
      case neg =>
        have HF := Lib.hid (HN.out fun e => h2 e.2.2.1)
        subst h0 h1
        cases a1 <;> cases a2 <;> cases b2
        all_goals first
          | exact absurd rfl h2
          | (clear h2
             go_enter Tryz.func21, Tryz.ntmps21
             go_wp2_with fail
             go_ret
             exact ⟨ret_bool HF.out, B2.out _ _⟩)
      case pos =>
        subst h0 h1 h2
        cases hd : decide (a3 = b3)
        case false =>
          have HF := Lib.hid (HN.out fun e => by rw [decide_eq_false_iff_not] at hd; exact hd e.2.2.2.1)
          rw [hd] at HC
          clear hd
          cases a1 <;> cases a2
          all_goals
            go_enter Tryz.func21, Tryz.ntmps21
            go_wp2_with fail
            refine (HC.out _ _).mono ?_
            rintro e w1 ⟨rfl, hb⟩
            have HB := Lib.hid ((B2.out _ _).trans (hb.mono (B2.out _ _).size))
            clear hb
            go_wp2_with fail
            go_ret
            exact ⟨ret_bool HF.out, HB.out⟩
        case true =>
          rw [hd] at HC
          by_cases h4 : a4 = b4
          case neg =>
            have HF := Lib.hid (HN.out fun e => h4 e.2.2.2.2)
            have hne : (a4 == b4) = false := by simpa using h4
            have hnf : (a4 != b4) = true := by simpa using h4
            clear hd h4
            cases a1 <;> cases a2
            all_goals
              go_enter Tryz.func21, Tryz.ntmps21
              go_wp2_with fail
              refine (HC.out _ _).mono ?_
              rintro e w1 ⟨rfl, hb⟩
              have HB := Lib.hid ((B2.out _ _).trans (hb.mono (B2.out _ _).size))
              obtain ⟨hcc, hff⟩ := bcell hb
              clear hb
              go_wp2_with fail
              go_ret
              exact ⟨ret_bool HF.out, HB.out⟩
          case pos =>
            have HF := Lib.hid (HQ.out ⟨rfl, rfl, rfl, by rw [decide_eq_true_iff] at hd; exact hd, h4⟩)
            subst h4
            clear hd
            cases a1 <;> cases a2
            all_goals
              go_enter Tryz.func21, Tryz.ntmps21
              go_wp2_with fail
              refine (HC.out _ _).mono ?_
              rintro e w1 ⟨rfl, hb⟩
              have HB := Lib.hid ((B2.out _ _).trans (hb.mono (B2.out _ _).size))
              obtain ⟨hcc, hff⟩ := bcell hb
              clear hb
              go_wp2_with fail
              go_ret
              exact ⟨ret_bool HF.out, HB.out⟩
theorem eqCore_any (v u : Value) (x y : CoreD) (w : World) (hx : CoreAt w v x) (hy : CoreAt w u y) :
    Calls Tryz.prog 21 #[v, u] w fun e w' => e = .returned (.bool (decide (x = y))) ∧ Below w.heap.size w w' := eqCore_b v u x y _ rfl w hx hy
end Go.Proofs.YtghebbndfpbkcaaGreat
