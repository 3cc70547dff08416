/- the model's l4Copy, of a part without layers -/
import Derived.Test.YtlkpinlkbikokaaWrapLawM2
import Derived.Test.YtlkpinlkbikokaaWrapLawM3
import Derived.Deep.RegionLaw
/- the model's l4Copy -/
namespace Go.Proofs.Ytlkpinlkbikokaa
set_option linter.unusedVariables false
set_option linter.unusedSimpArgs false
open Go.RowKit
theorem Below.gr {B : Nat} {a w w' : World} {r : Option Nat} (h : Below B a w) (hg : w.grownBy w' r) (hB : B ≤ w.heap.size) (hr : ∀ g, r = some g → B ≤ g) : Below B a w' := h.grown hg hB hr
/-- two variables, and what lies below is as it was -/
structure Cop (w : World) (cs zs : List Value) (w' : World) : Prop where
  b : Below w.heap.size w w'
  p : Bx w' w.heap.size cs
  r : Bx w' (w.heap.size + 1) zs
theorem Cop.below {w w1 w2 : World} {cs zs : List Value} (h : Cop w cs zs w1) (hb : Below w1.heap.size w1 w2) : Cop w cs zs w2 := ⟨belS h.b hb, h.p.below hb, h.r.below hb⟩
theorem Cop.alloc {w w1 : World} {cs zs : List Value} (h : Cop w cs zs w1) (o : Obj) : Cop w cs zs (w1.alloc o) := h.below (bx_box w1 o)
theorem Cop.drw {w w1 : World} {cs zs : List Value} (h : Cop w cs zs w1) : Cop w cs zs w1.drew := ⟨⟨h.b.os, h.b.tape, h.b.output, h.b.size, h.b.block⟩, h.p.dr, h.r.dr⟩
theorem Cop.grown {w w1 w2 : World} {cs zs : List Value} {r : Option Nat} (h : Cop w cs zs w1) (hg : w1.grownBy w2 r) (hr : ∀ g, r = some g → w.heap.size + 1 < g) : Cop w cs zs w2 :=
  ⟨h.b.grown hg h.b.size (fun g e => by have := hr g e; omega), h.p.grown hg (fun e => by have := hr _ e; omega), h.r.grown hg (fun e => by have := hr _ e; omega)⟩
def CopS (w : World) (c0 c1 c2 c3 c4 c5 : Value) (zs : List Value) (w' : World) : Prop :=
  w'.cell? ⟨w.heap.size, 0, none⟩ = some c0 ∧ w'.cell? ⟨w.heap.size, 1, none⟩ = some c1 ∧ w'.cell? ⟨w.heap.size, 2, none⟩ = some c2 ∧ w'.cell? ⟨w.heap.size, 3, none⟩ = some c3 ∧ w'.cell? ⟨w.heap.size, 4, none⟩ = some c4 ∧ w'.cell? ⟨w.heap.size, 5, none⟩ = some c5 ∧ Cop w [c0, c1, c2, c3, c4, c5] zs w'
theorem copS_of {w w' : World} {c0 c1 c2 c3 c4 c5 : Value} {zs : List Value} (h : Cop w [c0, c1, c2, c3, c4, c5] zs w') : w'.cell? ⟨w.heap.size, 0, none⟩ = some c0 ∧ w'.cell? ⟨w.heap.size, 1, none⟩ = some c1 ∧ w'.cell? ⟨w.heap.size, 2, none⟩ = some c2 ∧ w'.cell? ⟨w.heap.size, 3, none⟩ = some c3 ∧ w'.cell? ⟨w.heap.size, 4, none⟩ = some c4 ∧ w'.cell? ⟨w.heap.size, 5, none⟩ = some c5 ∧ Cop w [c0, c1, c2, c3, c4, c5] zs w' :=
  ⟨h.p.cell 0 (by simp), h.p.cell 1 (by simp), h.p.cell 2 (by simp), h.p.cell 3 (by simp), h.p.cell 4 (by simp), h.p.cell 5 (by simp), h⟩
/-- append of a slice of layers to a row of one's own, at a step of a region that draws -/
theorem step_laysN {ops : Array Oper} {o : Oper} {a : Act} {K : Act → World → Prop} {Q : Exit → Act → World → Prop} {E : Prop} (hgd : o.guard = none) (s x : Operand)
    (ho : o.op = .call { callee := .builtin .append, args := #[s, x], argTypes := #[32, 32] }) (B : Nat) (v : Value) (y : List LayerD) (w : World) (ad : Option Addr) (c : Nat)
    (hs : a.eval s = v) (hO : OwnsF cLayer 80 2 w B v []) (hx : a.eval x = .slice ad y.length c) (hy : SliceAt (rFlat cLayer) 2 0 w (.slice ad y.length c) y) (hl : 0 < y.length) (hm : y.length ≤ 2097152) (hB : B ≤ w.heap.size)
    (h : ∀ v' w', OwnsF cLayer 80 2 w' B v' y → w.grownBy w' v.ownBlock → K (a.put o.dst v') w') : if Region.wanted o (yielded ops a.tmps) = true then Oper.wp Try.prog o a w K Q else E := by
  obtain ⟨i0, hi, hz0, hz1, hz2⟩ := info_parts infoLay
  obtain ⟨a', c', e, hlen, hml, hy⟩ := flatAt_of_slice cLayer_len (by decide) hy
  injection e with e1 e2 e3
  subst e1
  rcases hy with hy | ⟨b, o', rfl, hlt, hy⟩
  · omega
  · refine step_append_lies w hgd s x 32 ho B 80 i0 _ 2 24 Try.underlying32 hi hz0 hz1 hz2 rfl (by decide) v 0 [] hs (by simpa [OwnsF] using hO) ⟨b, o', none⟩ y.length c (y.flatMap cLayer) hx hlen ?_ ?_ hl (by unfold maxLen; omega) (by omega) hB _ rfl ?_
    · intro j u hj
      have hj2 : j < y.length * 2 := by rw [← hlen]; exact (List.getElem?_eq_some_iff.1 hj).1
      rw [Addr.add_lit, hy j hj2]; exact hj
    · intro u hu
      obtain ⟨d, _, hd⟩ := List.mem_flatMap.1 hu
      exact cLayer_one d u hd
    · intro g cap w' h1 h2 _ _
      refine h _ w' ?_ h2
      unfold OwnsF
      simpa using h1
theorem l4_end {w w4 : World} {kd : List UInt8} {on br : Bool} {cl : List CellD} {cnt : Int} {l : List LayerD} {ga ua : Option Addr} {gc uc : Nat} {cs : List Value} {c0 c1 c2 c3 c4 c5 : Value} (h : Cop w cs [c0, c1, c2, c3, c4, c5] w4)
    (hc : OwnsF cCell 146 2 w4 (w.heap.size + 1 + 1) (.slice ga cl.length gc) cl) (hl : OwnsF cLayer 80 2 w4 (w.heap.size + 1 + 1) (.slice ua l.length uc) l) (hmc : cl.length ≤ 2097152) (hm : l.length ≤ 2097152) :
    Bx ((((((w4.setCell ⟨w.heap.size + 1, 0, none⟩ (.string ⟨kd.toArray⟩)).setCell ⟨w.heap.size + 1, 1, none⟩ (.bool on)).setCell ⟨w.heap.size + 1, 2, none⟩ (.bool br)).setCell ⟨w.heap.size + 1, 3, none⟩ (.slice ga cl.length gc)).setCell ⟨w.heap.size + 1, 4, none⟩ (.int .i64 cnt)).setCell ⟨w.heap.size + 1, 5, none⟩ (.slice ua l.length uc)) (w.heap.size + 1) [.string ⟨kd.toArray⟩, .bool on, .bool br, .slice ga cl.length gc, .int .i64 cnt, .slice ua l.length uc] ∧
    oPart ((((((w4.setCell ⟨w.heap.size + 1, 0, none⟩ (.string ⟨kd.toArray⟩)).setCell ⟨w.heap.size + 1, 1, none⟩ (.bool on)).setCell ⟨w.heap.size + 1, 2, none⟩ (.bool br)).setCell ⟨w.heap.size + 1, 3, none⟩ (.slice ga cl.length gc)).setCell ⟨w.heap.size + 1, 4, none⟩ (.int .i64 cnt)).setCell ⟨w.heap.size + 1, 5, none⟩ (.slice ua l.length uc)) w.heap.size [.string ⟨kd.toArray⟩, .bool on, .bool br, .slice ga cl.length gc, .int .i64 cnt, .slice ua l.length uc] ⟨⟨kd, on, br, cl, cnt⟩, l⟩ ∧
    Below w.heap.size w ((((((w4.setCell ⟨w.heap.size + 1, 0, none⟩ (.string ⟨kd.toArray⟩)).setCell ⟨w.heap.size + 1, 1, none⟩ (.bool on)).setCell ⟨w.heap.size + 1, 2, none⟩ (.bool br)).setCell ⟨w.heap.size + 1, 3, none⟩ (.slice ga cl.length gc)).setCell ⟨w.heap.size + 1, 4, none⟩ (.int .i64 cnt)).setCell ⟨w.heap.size + 1, 5, none⟩ (.slice ua l.length uc)) := by
  refine ⟨h.r.put6 _ _ _ _ _ _, ⟨_, _, rfl, ?_, ?_⟩, below_put6 h.b (w.heap.size + 1) (by omega) _ _ _ _ _ _⟩
  · exact ownsF_base (ownsF_put6 hc (w.heap.size + 1) (by omega) _ _ _ _ _ _) (by omega)
  · exact ownsF_base (ownsF_put6 hl (w.heap.size + 1) (by omega) _ _ _ _ _ _) (by omega)
theorem l4_end0 {w w4 : World} {kd : List UInt8} {on br : Bool} {cl : List CellD} {cnt : Int} {ga ua : Option Addr} {gc : Nat} {cs : List Value} {c0 c1 c2 c3 c4 c5 : Value} (h : Cop w cs [c0, c1, c2, c3, c4, c5] w4)
    (hc : OwnsF cCell 146 2 w4 (w.heap.size + 1 + 1) (.slice ga cl.length gc) cl) (hl : OwnsF cLayer 80 2 w4 (w.heap.size + 1 + 1) (.slice ua 0 0) []) (hmc : cl.length ≤ 2097152) :
    Bx ((((((w4.setCell ⟨w.heap.size + 1, 0, none⟩ (.string ⟨kd.toArray⟩)).setCell ⟨w.heap.size + 1, 1, none⟩ (.bool on)).setCell ⟨w.heap.size + 1, 2, none⟩ (.bool br)).setCell ⟨w.heap.size + 1, 3, none⟩ (.slice ga cl.length gc)).setCell ⟨w.heap.size + 1, 4, none⟩ (.int .i64 cnt)).setCell ⟨w.heap.size + 1, 5, none⟩ (.slice ua 0 0)) (w.heap.size + 1) [.string ⟨kd.toArray⟩, .bool on, .bool br, .slice ga cl.length gc, .int .i64 cnt, .slice ua 0 0] ∧
    oPart ((((((w4.setCell ⟨w.heap.size + 1, 0, none⟩ (.string ⟨kd.toArray⟩)).setCell ⟨w.heap.size + 1, 1, none⟩ (.bool on)).setCell ⟨w.heap.size + 1, 2, none⟩ (.bool br)).setCell ⟨w.heap.size + 1, 3, none⟩ (.slice ga cl.length gc)).setCell ⟨w.heap.size + 1, 4, none⟩ (.int .i64 cnt)).setCell ⟨w.heap.size + 1, 5, none⟩ (.slice ua 0 0)) w.heap.size [.string ⟨kd.toArray⟩, .bool on, .bool br, .slice ga cl.length gc, .int .i64 cnt, .slice ua 0 0] ⟨⟨kd, on, br, cl, cnt⟩, []⟩ ∧
    Below w.heap.size w ((((((w4.setCell ⟨w.heap.size + 1, 0, none⟩ (.string ⟨kd.toArray⟩)).setCell ⟨w.heap.size + 1, 1, none⟩ (.bool on)).setCell ⟨w.heap.size + 1, 2, none⟩ (.bool br)).setCell ⟨w.heap.size + 1, 3, none⟩ (.slice ga cl.length gc)).setCell ⟨w.heap.size + 1, 4, none⟩ (.int .i64 cnt)).setCell ⟨w.heap.size + 1, 5, none⟩ (.slice ua 0 0)) := by
  refine ⟨h.r.put6 _ _ _ _ _ _, ⟨_, _, rfl, ?_, ?_⟩, below_put6 h.b (w.heap.size + 1) (by omega) _ _ _ _ _ _⟩
  · exact ownsF_base (ownsF_put6 hc (w.heap.size + 1) (by omega) _ _ _ _ _ _) (by omega)
  · exact ownsF_base (ownsF_put6 hl (w.heap.size + 1) (by omega) _ _ _ _ _ _) (by omega)
/-- the empty row made at the end -/
theorem l4_end1 {w w4 : World} {kd : List UInt8} {on br : Bool} {cl : List CellD} {cnt : Int} {ga : Option Addr} {gc : Nat} {cs : List Value} {c0 c1 c2 c3 c4 c5 : Value} (h : Cop w cs [c0, c1, c2, c3, c4, c5] w4)
    (hc : OwnsF cCell 146 2 w4 (w.heap.size + 1 + 1) (.slice ga cl.length gc) cl) (hmc : cl.length ≤ 2097152) :
    Bx ((((((w4.setCell ⟨w.heap.size + 1, 0, none⟩ (.string ⟨kd.toArray⟩)).setCell ⟨w.heap.size + 1, 1, none⟩ (.bool on)).setCell ⟨w.heap.size + 1, 2, none⟩ (.bool br)).setCell ⟨w.heap.size + 1, 3, none⟩ (.slice ga cl.length gc)).setCell ⟨w.heap.size + 1, 4, none⟩ (.int .i64 cnt)).setCell ⟨w.heap.size + 1, 5, none⟩ (.slice (some ⟨w4.heap.size, 0, none⟩) 0 0)) (w.heap.size + 1) [.string ⟨kd.toArray⟩, .bool on, .bool br, .slice ga cl.length gc, .int .i64 cnt, .slice (some ⟨w4.heap.size, 0, none⟩) 0 0] ∧
    oPart (((((((w4.setCell ⟨w.heap.size + 1, 0, none⟩ (.string ⟨kd.toArray⟩)).setCell ⟨w.heap.size + 1, 1, none⟩ (.bool on)).setCell ⟨w.heap.size + 1, 2, none⟩ (.bool br)).setCell ⟨w.heap.size + 1, 3, none⟩ (.slice ga cl.length gc)).setCell ⟨w.heap.size + 1, 4, none⟩ (.int .i64 cnt)).setCell ⟨w.heap.size + 1, 5, none⟩ (.slice (some ⟨w4.heap.size, 0, none⟩) 0 0)).alloc (.cells #[] 80)) w.heap.size [.string ⟨kd.toArray⟩, .bool on, .bool br, .slice ga cl.length gc, .int .i64 cnt, .slice (some ⟨w4.heap.size, 0, none⟩) 0 0] ⟨⟨kd, on, br, cl, cnt⟩, []⟩ ∧
    Below w.heap.size w ((((((w4.setCell ⟨w.heap.size + 1, 0, none⟩ (.string ⟨kd.toArray⟩)).setCell ⟨w.heap.size + 1, 1, none⟩ (.bool on)).setCell ⟨w.heap.size + 1, 2, none⟩ (.bool br)).setCell ⟨w.heap.size + 1, 3, none⟩ (.slice ga cl.length gc)).setCell ⟨w.heap.size + 1, 4, none⟩ (.int .i64 cnt)).setCell ⟨w.heap.size + 1, 5, none⟩ (.slice (some ⟨w4.heap.size, 0, none⟩) 0 0)) := by
  have hz : ((((((w4.setCell ⟨w.heap.size + 1, 0, none⟩ (.string ⟨kd.toArray⟩)).setCell ⟨w.heap.size + 1, 1, none⟩ (.bool on)).setCell ⟨w.heap.size + 1, 2, none⟩ (.bool br)).setCell ⟨w.heap.size + 1, 3, none⟩ (.slice ga cl.length gc)).setCell ⟨w.heap.size + 1, 4, none⟩ (.int .i64 cnt)).setCell ⟨w.heap.size + 1, 5, none⟩ (.slice (some ⟨w4.heap.size, 0, none⟩) 0 0)).heap.size = w4.heap.size := by simp
  have hn := ownsF_new cLayer 80 2 ((((((w4.setCell ⟨w.heap.size + 1, 0, none⟩ (.string ⟨kd.toArray⟩)).setCell ⟨w.heap.size + 1, 1, none⟩ (.bool on)).setCell ⟨w.heap.size + 1, 2, none⟩ (.bool br)).setCell ⟨w.heap.size + 1, 3, none⟩ (.slice ga cl.length gc)).setCell ⟨w.heap.size + 1, 4, none⟩ (.int .i64 cnt)).setCell ⟨w.heap.size + 1, 5, none⟩ (.slice (some ⟨w4.heap.size, 0, none⟩) 0 0))
  rw [hz] at hn
  refine ⟨h.r.put6 _ _ _ _ _ _, ⟨_, _, rfl, ?_, ?_⟩, below_put6 h.b (w.heap.size + 1) (by omega) _ _ _ _ _ _⟩
  · exact ownsF_alloc (ownsF_base (ownsF_put6 hc (w.heap.size + 1) (by omega) _ _ _ _ _ _) (by omega)) _
  · exact ownsF_base hn (by have := h.b.size; omega)
set_option maxRecDepth 100000 in
set_option maxHeartbeats 3200000 in
theorem l4Copy_cons (v : Value) (x : PartD) (w : World) (hx : ValAt rPart 0 w v x) (hs : SmallP x) (h0 : ¬ x.fLayers.length = 0) :
    Calls Try.prog 36 #[v] w fun e w' => GivesOP x w e w' := by
  obtain ⟨_, rfl, hx⟩ := hx
  obtain ⟨xc, l⟩ := x
  obtain ⟨v3, v5, rfl, h3, h5⟩ := hx
  have HCC := Lib.hid (fun W (hb : Below w.heap.size w W) => l3Copy_any (vCore xc v3) xc W ⟨v3, rfl, FlatAt.below (flatAt_of_slice cCell_len (by decide) h3) hb (Nat.le_refl _)⟩ hs.cells)
  unfold GivesCore OwnsCore at HCC
  have hm := hs.lays
  have hmc := hs.cells
  simp only at h3 h5 hm h0
  obtain ⟨ra, rc, rfl, _⟩ := sliceAt_len h3
  obtain ⟨sa, sc, rfl, hl⟩ := sliceAt_len h5
  have H5 := Lib.hid h5
  obtain ⟨kd, on, br, cl, cnt⟩ := xc
  unfold vCore at HCC
  simp only at HCC h3 hmc ⊢
  clear h3 h5 hs
  unfold maxLen at hl
  have BS := Lib.hid (bx_start2 w [.string ⟨kd.toArray⟩, .bool on, .bool br, .slice ra cl.length rc, .int .i64 cnt, .slice sa l.length sc] [.string ⟨#[]⟩, .bool false, .bool false, .slice none 0 0, .int .i64 0, .slice none 0 0] 34 34)
  have CS := Lib.hid (Cop.drw ⟨BS.out.2.2, BS.out.1, BS.out.2.1⟩)
  go_enter Try.func36, Try.ntmps36
  go_wp2_with fail
  have hl0 : 0 < l.length := by omega
  have HO0 := Lib.hid (show ∀ o1 o2, OwnsF cLayer 80 2 (((w.alloc o1).alloc o2).drew.alloc (.cells #[] 80)) (w.heap.size + 1 + 1) (.slice (some ⟨w.heap.size + 1 + 1, 0, none⟩) 0 0) [] from fun o1 o2 => by have h := ownsF_new cLayer 80 2 ((w.alloc o1).alloc o2).drew; simpa using h)
  have q0 := CS.out.p.cell 0 (by simp)
  have q1 := CS.out.p.cell 1 (by simp)
  have q2 := CS.out.p.cell 2 (by simp)
  have q3 := CS.out.p.cell 3 (by simp)
  have q4 := CS.out.p.cell 4 (by simp)
  have q5 := CS.out.p.cell 5 (by simp)
  simp only [List.getElem_cons_zero, List.getElem_cons_succ] at q0 q1 q2 q3 q4 q5
  refine wp_region_any (by kernel_rfl) ?_
  change wpAny _ _ _ _ _ _ _ (World.drew _)
  refine wpAny_take (i := 0) (v := ?_) rfl (by kernel_rfl) (by kernel_rfl) (by kernel_rfl) (fun _ _ _ h => h) (Or.inl ⟨by rfl, ?_⟩) ?_
  rotate_left
  · intro w; go_simp; try (with_reducible rfl)
  refine wpAny_take (i := 4) (v := ?_) rfl (by kernel_rfl) (by kernel_rfl) (by kernel_rfl) (fun _ _ _ h => h) (Or.inl ⟨by rfl, ?_⟩) ?_
  rotate_left
  · intro w; go_simp; try (with_reducible rfl)
  -- GENERATED by gen/ch4cp.py
  refine wpAny_ready (rs := [1, 3, 5]) (by kernel_rfl) (by simp) ?_
  refine AllReady.cons rfl (fun K hK => ?_) ?_
  · go_simp
    refine hK _ _ ?_
    clear hK K
    refine wpAny_ready (rs := [2, 3, 5]) (by kernel_rfl) (by simp) ?_
    refine AllReady.cons rfl (fun K hK => ?_) ?_
    · go_simp
      refine (HCC.out _ CS.out.b).mono ?_
      rintro e w2 ⟨_, rfl, ⟨cv, rfl, ho5⟩, hb5⟩
      obtain ⟨ga, gc, rfl⟩ := slice_of ho5
      have HC5 := Lib.hid (CS.out.below hb5)
      have lp := HC5.out.p.lt
      have lr := HC5.out.r.lt
      have np : ¬ w.heap.size = w2.heap.size := by omega
      have nr : ¬ w.heap.size + 1 = w2.heap.size := by omega
      have q0 := HC5.out.p.cell 0 (by simp)
      have q1 := HC5.out.p.cell 1 (by simp)
      have q2 := HC5.out.p.cell 2 (by simp)
      have q3 := HC5.out.p.cell 3 (by simp)
      have q4 := HC5.out.p.cell 4 (by simp)
      have q5 := HC5.out.p.cell 5 (by simp)
      have r0 := HC5.out.r.cell 0 (by simp)
      have z0 := HC5.out.r.froz 0 (by simp)
      have r1 := HC5.out.r.cell 1 (by simp)
      have z1 := HC5.out.r.froz 1 (by simp)
      have r2 := HC5.out.r.cell 2 (by simp)
      have z2 := HC5.out.r.froz 2 (by simp)
      have r3 := HC5.out.r.cell 3 (by simp)
      have z3 := HC5.out.r.froz 3 (by simp)
      have r4 := HC5.out.r.cell 4 (by simp)
      have z4 := HC5.out.r.froz 4 (by simp)
      have r5 := HC5.out.r.cell 5 (by simp)
      have z5 := HC5.out.r.froz 5 (by simp)
      simp only [List.getElem_cons_zero, List.getElem_cons_succ] at q0 q1 q2 q3 q4 q5 r0 r1 r2 r3 r4 r5
      refine hK _ _ ?_
      clear hK K
      refine wpAny_ready (rs := [3, 5]) (by kernel_rfl) (by simp) ?_
      refine AllReady.cons rfl (fun K hK => ?_) ?_
      · go_simp
        refine hK _ _ ?_
        clear hK K
        refine wpAny_ready (rs := [5]) (by kernel_rfl) (by simp) ?_
        refine AllReady.cons rfl (fun K hK => ?_) ?_
        · go_simp
          refine hK _ _ ?_
          clear hK K
          refine wpAny_ready (rs := [6]) (by kernel_rfl) (by simp) ?_
          refine AllReady.cons rfl (fun K hK => ?_) ?_
          · have P1 := ownsF_base (B' := w.heap.size + 1 + 1) (ownsF_new cLayer 80 2 w2) HC5.out.r.lt
            have P2 := HC5.out.alloc (.cells #[] 80)
            have P3 := SliceAt.below H5.out (good_flat cLayer_len) P2.b (Nat.le_refl _)
            have P4 := P2.r.lt
            refine step_laysN rfl _ _ rfl (w.heap.size + 1 + 1) _ l _ sa sc ?_ P1 ?_ P3 hl0 hm P4 ?_
            · simp [Act.eval, Act.put]
            · simp [Act.eval, Act.put]
            intro v4 w4 hO4 hg4
            obtain ⟨ua, uc, rfl⟩ := slice_of hO4
            have HC6 := Lib.hid (P2.grown hg4 (fun g hg => (World.ownsRow.lt P1 g hg).1))
            have lp := HC6.out.p.lt
            have lr := HC6.out.r.lt
            have np : ¬ w.heap.size = w4.heap.size := by omega
            have nr : ¬ w.heap.size + 1 = w4.heap.size := by omega
            have q0 := HC6.out.p.cell 0 (by simp)
            have q1 := HC6.out.p.cell 1 (by simp)
            have q2 := HC6.out.p.cell 2 (by simp)
            have q3 := HC6.out.p.cell 3 (by simp)
            have q4 := HC6.out.p.cell 4 (by simp)
            have q5 := HC6.out.p.cell 5 (by simp)
            have r0 := HC6.out.r.cell 0 (by simp)
            have z0 := HC6.out.r.froz 0 (by simp)
            have r1 := HC6.out.r.cell 1 (by simp)
            have z1 := HC6.out.r.froz 1 (by simp)
            have r2 := HC6.out.r.cell 2 (by simp)
            have z2 := HC6.out.r.froz 2 (by simp)
            have r3 := HC6.out.r.cell 3 (by simp)
            have z3 := HC6.out.r.froz 3 (by simp)
            have r4 := HC6.out.r.cell 4 (by simp)
            have z4 := HC6.out.r.froz 4 (by simp)
            have r5 := HC6.out.r.cell 5 (by simp)
            have z5 := HC6.out.r.froz 5 (by simp)
            simp only [List.getElem_cons_zero, List.getElem_cons_succ] at q0 q1 q2 q3 q4 q5 r0 r1 r2 r3 r4 r5
            refine hK _ _ ?_
            clear hK K
            refine wpAny_ready (rs := [7]) (by kernel_rfl) (by simp) ?_
            refine AllReady.cons rfl (fun K hK => ?_) ?_
            · go_simp
              refine hK _ _ ?_
              clear hK K
              refine wpAny_ready (rs := [8]) (by kernel_rfl) (by simp) ?_
              refine AllReady.cons rfl (fun K hK => ?_) ?_
              · go_simp
                refine hK _ _ ?_
                clear hK K
                refine wpAny_done (by kernel_rfl) ?_ _
                have OC0 := ownsF_keptF (ownsF_alloc ho5 _) P1 hg4 (by decide)
                have E6 := l4_end (kd := kd) (on := on) (br := br) (cnt := cnt) HC6.out (ownsF_base OC0 (by have h1 := CS.out.b.size; simp at h1 ⊢; try omega)) hO4 hmc hm
                clear q0 r0 z0 q1 r1 z1 q2 r2 z2 q3 r3 z3 q4 r4 z4 q5 r5 z5
                generalize ((((((w4.setCell ⟨w.heap.size + 1, 0, none⟩ (.string ⟨kd.toArray⟩)).setCell ⟨w.heap.size + 1, 1, none⟩ (.bool on)).setCell ⟨w.heap.size + 1, 2, none⟩ (.bool br)).setCell ⟨w.heap.size + 1, 3, none⟩ (.slice ga cl.length gc)).setCell ⟨w.heap.size + 1, 4, none⟩ (.int .i64 cnt)).setCell ⟨w.heap.size + 1, 5, none⟩ (.slice ua l.length uc)) = WE at *
                go_wp2_with fail
                obtain ⟨BE, RE, HE⟩ := E6
                have e0 := BE.cell 0 (by simp)
                have e1 := BE.cell 1 (by simp)
                have e2 := BE.cell 2 (by simp)
                have e3 := BE.cell 3 (by simp)
                have e4 := BE.cell 4 (by simp)
                have e5 := BE.cell 5 (by simp)
                simp only [List.getElem_cons_zero, List.getElem_cons_succ] at e0 e1 e2 e3 e4 e5
                exact bodyPost_ret (v := .agg #[.string ⟨kd.toArray⟩, .bool on, .bool br, .slice ga cl.length gc, .int .i64 cnt, .slice ua l.length uc]) (by simp [results, Try.results36, go_sem, e0, e1, e2, e3, e4, e5]) rfl ⟨_, rfl, RE, HE⟩
              exact AllReady.nil
            exact AllReady.nil
          exact AllReady.nil
        exact AllReady.nil
      refine AllReady.cons rfl (fun K hK => ?_) ?_
      · go_simp
        refine hK _ _ ?_
        clear hK K
        refine wpAny_ready (rs := [3]) (by kernel_rfl) (by simp) ?_
        refine AllReady.cons rfl (fun K hK => ?_) ?_
        · go_simp
          refine hK _ _ ?_
          clear hK K
          refine wpAny_ready (rs := [6]) (by kernel_rfl) (by simp) ?_
          refine AllReady.cons rfl (fun K hK => ?_) ?_
          · have P1 := ownsF_base (B' := w.heap.size + 1 + 1) (ownsF_new cLayer 80 2 w2) HC5.out.r.lt
            have P2 := HC5.out.alloc (.cells #[] 80)
            have P3 := SliceAt.below H5.out (good_flat cLayer_len) P2.b (Nat.le_refl _)
            have P4 := P2.r.lt
            refine step_laysN rfl _ _ rfl (w.heap.size + 1 + 1) _ l _ sa sc ?_ P1 ?_ P3 hl0 hm P4 ?_
            · simp [Act.eval, Act.put]
            · simp [Act.eval, Act.put]
            intro v4 w4 hO4 hg4
            obtain ⟨ua, uc, rfl⟩ := slice_of hO4
            have HC6 := Lib.hid (P2.grown hg4 (fun g hg => (World.ownsRow.lt P1 g hg).1))
            have lp := HC6.out.p.lt
            have lr := HC6.out.r.lt
            have np : ¬ w.heap.size = w4.heap.size := by omega
            have nr : ¬ w.heap.size + 1 = w4.heap.size := by omega
            have q0 := HC6.out.p.cell 0 (by simp)
            have q1 := HC6.out.p.cell 1 (by simp)
            have q2 := HC6.out.p.cell 2 (by simp)
            have q3 := HC6.out.p.cell 3 (by simp)
            have q4 := HC6.out.p.cell 4 (by simp)
            have q5 := HC6.out.p.cell 5 (by simp)
            have r0 := HC6.out.r.cell 0 (by simp)
            have z0 := HC6.out.r.froz 0 (by simp)
            have r1 := HC6.out.r.cell 1 (by simp)
            have z1 := HC6.out.r.froz 1 (by simp)
            have r2 := HC6.out.r.cell 2 (by simp)
            have z2 := HC6.out.r.froz 2 (by simp)
            have r3 := HC6.out.r.cell 3 (by simp)
            have z3 := HC6.out.r.froz 3 (by simp)
            have r4 := HC6.out.r.cell 4 (by simp)
            have z4 := HC6.out.r.froz 4 (by simp)
            have r5 := HC6.out.r.cell 5 (by simp)
            have z5 := HC6.out.r.froz 5 (by simp)
            simp only [List.getElem_cons_zero, List.getElem_cons_succ] at q0 q1 q2 q3 q4 q5 r0 r1 r2 r3 r4 r5
            refine hK _ _ ?_
            clear hK K
            refine wpAny_ready (rs := [7]) (by kernel_rfl) (by simp) ?_
            refine AllReady.cons rfl (fun K hK => ?_) ?_
            · go_simp
              refine hK _ _ ?_
              clear hK K
              refine wpAny_ready (rs := [8]) (by kernel_rfl) (by simp) ?_
              refine AllReady.cons rfl (fun K hK => ?_) ?_
              · go_simp
                refine hK _ _ ?_
                clear hK K
                refine wpAny_done (by kernel_rfl) ?_ _
                have OC0 := ownsF_keptF (ownsF_alloc ho5 _) P1 hg4 (by decide)
                have E6 := l4_end (kd := kd) (on := on) (br := br) (cnt := cnt) HC6.out (ownsF_base OC0 (by have h1 := CS.out.b.size; simp at h1 ⊢; try omega)) hO4 hmc hm
                clear q0 r0 z0 q1 r1 z1 q2 r2 z2 q3 r3 z3 q4 r4 z4 q5 r5 z5
                generalize ((((((w4.setCell ⟨w.heap.size + 1, 0, none⟩ (.string ⟨kd.toArray⟩)).setCell ⟨w.heap.size + 1, 1, none⟩ (.bool on)).setCell ⟨w.heap.size + 1, 2, none⟩ (.bool br)).setCell ⟨w.heap.size + 1, 3, none⟩ (.slice ga cl.length gc)).setCell ⟨w.heap.size + 1, 4, none⟩ (.int .i64 cnt)).setCell ⟨w.heap.size + 1, 5, none⟩ (.slice ua l.length uc)) = WE at *
                go_wp2_with fail
                obtain ⟨BE, RE, HE⟩ := E6
                have e0 := BE.cell 0 (by simp)
                have e1 := BE.cell 1 (by simp)
                have e2 := BE.cell 2 (by simp)
                have e3 := BE.cell 3 (by simp)
                have e4 := BE.cell 4 (by simp)
                have e5 := BE.cell 5 (by simp)
                simp only [List.getElem_cons_zero, List.getElem_cons_succ] at e0 e1 e2 e3 e4 e5
                exact bodyPost_ret (v := .agg #[.string ⟨kd.toArray⟩, .bool on, .bool br, .slice ga cl.length gc, .int .i64 cnt, .slice ua l.length uc]) (by simp [results, Try.results36, go_sem, e0, e1, e2, e3, e4, e5]) rfl ⟨_, rfl, RE, HE⟩
              exact AllReady.nil
            exact AllReady.nil
          exact AllReady.nil
        exact AllReady.nil
      exact AllReady.nil
    refine AllReady.cons rfl (fun K hK => ?_) ?_
    · go_simp
      refine hK _ _ ?_
      clear hK K
      refine wpAny_ready (rs := [2, 5]) (by kernel_rfl) (by simp) ?_
      refine AllReady.cons rfl (fun K hK => ?_) ?_
      · go_simp
        refine (HCC.out _ (CS.out.alloc _).b).mono ?_
        rintro e w2 ⟨_, rfl, ⟨cv, rfl, ho5⟩, hb5⟩
        obtain ⟨ga, gc, rfl⟩ := slice_of ho5
        have HC5 := Lib.hid ((CS.out.alloc _).below hb5)
        have lp := HC5.out.p.lt
        have lr := HC5.out.r.lt
        have np : ¬ w.heap.size = w2.heap.size := by omega
        have nr : ¬ w.heap.size + 1 = w2.heap.size := by omega
        have q0 := HC5.out.p.cell 0 (by simp)
        have q1 := HC5.out.p.cell 1 (by simp)
        have q2 := HC5.out.p.cell 2 (by simp)
        have q3 := HC5.out.p.cell 3 (by simp)
        have q4 := HC5.out.p.cell 4 (by simp)
        have q5 := HC5.out.p.cell 5 (by simp)
        have r0 := HC5.out.r.cell 0 (by simp)
        have z0 := HC5.out.r.froz 0 (by simp)
        have r1 := HC5.out.r.cell 1 (by simp)
        have z1 := HC5.out.r.froz 1 (by simp)
        have r2 := HC5.out.r.cell 2 (by simp)
        have z2 := HC5.out.r.froz 2 (by simp)
        have r3 := HC5.out.r.cell 3 (by simp)
        have z3 := HC5.out.r.froz 3 (by simp)
        have r4 := HC5.out.r.cell 4 (by simp)
        have z4 := HC5.out.r.froz 4 (by simp)
        have r5 := HC5.out.r.cell 5 (by simp)
        have z5 := HC5.out.r.froz 5 (by simp)
        simp only [List.getElem_cons_zero, List.getElem_cons_succ] at q0 q1 q2 q3 q4 q5 r0 r1 r2 r3 r4 r5
        refine hK _ _ ?_
        clear hK K
        refine wpAny_ready (rs := [5]) (by kernel_rfl) (by simp) ?_
        refine AllReady.cons rfl (fun K hK => ?_) ?_
        · go_simp
          refine hK _ _ ?_
          clear hK K
          refine wpAny_ready (rs := [6]) (by kernel_rfl) (by simp) ?_
          refine AllReady.cons rfl (fun K hK => ?_) ?_
          · have P1 := ownsF_below (HO0.out _ _) hb5 (Nat.le_refl _)
            have P2 := HC5.out
            have P3 := SliceAt.below H5.out (good_flat cLayer_len) P2.b (Nat.le_refl _)
            have P4 := P2.r.lt
            refine step_laysN rfl _ _ rfl (w.heap.size + 1 + 1) _ l _ sa sc ?_ P1 ?_ P3 hl0 hm P4 ?_
            · simp [Act.eval, Act.put]
            · simp [Act.eval, Act.put]
            intro v4 w4 hO4 hg4
            obtain ⟨ua, uc, rfl⟩ := slice_of hO4
            have HC6 := Lib.hid (P2.grown hg4 (fun g hg => (World.ownsRow.lt P1 g hg).1))
            have lp := HC6.out.p.lt
            have lr := HC6.out.r.lt
            have np : ¬ w.heap.size = w4.heap.size := by omega
            have nr : ¬ w.heap.size + 1 = w4.heap.size := by omega
            have q0 := HC6.out.p.cell 0 (by simp)
            have q1 := HC6.out.p.cell 1 (by simp)
            have q2 := HC6.out.p.cell 2 (by simp)
            have q3 := HC6.out.p.cell 3 (by simp)
            have q4 := HC6.out.p.cell 4 (by simp)
            have q5 := HC6.out.p.cell 5 (by simp)
            have r0 := HC6.out.r.cell 0 (by simp)
            have z0 := HC6.out.r.froz 0 (by simp)
            have r1 := HC6.out.r.cell 1 (by simp)
            have z1 := HC6.out.r.froz 1 (by simp)
            have r2 := HC6.out.r.cell 2 (by simp)
            have z2 := HC6.out.r.froz 2 (by simp)
            have r3 := HC6.out.r.cell 3 (by simp)
            have z3 := HC6.out.r.froz 3 (by simp)
            have r4 := HC6.out.r.cell 4 (by simp)
            have z4 := HC6.out.r.froz 4 (by simp)
            have r5 := HC6.out.r.cell 5 (by simp)
            have z5 := HC6.out.r.froz 5 (by simp)
            simp only [List.getElem_cons_zero, List.getElem_cons_succ] at q0 q1 q2 q3 q4 q5 r0 r1 r2 r3 r4 r5
            refine hK _ _ ?_
            clear hK K
            refine wpAny_ready (rs := [7]) (by kernel_rfl) (by simp) ?_
            refine AllReady.cons rfl (fun K hK => ?_) ?_
            · go_simp
              refine hK _ _ ?_
              clear hK K
              refine wpAny_ready (rs := [8]) (by kernel_rfl) (by simp) ?_
              refine AllReady.cons rfl (fun K hK => ?_) ?_
              · go_simp
                refine hK _ _ ?_
                clear hK K
                refine wpAny_done (by kernel_rfl) ?_ _
                have OC0 := ownsF_keptF ho5 P1 hg4 (by decide)
                have E6 := l4_end (kd := kd) (on := on) (br := br) (cnt := cnt) HC6.out (ownsF_base OC0 (by have h1 := CS.out.b.size; simp at h1 ⊢; try omega)) hO4 hmc hm
                clear q0 r0 z0 q1 r1 z1 q2 r2 z2 q3 r3 z3 q4 r4 z4 q5 r5 z5
                generalize ((((((w4.setCell ⟨w.heap.size + 1, 0, none⟩ (.string ⟨kd.toArray⟩)).setCell ⟨w.heap.size + 1, 1, none⟩ (.bool on)).setCell ⟨w.heap.size + 1, 2, none⟩ (.bool br)).setCell ⟨w.heap.size + 1, 3, none⟩ (.slice ga cl.length gc)).setCell ⟨w.heap.size + 1, 4, none⟩ (.int .i64 cnt)).setCell ⟨w.heap.size + 1, 5, none⟩ (.slice ua l.length uc)) = WE at *
                go_wp2_with fail
                obtain ⟨BE, RE, HE⟩ := E6
                have e0 := BE.cell 0 (by simp)
                have e1 := BE.cell 1 (by simp)
                have e2 := BE.cell 2 (by simp)
                have e3 := BE.cell 3 (by simp)
                have e4 := BE.cell 4 (by simp)
                have e5 := BE.cell 5 (by simp)
                simp only [List.getElem_cons_zero, List.getElem_cons_succ] at e0 e1 e2 e3 e4 e5
                exact bodyPost_ret (v := .agg #[.string ⟨kd.toArray⟩, .bool on, .bool br, .slice ga cl.length gc, .int .i64 cnt, .slice ua l.length uc]) (by simp [results, Try.results36, go_sem, e0, e1, e2, e3, e4, e5]) rfl ⟨_, rfl, RE, HE⟩
              exact AllReady.nil
            exact AllReady.nil
          exact AllReady.nil
        exact AllReady.nil
      refine AllReady.cons rfl (fun K hK => ?_) ?_
      · go_simp
        refine hK _ _ ?_
        clear hK K
        refine wpAny_ready (rs := [2]) (by kernel_rfl) (by simp) ?_
        refine AllReady.cons rfl (fun K hK => ?_) ?_
        · go_simp
          refine (HCC.out _ (CS.out.alloc _).b).mono ?_
          rintro e w2 ⟨_, rfl, ⟨cv, rfl, ho5⟩, hb5⟩
          obtain ⟨ga, gc, rfl⟩ := slice_of ho5
          have HC5 := Lib.hid ((CS.out.alloc _).below hb5)
          have lp := HC5.out.p.lt
          have lr := HC5.out.r.lt
          have np : ¬ w.heap.size = w2.heap.size := by omega
          have nr : ¬ w.heap.size + 1 = w2.heap.size := by omega
          have q0 := HC5.out.p.cell 0 (by simp)
          have q1 := HC5.out.p.cell 1 (by simp)
          have q2 := HC5.out.p.cell 2 (by simp)
          have q3 := HC5.out.p.cell 3 (by simp)
          have q4 := HC5.out.p.cell 4 (by simp)
          have q5 := HC5.out.p.cell 5 (by simp)
          have r0 := HC5.out.r.cell 0 (by simp)
          have z0 := HC5.out.r.froz 0 (by simp)
          have r1 := HC5.out.r.cell 1 (by simp)
          have z1 := HC5.out.r.froz 1 (by simp)
          have r2 := HC5.out.r.cell 2 (by simp)
          have z2 := HC5.out.r.froz 2 (by simp)
          have r3 := HC5.out.r.cell 3 (by simp)
          have z3 := HC5.out.r.froz 3 (by simp)
          have r4 := HC5.out.r.cell 4 (by simp)
          have z4 := HC5.out.r.froz 4 (by simp)
          have r5 := HC5.out.r.cell 5 (by simp)
          have z5 := HC5.out.r.froz 5 (by simp)
          simp only [List.getElem_cons_zero, List.getElem_cons_succ] at q0 q1 q2 q3 q4 q5 r0 r1 r2 r3 r4 r5
          refine hK _ _ ?_
          clear hK K
          refine wpAny_ready (rs := [6]) (by kernel_rfl) (by simp) ?_
          refine AllReady.cons rfl (fun K hK => ?_) ?_
          · have P1 := ownsF_below (HO0.out _ _) hb5 (Nat.le_refl _)
            have P2 := HC5.out
            have P3 := SliceAt.below H5.out (good_flat cLayer_len) P2.b (Nat.le_refl _)
            have P4 := P2.r.lt
            refine step_laysN rfl _ _ rfl (w.heap.size + 1 + 1) _ l _ sa sc ?_ P1 ?_ P3 hl0 hm P4 ?_
            · simp [Act.eval, Act.put]
            · simp [Act.eval, Act.put]
            intro v4 w4 hO4 hg4
            obtain ⟨ua, uc, rfl⟩ := slice_of hO4
            have HC6 := Lib.hid (P2.grown hg4 (fun g hg => (World.ownsRow.lt P1 g hg).1))
            have lp := HC6.out.p.lt
            have lr := HC6.out.r.lt
            have np : ¬ w.heap.size = w4.heap.size := by omega
            have nr : ¬ w.heap.size + 1 = w4.heap.size := by omega
            have q0 := HC6.out.p.cell 0 (by simp)
            have q1 := HC6.out.p.cell 1 (by simp)
            have q2 := HC6.out.p.cell 2 (by simp)
            have q3 := HC6.out.p.cell 3 (by simp)
            have q4 := HC6.out.p.cell 4 (by simp)
            have q5 := HC6.out.p.cell 5 (by simp)
            have r0 := HC6.out.r.cell 0 (by simp)
            have z0 := HC6.out.r.froz 0 (by simp)
            have r1 := HC6.out.r.cell 1 (by simp)
            have z1 := HC6.out.r.froz 1 (by simp)
            have r2 := HC6.out.r.cell 2 (by simp)
            have z2 := HC6.out.r.froz 2 (by simp)
            have r3 := HC6.out.r.cell 3 (by simp)
            have z3 := HC6.out.r.froz 3 (by simp)
            have r4 := HC6.out.r.cell 4 (by simp)
            have z4 := HC6.out.r.froz 4 (by simp)
            have r5 := HC6.out.r.cell 5 (by simp)
            have z5 := HC6.out.r.froz 5 (by simp)
            simp only [List.getElem_cons_zero, List.getElem_cons_succ] at q0 q1 q2 q3 q4 q5 r0 r1 r2 r3 r4 r5
            refine hK _ _ ?_
            clear hK K
            refine wpAny_ready (rs := [7]) (by kernel_rfl) (by simp) ?_
            refine AllReady.cons rfl (fun K hK => ?_) ?_
            · go_simp
              refine hK _ _ ?_
              clear hK K
              refine wpAny_ready (rs := [8]) (by kernel_rfl) (by simp) ?_
              refine AllReady.cons rfl (fun K hK => ?_) ?_
              · go_simp
                refine hK _ _ ?_
                clear hK K
                refine wpAny_done (by kernel_rfl) ?_ _
                have OC0 := ownsF_keptF ho5 P1 hg4 (by decide)
                have E6 := l4_end (kd := kd) (on := on) (br := br) (cnt := cnt) HC6.out (ownsF_base OC0 (by have h1 := CS.out.b.size; simp at h1 ⊢; try omega)) hO4 hmc hm
                clear q0 r0 z0 q1 r1 z1 q2 r2 z2 q3 r3 z3 q4 r4 z4 q5 r5 z5
                generalize ((((((w4.setCell ⟨w.heap.size + 1, 0, none⟩ (.string ⟨kd.toArray⟩)).setCell ⟨w.heap.size + 1, 1, none⟩ (.bool on)).setCell ⟨w.heap.size + 1, 2, none⟩ (.bool br)).setCell ⟨w.heap.size + 1, 3, none⟩ (.slice ga cl.length gc)).setCell ⟨w.heap.size + 1, 4, none⟩ (.int .i64 cnt)).setCell ⟨w.heap.size + 1, 5, none⟩ (.slice ua l.length uc)) = WE at *
                go_wp2_with fail
                obtain ⟨BE, RE, HE⟩ := E6
                have e0 := BE.cell 0 (by simp)
                have e1 := BE.cell 1 (by simp)
                have e2 := BE.cell 2 (by simp)
                have e3 := BE.cell 3 (by simp)
                have e4 := BE.cell 4 (by simp)
                have e5 := BE.cell 5 (by simp)
                simp only [List.getElem_cons_zero, List.getElem_cons_succ] at e0 e1 e2 e3 e4 e5
                exact bodyPost_ret (v := .agg #[.string ⟨kd.toArray⟩, .bool on, .bool br, .slice ga cl.length gc, .int .i64 cnt, .slice ua l.length uc]) (by simp [results, Try.results36, go_sem, e0, e1, e2, e3, e4, e5]) rfl ⟨_, rfl, RE, HE⟩
              exact AllReady.nil
            exact AllReady.nil
          exact AllReady.nil
        exact AllReady.nil
      exact AllReady.nil
    refine AllReady.cons rfl (fun K hK => ?_) ?_
    · go_simp
      refine hK _ _ ?_
      clear hK K
      refine wpAny_ready (rs := [2, 3]) (by kernel_rfl) (by simp) ?_
      refine AllReady.cons rfl (fun K hK => ?_) ?_
      · go_simp
        refine (HCC.out _ CS.out.b).mono ?_
        rintro e w2 ⟨_, rfl, ⟨cv, rfl, ho5⟩, hb5⟩
        obtain ⟨ga, gc, rfl⟩ := slice_of ho5
        have HC5 := Lib.hid (CS.out.below hb5)
        have lp := HC5.out.p.lt
        have lr := HC5.out.r.lt
        have np : ¬ w.heap.size = w2.heap.size := by omega
        have nr : ¬ w.heap.size + 1 = w2.heap.size := by omega
        have q0 := HC5.out.p.cell 0 (by simp)
        have q1 := HC5.out.p.cell 1 (by simp)
        have q2 := HC5.out.p.cell 2 (by simp)
        have q3 := HC5.out.p.cell 3 (by simp)
        have q4 := HC5.out.p.cell 4 (by simp)
        have q5 := HC5.out.p.cell 5 (by simp)
        have r0 := HC5.out.r.cell 0 (by simp)
        have z0 := HC5.out.r.froz 0 (by simp)
        have r1 := HC5.out.r.cell 1 (by simp)
        have z1 := HC5.out.r.froz 1 (by simp)
        have r2 := HC5.out.r.cell 2 (by simp)
        have z2 := HC5.out.r.froz 2 (by simp)
        have r3 := HC5.out.r.cell 3 (by simp)
        have z3 := HC5.out.r.froz 3 (by simp)
        have r4 := HC5.out.r.cell 4 (by simp)
        have z4 := HC5.out.r.froz 4 (by simp)
        have r5 := HC5.out.r.cell 5 (by simp)
        have z5 := HC5.out.r.froz 5 (by simp)
        simp only [List.getElem_cons_zero, List.getElem_cons_succ] at q0 q1 q2 q3 q4 q5 r0 r1 r2 r3 r4 r5
        refine hK _ _ ?_
        clear hK K
        refine wpAny_ready (rs := [3]) (by kernel_rfl) (by simp) ?_
        refine AllReady.cons rfl (fun K hK => ?_) ?_
        · go_simp
          refine hK _ _ ?_
          clear hK K
          refine wpAny_ready (rs := [6]) (by kernel_rfl) (by simp) ?_
          refine AllReady.cons rfl (fun K hK => ?_) ?_
          · have P1 := ownsF_base (B' := w.heap.size + 1 + 1) (ownsF_new cLayer 80 2 w2) HC5.out.r.lt
            have P2 := HC5.out.alloc (.cells #[] 80)
            have P3 := SliceAt.below H5.out (good_flat cLayer_len) P2.b (Nat.le_refl _)
            have P4 := P2.r.lt
            refine step_laysN rfl _ _ rfl (w.heap.size + 1 + 1) _ l _ sa sc ?_ P1 ?_ P3 hl0 hm P4 ?_
            · simp [Act.eval, Act.put]
            · simp [Act.eval, Act.put]
            intro v4 w4 hO4 hg4
            obtain ⟨ua, uc, rfl⟩ := slice_of hO4
            have HC6 := Lib.hid (P2.grown hg4 (fun g hg => (World.ownsRow.lt P1 g hg).1))
            have lp := HC6.out.p.lt
            have lr := HC6.out.r.lt
            have np : ¬ w.heap.size = w4.heap.size := by omega
            have nr : ¬ w.heap.size + 1 = w4.heap.size := by omega
            have q0 := HC6.out.p.cell 0 (by simp)
            have q1 := HC6.out.p.cell 1 (by simp)
            have q2 := HC6.out.p.cell 2 (by simp)
            have q3 := HC6.out.p.cell 3 (by simp)
            have q4 := HC6.out.p.cell 4 (by simp)
            have q5 := HC6.out.p.cell 5 (by simp)
            have r0 := HC6.out.r.cell 0 (by simp)
            have z0 := HC6.out.r.froz 0 (by simp)
            have r1 := HC6.out.r.cell 1 (by simp)
            have z1 := HC6.out.r.froz 1 (by simp)
            have r2 := HC6.out.r.cell 2 (by simp)
            have z2 := HC6.out.r.froz 2 (by simp)
            have r3 := HC6.out.r.cell 3 (by simp)
            have z3 := HC6.out.r.froz 3 (by simp)
            have r4 := HC6.out.r.cell 4 (by simp)
            have z4 := HC6.out.r.froz 4 (by simp)
            have r5 := HC6.out.r.cell 5 (by simp)
            have z5 := HC6.out.r.froz 5 (by simp)
            simp only [List.getElem_cons_zero, List.getElem_cons_succ] at q0 q1 q2 q3 q4 q5 r0 r1 r2 r3 r4 r5
            refine hK _ _ ?_
            clear hK K
            refine wpAny_ready (rs := [7]) (by kernel_rfl) (by simp) ?_
            refine AllReady.cons rfl (fun K hK => ?_) ?_
            · go_simp
              refine hK _ _ ?_
              clear hK K
              refine wpAny_ready (rs := [8]) (by kernel_rfl) (by simp) ?_
              refine AllReady.cons rfl (fun K hK => ?_) ?_
              · go_simp
                refine hK _ _ ?_
                clear hK K
                refine wpAny_done (by kernel_rfl) ?_ _
                have OC0 := ownsF_keptF (ownsF_alloc ho5 _) P1 hg4 (by decide)
                have E6 := l4_end (kd := kd) (on := on) (br := br) (cnt := cnt) HC6.out (ownsF_base OC0 (by have h1 := CS.out.b.size; simp at h1 ⊢; try omega)) hO4 hmc hm
                clear q0 r0 z0 q1 r1 z1 q2 r2 z2 q3 r3 z3 q4 r4 z4 q5 r5 z5
                generalize ((((((w4.setCell ⟨w.heap.size + 1, 0, none⟩ (.string ⟨kd.toArray⟩)).setCell ⟨w.heap.size + 1, 1, none⟩ (.bool on)).setCell ⟨w.heap.size + 1, 2, none⟩ (.bool br)).setCell ⟨w.heap.size + 1, 3, none⟩ (.slice ga cl.length gc)).setCell ⟨w.heap.size + 1, 4, none⟩ (.int .i64 cnt)).setCell ⟨w.heap.size + 1, 5, none⟩ (.slice ua l.length uc)) = WE at *
                go_wp2_with fail
                obtain ⟨BE, RE, HE⟩ := E6
                have e0 := BE.cell 0 (by simp)
                have e1 := BE.cell 1 (by simp)
                have e2 := BE.cell 2 (by simp)
                have e3 := BE.cell 3 (by simp)
                have e4 := BE.cell 4 (by simp)
                have e5 := BE.cell 5 (by simp)
                simp only [List.getElem_cons_zero, List.getElem_cons_succ] at e0 e1 e2 e3 e4 e5
                exact bodyPost_ret (v := .agg #[.string ⟨kd.toArray⟩, .bool on, .bool br, .slice ga cl.length gc, .int .i64 cnt, .slice ua l.length uc]) (by simp [results, Try.results36, go_sem, e0, e1, e2, e3, e4, e5]) rfl ⟨_, rfl, RE, HE⟩
              exact AllReady.nil
            exact AllReady.nil
          exact AllReady.nil
        exact AllReady.nil
      refine AllReady.cons rfl (fun K hK => ?_) ?_
      · go_simp
        refine hK _ _ ?_
        clear hK K
        refine wpAny_ready (rs := [2]) (by kernel_rfl) (by simp) ?_
        refine AllReady.cons rfl (fun K hK => ?_) ?_
        · go_simp
          refine (HCC.out _ (CS.out.alloc _).b).mono ?_
          rintro e w2 ⟨_, rfl, ⟨cv, rfl, ho5⟩, hb5⟩
          obtain ⟨ga, gc, rfl⟩ := slice_of ho5
          have HC5 := Lib.hid ((CS.out.alloc _).below hb5)
          have lp := HC5.out.p.lt
          have lr := HC5.out.r.lt
          have np : ¬ w.heap.size = w2.heap.size := by omega
          have nr : ¬ w.heap.size + 1 = w2.heap.size := by omega
          have q0 := HC5.out.p.cell 0 (by simp)
          have q1 := HC5.out.p.cell 1 (by simp)
          have q2 := HC5.out.p.cell 2 (by simp)
          have q3 := HC5.out.p.cell 3 (by simp)
          have q4 := HC5.out.p.cell 4 (by simp)
          have q5 := HC5.out.p.cell 5 (by simp)
          have r0 := HC5.out.r.cell 0 (by simp)
          have z0 := HC5.out.r.froz 0 (by simp)
          have r1 := HC5.out.r.cell 1 (by simp)
          have z1 := HC5.out.r.froz 1 (by simp)
          have r2 := HC5.out.r.cell 2 (by simp)
          have z2 := HC5.out.r.froz 2 (by simp)
          have r3 := HC5.out.r.cell 3 (by simp)
          have z3 := HC5.out.r.froz 3 (by simp)
          have r4 := HC5.out.r.cell 4 (by simp)
          have z4 := HC5.out.r.froz 4 (by simp)
          have r5 := HC5.out.r.cell 5 (by simp)
          have z5 := HC5.out.r.froz 5 (by simp)
          simp only [List.getElem_cons_zero, List.getElem_cons_succ] at q0 q1 q2 q3 q4 q5 r0 r1 r2 r3 r4 r5
          refine hK _ _ ?_
          clear hK K
          refine wpAny_ready (rs := [6]) (by kernel_rfl) (by simp) ?_
          refine AllReady.cons rfl (fun K hK => ?_) ?_
          · have P1 := ownsF_below (HO0.out _ _) hb5 (Nat.le_refl _)
            have P2 := HC5.out
            have P3 := SliceAt.below H5.out (good_flat cLayer_len) P2.b (Nat.le_refl _)
            have P4 := P2.r.lt
            refine step_laysN rfl _ _ rfl (w.heap.size + 1 + 1) _ l _ sa sc ?_ P1 ?_ P3 hl0 hm P4 ?_
            · simp [Act.eval, Act.put]
            · simp [Act.eval, Act.put]
            intro v4 w4 hO4 hg4
            obtain ⟨ua, uc, rfl⟩ := slice_of hO4
            have HC6 := Lib.hid (P2.grown hg4 (fun g hg => (World.ownsRow.lt P1 g hg).1))
            have lp := HC6.out.p.lt
            have lr := HC6.out.r.lt
            have np : ¬ w.heap.size = w4.heap.size := by omega
            have nr : ¬ w.heap.size + 1 = w4.heap.size := by omega
            have q0 := HC6.out.p.cell 0 (by simp)
            have q1 := HC6.out.p.cell 1 (by simp)
            have q2 := HC6.out.p.cell 2 (by simp)
            have q3 := HC6.out.p.cell 3 (by simp)
            have q4 := HC6.out.p.cell 4 (by simp)
            have q5 := HC6.out.p.cell 5 (by simp)
            have r0 := HC6.out.r.cell 0 (by simp)
            have z0 := HC6.out.r.froz 0 (by simp)
            have r1 := HC6.out.r.cell 1 (by simp)
            have z1 := HC6.out.r.froz 1 (by simp)
            have r2 := HC6.out.r.cell 2 (by simp)
            have z2 := HC6.out.r.froz 2 (by simp)
            have r3 := HC6.out.r.cell 3 (by simp)
            have z3 := HC6.out.r.froz 3 (by simp)
            have r4 := HC6.out.r.cell 4 (by simp)
            have z4 := HC6.out.r.froz 4 (by simp)
            have r5 := HC6.out.r.cell 5 (by simp)
            have z5 := HC6.out.r.froz 5 (by simp)
            simp only [List.getElem_cons_zero, List.getElem_cons_succ] at q0 q1 q2 q3 q4 q5 r0 r1 r2 r3 r4 r5
            refine hK _ _ ?_
            clear hK K
            refine wpAny_ready (rs := [7]) (by kernel_rfl) (by simp) ?_
            refine AllReady.cons rfl (fun K hK => ?_) ?_
            · go_simp
              refine hK _ _ ?_
              clear hK K
              refine wpAny_ready (rs := [8]) (by kernel_rfl) (by simp) ?_
              refine AllReady.cons rfl (fun K hK => ?_) ?_
              · go_simp
                refine hK _ _ ?_
                clear hK K
                refine wpAny_done (by kernel_rfl) ?_ _
                have OC0 := ownsF_keptF ho5 P1 hg4 (by decide)
                have E6 := l4_end (kd := kd) (on := on) (br := br) (cnt := cnt) HC6.out (ownsF_base OC0 (by have h1 := CS.out.b.size; simp at h1 ⊢; try omega)) hO4 hmc hm
                clear q0 r0 z0 q1 r1 z1 q2 r2 z2 q3 r3 z3 q4 r4 z4 q5 r5 z5
                generalize ((((((w4.setCell ⟨w.heap.size + 1, 0, none⟩ (.string ⟨kd.toArray⟩)).setCell ⟨w.heap.size + 1, 1, none⟩ (.bool on)).setCell ⟨w.heap.size + 1, 2, none⟩ (.bool br)).setCell ⟨w.heap.size + 1, 3, none⟩ (.slice ga cl.length gc)).setCell ⟨w.heap.size + 1, 4, none⟩ (.int .i64 cnt)).setCell ⟨w.heap.size + 1, 5, none⟩ (.slice ua l.length uc)) = WE at *
                go_wp2_with fail
                obtain ⟨BE, RE, HE⟩ := E6
                have e0 := BE.cell 0 (by simp)
                have e1 := BE.cell 1 (by simp)
                have e2 := BE.cell 2 (by simp)
                have e3 := BE.cell 3 (by simp)
                have e4 := BE.cell 4 (by simp)
                have e5 := BE.cell 5 (by simp)
                simp only [List.getElem_cons_zero, List.getElem_cons_succ] at e0 e1 e2 e3 e4 e5
                exact bodyPost_ret (v := .agg #[.string ⟨kd.toArray⟩, .bool on, .bool br, .slice ga cl.length gc, .int .i64 cnt, .slice ua l.length uc]) (by simp [results, Try.results36, go_sem, e0, e1, e2, e3, e4, e5]) rfl ⟨_, rfl, RE, HE⟩
              exact AllReady.nil
            exact AllReady.nil
          exact AllReady.nil
        exact AllReady.nil
      exact AllReady.nil
    exact AllReady.nil
  refine AllReady.cons rfl (fun K hK => ?_) ?_
  · go_simp
    refine hK _ _ ?_
    clear hK K
    refine wpAny_ready (rs := [1, 5]) (by kernel_rfl) (by simp) ?_
    refine AllReady.cons rfl (fun K hK => ?_) ?_
    · go_simp
      refine hK _ _ ?_
      clear hK K
      refine wpAny_ready (rs := [2, 5]) (by kernel_rfl) (by simp) ?_
      refine AllReady.cons rfl (fun K hK => ?_) ?_
      · go_simp
        refine (HCC.out _ (CS.out.alloc _).b).mono ?_
        rintro e w2 ⟨_, rfl, ⟨cv, rfl, ho5⟩, hb5⟩
        obtain ⟨ga, gc, rfl⟩ := slice_of ho5
        have HC5 := Lib.hid ((CS.out.alloc _).below hb5)
        have lp := HC5.out.p.lt
        have lr := HC5.out.r.lt
        have np : ¬ w.heap.size = w2.heap.size := by omega
        have nr : ¬ w.heap.size + 1 = w2.heap.size := by omega
        have q0 := HC5.out.p.cell 0 (by simp)
        have q1 := HC5.out.p.cell 1 (by simp)
        have q2 := HC5.out.p.cell 2 (by simp)
        have q3 := HC5.out.p.cell 3 (by simp)
        have q4 := HC5.out.p.cell 4 (by simp)
        have q5 := HC5.out.p.cell 5 (by simp)
        have r0 := HC5.out.r.cell 0 (by simp)
        have z0 := HC5.out.r.froz 0 (by simp)
        have r1 := HC5.out.r.cell 1 (by simp)
        have z1 := HC5.out.r.froz 1 (by simp)
        have r2 := HC5.out.r.cell 2 (by simp)
        have z2 := HC5.out.r.froz 2 (by simp)
        have r3 := HC5.out.r.cell 3 (by simp)
        have z3 := HC5.out.r.froz 3 (by simp)
        have r4 := HC5.out.r.cell 4 (by simp)
        have z4 := HC5.out.r.froz 4 (by simp)
        have r5 := HC5.out.r.cell 5 (by simp)
        have z5 := HC5.out.r.froz 5 (by simp)
        simp only [List.getElem_cons_zero, List.getElem_cons_succ] at q0 q1 q2 q3 q4 q5 r0 r1 r2 r3 r4 r5
        refine hK _ _ ?_
        clear hK K
        refine wpAny_ready (rs := [5]) (by kernel_rfl) (by simp) ?_
        refine AllReady.cons rfl (fun K hK => ?_) ?_
        · go_simp
          refine hK _ _ ?_
          clear hK K
          refine wpAny_ready (rs := [6]) (by kernel_rfl) (by simp) ?_
          refine AllReady.cons rfl (fun K hK => ?_) ?_
          · have P1 := ownsF_below (HO0.out _ _) hb5 (Nat.le_refl _)
            have P2 := HC5.out
            have P3 := SliceAt.below H5.out (good_flat cLayer_len) P2.b (Nat.le_refl _)
            have P4 := P2.r.lt
            refine step_laysN rfl _ _ rfl (w.heap.size + 1 + 1) _ l _ sa sc ?_ P1 ?_ P3 hl0 hm P4 ?_
            · simp [Act.eval, Act.put]
            · simp [Act.eval, Act.put]
            intro v4 w4 hO4 hg4
            obtain ⟨ua, uc, rfl⟩ := slice_of hO4
            have HC6 := Lib.hid (P2.grown hg4 (fun g hg => (World.ownsRow.lt P1 g hg).1))
            have lp := HC6.out.p.lt
            have lr := HC6.out.r.lt
            have np : ¬ w.heap.size = w4.heap.size := by omega
            have nr : ¬ w.heap.size + 1 = w4.heap.size := by omega
            have q0 := HC6.out.p.cell 0 (by simp)
            have q1 := HC6.out.p.cell 1 (by simp)
            have q2 := HC6.out.p.cell 2 (by simp)
            have q3 := HC6.out.p.cell 3 (by simp)
            have q4 := HC6.out.p.cell 4 (by simp)
            have q5 := HC6.out.p.cell 5 (by simp)
            have r0 := HC6.out.r.cell 0 (by simp)
            have z0 := HC6.out.r.froz 0 (by simp)
            have r1 := HC6.out.r.cell 1 (by simp)
            have z1 := HC6.out.r.froz 1 (by simp)
            have r2 := HC6.out.r.cell 2 (by simp)
            have z2 := HC6.out.r.froz 2 (by simp)
            have r3 := HC6.out.r.cell 3 (by simp)
            have z3 := HC6.out.r.froz 3 (by simp)
            have r4 := HC6.out.r.cell 4 (by simp)
            have z4 := HC6.out.r.froz 4 (by simp)
            have r5 := HC6.out.r.cell 5 (by simp)
            have z5 := HC6.out.r.froz 5 (by simp)
            simp only [List.getElem_cons_zero, List.getElem_cons_succ] at q0 q1 q2 q3 q4 q5 r0 r1 r2 r3 r4 r5
            refine hK _ _ ?_
            clear hK K
            refine wpAny_ready (rs := [7]) (by kernel_rfl) (by simp) ?_
            refine AllReady.cons rfl (fun K hK => ?_) ?_
            · go_simp
              refine hK _ _ ?_
              clear hK K
              refine wpAny_ready (rs := [8]) (by kernel_rfl) (by simp) ?_
              refine AllReady.cons rfl (fun K hK => ?_) ?_
              · go_simp
                refine hK _ _ ?_
                clear hK K
                refine wpAny_done (by kernel_rfl) ?_ _
                have OC0 := ownsF_keptF ho5 P1 hg4 (by decide)
                have E6 := l4_end (kd := kd) (on := on) (br := br) (cnt := cnt) HC6.out (ownsF_base OC0 (by have h1 := CS.out.b.size; simp at h1 ⊢; try omega)) hO4 hmc hm
                clear q0 r0 z0 q1 r1 z1 q2 r2 z2 q3 r3 z3 q4 r4 z4 q5 r5 z5
                generalize ((((((w4.setCell ⟨w.heap.size + 1, 0, none⟩ (.string ⟨kd.toArray⟩)).setCell ⟨w.heap.size + 1, 1, none⟩ (.bool on)).setCell ⟨w.heap.size + 1, 2, none⟩ (.bool br)).setCell ⟨w.heap.size + 1, 3, none⟩ (.slice ga cl.length gc)).setCell ⟨w.heap.size + 1, 4, none⟩ (.int .i64 cnt)).setCell ⟨w.heap.size + 1, 5, none⟩ (.slice ua l.length uc)) = WE at *
                go_wp2_with fail
                obtain ⟨BE, RE, HE⟩ := E6
                have e0 := BE.cell 0 (by simp)
                have e1 := BE.cell 1 (by simp)
                have e2 := BE.cell 2 (by simp)
                have e3 := BE.cell 3 (by simp)
                have e4 := BE.cell 4 (by simp)
                have e5 := BE.cell 5 (by simp)
                simp only [List.getElem_cons_zero, List.getElem_cons_succ] at e0 e1 e2 e3 e4 e5
                exact bodyPost_ret (v := .agg #[.string ⟨kd.toArray⟩, .bool on, .bool br, .slice ga cl.length gc, .int .i64 cnt, .slice ua l.length uc]) (by simp [results, Try.results36, go_sem, e0, e1, e2, e3, e4, e5]) rfl ⟨_, rfl, RE, HE⟩
              exact AllReady.nil
            exact AllReady.nil
          exact AllReady.nil
        exact AllReady.nil
      refine AllReady.cons rfl (fun K hK => ?_) ?_
      · go_simp
        refine hK _ _ ?_
        clear hK K
        refine wpAny_ready (rs := [2]) (by kernel_rfl) (by simp) ?_
        refine AllReady.cons rfl (fun K hK => ?_) ?_
        · go_simp
          refine (HCC.out _ (CS.out.alloc _).b).mono ?_
          rintro e w2 ⟨_, rfl, ⟨cv, rfl, ho5⟩, hb5⟩
          obtain ⟨ga, gc, rfl⟩ := slice_of ho5
          have HC5 := Lib.hid ((CS.out.alloc _).below hb5)
          have lp := HC5.out.p.lt
          have lr := HC5.out.r.lt
          have np : ¬ w.heap.size = w2.heap.size := by omega
          have nr : ¬ w.heap.size + 1 = w2.heap.size := by omega
          have q0 := HC5.out.p.cell 0 (by simp)
          have q1 := HC5.out.p.cell 1 (by simp)
          have q2 := HC5.out.p.cell 2 (by simp)
          have q3 := HC5.out.p.cell 3 (by simp)
          have q4 := HC5.out.p.cell 4 (by simp)
          have q5 := HC5.out.p.cell 5 (by simp)
          have r0 := HC5.out.r.cell 0 (by simp)
          have z0 := HC5.out.r.froz 0 (by simp)
          have r1 := HC5.out.r.cell 1 (by simp)
          have z1 := HC5.out.r.froz 1 (by simp)
          have r2 := HC5.out.r.cell 2 (by simp)
          have z2 := HC5.out.r.froz 2 (by simp)
          have r3 := HC5.out.r.cell 3 (by simp)
          have z3 := HC5.out.r.froz 3 (by simp)
          have r4 := HC5.out.r.cell 4 (by simp)
          have z4 := HC5.out.r.froz 4 (by simp)
          have r5 := HC5.out.r.cell 5 (by simp)
          have z5 := HC5.out.r.froz 5 (by simp)
          simp only [List.getElem_cons_zero, List.getElem_cons_succ] at q0 q1 q2 q3 q4 q5 r0 r1 r2 r3 r4 r5
          refine hK _ _ ?_
          clear hK K
          refine wpAny_ready (rs := [6]) (by kernel_rfl) (by simp) ?_
          refine AllReady.cons rfl (fun K hK => ?_) ?_
          · have P1 := ownsF_below (HO0.out _ _) hb5 (Nat.le_refl _)
            have P2 := HC5.out
            have P3 := SliceAt.below H5.out (good_flat cLayer_len) P2.b (Nat.le_refl _)
            have P4 := P2.r.lt
            refine step_laysN rfl _ _ rfl (w.heap.size + 1 + 1) _ l _ sa sc ?_ P1 ?_ P3 hl0 hm P4 ?_
            · simp [Act.eval, Act.put]
            · simp [Act.eval, Act.put]
            intro v4 w4 hO4 hg4
            obtain ⟨ua, uc, rfl⟩ := slice_of hO4
            have HC6 := Lib.hid (P2.grown hg4 (fun g hg => (World.ownsRow.lt P1 g hg).1))
            have lp := HC6.out.p.lt
            have lr := HC6.out.r.lt
            have np : ¬ w.heap.size = w4.heap.size := by omega
            have nr : ¬ w.heap.size + 1 = w4.heap.size := by omega
            have q0 := HC6.out.p.cell 0 (by simp)
            have q1 := HC6.out.p.cell 1 (by simp)
            have q2 := HC6.out.p.cell 2 (by simp)
            have q3 := HC6.out.p.cell 3 (by simp)
            have q4 := HC6.out.p.cell 4 (by simp)
            have q5 := HC6.out.p.cell 5 (by simp)
            have r0 := HC6.out.r.cell 0 (by simp)
            have z0 := HC6.out.r.froz 0 (by simp)
            have r1 := HC6.out.r.cell 1 (by simp)
            have z1 := HC6.out.r.froz 1 (by simp)
            have r2 := HC6.out.r.cell 2 (by simp)
            have z2 := HC6.out.r.froz 2 (by simp)
            have r3 := HC6.out.r.cell 3 (by simp)
            have z3 := HC6.out.r.froz 3 (by simp)
            have r4 := HC6.out.r.cell 4 (by simp)
            have z4 := HC6.out.r.froz 4 (by simp)
            have r5 := HC6.out.r.cell 5 (by simp)
            have z5 := HC6.out.r.froz 5 (by simp)
            simp only [List.getElem_cons_zero, List.getElem_cons_succ] at q0 q1 q2 q3 q4 q5 r0 r1 r2 r3 r4 r5
            refine hK _ _ ?_
            clear hK K
            refine wpAny_ready (rs := [7]) (by kernel_rfl) (by simp) ?_
            refine AllReady.cons rfl (fun K hK => ?_) ?_
            · go_simp
              refine hK _ _ ?_
              clear hK K
              refine wpAny_ready (rs := [8]) (by kernel_rfl) (by simp) ?_
              refine AllReady.cons rfl (fun K hK => ?_) ?_
              · go_simp
                refine hK _ _ ?_
                clear hK K
                refine wpAny_done (by kernel_rfl) ?_ _
                have OC0 := ownsF_keptF ho5 P1 hg4 (by decide)
                have E6 := l4_end (kd := kd) (on := on) (br := br) (cnt := cnt) HC6.out (ownsF_base OC0 (by have h1 := CS.out.b.size; simp at h1 ⊢; try omega)) hO4 hmc hm
                clear q0 r0 z0 q1 r1 z1 q2 r2 z2 q3 r3 z3 q4 r4 z4 q5 r5 z5
                generalize ((((((w4.setCell ⟨w.heap.size + 1, 0, none⟩ (.string ⟨kd.toArray⟩)).setCell ⟨w.heap.size + 1, 1, none⟩ (.bool on)).setCell ⟨w.heap.size + 1, 2, none⟩ (.bool br)).setCell ⟨w.heap.size + 1, 3, none⟩ (.slice ga cl.length gc)).setCell ⟨w.heap.size + 1, 4, none⟩ (.int .i64 cnt)).setCell ⟨w.heap.size + 1, 5, none⟩ (.slice ua l.length uc)) = WE at *
                go_wp2_with fail
                obtain ⟨BE, RE, HE⟩ := E6
                have e0 := BE.cell 0 (by simp)
                have e1 := BE.cell 1 (by simp)
                have e2 := BE.cell 2 (by simp)
                have e3 := BE.cell 3 (by simp)
                have e4 := BE.cell 4 (by simp)
                have e5 := BE.cell 5 (by simp)
                simp only [List.getElem_cons_zero, List.getElem_cons_succ] at e0 e1 e2 e3 e4 e5
                exact bodyPost_ret (v := .agg #[.string ⟨kd.toArray⟩, .bool on, .bool br, .slice ga cl.length gc, .int .i64 cnt, .slice ua l.length uc]) (by simp [results, Try.results36, go_sem, e0, e1, e2, e3, e4, e5]) rfl ⟨_, rfl, RE, HE⟩
              exact AllReady.nil
            exact AllReady.nil
          exact AllReady.nil
        exact AllReady.nil
      exact AllReady.nil
    refine AllReady.cons rfl (fun K hK => ?_) ?_
    · go_simp
      refine hK _ _ ?_
      clear hK K
      refine wpAny_ready (rs := [1]) (by kernel_rfl) (by simp) ?_
      refine AllReady.cons rfl (fun K hK => ?_) ?_
      · go_simp
        refine hK _ _ ?_
        clear hK K
        refine wpAny_ready (rs := [2]) (by kernel_rfl) (by simp) ?_
        refine AllReady.cons rfl (fun K hK => ?_) ?_
        · go_simp
          refine (HCC.out _ (CS.out.alloc _).b).mono ?_
          rintro e w2 ⟨_, rfl, ⟨cv, rfl, ho5⟩, hb5⟩
          obtain ⟨ga, gc, rfl⟩ := slice_of ho5
          have HC5 := Lib.hid ((CS.out.alloc _).below hb5)
          have lp := HC5.out.p.lt
          have lr := HC5.out.r.lt
          have np : ¬ w.heap.size = w2.heap.size := by omega
          have nr : ¬ w.heap.size + 1 = w2.heap.size := by omega
          have q0 := HC5.out.p.cell 0 (by simp)
          have q1 := HC5.out.p.cell 1 (by simp)
          have q2 := HC5.out.p.cell 2 (by simp)
          have q3 := HC5.out.p.cell 3 (by simp)
          have q4 := HC5.out.p.cell 4 (by simp)
          have q5 := HC5.out.p.cell 5 (by simp)
          have r0 := HC5.out.r.cell 0 (by simp)
          have z0 := HC5.out.r.froz 0 (by simp)
          have r1 := HC5.out.r.cell 1 (by simp)
          have z1 := HC5.out.r.froz 1 (by simp)
          have r2 := HC5.out.r.cell 2 (by simp)
          have z2 := HC5.out.r.froz 2 (by simp)
          have r3 := HC5.out.r.cell 3 (by simp)
          have z3 := HC5.out.r.froz 3 (by simp)
          have r4 := HC5.out.r.cell 4 (by simp)
          have z4 := HC5.out.r.froz 4 (by simp)
          have r5 := HC5.out.r.cell 5 (by simp)
          have z5 := HC5.out.r.froz 5 (by simp)
          simp only [List.getElem_cons_zero, List.getElem_cons_succ] at q0 q1 q2 q3 q4 q5 r0 r1 r2 r3 r4 r5
          refine hK _ _ ?_
          clear hK K
          refine wpAny_ready (rs := [6]) (by kernel_rfl) (by simp) ?_
          refine AllReady.cons rfl (fun K hK => ?_) ?_
          · have P1 := ownsF_below (HO0.out _ _) hb5 (Nat.le_refl _)
            have P2 := HC5.out
            have P3 := SliceAt.below H5.out (good_flat cLayer_len) P2.b (Nat.le_refl _)
            have P4 := P2.r.lt
            refine step_laysN rfl _ _ rfl (w.heap.size + 1 + 1) _ l _ sa sc ?_ P1 ?_ P3 hl0 hm P4 ?_
            · simp [Act.eval, Act.put]
            · simp [Act.eval, Act.put]
            intro v4 w4 hO4 hg4
            obtain ⟨ua, uc, rfl⟩ := slice_of hO4
            have HC6 := Lib.hid (P2.grown hg4 (fun g hg => (World.ownsRow.lt P1 g hg).1))
            have lp := HC6.out.p.lt
            have lr := HC6.out.r.lt
            have np : ¬ w.heap.size = w4.heap.size := by omega
            have nr : ¬ w.heap.size + 1 = w4.heap.size := by omega
            have q0 := HC6.out.p.cell 0 (by simp)
            have q1 := HC6.out.p.cell 1 (by simp)
            have q2 := HC6.out.p.cell 2 (by simp)
            have q3 := HC6.out.p.cell 3 (by simp)
            have q4 := HC6.out.p.cell 4 (by simp)
            have q5 := HC6.out.p.cell 5 (by simp)
            have r0 := HC6.out.r.cell 0 (by simp)
            have z0 := HC6.out.r.froz 0 (by simp)
            have r1 := HC6.out.r.cell 1 (by simp)
            have z1 := HC6.out.r.froz 1 (by simp)
            have r2 := HC6.out.r.cell 2 (by simp)
            have z2 := HC6.out.r.froz 2 (by simp)
            have r3 := HC6.out.r.cell 3 (by simp)
            have z3 := HC6.out.r.froz 3 (by simp)
            have r4 := HC6.out.r.cell 4 (by simp)
            have z4 := HC6.out.r.froz 4 (by simp)
            have r5 := HC6.out.r.cell 5 (by simp)
            have z5 := HC6.out.r.froz 5 (by simp)
            simp only [List.getElem_cons_zero, List.getElem_cons_succ] at q0 q1 q2 q3 q4 q5 r0 r1 r2 r3 r4 r5
            refine hK _ _ ?_
            clear hK K
            refine wpAny_ready (rs := [7]) (by kernel_rfl) (by simp) ?_
            refine AllReady.cons rfl (fun K hK => ?_) ?_
            · go_simp
              refine hK _ _ ?_
              clear hK K
              refine wpAny_ready (rs := [8]) (by kernel_rfl) (by simp) ?_
              refine AllReady.cons rfl (fun K hK => ?_) ?_
              · go_simp
                refine hK _ _ ?_
                clear hK K
                refine wpAny_done (by kernel_rfl) ?_ _
                have OC0 := ownsF_keptF ho5 P1 hg4 (by decide)
                have E6 := l4_end (kd := kd) (on := on) (br := br) (cnt := cnt) HC6.out (ownsF_base OC0 (by have h1 := CS.out.b.size; simp at h1 ⊢; try omega)) hO4 hmc hm
                clear q0 r0 z0 q1 r1 z1 q2 r2 z2 q3 r3 z3 q4 r4 z4 q5 r5 z5
                generalize ((((((w4.setCell ⟨w.heap.size + 1, 0, none⟩ (.string ⟨kd.toArray⟩)).setCell ⟨w.heap.size + 1, 1, none⟩ (.bool on)).setCell ⟨w.heap.size + 1, 2, none⟩ (.bool br)).setCell ⟨w.heap.size + 1, 3, none⟩ (.slice ga cl.length gc)).setCell ⟨w.heap.size + 1, 4, none⟩ (.int .i64 cnt)).setCell ⟨w.heap.size + 1, 5, none⟩ (.slice ua l.length uc)) = WE at *
                go_wp2_with fail
                obtain ⟨BE, RE, HE⟩ := E6
                have e0 := BE.cell 0 (by simp)
                have e1 := BE.cell 1 (by simp)
                have e2 := BE.cell 2 (by simp)
                have e3 := BE.cell 3 (by simp)
                have e4 := BE.cell 4 (by simp)
                have e5 := BE.cell 5 (by simp)
                simp only [List.getElem_cons_zero, List.getElem_cons_succ] at e0 e1 e2 e3 e4 e5
                exact bodyPost_ret (v := .agg #[.string ⟨kd.toArray⟩, .bool on, .bool br, .slice ga cl.length gc, .int .i64 cnt, .slice ua l.length uc]) (by simp [results, Try.results36, go_sem, e0, e1, e2, e3, e4, e5]) rfl ⟨_, rfl, RE, HE⟩
              exact AllReady.nil
            exact AllReady.nil
          exact AllReady.nil
        exact AllReady.nil
      exact AllReady.nil
    exact AllReady.nil
  refine AllReady.cons rfl (fun K hK => ?_) ?_
  · go_simp
    refine hK _ _ ?_
    clear hK K
    refine wpAny_ready (rs := [1, 3]) (by kernel_rfl) (by simp) ?_
    refine AllReady.cons rfl (fun K hK => ?_) ?_
    · go_simp
      refine hK _ _ ?_
      clear hK K
      refine wpAny_ready (rs := [2, 3]) (by kernel_rfl) (by simp) ?_
      refine AllReady.cons rfl (fun K hK => ?_) ?_
      · go_simp
        refine (HCC.out _ CS.out.b).mono ?_
        rintro e w2 ⟨_, rfl, ⟨cv, rfl, ho5⟩, hb5⟩
        obtain ⟨ga, gc, rfl⟩ := slice_of ho5
        have HC5 := Lib.hid (CS.out.below hb5)
        have lp := HC5.out.p.lt
        have lr := HC5.out.r.lt
        have np : ¬ w.heap.size = w2.heap.size := by omega
        have nr : ¬ w.heap.size + 1 = w2.heap.size := by omega
        have q0 := HC5.out.p.cell 0 (by simp)
        have q1 := HC5.out.p.cell 1 (by simp)
        have q2 := HC5.out.p.cell 2 (by simp)
        have q3 := HC5.out.p.cell 3 (by simp)
        have q4 := HC5.out.p.cell 4 (by simp)
        have q5 := HC5.out.p.cell 5 (by simp)
        have r0 := HC5.out.r.cell 0 (by simp)
        have z0 := HC5.out.r.froz 0 (by simp)
        have r1 := HC5.out.r.cell 1 (by simp)
        have z1 := HC5.out.r.froz 1 (by simp)
        have r2 := HC5.out.r.cell 2 (by simp)
        have z2 := HC5.out.r.froz 2 (by simp)
        have r3 := HC5.out.r.cell 3 (by simp)
        have z3 := HC5.out.r.froz 3 (by simp)
        have r4 := HC5.out.r.cell 4 (by simp)
        have z4 := HC5.out.r.froz 4 (by simp)
        have r5 := HC5.out.r.cell 5 (by simp)
        have z5 := HC5.out.r.froz 5 (by simp)
        simp only [List.getElem_cons_zero, List.getElem_cons_succ] at q0 q1 q2 q3 q4 q5 r0 r1 r2 r3 r4 r5
        refine hK _ _ ?_
        clear hK K
        refine wpAny_ready (rs := [3]) (by kernel_rfl) (by simp) ?_
        refine AllReady.cons rfl (fun K hK => ?_) ?_
        · go_simp
          refine hK _ _ ?_
          clear hK K
          refine wpAny_ready (rs := [6]) (by kernel_rfl) (by simp) ?_
          refine AllReady.cons rfl (fun K hK => ?_) ?_
          · have P1 := ownsF_base (B' := w.heap.size + 1 + 1) (ownsF_new cLayer 80 2 w2) HC5.out.r.lt
            have P2 := HC5.out.alloc (.cells #[] 80)
            have P3 := SliceAt.below H5.out (good_flat cLayer_len) P2.b (Nat.le_refl _)
            have P4 := P2.r.lt
            refine step_laysN rfl _ _ rfl (w.heap.size + 1 + 1) _ l _ sa sc ?_ P1 ?_ P3 hl0 hm P4 ?_
            · simp [Act.eval, Act.put]
            · simp [Act.eval, Act.put]
            intro v4 w4 hO4 hg4
            obtain ⟨ua, uc, rfl⟩ := slice_of hO4
            have HC6 := Lib.hid (P2.grown hg4 (fun g hg => (World.ownsRow.lt P1 g hg).1))
            have lp := HC6.out.p.lt
            have lr := HC6.out.r.lt
            have np : ¬ w.heap.size = w4.heap.size := by omega
            have nr : ¬ w.heap.size + 1 = w4.heap.size := by omega
            have q0 := HC6.out.p.cell 0 (by simp)
            have q1 := HC6.out.p.cell 1 (by simp)
            have q2 := HC6.out.p.cell 2 (by simp)
            have q3 := HC6.out.p.cell 3 (by simp)
            have q4 := HC6.out.p.cell 4 (by simp)
            have q5 := HC6.out.p.cell 5 (by simp)
            have r0 := HC6.out.r.cell 0 (by simp)
            have z0 := HC6.out.r.froz 0 (by simp)
            have r1 := HC6.out.r.cell 1 (by simp)
            have z1 := HC6.out.r.froz 1 (by simp)
            have r2 := HC6.out.r.cell 2 (by simp)
            have z2 := HC6.out.r.froz 2 (by simp)
            have r3 := HC6.out.r.cell 3 (by simp)
            have z3 := HC6.out.r.froz 3 (by simp)
            have r4 := HC6.out.r.cell 4 (by simp)
            have z4 := HC6.out.r.froz 4 (by simp)
            have r5 := HC6.out.r.cell 5 (by simp)
            have z5 := HC6.out.r.froz 5 (by simp)
            simp only [List.getElem_cons_zero, List.getElem_cons_succ] at q0 q1 q2 q3 q4 q5 r0 r1 r2 r3 r4 r5
            refine hK _ _ ?_
            clear hK K
            refine wpAny_ready (rs := [7]) (by kernel_rfl) (by simp) ?_
            refine AllReady.cons rfl (fun K hK => ?_) ?_
            · go_simp
              refine hK _ _ ?_
              clear hK K
              refine wpAny_ready (rs := [8]) (by kernel_rfl) (by simp) ?_
              refine AllReady.cons rfl (fun K hK => ?_) ?_
              · go_simp
                refine hK _ _ ?_
                clear hK K
                refine wpAny_done (by kernel_rfl) ?_ _
                have OC0 := ownsF_keptF (ownsF_alloc ho5 _) P1 hg4 (by decide)
                have E6 := l4_end (kd := kd) (on := on) (br := br) (cnt := cnt) HC6.out (ownsF_base OC0 (by have h1 := CS.out.b.size; simp at h1 ⊢; try omega)) hO4 hmc hm
                clear q0 r0 z0 q1 r1 z1 q2 r2 z2 q3 r3 z3 q4 r4 z4 q5 r5 z5
                generalize ((((((w4.setCell ⟨w.heap.size + 1, 0, none⟩ (.string ⟨kd.toArray⟩)).setCell ⟨w.heap.size + 1, 1, none⟩ (.bool on)).setCell ⟨w.heap.size + 1, 2, none⟩ (.bool br)).setCell ⟨w.heap.size + 1, 3, none⟩ (.slice ga cl.length gc)).setCell ⟨w.heap.size + 1, 4, none⟩ (.int .i64 cnt)).setCell ⟨w.heap.size + 1, 5, none⟩ (.slice ua l.length uc)) = WE at *
                go_wp2_with fail
                obtain ⟨BE, RE, HE⟩ := E6
                have e0 := BE.cell 0 (by simp)
                have e1 := BE.cell 1 (by simp)
                have e2 := BE.cell 2 (by simp)
                have e3 := BE.cell 3 (by simp)
                have e4 := BE.cell 4 (by simp)
                have e5 := BE.cell 5 (by simp)
                simp only [List.getElem_cons_zero, List.getElem_cons_succ] at e0 e1 e2 e3 e4 e5
                exact bodyPost_ret (v := .agg #[.string ⟨kd.toArray⟩, .bool on, .bool br, .slice ga cl.length gc, .int .i64 cnt, .slice ua l.length uc]) (by simp [results, Try.results36, go_sem, e0, e1, e2, e3, e4, e5]) rfl ⟨_, rfl, RE, HE⟩
              exact AllReady.nil
            exact AllReady.nil
          exact AllReady.nil
        exact AllReady.nil
      refine AllReady.cons rfl (fun K hK => ?_) ?_
      · go_simp
        refine hK _ _ ?_
        clear hK K
        refine wpAny_ready (rs := [2]) (by kernel_rfl) (by simp) ?_
        refine AllReady.cons rfl (fun K hK => ?_) ?_
        · go_simp
          refine (HCC.out _ (CS.out.alloc _).b).mono ?_
          rintro e w2 ⟨_, rfl, ⟨cv, rfl, ho5⟩, hb5⟩
          obtain ⟨ga, gc, rfl⟩ := slice_of ho5
          have HC5 := Lib.hid ((CS.out.alloc _).below hb5)
          have lp := HC5.out.p.lt
          have lr := HC5.out.r.lt
          have np : ¬ w.heap.size = w2.heap.size := by omega
          have nr : ¬ w.heap.size + 1 = w2.heap.size := by omega
          have q0 := HC5.out.p.cell 0 (by simp)
          have q1 := HC5.out.p.cell 1 (by simp)
          have q2 := HC5.out.p.cell 2 (by simp)
          have q3 := HC5.out.p.cell 3 (by simp)
          have q4 := HC5.out.p.cell 4 (by simp)
          have q5 := HC5.out.p.cell 5 (by simp)
          have r0 := HC5.out.r.cell 0 (by simp)
          have z0 := HC5.out.r.froz 0 (by simp)
          have r1 := HC5.out.r.cell 1 (by simp)
          have z1 := HC5.out.r.froz 1 (by simp)
          have r2 := HC5.out.r.cell 2 (by simp)
          have z2 := HC5.out.r.froz 2 (by simp)
          have r3 := HC5.out.r.cell 3 (by simp)
          have z3 := HC5.out.r.froz 3 (by simp)
          have r4 := HC5.out.r.cell 4 (by simp)
          have z4 := HC5.out.r.froz 4 (by simp)
          have r5 := HC5.out.r.cell 5 (by simp)
          have z5 := HC5.out.r.froz 5 (by simp)
          simp only [List.getElem_cons_zero, List.getElem_cons_succ] at q0 q1 q2 q3 q4 q5 r0 r1 r2 r3 r4 r5
          refine hK _ _ ?_
          clear hK K
          refine wpAny_ready (rs := [6]) (by kernel_rfl) (by simp) ?_
          refine AllReady.cons rfl (fun K hK => ?_) ?_
          · have P1 := ownsF_below (HO0.out _ _) hb5 (Nat.le_refl _)
            have P2 := HC5.out
            have P3 := SliceAt.below H5.out (good_flat cLayer_len) P2.b (Nat.le_refl _)
            have P4 := P2.r.lt
            refine step_laysN rfl _ _ rfl (w.heap.size + 1 + 1) _ l _ sa sc ?_ P1 ?_ P3 hl0 hm P4 ?_
            · simp [Act.eval, Act.put]
            · simp [Act.eval, Act.put]
            intro v4 w4 hO4 hg4
            obtain ⟨ua, uc, rfl⟩ := slice_of hO4
            have HC6 := Lib.hid (P2.grown hg4 (fun g hg => (World.ownsRow.lt P1 g hg).1))
            have lp := HC6.out.p.lt
            have lr := HC6.out.r.lt
            have np : ¬ w.heap.size = w4.heap.size := by omega
            have nr : ¬ w.heap.size + 1 = w4.heap.size := by omega
            have q0 := HC6.out.p.cell 0 (by simp)
            have q1 := HC6.out.p.cell 1 (by simp)
            have q2 := HC6.out.p.cell 2 (by simp)
            have q3 := HC6.out.p.cell 3 (by simp)
            have q4 := HC6.out.p.cell 4 (by simp)
            have q5 := HC6.out.p.cell 5 (by simp)
            have r0 := HC6.out.r.cell 0 (by simp)
            have z0 := HC6.out.r.froz 0 (by simp)
            have r1 := HC6.out.r.cell 1 (by simp)
            have z1 := HC6.out.r.froz 1 (by simp)
            have r2 := HC6.out.r.cell 2 (by simp)
            have z2 := HC6.out.r.froz 2 (by simp)
            have r3 := HC6.out.r.cell 3 (by simp)
            have z3 := HC6.out.r.froz 3 (by simp)
            have r4 := HC6.out.r.cell 4 (by simp)
            have z4 := HC6.out.r.froz 4 (by simp)
            have r5 := HC6.out.r.cell 5 (by simp)
            have z5 := HC6.out.r.froz 5 (by simp)
            simp only [List.getElem_cons_zero, List.getElem_cons_succ] at q0 q1 q2 q3 q4 q5 r0 r1 r2 r3 r4 r5
            refine hK _ _ ?_
            clear hK K
            refine wpAny_ready (rs := [7]) (by kernel_rfl) (by simp) ?_
            refine AllReady.cons rfl (fun K hK => ?_) ?_
            · go_simp
              refine hK _ _ ?_
              clear hK K
              refine wpAny_ready (rs := [8]) (by kernel_rfl) (by simp) ?_
              refine AllReady.cons rfl (fun K hK => ?_) ?_
              · go_simp
                refine hK _ _ ?_
                clear hK K
                refine wpAny_done (by kernel_rfl) ?_ _
                have OC0 := ownsF_keptF ho5 P1 hg4 (by decide)
                have E6 := l4_end (kd := kd) (on := on) (br := br) (cnt := cnt) HC6.out (ownsF_base OC0 (by have h1 := CS.out.b.size; simp at h1 ⊢; try omega)) hO4 hmc hm
                clear q0 r0 z0 q1 r1 z1 q2 r2 z2 q3 r3 z3 q4 r4 z4 q5 r5 z5
                generalize ((((((w4.setCell ⟨w.heap.size + 1, 0, none⟩ (.string ⟨kd.toArray⟩)).setCell ⟨w.heap.size + 1, 1, none⟩ (.bool on)).setCell ⟨w.heap.size + 1, 2, none⟩ (.bool br)).setCell ⟨w.heap.size + 1, 3, none⟩ (.slice ga cl.length gc)).setCell ⟨w.heap.size + 1, 4, none⟩ (.int .i64 cnt)).setCell ⟨w.heap.size + 1, 5, none⟩ (.slice ua l.length uc)) = WE at *
                go_wp2_with fail
                obtain ⟨BE, RE, HE⟩ := E6
                have e0 := BE.cell 0 (by simp)
                have e1 := BE.cell 1 (by simp)
                have e2 := BE.cell 2 (by simp)
                have e3 := BE.cell 3 (by simp)
                have e4 := BE.cell 4 (by simp)
                have e5 := BE.cell 5 (by simp)
                simp only [List.getElem_cons_zero, List.getElem_cons_succ] at e0 e1 e2 e3 e4 e5
                exact bodyPost_ret (v := .agg #[.string ⟨kd.toArray⟩, .bool on, .bool br, .slice ga cl.length gc, .int .i64 cnt, .slice ua l.length uc]) (by simp [results, Try.results36, go_sem, e0, e1, e2, e3, e4, e5]) rfl ⟨_, rfl, RE, HE⟩
              exact AllReady.nil
            exact AllReady.nil
          exact AllReady.nil
        exact AllReady.nil
      exact AllReady.nil
    refine AllReady.cons rfl (fun K hK => ?_) ?_
    · go_simp
      refine hK _ _ ?_
      clear hK K
      refine wpAny_ready (rs := [1]) (by kernel_rfl) (by simp) ?_
      refine AllReady.cons rfl (fun K hK => ?_) ?_
      · go_simp
        refine hK _ _ ?_
        clear hK K
        refine wpAny_ready (rs := [2]) (by kernel_rfl) (by simp) ?_
        refine AllReady.cons rfl (fun K hK => ?_) ?_
        · go_simp
          refine (HCC.out _ (CS.out.alloc _).b).mono ?_
          rintro e w2 ⟨_, rfl, ⟨cv, rfl, ho5⟩, hb5⟩
          obtain ⟨ga, gc, rfl⟩ := slice_of ho5
          have HC5 := Lib.hid ((CS.out.alloc _).below hb5)
          have lp := HC5.out.p.lt
          have lr := HC5.out.r.lt
          have np : ¬ w.heap.size = w2.heap.size := by omega
          have nr : ¬ w.heap.size + 1 = w2.heap.size := by omega
          have q0 := HC5.out.p.cell 0 (by simp)
          have q1 := HC5.out.p.cell 1 (by simp)
          have q2 := HC5.out.p.cell 2 (by simp)
          have q3 := HC5.out.p.cell 3 (by simp)
          have q4 := HC5.out.p.cell 4 (by simp)
          have q5 := HC5.out.p.cell 5 (by simp)
          have r0 := HC5.out.r.cell 0 (by simp)
          have z0 := HC5.out.r.froz 0 (by simp)
          have r1 := HC5.out.r.cell 1 (by simp)
          have z1 := HC5.out.r.froz 1 (by simp)
          have r2 := HC5.out.r.cell 2 (by simp)
          have z2 := HC5.out.r.froz 2 (by simp)
          have r3 := HC5.out.r.cell 3 (by simp)
          have z3 := HC5.out.r.froz 3 (by simp)
          have r4 := HC5.out.r.cell 4 (by simp)
          have z4 := HC5.out.r.froz 4 (by simp)
          have r5 := HC5.out.r.cell 5 (by simp)
          have z5 := HC5.out.r.froz 5 (by simp)
          simp only [List.getElem_cons_zero, List.getElem_cons_succ] at q0 q1 q2 q3 q4 q5 r0 r1 r2 r3 r4 r5
          refine hK _ _ ?_
          clear hK K
          refine wpAny_ready (rs := [6]) (by kernel_rfl) (by simp) ?_
          refine AllReady.cons rfl (fun K hK => ?_) ?_
          · have P1 := ownsF_below (HO0.out _ _) hb5 (Nat.le_refl _)
            have P2 := HC5.out
            have P3 := SliceAt.below H5.out (good_flat cLayer_len) P2.b (Nat.le_refl _)
            have P4 := P2.r.lt
            refine step_laysN rfl _ _ rfl (w.heap.size + 1 + 1) _ l _ sa sc ?_ P1 ?_ P3 hl0 hm P4 ?_
            · simp [Act.eval, Act.put]
            · simp [Act.eval, Act.put]
            intro v4 w4 hO4 hg4
            obtain ⟨ua, uc, rfl⟩ := slice_of hO4
            have HC6 := Lib.hid (P2.grown hg4 (fun g hg => (World.ownsRow.lt P1 g hg).1))
            have lp := HC6.out.p.lt
            have lr := HC6.out.r.lt
            have np : ¬ w.heap.size = w4.heap.size := by omega
            have nr : ¬ w.heap.size + 1 = w4.heap.size := by omega
            have q0 := HC6.out.p.cell 0 (by simp)
            have q1 := HC6.out.p.cell 1 (by simp)
            have q2 := HC6.out.p.cell 2 (by simp)
            have q3 := HC6.out.p.cell 3 (by simp)
            have q4 := HC6.out.p.cell 4 (by simp)
            have q5 := HC6.out.p.cell 5 (by simp)
            have r0 := HC6.out.r.cell 0 (by simp)
            have z0 := HC6.out.r.froz 0 (by simp)
            have r1 := HC6.out.r.cell 1 (by simp)
            have z1 := HC6.out.r.froz 1 (by simp)
            have r2 := HC6.out.r.cell 2 (by simp)
            have z2 := HC6.out.r.froz 2 (by simp)
            have r3 := HC6.out.r.cell 3 (by simp)
            have z3 := HC6.out.r.froz 3 (by simp)
            have r4 := HC6.out.r.cell 4 (by simp)
            have z4 := HC6.out.r.froz 4 (by simp)
            have r5 := HC6.out.r.cell 5 (by simp)
            have z5 := HC6.out.r.froz 5 (by simp)
            simp only [List.getElem_cons_zero, List.getElem_cons_succ] at q0 q1 q2 q3 q4 q5 r0 r1 r2 r3 r4 r5
            refine hK _ _ ?_
            clear hK K
            refine wpAny_ready (rs := [7]) (by kernel_rfl) (by simp) ?_
            refine AllReady.cons rfl (fun K hK => ?_) ?_
            · go_simp
              refine hK _ _ ?_
              clear hK K
              refine wpAny_ready (rs := [8]) (by kernel_rfl) (by simp) ?_
              refine AllReady.cons rfl (fun K hK => ?_) ?_
              · go_simp
                refine hK _ _ ?_
                clear hK K
                refine wpAny_done (by kernel_rfl) ?_ _
                have OC0 := ownsF_keptF ho5 P1 hg4 (by decide)
                have E6 := l4_end (kd := kd) (on := on) (br := br) (cnt := cnt) HC6.out (ownsF_base OC0 (by have h1 := CS.out.b.size; simp at h1 ⊢; try omega)) hO4 hmc hm
                clear q0 r0 z0 q1 r1 z1 q2 r2 z2 q3 r3 z3 q4 r4 z4 q5 r5 z5
                generalize ((((((w4.setCell ⟨w.heap.size + 1, 0, none⟩ (.string ⟨kd.toArray⟩)).setCell ⟨w.heap.size + 1, 1, none⟩ (.bool on)).setCell ⟨w.heap.size + 1, 2, none⟩ (.bool br)).setCell ⟨w.heap.size + 1, 3, none⟩ (.slice ga cl.length gc)).setCell ⟨w.heap.size + 1, 4, none⟩ (.int .i64 cnt)).setCell ⟨w.heap.size + 1, 5, none⟩ (.slice ua l.length uc)) = WE at *
                go_wp2_with fail
                obtain ⟨BE, RE, HE⟩ := E6
                have e0 := BE.cell 0 (by simp)
                have e1 := BE.cell 1 (by simp)
                have e2 := BE.cell 2 (by simp)
                have e3 := BE.cell 3 (by simp)
                have e4 := BE.cell 4 (by simp)
                have e5 := BE.cell 5 (by simp)
                simp only [List.getElem_cons_zero, List.getElem_cons_succ] at e0 e1 e2 e3 e4 e5
                exact bodyPost_ret (v := .agg #[.string ⟨kd.toArray⟩, .bool on, .bool br, .slice ga cl.length gc, .int .i64 cnt, .slice ua l.length uc]) (by simp [results, Try.results36, go_sem, e0, e1, e2, e3, e4, e5]) rfl ⟨_, rfl, RE, HE⟩
              exact AllReady.nil
            exact AllReady.nil
          exact AllReady.nil
        exact AllReady.nil
      exact AllReady.nil
    exact AllReady.nil
  exact AllReady.nil
end Go.Proofs.Ytlkpinlkbikokaa
namespace Go.Proofs.Ytlkpinlkbikokaa
set_option linter.unusedVariables false
set_option linter.unusedSimpArgs false
open Go.RowKit
set_option maxRecDepth 100000 in
set_option maxHeartbeats 12800000 in
theorem l4Copy_none (v : Value) (x : PartD) (w : World) (hx : ValAt rPart 0 w v x) (hs : SmallP x) (h0 : x.fLayers.length = 0) (hn : ∀ cs a n c, v = .agg cs → cs.toList.getLast? = some (.slice a n c) → a = none) :
    Calls Try.prog 36 #[v] w fun e w' => GivesOP x w e w' := by
  obtain ⟨_, rfl, hx⟩ := hx
  obtain ⟨xc, l⟩ := x
  obtain ⟨v3, v5, rfl, h3, h5⟩ := hx
  have HCC := Lib.hid (fun W (hb : Below w.heap.size w W) => l3Copy_any (vCore xc v3) xc W ⟨v3, rfl, FlatAt.below (flatAt_of_slice cCell_len (by decide) h3) hb (Nat.le_refl _)⟩ hs.cells)
  unfold GivesCore OwnsCore at HCC
  have hm := hs.lays
  have hmc := hs.cells
  simp only at h3 h5 hm h0
  obtain ⟨ra, rc, rfl, _⟩ := sliceAt_len h3
  obtain ⟨sa, sc, rfl, hl⟩ := sliceAt_len h5
  have H5 := Lib.hid h5
  obtain ⟨kd, on, br, cl, cnt⟩ := xc
  unfold vCore at HCC
  simp only at HCC h3 hmc ⊢
  clear h3 h5 hs
  unfold maxLen at hl
  have BS := Lib.hid (bx_start2 w [.string ⟨kd.toArray⟩, .bool on, .bool br, .slice ra cl.length rc, .int .i64 cnt, .slice sa l.length sc] [.string ⟨#[]⟩, .bool false, .bool false, .slice none 0 0, .int .i64 0, .slice none 0 0] 34 34)
  have CS := Lib.hid (Cop.drw ⟨BS.out.2.2, BS.out.1, BS.out.2.1⟩)
  obtain rfl : l = [] := List.eq_nil_of_length_eq_zero h0
  simp only [List.length_nil] at *
  obtain rfl : sa = none := hn _ sa 0 sc rfl (by simp)
  clear hn
  go_enter Try.func36, Try.ntmps36
  go_wp2_with fail
  refine wp_region_any (by kernel_rfl) ?_
  change wpAny _ _ _ _ _ _ _ (World.drew _)
  refine wpAny_take (i := 0) (v := ?_) rfl (by kernel_rfl) (by kernel_rfl) (by kernel_rfl) (fun _ _ _ h => h) (Or.inl ⟨by rfl, ?_⟩) ?_
  rotate_left
  · intro w; go_simp; try (with_reducible rfl)
  refine wpAny_take (i := 4) (v := ?_) rfl (by kernel_rfl) (by kernel_rfl) (by kernel_rfl) (fun _ _ _ h => h) (Or.inl ⟨by rfl, ?_⟩) ?_
  rotate_left
  · intro w; go_simp; try (with_reducible rfl)
  -- GENERATED by gen/ch4cp.py
  refine wpAny_ready (rs := [1, 3, 5]) (by kernel_rfl) (by simp) ?_
  refine AllReady.cons rfl (fun K hK => ?_) ?_
  · go_simp
    refine hK _ _ ?_
    clear hK K
    refine wpAny_ready (rs := [2, 3, 5]) (by kernel_rfl) (by simp) ?_
    refine AllReady.cons rfl (fun K hK => ?_) ?_
    · go_simp
      refine (HCC.out _ CS.out.b).mono ?_
      rintro e w2 ⟨_, rfl, ⟨cv, rfl, ho5⟩, hb5⟩
      obtain ⟨ga, gc, rfl⟩ := slice_of ho5
      have HC5 := Lib.hid (CS.out.below hb5)
      have lp := HC5.out.p.lt
      have lr := HC5.out.r.lt
      have np : ¬ w.heap.size = w2.heap.size := by omega
      have nr : ¬ w.heap.size + 1 = w2.heap.size := by omega
      have q0 := HC5.out.p.cell 0 (by simp)
      have q1 := HC5.out.p.cell 1 (by simp)
      have q2 := HC5.out.p.cell 2 (by simp)
      have q3 := HC5.out.p.cell 3 (by simp)
      have q4 := HC5.out.p.cell 4 (by simp)
      have q5 := HC5.out.p.cell 5 (by simp)
      have r0 := HC5.out.r.cell 0 (by simp)
      have z0 := HC5.out.r.froz 0 (by simp)
      have r1 := HC5.out.r.cell 1 (by simp)
      have z1 := HC5.out.r.froz 1 (by simp)
      have r2 := HC5.out.r.cell 2 (by simp)
      have z2 := HC5.out.r.froz 2 (by simp)
      have r3 := HC5.out.r.cell 3 (by simp)
      have z3 := HC5.out.r.froz 3 (by simp)
      have r4 := HC5.out.r.cell 4 (by simp)
      have z4 := HC5.out.r.froz 4 (by simp)
      have r5 := HC5.out.r.cell 5 (by simp)
      have z5 := HC5.out.r.froz 5 (by simp)
      simp only [List.getElem_cons_zero, List.getElem_cons_succ] at q0 q1 q2 q3 q4 q5 r0 r1 r2 r3 r4 r5
      refine hK _ _ ?_
      clear hK K
      refine wpAny_ready (rs := [3, 5]) (by kernel_rfl) (by simp) ?_
      refine AllReady.cons rfl (fun K hK => ?_) ?_
      · go_simp
        refine hK _ _ ?_
        clear hK K
        refine wpAny_ready (rs := [5]) (by kernel_rfl) (by simp) ?_
        refine AllReady.cons rfl (fun K hK => ?_) ?_
        · go_simp
          refine hK _ _ ?_
          clear hK K
          refine wpAny_ready (rs := [6]) (by kernel_rfl) (by simp) ?_
          refine AllReady.cons rfl (fun K hK => ?_) ?_
          · go_simp
            refine hK _ _ ?_
            clear hK K
            refine wpAny_ready (rs := [7]) (by kernel_rfl) (by simp) ?_
            refine AllReady.cons rfl (fun K hK => ?_) ?_
            · go_simp
              refine hK _ _ ?_
              clear hK K
              refine wpAny_ready (rs := [8]) (by kernel_rfl) (by simp) ?_
              refine AllReady.cons rfl (fun K hK => ?_) ?_
              · go_simp
                refine hK _ _ ?_
                clear hK K
                refine wpAny_done (by kernel_rfl) ?_ _
                have OC0 := ho5
                have E6 := l4_end1 (kd := kd) (on := on) (br := br) (cnt := cnt) HC5.out (ownsF_base OC0 (by have h1 := CS.out.b.size; simp at h1 ⊢; try omega)) hmc
                clear q0 r0 z0 q1 r1 z1 q2 r2 z2 q3 r3 z3 q4 r4 z4 q5 r5 z5
                generalize ((((((w2.setCell ⟨w.heap.size + 1, 0, none⟩ (.string ⟨kd.toArray⟩)).setCell ⟨w.heap.size + 1, 1, none⟩ (.bool on)).setCell ⟨w.heap.size + 1, 2, none⟩ (.bool br)).setCell ⟨w.heap.size + 1, 3, none⟩ (.slice ga cl.length gc)).setCell ⟨w.heap.size + 1, 4, none⟩ (.int .i64 cnt)).setCell ⟨w.heap.size + 1, 5, none⟩ (.slice (some ⟨w2.heap.size, 0, none⟩) 0 0)) = WE at *
                go_wp2_with fail
                obtain ⟨BE, RE, HE⟩ := E6
                have e0 := (BE.alloc (.cells #[] 80)).cell 0 (by simp)
                have e1 := (BE.alloc (.cells #[] 80)).cell 1 (by simp)
                have e2 := (BE.alloc (.cells #[] 80)).cell 2 (by simp)
                have e3 := (BE.alloc (.cells #[] 80)).cell 3 (by simp)
                have e4 := (BE.alloc (.cells #[] 80)).cell 4 (by simp)
                have e5 := (BE.alloc (.cells #[] 80)).cell 5 (by simp)
                simp only [List.getElem_cons_zero, List.getElem_cons_succ] at e0 e1 e2 e3 e4 e5
                exact bodyPost_ret (v := .agg #[.string ⟨kd.toArray⟩, .bool on, .bool br, .slice ga cl.length gc, .int .i64 cnt, .slice (some ⟨w2.heap.size, 0, none⟩) 0 0]) (by simp [results, Try.results36, go_sem, e0, e1, e2, e3, e4, e5]) rfl ⟨_, rfl, RE, belS HE (bx_box _ _)⟩
              exact AllReady.nil
            exact AllReady.nil
          exact AllReady.nil
        exact AllReady.nil
      refine AllReady.cons rfl (fun K hK => ?_) ?_
      · go_simp
        refine hK _ _ ?_
        clear hK K
        refine wpAny_ready (rs := [3]) (by kernel_rfl) (by simp) ?_
        refine AllReady.cons rfl (fun K hK => ?_) ?_
        · go_simp
          refine hK _ _ ?_
          clear hK K
          refine wpAny_ready (rs := [6]) (by kernel_rfl) (by simp) ?_
          refine AllReady.cons rfl (fun K hK => ?_) ?_
          · go_simp
            refine hK _ _ ?_
            clear hK K
            refine wpAny_ready (rs := [7]) (by kernel_rfl) (by simp) ?_
            refine AllReady.cons rfl (fun K hK => ?_) ?_
            · go_simp
              refine hK _ _ ?_
              clear hK K
              refine wpAny_ready (rs := [8]) (by kernel_rfl) (by simp) ?_
              refine AllReady.cons rfl (fun K hK => ?_) ?_
              · go_simp
                refine hK _ _ ?_
                clear hK K
                refine wpAny_done (by kernel_rfl) ?_ _
                have OC0 := ho5
                have E6 := l4_end1 (kd := kd) (on := on) (br := br) (cnt := cnt) HC5.out (ownsF_base OC0 (by have h1 := CS.out.b.size; simp at h1 ⊢; try omega)) hmc
                clear q0 r0 z0 q1 r1 z1 q2 r2 z2 q3 r3 z3 q4 r4 z4 q5 r5 z5
                generalize ((((((w2.setCell ⟨w.heap.size + 1, 0, none⟩ (.string ⟨kd.toArray⟩)).setCell ⟨w.heap.size + 1, 1, none⟩ (.bool on)).setCell ⟨w.heap.size + 1, 2, none⟩ (.bool br)).setCell ⟨w.heap.size + 1, 3, none⟩ (.slice ga cl.length gc)).setCell ⟨w.heap.size + 1, 4, none⟩ (.int .i64 cnt)).setCell ⟨w.heap.size + 1, 5, none⟩ (.slice (some ⟨w2.heap.size, 0, none⟩) 0 0)) = WE at *
                go_wp2_with fail
                obtain ⟨BE, RE, HE⟩ := E6
                have e0 := (BE.alloc (.cells #[] 80)).cell 0 (by simp)
                have e1 := (BE.alloc (.cells #[] 80)).cell 1 (by simp)
                have e2 := (BE.alloc (.cells #[] 80)).cell 2 (by simp)
                have e3 := (BE.alloc (.cells #[] 80)).cell 3 (by simp)
                have e4 := (BE.alloc (.cells #[] 80)).cell 4 (by simp)
                have e5 := (BE.alloc (.cells #[] 80)).cell 5 (by simp)
                simp only [List.getElem_cons_zero, List.getElem_cons_succ] at e0 e1 e2 e3 e4 e5
                exact bodyPost_ret (v := .agg #[.string ⟨kd.toArray⟩, .bool on, .bool br, .slice ga cl.length gc, .int .i64 cnt, .slice (some ⟨w2.heap.size, 0, none⟩) 0 0]) (by simp [results, Try.results36, go_sem, e0, e1, e2, e3, e4, e5]) rfl ⟨_, rfl, RE, belS HE (bx_box _ _)⟩
              exact AllReady.nil
            exact AllReady.nil
          exact AllReady.nil
        exact AllReady.nil
      exact AllReady.nil
    refine AllReady.cons rfl (fun K hK => ?_) ?_
    · go_simp
      refine hK _ _ ?_
      clear hK K
      refine wpAny_ready (rs := [2, 5]) (by kernel_rfl) (by simp) ?_
      refine AllReady.cons rfl (fun K hK => ?_) ?_
      · go_simp
        refine (HCC.out _ (CS.out.alloc _).b).mono ?_
        rintro e w2 ⟨_, rfl, ⟨cv, rfl, ho5⟩, hb5⟩
        obtain ⟨ga, gc, rfl⟩ := slice_of ho5
        have HC5 := Lib.hid ((CS.out.alloc _).below hb5)
        have lp := HC5.out.p.lt
        have lr := HC5.out.r.lt
        have np : ¬ w.heap.size = w2.heap.size := by omega
        have nr : ¬ w.heap.size + 1 = w2.heap.size := by omega
        have q0 := HC5.out.p.cell 0 (by simp)
        have q1 := HC5.out.p.cell 1 (by simp)
        have q2 := HC5.out.p.cell 2 (by simp)
        have q3 := HC5.out.p.cell 3 (by simp)
        have q4 := HC5.out.p.cell 4 (by simp)
        have q5 := HC5.out.p.cell 5 (by simp)
        have r0 := HC5.out.r.cell 0 (by simp)
        have z0 := HC5.out.r.froz 0 (by simp)
        have r1 := HC5.out.r.cell 1 (by simp)
        have z1 := HC5.out.r.froz 1 (by simp)
        have r2 := HC5.out.r.cell 2 (by simp)
        have z2 := HC5.out.r.froz 2 (by simp)
        have r3 := HC5.out.r.cell 3 (by simp)
        have z3 := HC5.out.r.froz 3 (by simp)
        have r4 := HC5.out.r.cell 4 (by simp)
        have z4 := HC5.out.r.froz 4 (by simp)
        have r5 := HC5.out.r.cell 5 (by simp)
        have z5 := HC5.out.r.froz 5 (by simp)
        simp only [List.getElem_cons_zero, List.getElem_cons_succ] at q0 q1 q2 q3 q4 q5 r0 r1 r2 r3 r4 r5
        refine hK _ _ ?_
        clear hK K
        refine wpAny_ready (rs := [5]) (by kernel_rfl) (by simp) ?_
        refine AllReady.cons rfl (fun K hK => ?_) ?_
        · go_simp
          refine hK _ _ ?_
          clear hK K
          refine wpAny_ready (rs := [6]) (by kernel_rfl) (by simp) ?_
          refine AllReady.cons rfl (fun K hK => ?_) ?_
          · go_simp
            refine hK _ _ ?_
            clear hK K
            refine wpAny_ready (rs := [7]) (by kernel_rfl) (by simp) ?_
            refine AllReady.cons rfl (fun K hK => ?_) ?_
            · go_simp
              refine hK _ _ ?_
              clear hK K
              refine wpAny_ready (rs := [8]) (by kernel_rfl) (by simp) ?_
              refine AllReady.cons rfl (fun K hK => ?_) ?_
              · go_simp
                refine hK _ _ ?_
                clear hK K
                refine wpAny_done (by kernel_rfl) ?_ _
                have OC0 := ho5
                have HLn : OwnsF cLayer 80 2 w2 (w.heap.size + 1 + 1) (.slice (some ⟨w.heap.size + 1 + 1, 0, none⟩) 0 0) [] := by have h := ownsF_below (ownsF_new cLayer 80 2 _) hb5 (Nat.le_refl _); simpa using h
                have E6 := l4_end0 (kd := kd) (on := on) (br := br) (cnt := cnt) (ua := some ⟨w.heap.size + 1 + 1, 0, none⟩) HC5.out (ownsF_base OC0 (by have h1 := CS.out.b.size; simp at h1 ⊢; try omega)) HLn hmc
                clear q0 r0 z0 q1 r1 z1 q2 r2 z2 q3 r3 z3 q4 r4 z4 q5 r5 z5
                generalize ((((((w2.setCell ⟨w.heap.size + 1, 0, none⟩ (.string ⟨kd.toArray⟩)).setCell ⟨w.heap.size + 1, 1, none⟩ (.bool on)).setCell ⟨w.heap.size + 1, 2, none⟩ (.bool br)).setCell ⟨w.heap.size + 1, 3, none⟩ (.slice ga cl.length gc)).setCell ⟨w.heap.size + 1, 4, none⟩ (.int .i64 cnt)).setCell ⟨w.heap.size + 1, 5, none⟩ (.slice (some ⟨w.heap.size + 1 + 1, 0, none⟩) 0 0)) = WE at *
                go_wp2_with fail
                obtain ⟨BE, RE, HE⟩ := E6
                have e0 := BE.cell 0 (by simp)
                have e1 := BE.cell 1 (by simp)
                have e2 := BE.cell 2 (by simp)
                have e3 := BE.cell 3 (by simp)
                have e4 := BE.cell 4 (by simp)
                have e5 := BE.cell 5 (by simp)
                simp only [List.getElem_cons_zero, List.getElem_cons_succ] at e0 e1 e2 e3 e4 e5
                exact bodyPost_ret (v := .agg #[.string ⟨kd.toArray⟩, .bool on, .bool br, .slice ga cl.length gc, .int .i64 cnt, .slice (some ⟨w.heap.size + 1 + 1, 0, none⟩) 0 0]) (by simp [results, Try.results36, go_sem, e0, e1, e2, e3, e4, e5]) rfl ⟨_, rfl, RE, HE⟩
              exact AllReady.nil
            exact AllReady.nil
          exact AllReady.nil
        exact AllReady.nil
      refine AllReady.cons rfl (fun K hK => ?_) ?_
      · go_simp
        refine hK _ _ ?_
        clear hK K
        refine wpAny_ready (rs := [2]) (by kernel_rfl) (by simp) ?_
        refine AllReady.cons rfl (fun K hK => ?_) ?_
        · go_simp
          refine (HCC.out _ (CS.out.alloc _).b).mono ?_
          rintro e w2 ⟨_, rfl, ⟨cv, rfl, ho5⟩, hb5⟩
          obtain ⟨ga, gc, rfl⟩ := slice_of ho5
          have HC5 := Lib.hid ((CS.out.alloc _).below hb5)
          have lp := HC5.out.p.lt
          have lr := HC5.out.r.lt
          have np : ¬ w.heap.size = w2.heap.size := by omega
          have nr : ¬ w.heap.size + 1 = w2.heap.size := by omega
          have q0 := HC5.out.p.cell 0 (by simp)
          have q1 := HC5.out.p.cell 1 (by simp)
          have q2 := HC5.out.p.cell 2 (by simp)
          have q3 := HC5.out.p.cell 3 (by simp)
          have q4 := HC5.out.p.cell 4 (by simp)
          have q5 := HC5.out.p.cell 5 (by simp)
          have r0 := HC5.out.r.cell 0 (by simp)
          have z0 := HC5.out.r.froz 0 (by simp)
          have r1 := HC5.out.r.cell 1 (by simp)
          have z1 := HC5.out.r.froz 1 (by simp)
          have r2 := HC5.out.r.cell 2 (by simp)
          have z2 := HC5.out.r.froz 2 (by simp)
          have r3 := HC5.out.r.cell 3 (by simp)
          have z3 := HC5.out.r.froz 3 (by simp)
          have r4 := HC5.out.r.cell 4 (by simp)
          have z4 := HC5.out.r.froz 4 (by simp)
          have r5 := HC5.out.r.cell 5 (by simp)
          have z5 := HC5.out.r.froz 5 (by simp)
          simp only [List.getElem_cons_zero, List.getElem_cons_succ] at q0 q1 q2 q3 q4 q5 r0 r1 r2 r3 r4 r5
          refine hK _ _ ?_
          clear hK K
          refine wpAny_ready (rs := [6]) (by kernel_rfl) (by simp) ?_
          refine AllReady.cons rfl (fun K hK => ?_) ?_
          · go_simp
            refine hK _ _ ?_
            clear hK K
            refine wpAny_ready (rs := [7]) (by kernel_rfl) (by simp) ?_
            refine AllReady.cons rfl (fun K hK => ?_) ?_
            · go_simp
              refine hK _ _ ?_
              clear hK K
              refine wpAny_ready (rs := [8]) (by kernel_rfl) (by simp) ?_
              refine AllReady.cons rfl (fun K hK => ?_) ?_
              · go_simp
                refine hK _ _ ?_
                clear hK K
                refine wpAny_done (by kernel_rfl) ?_ _
                have OC0 := ho5
                have HLn : OwnsF cLayer 80 2 w2 (w.heap.size + 1 + 1) (.slice (some ⟨w.heap.size + 1 + 1, 0, none⟩) 0 0) [] := by have h := ownsF_below (ownsF_new cLayer 80 2 _) hb5 (Nat.le_refl _); simpa using h
                have E6 := l4_end0 (kd := kd) (on := on) (br := br) (cnt := cnt) (ua := some ⟨w.heap.size + 1 + 1, 0, none⟩) HC5.out (ownsF_base OC0 (by have h1 := CS.out.b.size; simp at h1 ⊢; try omega)) HLn hmc
                clear q0 r0 z0 q1 r1 z1 q2 r2 z2 q3 r3 z3 q4 r4 z4 q5 r5 z5
                generalize ((((((w2.setCell ⟨w.heap.size + 1, 0, none⟩ (.string ⟨kd.toArray⟩)).setCell ⟨w.heap.size + 1, 1, none⟩ (.bool on)).setCell ⟨w.heap.size + 1, 2, none⟩ (.bool br)).setCell ⟨w.heap.size + 1, 3, none⟩ (.slice ga cl.length gc)).setCell ⟨w.heap.size + 1, 4, none⟩ (.int .i64 cnt)).setCell ⟨w.heap.size + 1, 5, none⟩ (.slice (some ⟨w.heap.size + 1 + 1, 0, none⟩) 0 0)) = WE at *
                go_wp2_with fail
                obtain ⟨BE, RE, HE⟩ := E6
                have e0 := BE.cell 0 (by simp)
                have e1 := BE.cell 1 (by simp)
                have e2 := BE.cell 2 (by simp)
                have e3 := BE.cell 3 (by simp)
                have e4 := BE.cell 4 (by simp)
                have e5 := BE.cell 5 (by simp)
                simp only [List.getElem_cons_zero, List.getElem_cons_succ] at e0 e1 e2 e3 e4 e5
                exact bodyPost_ret (v := .agg #[.string ⟨kd.toArray⟩, .bool on, .bool br, .slice ga cl.length gc, .int .i64 cnt, .slice (some ⟨w.heap.size + 1 + 1, 0, none⟩) 0 0]) (by simp [results, Try.results36, go_sem, e0, e1, e2, e3, e4, e5]) rfl ⟨_, rfl, RE, HE⟩
              exact AllReady.nil
            exact AllReady.nil
          exact AllReady.nil
        exact AllReady.nil
      exact AllReady.nil
    refine AllReady.cons rfl (fun K hK => ?_) ?_
    · go_simp
      refine hK _ _ ?_
      clear hK K
      refine wpAny_ready (rs := [2, 3]) (by kernel_rfl) (by simp) ?_
      refine AllReady.cons rfl (fun K hK => ?_) ?_
      · go_simp
        refine (HCC.out _ CS.out.b).mono ?_
        rintro e w2 ⟨_, rfl, ⟨cv, rfl, ho5⟩, hb5⟩
        obtain ⟨ga, gc, rfl⟩ := slice_of ho5
        have HC5 := Lib.hid (CS.out.below hb5)
        have lp := HC5.out.p.lt
        have lr := HC5.out.r.lt
        have np : ¬ w.heap.size = w2.heap.size := by omega
        have nr : ¬ w.heap.size + 1 = w2.heap.size := by omega
        have q0 := HC5.out.p.cell 0 (by simp)
        have q1 := HC5.out.p.cell 1 (by simp)
        have q2 := HC5.out.p.cell 2 (by simp)
        have q3 := HC5.out.p.cell 3 (by simp)
        have q4 := HC5.out.p.cell 4 (by simp)
        have q5 := HC5.out.p.cell 5 (by simp)
        have r0 := HC5.out.r.cell 0 (by simp)
        have z0 := HC5.out.r.froz 0 (by simp)
        have r1 := HC5.out.r.cell 1 (by simp)
        have z1 := HC5.out.r.froz 1 (by simp)
        have r2 := HC5.out.r.cell 2 (by simp)
        have z2 := HC5.out.r.froz 2 (by simp)
        have r3 := HC5.out.r.cell 3 (by simp)
        have z3 := HC5.out.r.froz 3 (by simp)
        have r4 := HC5.out.r.cell 4 (by simp)
        have z4 := HC5.out.r.froz 4 (by simp)
        have r5 := HC5.out.r.cell 5 (by simp)
        have z5 := HC5.out.r.froz 5 (by simp)
        simp only [List.getElem_cons_zero, List.getElem_cons_succ] at q0 q1 q2 q3 q4 q5 r0 r1 r2 r3 r4 r5
        refine hK _ _ ?_
        clear hK K
        refine wpAny_ready (rs := [3]) (by kernel_rfl) (by simp) ?_
        refine AllReady.cons rfl (fun K hK => ?_) ?_
        · go_simp
          refine hK _ _ ?_
          clear hK K
          refine wpAny_ready (rs := [6]) (by kernel_rfl) (by simp) ?_
          refine AllReady.cons rfl (fun K hK => ?_) ?_
          · go_simp
            refine hK _ _ ?_
            clear hK K
            refine wpAny_ready (rs := [7]) (by kernel_rfl) (by simp) ?_
            refine AllReady.cons rfl (fun K hK => ?_) ?_
            · go_simp
              refine hK _ _ ?_
              clear hK K
              refine wpAny_ready (rs := [8]) (by kernel_rfl) (by simp) ?_
              refine AllReady.cons rfl (fun K hK => ?_) ?_
              · go_simp
                refine hK _ _ ?_
                clear hK K
                refine wpAny_done (by kernel_rfl) ?_ _
                have OC0 := ho5
                have E6 := l4_end1 (kd := kd) (on := on) (br := br) (cnt := cnt) HC5.out (ownsF_base OC0 (by have h1 := CS.out.b.size; simp at h1 ⊢; try omega)) hmc
                clear q0 r0 z0 q1 r1 z1 q2 r2 z2 q3 r3 z3 q4 r4 z4 q5 r5 z5
                generalize ((((((w2.setCell ⟨w.heap.size + 1, 0, none⟩ (.string ⟨kd.toArray⟩)).setCell ⟨w.heap.size + 1, 1, none⟩ (.bool on)).setCell ⟨w.heap.size + 1, 2, none⟩ (.bool br)).setCell ⟨w.heap.size + 1, 3, none⟩ (.slice ga cl.length gc)).setCell ⟨w.heap.size + 1, 4, none⟩ (.int .i64 cnt)).setCell ⟨w.heap.size + 1, 5, none⟩ (.slice (some ⟨w2.heap.size, 0, none⟩) 0 0)) = WE at *
                go_wp2_with fail
                obtain ⟨BE, RE, HE⟩ := E6
                have e0 := (BE.alloc (.cells #[] 80)).cell 0 (by simp)
                have e1 := (BE.alloc (.cells #[] 80)).cell 1 (by simp)
                have e2 := (BE.alloc (.cells #[] 80)).cell 2 (by simp)
                have e3 := (BE.alloc (.cells #[] 80)).cell 3 (by simp)
                have e4 := (BE.alloc (.cells #[] 80)).cell 4 (by simp)
                have e5 := (BE.alloc (.cells #[] 80)).cell 5 (by simp)
                simp only [List.getElem_cons_zero, List.getElem_cons_succ] at e0 e1 e2 e3 e4 e5
                exact bodyPost_ret (v := .agg #[.string ⟨kd.toArray⟩, .bool on, .bool br, .slice ga cl.length gc, .int .i64 cnt, .slice (some ⟨w2.heap.size, 0, none⟩) 0 0]) (by simp [results, Try.results36, go_sem, e0, e1, e2, e3, e4, e5]) rfl ⟨_, rfl, RE, belS HE (bx_box _ _)⟩
              exact AllReady.nil
            exact AllReady.nil
          exact AllReady.nil
        exact AllReady.nil
      refine AllReady.cons rfl (fun K hK => ?_) ?_
      · go_simp
        refine hK _ _ ?_
        clear hK K
        refine wpAny_ready (rs := [2]) (by kernel_rfl) (by simp) ?_
        refine AllReady.cons rfl (fun K hK => ?_) ?_
        · go_simp
          refine (HCC.out _ (CS.out.alloc _).b).mono ?_
          rintro e w2 ⟨_, rfl, ⟨cv, rfl, ho5⟩, hb5⟩
          obtain ⟨ga, gc, rfl⟩ := slice_of ho5
          have HC5 := Lib.hid ((CS.out.alloc _).below hb5)
          have lp := HC5.out.p.lt
          have lr := HC5.out.r.lt
          have np : ¬ w.heap.size = w2.heap.size := by omega
          have nr : ¬ w.heap.size + 1 = w2.heap.size := by omega
          have q0 := HC5.out.p.cell 0 (by simp)
          have q1 := HC5.out.p.cell 1 (by simp)
          have q2 := HC5.out.p.cell 2 (by simp)
          have q3 := HC5.out.p.cell 3 (by simp)
          have q4 := HC5.out.p.cell 4 (by simp)
          have q5 := HC5.out.p.cell 5 (by simp)
          have r0 := HC5.out.r.cell 0 (by simp)
          have z0 := HC5.out.r.froz 0 (by simp)
          have r1 := HC5.out.r.cell 1 (by simp)
          have z1 := HC5.out.r.froz 1 (by simp)
          have r2 := HC5.out.r.cell 2 (by simp)
          have z2 := HC5.out.r.froz 2 (by simp)
          have r3 := HC5.out.r.cell 3 (by simp)
          have z3 := HC5.out.r.froz 3 (by simp)
          have r4 := HC5.out.r.cell 4 (by simp)
          have z4 := HC5.out.r.froz 4 (by simp)
          have r5 := HC5.out.r.cell 5 (by simp)
          have z5 := HC5.out.r.froz 5 (by simp)
          simp only [List.getElem_cons_zero, List.getElem_cons_succ] at q0 q1 q2 q3 q4 q5 r0 r1 r2 r3 r4 r5
          refine hK _ _ ?_
          clear hK K
          refine wpAny_ready (rs := [6]) (by kernel_rfl) (by simp) ?_
          refine AllReady.cons rfl (fun K hK => ?_) ?_
          · go_simp
            refine hK _ _ ?_
            clear hK K
            refine wpAny_ready (rs := [7]) (by kernel_rfl) (by simp) ?_
            refine AllReady.cons rfl (fun K hK => ?_) ?_
            · go_simp
              refine hK _ _ ?_
              clear hK K
              refine wpAny_ready (rs := [8]) (by kernel_rfl) (by simp) ?_
              refine AllReady.cons rfl (fun K hK => ?_) ?_
              · go_simp
                refine hK _ _ ?_
                clear hK K
                refine wpAny_done (by kernel_rfl) ?_ _
                have OC0 := ho5
                have HLn : OwnsF cLayer 80 2 w2 (w.heap.size + 1 + 1) (.slice (some ⟨w.heap.size + 1 + 1, 0, none⟩) 0 0) [] := by have h := ownsF_below (ownsF_new cLayer 80 2 _) hb5 (Nat.le_refl _); simpa using h
                have E6 := l4_end0 (kd := kd) (on := on) (br := br) (cnt := cnt) (ua := some ⟨w.heap.size + 1 + 1, 0, none⟩) HC5.out (ownsF_base OC0 (by have h1 := CS.out.b.size; simp at h1 ⊢; try omega)) HLn hmc
                clear q0 r0 z0 q1 r1 z1 q2 r2 z2 q3 r3 z3 q4 r4 z4 q5 r5 z5
                generalize ((((((w2.setCell ⟨w.heap.size + 1, 0, none⟩ (.string ⟨kd.toArray⟩)).setCell ⟨w.heap.size + 1, 1, none⟩ (.bool on)).setCell ⟨w.heap.size + 1, 2, none⟩ (.bool br)).setCell ⟨w.heap.size + 1, 3, none⟩ (.slice ga cl.length gc)).setCell ⟨w.heap.size + 1, 4, none⟩ (.int .i64 cnt)).setCell ⟨w.heap.size + 1, 5, none⟩ (.slice (some ⟨w.heap.size + 1 + 1, 0, none⟩) 0 0)) = WE at *
                go_wp2_with fail
                obtain ⟨BE, RE, HE⟩ := E6
                have e0 := BE.cell 0 (by simp)
                have e1 := BE.cell 1 (by simp)
                have e2 := BE.cell 2 (by simp)
                have e3 := BE.cell 3 (by simp)
                have e4 := BE.cell 4 (by simp)
                have e5 := BE.cell 5 (by simp)
                simp only [List.getElem_cons_zero, List.getElem_cons_succ] at e0 e1 e2 e3 e4 e5
                exact bodyPost_ret (v := .agg #[.string ⟨kd.toArray⟩, .bool on, .bool br, .slice ga cl.length gc, .int .i64 cnt, .slice (some ⟨w.heap.size + 1 + 1, 0, none⟩) 0 0]) (by simp [results, Try.results36, go_sem, e0, e1, e2, e3, e4, e5]) rfl ⟨_, rfl, RE, HE⟩
              exact AllReady.nil
            exact AllReady.nil
          exact AllReady.nil
        exact AllReady.nil
      exact AllReady.nil
    exact AllReady.nil
  refine AllReady.cons rfl (fun K hK => ?_) ?_
  · go_simp
    refine hK _ _ ?_
    clear hK K
    refine wpAny_ready (rs := [1, 5]) (by kernel_rfl) (by simp) ?_
    refine AllReady.cons rfl (fun K hK => ?_) ?_
    · go_simp
      refine hK _ _ ?_
      clear hK K
      refine wpAny_ready (rs := [2, 5]) (by kernel_rfl) (by simp) ?_
      refine AllReady.cons rfl (fun K hK => ?_) ?_
      · go_simp
        refine (HCC.out _ (CS.out.alloc _).b).mono ?_
        rintro e w2 ⟨_, rfl, ⟨cv, rfl, ho5⟩, hb5⟩
        obtain ⟨ga, gc, rfl⟩ := slice_of ho5
        have HC5 := Lib.hid ((CS.out.alloc _).below hb5)
        have lp := HC5.out.p.lt
        have lr := HC5.out.r.lt
        have np : ¬ w.heap.size = w2.heap.size := by omega
        have nr : ¬ w.heap.size + 1 = w2.heap.size := by omega
        have q0 := HC5.out.p.cell 0 (by simp)
        have q1 := HC5.out.p.cell 1 (by simp)
        have q2 := HC5.out.p.cell 2 (by simp)
        have q3 := HC5.out.p.cell 3 (by simp)
        have q4 := HC5.out.p.cell 4 (by simp)
        have q5 := HC5.out.p.cell 5 (by simp)
        have r0 := HC5.out.r.cell 0 (by simp)
        have z0 := HC5.out.r.froz 0 (by simp)
        have r1 := HC5.out.r.cell 1 (by simp)
        have z1 := HC5.out.r.froz 1 (by simp)
        have r2 := HC5.out.r.cell 2 (by simp)
        have z2 := HC5.out.r.froz 2 (by simp)
        have r3 := HC5.out.r.cell 3 (by simp)
        have z3 := HC5.out.r.froz 3 (by simp)
        have r4 := HC5.out.r.cell 4 (by simp)
        have z4 := HC5.out.r.froz 4 (by simp)
        have r5 := HC5.out.r.cell 5 (by simp)
        have z5 := HC5.out.r.froz 5 (by simp)
        simp only [List.getElem_cons_zero, List.getElem_cons_succ] at q0 q1 q2 q3 q4 q5 r0 r1 r2 r3 r4 r5
        refine hK _ _ ?_
        clear hK K
        refine wpAny_ready (rs := [5]) (by kernel_rfl) (by simp) ?_
        refine AllReady.cons rfl (fun K hK => ?_) ?_
        · go_simp
          refine hK _ _ ?_
          clear hK K
          refine wpAny_ready (rs := [6]) (by kernel_rfl) (by simp) ?_
          refine AllReady.cons rfl (fun K hK => ?_) ?_
          · go_simp
            refine hK _ _ ?_
            clear hK K
            refine wpAny_ready (rs := [7]) (by kernel_rfl) (by simp) ?_
            refine AllReady.cons rfl (fun K hK => ?_) ?_
            · go_simp
              refine hK _ _ ?_
              clear hK K
              refine wpAny_ready (rs := [8]) (by kernel_rfl) (by simp) ?_
              refine AllReady.cons rfl (fun K hK => ?_) ?_
              · go_simp
                refine hK _ _ ?_
                clear hK K
                refine wpAny_done (by kernel_rfl) ?_ _
                have OC0 := ho5
                have HLn : OwnsF cLayer 80 2 w2 (w.heap.size + 1 + 1) (.slice (some ⟨w.heap.size + 1 + 1, 0, none⟩) 0 0) [] := by have h := ownsF_below (ownsF_new cLayer 80 2 _) hb5 (Nat.le_refl _); simpa using h
                have E6 := l4_end0 (kd := kd) (on := on) (br := br) (cnt := cnt) (ua := some ⟨w.heap.size + 1 + 1, 0, none⟩) HC5.out (ownsF_base OC0 (by have h1 := CS.out.b.size; simp at h1 ⊢; try omega)) HLn hmc
                clear q0 r0 z0 q1 r1 z1 q2 r2 z2 q3 r3 z3 q4 r4 z4 q5 r5 z5
                generalize ((((((w2.setCell ⟨w.heap.size + 1, 0, none⟩ (.string ⟨kd.toArray⟩)).setCell ⟨w.heap.size + 1, 1, none⟩ (.bool on)).setCell ⟨w.heap.size + 1, 2, none⟩ (.bool br)).setCell ⟨w.heap.size + 1, 3, none⟩ (.slice ga cl.length gc)).setCell ⟨w.heap.size + 1, 4, none⟩ (.int .i64 cnt)).setCell ⟨w.heap.size + 1, 5, none⟩ (.slice (some ⟨w.heap.size + 1 + 1, 0, none⟩) 0 0)) = WE at *
                go_wp2_with fail
                obtain ⟨BE, RE, HE⟩ := E6
                have e0 := BE.cell 0 (by simp)
                have e1 := BE.cell 1 (by simp)
                have e2 := BE.cell 2 (by simp)
                have e3 := BE.cell 3 (by simp)
                have e4 := BE.cell 4 (by simp)
                have e5 := BE.cell 5 (by simp)
                simp only [List.getElem_cons_zero, List.getElem_cons_succ] at e0 e1 e2 e3 e4 e5
                exact bodyPost_ret (v := .agg #[.string ⟨kd.toArray⟩, .bool on, .bool br, .slice ga cl.length gc, .int .i64 cnt, .slice (some ⟨w.heap.size + 1 + 1, 0, none⟩) 0 0]) (by simp [results, Try.results36, go_sem, e0, e1, e2, e3, e4, e5]) rfl ⟨_, rfl, RE, HE⟩
              exact AllReady.nil
            exact AllReady.nil
          exact AllReady.nil
        exact AllReady.nil
      refine AllReady.cons rfl (fun K hK => ?_) ?_
      · go_simp
        refine hK _ _ ?_
        clear hK K
        refine wpAny_ready (rs := [2]) (by kernel_rfl) (by simp) ?_
        refine AllReady.cons rfl (fun K hK => ?_) ?_
        · go_simp
          refine (HCC.out _ (CS.out.alloc _).b).mono ?_
          rintro e w2 ⟨_, rfl, ⟨cv, rfl, ho5⟩, hb5⟩
          obtain ⟨ga, gc, rfl⟩ := slice_of ho5
          have HC5 := Lib.hid ((CS.out.alloc _).below hb5)
          have lp := HC5.out.p.lt
          have lr := HC5.out.r.lt
          have np : ¬ w.heap.size = w2.heap.size := by omega
          have nr : ¬ w.heap.size + 1 = w2.heap.size := by omega
          have q0 := HC5.out.p.cell 0 (by simp)
          have q1 := HC5.out.p.cell 1 (by simp)
          have q2 := HC5.out.p.cell 2 (by simp)
          have q3 := HC5.out.p.cell 3 (by simp)
          have q4 := HC5.out.p.cell 4 (by simp)
          have q5 := HC5.out.p.cell 5 (by simp)
          have r0 := HC5.out.r.cell 0 (by simp)
          have z0 := HC5.out.r.froz 0 (by simp)
          have r1 := HC5.out.r.cell 1 (by simp)
          have z1 := HC5.out.r.froz 1 (by simp)
          have r2 := HC5.out.r.cell 2 (by simp)
          have z2 := HC5.out.r.froz 2 (by simp)
          have r3 := HC5.out.r.cell 3 (by simp)
          have z3 := HC5.out.r.froz 3 (by simp)
          have r4 := HC5.out.r.cell 4 (by simp)
          have z4 := HC5.out.r.froz 4 (by simp)
          have r5 := HC5.out.r.cell 5 (by simp)
          have z5 := HC5.out.r.froz 5 (by simp)
          simp only [List.getElem_cons_zero, List.getElem_cons_succ] at q0 q1 q2 q3 q4 q5 r0 r1 r2 r3 r4 r5
          refine hK _ _ ?_
          clear hK K
          refine wpAny_ready (rs := [6]) (by kernel_rfl) (by simp) ?_
          refine AllReady.cons rfl (fun K hK => ?_) ?_
          · go_simp
            refine hK _ _ ?_
            clear hK K
            refine wpAny_ready (rs := [7]) (by kernel_rfl) (by simp) ?_
            refine AllReady.cons rfl (fun K hK => ?_) ?_
            · go_simp
              refine hK _ _ ?_
              clear hK K
              refine wpAny_ready (rs := [8]) (by kernel_rfl) (by simp) ?_
              refine AllReady.cons rfl (fun K hK => ?_) ?_
              · go_simp
                refine hK _ _ ?_
                clear hK K
                refine wpAny_done (by kernel_rfl) ?_ _
                have OC0 := ho5
                have HLn : OwnsF cLayer 80 2 w2 (w.heap.size + 1 + 1) (.slice (some ⟨w.heap.size + 1 + 1, 0, none⟩) 0 0) [] := by have h := ownsF_below (ownsF_new cLayer 80 2 _) hb5 (Nat.le_refl _); simpa using h
                have E6 := l4_end0 (kd := kd) (on := on) (br := br) (cnt := cnt) (ua := some ⟨w.heap.size + 1 + 1, 0, none⟩) HC5.out (ownsF_base OC0 (by have h1 := CS.out.b.size; simp at h1 ⊢; try omega)) HLn hmc
                clear q0 r0 z0 q1 r1 z1 q2 r2 z2 q3 r3 z3 q4 r4 z4 q5 r5 z5
                generalize ((((((w2.setCell ⟨w.heap.size + 1, 0, none⟩ (.string ⟨kd.toArray⟩)).setCell ⟨w.heap.size + 1, 1, none⟩ (.bool on)).setCell ⟨w.heap.size + 1, 2, none⟩ (.bool br)).setCell ⟨w.heap.size + 1, 3, none⟩ (.slice ga cl.length gc)).setCell ⟨w.heap.size + 1, 4, none⟩ (.int .i64 cnt)).setCell ⟨w.heap.size + 1, 5, none⟩ (.slice (some ⟨w.heap.size + 1 + 1, 0, none⟩) 0 0)) = WE at *
                go_wp2_with fail
                obtain ⟨BE, RE, HE⟩ := E6
                have e0 := BE.cell 0 (by simp)
                have e1 := BE.cell 1 (by simp)
                have e2 := BE.cell 2 (by simp)
                have e3 := BE.cell 3 (by simp)
                have e4 := BE.cell 4 (by simp)
                have e5 := BE.cell 5 (by simp)
                simp only [List.getElem_cons_zero, List.getElem_cons_succ] at e0 e1 e2 e3 e4 e5
                exact bodyPost_ret (v := .agg #[.string ⟨kd.toArray⟩, .bool on, .bool br, .slice ga cl.length gc, .int .i64 cnt, .slice (some ⟨w.heap.size + 1 + 1, 0, none⟩) 0 0]) (by simp [results, Try.results36, go_sem, e0, e1, e2, e3, e4, e5]) rfl ⟨_, rfl, RE, HE⟩
              exact AllReady.nil
            exact AllReady.nil
          exact AllReady.nil
        exact AllReady.nil
      exact AllReady.nil
    refine AllReady.cons rfl (fun K hK => ?_) ?_
    · go_simp
      refine hK _ _ ?_
      clear hK K
      refine wpAny_ready (rs := [1]) (by kernel_rfl) (by simp) ?_
      refine AllReady.cons rfl (fun K hK => ?_) ?_
      · go_simp
        refine hK _ _ ?_
        clear hK K
        refine wpAny_ready (rs := [2]) (by kernel_rfl) (by simp) ?_
        refine AllReady.cons rfl (fun K hK => ?_) ?_
        · go_simp
          refine (HCC.out _ (CS.out.alloc _).b).mono ?_
          rintro e w2 ⟨_, rfl, ⟨cv, rfl, ho5⟩, hb5⟩
          obtain ⟨ga, gc, rfl⟩ := slice_of ho5
          have HC5 := Lib.hid ((CS.out.alloc _).below hb5)
          have lp := HC5.out.p.lt
          have lr := HC5.out.r.lt
          have np : ¬ w.heap.size = w2.heap.size := by omega
          have nr : ¬ w.heap.size + 1 = w2.heap.size := by omega
          have q0 := HC5.out.p.cell 0 (by simp)
          have q1 := HC5.out.p.cell 1 (by simp)
          have q2 := HC5.out.p.cell 2 (by simp)
          have q3 := HC5.out.p.cell 3 (by simp)
          have q4 := HC5.out.p.cell 4 (by simp)
          have q5 := HC5.out.p.cell 5 (by simp)
          have r0 := HC5.out.r.cell 0 (by simp)
          have z0 := HC5.out.r.froz 0 (by simp)
          have r1 := HC5.out.r.cell 1 (by simp)
          have z1 := HC5.out.r.froz 1 (by simp)
          have r2 := HC5.out.r.cell 2 (by simp)
          have z2 := HC5.out.r.froz 2 (by simp)
          have r3 := HC5.out.r.cell 3 (by simp)
          have z3 := HC5.out.r.froz 3 (by simp)
          have r4 := HC5.out.r.cell 4 (by simp)
          have z4 := HC5.out.r.froz 4 (by simp)
          have r5 := HC5.out.r.cell 5 (by simp)
          have z5 := HC5.out.r.froz 5 (by simp)
          simp only [List.getElem_cons_zero, List.getElem_cons_succ] at q0 q1 q2 q3 q4 q5 r0 r1 r2 r3 r4 r5
          refine hK _ _ ?_
          clear hK K
          refine wpAny_ready (rs := [6]) (by kernel_rfl) (by simp) ?_
          refine AllReady.cons rfl (fun K hK => ?_) ?_
          · go_simp
            refine hK _ _ ?_
            clear hK K
            refine wpAny_ready (rs := [7]) (by kernel_rfl) (by simp) ?_
            refine AllReady.cons rfl (fun K hK => ?_) ?_
            · go_simp
              refine hK _ _ ?_
              clear hK K
              refine wpAny_ready (rs := [8]) (by kernel_rfl) (by simp) ?_
              refine AllReady.cons rfl (fun K hK => ?_) ?_
              · go_simp
                refine hK _ _ ?_
                clear hK K
                refine wpAny_done (by kernel_rfl) ?_ _
                have OC0 := ho5
                have HLn : OwnsF cLayer 80 2 w2 (w.heap.size + 1 + 1) (.slice (some ⟨w.heap.size + 1 + 1, 0, none⟩) 0 0) [] := by have h := ownsF_below (ownsF_new cLayer 80 2 _) hb5 (Nat.le_refl _); simpa using h
                have E6 := l4_end0 (kd := kd) (on := on) (br := br) (cnt := cnt) (ua := some ⟨w.heap.size + 1 + 1, 0, none⟩) HC5.out (ownsF_base OC0 (by have h1 := CS.out.b.size; simp at h1 ⊢; try omega)) HLn hmc
                clear q0 r0 z0 q1 r1 z1 q2 r2 z2 q3 r3 z3 q4 r4 z4 q5 r5 z5
                generalize ((((((w2.setCell ⟨w.heap.size + 1, 0, none⟩ (.string ⟨kd.toArray⟩)).setCell ⟨w.heap.size + 1, 1, none⟩ (.bool on)).setCell ⟨w.heap.size + 1, 2, none⟩ (.bool br)).setCell ⟨w.heap.size + 1, 3, none⟩ (.slice ga cl.length gc)).setCell ⟨w.heap.size + 1, 4, none⟩ (.int .i64 cnt)).setCell ⟨w.heap.size + 1, 5, none⟩ (.slice (some ⟨w.heap.size + 1 + 1, 0, none⟩) 0 0)) = WE at *
                go_wp2_with fail
                obtain ⟨BE, RE, HE⟩ := E6
                have e0 := BE.cell 0 (by simp)
                have e1 := BE.cell 1 (by simp)
                have e2 := BE.cell 2 (by simp)
                have e3 := BE.cell 3 (by simp)
                have e4 := BE.cell 4 (by simp)
                have e5 := BE.cell 5 (by simp)
                simp only [List.getElem_cons_zero, List.getElem_cons_succ] at e0 e1 e2 e3 e4 e5
                exact bodyPost_ret (v := .agg #[.string ⟨kd.toArray⟩, .bool on, .bool br, .slice ga cl.length gc, .int .i64 cnt, .slice (some ⟨w.heap.size + 1 + 1, 0, none⟩) 0 0]) (by simp [results, Try.results36, go_sem, e0, e1, e2, e3, e4, e5]) rfl ⟨_, rfl, RE, HE⟩
              exact AllReady.nil
            exact AllReady.nil
          exact AllReady.nil
        exact AllReady.nil
      exact AllReady.nil
    exact AllReady.nil
  refine AllReady.cons rfl (fun K hK => ?_) ?_
  · go_simp
    refine hK _ _ ?_
    clear hK K
    refine wpAny_ready (rs := [1, 3]) (by kernel_rfl) (by simp) ?_
    refine AllReady.cons rfl (fun K hK => ?_) ?_
    · go_simp
      refine hK _ _ ?_
      clear hK K
      refine wpAny_ready (rs := [2, 3]) (by kernel_rfl) (by simp) ?_
      refine AllReady.cons rfl (fun K hK => ?_) ?_
      · go_simp
        refine (HCC.out _ CS.out.b).mono ?_
        rintro e w2 ⟨_, rfl, ⟨cv, rfl, ho5⟩, hb5⟩
        obtain ⟨ga, gc, rfl⟩ := slice_of ho5
        have HC5 := Lib.hid (CS.out.below hb5)
        have lp := HC5.out.p.lt
        have lr := HC5.out.r.lt
        have np : ¬ w.heap.size = w2.heap.size := by omega
        have nr : ¬ w.heap.size + 1 = w2.heap.size := by omega
        have q0 := HC5.out.p.cell 0 (by simp)
        have q1 := HC5.out.p.cell 1 (by simp)
        have q2 := HC5.out.p.cell 2 (by simp)
        have q3 := HC5.out.p.cell 3 (by simp)
        have q4 := HC5.out.p.cell 4 (by simp)
        have q5 := HC5.out.p.cell 5 (by simp)
        have r0 := HC5.out.r.cell 0 (by simp)
        have z0 := HC5.out.r.froz 0 (by simp)
        have r1 := HC5.out.r.cell 1 (by simp)
        have z1 := HC5.out.r.froz 1 (by simp)
        have r2 := HC5.out.r.cell 2 (by simp)
        have z2 := HC5.out.r.froz 2 (by simp)
        have r3 := HC5.out.r.cell 3 (by simp)
        have z3 := HC5.out.r.froz 3 (by simp)
        have r4 := HC5.out.r.cell 4 (by simp)
        have z4 := HC5.out.r.froz 4 (by simp)
        have r5 := HC5.out.r.cell 5 (by simp)
        have z5 := HC5.out.r.froz 5 (by simp)
        simp only [List.getElem_cons_zero, List.getElem_cons_succ] at q0 q1 q2 q3 q4 q5 r0 r1 r2 r3 r4 r5
        refine hK _ _ ?_
        clear hK K
        refine wpAny_ready (rs := [3]) (by kernel_rfl) (by simp) ?_
        refine AllReady.cons rfl (fun K hK => ?_) ?_
        · go_simp
          refine hK _ _ ?_
          clear hK K
          refine wpAny_ready (rs := [6]) (by kernel_rfl) (by simp) ?_
          refine AllReady.cons rfl (fun K hK => ?_) ?_
          · go_simp
            refine hK _ _ ?_
            clear hK K
            refine wpAny_ready (rs := [7]) (by kernel_rfl) (by simp) ?_
            refine AllReady.cons rfl (fun K hK => ?_) ?_
            · go_simp
              refine hK _ _ ?_
              clear hK K
              refine wpAny_ready (rs := [8]) (by kernel_rfl) (by simp) ?_
              refine AllReady.cons rfl (fun K hK => ?_) ?_
              · go_simp
                refine hK _ _ ?_
                clear hK K
                refine wpAny_done (by kernel_rfl) ?_ _
                have OC0 := ho5
                have E6 := l4_end1 (kd := kd) (on := on) (br := br) (cnt := cnt) HC5.out (ownsF_base OC0 (by have h1 := CS.out.b.size; simp at h1 ⊢; try omega)) hmc
                clear q0 r0 z0 q1 r1 z1 q2 r2 z2 q3 r3 z3 q4 r4 z4 q5 r5 z5
                generalize ((((((w2.setCell ⟨w.heap.size + 1, 0, none⟩ (.string ⟨kd.toArray⟩)).setCell ⟨w.heap.size + 1, 1, none⟩ (.bool on)).setCell ⟨w.heap.size + 1, 2, none⟩ (.bool br)).setCell ⟨w.heap.size + 1, 3, none⟩ (.slice ga cl.length gc)).setCell ⟨w.heap.size + 1, 4, none⟩ (.int .i64 cnt)).setCell ⟨w.heap.size + 1, 5, none⟩ (.slice (some ⟨w2.heap.size, 0, none⟩) 0 0)) = WE at *
                go_wp2_with fail
                obtain ⟨BE, RE, HE⟩ := E6
                have e0 := (BE.alloc (.cells #[] 80)).cell 0 (by simp)
                have e1 := (BE.alloc (.cells #[] 80)).cell 1 (by simp)
                have e2 := (BE.alloc (.cells #[] 80)).cell 2 (by simp)
                have e3 := (BE.alloc (.cells #[] 80)).cell 3 (by simp)
                have e4 := (BE.alloc (.cells #[] 80)).cell 4 (by simp)
                have e5 := (BE.alloc (.cells #[] 80)).cell 5 (by simp)
                simp only [List.getElem_cons_zero, List.getElem_cons_succ] at e0 e1 e2 e3 e4 e5
                exact bodyPost_ret (v := .agg #[.string ⟨kd.toArray⟩, .bool on, .bool br, .slice ga cl.length gc, .int .i64 cnt, .slice (some ⟨w2.heap.size, 0, none⟩) 0 0]) (by simp [results, Try.results36, go_sem, e0, e1, e2, e3, e4, e5]) rfl ⟨_, rfl, RE, belS HE (bx_box _ _)⟩
              exact AllReady.nil
            exact AllReady.nil
          exact AllReady.nil
        exact AllReady.nil
      refine AllReady.cons rfl (fun K hK => ?_) ?_
      · go_simp
        refine hK _ _ ?_
        clear hK K
        refine wpAny_ready (rs := [2]) (by kernel_rfl) (by simp) ?_
        refine AllReady.cons rfl (fun K hK => ?_) ?_
        · go_simp
          refine (HCC.out _ (CS.out.alloc _).b).mono ?_
          rintro e w2 ⟨_, rfl, ⟨cv, rfl, ho5⟩, hb5⟩
          obtain ⟨ga, gc, rfl⟩ := slice_of ho5
          have HC5 := Lib.hid ((CS.out.alloc _).below hb5)
          have lp := HC5.out.p.lt
          have lr := HC5.out.r.lt
          have np : ¬ w.heap.size = w2.heap.size := by omega
          have nr : ¬ w.heap.size + 1 = w2.heap.size := by omega
          have q0 := HC5.out.p.cell 0 (by simp)
          have q1 := HC5.out.p.cell 1 (by simp)
          have q2 := HC5.out.p.cell 2 (by simp)
          have q3 := HC5.out.p.cell 3 (by simp)
          have q4 := HC5.out.p.cell 4 (by simp)
          have q5 := HC5.out.p.cell 5 (by simp)
          have r0 := HC5.out.r.cell 0 (by simp)
          have z0 := HC5.out.r.froz 0 (by simp)
          have r1 := HC5.out.r.cell 1 (by simp)
          have z1 := HC5.out.r.froz 1 (by simp)
          have r2 := HC5.out.r.cell 2 (by simp)
          have z2 := HC5.out.r.froz 2 (by simp)
          have r3 := HC5.out.r.cell 3 (by simp)
          have z3 := HC5.out.r.froz 3 (by simp)
          have r4 := HC5.out.r.cell 4 (by simp)
          have z4 := HC5.out.r.froz 4 (by simp)
          have r5 := HC5.out.r.cell 5 (by simp)
          have z5 := HC5.out.r.froz 5 (by simp)
          simp only [List.getElem_cons_zero, List.getElem_cons_succ] at q0 q1 q2 q3 q4 q5 r0 r1 r2 r3 r4 r5
          refine hK _ _ ?_
          clear hK K
          refine wpAny_ready (rs := [6]) (by kernel_rfl) (by simp) ?_
          refine AllReady.cons rfl (fun K hK => ?_) ?_
          · go_simp
            refine hK _ _ ?_
            clear hK K
            refine wpAny_ready (rs := [7]) (by kernel_rfl) (by simp) ?_
            refine AllReady.cons rfl (fun K hK => ?_) ?_
            · go_simp
              refine hK _ _ ?_
              clear hK K
              refine wpAny_ready (rs := [8]) (by kernel_rfl) (by simp) ?_
              refine AllReady.cons rfl (fun K hK => ?_) ?_
              · go_simp
                refine hK _ _ ?_
                clear hK K
                refine wpAny_done (by kernel_rfl) ?_ _
                have OC0 := ho5
                have HLn : OwnsF cLayer 80 2 w2 (w.heap.size + 1 + 1) (.slice (some ⟨w.heap.size + 1 + 1, 0, none⟩) 0 0) [] := by have h := ownsF_below (ownsF_new cLayer 80 2 _) hb5 (Nat.le_refl _); simpa using h
                have E6 := l4_end0 (kd := kd) (on := on) (br := br) (cnt := cnt) (ua := some ⟨w.heap.size + 1 + 1, 0, none⟩) HC5.out (ownsF_base OC0 (by have h1 := CS.out.b.size; simp at h1 ⊢; try omega)) HLn hmc
                clear q0 r0 z0 q1 r1 z1 q2 r2 z2 q3 r3 z3 q4 r4 z4 q5 r5 z5
                generalize ((((((w2.setCell ⟨w.heap.size + 1, 0, none⟩ (.string ⟨kd.toArray⟩)).setCell ⟨w.heap.size + 1, 1, none⟩ (.bool on)).setCell ⟨w.heap.size + 1, 2, none⟩ (.bool br)).setCell ⟨w.heap.size + 1, 3, none⟩ (.slice ga cl.length gc)).setCell ⟨w.heap.size + 1, 4, none⟩ (.int .i64 cnt)).setCell ⟨w.heap.size + 1, 5, none⟩ (.slice (some ⟨w.heap.size + 1 + 1, 0, none⟩) 0 0)) = WE at *
                go_wp2_with fail
                obtain ⟨BE, RE, HE⟩ := E6
                have e0 := BE.cell 0 (by simp)
                have e1 := BE.cell 1 (by simp)
                have e2 := BE.cell 2 (by simp)
                have e3 := BE.cell 3 (by simp)
                have e4 := BE.cell 4 (by simp)
                have e5 := BE.cell 5 (by simp)
                simp only [List.getElem_cons_zero, List.getElem_cons_succ] at e0 e1 e2 e3 e4 e5
                exact bodyPost_ret (v := .agg #[.string ⟨kd.toArray⟩, .bool on, .bool br, .slice ga cl.length gc, .int .i64 cnt, .slice (some ⟨w.heap.size + 1 + 1, 0, none⟩) 0 0]) (by simp [results, Try.results36, go_sem, e0, e1, e2, e3, e4, e5]) rfl ⟨_, rfl, RE, HE⟩
              exact AllReady.nil
            exact AllReady.nil
          exact AllReady.nil
        exact AllReady.nil
      exact AllReady.nil
    refine AllReady.cons rfl (fun K hK => ?_) ?_
    · go_simp
      refine hK _ _ ?_
      clear hK K
      refine wpAny_ready (rs := [1]) (by kernel_rfl) (by simp) ?_
      refine AllReady.cons rfl (fun K hK => ?_) ?_
      · go_simp
        refine hK _ _ ?_
        clear hK K
        refine wpAny_ready (rs := [2]) (by kernel_rfl) (by simp) ?_
        refine AllReady.cons rfl (fun K hK => ?_) ?_
        · go_simp
          refine (HCC.out _ (CS.out.alloc _).b).mono ?_
          rintro e w2 ⟨_, rfl, ⟨cv, rfl, ho5⟩, hb5⟩
          obtain ⟨ga, gc, rfl⟩ := slice_of ho5
          have HC5 := Lib.hid ((CS.out.alloc _).below hb5)
          have lp := HC5.out.p.lt
          have lr := HC5.out.r.lt
          have np : ¬ w.heap.size = w2.heap.size := by omega
          have nr : ¬ w.heap.size + 1 = w2.heap.size := by omega
          have q0 := HC5.out.p.cell 0 (by simp)
          have q1 := HC5.out.p.cell 1 (by simp)
          have q2 := HC5.out.p.cell 2 (by simp)
          have q3 := HC5.out.p.cell 3 (by simp)
          have q4 := HC5.out.p.cell 4 (by simp)
          have q5 := HC5.out.p.cell 5 (by simp)
          have r0 := HC5.out.r.cell 0 (by simp)
          have z0 := HC5.out.r.froz 0 (by simp)
          have r1 := HC5.out.r.cell 1 (by simp)
          have z1 := HC5.out.r.froz 1 (by simp)
          have r2 := HC5.out.r.cell 2 (by simp)
          have z2 := HC5.out.r.froz 2 (by simp)
          have r3 := HC5.out.r.cell 3 (by simp)
          have z3 := HC5.out.r.froz 3 (by simp)
          have r4 := HC5.out.r.cell 4 (by simp)
          have z4 := HC5.out.r.froz 4 (by simp)
          have r5 := HC5.out.r.cell 5 (by simp)
          have z5 := HC5.out.r.froz 5 (by simp)
          simp only [List.getElem_cons_zero, List.getElem_cons_succ] at q0 q1 q2 q3 q4 q5 r0 r1 r2 r3 r4 r5
          refine hK _ _ ?_
          clear hK K
          refine wpAny_ready (rs := [6]) (by kernel_rfl) (by simp) ?_
          refine AllReady.cons rfl (fun K hK => ?_) ?_
          · go_simp
            refine hK _ _ ?_
            clear hK K
            refine wpAny_ready (rs := [7]) (by kernel_rfl) (by simp) ?_
            refine AllReady.cons rfl (fun K hK => ?_) ?_
            · go_simp
              refine hK _ _ ?_
              clear hK K
              refine wpAny_ready (rs := [8]) (by kernel_rfl) (by simp) ?_
              refine AllReady.cons rfl (fun K hK => ?_) ?_
              · go_simp
                refine hK _ _ ?_
                clear hK K
                refine wpAny_done (by kernel_rfl) ?_ _
                have OC0 := ho5
                have HLn : OwnsF cLayer 80 2 w2 (w.heap.size + 1 + 1) (.slice (some ⟨w.heap.size + 1 + 1, 0, none⟩) 0 0) [] := by have h := ownsF_below (ownsF_new cLayer 80 2 _) hb5 (Nat.le_refl _); simpa using h
                have E6 := l4_end0 (kd := kd) (on := on) (br := br) (cnt := cnt) (ua := some ⟨w.heap.size + 1 + 1, 0, none⟩) HC5.out (ownsF_base OC0 (by have h1 := CS.out.b.size; simp at h1 ⊢; try omega)) HLn hmc
                clear q0 r0 z0 q1 r1 z1 q2 r2 z2 q3 r3 z3 q4 r4 z4 q5 r5 z5
                generalize ((((((w2.setCell ⟨w.heap.size + 1, 0, none⟩ (.string ⟨kd.toArray⟩)).setCell ⟨w.heap.size + 1, 1, none⟩ (.bool on)).setCell ⟨w.heap.size + 1, 2, none⟩ (.bool br)).setCell ⟨w.heap.size + 1, 3, none⟩ (.slice ga cl.length gc)).setCell ⟨w.heap.size + 1, 4, none⟩ (.int .i64 cnt)).setCell ⟨w.heap.size + 1, 5, none⟩ (.slice (some ⟨w.heap.size + 1 + 1, 0, none⟩) 0 0)) = WE at *
                go_wp2_with fail
                obtain ⟨BE, RE, HE⟩ := E6
                have e0 := BE.cell 0 (by simp)
                have e1 := BE.cell 1 (by simp)
                have e2 := BE.cell 2 (by simp)
                have e3 := BE.cell 3 (by simp)
                have e4 := BE.cell 4 (by simp)
                have e5 := BE.cell 5 (by simp)
                simp only [List.getElem_cons_zero, List.getElem_cons_succ] at e0 e1 e2 e3 e4 e5
                exact bodyPost_ret (v := .agg #[.string ⟨kd.toArray⟩, .bool on, .bool br, .slice ga cl.length gc, .int .i64 cnt, .slice (some ⟨w.heap.size + 1 + 1, 0, none⟩) 0 0]) (by simp [results, Try.results36, go_sem, e0, e1, e2, e3, e4, e5]) rfl ⟨_, rfl, RE, HE⟩
              exact AllReady.nil
            exact AllReady.nil
          exact AllReady.nil
        exact AllReady.nil
      exact AllReady.nil
    exact AllReady.nil
  exact AllReady.nil
end Go.Proofs.Ytlkpinlkbikokaa
