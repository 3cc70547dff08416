/- Contracts of chapter 6: IsRegistry, the model's. Written by gen/ch6r.py. -/
import Derived.Test.YteeopjcbpngofaaGreatLinksOfLawM1
import Derived.Test.YteeopjcbpngofaaGreatLinksOfLawM3
import Derived.Deep.RegionLaw
import Derived.Test.YteeopjcbpngofaaGreatLinksOfLawM2
/- the model's l4Copy -/
namespace Go.Proofs.YteeopjcbpngofaaGreat
set_option linter.unusedVariables false
set_option linter.unusedSimpArgs false
open Go.RowKit
theorem Below.gr {B : Nat} {a w w' : World} {r : Option Nat} (h : Below B a w) (hg : w.grownBy w' r) (hB : B ≤ w.heap.size) (hr : ∀ g, r = some g → B ≤ g) : Below B a w' := h.grown hg hB hr
/-- two variables, and what lies below is as it was -/
structure Cop (w : World) (cs zs : List Value) (w' : World) : Prop where
  b : Below w.heap.size w w'
  p : Bx w' w.heap.size cs
  r : Bx w' (w.heap.size + 1) zs
theorem Cop.below {w w1 w2 : World} {cs zs : List Value} (h : Cop w cs zs w1) (hb : Below w1.heap.size w1 w2) : Cop w cs zs w2 := ⟨belS h.b hb, h.p.below hb, h.r.below hb⟩
theorem Cop.alloc {w w1 : World} {cs zs : List Value} (h : Cop w cs zs w1) (o : Obj) : Cop w cs zs (w1.alloc o) := h.below (bx_box w1 o)
theorem Cop.drw {w w1 : World} {cs zs : List Value} (h : Cop w cs zs w1) : Cop w cs zs w1.drew := ⟨⟨h.b.os, h.b.tape, h.b.output, h.b.size, h.b.block⟩, h.p.dr, h.r.dr⟩
theorem Cop.grown {w w1 w2 : World} {cs zs : List Value} {r : Option Nat} (h : Cop w cs zs w1) (hg : w1.grownBy w2 r) (hr : ∀ g, r = some g → w.heap.size + 1 < g) : Cop w cs zs w2 :=
  ⟨h.b.grown hg h.b.size (fun g e => by have := hr g e; omega), h.p.grown hg (fun e => by have := hr _ e; omega), h.r.grown hg (fun e => by have := hr _ e; omega)⟩
def CopS (w : World) (c0 c1 c2 c3 c4 c5 : Value) (zs : List Value) (w' : World) : Prop :=
  w'.cell? ⟨w.heap.size, 0, none⟩ = some c0 ∧ w'.cell? ⟨w.heap.size, 1, none⟩ = some c1 ∧ w'.cell? ⟨w.heap.size, 2, none⟩ = some c2 ∧ w'.cell? ⟨w.heap.size, 3, none⟩ = some c3 ∧ w'.cell? ⟨w.heap.size, 4, none⟩ = some c4 ∧ w'.cell? ⟨w.heap.size, 5, none⟩ = some c5 ∧ Cop w [c0, c1, c2, c3, c4, c5] zs w'
theorem copS_of {w w' : World} {c0 c1 c2 c3 c4 c5 : Value} {zs : List Value} (h : Cop w [c0, c1, c2, c3, c4, c5] zs w') : w'.cell? ⟨w.heap.size, 0, none⟩ = some c0 ∧ w'.cell? ⟨w.heap.size, 1, none⟩ = some c1 ∧ w'.cell? ⟨w.heap.size, 2, none⟩ = some c2 ∧ w'.cell? ⟨w.heap.size, 3, none⟩ = some c3 ∧ w'.cell? ⟨w.heap.size, 4, none⟩ = some c4 ∧ w'.cell? ⟨w.heap.size, 5, none⟩ = some c5 ∧ Cop w [c0, c1, c2, c3, c4, c5] zs w' :=
  ⟨h.p.cell 0 (by simp), h.p.cell 1 (by simp), h.p.cell 2 (by simp), h.p.cell 3 (by simp), h.p.cell 4 (by simp), h.p.cell 5 (by simp), h⟩
/-- append of nothing, at a step of a region that draws -/
theorem step_laysZ {ops : Array Oper} {o : Oper} {a : Act} {K : Act → World → Prop} {Q : Exit → Act → World → Prop} {E : Prop} (hgd : o.guard = none) (s x : Operand)
    (ho : o.op = .call { callee := .builtin .append, args := #[s, x], argTypes := #[72, 72] }) (g cp : Nat) (w : World) (ad : Option Addr) (c : Nat)
    (hs : a.eval s = .slice (some ⟨g, 0, none⟩) 0 cp) (hx : a.eval x = .slice ad 0 c)
    (h : K (a.put o.dst (.slice (some ⟨g, 0, none⟩) 0 cp)) w) : if Region.wanted o (yielded ops a.tmps) = true then Oper.wp Tryz.prog o a w K Q else E := by
  have hw : Region.wanted o (yielded ops a.tmps) = true := by simp [Region.wanted, hgd]
  rw [if_pos hw]
  have hr : (Builtin.append_ #[72, 72] o.type #[.slice (some ⟨g, 0, none⟩) 0 cp, .slice ad 0 c]).run Tryz.prog w = .ok (.slice (some ⟨g, 0, none⟩) 0 cp) w := by
    cases ad <;> simp [Builtin.append_, go_sem]
  unfold Oper.wp execOp
  simp only [ho, resolve, invoke, builtin, Sem.run_bind, Sem.run_pure, Result.andThen_ok, List.map_toArray, List.map_cons, List.map_nil, hs, hx, hr]
  exact h
/-- append of a slice of layers to a row of one's own, at a step of a region that draws -/
theorem step_laysN {ops : Array Oper} {o : Oper} {a : Act} {K : Act → World → Prop} {Q : Exit → Act → World → Prop} {E : Prop} (hgd : o.guard = none) (s x : Operand)
    (ho : o.op = .call { callee := .builtin .append, args := #[s, x], argTypes := #[72, 72] }) (B : Nat) (v : Value) (y : List LayerD) (w : World) (ad : Option Addr) (c : Nat)
    (hs : a.eval s = v) (hO : OwnsF cLayer 137 2 w B v []) (hx : a.eval x = .slice ad y.length c) (hy : SliceAt (rFlat cLayer) 2 0 w (.slice ad y.length c) y) (hv : ∃ g cp, v = .slice (some ⟨g, 0, none⟩) 0 cp) (hm : y.length ≤ 2097152) (hB : B ≤ w.heap.size)
    (h : ∀ v' w', OwnsF cLayer 137 2 w' B v' y → w.grownBy w' v.ownBlock → K (a.put o.dst v') w') : if Region.wanted o (yielded ops a.tmps) = true then Oper.wp Tryz.prog o a w K Q else E := by
  by_cases hl : 0 < y.length
  case neg =>
    obtain rfl : y = [] := List.eq_nil_of_length_eq_zero (by omega)
    obtain ⟨g, cp, rfl⟩ := hv
    exact step_laysZ hgd s x ho g cp w ad c hs hx (h _ _ hO (grownBy_refl _ _))
  obtain ⟨i0, hi, hz0, hz1, hz2⟩ := info_parts infoLay
  obtain ⟨a', c', e, hlen, hml, hy⟩ := flatAt_of_slice cLayer_len (by decide) hy
  injection e with e1 e2 e3
  subst e1
  rcases hy with hy | ⟨b, o', rfl, hlt, hy⟩
  · omega
  · refine step_append_lies w hgd s x 72 ho B 137 i0 _ 2 24 Tryz.underlying72 hi hz0 hz1 hz2 rfl (by decide) v 0 [] hs (by simpa [OwnsF] using hO) ⟨b, o', none⟩ y.length c (y.flatMap cLayer) hx hlen ?_ ?_ hl (by unfold maxLen; omega) (by omega) hB _ rfl ?_
    · intro j u hj
      have hj2 : j < y.length * 2 := by rw [← hlen]; exact (List.getElem?_eq_some_iff.1 hj).1
      rw [Addr.add_lit, hy j hj2]; exact hj
    · intro u hu
      obtain ⟨d, _, hd⟩ := List.mem_flatMap.1 hu
      exact cLayer_one d u hd
    · intro g cap w' h1 h2 _ _
      refine h _ w' ?_ h2
      unfold OwnsF
      simpa using h1
theorem l4_end {w w4 : World} {kd : List UInt8} {on br : Bool} {cl : List CellD} {cnt : Int} {l : List LayerD} {ga ua : Option Addr} {gc uc : Nat} {cs : List Value} {c0 c1 c2 c3 c4 c5 : Value} (h : Cop w cs [c0, c1, c2, c3, c4, c5] w4)
    (hc : OwnsF cCell 135 2 w4 (w.heap.size + 1 + 1) (.slice ga cl.length gc) cl) (hl : OwnsF cLayer 137 2 w4 (w.heap.size + 1 + 1) (.slice ua l.length uc) l) (hmc : cl.length ≤ 2097152) (hm : l.length ≤ 2097152) :
    Bx ((((((w4.setCell ⟨w.heap.size + 1, 0, none⟩ (.string ⟨kd.toArray⟩)).setCell ⟨w.heap.size + 1, 1, none⟩ (.bool on)).setCell ⟨w.heap.size + 1, 2, none⟩ (.bool br)).setCell ⟨w.heap.size + 1, 3, none⟩ (.slice ga cl.length gc)).setCell ⟨w.heap.size + 1, 4, none⟩ (.int .i64 cnt)).setCell ⟨w.heap.size + 1, 5, none⟩ (.slice ua l.length uc)) (w.heap.size + 1) [.string ⟨kd.toArray⟩, .bool on, .bool br, .slice ga cl.length gc, .int .i64 cnt, .slice ua l.length uc] ∧
    oPart ((((((w4.setCell ⟨w.heap.size + 1, 0, none⟩ (.string ⟨kd.toArray⟩)).setCell ⟨w.heap.size + 1, 1, none⟩ (.bool on)).setCell ⟨w.heap.size + 1, 2, none⟩ (.bool br)).setCell ⟨w.heap.size + 1, 3, none⟩ (.slice ga cl.length gc)).setCell ⟨w.heap.size + 1, 4, none⟩ (.int .i64 cnt)).setCell ⟨w.heap.size + 1, 5, none⟩ (.slice ua l.length uc)) w.heap.size [.string ⟨kd.toArray⟩, .bool on, .bool br, .slice ga cl.length gc, .int .i64 cnt, .slice ua l.length uc] ⟨⟨kd, on, br, cl, cnt⟩, l⟩ ∧
    Below w.heap.size w ((((((w4.setCell ⟨w.heap.size + 1, 0, none⟩ (.string ⟨kd.toArray⟩)).setCell ⟨w.heap.size + 1, 1, none⟩ (.bool on)).setCell ⟨w.heap.size + 1, 2, none⟩ (.bool br)).setCell ⟨w.heap.size + 1, 3, none⟩ (.slice ga cl.length gc)).setCell ⟨w.heap.size + 1, 4, none⟩ (.int .i64 cnt)).setCell ⟨w.heap.size + 1, 5, none⟩ (.slice ua l.length uc)) := by
  refine ⟨h.r.put6 _ _ _ _ _ _, ⟨_, _, rfl, ?_, ?_⟩, below_put6 h.b (w.heap.size + 1) (by omega) _ _ _ _ _ _⟩
  · exact ownsF_base (ownsF_put6 hc (w.heap.size + 1) (by omega) _ _ _ _ _ _) (by omega)
  · exact ownsF_base (ownsF_put6 hl (w.heap.size + 1) (by omega) _ _ _ _ _ _) (by omega)
theorem l4_end0 {w w4 : World} {kd : List UInt8} {on br : Bool} {cl : List CellD} {cnt : Int} {ga ua : Option Addr} {gc : Nat} {cs : List Value} {c0 c1 c2 c3 c4 c5 : Value} (h : Cop w cs [c0, c1, c2, c3, c4, c5] w4)
    (hc : OwnsF cCell 135 2 w4 (w.heap.size + 1 + 1) (.slice ga cl.length gc) cl) (hl : OwnsF cLayer 137 2 w4 (w.heap.size + 1 + 1) (.slice ua 0 0) []) (hmc : cl.length ≤ 2097152) :
    Bx ((((((w4.setCell ⟨w.heap.size + 1, 0, none⟩ (.string ⟨kd.toArray⟩)).setCell ⟨w.heap.size + 1, 1, none⟩ (.bool on)).setCell ⟨w.heap.size + 1, 2, none⟩ (.bool br)).setCell ⟨w.heap.size + 1, 3, none⟩ (.slice ga cl.length gc)).setCell ⟨w.heap.size + 1, 4, none⟩ (.int .i64 cnt)).setCell ⟨w.heap.size + 1, 5, none⟩ (.slice ua 0 0)) (w.heap.size + 1) [.string ⟨kd.toArray⟩, .bool on, .bool br, .slice ga cl.length gc, .int .i64 cnt, .slice ua 0 0] ∧
    oPart ((((((w4.setCell ⟨w.heap.size + 1, 0, none⟩ (.string ⟨kd.toArray⟩)).setCell ⟨w.heap.size + 1, 1, none⟩ (.bool on)).setCell ⟨w.heap.size + 1, 2, none⟩ (.bool br)).setCell ⟨w.heap.size + 1, 3, none⟩ (.slice ga cl.length gc)).setCell ⟨w.heap.size + 1, 4, none⟩ (.int .i64 cnt)).setCell ⟨w.heap.size + 1, 5, none⟩ (.slice ua 0 0)) w.heap.size [.string ⟨kd.toArray⟩, .bool on, .bool br, .slice ga cl.length gc, .int .i64 cnt, .slice ua 0 0] ⟨⟨kd, on, br, cl, cnt⟩, []⟩ ∧
    Below w.heap.size w ((((((w4.setCell ⟨w.heap.size + 1, 0, none⟩ (.string ⟨kd.toArray⟩)).setCell ⟨w.heap.size + 1, 1, none⟩ (.bool on)).setCell ⟨w.heap.size + 1, 2, none⟩ (.bool br)).setCell ⟨w.heap.size + 1, 3, none⟩ (.slice ga cl.length gc)).setCell ⟨w.heap.size + 1, 4, none⟩ (.int .i64 cnt)).setCell ⟨w.heap.size + 1, 5, none⟩ (.slice ua 0 0)) := by
  refine ⟨h.r.put6 _ _ _ _ _ _, ⟨_, _, rfl, ?_, ?_⟩, below_put6 h.b (w.heap.size + 1) (by omega) _ _ _ _ _ _⟩
  · exact ownsF_base (ownsF_put6 hc (w.heap.size + 1) (by omega) _ _ _ _ _ _) (by omega)
  · exact ownsF_base (ownsF_put6 hl (w.heap.size + 1) (by omega) _ _ _ _ _ _) (by omega)
/-- the empty row made at the end -/
theorem l4_end1 {w w4 : World} {kd : List UInt8} {on br : Bool} {cl : List CellD} {cnt : Int} {ga : Option Addr} {gc : Nat} {cs : List Value} {c0 c1 c2 c3 c4 c5 : Value} (h : Cop w cs [c0, c1, c2, c3, c4, c5] w4)
    (hc : OwnsF cCell 135 2 w4 (w.heap.size + 1 + 1) (.slice ga cl.length gc) cl) (hmc : cl.length ≤ 2097152) :
    Bx ((((((w4.setCell ⟨w.heap.size + 1, 0, none⟩ (.string ⟨kd.toArray⟩)).setCell ⟨w.heap.size + 1, 1, none⟩ (.bool on)).setCell ⟨w.heap.size + 1, 2, none⟩ (.bool br)).setCell ⟨w.heap.size + 1, 3, none⟩ (.slice ga cl.length gc)).setCell ⟨w.heap.size + 1, 4, none⟩ (.int .i64 cnt)).setCell ⟨w.heap.size + 1, 5, none⟩ (.slice (some ⟨w4.heap.size, 0, none⟩) 0 0)) (w.heap.size + 1) [.string ⟨kd.toArray⟩, .bool on, .bool br, .slice ga cl.length gc, .int .i64 cnt, .slice (some ⟨w4.heap.size, 0, none⟩) 0 0] ∧
    oPart (((((((w4.setCell ⟨w.heap.size + 1, 0, none⟩ (.string ⟨kd.toArray⟩)).setCell ⟨w.heap.size + 1, 1, none⟩ (.bool on)).setCell ⟨w.heap.size + 1, 2, none⟩ (.bool br)).setCell ⟨w.heap.size + 1, 3, none⟩ (.slice ga cl.length gc)).setCell ⟨w.heap.size + 1, 4, none⟩ (.int .i64 cnt)).setCell ⟨w.heap.size + 1, 5, none⟩ (.slice (some ⟨w4.heap.size, 0, none⟩) 0 0)).alloc (.cells #[] 137)) w.heap.size [.string ⟨kd.toArray⟩, .bool on, .bool br, .slice ga cl.length gc, .int .i64 cnt, .slice (some ⟨w4.heap.size, 0, none⟩) 0 0] ⟨⟨kd, on, br, cl, cnt⟩, []⟩ ∧
    Below w.heap.size w ((((((w4.setCell ⟨w.heap.size + 1, 0, none⟩ (.string ⟨kd.toArray⟩)).setCell ⟨w.heap.size + 1, 1, none⟩ (.bool on)).setCell ⟨w.heap.size + 1, 2, none⟩ (.bool br)).setCell ⟨w.heap.size + 1, 3, none⟩ (.slice ga cl.length gc)).setCell ⟨w.heap.size + 1, 4, none⟩ (.int .i64 cnt)).setCell ⟨w.heap.size + 1, 5, none⟩ (.slice (some ⟨w4.heap.size, 0, none⟩) 0 0)) := by
  have hz : ((((((w4.setCell ⟨w.heap.size + 1, 0, none⟩ (.string ⟨kd.toArray⟩)).setCell ⟨w.heap.size + 1, 1, none⟩ (.bool on)).setCell ⟨w.heap.size + 1, 2, none⟩ (.bool br)).setCell ⟨w.heap.size + 1, 3, none⟩ (.slice ga cl.length gc)).setCell ⟨w.heap.size + 1, 4, none⟩ (.int .i64 cnt)).setCell ⟨w.heap.size + 1, 5, none⟩ (.slice (some ⟨w4.heap.size, 0, none⟩) 0 0)).heap.size = w4.heap.size := by simp
  have hn := ownsF_new cLayer 137 2 ((((((w4.setCell ⟨w.heap.size + 1, 0, none⟩ (.string ⟨kd.toArray⟩)).setCell ⟨w.heap.size + 1, 1, none⟩ (.bool on)).setCell ⟨w.heap.size + 1, 2, none⟩ (.bool br)).setCell ⟨w.heap.size + 1, 3, none⟩ (.slice ga cl.length gc)).setCell ⟨w.heap.size + 1, 4, none⟩ (.int .i64 cnt)).setCell ⟨w.heap.size + 1, 5, none⟩ (.slice (some ⟨w4.heap.size, 0, none⟩) 0 0))
  rw [hz] at hn
  refine ⟨h.r.put6 _ _ _ _ _ _, ⟨_, _, rfl, ?_, ?_⟩, below_put6 h.b (w.heap.size + 1) (by omega) _ _ _ _ _ _⟩
  · exact ownsF_alloc (ownsF_base (ownsF_put6 hc (w.heap.size + 1) (by omega) _ _ _ _ _ _) (by omega)) _
  · exact ownsF_base hn (by have := h.b.size; omega)
set_option maxRecDepth 100000 in
set_option maxHeartbeats 3200000 in
theorem l4Copy_own (v : Value) (x : PartD) (w : World) (hx : ValAt rPart 0 w v x) (hs : SmallP x) :
    Calls Tryz.prog 136 #[v] w fun e w' => GivesOP x w e w' := by
  obtain ⟨_, rfl, hx⟩ := hx
  obtain ⟨xc, l⟩ := x
  obtain ⟨v3, v5, rfl, h3, h5⟩ := hx
  have HCC := Lib.hid (fun W (hb : Below w.heap.size w W) => l3Copy_any (vCore xc v3) xc W ⟨v3, rfl, FlatAt.below (flatAt_of_slice cCell_len (by decide) h3) hb (Nat.le_refl _)⟩ hs.cells)
  unfold GivesCore OwnsCore at HCC
  have hm := hs.lays
  have hmc := hs.cells
  simp only at h3 h5 hm
  obtain ⟨ra, rc, rfl, _⟩ := sliceAt_len h3
  obtain ⟨sa, sc, rfl, hl⟩ := sliceAt_len h5
  have H5 := Lib.hid h5
  obtain ⟨kd, on, br, cl, cnt⟩ := xc
  unfold vCore at HCC
  simp only at HCC h3 hmc ⊢
  clear h3 h5 hs
  unfold maxLen at hl
  have BS := Lib.hid (bx_start2 w [.string ⟨kd.toArray⟩, .bool on, .bool br, .slice ra cl.length rc, .int .i64 cnt, .slice sa l.length sc] [.string ⟨#[]⟩, .bool false, .bool false, .slice none 0 0, .int .i64 0, .slice none 0 0] 74 74)
  have CS := Lib.hid (Cop.drw ⟨BS.out.2.2, BS.out.1, BS.out.2.1⟩)
  go_enter Tryz.func136, Tryz.ntmps136
  go_wp2_with fail
  have HO0 := Lib.hid (show ∀ o1 o2, OwnsF cLayer 137 2 (((w.alloc o1).alloc o2).drew.alloc (.cells #[] 137)) (w.heap.size + 1 + 1) (.slice (some ⟨w.heap.size + 1 + 1, 0, none⟩) 0 0) [] from fun o1 o2 => by have h := ownsF_new cLayer 137 2 ((w.alloc o1).alloc o2).drew; simpa using h)
  have q0 := CS.out.p.cell 0 (by simp)
  have q1 := CS.out.p.cell 1 (by simp)
  have q2 := CS.out.p.cell 2 (by simp)
  have q3 := CS.out.p.cell 3 (by simp)
  have q4 := CS.out.p.cell 4 (by simp)
  have q5 := CS.out.p.cell 5 (by simp)
  simp only [List.getElem_cons_zero, List.getElem_cons_succ] at q0 q1 q2 q3 q4 q5
  refine wp_region_any (by kernel_rfl) ?_
  change wpAny _ _ _ _ _ _ _ (World.drew _)
  refine wpAny_take (i := 0) (v := ?_) rfl (by kernel_rfl) (by kernel_rfl) (by kernel_rfl) (fun _ _ _ h => h) (Or.inl ⟨by rfl, ?_⟩) ?_
  rotate_left
  · intro w; go_simp; try (with_reducible rfl)
  refine wpAny_take (i := 4) (v := ?_) rfl (by kernel_rfl) (by kernel_rfl) (by kernel_rfl) (fun _ _ _ h => h) (Or.inl ⟨by rfl, ?_⟩) ?_
  rotate_left
  · intro w; go_simp; try (with_reducible rfl)
  -- GENERATED by gen/ch4cp.py
  refine wpAny_ready (rs := [1, 3, 5]) (by kernel_rfl) (by simp) ?_
  refine AllReady.cons rfl (fun K hK => ?_) ?_
  · go_simp
    refine hK _ _ ?_
    clear hK K
    refine wpAny_ready (rs := [2, 3, 5]) (by kernel_rfl) (by simp) ?_
    refine AllReady.cons rfl (fun K hK => ?_) ?_
    · go_simp
      refine (HCC.out _ CS.out.b).mono ?_
      rintro e w2 ⟨_, rfl, ⟨cv, rfl, ho5⟩, hb5⟩
      obtain ⟨ga, gc, rfl⟩ := slice_of ho5
      have HC5 := Lib.hid (CS.out.below hb5)
      have lp := HC5.out.p.lt
      have lr := HC5.out.r.lt
      have np : ¬ w.heap.size = w2.heap.size := by omega
      have nr : ¬ w.heap.size + 1 = w2.heap.size := by omega
      have q0 := HC5.out.p.cell 0 (by simp)
      have q1 := HC5.out.p.cell 1 (by simp)
      have q2 := HC5.out.p.cell 2 (by simp)
      have q3 := HC5.out.p.cell 3 (by simp)
      have q4 := HC5.out.p.cell 4 (by simp)
      have q5 := HC5.out.p.cell 5 (by simp)
      have r0 := HC5.out.r.cell 0 (by simp)
      have z0 := HC5.out.r.froz 0 (by simp)
      have r1 := HC5.out.r.cell 1 (by simp)
      have z1 := HC5.out.r.froz 1 (by simp)
      have r2 := HC5.out.r.cell 2 (by simp)
      have z2 := HC5.out.r.froz 2 (by simp)
      have r3 := HC5.out.r.cell 3 (by simp)
      have z3 := HC5.out.r.froz 3 (by simp)
      have r4 := HC5.out.r.cell 4 (by simp)
      have z4 := HC5.out.r.froz 4 (by simp)
      have r5 := HC5.out.r.cell 5 (by simp)
      have z5 := HC5.out.r.froz 5 (by simp)
      simp only [List.getElem_cons_zero, List.getElem_cons_succ] at q0 q1 q2 q3 q4 q5 r0 r1 r2 r3 r4 r5
      refine hK _ _ ?_
      clear hK K
      refine wpAny_ready (rs := [3, 5]) (by kernel_rfl) (by simp) ?_
      refine AllReady.cons rfl (fun K hK => ?_) ?_
      · go_simp
        refine hK _ _ ?_
        clear hK K
        refine wpAny_ready (rs := [5]) (by kernel_rfl) (by simp) ?_
        refine AllReady.cons rfl (fun K hK => ?_) ?_
        · go_simp
          refine hK _ _ ?_
          clear hK K
          refine wpAny_ready (rs := [6]) (by kernel_rfl) (by simp) ?_
          refine AllReady.cons rfl (fun K hK => ?_) ?_
          · have P1 := ownsF_base (B' := w.heap.size + 1 + 1) (ownsF_new cLayer 137 2 w2) HC5.out.r.lt
            have P2 := HC5.out.alloc (.cells #[] 137)
            have P3 := SliceAt.below H5.out (good_flat cLayer_len) P2.b (Nat.le_refl _)
            have P4 := P2.r.lt
            refine step_laysN rfl _ _ rfl (w.heap.size + 1 + 1) _ l _ sa sc ?_ P1 ?_ P3 ⟨_, _, rfl⟩ hm P4 ?_
            · simp [Act.eval, Act.put]
            · simp [Act.eval, Act.put]
            intro v4 w4 hO4 hg4
            obtain ⟨ua, uc, rfl⟩ := slice_of hO4
            have HC6 := Lib.hid (P2.grown hg4 (fun g hg => (World.ownsRow.lt P1 g hg).1))
            have lp := HC6.out.p.lt
            have lr := HC6.out.r.lt
            have np : ¬ w.heap.size = w4.heap.size := by omega
            have nr : ¬ w.heap.size + 1 = w4.heap.size := by omega
            have q0 := HC6.out.p.cell 0 (by simp)
            have q1 := HC6.out.p.cell 1 (by simp)
            have q2 := HC6.out.p.cell 2 (by simp)
            have q3 := HC6.out.p.cell 3 (by simp)
            have q4 := HC6.out.p.cell 4 (by simp)
            have q5 := HC6.out.p.cell 5 (by simp)
            have r0 := HC6.out.r.cell 0 (by simp)
            have z0 := HC6.out.r.froz 0 (by simp)
            have r1 := HC6.out.r.cell 1 (by simp)
            have z1 := HC6.out.r.froz 1 (by simp)
            have r2 := HC6.out.r.cell 2 (by simp)
            have z2 := HC6.out.r.froz 2 (by simp)
            have r3 := HC6.out.r.cell 3 (by simp)
            have z3 := HC6.out.r.froz 3 (by simp)
            have r4 := HC6.out.r.cell 4 (by simp)
            have z4 := HC6.out.r.froz 4 (by simp)
            have r5 := HC6.out.r.cell 5 (by simp)
            have z5 := HC6.out.r.froz 5 (by simp)
            simp only [List.getElem_cons_zero, List.getElem_cons_succ] at q0 q1 q2 q3 q4 q5 r0 r1 r2 r3 r4 r5
            refine hK _ _ ?_
            clear hK K
            refine wpAny_ready (rs := [7]) (by kernel_rfl) (by simp) ?_
            refine AllReady.cons rfl (fun K hK => ?_) ?_
            · go_simp
              refine hK _ _ ?_
              clear hK K
              refine wpAny_ready (rs := [8]) (by kernel_rfl) (by simp) ?_
              refine AllReady.cons rfl (fun K hK => ?_) ?_
              · go_simp
                refine hK _ _ ?_
                clear hK K
                refine wpAny_done (by kernel_rfl) ?_ _
                have OC0 := ownsF_keptF (ownsF_alloc ho5 _) P1 hg4 (by decide)
                have E6 := l4_end (kd := kd) (on := on) (br := br) (cnt := cnt) HC6.out (ownsF_base OC0 (by have h1 := CS.out.b.size; simp at h1 ⊢; try omega)) hO4 hmc hm
                clear q0 r0 z0 q1 r1 z1 q2 r2 z2 q3 r3 z3 q4 r4 z4 q5 r5 z5
                generalize ((((((w4.setCell ⟨w.heap.size + 1, 0, none⟩ (.string ⟨kd.toArray⟩)).setCell ⟨w.heap.size + 1, 1, none⟩ (.bool on)).setCell ⟨w.heap.size + 1, 2, none⟩ (.bool br)).setCell ⟨w.heap.size + 1, 3, none⟩ (.slice ga cl.length gc)).setCell ⟨w.heap.size + 1, 4, none⟩ (.int .i64 cnt)).setCell ⟨w.heap.size + 1, 5, none⟩ (.slice ua l.length uc)) = WE at *
                go_wp2_with fail
                obtain ⟨BE, RE, HE⟩ := E6
                have e0 := BE.cell 0 (by simp)
                have e1 := BE.cell 1 (by simp)
                have e2 := BE.cell 2 (by simp)
                have e3 := BE.cell 3 (by simp)
                have e4 := BE.cell 4 (by simp)
                have e5 := BE.cell 5 (by simp)
                simp only [List.getElem_cons_zero, List.getElem_cons_succ] at e0 e1 e2 e3 e4 e5
                exact bodyPost_ret (v := .agg #[.string ⟨kd.toArray⟩, .bool on, .bool br, .slice ga cl.length gc, .int .i64 cnt, .slice ua l.length uc]) (by simp [results, Tryz.results136, go_sem, e0, e1, e2, e3, e4, e5]) rfl ⟨_, rfl, RE, HE⟩
              exact AllReady.nil
            exact AllReady.nil
          exact AllReady.nil
        exact AllReady.nil
      refine AllReady.cons rfl (fun K hK => ?_) ?_
      · go_simp
        refine hK _ _ ?_
        clear hK K
        refine wpAny_ready (rs := [3]) (by kernel_rfl) (by simp) ?_
        refine AllReady.cons rfl (fun K hK => ?_) ?_
        · go_simp
          refine hK _ _ ?_
          clear hK K
          refine wpAny_ready (rs := [6]) (by kernel_rfl) (by simp) ?_
          refine AllReady.cons rfl (fun K hK => ?_) ?_
          · have P1 := ownsF_base (B' := w.heap.size + 1 + 1) (ownsF_new cLayer 137 2 w2) HC5.out.r.lt
            have P2 := HC5.out.alloc (.cells #[] 137)
            have P3 := SliceAt.below H5.out (good_flat cLayer_len) P2.b (Nat.le_refl _)
            have P4 := P2.r.lt
            refine step_laysN rfl _ _ rfl (w.heap.size + 1 + 1) _ l _ sa sc ?_ P1 ?_ P3 ⟨_, _, rfl⟩ hm P4 ?_
            · simp [Act.eval, Act.put]
            · simp [Act.eval, Act.put]
            intro v4 w4 hO4 hg4
            obtain ⟨ua, uc, rfl⟩ := slice_of hO4
            have HC6 := Lib.hid (P2.grown hg4 (fun g hg => (World.ownsRow.lt P1 g hg).1))
            have lp := HC6.out.p.lt
            have lr := HC6.out.r.lt
            have np : ¬ w.heap.size = w4.heap.size := by omega
            have nr : ¬ w.heap.size + 1 = w4.heap.size := by omega
            have q0 := HC6.out.p.cell 0 (by simp)
            have q1 := HC6.out.p.cell 1 (by simp)
            have q2 := HC6.out.p.cell 2 (by simp)
            have q3 := HC6.out.p.cell 3 (by simp)
            have q4 := HC6.out.p.cell 4 (by simp)
            have q5 := HC6.out.p.cell 5 (by simp)
            have r0 := HC6.out.r.cell 0 (by simp)
            have z0 := HC6.out.r.froz 0 (by simp)
            have r1 := HC6.out.r.cell 1 (by simp)
            have z1 := HC6.out.r.froz 1 (by simp)
            have r2 := HC6.out.r.cell 2 (by simp)
            have z2 := HC6.out.r.froz 2 (by simp)
            have r3 := HC6.out.r.cell 3 (by simp)
            have z3 := HC6.out.r.froz 3 (by simp)
            have r4 := HC6.out.r.cell 4 (by simp)
            have z4 := HC6.out.r.froz 4 (by simp)
            have r5 := HC6.out.r.cell 5 (by simp)
            have z5 := HC6.out.r.froz 5 (by simp)
            simp only [List.getElem_cons_zero, List.getElem_cons_succ] at q0 q1 q2 q3 q4 q5 r0 r1 r2 r3 r4 r5
            refine hK _ _ ?_
            clear hK K
            refine wpAny_ready (rs := [7]) (by kernel_rfl) (by simp) ?_
            refine AllReady.cons rfl (fun K hK => ?_) ?_
            · go_simp
              refine hK _ _ ?_
              clear hK K
              refine wpAny_ready (rs := [8]) (by kernel_rfl) (by simp) ?_
              refine AllReady.cons rfl (fun K hK => ?_) ?_
              · go_simp
                refine hK _ _ ?_
                clear hK K
                refine wpAny_done (by kernel_rfl) ?_ _
                have OC0 := ownsF_keptF (ownsF_alloc ho5 _) P1 hg4 (by decide)
                have E6 := l4_end (kd := kd) (on := on) (br := br) (cnt := cnt) HC6.out (ownsF_base OC0 (by have h1 := CS.out.b.size; simp at h1 ⊢; try omega)) hO4 hmc hm
                clear q0 r0 z0 q1 r1 z1 q2 r2 z2 q3 r3 z3 q4 r4 z4 q5 r5 z5
                generalize ((((((w4.setCell ⟨w.heap.size + 1, 0, none⟩ (.string ⟨kd.toArray⟩)).setCell ⟨w.heap.size + 1, 1, none⟩ (.bool on)).setCell ⟨w.heap.size + 1, 2, none⟩ (.bool br)).setCell ⟨w.heap.size + 1, 3, none⟩ (.slice ga cl.length gc)).setCell ⟨w.heap.size + 1, 4, none⟩ (.int .i64 cnt)).setCell ⟨w.heap.size + 1, 5, none⟩ (.slice ua l.length uc)) = WE at *
                go_wp2_with fail
                obtain ⟨BE, RE, HE⟩ := E6
                have e0 := BE.cell 0 (by simp)
                have e1 := BE.cell 1 (by simp)
                have e2 := BE.cell 2 (by simp)
                have e3 := BE.cell 3 (by simp)
                have e4 := BE.cell 4 (by simp)
                have e5 := BE.cell 5 (by simp)
                simp only [List.getElem_cons_zero, List.getElem_cons_succ] at e0 e1 e2 e3 e4 e5
                exact bodyPost_ret (v := .agg #[.string ⟨kd.toArray⟩, .bool on, .bool br, .slice ga cl.length gc, .int .i64 cnt, .slice ua l.length uc]) (by simp [results, Tryz.results136, go_sem, e0, e1, e2, e3, e4, e5]) rfl ⟨_, rfl, RE, HE⟩
              exact AllReady.nil
            exact AllReady.nil
          exact AllReady.nil
        exact AllReady.nil
      exact AllReady.nil
    refine AllReady.cons rfl (fun K hK => ?_) ?_
    · go_simp
      refine hK _ _ ?_
      clear hK K
      refine wpAny_ready (rs := [2, 5]) (by kernel_rfl) (by simp) ?_
      refine AllReady.cons rfl (fun K hK => ?_) ?_
      · go_simp
        refine (HCC.out _ (CS.out.alloc _).b).mono ?_
        rintro e w2 ⟨_, rfl, ⟨cv, rfl, ho5⟩, hb5⟩
        obtain ⟨ga, gc, rfl⟩ := slice_of ho5
        have HC5 := Lib.hid ((CS.out.alloc _).below hb5)
        have lp := HC5.out.p.lt
        have lr := HC5.out.r.lt
        have np : ¬ w.heap.size = w2.heap.size := by omega
        have nr : ¬ w.heap.size + 1 = w2.heap.size := by omega
        have q0 := HC5.out.p.cell 0 (by simp)
        have q1 := HC5.out.p.cell 1 (by simp)
        have q2 := HC5.out.p.cell 2 (by simp)
        have q3 := HC5.out.p.cell 3 (by simp)
        have q4 := HC5.out.p.cell 4 (by simp)
        have q5 := HC5.out.p.cell 5 (by simp)
        have r0 := HC5.out.r.cell 0 (by simp)
        have z0 := HC5.out.r.froz 0 (by simp)
        have r1 := HC5.out.r.cell 1 (by simp)
        have z1 := HC5.out.r.froz 1 (by simp)
        have r2 := HC5.out.r.cell 2 (by simp)
        have z2 := HC5.out.r.froz 2 (by simp)
        have r3 := HC5.out.r.cell 3 (by simp)
        have z3 := HC5.out.r.froz 3 (by simp)
        have r4 := HC5.out.r.cell 4 (by simp)
        have z4 := HC5.out.r.froz 4 (by simp)
        have r5 := HC5.out.r.cell 5 (by simp)
        have z5 := HC5.out.r.froz 5 (by simp)
        simp only [List.getElem_cons_zero, List.getElem_cons_succ] at q0 q1 q2 q3 q4 q5 r0 r1 r2 r3 r4 r5
        refine hK _ _ ?_
        clear hK K
        refine wpAny_ready (rs := [5]) (by kernel_rfl) (by simp) ?_
        refine AllReady.cons rfl (fun K hK => ?_) ?_
        · go_simp
          refine hK _ _ ?_
          clear hK K
          refine wpAny_ready (rs := [6]) (by kernel_rfl) (by simp) ?_
          refine AllReady.cons rfl (fun K hK => ?_) ?_
          · have P1 := ownsF_below (HO0.out _ _) hb5 (Nat.le_refl _)
            have P2 := HC5.out
            have P3 := SliceAt.below H5.out (good_flat cLayer_len) P2.b (Nat.le_refl _)
            have P4 := P2.r.lt
            refine step_laysN rfl _ _ rfl (w.heap.size + 1 + 1) _ l _ sa sc ?_ P1 ?_ P3 ⟨_, _, rfl⟩ hm P4 ?_
            · simp [Act.eval, Act.put]
            · simp [Act.eval, Act.put]
            intro v4 w4 hO4 hg4
            obtain ⟨ua, uc, rfl⟩ := slice_of hO4
            have HC6 := Lib.hid (P2.grown hg4 (fun g hg => (World.ownsRow.lt P1 g hg).1))
            have lp := HC6.out.p.lt
            have lr := HC6.out.r.lt
            have np : ¬ w.heap.size = w4.heap.size := by omega
            have nr : ¬ w.heap.size + 1 = w4.heap.size := by omega
            have q0 := HC6.out.p.cell 0 (by simp)
            have q1 := HC6.out.p.cell 1 (by simp)
            have q2 := HC6.out.p.cell 2 (by simp)
            have q3 := HC6.out.p.cell 3 (by simp)
            have q4 := HC6.out.p.cell 4 (by simp)
            have q5 := HC6.out.p.cell 5 (by simp)
            have r0 := HC6.out.r.cell 0 (by simp)
            have z0 := HC6.out.r.froz 0 (by simp)
            have r1 := HC6.out.r.cell 1 (by simp)
            have z1 := HC6.out.r.froz 1 (by simp)
            have r2 := HC6.out.r.cell 2 (by simp)
            have z2 := HC6.out.r.froz 2 (by simp)
            have r3 := HC6.out.r.cell 3 (by simp)
            have z3 := HC6.out.r.froz 3 (by simp)
            have r4 := HC6.out.r.cell 4 (by simp)
            have z4 := HC6.out.r.froz 4 (by simp)
            have r5 := HC6.out.r.cell 5 (by simp)
            have z5 := HC6.out.r.froz 5 (by simp)
            simp only [List.getElem_cons_zero, List.getElem_cons_succ] at q0 q1 q2 q3 q4 q5 r0 r1 r2 r3 r4 r5
            refine hK _ _ ?_
            clear hK K
            refine wpAny_ready (rs := [7]) (by kernel_rfl) (by simp) ?_
            refine AllReady.cons rfl (fun K hK => ?_) ?_
            · go_simp
              refine hK _ _ ?_
              clear hK K
              refine wpAny_ready (rs := [8]) (by kernel_rfl) (by simp) ?_
              refine AllReady.cons rfl (fun K hK => ?_) ?_
              · go_simp
                refine hK _ _ ?_
                clear hK K
                refine wpAny_done (by kernel_rfl) ?_ _
                have OC0 := ownsF_keptF ho5 P1 hg4 (by decide)
                have E6 := l4_end (kd := kd) (on := on) (br := br) (cnt := cnt) HC6.out (ownsF_base OC0 (by have h1 := CS.out.b.size; simp at h1 ⊢; try omega)) hO4 hmc hm
                clear q0 r0 z0 q1 r1 z1 q2 r2 z2 q3 r3 z3 q4 r4 z4 q5 r5 z5
                generalize ((((((w4.setCell ⟨w.heap.size + 1, 0, none⟩ (.string ⟨kd.toArray⟩)).setCell ⟨w.heap.size + 1, 1, none⟩ (.bool on)).setCell ⟨w.heap.size + 1, 2, none⟩ (.bool br)).setCell ⟨w.heap.size + 1, 3, none⟩ (.slice ga cl.length gc)).setCell ⟨w.heap.size + 1, 4, none⟩ (.int .i64 cnt)).setCell ⟨w.heap.size + 1, 5, none⟩ (.slice ua l.length uc)) = WE at *
                go_wp2_with fail
                obtain ⟨BE, RE, HE⟩ := E6
                have e0 := BE.cell 0 (by simp)
                have e1 := BE.cell 1 (by simp)
                have e2 := BE.cell 2 (by simp)
                have e3 := BE.cell 3 (by simp)
                have e4 := BE.cell 4 (by simp)
                have e5 := BE.cell 5 (by simp)
                simp only [List.getElem_cons_zero, List.getElem_cons_succ] at e0 e1 e2 e3 e4 e5
                exact bodyPost_ret (v := .agg #[.string ⟨kd.toArray⟩, .bool on, .bool br, .slice ga cl.length gc, .int .i64 cnt, .slice ua l.length uc]) (by simp [results, Tryz.results136, go_sem, e0, e1, e2, e3, e4, e5]) rfl ⟨_, rfl, RE, HE⟩
              exact AllReady.nil
            exact AllReady.nil
          exact AllReady.nil
        exact AllReady.nil
      refine AllReady.cons rfl (fun K hK => ?_) ?_
      · go_simp
        refine hK _ _ ?_
        clear hK K
        refine wpAny_ready (rs := [2]) (by kernel_rfl) (by simp) ?_
        refine AllReady.cons rfl (fun K hK => ?_) ?_
        · go_simp
          refine (HCC.out _ (CS.out.alloc _).b).mono ?_
          rintro e w2 ⟨_, rfl, ⟨cv, rfl, ho5⟩, hb5⟩
          obtain ⟨ga, gc, rfl⟩ := slice_of ho5
          have HC5 := Lib.hid ((CS.out.alloc _).below hb5)
          have lp := HC5.out.p.lt
          have lr := HC5.out.r.lt
          have np : ¬ w.heap.size = w2.heap.size := by omega
          have nr : ¬ w.heap.size + 1 = w2.heap.size := by omega
          have q0 := HC5.out.p.cell 0 (by simp)
          have q1 := HC5.out.p.cell 1 (by simp)
          have q2 := HC5.out.p.cell 2 (by simp)
          have q3 := HC5.out.p.cell 3 (by simp)
          have q4 := HC5.out.p.cell 4 (by simp)
          have q5 := HC5.out.p.cell 5 (by simp)
          have r0 := HC5.out.r.cell 0 (by simp)
          have z0 := HC5.out.r.froz 0 (by simp)
          have r1 := HC5.out.r.cell 1 (by simp)
          have z1 := HC5.out.r.froz 1 (by simp)
          have r2 := HC5.out.r.cell 2 (by simp)
          have z2 := HC5.out.r.froz 2 (by simp)
          have r3 := HC5.out.r.cell 3 (by simp)
          have z3 := HC5.out.r.froz 3 (by simp)
          have r4 := HC5.out.r.cell 4 (by simp)
          have z4 := HC5.out.r.froz 4 (by simp)
          have r5 := HC5.out.r.cell 5 (by simp)
          have z5 := HC5.out.r.froz 5 (by simp)
          simp only [List.getElem_cons_zero, List.getElem_cons_succ] at q0 q1 q2 q3 q4 q5 r0 r1 r2 r3 r4 r5
          refine hK _ _ ?_
          clear hK K
          refine wpAny_ready (rs := [6]) (by kernel_rfl) (by simp) ?_
          refine AllReady.cons rfl (fun K hK => ?_) ?_
          · have P1 := ownsF_below (HO0.out _ _) hb5 (Nat.le_refl _)
            have P2 := HC5.out
            have P3 := SliceAt.below H5.out (good_flat cLayer_len) P2.b (Nat.le_refl _)
            have P4 := P2.r.lt
            refine step_laysN rfl _ _ rfl (w.heap.size + 1 + 1) _ l _ sa sc ?_ P1 ?_ P3 ⟨_, _, rfl⟩ hm P4 ?_
            · simp [Act.eval, Act.put]
            · simp [Act.eval, Act.put]
            intro v4 w4 hO4 hg4
            obtain ⟨ua, uc, rfl⟩ := slice_of hO4
            have HC6 := Lib.hid (P2.grown hg4 (fun g hg => (World.ownsRow.lt P1 g hg).1))
            have lp := HC6.out.p.lt
            have lr := HC6.out.r.lt
            have np : ¬ w.heap.size = w4.heap.size := by omega
            have nr : ¬ w.heap.size + 1 = w4.heap.size := by omega
            have q0 := HC6.out.p.cell 0 (by simp)
            have q1 := HC6.out.p.cell 1 (by simp)
            have q2 := HC6.out.p.cell 2 (by simp)
            have q3 := HC6.out.p.cell 3 (by simp)
            have q4 := HC6.out.p.cell 4 (by simp)
            have q5 := HC6.out.p.cell 5 (by simp)
            have r0 := HC6.out.r.cell 0 (by simp)
            have z0 := HC6.out.r.froz 0 (by simp)
            have r1 := HC6.out.r.cell 1 (by simp)
            have z1 := HC6.out.r.froz 1 (by simp)
            have r2 := HC6.out.r.cell 2 (by simp)
            have z2 := HC6.out.r.froz 2 (by simp)
            have r3 := HC6.out.r.cell 3 (by simp)
            have z3 := HC6.out.r.froz 3 (by simp)
            have r4 := HC6.out.r.cell 4 (by simp)
            have z4 := HC6.out.r.froz 4 (by simp)
            have r5 := HC6.out.r.cell 5 (by simp)
            have z5 := HC6.out.r.froz 5 (by simp)
            simp only [List.getElem_cons_zero, List.getElem_cons_succ] at q0 q1 q2 q3 q4 q5 r0 r1 r2 r3 r4 r5
            refine hK _ _ ?_
            clear hK K
            refine wpAny_ready (rs := [7]) (by kernel_rfl) (by simp) ?_
            refine AllReady.cons rfl (fun K hK => ?_) ?_
            · go_simp
              refine hK _ _ ?_
              clear hK K
              refine wpAny_ready (rs := [8]) (by kernel_rfl) (by simp) ?_
              refine AllReady.cons rfl (fun K hK => ?_) ?_
              · go_simp
                refine hK _ _ ?_
                clear hK K
                refine wpAny_done (by kernel_rfl) ?_ _
                have OC0 := ownsF_keptF ho5 P1 hg4 (by decide)
                have E6 := l4_end (kd := kd) (on := on) (br := br) (cnt := cnt) HC6.out (ownsF_base OC0 (by have h1 := CS.out.b.size; simp at h1 ⊢; try omega)) hO4 hmc hm
                clear q0 r0 z0 q1 r1 z1 q2 r2 z2 q3 r3 z3 q4 r4 z4 q5 r5 z5
                generalize ((((((w4.setCell ⟨w.heap.size + 1, 0, none⟩ (.string ⟨kd.toArray⟩)).setCell ⟨w.heap.size + 1, 1, none⟩ (.bool on)).setCell ⟨w.heap.size + 1, 2, none⟩ (.bool br)).setCell ⟨w.heap.size + 1, 3, none⟩ (.slice ga cl.length gc)).setCell ⟨w.heap.size + 1, 4, none⟩ (.int .i64 cnt)).setCell ⟨w.heap.size + 1, 5, none⟩ (.slice ua l.length uc)) = WE at *
                go_wp2_with fail
                obtain ⟨BE, RE, HE⟩ := E6
                have e0 := BE.cell 0 (by simp)
                have e1 := BE.cell 1 (by simp)
                have e2 := BE.cell 2 (by simp)
                have e3 := BE.cell 3 (by simp)
                have e4 := BE.cell 4 (by simp)
                have e5 := BE.cell 5 (by simp)
                simp only [List.getElem_cons_zero, List.getElem_cons_succ] at e0 e1 e2 e3 e4 e5
                exact bodyPost_ret (v := .agg #[.string ⟨kd.toArray⟩, .bool on, .bool br, .slice ga cl.length gc, .int .i64 cnt, .slice ua l.length uc]) (by simp [results, Tryz.results136, go_sem, e0, e1, e2, e3, e4, e5]) rfl ⟨_, rfl, RE, HE⟩
              exact AllReady.nil
            exact AllReady.nil
          exact AllReady.nil
        exact AllReady.nil
      exact AllReady.nil
    refine AllReady.cons rfl (fun K hK => ?_) ?_
    · go_simp
      refine hK _ _ ?_
      clear hK K
      refine wpAny_ready (rs := [2, 3]) (by kernel_rfl) (by simp) ?_
      refine AllReady.cons rfl (fun K hK => ?_) ?_
      · go_simp
        refine (HCC.out _ CS.out.b).mono ?_
        rintro e w2 ⟨_, rfl, ⟨cv, rfl, ho5⟩, hb5⟩
        obtain ⟨ga, gc, rfl⟩ := slice_of ho5
        have HC5 := Lib.hid (CS.out.below hb5)
        have lp := HC5.out.p.lt
        have lr := HC5.out.r.lt
        have np : ¬ w.heap.size = w2.heap.size := by omega
        have nr : ¬ w.heap.size + 1 = w2.heap.size := by omega
        have q0 := HC5.out.p.cell 0 (by simp)
        have q1 := HC5.out.p.cell 1 (by simp)
        have q2 := HC5.out.p.cell 2 (by simp)
        have q3 := HC5.out.p.cell 3 (by simp)
        have q4 := HC5.out.p.cell 4 (by simp)
        have q5 := HC5.out.p.cell 5 (by simp)
        have r0 := HC5.out.r.cell 0 (by simp)
        have z0 := HC5.out.r.froz 0 (by simp)
        have r1 := HC5.out.r.cell 1 (by simp)
        have z1 := HC5.out.r.froz 1 (by simp)
        have r2 := HC5.out.r.cell 2 (by simp)
        have z2 := HC5.out.r.froz 2 (by simp)
        have r3 := HC5.out.r.cell 3 (by simp)
        have z3 := HC5.out.r.froz 3 (by simp)
        have r4 := HC5.out.r.cell 4 (by simp)
        have z4 := HC5.out.r.froz 4 (by simp)
        have r5 := HC5.out.r.cell 5 (by simp)
        have z5 := HC5.out.r.froz 5 (by simp)
        simp only [List.getElem_cons_zero, List.getElem_cons_succ] at q0 q1 q2 q3 q4 q5 r0 r1 r2 r3 r4 r5
        refine hK _ _ ?_
        clear hK K
        refine wpAny_ready (rs := [3]) (by kernel_rfl) (by simp) ?_
        refine AllReady.cons rfl (fun K hK => ?_) ?_
        · go_simp
          refine hK _ _ ?_
          clear hK K
          refine wpAny_ready (rs := [6]) (by kernel_rfl) (by simp) ?_
          refine AllReady.cons rfl (fun K hK => ?_) ?_
          · have P1 := ownsF_base (B' := w.heap.size + 1 + 1) (ownsF_new cLayer 137 2 w2) HC5.out.r.lt
            have P2 := HC5.out.alloc (.cells #[] 137)
            have P3 := SliceAt.below H5.out (good_flat cLayer_len) P2.b (Nat.le_refl _)
            have P4 := P2.r.lt
            refine step_laysN rfl _ _ rfl (w.heap.size + 1 + 1) _ l _ sa sc ?_ P1 ?_ P3 ⟨_, _, rfl⟩ hm P4 ?_
            · simp [Act.eval, Act.put]
            · simp [Act.eval, Act.put]
            intro v4 w4 hO4 hg4
            obtain ⟨ua, uc, rfl⟩ := slice_of hO4
            have HC6 := Lib.hid (P2.grown hg4 (fun g hg => (World.ownsRow.lt P1 g hg).1))
            have lp := HC6.out.p.lt
            have lr := HC6.out.r.lt
            have np : ¬ w.heap.size = w4.heap.size := by omega
            have nr : ¬ w.heap.size + 1 = w4.heap.size := by omega
            have q0 := HC6.out.p.cell 0 (by simp)
            have q1 := HC6.out.p.cell 1 (by simp)
            have q2 := HC6.out.p.cell 2 (by simp)
            have q3 := HC6.out.p.cell 3 (by simp)
            have q4 := HC6.out.p.cell 4 (by simp)
            have q5 := HC6.out.p.cell 5 (by simp)
            have r0 := HC6.out.r.cell 0 (by simp)
            have z0 := HC6.out.r.froz 0 (by simp)
            have r1 := HC6.out.r.cell 1 (by simp)
            have z1 := HC6.out.r.froz 1 (by simp)
            have r2 := HC6.out.r.cell 2 (by simp)
            have z2 := HC6.out.r.froz 2 (by simp)
            have r3 := HC6.out.r.cell 3 (by simp)
            have z3 := HC6.out.r.froz 3 (by simp)
            have r4 := HC6.out.r.cell 4 (by simp)
            have z4 := HC6.out.r.froz 4 (by simp)
            have r5 := HC6.out.r.cell 5 (by simp)
            have z5 := HC6.out.r.froz 5 (by simp)
            simp only [List.getElem_cons_zero, List.getElem_cons_succ] at q0 q1 q2 q3 q4 q5 r0 r1 r2 r3 r4 r5
            refine hK _ _ ?_
            clear hK K
            refine wpAny_ready (rs := [7]) (by kernel_rfl) (by simp) ?_
            refine AllReady.cons rfl (fun K hK => ?_) ?_
            · go_simp
              refine hK _ _ ?_
              clear hK K
              refine wpAny_ready (rs := [8]) (by kernel_rfl) (by simp) ?_
              refine AllReady.cons rfl (fun K hK => ?_) ?_
              · go_simp
                refine hK _ _ ?_
                clear hK K
                refine wpAny_done (by kernel_rfl) ?_ _
                have OC0 := ownsF_keptF (ownsF_alloc ho5 _) P1 hg4 (by decide)
                have E6 := l4_end (kd := kd) (on := on) (br := br) (cnt := cnt) HC6.out (ownsF_base OC0 (by have h1 := CS.out.b.size; simp at h1 ⊢; try omega)) hO4 hmc hm
                clear q0 r0 z0 q1 r1 z1 q2 r2 z2 q3 r3 z3 q4 r4 z4 q5 r5 z5
                generalize ((((((w4.setCell ⟨w.heap.size + 1, 0, none⟩ (.string ⟨kd.toArray⟩)).setCell ⟨w.heap.size + 1, 1, none⟩ (.bool on)).setCell ⟨w.heap.size + 1, 2, none⟩ (.bool br)).setCell ⟨w.heap.size + 1, 3, none⟩ (.slice ga cl.length gc)).setCell ⟨w.heap.size + 1, 4, none⟩ (.int .i64 cnt)).setCell ⟨w.heap.size + 1, 5, none⟩ (.slice ua l.length uc)) = WE at *
                go_wp2_with fail
                obtain ⟨BE, RE, HE⟩ := E6
                have e0 := BE.cell 0 (by simp)
                have e1 := BE.cell 1 (by simp)
                have e2 := BE.cell 2 (by simp)
                have e3 := BE.cell 3 (by simp)
                have e4 := BE.cell 4 (by simp)
                have e5 := BE.cell 5 (by simp)
                simp only [List.getElem_cons_zero, List.getElem_cons_succ] at e0 e1 e2 e3 e4 e5
                exact bodyPost_ret (v := .agg #[.string ⟨kd.toArray⟩, .bool on, .bool br, .slice ga cl.length gc, .int .i64 cnt, .slice ua l.length uc]) (by simp [results, Tryz.results136, go_sem, e0, e1, e2, e3, e4, e5]) rfl ⟨_, rfl, RE, HE⟩
              exact AllReady.nil
            exact AllReady.nil
          exact AllReady.nil
        exact AllReady.nil
      refine AllReady.cons rfl (fun K hK => ?_) ?_
      · go_simp
        refine hK _ _ ?_
        clear hK K
        refine wpAny_ready (rs := [2]) (by kernel_rfl) (by simp) ?_
        refine AllReady.cons rfl (fun K hK => ?_) ?_
        · go_simp
          refine (HCC.out _ (CS.out.alloc _).b).mono ?_
          rintro e w2 ⟨_, rfl, ⟨cv, rfl, ho5⟩, hb5⟩
          obtain ⟨ga, gc, rfl⟩ := slice_of ho5
          have HC5 := Lib.hid ((CS.out.alloc _).below hb5)
          have lp := HC5.out.p.lt
          have lr := HC5.out.r.lt
          have np : ¬ w.heap.size = w2.heap.size := by omega
          have nr : ¬ w.heap.size + 1 = w2.heap.size := by omega
          have q0 := HC5.out.p.cell 0 (by simp)
          have q1 := HC5.out.p.cell 1 (by simp)
          have q2 := HC5.out.p.cell 2 (by simp)
          have q3 := HC5.out.p.cell 3 (by simp)
          have q4 := HC5.out.p.cell 4 (by simp)
          have q5 := HC5.out.p.cell 5 (by simp)
          have r0 := HC5.out.r.cell 0 (by simp)
          have z0 := HC5.out.r.froz 0 (by simp)
          have r1 := HC5.out.r.cell 1 (by simp)
          have z1 := HC5.out.r.froz 1 (by simp)
          have r2 := HC5.out.r.cell 2 (by simp)
          have z2 := HC5.out.r.froz 2 (by simp)
          have r3 := HC5.out.r.cell 3 (by simp)
          have z3 := HC5.out.r.froz 3 (by simp)
          have r4 := HC5.out.r.cell 4 (by simp)
          have z4 := HC5.out.r.froz 4 (by simp)
          have r5 := HC5.out.r.cell 5 (by simp)
          have z5 := HC5.out.r.froz 5 (by simp)
          simp only [List.getElem_cons_zero, List.getElem_cons_succ] at q0 q1 q2 q3 q4 q5 r0 r1 r2 r3 r4 r5
          refine hK _ _ ?_
          clear hK K
          refine wpAny_ready (rs := [6]) (by kernel_rfl) (by simp) ?_
          refine AllReady.cons rfl (fun K hK => ?_) ?_
          · have P1 := ownsF_below (HO0.out _ _) hb5 (Nat.le_refl _)
            have P2 := HC5.out
            have P3 := SliceAt.below H5.out (good_flat cLayer_len) P2.b (Nat.le_refl _)
            have P4 := P2.r.lt
            refine step_laysN rfl _ _ rfl (w.heap.size + 1 + 1) _ l _ sa sc ?_ P1 ?_ P3 ⟨_, _, rfl⟩ hm P4 ?_
            · simp [Act.eval, Act.put]
            · simp [Act.eval, Act.put]
            intro v4 w4 hO4 hg4
            obtain ⟨ua, uc, rfl⟩ := slice_of hO4
            have HC6 := Lib.hid (P2.grown hg4 (fun g hg => (World.ownsRow.lt P1 g hg).1))
            have lp := HC6.out.p.lt
            have lr := HC6.out.r.lt
            have np : ¬ w.heap.size = w4.heap.size := by omega
            have nr : ¬ w.heap.size + 1 = w4.heap.size := by omega
            have q0 := HC6.out.p.cell 0 (by simp)
            have q1 := HC6.out.p.cell 1 (by simp)
            have q2 := HC6.out.p.cell 2 (by simp)
            have q3 := HC6.out.p.cell 3 (by simp)
            have q4 := HC6.out.p.cell 4 (by simp)
            have q5 := HC6.out.p.cell 5 (by simp)
            have r0 := HC6.out.r.cell 0 (by simp)
            have z0 := HC6.out.r.froz 0 (by simp)
            have r1 := HC6.out.r.cell 1 (by simp)
            have z1 := HC6.out.r.froz 1 (by simp)
            have r2 := HC6.out.r.cell 2 (by simp)
            have z2 := HC6.out.r.froz 2 (by simp)
            have r3 := HC6.out.r.cell 3 (by simp)
            have z3 := HC6.out.r.froz 3 (by simp)
            have r4 := HC6.out.r.cell 4 (by simp)
            have z4 := HC6.out.r.froz 4 (by simp)
            have r5 := HC6.out.r.cell 5 (by simp)
            have z5 := HC6.out.r.froz 5 (by simp)
            simp only [List.getElem_cons_zero, List.getElem_cons_succ] at q0 q1 q2 q3 q4 q5 r0 r1 r2 r3 r4 r5
            refine hK _ _ ?_
            clear hK K
            refine wpAny_ready (rs := [7]) (by kernel_rfl) (by simp) ?_
            refine AllReady.cons rfl (fun K hK => ?_) ?_
            · go_simp
              refine hK _ _ ?_
              clear hK K
              refine wpAny_ready (rs := [8]) (by kernel_rfl) (by simp) ?_
              refine AllReady.cons rfl (fun K hK => ?_) ?_
              · go_simp
                refine hK _ _ ?_
                clear hK K
                refine wpAny_done (by kernel_rfl) ?_ _
                have OC0 := ownsF_keptF ho5 P1 hg4 (by decide)
                have E6 := l4_end (kd := kd) (on := on) (br := br) (cnt := cnt) HC6.out (ownsF_base OC0 (by have h1 := CS.out.b.size; simp at h1 ⊢; try omega)) hO4 hmc hm
                clear q0 r0 z0 q1 r1 z1 q2 r2 z2 q3 r3 z3 q4 r4 z4 q5 r5 z5
                generalize ((((((w4.setCell ⟨w.heap.size + 1, 0, none⟩ (.string ⟨kd.toArray⟩)).setCell ⟨w.heap.size + 1, 1, none⟩ (.bool on)).setCell ⟨w.heap.size + 1, 2, none⟩ (.bool br)).setCell ⟨w.heap.size + 1, 3, none⟩ (.slice ga cl.length gc)).setCell ⟨w.heap.size + 1, 4, none⟩ (.int .i64 cnt)).setCell ⟨w.heap.size + 1, 5, none⟩ (.slice ua l.length uc)) = WE at *
                go_wp2_with fail
                obtain ⟨BE, RE, HE⟩ := E6
                have e0 := BE.cell 0 (by simp)
                have e1 := BE.cell 1 (by simp)
                have e2 := BE.cell 2 (by simp)
                have e3 := BE.cell 3 (by simp)
                have e4 := BE.cell 4 (by simp)
                have e5 := BE.cell 5 (by simp)
                simp only [List.getElem_cons_zero, List.getElem_cons_succ] at e0 e1 e2 e3 e4 e5
                exact bodyPost_ret (v := .agg #[.string ⟨kd.toArray⟩, .bool on, .bool br, .slice ga cl.length gc, .int .i64 cnt, .slice ua l.length uc]) (by simp [results, Tryz.results136, go_sem, e0, e1, e2, e3, e4, e5]) rfl ⟨_, rfl, RE, HE⟩
              exact AllReady.nil
            exact AllReady.nil
          exact AllReady.nil
        exact AllReady.nil
      exact AllReady.nil
    exact AllReady.nil
  refine AllReady.cons rfl (fun K hK => ?_) ?_
  · go_simp
    refine hK _ _ ?_
    clear hK K
    refine wpAny_ready (rs := [1, 5]) (by kernel_rfl) (by simp) ?_
    refine AllReady.cons rfl (fun K hK => ?_) ?_
    · go_simp
      refine hK _ _ ?_
      clear hK K
      refine wpAny_ready (rs := [2, 5]) (by kernel_rfl) (by simp) ?_
      refine AllReady.cons rfl (fun K hK => ?_) ?_
      · go_simp
        refine (HCC.out _ (CS.out.alloc _).b).mono ?_
        rintro e w2 ⟨_, rfl, ⟨cv, rfl, ho5⟩, hb5⟩
        obtain ⟨ga, gc, rfl⟩ := slice_of ho5
        have HC5 := Lib.hid ((CS.out.alloc _).below hb5)
        have lp := HC5.out.p.lt
        have lr := HC5.out.r.lt
        have np : ¬ w.heap.size = w2.heap.size := by omega
        have nr : ¬ w.heap.size + 1 = w2.heap.size := by omega
        have q0 := HC5.out.p.cell 0 (by simp)
        have q1 := HC5.out.p.cell 1 (by simp)
        have q2 := HC5.out.p.cell 2 (by simp)
        have q3 := HC5.out.p.cell 3 (by simp)
        have q4 := HC5.out.p.cell 4 (by simp)
        have q5 := HC5.out.p.cell 5 (by simp)
        have r0 := HC5.out.r.cell 0 (by simp)
        have z0 := HC5.out.r.froz 0 (by simp)
        have r1 := HC5.out.r.cell 1 (by simp)
        have z1 := HC5.out.r.froz 1 (by simp)
        have r2 := HC5.out.r.cell 2 (by simp)
        have z2 := HC5.out.r.froz 2 (by simp)
        have r3 := HC5.out.r.cell 3 (by simp)
        have z3 := HC5.out.r.froz 3 (by simp)
        have r4 := HC5.out.r.cell 4 (by simp)
        have z4 := HC5.out.r.froz 4 (by simp)
        have r5 := HC5.out.r.cell 5 (by simp)
        have z5 := HC5.out.r.froz 5 (by simp)
        simp only [List.getElem_cons_zero, List.getElem_cons_succ] at q0 q1 q2 q3 q4 q5 r0 r1 r2 r3 r4 r5
        refine hK _ _ ?_
        clear hK K
        refine wpAny_ready (rs := [5]) (by kernel_rfl) (by simp) ?_
        refine AllReady.cons rfl (fun K hK => ?_) ?_
        · go_simp
          refine hK _ _ ?_
          clear hK K
          refine wpAny_ready (rs := [6]) (by kernel_rfl) (by simp) ?_
          refine AllReady.cons rfl (fun K hK => ?_) ?_
          · have P1 := ownsF_below (HO0.out _ _) hb5 (Nat.le_refl _)
            have P2 := HC5.out
            have P3 := SliceAt.below H5.out (good_flat cLayer_len) P2.b (Nat.le_refl _)
            have P4 := P2.r.lt
            refine step_laysN rfl _ _ rfl (w.heap.size + 1 + 1) _ l _ sa sc ?_ P1 ?_ P3 ⟨_, _, rfl⟩ hm P4 ?_
            · simp [Act.eval, Act.put]
            · simp [Act.eval, Act.put]
            intro v4 w4 hO4 hg4
            obtain ⟨ua, uc, rfl⟩ := slice_of hO4
            have HC6 := Lib.hid (P2.grown hg4 (fun g hg => (World.ownsRow.lt P1 g hg).1))
            have lp := HC6.out.p.lt
            have lr := HC6.out.r.lt
            have np : ¬ w.heap.size = w4.heap.size := by omega
            have nr : ¬ w.heap.size + 1 = w4.heap.size := by omega
            have q0 := HC6.out.p.cell 0 (by simp)
            have q1 := HC6.out.p.cell 1 (by simp)
            have q2 := HC6.out.p.cell 2 (by simp)
            have q3 := HC6.out.p.cell 3 (by simp)
            have q4 := HC6.out.p.cell 4 (by simp)
            have q5 := HC6.out.p.cell 5 (by simp)
            have r0 := HC6.out.r.cell 0 (by simp)
            have z0 := HC6.out.r.froz 0 (by simp)
            have r1 := HC6.out.r.cell 1 (by simp)
            have z1 := HC6.out.r.froz 1 (by simp)
            have r2 := HC6.out.r.cell 2 (by simp)
            have z2 := HC6.out.r.froz 2 (by simp)
            have r3 := HC6.out.r.cell 3 (by simp)
            have z3 := HC6.out.r.froz 3 (by simp)
            have r4 := HC6.out.r.cell 4 (by simp)
            have z4 := HC6.out.r.froz 4 (by simp)
            have r5 := HC6.out.r.cell 5 (by simp)
            have z5 := HC6.out.r.froz 5 (by simp)
            simp only [List.getElem_cons_zero, List.getElem_cons_succ] at q0 q1 q2 q3 q4 q5 r0 r1 r2 r3 r4 r5
            refine hK _ _ ?_
            clear hK K
            refine wpAny_ready (rs := [7]) (by kernel_rfl) (by simp) ?_
            refine AllReady.cons rfl (fun K hK => ?_) ?_
            · go_simp
              refine hK _ _ ?_
              clear hK K
              refine wpAny_ready (rs := [8]) (by kernel_rfl) (by simp) ?_
              refine AllReady.cons rfl (fun K hK => ?_) ?_
              · go_simp
                refine hK _ _ ?_
                clear hK K
                refine wpAny_done (by kernel_rfl) ?_ _
                have OC0 := ownsF_keptF ho5 P1 hg4 (by decide)
                have E6 := l4_end (kd := kd) (on := on) (br := br) (cnt := cnt) HC6.out (ownsF_base OC0 (by have h1 := CS.out.b.size; simp at h1 ⊢; try omega)) hO4 hmc hm
                clear q0 r0 z0 q1 r1 z1 q2 r2 z2 q3 r3 z3 q4 r4 z4 q5 r5 z5
                generalize ((((((w4.setCell ⟨w.heap.size + 1, 0, none⟩ (.string ⟨kd.toArray⟩)).setCell ⟨w.heap.size + 1, 1, none⟩ (.bool on)).setCell ⟨w.heap.size + 1, 2, none⟩ (.bool br)).setCell ⟨w.heap.size + 1, 3, none⟩ (.slice ga cl.length gc)).setCell ⟨w.heap.size + 1, 4, none⟩ (.int .i64 cnt)).setCell ⟨w.heap.size + 1, 5, none⟩ (.slice ua l.length uc)) = WE at *
                go_wp2_with fail
                obtain ⟨BE, RE, HE⟩ := E6
                have e0 := BE.cell 0 (by simp)
                have e1 := BE.cell 1 (by simp)
                have e2 := BE.cell 2 (by simp)
                have e3 := BE.cell 3 (by simp)
                have e4 := BE.cell 4 (by simp)
                have e5 := BE.cell 5 (by simp)
                simp only [List.getElem_cons_zero, List.getElem_cons_succ] at e0 e1 e2 e3 e4 e5
                exact bodyPost_ret (v := .agg #[.string ⟨kd.toArray⟩, .bool on, .bool br, .slice ga cl.length gc, .int .i64 cnt, .slice ua l.length uc]) (by simp [results, Tryz.results136, go_sem, e0, e1, e2, e3, e4, e5]) rfl ⟨_, rfl, RE, HE⟩
              exact AllReady.nil
            exact AllReady.nil
          exact AllReady.nil
        exact AllReady.nil
      refine AllReady.cons rfl (fun K hK => ?_) ?_
      · go_simp
        refine hK _ _ ?_
        clear hK K
        refine wpAny_ready (rs := [2]) (by kernel_rfl) (by simp) ?_
        refine AllReady.cons rfl (fun K hK => ?_) ?_
        · go_simp
          refine (HCC.out _ (CS.out.alloc _).b).mono ?_
          rintro e w2 ⟨_, rfl, ⟨cv, rfl, ho5⟩, hb5⟩
          obtain ⟨ga, gc, rfl⟩ := slice_of ho5
          have HC5 := Lib.hid ((CS.out.alloc _).below hb5)
          have lp := HC5.out.p.lt
          have lr := HC5.out.r.lt
          have np : ¬ w.heap.size = w2.heap.size := by omega
          have nr : ¬ w.heap.size + 1 = w2.heap.size := by omega
          have q0 := HC5.out.p.cell 0 (by simp)
          have q1 := HC5.out.p.cell 1 (by simp)
          have q2 := HC5.out.p.cell 2 (by simp)
          have q3 := HC5.out.p.cell 3 (by simp)
          have q4 := HC5.out.p.cell 4 (by simp)
          have q5 := HC5.out.p.cell 5 (by simp)
          have r0 := HC5.out.r.cell 0 (by simp)
          have z0 := HC5.out.r.froz 0 (by simp)
          have r1 := HC5.out.r.cell 1 (by simp)
          have z1 := HC5.out.r.froz 1 (by simp)
          have r2 := HC5.out.r.cell 2 (by simp)
          have z2 := HC5.out.r.froz 2 (by simp)
          have r3 := HC5.out.r.cell 3 (by simp)
          have z3 := HC5.out.r.froz 3 (by simp)
          have r4 := HC5.out.r.cell 4 (by simp)
          have z4 := HC5.out.r.froz 4 (by simp)
          have r5 := HC5.out.r.cell 5 (by simp)
          have z5 := HC5.out.r.froz 5 (by simp)
          simp only [List.getElem_cons_zero, List.getElem_cons_succ] at q0 q1 q2 q3 q4 q5 r0 r1 r2 r3 r4 r5
          refine hK _ _ ?_
          clear hK K
          refine wpAny_ready (rs := [6]) (by kernel_rfl) (by simp) ?_
          refine AllReady.cons rfl (fun K hK => ?_) ?_
          · have P1 := ownsF_below (HO0.out _ _) hb5 (Nat.le_refl _)
            have P2 := HC5.out
            have P3 := SliceAt.below H5.out (good_flat cLayer_len) P2.b (Nat.le_refl _)
            have P4 := P2.r.lt
            refine step_laysN rfl _ _ rfl (w.heap.size + 1 + 1) _ l _ sa sc ?_ P1 ?_ P3 ⟨_, _, rfl⟩ hm P4 ?_
            · simp [Act.eval, Act.put]
            · simp [Act.eval, Act.put]
            intro v4 w4 hO4 hg4
            obtain ⟨ua, uc, rfl⟩ := slice_of hO4
            have HC6 := Lib.hid (P2.grown hg4 (fun g hg => (World.ownsRow.lt P1 g hg).1))
            have lp := HC6.out.p.lt
            have lr := HC6.out.r.lt
            have np : ¬ w.heap.size = w4.heap.size := by omega
            have nr : ¬ w.heap.size + 1 = w4.heap.size := by omega
            have q0 := HC6.out.p.cell 0 (by simp)
            have q1 := HC6.out.p.cell 1 (by simp)
            have q2 := HC6.out.p.cell 2 (by simp)
            have q3 := HC6.out.p.cell 3 (by simp)
            have q4 := HC6.out.p.cell 4 (by simp)
            have q5 := HC6.out.p.cell 5 (by simp)
            have r0 := HC6.out.r.cell 0 (by simp)
            have z0 := HC6.out.r.froz 0 (by simp)
            have r1 := HC6.out.r.cell 1 (by simp)
            have z1 := HC6.out.r.froz 1 (by simp)
            have r2 := HC6.out.r.cell 2 (by simp)
            have z2 := HC6.out.r.froz 2 (by simp)
            have r3 := HC6.out.r.cell 3 (by simp)
            have z3 := HC6.out.r.froz 3 (by simp)
            have r4 := HC6.out.r.cell 4 (by simp)
            have z4 := HC6.out.r.froz 4 (by simp)
            have r5 := HC6.out.r.cell 5 (by simp)
            have z5 := HC6.out.r.froz 5 (by simp)
            simp only [List.getElem_cons_zero, List.getElem_cons_succ] at q0 q1 q2 q3 q4 q5 r0 r1 r2 r3 r4 r5
            refine hK _ _ ?_
            clear hK K
            refine wpAny_ready (rs := [7]) (by kernel_rfl) (by simp) ?_
            refine AllReady.cons rfl (fun K hK => ?_) ?_
            · go_simp
              refine hK _ _ ?_
              clear hK K
              refine wpAny_ready (rs := [8]) (by kernel_rfl) (by simp) ?_
              refine AllReady.cons rfl (fun K hK => ?_) ?_
              · go_simp
                refine hK _ _ ?_
                clear hK K
                refine wpAny_done (by kernel_rfl) ?_ _
                have OC0 := ownsF_keptF ho5 P1 hg4 (by decide)
                have E6 := l4_end (kd := kd) (on := on) (br := br) (cnt := cnt) HC6.out (ownsF_base OC0 (by have h1 := CS.out.b.size; simp at h1 ⊢; try omega)) hO4 hmc hm
                clear q0 r0 z0 q1 r1 z1 q2 r2 z2 q3 r3 z3 q4 r4 z4 q5 r5 z5
                generalize ((((((w4.setCell ⟨w.heap.size + 1, 0, none⟩ (.string ⟨kd.toArray⟩)).setCell ⟨w.heap.size + 1, 1, none⟩ (.bool on)).setCell ⟨w.heap.size + 1, 2, none⟩ (.bool br)).setCell ⟨w.heap.size + 1, 3, none⟩ (.slice ga cl.length gc)).setCell ⟨w.heap.size + 1, 4, none⟩ (.int .i64 cnt)).setCell ⟨w.heap.size + 1, 5, none⟩ (.slice ua l.length uc)) = WE at *
                go_wp2_with fail
                obtain ⟨BE, RE, HE⟩ := E6
                have e0 := BE.cell 0 (by simp)
                have e1 := BE.cell 1 (by simp)
                have e2 := BE.cell 2 (by simp)
                have e3 := BE.cell 3 (by simp)
                have e4 := BE.cell 4 (by simp)
                have e5 := BE.cell 5 (by simp)
                simp only [List.getElem_cons_zero, List.getElem_cons_succ] at e0 e1 e2 e3 e4 e5
                exact bodyPost_ret (v := .agg #[.string ⟨kd.toArray⟩, .bool on, .bool br, .slice ga cl.length gc, .int .i64 cnt, .slice ua l.length uc]) (by simp [results, Tryz.results136, go_sem, e0, e1, e2, e3, e4, e5]) rfl ⟨_, rfl, RE, HE⟩
              exact AllReady.nil
            exact AllReady.nil
          exact AllReady.nil
        exact AllReady.nil
      exact AllReady.nil
    refine AllReady.cons rfl (fun K hK => ?_) ?_
    · go_simp
      refine hK _ _ ?_
      clear hK K
      refine wpAny_ready (rs := [1]) (by kernel_rfl) (by simp) ?_
      refine AllReady.cons rfl (fun K hK => ?_) ?_
      · go_simp
        refine hK _ _ ?_
        clear hK K
        refine wpAny_ready (rs := [2]) (by kernel_rfl) (by simp) ?_
        refine AllReady.cons rfl (fun K hK => ?_) ?_
        · go_simp
          refine (HCC.out _ (CS.out.alloc _).b).mono ?_
          rintro e w2 ⟨_, rfl, ⟨cv, rfl, ho5⟩, hb5⟩
          obtain ⟨ga, gc, rfl⟩ := slice_of ho5
          have HC5 := Lib.hid ((CS.out.alloc _).below hb5)
          have lp := HC5.out.p.lt
          have lr := HC5.out.r.lt
          have np : ¬ w.heap.size = w2.heap.size := by omega
          have nr : ¬ w.heap.size + 1 = w2.heap.size := by omega
          have q0 := HC5.out.p.cell 0 (by simp)
          have q1 := HC5.out.p.cell 1 (by simp)
          have q2 := HC5.out.p.cell 2 (by simp)
          have q3 := HC5.out.p.cell 3 (by simp)
          have q4 := HC5.out.p.cell 4 (by simp)
          have q5 := HC5.out.p.cell 5 (by simp)
          have r0 := HC5.out.r.cell 0 (by simp)
          have z0 := HC5.out.r.froz 0 (by simp)
          have r1 := HC5.out.r.cell 1 (by simp)
          have z1 := HC5.out.r.froz 1 (by simp)
          have r2 := HC5.out.r.cell 2 (by simp)
          have z2 := HC5.out.r.froz 2 (by simp)
          have r3 := HC5.out.r.cell 3 (by simp)
          have z3 := HC5.out.r.froz 3 (by simp)
          have r4 := HC5.out.r.cell 4 (by simp)
          have z4 := HC5.out.r.froz 4 (by simp)
          have r5 := HC5.out.r.cell 5 (by simp)
          have z5 := HC5.out.r.froz 5 (by simp)
          simp only [List.getElem_cons_zero, List.getElem_cons_succ] at q0 q1 q2 q3 q4 q5 r0 r1 r2 r3 r4 r5
          refine hK _ _ ?_
          clear hK K
          refine wpAny_ready (rs := [6]) (by kernel_rfl) (by simp) ?_
          refine AllReady.cons rfl (fun K hK => ?_) ?_
          · have P1 := ownsF_below (HO0.out _ _) hb5 (Nat.le_refl _)
            have P2 := HC5.out
            have P3 := SliceAt.below H5.out (good_flat cLayer_len) P2.b (Nat.le_refl _)
            have P4 := P2.r.lt
            refine step_laysN rfl _ _ rfl (w.heap.size + 1 + 1) _ l _ sa sc ?_ P1 ?_ P3 ⟨_, _, rfl⟩ hm P4 ?_
            · simp [Act.eval, Act.put]
            · simp [Act.eval, Act.put]
            intro v4 w4 hO4 hg4
            obtain ⟨ua, uc, rfl⟩ := slice_of hO4
            have HC6 := Lib.hid (P2.grown hg4 (fun g hg => (World.ownsRow.lt P1 g hg).1))
            have lp := HC6.out.p.lt
            have lr := HC6.out.r.lt
            have np : ¬ w.heap.size = w4.heap.size := by omega
            have nr : ¬ w.heap.size + 1 = w4.heap.size := by omega
            have q0 := HC6.out.p.cell 0 (by simp)
            have q1 := HC6.out.p.cell 1 (by simp)
            have q2 := HC6.out.p.cell 2 (by simp)
            have q3 := HC6.out.p.cell 3 (by simp)
            have q4 := HC6.out.p.cell 4 (by simp)
            have q5 := HC6.out.p.cell 5 (by simp)
            have r0 := HC6.out.r.cell 0 (by simp)
            have z0 := HC6.out.r.froz 0 (by simp)
            have r1 := HC6.out.r.cell 1 (by simp)
            have z1 := HC6.out.r.froz 1 (by simp)
            have r2 := HC6.out.r.cell 2 (by simp)
            have z2 := HC6.out.r.froz 2 (by simp)
            have r3 := HC6.out.r.cell 3 (by simp)
            have z3 := HC6.out.r.froz 3 (by simp)
            have r4 := HC6.out.r.cell 4 (by simp)
            have z4 := HC6.out.r.froz 4 (by simp)
            have r5 := HC6.out.r.cell 5 (by simp)
            have z5 := HC6.out.r.froz 5 (by simp)
            simp only [List.getElem_cons_zero, List.getElem_cons_succ] at q0 q1 q2 q3 q4 q5 r0 r1 r2 r3 r4 r5
            refine hK _ _ ?_
            clear hK K
            refine wpAny_ready (rs := [7]) (by kernel_rfl) (by simp) ?_
            refine AllReady.cons rfl (fun K hK => ?_) ?_
            · go_simp
              refine hK _ _ ?_
              clear hK K
              refine wpAny_ready (rs := [8]) (by kernel_rfl) (by simp) ?_
              refine AllReady.cons rfl (fun K hK => ?_) ?_
              · go_simp
                refine hK _ _ ?_
                clear hK K
                refine wpAny_done (by kernel_rfl) ?_ _
                have OC0 := ownsF_keptF ho5 P1 hg4 (by decide)
                have E6 := l4_end (kd := kd) (on := on) (br := br) (cnt := cnt) HC6.out (ownsF_base OC0 (by have h1 := CS.out.b.size; simp at h1 ⊢; try omega)) hO4 hmc hm
                clear q0 r0 z0 q1 r1 z1 q2 r2 z2 q3 r3 z3 q4 r4 z4 q5 r5 z5
                generalize ((((((w4.setCell ⟨w.heap.size + 1, 0, none⟩ (.string ⟨kd.toArray⟩)).setCell ⟨w.heap.size + 1, 1, none⟩ (.bool on)).setCell ⟨w.heap.size + 1, 2, none⟩ (.bool br)).setCell ⟨w.heap.size + 1, 3, none⟩ (.slice ga cl.length gc)).setCell ⟨w.heap.size + 1, 4, none⟩ (.int .i64 cnt)).setCell ⟨w.heap.size + 1, 5, none⟩ (.slice ua l.length uc)) = WE at *
                go_wp2_with fail
                obtain ⟨BE, RE, HE⟩ := E6
                have e0 := BE.cell 0 (by simp)
                have e1 := BE.cell 1 (by simp)
                have e2 := BE.cell 2 (by simp)
                have e3 := BE.cell 3 (by simp)
                have e4 := BE.cell 4 (by simp)
                have e5 := BE.cell 5 (by simp)
                simp only [List.getElem_cons_zero, List.getElem_cons_succ] at e0 e1 e2 e3 e4 e5
                exact bodyPost_ret (v := .agg #[.string ⟨kd.toArray⟩, .bool on, .bool br, .slice ga cl.length gc, .int .i64 cnt, .slice ua l.length uc]) (by simp [results, Tryz.results136, go_sem, e0, e1, e2, e3, e4, e5]) rfl ⟨_, rfl, RE, HE⟩
              exact AllReady.nil
            exact AllReady.nil
          exact AllReady.nil
        exact AllReady.nil
      exact AllReady.nil
    exact AllReady.nil
  refine AllReady.cons rfl (fun K hK => ?_) ?_
  · go_simp
    refine hK _ _ ?_
    clear hK K
    refine wpAny_ready (rs := [1, 3]) (by kernel_rfl) (by simp) ?_
    refine AllReady.cons rfl (fun K hK => ?_) ?_
    · go_simp
      refine hK _ _ ?_
      clear hK K
      refine wpAny_ready (rs := [2, 3]) (by kernel_rfl) (by simp) ?_
      refine AllReady.cons rfl (fun K hK => ?_) ?_
      · go_simp
        refine (HCC.out _ CS.out.b).mono ?_
        rintro e w2 ⟨_, rfl, ⟨cv, rfl, ho5⟩, hb5⟩
        obtain ⟨ga, gc, rfl⟩ := slice_of ho5
        have HC5 := Lib.hid (CS.out.below hb5)
        have lp := HC5.out.p.lt
        have lr := HC5.out.r.lt
        have np : ¬ w.heap.size = w2.heap.size := by omega
        have nr : ¬ w.heap.size + 1 = w2.heap.size := by omega
        have q0 := HC5.out.p.cell 0 (by simp)
        have q1 := HC5.out.p.cell 1 (by simp)
        have q2 := HC5.out.p.cell 2 (by simp)
        have q3 := HC5.out.p.cell 3 (by simp)
        have q4 := HC5.out.p.cell 4 (by simp)
        have q5 := HC5.out.p.cell 5 (by simp)
        have r0 := HC5.out.r.cell 0 (by simp)
        have z0 := HC5.out.r.froz 0 (by simp)
        have r1 := HC5.out.r.cell 1 (by simp)
        have z1 := HC5.out.r.froz 1 (by simp)
        have r2 := HC5.out.r.cell 2 (by simp)
        have z2 := HC5.out.r.froz 2 (by simp)
        have r3 := HC5.out.r.cell 3 (by simp)
        have z3 := HC5.out.r.froz 3 (by simp)
        have r4 := HC5.out.r.cell 4 (by simp)
        have z4 := HC5.out.r.froz 4 (by simp)
        have r5 := HC5.out.r.cell 5 (by simp)
        have z5 := HC5.out.r.froz 5 (by simp)
        simp only [List.getElem_cons_zero, List.getElem_cons_succ] at q0 q1 q2 q3 q4 q5 r0 r1 r2 r3 r4 r5
        refine hK _ _ ?_
        clear hK K
        refine wpAny_ready (rs := [3]) (by kernel_rfl) (by simp) ?_
        refine AllReady.cons rfl (fun K hK => ?_) ?_
        · go_simp
          refine hK _ _ ?_
          clear hK K
          refine wpAny_ready (rs := [6]) (by kernel_rfl) (by simp) ?_
          refine AllReady.cons rfl (fun K hK => ?_) ?_
          · have P1 := ownsF_base (B' := w.heap.size + 1 + 1) (ownsF_new cLayer 137 2 w2) HC5.out.r.lt
            have P2 := HC5.out.alloc (.cells #[] 137)
            have P3 := SliceAt.below H5.out (good_flat cLayer_len) P2.b (Nat.le_refl _)
            have P4 := P2.r.lt
            refine step_laysN rfl _ _ rfl (w.heap.size + 1 + 1) _ l _ sa sc ?_ P1 ?_ P3 ⟨_, _, rfl⟩ hm P4 ?_
            · simp [Act.eval, Act.put]
            · simp [Act.eval, Act.put]
            intro v4 w4 hO4 hg4
            obtain ⟨ua, uc, rfl⟩ := slice_of hO4
            have HC6 := Lib.hid (P2.grown hg4 (fun g hg => (World.ownsRow.lt P1 g hg).1))
            have lp := HC6.out.p.lt
            have lr := HC6.out.r.lt
            have np : ¬ w.heap.size = w4.heap.size := by omega
            have nr : ¬ w.heap.size + 1 = w4.heap.size := by omega
            have q0 := HC6.out.p.cell 0 (by simp)
            have q1 := HC6.out.p.cell 1 (by simp)
            have q2 := HC6.out.p.cell 2 (by simp)
            have q3 := HC6.out.p.cell 3 (by simp)
            have q4 := HC6.out.p.cell 4 (by simp)
            have q5 := HC6.out.p.cell 5 (by simp)
            have r0 := HC6.out.r.cell 0 (by simp)
            have z0 := HC6.out.r.froz 0 (by simp)
            have r1 := HC6.out.r.cell 1 (by simp)
            have z1 := HC6.out.r.froz 1 (by simp)
            have r2 := HC6.out.r.cell 2 (by simp)
            have z2 := HC6.out.r.froz 2 (by simp)
            have r3 := HC6.out.r.cell 3 (by simp)
            have z3 := HC6.out.r.froz 3 (by simp)
            have r4 := HC6.out.r.cell 4 (by simp)
            have z4 := HC6.out.r.froz 4 (by simp)
            have r5 := HC6.out.r.cell 5 (by simp)
            have z5 := HC6.out.r.froz 5 (by simp)
            simp only [List.getElem_cons_zero, List.getElem_cons_succ] at q0 q1 q2 q3 q4 q5 r0 r1 r2 r3 r4 r5
            refine hK _ _ ?_
            clear hK K
            refine wpAny_ready (rs := [7]) (by kernel_rfl) (by simp) ?_
            refine AllReady.cons rfl (fun K hK => ?_) ?_
            · go_simp
              refine hK _ _ ?_
              clear hK K
              refine wpAny_ready (rs := [8]) (by kernel_rfl) (by simp) ?_
              refine AllReady.cons rfl (fun K hK => ?_) ?_
              · go_simp
                refine hK _ _ ?_
                clear hK K
                refine wpAny_done (by kernel_rfl) ?_ _
                have OC0 := ownsF_keptF (ownsF_alloc ho5 _) P1 hg4 (by decide)
                have E6 := l4_end (kd := kd) (on := on) (br := br) (cnt := cnt) HC6.out (ownsF_base OC0 (by have h1 := CS.out.b.size; simp at h1 ⊢; try omega)) hO4 hmc hm
                clear q0 r0 z0 q1 r1 z1 q2 r2 z2 q3 r3 z3 q4 r4 z4 q5 r5 z5
                generalize ((((((w4.setCell ⟨w.heap.size + 1, 0, none⟩ (.string ⟨kd.toArray⟩)).setCell ⟨w.heap.size + 1, 1, none⟩ (.bool on)).setCell ⟨w.heap.size + 1, 2, none⟩ (.bool br)).setCell ⟨w.heap.size + 1, 3, none⟩ (.slice ga cl.length gc)).setCell ⟨w.heap.size + 1, 4, none⟩ (.int .i64 cnt)).setCell ⟨w.heap.size + 1, 5, none⟩ (.slice ua l.length uc)) = WE at *
                go_wp2_with fail
                obtain ⟨BE, RE, HE⟩ := E6
                have e0 := BE.cell 0 (by simp)
                have e1 := BE.cell 1 (by simp)
                have e2 := BE.cell 2 (by simp)
                have e3 := BE.cell 3 (by simp)
                have e4 := BE.cell 4 (by simp)
                have e5 := BE.cell 5 (by simp)
                simp only [List.getElem_cons_zero, List.getElem_cons_succ] at e0 e1 e2 e3 e4 e5
                exact bodyPost_ret (v := .agg #[.string ⟨kd.toArray⟩, .bool on, .bool br, .slice ga cl.length gc, .int .i64 cnt, .slice ua l.length uc]) (by simp [results, Tryz.results136, go_sem, e0, e1, e2, e3, e4, e5]) rfl ⟨_, rfl, RE, HE⟩
              exact AllReady.nil
            exact AllReady.nil
          exact AllReady.nil
        exact AllReady.nil
      refine AllReady.cons rfl (fun K hK => ?_) ?_
      · go_simp
        refine hK _ _ ?_
        clear hK K
        refine wpAny_ready (rs := [2]) (by kernel_rfl) (by simp) ?_
        refine AllReady.cons rfl (fun K hK => ?_) ?_
        · go_simp
          refine (HCC.out _ (CS.out.alloc _).b).mono ?_
          rintro e w2 ⟨_, rfl, ⟨cv, rfl, ho5⟩, hb5⟩
          obtain ⟨ga, gc, rfl⟩ := slice_of ho5
          have HC5 := Lib.hid ((CS.out.alloc _).below hb5)
          have lp := HC5.out.p.lt
          have lr := HC5.out.r.lt
          have np : ¬ w.heap.size = w2.heap.size := by omega
          have nr : ¬ w.heap.size + 1 = w2.heap.size := by omega
          have q0 := HC5.out.p.cell 0 (by simp)
          have q1 := HC5.out.p.cell 1 (by simp)
          have q2 := HC5.out.p.cell 2 (by simp)
          have q3 := HC5.out.p.cell 3 (by simp)
          have q4 := HC5.out.p.cell 4 (by simp)
          have q5 := HC5.out.p.cell 5 (by simp)
          have r0 := HC5.out.r.cell 0 (by simp)
          have z0 := HC5.out.r.froz 0 (by simp)
          have r1 := HC5.out.r.cell 1 (by simp)
          have z1 := HC5.out.r.froz 1 (by simp)
          have r2 := HC5.out.r.cell 2 (by simp)
          have z2 := HC5.out.r.froz 2 (by simp)
          have r3 := HC5.out.r.cell 3 (by simp)
          have z3 := HC5.out.r.froz 3 (by simp)
          have r4 := HC5.out.r.cell 4 (by simp)
          have z4 := HC5.out.r.froz 4 (by simp)
          have r5 := HC5.out.r.cell 5 (by simp)
          have z5 := HC5.out.r.froz 5 (by simp)
          simp only [List.getElem_cons_zero, List.getElem_cons_succ] at q0 q1 q2 q3 q4 q5 r0 r1 r2 r3 r4 r5
          refine hK _ _ ?_
          clear hK K
          refine wpAny_ready (rs := [6]) (by kernel_rfl) (by simp) ?_
          refine AllReady.cons rfl (fun K hK => ?_) ?_
          · have P1 := ownsF_below (HO0.out _ _) hb5 (Nat.le_refl _)
            have P2 := HC5.out
            have P3 := SliceAt.below H5.out (good_flat cLayer_len) P2.b (Nat.le_refl _)
            have P4 := P2.r.lt
            refine step_laysN rfl _ _ rfl (w.heap.size + 1 + 1) _ l _ sa sc ?_ P1 ?_ P3 ⟨_, _, rfl⟩ hm P4 ?_
            · simp [Act.eval, Act.put]
            · simp [Act.eval, Act.put]
            intro v4 w4 hO4 hg4
            obtain ⟨ua, uc, rfl⟩ := slice_of hO4
            have HC6 := Lib.hid (P2.grown hg4 (fun g hg => (World.ownsRow.lt P1 g hg).1))
            have lp := HC6.out.p.lt
            have lr := HC6.out.r.lt
            have np : ¬ w.heap.size = w4.heap.size := by omega
            have nr : ¬ w.heap.size + 1 = w4.heap.size := by omega
            have q0 := HC6.out.p.cell 0 (by simp)
            have q1 := HC6.out.p.cell 1 (by simp)
            have q2 := HC6.out.p.cell 2 (by simp)
            have q3 := HC6.out.p.cell 3 (by simp)
            have q4 := HC6.out.p.cell 4 (by simp)
            have q5 := HC6.out.p.cell 5 (by simp)
            have r0 := HC6.out.r.cell 0 (by simp)
            have z0 := HC6.out.r.froz 0 (by simp)
            have r1 := HC6.out.r.cell 1 (by simp)
            have z1 := HC6.out.r.froz 1 (by simp)
            have r2 := HC6.out.r.cell 2 (by simp)
            have z2 := HC6.out.r.froz 2 (by simp)
            have r3 := HC6.out.r.cell 3 (by simp)
            have z3 := HC6.out.r.froz 3 (by simp)
            have r4 := HC6.out.r.cell 4 (by simp)
            have z4 := HC6.out.r.froz 4 (by simp)
            have r5 := HC6.out.r.cell 5 (by simp)
            have z5 := HC6.out.r.froz 5 (by simp)
            simp only [List.getElem_cons_zero, List.getElem_cons_succ] at q0 q1 q2 q3 q4 q5 r0 r1 r2 r3 r4 r5
            refine hK _ _ ?_
            clear hK K
            refine wpAny_ready (rs := [7]) (by kernel_rfl) (by simp) ?_
            refine AllReady.cons rfl (fun K hK => ?_) ?_
            · go_simp
              refine hK _ _ ?_
              clear hK K
              refine wpAny_ready (rs := [8]) (by kernel_rfl) (by simp) ?_
              refine AllReady.cons rfl (fun K hK => ?_) ?_
              · go_simp
                refine hK _ _ ?_
                clear hK K
                refine wpAny_done (by kernel_rfl) ?_ _
                have OC0 := ownsF_keptF ho5 P1 hg4 (by decide)
                have E6 := l4_end (kd := kd) (on := on) (br := br) (cnt := cnt) HC6.out (ownsF_base OC0 (by have h1 := CS.out.b.size; simp at h1 ⊢; try omega)) hO4 hmc hm
                clear q0 r0 z0 q1 r1 z1 q2 r2 z2 q3 r3 z3 q4 r4 z4 q5 r5 z5
                generalize ((((((w4.setCell ⟨w.heap.size + 1, 0, none⟩ (.string ⟨kd.toArray⟩)).setCell ⟨w.heap.size + 1, 1, none⟩ (.bool on)).setCell ⟨w.heap.size + 1, 2, none⟩ (.bool br)).setCell ⟨w.heap.size + 1, 3, none⟩ (.slice ga cl.length gc)).setCell ⟨w.heap.size + 1, 4, none⟩ (.int .i64 cnt)).setCell ⟨w.heap.size + 1, 5, none⟩ (.slice ua l.length uc)) = WE at *
                go_wp2_with fail
                obtain ⟨BE, RE, HE⟩ := E6
                have e0 := BE.cell 0 (by simp)
                have e1 := BE.cell 1 (by simp)
                have e2 := BE.cell 2 (by simp)
                have e3 := BE.cell 3 (by simp)
                have e4 := BE.cell 4 (by simp)
                have e5 := BE.cell 5 (by simp)
                simp only [List.getElem_cons_zero, List.getElem_cons_succ] at e0 e1 e2 e3 e4 e5
                exact bodyPost_ret (v := .agg #[.string ⟨kd.toArray⟩, .bool on, .bool br, .slice ga cl.length gc, .int .i64 cnt, .slice ua l.length uc]) (by simp [results, Tryz.results136, go_sem, e0, e1, e2, e3, e4, e5]) rfl ⟨_, rfl, RE, HE⟩
              exact AllReady.nil
            exact AllReady.nil
          exact AllReady.nil
        exact AllReady.nil
      exact AllReady.nil
    refine AllReady.cons rfl (fun K hK => ?_) ?_
    · go_simp
      refine hK _ _ ?_
      clear hK K
      refine wpAny_ready (rs := [1]) (by kernel_rfl) (by simp) ?_
      refine AllReady.cons rfl (fun K hK => ?_) ?_
      · go_simp
        refine hK _ _ ?_
        clear hK K
        refine wpAny_ready (rs := [2]) (by kernel_rfl) (by simp) ?_
        refine AllReady.cons rfl (fun K hK => ?_) ?_
        · go_simp
          refine (HCC.out _ (CS.out.alloc _).b).mono ?_
          rintro e w2 ⟨_, rfl, ⟨cv, rfl, ho5⟩, hb5⟩
          obtain ⟨ga, gc, rfl⟩ := slice_of ho5
          have HC5 := Lib.hid ((CS.out.alloc _).below hb5)
          have lp := HC5.out.p.lt
          have lr := HC5.out.r.lt
          have np : ¬ w.heap.size = w2.heap.size := by omega
          have nr : ¬ w.heap.size + 1 = w2.heap.size := by omega
          have q0 := HC5.out.p.cell 0 (by simp)
          have q1 := HC5.out.p.cell 1 (by simp)
          have q2 := HC5.out.p.cell 2 (by simp)
          have q3 := HC5.out.p.cell 3 (by simp)
          have q4 := HC5.out.p.cell 4 (by simp)
          have q5 := HC5.out.p.cell 5 (by simp)
          have r0 := HC5.out.r.cell 0 (by simp)
          have z0 := HC5.out.r.froz 0 (by simp)
          have r1 := HC5.out.r.cell 1 (by simp)
          have z1 := HC5.out.r.froz 1 (by simp)
          have r2 := HC5.out.r.cell 2 (by simp)
          have z2 := HC5.out.r.froz 2 (by simp)
          have r3 := HC5.out.r.cell 3 (by simp)
          have z3 := HC5.out.r.froz 3 (by simp)
          have r4 := HC5.out.r.cell 4 (by simp)
          have z4 := HC5.out.r.froz 4 (by simp)
          have r5 := HC5.out.r.cell 5 (by simp)
          have z5 := HC5.out.r.froz 5 (by simp)
          simp only [List.getElem_cons_zero, List.getElem_cons_succ] at q0 q1 q2 q3 q4 q5 r0 r1 r2 r3 r4 r5
          refine hK _ _ ?_
          clear hK K
          refine wpAny_ready (rs := [6]) (by kernel_rfl) (by simp) ?_
          refine AllReady.cons rfl (fun K hK => ?_) ?_
          · have P1 := ownsF_below (HO0.out _ _) hb5 (Nat.le_refl _)
            have P2 := HC5.out
            have P3 := SliceAt.below H5.out (good_flat cLayer_len) P2.b (Nat.le_refl _)
            have P4 := P2.r.lt
            refine step_laysN rfl _ _ rfl (w.heap.size + 1 + 1) _ l _ sa sc ?_ P1 ?_ P3 ⟨_, _, rfl⟩ hm P4 ?_
            · simp [Act.eval, Act.put]
            · simp [Act.eval, Act.put]
            intro v4 w4 hO4 hg4
            obtain ⟨ua, uc, rfl⟩ := slice_of hO4
            have HC6 := Lib.hid (P2.grown hg4 (fun g hg => (World.ownsRow.lt P1 g hg).1))
            have lp := HC6.out.p.lt
            have lr := HC6.out.r.lt
            have np : ¬ w.heap.size = w4.heap.size := by omega
            have nr : ¬ w.heap.size + 1 = w4.heap.size := by omega
            have q0 := HC6.out.p.cell 0 (by simp)
            have q1 := HC6.out.p.cell 1 (by simp)
            have q2 := HC6.out.p.cell 2 (by simp)
            have q3 := HC6.out.p.cell 3 (by simp)
            have q4 := HC6.out.p.cell 4 (by simp)
            have q5 := HC6.out.p.cell 5 (by simp)
            have r0 := HC6.out.r.cell 0 (by simp)
            have z0 := HC6.out.r.froz 0 (by simp)
            have r1 := HC6.out.r.cell 1 (by simp)
            have z1 := HC6.out.r.froz 1 (by simp)
            have r2 := HC6.out.r.cell 2 (by simp)
            have z2 := HC6.out.r.froz 2 (by simp)
            have r3 := HC6.out.r.cell 3 (by simp)
            have z3 := HC6.out.r.froz 3 (by simp)
            have r4 := HC6.out.r.cell 4 (by simp)
            have z4 := HC6.out.r.froz 4 (by simp)
            have r5 := HC6.out.r.cell 5 (by simp)
            have z5 := HC6.out.r.froz 5 (by simp)
            simp only [List.getElem_cons_zero, List.getElem_cons_succ] at q0 q1 q2 q3 q4 q5 r0 r1 r2 r3 r4 r5
            refine hK _ _ ?_
            clear hK K
            refine wpAny_ready (rs := [7]) (by kernel_rfl) (by simp) ?_
            refine AllReady.cons rfl (fun K hK => ?_) ?_
            · go_simp
              refine hK _ _ ?_
              clear hK K
              refine wpAny_ready (rs := [8]) (by kernel_rfl) (by simp) ?_
              refine AllReady.cons rfl (fun K hK => ?_) ?_
              · go_simp
                refine hK _ _ ?_
                clear hK K
                refine wpAny_done (by kernel_rfl) ?_ _
                have OC0 := ownsF_keptF ho5 P1 hg4 (by decide)
                have E6 := l4_end (kd := kd) (on := on) (br := br) (cnt := cnt) HC6.out (ownsF_base OC0 (by have h1 := CS.out.b.size; simp at h1 ⊢; try omega)) hO4 hmc hm
                clear q0 r0 z0 q1 r1 z1 q2 r2 z2 q3 r3 z3 q4 r4 z4 q5 r5 z5
                generalize ((((((w4.setCell ⟨w.heap.size + 1, 0, none⟩ (.string ⟨kd.toArray⟩)).setCell ⟨w.heap.size + 1, 1, none⟩ (.bool on)).setCell ⟨w.heap.size + 1, 2, none⟩ (.bool br)).setCell ⟨w.heap.size + 1, 3, none⟩ (.slice ga cl.length gc)).setCell ⟨w.heap.size + 1, 4, none⟩ (.int .i64 cnt)).setCell ⟨w.heap.size + 1, 5, none⟩ (.slice ua l.length uc)) = WE at *
                go_wp2_with fail
                obtain ⟨BE, RE, HE⟩ := E6
                have e0 := BE.cell 0 (by simp)
                have e1 := BE.cell 1 (by simp)
                have e2 := BE.cell 2 (by simp)
                have e3 := BE.cell 3 (by simp)
                have e4 := BE.cell 4 (by simp)
                have e5 := BE.cell 5 (by simp)
                simp only [List.getElem_cons_zero, List.getElem_cons_succ] at e0 e1 e2 e3 e4 e5
                exact bodyPost_ret (v := .agg #[.string ⟨kd.toArray⟩, .bool on, .bool br, .slice ga cl.length gc, .int .i64 cnt, .slice ua l.length uc]) (by simp [results, Tryz.results136, go_sem, e0, e1, e2, e3, e4, e5]) rfl ⟨_, rfl, RE, HE⟩
              exact AllReady.nil
            exact AllReady.nil
          exact AllReady.nil
        exact AllReady.nil
      exact AllReady.nil
    exact AllReady.nil
  exact AllReady.nil
end Go.Proofs.YteeopjcbpngofaaGreat
/- the model's l4Copy, as a reading -/
namespace Go.Proofs.YteeopjcbpngofaaGreat
open Go.RowKit
theorem l4Copy_any (v : Value) (x : PartD) (w : World) (hx : ValAt rPart 0 w v x) (hs : SmallP x) :
    Calls Tryz.prog 136 #[v] w fun e w' => GivesV rPart x w e w' :=
  (l4Copy_own v x w hx hs).mono fun e w' h => by
    obtain ⟨cs, h1, h2, h3⟩ := h
    exact ⟨cs, h1, oPart_r h2 hs, h3⟩
end Go.Proofs.YteeopjcbpngofaaGreat
/- Contracts of chapter 4: Wrap, the model's. Written by gen/ch4ws.py. -/
namespace Go.Proofs.YteeopjcbpngofaaGreat
set_option linter.unusedVariables false
set_option linter.unusedSimpArgs false
open Go.RowKit
set_option maxRecDepth 100000 in
set_option maxHeartbeats 3200000 in
theorem specWrap_bad1 (v : Value) (x : PartD) (s : ByteArray) (w : World) (hx : ValAt rPart 0 w v x) (hs : SmallP x) (hk : ∀ c ∈ x.fCore.fCells, c.fKey.length ≤ maxLen) (hz : s.size ≤ 1048576) (hp : partB x = false) :
    Calls Tryz.prog 106 #[v, .string s] w fun e w' => GivesOPR (wrapP x s.data.toList) (wrapR x s.data.toList) w e w' := by
  obtain ⟨hwp, hwr⟩ := wrap_bad (x := x) (s := s.data.toList) (fun h => by rw [hp] at h; exact absurd h.1 (by decide))
  rw [hwp, hwr]
  clear hwp hwr
  obtain ⟨_, rfl, hx⟩ := hx
  have HX := Lib.hid (fun W (hb : Below w.heap.size w W) => goodPart.keep hx (kept_below hb (Nat.le_refl _)))
  have HIP := Lib.hid (fun cs W (h : rPart 0 W cs x) => specIsPart_any (.agg cs.toArray) x W ⟨cs, rfl, h⟩ hk)
  have HCP := Lib.hid (fun cs W (h : rPart 0 W cs x) => l4Copy_own (.agg cs.toArray) x W ⟨cs, rfl, h⟩ hs)
  have HLN := Lib.hid (fun W => l4Row_any s W)
  have HSZ := Lib.hid hs.lays
  unfold l4V at HLN
  unfold GivesOPR vReply
  unfold GivesOP at HCP
  rw [hp] at HIP
  generalize decide (0 ≤ layI s.data.toList) = bb at *
  generalize needI (layI s.data.toList) = nd at *
  generalize giveI (layI s.data.toList) = gv at *
  obtain ⟨⟨a0, a1, a2, a3, a4⟩, l⟩ := x
  obtain ⟨v3, v5, rfl, h3, h5⟩ := hx
  simp only at h3 h5 HSZ
  obtain ⟨ra, rc, rfl, _⟩ := sliceAt_len h3
  obtain ⟨sa, sc, rfl, hl, hcap⟩ := sliceAt_cap h5
  clear h3 h5 hs hk hcap hl
  have BS := Lib.hid (bx_start3 w [.string ⟨a0.toArray⟩, .bool a1, .bool a2, .slice ra a3.length rc, .int .i64 a4, .slice sa l.length sc] [.string ⟨#[]⟩, .bool false, .bool false, .slice none 0 0, .int .i64 0, .slice none 0 0] [.int .i64 0, .int .i64 0, .string ⟨#[]⟩, .int .i64 0, .int .i64 0] 74 74 76)
  have HR0 := Lib.hid (HX.out _ BS.out.2.2.2)
  clear hp
  go_enter Tryz.func106, Tryz.ntmps106
  go_wp2_with fail
  refine (HCP.out _ _ HR0.out).mono ?_
  rintro e w1 ⟨_, rfl, ⟨u3, u5, rfl, ho3, ho5⟩, hb⟩
  simp only at ho3 ho5
  obtain ⟨ga, gc, rfl⟩ := slice_of ho3
  obtain ⟨ua, uc, rfl⟩ := slice_of ho5
  have HB1 := Lib.hid ((belS BS.out.2.2.2 hb).alloc (belS BS.out.2.2.2 hb).size (.cells #[.string ⟨a0.toArray⟩, .bool a1, .bool a2, .slice ga a3.length gc, .int .i64 a4, .slice ua l.length uc] 74))
  have B31 := Lib.hid ((BS.out.1.below hb).alloc (.cells #[.string ⟨a0.toArray⟩, .bool a1, .bool a2, .slice ga a3.length gc, .int .i64 a4, .slice ua l.length uc] 74))
  have B41 := Lib.hid ((BS.out.2.1.below hb).alloc (.cells #[.string ⟨a0.toArray⟩, .bool a1, .bool a2, .slice ga a3.length gc, .int .i64 a4, .slice ua l.length uc] 74))
  have B51 := Lib.hid ((BS.out.2.2.1.below hb).alloc (.cells #[.string ⟨a0.toArray⟩, .bool a1, .bool a2, .slice ga a3.length gc, .int .i64 a4, .slice ua l.length uc] 74))
  have BQ1 := Lib.hid (Bx.new w1 [.string ⟨a0.toArray⟩, .bool a1, .bool a2, .slice ga a3.length gc, .int .i64 a4, .slice ua l.length uc] 74)
  have O3 := Lib.hid (ownsF_alloc (ownsF_base (B' := w.heap.size + 1 + 1 + 1) ho3 (by simp)) (.cells #[.string ⟨a0.toArray⟩, .bool a1, .bool a2, .slice ga a3.length gc, .int .i64 a4, .slice ua l.length uc] 74))
  have O5 := Lib.hid (ownsF_alloc (ownsF_base (B' := w.heap.size + 1 + 1 + 1) ho5 (by simp)) (.cells #[.string ⟨a0.toArray⟩, .bool a1, .bool a2, .slice ga a3.length gc, .int .i64 a4, .slice ua l.length uc] 74))
  have h3s := hb.size
  simp at h3s
  have HU5 := Lib.hid (fun g (h : (Value.slice ua l.length uc).ownBlock = some g) => (show w.heap.size + 1 + 1 + 1 ≤ g ∧ g < w1.heap.size from ⟨by have := (World.ownsRow.lt ho5 g h).1; simpa using this, (World.ownsRow.lt ho5 g h).2⟩))
  have HU3 := Lib.hid (fun g (h : (Value.slice ga a3.length gc).ownBlock = some g) => (show g < w1.heap.size from (World.ownsRow.lt ho3 g h).2))
  clear hb ho3 ho5 BS
  go_wp2_with fail
  refine (HLN.out _).mono ?_
  rintro e w2 ⟨rfl, hb⟩
  have HB2 := Lib.hid (belS HB1.out hb)
  have B32 := Lib.hid (B31.out.below hb)
  have B42 := Lib.hid (B41.out.below hb)
  have B52 := Lib.hid (B51.out.below hb)
  have BQ2 := Lib.hid (BQ1.out.below hb)
  have P3 := Lib.hid (ownsF_below O3.out hb (Nat.le_refl _))
  have P5 := Lib.hid (ownsF_below O5.out hb (Nat.le_refl _))
  have h4s2 := hb.size
  simp at h4s2
  clear hb B31 B41 B51 BQ1
  have p0 := B32.out.cell 0 (by simp)
  have p1 := B32.out.cell 1 (by simp)
  have p2 := B32.out.cell 2 (by simp)
  have p3 := B32.out.cell 3 (by simp)
  have p4 := B32.out.cell 4 (by simp)
  have p5 := B32.out.cell 5 (by simp)
  simp only [List.getElem_cons_zero, List.getElem_cons_succ] at p0 p1 p2 p3 p4 p5
  go_wp2_with fail
  refine (HIP.out _ _ (HX.out _ HB2.out)).mono ?_
  rintro e w3 ⟨rfl, hb⟩
  clear p0 p1 p2 p3 p4 p5
  have HB3 := Lib.hid (belS HB2.out hb)
  have B33 := Lib.hid (B32.out.below hb)
  have B43 := Lib.hid (B42.out.below hb)
  have B53 := Lib.hid (B52.out.below hb)
  have BQ3 := Lib.hid (BQ2.out.below hb)
  have R3 := Lib.hid (ownsF_below P3.out hb (Nat.le_refl _))
  have R5 := Lib.hid (ownsF_below P5.out hb (Nat.le_refl _))
  have h4s3 := hb.size
  skip
  clear hb B32 B42 B52 BQ2
  have p0 := B33.out.cell 0 (by simp)
  have p1 := B33.out.cell 1 (by simp)
  have p2 := B33.out.cell 2 (by simp)
  have p3 := B33.out.cell 3 (by simp)
  have p4 := B33.out.cell 4 (by simp)
  have p5 := B33.out.cell 5 (by simp)
  simp only [List.getElem_cons_zero, List.getElem_cons_succ] at p0 p1 p2 p3 p4 p5
  have q0 := BQ3.out.cell 0 (by simp)
  have q1 := BQ3.out.cell 1 (by simp)
  have q2 := BQ3.out.cell 2 (by simp)
  have q3 := BQ3.out.cell 3 (by simp)
  have q4 := BQ3.out.cell 4 (by simp)
  have q5 := BQ3.out.cell 5 (by simp)
  simp only [List.getElem_cons_zero, List.getElem_cons_succ] at q0 q1 q2 q3 q4 q5
  have r0 := B43.out.cell 0 (by simp)
  have r1 := B43.out.cell 1 (by simp)
  have r2 := B43.out.cell 2 (by simp)
  have r3 := B43.out.cell 3 (by simp)
  have r4 := B43.out.cell 4 (by simp)
  have r5 := B43.out.cell 5 (by simp)
  simp only [List.getElem_cons_zero, List.getElem_cons_succ] at r0 r1 r2 r3 r4 r5
  have z0 := B43.out.froz 0 (by simp)
  have z1 := B43.out.froz 1 (by simp)
  have z2 := B43.out.froz 2 (by simp)
  have z3 := B43.out.froz 3 (by simp)
  have z4 := B43.out.froz 4 (by simp)
  have z5 := B43.out.froz 5 (by simp)
  have s0 := B53.out.cell 0 (by simp)
  have s1 := B53.out.cell 1 (by simp)
  have s2 := B53.out.cell 2 (by simp)
  have s3 := B53.out.cell 3 (by simp)
  have s4 := B53.out.cell 4 (by simp)
  simp only [List.getElem_cons_zero, List.getElem_cons_succ] at s0 s1 s2 s3 s4
  have y0 := B53.out.froz 0 (by simp)
  have y1 := B53.out.froz 1 (by simp)
  have y2 := B53.out.froz 2 (by simp)
  have y3 := B53.out.froz 3 (by simp)
  have y4 := B53.out.froz 4 (by simp)
  go_wp2_with fail
  clear p0 p1 p2 p3 p4 p5 q0 q1 q2 q3 q4 q5
  clear r0 r1 r2 r3 r4 r5 z0 z1 z2 z3 z4 z5 s0 s1 s2 s3 s4 y0 y1 y2 y3 y4
  have E4 := Lib.hid ((B43.out.put6 (.string ⟨a0.toArray⟩) (.bool a1) (.bool a2) (.slice ga a3.length gc) (.int .i64 a4) (.slice ua l.length uc)).put5o (c := w.heap.size + 1 + 1) (by omega) (.int .i64 7) (.int .i64 0) (.string ⟨#[]⟩) (.int .i64 0) (.int .i64 0))
  have E5 := Lib.hid ((B53.out.put6o (c := w.heap.size + 1) (by omega) (.string ⟨a0.toArray⟩) (.bool a1) (.bool a2) (.slice ga a3.length gc) (.int .i64 a4) (.slice ua l.length uc)).put5 (.int .i64 7) (.int .i64 0) (.string ⟨#[]⟩) (.int .i64 0) (.int .i64 0))
  have EB := Lib.hid (below_put5 (below_put6 HB3.out (w.heap.size + 1) (by omega) (.string ⟨a0.toArray⟩) (.bool a1) (.bool a2) (.slice ga a3.length gc) (.int .i64 a4) (.slice ua l.length uc)) (w.heap.size + 1 + 1) (by omega) (.int .i64 7) (.int .i64 0) (.string ⟨#[]⟩) (.int .i64 0) (.int .i64 0))
  have OC := Lib.hid (ownsF_put5 (ownsF_put6 R3.out (w.heap.size + 1) (by omega) (.string ⟨a0.toArray⟩) (.bool a1) (.bool a2) (.slice ga a3.length gc) (.int .i64 a4) (.slice ua l.length uc)) (w.heap.size + 1 + 1) (by omega) (.int .i64 7) (.int .i64 0) (.string ⟨#[]⟩) (.int .i64 0) (.int .i64 0))
  have OL := Lib.hid (ownsF_put5 (ownsF_put6 R5.out (w.heap.size + 1) (by omega) (.string ⟨a0.toArray⟩) (.bool a1) (.bool a2) (.slice ga a3.length gc) (.int .i64 a4) (.slice ua l.length uc)) (w.heap.size + 1 + 1) (by omega) (.int .i64 7) (.int .i64 0) (.string ⟨#[]⟩) (.int .i64 0) (.int .i64 0))
  generalize (((((((((((w3.setCell ⟨w.heap.size + 1, 0, none⟩ (.string ⟨a0.toArray⟩)).setCell ⟨w.heap.size + 1, 1, none⟩ (.bool a1)).setCell ⟨w.heap.size + 1, 2, none⟩ (.bool a2)).setCell ⟨w.heap.size + 1, 3, none⟩ (.slice ga a3.length gc)).setCell ⟨w.heap.size + 1, 4, none⟩ (.int .i64 a4)).setCell ⟨w.heap.size + 1, 5, none⟩ (.slice ua l.length uc)).setCell ⟨w.heap.size + 1 + 1, 0, none⟩ (.int .i64 7)).setCell ⟨w.heap.size + 1 + 1, 1, none⟩ (.int .i64 0)).setCell ⟨w.heap.size + 1 + 1, 2, none⟩ (.string ⟨#[]⟩)).setCell ⟨w.heap.size + 1 + 1, 3, none⟩ (.int .i64 0)).setCell ⟨w.heap.size + 1 + 1, 4, none⟩ (.int .i64 0)) = WE at *
  have r0 := E4.out.cell 0 (by simp)
  have r1 := E4.out.cell 1 (by simp)
  have r2 := E4.out.cell 2 (by simp)
  have r3 := E4.out.cell 3 (by simp)
  have r4 := E4.out.cell 4 (by simp)
  have r5 := E4.out.cell 5 (by simp)
  simp only [List.getElem_cons_zero, List.getElem_cons_succ] at r0 r1 r2 r3 r4 r5
  have s0 := E5.out.cell 0 (by simp)
  have s1 := E5.out.cell 1 (by simp)
  have s2 := E5.out.cell 2 (by simp)
  have s3 := E5.out.cell 3 (by simp)
  have s4 := E5.out.cell 4 (by simp)
  simp only [List.getElem_cons_zero, List.getElem_cons_succ] at s0 s1 s2 s3 s4
  exact bodyPost_ret (v := .tuple #[.agg #[.string ⟨a0.toArray⟩, .bool a1, .bool a2, .slice ga a3.length gc, .int .i64 a4, .slice ua l.length uc], .agg #[.int .i64 7, .int .i64 0, .string ⟨#[]⟩, .int .i64 0, .int .i64 0]]) (by simp [results, Tryz.results106, go_sem, r0, r1, r2, r3, r4, r5, s0, s1, s2, s3, s4]) rfl ⟨_, rfl, ⟨_, _, rfl, ownsF_base OC.out (by omega), ownsF_base OL.out (by omega)⟩, EB.out⟩
set_option maxRecDepth 100000 in
set_option maxHeartbeats 3200000 in
theorem specWrap_bad2 (v : Value) (x : PartD) (s : ByteArray) (w : World) (hx : ValAt rPart 0 w v x) (hs : SmallP x) (hk : ∀ c ∈ x.fCore.fCells, c.fKey.length ≤ maxLen) (hz : s.size ≤ 1048576) (hc : ¬ 0 ≤ layI s.data.toList) (hp : partB x = true) :
    Calls Tryz.prog 106 #[v, .string s] w fun e w' => GivesOPR (wrapP x s.data.toList) (wrapR x s.data.toList) w e w' := by
  obtain ⟨hwp, hwr⟩ := wrap_bad (x := x) (s := s.data.toList) (fun h => hc h.2)
  rw [hwp, hwr]
  clear hwp hwr
  obtain ⟨_, rfl, hx⟩ := hx
  have HX := Lib.hid (fun W (hb : Below w.heap.size w W) => goodPart.keep hx (kept_below hb (Nat.le_refl _)))
  have HIP := Lib.hid (fun cs W (h : rPart 0 W cs x) => specIsPart_any (.agg cs.toArray) x W ⟨cs, rfl, h⟩ hk)
  have HCP := Lib.hid (fun cs W (h : rPart 0 W cs x) => l4Copy_own (.agg cs.toArray) x W ⟨cs, rfl, h⟩ hs)
  have HLN := Lib.hid (fun W => l4Row_any s W)
  have HSZ := Lib.hid hs.lays
  unfold l4V at HLN
  unfold GivesOPR vReply
  unfold GivesOP at HCP
  rw [hp] at HIP
  rw [show decide (0 ≤ layI s.data.toList) = false from decide_eq_false hc] at HLN
  generalize needI (layI s.data.toList) = nd at *
  generalize giveI (layI s.data.toList) = gv at *
  obtain ⟨⟨a0, a1, a2, a3, a4⟩, l⟩ := x
  obtain ⟨v3, v5, rfl, h3, h5⟩ := hx
  simp only at h3 h5 HSZ
  obtain ⟨ra, rc, rfl, _⟩ := sliceAt_len h3
  obtain ⟨sa, sc, rfl, hl, hcap⟩ := sliceAt_cap h5
  clear h3 h5 hs hk hcap hl
  have BS := Lib.hid (bx_start3 w [.string ⟨a0.toArray⟩, .bool a1, .bool a2, .slice ra a3.length rc, .int .i64 a4, .slice sa l.length sc] [.string ⟨#[]⟩, .bool false, .bool false, .slice none 0 0, .int .i64 0, .slice none 0 0] [.int .i64 0, .int .i64 0, .string ⟨#[]⟩, .int .i64 0, .int .i64 0] 74 74 76)
  have HR0 := Lib.hid (HX.out _ BS.out.2.2.2)
  clear hc hp
  go_enter Tryz.func106, Tryz.ntmps106
  go_wp2_with fail
  refine (HCP.out _ _ HR0.out).mono ?_
  rintro e w1 ⟨_, rfl, ⟨u3, u5, rfl, ho3, ho5⟩, hb⟩
  simp only at ho3 ho5
  obtain ⟨ga, gc, rfl⟩ := slice_of ho3
  obtain ⟨ua, uc, rfl⟩ := slice_of ho5
  have HB1 := Lib.hid ((belS BS.out.2.2.2 hb).alloc (belS BS.out.2.2.2 hb).size (.cells #[.string ⟨a0.toArray⟩, .bool a1, .bool a2, .slice ga a3.length gc, .int .i64 a4, .slice ua l.length uc] 74))
  have B31 := Lib.hid ((BS.out.1.below hb).alloc (.cells #[.string ⟨a0.toArray⟩, .bool a1, .bool a2, .slice ga a3.length gc, .int .i64 a4, .slice ua l.length uc] 74))
  have B41 := Lib.hid ((BS.out.2.1.below hb).alloc (.cells #[.string ⟨a0.toArray⟩, .bool a1, .bool a2, .slice ga a3.length gc, .int .i64 a4, .slice ua l.length uc] 74))
  have B51 := Lib.hid ((BS.out.2.2.1.below hb).alloc (.cells #[.string ⟨a0.toArray⟩, .bool a1, .bool a2, .slice ga a3.length gc, .int .i64 a4, .slice ua l.length uc] 74))
  have BQ1 := Lib.hid (Bx.new w1 [.string ⟨a0.toArray⟩, .bool a1, .bool a2, .slice ga a3.length gc, .int .i64 a4, .slice ua l.length uc] 74)
  have O3 := Lib.hid (ownsF_alloc (ownsF_base (B' := w.heap.size + 1 + 1 + 1) ho3 (by simp)) (.cells #[.string ⟨a0.toArray⟩, .bool a1, .bool a2, .slice ga a3.length gc, .int .i64 a4, .slice ua l.length uc] 74))
  have O5 := Lib.hid (ownsF_alloc (ownsF_base (B' := w.heap.size + 1 + 1 + 1) ho5 (by simp)) (.cells #[.string ⟨a0.toArray⟩, .bool a1, .bool a2, .slice ga a3.length gc, .int .i64 a4, .slice ua l.length uc] 74))
  have h3s := hb.size
  simp at h3s
  have HU5 := Lib.hid (fun g (h : (Value.slice ua l.length uc).ownBlock = some g) => (show w.heap.size + 1 + 1 + 1 ≤ g ∧ g < w1.heap.size from ⟨by have := (World.ownsRow.lt ho5 g h).1; simpa using this, (World.ownsRow.lt ho5 g h).2⟩))
  have HU3 := Lib.hid (fun g (h : (Value.slice ga a3.length gc).ownBlock = some g) => (show g < w1.heap.size from (World.ownsRow.lt ho3 g h).2))
  clear hb ho3 ho5 BS
  go_wp2_with fail
  refine (HLN.out _).mono ?_
  rintro e w2 ⟨rfl, hb⟩
  have HB2 := Lib.hid (belS HB1.out hb)
  have B32 := Lib.hid (B31.out.below hb)
  have B42 := Lib.hid (B41.out.below hb)
  have B52 := Lib.hid (B51.out.below hb)
  have BQ2 := Lib.hid (BQ1.out.below hb)
  have P3 := Lib.hid (ownsF_below O3.out hb (Nat.le_refl _))
  have P5 := Lib.hid (ownsF_below O5.out hb (Nat.le_refl _))
  have h4s2 := hb.size
  simp at h4s2
  clear hb B31 B41 B51 BQ1
  have p0 := B32.out.cell 0 (by simp)
  have p1 := B32.out.cell 1 (by simp)
  have p2 := B32.out.cell 2 (by simp)
  have p3 := B32.out.cell 3 (by simp)
  have p4 := B32.out.cell 4 (by simp)
  have p5 := B32.out.cell 5 (by simp)
  simp only [List.getElem_cons_zero, List.getElem_cons_succ] at p0 p1 p2 p3 p4 p5
  go_wp2_with fail
  refine (HIP.out _ _ (HX.out _ HB2.out)).mono ?_
  rintro e w3 ⟨rfl, hb⟩
  clear p0 p1 p2 p3 p4 p5
  have HB3 := Lib.hid (belS HB2.out hb)
  have B33 := Lib.hid (B32.out.below hb)
  have B43 := Lib.hid (B42.out.below hb)
  have B53 := Lib.hid (B52.out.below hb)
  have BQ3 := Lib.hid (BQ2.out.below hb)
  have R3 := Lib.hid (ownsF_below P3.out hb (Nat.le_refl _))
  have R5 := Lib.hid (ownsF_below P5.out hb (Nat.le_refl _))
  have h4s3 := hb.size
  skip
  clear hb B32 B42 B52 BQ2
  have p0 := B33.out.cell 0 (by simp)
  have p1 := B33.out.cell 1 (by simp)
  have p2 := B33.out.cell 2 (by simp)
  have p3 := B33.out.cell 3 (by simp)
  have p4 := B33.out.cell 4 (by simp)
  have p5 := B33.out.cell 5 (by simp)
  simp only [List.getElem_cons_zero, List.getElem_cons_succ] at p0 p1 p2 p3 p4 p5
  have q0 := BQ3.out.cell 0 (by simp)
  have q1 := BQ3.out.cell 1 (by simp)
  have q2 := BQ3.out.cell 2 (by simp)
  have q3 := BQ3.out.cell 3 (by simp)
  have q4 := BQ3.out.cell 4 (by simp)
  have q5 := BQ3.out.cell 5 (by simp)
  simp only [List.getElem_cons_zero, List.getElem_cons_succ] at q0 q1 q2 q3 q4 q5
  have r0 := B43.out.cell 0 (by simp)
  have r1 := B43.out.cell 1 (by simp)
  have r2 := B43.out.cell 2 (by simp)
  have r3 := B43.out.cell 3 (by simp)
  have r4 := B43.out.cell 4 (by simp)
  have r5 := B43.out.cell 5 (by simp)
  simp only [List.getElem_cons_zero, List.getElem_cons_succ] at r0 r1 r2 r3 r4 r5
  have z0 := B43.out.froz 0 (by simp)
  have z1 := B43.out.froz 1 (by simp)
  have z2 := B43.out.froz 2 (by simp)
  have z3 := B43.out.froz 3 (by simp)
  have z4 := B43.out.froz 4 (by simp)
  have z5 := B43.out.froz 5 (by simp)
  have s0 := B53.out.cell 0 (by simp)
  have s1 := B53.out.cell 1 (by simp)
  have s2 := B53.out.cell 2 (by simp)
  have s3 := B53.out.cell 3 (by simp)
  have s4 := B53.out.cell 4 (by simp)
  simp only [List.getElem_cons_zero, List.getElem_cons_succ] at s0 s1 s2 s3 s4
  have y0 := B53.out.froz 0 (by simp)
  have y1 := B53.out.froz 1 (by simp)
  have y2 := B53.out.froz 2 (by simp)
  have y3 := B53.out.froz 3 (by simp)
  have y4 := B53.out.froz 4 (by simp)
  go_wp2_with fail
  clear p0 p1 p2 p3 p4 p5 q0 q1 q2 q3 q4 q5
  clear r0 r1 r2 r3 r4 r5 z0 z1 z2 z3 z4 z5 s0 s1 s2 s3 s4 y0 y1 y2 y3 y4
  have E4 := Lib.hid ((B43.out.put6 (.string ⟨a0.toArray⟩) (.bool a1) (.bool a2) (.slice ga a3.length gc) (.int .i64 a4) (.slice ua l.length uc)).put5o (c := w.heap.size + 1 + 1) (by omega) (.int .i64 7) (.int .i64 0) (.string ⟨#[]⟩) (.int .i64 0) (.int .i64 0))
  have E5 := Lib.hid ((B53.out.put6o (c := w.heap.size + 1) (by omega) (.string ⟨a0.toArray⟩) (.bool a1) (.bool a2) (.slice ga a3.length gc) (.int .i64 a4) (.slice ua l.length uc)).put5 (.int .i64 7) (.int .i64 0) (.string ⟨#[]⟩) (.int .i64 0) (.int .i64 0))
  have EB := Lib.hid (below_put5 (below_put6 HB3.out (w.heap.size + 1) (by omega) (.string ⟨a0.toArray⟩) (.bool a1) (.bool a2) (.slice ga a3.length gc) (.int .i64 a4) (.slice ua l.length uc)) (w.heap.size + 1 + 1) (by omega) (.int .i64 7) (.int .i64 0) (.string ⟨#[]⟩) (.int .i64 0) (.int .i64 0))
  have OC := Lib.hid (ownsF_put5 (ownsF_put6 R3.out (w.heap.size + 1) (by omega) (.string ⟨a0.toArray⟩) (.bool a1) (.bool a2) (.slice ga a3.length gc) (.int .i64 a4) (.slice ua l.length uc)) (w.heap.size + 1 + 1) (by omega) (.int .i64 7) (.int .i64 0) (.string ⟨#[]⟩) (.int .i64 0) (.int .i64 0))
  have OL := Lib.hid (ownsF_put5 (ownsF_put6 R5.out (w.heap.size + 1) (by omega) (.string ⟨a0.toArray⟩) (.bool a1) (.bool a2) (.slice ga a3.length gc) (.int .i64 a4) (.slice ua l.length uc)) (w.heap.size + 1 + 1) (by omega) (.int .i64 7) (.int .i64 0) (.string ⟨#[]⟩) (.int .i64 0) (.int .i64 0))
  generalize (((((((((((w3.setCell ⟨w.heap.size + 1, 0, none⟩ (.string ⟨a0.toArray⟩)).setCell ⟨w.heap.size + 1, 1, none⟩ (.bool a1)).setCell ⟨w.heap.size + 1, 2, none⟩ (.bool a2)).setCell ⟨w.heap.size + 1, 3, none⟩ (.slice ga a3.length gc)).setCell ⟨w.heap.size + 1, 4, none⟩ (.int .i64 a4)).setCell ⟨w.heap.size + 1, 5, none⟩ (.slice ua l.length uc)).setCell ⟨w.heap.size + 1 + 1, 0, none⟩ (.int .i64 7)).setCell ⟨w.heap.size + 1 + 1, 1, none⟩ (.int .i64 0)).setCell ⟨w.heap.size + 1 + 1, 2, none⟩ (.string ⟨#[]⟩)).setCell ⟨w.heap.size + 1 + 1, 3, none⟩ (.int .i64 0)).setCell ⟨w.heap.size + 1 + 1, 4, none⟩ (.int .i64 0)) = WE at *
  have r0 := E4.out.cell 0 (by simp)
  have r1 := E4.out.cell 1 (by simp)
  have r2 := E4.out.cell 2 (by simp)
  have r3 := E4.out.cell 3 (by simp)
  have r4 := E4.out.cell 4 (by simp)
  have r5 := E4.out.cell 5 (by simp)
  simp only [List.getElem_cons_zero, List.getElem_cons_succ] at r0 r1 r2 r3 r4 r5
  have s0 := E5.out.cell 0 (by simp)
  have s1 := E5.out.cell 1 (by simp)
  have s2 := E5.out.cell 2 (by simp)
  have s3 := E5.out.cell 3 (by simp)
  have s4 := E5.out.cell 4 (by simp)
  simp only [List.getElem_cons_zero, List.getElem_cons_succ] at s0 s1 s2 s3 s4
  exact bodyPost_ret (v := .tuple #[.agg #[.string ⟨a0.toArray⟩, .bool a1, .bool a2, .slice ga a3.length gc, .int .i64 a4, .slice ua l.length uc], .agg #[.int .i64 7, .int .i64 0, .string ⟨#[]⟩, .int .i64 0, .int .i64 0]]) (by simp [results, Tryz.results106, go_sem, r0, r1, r2, r3, r4, r5, s0, s1, s2, s3, s4]) rfl ⟨_, rfl, ⟨_, _, rfl, ownsF_base OC.out (by omega), ownsF_base OL.out (by omega)⟩, EB.out⟩
set_option maxRecDepth 100000 in
set_option maxHeartbeats 3200000 in
theorem specWrap_full (v : Value) (x : PartD) (s : ByteArray) (w : World) (hx : ValAt rPart 0 w v x) (hs : SmallP x) (hk : ∀ c ∈ x.fCore.fCells, c.fKey.length ≤ maxLen) (hz : s.size ≤ 1048576) (hc : 0 ≤ layI s.data.toList) (hp : partB x = true) (h3 : x.fLayers.length = 3) :
    Calls Tryz.prog 106 #[v, .string s] w fun e w' => GivesOPR (wrapP x s.data.toList) (wrapR x s.data.toList) w e w' := by
  obtain ⟨hwp, hwr⟩ := wrap_full (x := x) (s := s.data.toList) ⟨hp, hc⟩ h3
  rw [hwp, hwr]
  clear hwp hwr
  have H3 := Lib.hid h3
  clear h3
  obtain ⟨_, rfl, hx⟩ := hx
  have HX := Lib.hid (fun W (hb : Below w.heap.size w W) => goodPart.keep hx (kept_below hb (Nat.le_refl _)))
  have HIP := Lib.hid (fun cs W (h : rPart 0 W cs x) => specIsPart_any (.agg cs.toArray) x W ⟨cs, rfl, h⟩ hk)
  have HCP := Lib.hid (fun cs W (h : rPart 0 W cs x) => l4Copy_own (.agg cs.toArray) x W ⟨cs, rfl, h⟩ hs)
  have HLN := Lib.hid (fun W => l4Row_any s W)
  have HSZ := Lib.hid hs.lays
  unfold l4V at HLN
  unfold GivesOPR vReply
  unfold GivesOP at HCP
  rw [hp] at HIP
  rw [show decide (0 ≤ layI s.data.toList) = true from decide_eq_true hc] at HLN
  generalize needI (layI s.data.toList) = nd at *
  generalize giveI (layI s.data.toList) = gv at *
  obtain ⟨⟨a0, a1, a2, a3, a4⟩, l⟩ := x
  obtain ⟨v3, v5, rfl, h3, h5⟩ := hx
  simp only at h3 h5 HSZ
  obtain ⟨ra, rc, rfl, _⟩ := sliceAt_len h3
  obtain ⟨sa, sc, rfl, hl, hcap⟩ := sliceAt_cap h5
  clear h3 h5 hs hk hcap hl
  have BS := Lib.hid (bx_start3 w [.string ⟨a0.toArray⟩, .bool a1, .bool a2, .slice ra a3.length rc, .int .i64 a4, .slice sa l.length sc] [.string ⟨#[]⟩, .bool false, .bool false, .slice none 0 0, .int .i64 0, .slice none 0 0] [.int .i64 0, .int .i64 0, .string ⟨#[]⟩, .int .i64 0, .int .i64 0] 74 74 76)
  have HR0 := Lib.hid (HX.out _ BS.out.2.2.2)
  clear hc hp
  go_enter Tryz.func106, Tryz.ntmps106
  go_wp2_with fail
  refine (HCP.out _ _ HR0.out).mono ?_
  rintro e w1 ⟨_, rfl, ⟨u3, u5, rfl, ho3, ho5⟩, hb⟩
  simp only at ho3 ho5
  obtain ⟨ga, gc, rfl⟩ := slice_of ho3
  obtain ⟨ua, uc, rfl⟩ := slice_of ho5
  have HB1 := Lib.hid ((belS BS.out.2.2.2 hb).alloc (belS BS.out.2.2.2 hb).size (.cells #[.string ⟨a0.toArray⟩, .bool a1, .bool a2, .slice ga a3.length gc, .int .i64 a4, .slice ua l.length uc] 74))
  have B31 := Lib.hid ((BS.out.1.below hb).alloc (.cells #[.string ⟨a0.toArray⟩, .bool a1, .bool a2, .slice ga a3.length gc, .int .i64 a4, .slice ua l.length uc] 74))
  have B41 := Lib.hid ((BS.out.2.1.below hb).alloc (.cells #[.string ⟨a0.toArray⟩, .bool a1, .bool a2, .slice ga a3.length gc, .int .i64 a4, .slice ua l.length uc] 74))
  have B51 := Lib.hid ((BS.out.2.2.1.below hb).alloc (.cells #[.string ⟨a0.toArray⟩, .bool a1, .bool a2, .slice ga a3.length gc, .int .i64 a4, .slice ua l.length uc] 74))
  have BQ1 := Lib.hid (Bx.new w1 [.string ⟨a0.toArray⟩, .bool a1, .bool a2, .slice ga a3.length gc, .int .i64 a4, .slice ua l.length uc] 74)
  have O3 := Lib.hid (ownsF_alloc (ownsF_base (B' := w.heap.size + 1 + 1 + 1) ho3 (by simp)) (.cells #[.string ⟨a0.toArray⟩, .bool a1, .bool a2, .slice ga a3.length gc, .int .i64 a4, .slice ua l.length uc] 74))
  have O5 := Lib.hid (ownsF_alloc (ownsF_base (B' := w.heap.size + 1 + 1 + 1) ho5 (by simp)) (.cells #[.string ⟨a0.toArray⟩, .bool a1, .bool a2, .slice ga a3.length gc, .int .i64 a4, .slice ua l.length uc] 74))
  have h3s := hb.size
  simp at h3s
  have HU5 := Lib.hid (fun g (h : (Value.slice ua l.length uc).ownBlock = some g) => (show w.heap.size + 1 + 1 + 1 ≤ g ∧ g < w1.heap.size from ⟨by have := (World.ownsRow.lt ho5 g h).1; simpa using this, (World.ownsRow.lt ho5 g h).2⟩))
  have HU3 := Lib.hid (fun g (h : (Value.slice ga a3.length gc).ownBlock = some g) => (show g < w1.heap.size from (World.ownsRow.lt ho3 g h).2))
  clear hb ho3 ho5 BS
  go_wp2_with fail
  refine (HLN.out _).mono ?_
  rintro e w2 ⟨rfl, hb⟩
  have HB2 := Lib.hid (belS HB1.out hb)
  have B32 := Lib.hid (B31.out.below hb)
  have B42 := Lib.hid (B41.out.below hb)
  have B52 := Lib.hid (B51.out.below hb)
  have BQ2 := Lib.hid (BQ1.out.below hb)
  have P3 := Lib.hid (ownsF_below O3.out hb (Nat.le_refl _))
  have P5 := Lib.hid (ownsF_below O5.out hb (Nat.le_refl _))
  have h4s2 := hb.size
  simp at h4s2
  clear hb B31 B41 B51 BQ1
  have p0 := B32.out.cell 0 (by simp)
  have p1 := B32.out.cell 1 (by simp)
  have p2 := B32.out.cell 2 (by simp)
  have p3 := B32.out.cell 3 (by simp)
  have p4 := B32.out.cell 4 (by simp)
  have p5 := B32.out.cell 5 (by simp)
  simp only [List.getElem_cons_zero, List.getElem_cons_succ] at p0 p1 p2 p3 p4 p5
  go_wp2_with fail
  refine (HIP.out _ _ (HX.out _ HB2.out)).mono ?_
  rintro e w3 ⟨rfl, hb⟩
  clear p0 p1 p2 p3 p4 p5
  have HB3 := Lib.hid (belS HB2.out hb)
  have B33 := Lib.hid (B32.out.below hb)
  have B43 := Lib.hid (B42.out.below hb)
  have B53 := Lib.hid (B52.out.below hb)
  have BQ3 := Lib.hid (BQ2.out.below hb)
  have R3 := Lib.hid (ownsF_below P3.out hb (Nat.le_refl _))
  have R5 := Lib.hid (ownsF_below P5.out hb (Nat.le_refl _))
  have h4s3 := hb.size
  skip
  clear hb B32 B42 B52 BQ2
  have h3 := H3.out
  try simp only at h3
  have hl3 : ((l.length : Int) == 3) = true := by rw [h3]; rfl
  clear h3
  have p0 := B33.out.cell 0 (by simp)
  have p1 := B33.out.cell 1 (by simp)
  have p2 := B33.out.cell 2 (by simp)
  have p3 := B33.out.cell 3 (by simp)
  have p4 := B33.out.cell 4 (by simp)
  have p5 := B33.out.cell 5 (by simp)
  simp only [List.getElem_cons_zero, List.getElem_cons_succ] at p0 p1 p2 p3 p4 p5
  have q0 := BQ3.out.cell 0 (by simp)
  have q1 := BQ3.out.cell 1 (by simp)
  have q2 := BQ3.out.cell 2 (by simp)
  have q3 := BQ3.out.cell 3 (by simp)
  have q4 := BQ3.out.cell 4 (by simp)
  have q5 := BQ3.out.cell 5 (by simp)
  simp only [List.getElem_cons_zero, List.getElem_cons_succ] at q0 q1 q2 q3 q4 q5
  have r0 := B43.out.cell 0 (by simp)
  have r1 := B43.out.cell 1 (by simp)
  have r2 := B43.out.cell 2 (by simp)
  have r3 := B43.out.cell 3 (by simp)
  have r4 := B43.out.cell 4 (by simp)
  have r5 := B43.out.cell 5 (by simp)
  simp only [List.getElem_cons_zero, List.getElem_cons_succ] at r0 r1 r2 r3 r4 r5
  have z0 := B43.out.froz 0 (by simp)
  have z1 := B43.out.froz 1 (by simp)
  have z2 := B43.out.froz 2 (by simp)
  have z3 := B43.out.froz 3 (by simp)
  have z4 := B43.out.froz 4 (by simp)
  have z5 := B43.out.froz 5 (by simp)
  have s0 := B53.out.cell 0 (by simp)
  have s1 := B53.out.cell 1 (by simp)
  have s2 := B53.out.cell 2 (by simp)
  have s3 := B53.out.cell 3 (by simp)
  have s4 := B53.out.cell 4 (by simp)
  simp only [List.getElem_cons_zero, List.getElem_cons_succ] at s0 s1 s2 s3 s4
  have y0 := B53.out.froz 0 (by simp)
  have y1 := B53.out.froz 1 (by simp)
  have y2 := B53.out.froz 2 (by simp)
  have y3 := B53.out.froz 3 (by simp)
  have y4 := B53.out.froz 4 (by simp)
  go_wp2_with fail
  clear p0 p1 p2 p3 p4 p5 q0 q1 q2 q3 q4 q5
  clear r0 r1 r2 r3 r4 r5 z0 z1 z2 z3 z4 z5 s0 s1 s2 s3 s4 y0 y1 y2 y3 y4
  have E4 := Lib.hid ((B43.out.put6 (.string ⟨a0.toArray⟩) (.bool a1) (.bool a2) (.slice ga a3.length gc) (.int .i64 a4) (.slice ua l.length uc)).put5o (c := w.heap.size + 1 + 1) (by omega) (.int .i64 5) (.int .i64 0) (.string ⟨#[]⟩) (.int .i64 0) (.int .i64 0))
  have E5 := Lib.hid ((B53.out.put6o (c := w.heap.size + 1) (by omega) (.string ⟨a0.toArray⟩) (.bool a1) (.bool a2) (.slice ga a3.length gc) (.int .i64 a4) (.slice ua l.length uc)).put5 (.int .i64 5) (.int .i64 0) (.string ⟨#[]⟩) (.int .i64 0) (.int .i64 0))
  have EB := Lib.hid (below_put5 (below_put6 HB3.out (w.heap.size + 1) (by omega) (.string ⟨a0.toArray⟩) (.bool a1) (.bool a2) (.slice ga a3.length gc) (.int .i64 a4) (.slice ua l.length uc)) (w.heap.size + 1 + 1) (by omega) (.int .i64 5) (.int .i64 0) (.string ⟨#[]⟩) (.int .i64 0) (.int .i64 0))
  have OC := Lib.hid (ownsF_put5 (ownsF_put6 R3.out (w.heap.size + 1) (by omega) (.string ⟨a0.toArray⟩) (.bool a1) (.bool a2) (.slice ga a3.length gc) (.int .i64 a4) (.slice ua l.length uc)) (w.heap.size + 1 + 1) (by omega) (.int .i64 5) (.int .i64 0) (.string ⟨#[]⟩) (.int .i64 0) (.int .i64 0))
  have OL := Lib.hid (ownsF_put5 (ownsF_put6 R5.out (w.heap.size + 1) (by omega) (.string ⟨a0.toArray⟩) (.bool a1) (.bool a2) (.slice ga a3.length gc) (.int .i64 a4) (.slice ua l.length uc)) (w.heap.size + 1 + 1) (by omega) (.int .i64 5) (.int .i64 0) (.string ⟨#[]⟩) (.int .i64 0) (.int .i64 0))
  generalize (((((((((((w3.setCell ⟨w.heap.size + 1, 0, none⟩ (.string ⟨a0.toArray⟩)).setCell ⟨w.heap.size + 1, 1, none⟩ (.bool a1)).setCell ⟨w.heap.size + 1, 2, none⟩ (.bool a2)).setCell ⟨w.heap.size + 1, 3, none⟩ (.slice ga a3.length gc)).setCell ⟨w.heap.size + 1, 4, none⟩ (.int .i64 a4)).setCell ⟨w.heap.size + 1, 5, none⟩ (.slice ua l.length uc)).setCell ⟨w.heap.size + 1 + 1, 0, none⟩ (.int .i64 5)).setCell ⟨w.heap.size + 1 + 1, 1, none⟩ (.int .i64 0)).setCell ⟨w.heap.size + 1 + 1, 2, none⟩ (.string ⟨#[]⟩)).setCell ⟨w.heap.size + 1 + 1, 3, none⟩ (.int .i64 0)).setCell ⟨w.heap.size + 1 + 1, 4, none⟩ (.int .i64 0)) = WE at *
  have r0 := E4.out.cell 0 (by simp)
  have r1 := E4.out.cell 1 (by simp)
  have r2 := E4.out.cell 2 (by simp)
  have r3 := E4.out.cell 3 (by simp)
  have r4 := E4.out.cell 4 (by simp)
  have r5 := E4.out.cell 5 (by simp)
  simp only [List.getElem_cons_zero, List.getElem_cons_succ] at r0 r1 r2 r3 r4 r5
  have s0 := E5.out.cell 0 (by simp)
  have s1 := E5.out.cell 1 (by simp)
  have s2 := E5.out.cell 2 (by simp)
  have s3 := E5.out.cell 3 (by simp)
  have s4 := E5.out.cell 4 (by simp)
  simp only [List.getElem_cons_zero, List.getElem_cons_succ] at s0 s1 s2 s3 s4
  exact bodyPost_ret (v := .tuple #[.agg #[.string ⟨a0.toArray⟩, .bool a1, .bool a2, .slice ga a3.length gc, .int .i64 a4, .slice ua l.length uc], .agg #[.int .i64 5, .int .i64 0, .string ⟨#[]⟩, .int .i64 0, .int .i64 0]]) (by simp [results, Tryz.results106, go_sem, r0, r1, r2, r3, r4, r5, s0, s1, s2, s3, s4]) rfl ⟨_, rfl, ⟨_, _, rfl, ownsF_base OC.out (by omega), ownsF_base OL.out (by omega)⟩, EB.out⟩
set_option maxRecDepth 100000 in
set_option maxHeartbeats 3200000 in
theorem specWrap_fail (v : Value) (x : PartD) (s : ByteArray) (w : World) (hx : ValAt rPart 0 w v x) (hs : SmallP x) (hk : ∀ c ∈ x.fCore.fCells, c.fKey.length ≤ maxLen) (hz : s.size ≤ 1048576) (hc : 0 ≤ layI s.data.toList) (hp : partB x = true) (h3 : ¬ x.fLayers.length = 3) (ho : offersF (faceP x) (needI (layI s.data.toList)) = false) :
    Calls Tryz.prog 106 #[v, .string s] w fun e w' => GivesOPR (wrapP x s.data.toList) (wrapR x s.data.toList) w e w' := by
  obtain ⟨hwp, hwr⟩ := wrap_fail (x := x) (s := s.data.toList) ⟨hp, hc⟩ h3 ho
  rw [hwp, hwr]
  clear hwp hwr
  have H3 := Lib.hid h3
  clear h3
  have HOF := Lib.hid (fun W => specOffers_any (faceP x) (needI (layI s.data.toList)) W)
  rw [ho] at HOF
  have HFO := Lib.hid (fun cs W (h : rPart 0 W cs x) => specFaceOf_any (.agg cs.toArray) x W ⟨cs, rfl, h⟩)
  clear ho
  obtain ⟨_, rfl, hx⟩ := hx
  have HX := Lib.hid (fun W (hb : Below w.heap.size w W) => goodPart.keep hx (kept_below hb (Nat.le_refl _)))
  have HIP := Lib.hid (fun cs W (h : rPart 0 W cs x) => specIsPart_any (.agg cs.toArray) x W ⟨cs, rfl, h⟩ hk)
  have HCP := Lib.hid (fun cs W (h : rPart 0 W cs x) => l4Copy_own (.agg cs.toArray) x W ⟨cs, rfl, h⟩ hs)
  have HLN := Lib.hid (fun W => l4Row_any s W)
  have HSZ := Lib.hid hs.lays
  unfold l4V at HLN
  unfold GivesOPR vReply
  unfold GivesOP at HCP
  rw [hp] at HIP
  rw [show decide (0 ≤ layI s.data.toList) = true from decide_eq_true hc] at HLN
  generalize needI (layI s.data.toList) = nd at *
  generalize giveI (layI s.data.toList) = gv at *
  generalize faceP x = fp at *
  obtain ⟨⟨a0, a1, a2, a3, a4⟩, l⟩ := x
  obtain ⟨v3, v5, rfl, h3, h5⟩ := hx
  simp only at h3 h5 HSZ
  obtain ⟨ra, rc, rfl, _⟩ := sliceAt_len h3
  obtain ⟨sa, sc, rfl, hl, hcap⟩ := sliceAt_cap h5
  clear h3 h5 hs hk hcap hl
  have BS := Lib.hid (bx_start3 w [.string ⟨a0.toArray⟩, .bool a1, .bool a2, .slice ra a3.length rc, .int .i64 a4, .slice sa l.length sc] [.string ⟨#[]⟩, .bool false, .bool false, .slice none 0 0, .int .i64 0, .slice none 0 0] [.int .i64 0, .int .i64 0, .string ⟨#[]⟩, .int .i64 0, .int .i64 0] 74 74 76)
  have HR0 := Lib.hid (HX.out _ BS.out.2.2.2)
  clear hc hp
  go_enter Tryz.func106, Tryz.ntmps106
  go_wp2_with fail
  refine (HCP.out _ _ HR0.out).mono ?_
  rintro e w1 ⟨_, rfl, ⟨u3, u5, rfl, ho3, ho5⟩, hb⟩
  simp only at ho3 ho5
  obtain ⟨ga, gc, rfl⟩ := slice_of ho3
  obtain ⟨ua, uc, rfl⟩ := slice_of ho5
  have HB1 := Lib.hid ((belS BS.out.2.2.2 hb).alloc (belS BS.out.2.2.2 hb).size (.cells #[.string ⟨a0.toArray⟩, .bool a1, .bool a2, .slice ga a3.length gc, .int .i64 a4, .slice ua l.length uc] 74))
  have B31 := Lib.hid ((BS.out.1.below hb).alloc (.cells #[.string ⟨a0.toArray⟩, .bool a1, .bool a2, .slice ga a3.length gc, .int .i64 a4, .slice ua l.length uc] 74))
  have B41 := Lib.hid ((BS.out.2.1.below hb).alloc (.cells #[.string ⟨a0.toArray⟩, .bool a1, .bool a2, .slice ga a3.length gc, .int .i64 a4, .slice ua l.length uc] 74))
  have B51 := Lib.hid ((BS.out.2.2.1.below hb).alloc (.cells #[.string ⟨a0.toArray⟩, .bool a1, .bool a2, .slice ga a3.length gc, .int .i64 a4, .slice ua l.length uc] 74))
  have BQ1 := Lib.hid (Bx.new w1 [.string ⟨a0.toArray⟩, .bool a1, .bool a2, .slice ga a3.length gc, .int .i64 a4, .slice ua l.length uc] 74)
  have O3 := Lib.hid (ownsF_alloc (ownsF_base (B' := w.heap.size + 1 + 1 + 1) ho3 (by simp)) (.cells #[.string ⟨a0.toArray⟩, .bool a1, .bool a2, .slice ga a3.length gc, .int .i64 a4, .slice ua l.length uc] 74))
  have O5 := Lib.hid (ownsF_alloc (ownsF_base (B' := w.heap.size + 1 + 1 + 1) ho5 (by simp)) (.cells #[.string ⟨a0.toArray⟩, .bool a1, .bool a2, .slice ga a3.length gc, .int .i64 a4, .slice ua l.length uc] 74))
  have h3s := hb.size
  simp at h3s
  have HU5 := Lib.hid (fun g (h : (Value.slice ua l.length uc).ownBlock = some g) => (show w.heap.size + 1 + 1 + 1 ≤ g ∧ g < w1.heap.size from ⟨by have := (World.ownsRow.lt ho5 g h).1; simpa using this, (World.ownsRow.lt ho5 g h).2⟩))
  have HU3 := Lib.hid (fun g (h : (Value.slice ga a3.length gc).ownBlock = some g) => (show g < w1.heap.size from (World.ownsRow.lt ho3 g h).2))
  clear hb ho3 ho5 BS
  go_wp2_with fail
  refine (HLN.out _).mono ?_
  rintro e w2 ⟨rfl, hb⟩
  have HB2 := Lib.hid (belS HB1.out hb)
  have B32 := Lib.hid (B31.out.below hb)
  have B42 := Lib.hid (B41.out.below hb)
  have B52 := Lib.hid (B51.out.below hb)
  have BQ2 := Lib.hid (BQ1.out.below hb)
  have P3 := Lib.hid (ownsF_below O3.out hb (Nat.le_refl _))
  have P5 := Lib.hid (ownsF_below O5.out hb (Nat.le_refl _))
  have h4s2 := hb.size
  simp at h4s2
  clear hb B31 B41 B51 BQ1
  have p0 := B32.out.cell 0 (by simp)
  have p1 := B32.out.cell 1 (by simp)
  have p2 := B32.out.cell 2 (by simp)
  have p3 := B32.out.cell 3 (by simp)
  have p4 := B32.out.cell 4 (by simp)
  have p5 := B32.out.cell 5 (by simp)
  simp only [List.getElem_cons_zero, List.getElem_cons_succ] at p0 p1 p2 p3 p4 p5
  go_wp2_with fail
  refine (HIP.out _ _ (HX.out _ HB2.out)).mono ?_
  rintro e w3 ⟨rfl, hb⟩
  clear p0 p1 p2 p3 p4 p5
  have HB3 := Lib.hid (belS HB2.out hb)
  have B33 := Lib.hid (B32.out.below hb)
  have B43 := Lib.hid (B42.out.below hb)
  have B53 := Lib.hid (B52.out.below hb)
  have BQ3 := Lib.hid (BQ2.out.below hb)
  have R3 := Lib.hid (ownsF_below P3.out hb (Nat.le_refl _))
  have R5 := Lib.hid (ownsF_below P5.out hb (Nat.le_refl _))
  have h4s3 := hb.size
  skip
  clear hb B32 B42 B52 BQ2
  have h3 := H3.out
  try simp only at h3
  have hl3 : ¬ (l.length : Int) = 3 := by omega
  clear h3
  have p0 := B33.out.cell 0 (by simp)
  have p1 := B33.out.cell 1 (by simp)
  have p2 := B33.out.cell 2 (by simp)
  have p3 := B33.out.cell 3 (by simp)
  have p4 := B33.out.cell 4 (by simp)
  have p5 := B33.out.cell 5 (by simp)
  simp only [List.getElem_cons_zero, List.getElem_cons_succ] at p0 p1 p2 p3 p4 p5
  go_wp2_with fail
  refine (HFO.out _ _ (HX.out _ HB3.out)).mono ?_
  rintro e w4 ⟨rfl, hb⟩
  clear p0 p1 p2 p3 p4 p5
  have HB4 := Lib.hid (belS HB3.out hb)
  have B34 := Lib.hid (B33.out.below hb)
  have B44 := Lib.hid (B43.out.below hb)
  have B54 := Lib.hid (B53.out.below hb)
  have BQ4 := Lib.hid (BQ3.out.below hb)
  have S3 := Lib.hid (ownsF_below R3.out hb (Nat.le_refl _))
  have S5 := Lib.hid (ownsF_below R5.out hb (Nat.le_refl _))
  have h4s4 := hb.size
  skip
  clear hb B33 B43 B53 BQ3
  go_wp2_with fail
  refine (HOF.out _).mono ?_
  rintro e w5 ⟨rfl, rfl⟩
  have BPd := Lib.hid (bx_dr B34.out)
  have BQd := Lib.hid (bx_dr BQ4.out)
  have B4d := Lib.hid (bx_dr B44.out)
  have B5d := Lib.hid (bx_dr B54.out)
  have p0 := BPd.out.cell 0 (by simp)
  have p1 := BPd.out.cell 1 (by simp)
  have p2 := BPd.out.cell 2 (by simp)
  have p3 := BPd.out.cell 3 (by simp)
  have p4 := BPd.out.cell 4 (by simp)
  have p5 := BPd.out.cell 5 (by simp)
  simp only [List.getElem_cons_zero, List.getElem_cons_succ] at p0 p1 p2 p3 p4 p5
  have q0 := BQd.out.cell 0 (by simp)
  have q1 := BQd.out.cell 1 (by simp)
  have q2 := BQd.out.cell 2 (by simp)
  have q3 := BQd.out.cell 3 (by simp)
  have q4 := BQd.out.cell 4 (by simp)
  have q5 := BQd.out.cell 5 (by simp)
  simp only [List.getElem_cons_zero, List.getElem_cons_succ] at q0 q1 q2 q3 q4 q5
  go_wp2_with fail
  go_region_with (first
      | (go_at_call 107; (with_reducible refine (HFO.out _ _ (HX.out _ (bel_dr HB4.out))).mono ?_); rintro e w6 ⟨rfl, hb6⟩; have BQ6 := Lib.hid (BQd.out.below hb6); have B46 := Lib.hid (B4d.out.below hb6); have B56 := Lib.hid (B5d.out.below hb6); have q0' := BQ6.out.cell 0 (by simp); have q1' := BQ6.out.cell 1 (by simp); have q2' := BQ6.out.cell 2 (by simp); have q3' := BQ6.out.cell 3 (by simp); have q4' := BQ6.out.cell 4 (by simp); have q5' := BQ6.out.cell 5 (by simp); have r0 := B46.out.cell 0 (by simp); have z0 := B46.out.froz 0 (by simp); have r1 := B46.out.cell 1 (by simp); have z1 := B46.out.froz 1 (by simp); have r2 := B46.out.cell 2 (by simp); have z2 := B46.out.froz 2 (by simp); have r3 := B46.out.cell 3 (by simp); have z3 := B46.out.froz 3 (by simp); have r4 := B46.out.cell 4 (by simp); have z4 := B46.out.froz 4 (by simp); have r5 := B46.out.cell 5 (by simp); have z5 := B46.out.froz 5 (by simp); have s0 := B56.out.cell 0 (by simp); have y0 := B56.out.froz 0 (by simp); have s1 := B56.out.cell 1 (by simp); have y1 := B56.out.froz 1 (by simp); have s2 := B56.out.cell 2 (by simp); have y2 := B56.out.froz 2 (by simp); have s3 := B56.out.cell 3 (by simp); have y3 := B56.out.froz 3 (by simp); have s4 := B56.out.cell 4 (by simp); have y4 := B56.out.froz 4 (by simp); simp only [List.getElem_cons_zero, List.getElem_cons_succ] at q0' q1' q2' q3' q4' q5' r0 r1 r2 r3 r4 r5 s0 s1 s2 s3 s4))
  all_goals (try go_wp2_with fail)
  all_goals
    have HB6 := Lib.hid (belS (bel_dr HB4.out) hb6)
    have T3 := Lib.hid (ownsF_below (ownsF_drew S3.out) hb6 (Nat.le_refl _))
    have T5 := Lib.hid (ownsF_below (ownsF_drew S5.out) hb6 (Nat.le_refl _))
  all_goals
    refine bodyPost_ret (v := .tuple #[.agg #[.string ⟨a0.toArray⟩, .bool a1, .bool a2, .slice ga a3.length gc, .int .i64 a4, .slice ua l.length uc], .agg #[.int .i64 1, .int .i64 0, .string ⟨#[]⟩, .int .i64 nd, .int .i64 fp]]) (by simp [results, Tryz.results106, go_sem, cell_set_at, cell_set_ne, r0, r1, r2, r3, r4, r5, s0, s1, s2, s3, s4]) rfl ⟨_, rfl, ⟨_, _, rfl, ?_, ?_⟩, ?_⟩
    · refine ownsF_base (B := (((w.heap.size + 1) + 1) + 1)) ?_ (by omega)
      repeat (first | with_reducible exact T3.out | with_reducible refine ownsF_set ?_ (by simp; try omega) | with_reducible refine ownsF_drew ?_)
    · refine ownsF_base (B := (((w.heap.size + 1) + 1) + 1)) ?_ (by omega)
      repeat (first | with_reducible exact T5.out | with_reducible refine ownsF_set ?_ (by simp; try omega) | with_reducible refine ownsF_drew ?_)
    · repeat (first | with_reducible exact HB6.out | with_reducible refine Below.setCell ?_ (by simp; try omega) _ | with_reducible refine Below.drew ?_)
set_option maxRecDepth 100000 in
set_option maxHeartbeats 3200000 in
theorem specWrap_ok (v : Value) (x : PartD) (s : ByteArray) (w : World) (hx : ValAt rPart 0 w v x) (hs : SmallP x) (hk : ∀ c ∈ x.fCore.fCells, c.fKey.length ≤ maxLen) (hz : s.size ≤ 1048576) (hc : 0 ≤ layI s.data.toList) (hp : partB x = true) (h3 : ¬ x.fLayers.length = 3) (ho : offersF (faceP x) (needI (layI s.data.toList)) = true) :
    Calls Tryz.prog 106 #[v, .string s] w fun e w' => GivesOPR (wrapP x s.data.toList) (wrapR x s.data.toList) w e w' := by
  obtain ⟨hwp, hwr⟩ := wrap_ok (x := x) (s := s.data.toList) ⟨hp, hc⟩ h3 ho
  rw [hwp, hwr]
  clear hwp hwr
  have H3 := Lib.hid h3
  clear h3
  have HOF := Lib.hid (fun W => specOffers_any (faceP x) (needI (layI s.data.toList)) W)
  rw [ho] at HOF
  have HFO := Lib.hid (fun cs W (h : rPart 0 W cs x) => specFaceOf_any (.agg cs.toArray) x W ⟨cs, rfl, h⟩)
  clear ho
  obtain ⟨_, rfl, hx⟩ := hx
  have HX := Lib.hid (fun W (hb : Below w.heap.size w W) => goodPart.keep hx (kept_below hb (Nat.le_refl _)))
  have HIP := Lib.hid (fun cs W (h : rPart 0 W cs x) => specIsPart_any (.agg cs.toArray) x W ⟨cs, rfl, h⟩ hk)
  have HCP := Lib.hid (fun cs W (h : rPart 0 W cs x) => l4Copy_own (.agg cs.toArray) x W ⟨cs, rfl, h⟩ hs)
  have HLN := Lib.hid (fun W => l4Row_any s W)
  have HSZ := Lib.hid hs.lays
  unfold l4V at HLN
  unfold GivesOPR vReply
  unfold GivesOP at HCP
  rw [hp] at HIP
  rw [show decide (0 ≤ layI s.data.toList) = true from decide_eq_true hc] at HLN
  generalize needI (layI s.data.toList) = nd at *
  generalize giveI (layI s.data.toList) = gv at *
  generalize faceP x = fp at *
  obtain ⟨⟨a0, a1, a2, a3, a4⟩, l⟩ := x
  obtain ⟨v3, v5, rfl, h3, h5⟩ := hx
  simp only at h3 h5 HSZ
  obtain ⟨ra, rc, rfl, _⟩ := sliceAt_len h3
  obtain ⟨sa, sc, rfl, hl, hcap⟩ := sliceAt_cap h5
  clear h3 h5 hs hk hcap hl
  have BS := Lib.hid (bx_start3 w [.string ⟨a0.toArray⟩, .bool a1, .bool a2, .slice ra a3.length rc, .int .i64 a4, .slice sa l.length sc] [.string ⟨#[]⟩, .bool false, .bool false, .slice none 0 0, .int .i64 0, .slice none 0 0] [.int .i64 0, .int .i64 0, .string ⟨#[]⟩, .int .i64 0, .int .i64 0] 74 74 76)
  have HR0 := Lib.hid (HX.out _ BS.out.2.2.2)
  clear hc hp
  go_enter Tryz.func106, Tryz.ntmps106
  go_wp2_with fail
  refine (HCP.out _ _ HR0.out).mono ?_
  rintro e w1 ⟨_, rfl, ⟨u3, u5, rfl, ho3, ho5⟩, hb⟩
  simp only at ho3 ho5
  obtain ⟨ga, gc, rfl⟩ := slice_of ho3
  obtain ⟨ua, uc, rfl⟩ := slice_of ho5
  have HB1 := Lib.hid ((belS BS.out.2.2.2 hb).alloc (belS BS.out.2.2.2 hb).size (.cells #[.string ⟨a0.toArray⟩, .bool a1, .bool a2, .slice ga a3.length gc, .int .i64 a4, .slice ua l.length uc] 74))
  have B31 := Lib.hid ((BS.out.1.below hb).alloc (.cells #[.string ⟨a0.toArray⟩, .bool a1, .bool a2, .slice ga a3.length gc, .int .i64 a4, .slice ua l.length uc] 74))
  have B41 := Lib.hid ((BS.out.2.1.below hb).alloc (.cells #[.string ⟨a0.toArray⟩, .bool a1, .bool a2, .slice ga a3.length gc, .int .i64 a4, .slice ua l.length uc] 74))
  have B51 := Lib.hid ((BS.out.2.2.1.below hb).alloc (.cells #[.string ⟨a0.toArray⟩, .bool a1, .bool a2, .slice ga a3.length gc, .int .i64 a4, .slice ua l.length uc] 74))
  have BQ1 := Lib.hid (Bx.new w1 [.string ⟨a0.toArray⟩, .bool a1, .bool a2, .slice ga a3.length gc, .int .i64 a4, .slice ua l.length uc] 74)
  have O3 := Lib.hid (ownsF_alloc (ownsF_base (B' := w.heap.size + 1 + 1 + 1) ho3 (by simp)) (.cells #[.string ⟨a0.toArray⟩, .bool a1, .bool a2, .slice ga a3.length gc, .int .i64 a4, .slice ua l.length uc] 74))
  have O5 := Lib.hid (ownsF_alloc (ownsF_base (B' := w.heap.size + 1 + 1 + 1) ho5 (by simp)) (.cells #[.string ⟨a0.toArray⟩, .bool a1, .bool a2, .slice ga a3.length gc, .int .i64 a4, .slice ua l.length uc] 74))
  have h3s := hb.size
  simp at h3s
  have HU5 := Lib.hid (fun g (h : (Value.slice ua l.length uc).ownBlock = some g) => (show w.heap.size + 1 + 1 + 1 ≤ g ∧ g < w1.heap.size from ⟨by have := (World.ownsRow.lt ho5 g h).1; simpa using this, (World.ownsRow.lt ho5 g h).2⟩))
  have HU3 := Lib.hid (fun g (h : (Value.slice ga a3.length gc).ownBlock = some g) => (show g < w1.heap.size from (World.ownsRow.lt ho3 g h).2))
  clear hb ho3 ho5 BS
  go_wp2_with fail
  refine (HLN.out _).mono ?_
  rintro e w2 ⟨rfl, hb⟩
  have HB2 := Lib.hid (belS HB1.out hb)
  have B32 := Lib.hid (B31.out.below hb)
  have B42 := Lib.hid (B41.out.below hb)
  have B52 := Lib.hid (B51.out.below hb)
  have BQ2 := Lib.hid (BQ1.out.below hb)
  have P3 := Lib.hid (ownsF_below O3.out hb (Nat.le_refl _))
  have P5 := Lib.hid (ownsF_below O5.out hb (Nat.le_refl _))
  have h4s2 := hb.size
  simp at h4s2
  clear hb B31 B41 B51 BQ1
  have p0 := B32.out.cell 0 (by simp)
  have p1 := B32.out.cell 1 (by simp)
  have p2 := B32.out.cell 2 (by simp)
  have p3 := B32.out.cell 3 (by simp)
  have p4 := B32.out.cell 4 (by simp)
  have p5 := B32.out.cell 5 (by simp)
  simp only [List.getElem_cons_zero, List.getElem_cons_succ] at p0 p1 p2 p3 p4 p5
  go_wp2_with fail
  refine (HIP.out _ _ (HX.out _ HB2.out)).mono ?_
  rintro e w3 ⟨rfl, hb⟩
  clear p0 p1 p2 p3 p4 p5
  have HB3 := Lib.hid (belS HB2.out hb)
  have B33 := Lib.hid (B32.out.below hb)
  have B43 := Lib.hid (B42.out.below hb)
  have B53 := Lib.hid (B52.out.below hb)
  have BQ3 := Lib.hid (BQ2.out.below hb)
  have R3 := Lib.hid (ownsF_below P3.out hb (Nat.le_refl _))
  have R5 := Lib.hid (ownsF_below P5.out hb (Nat.le_refl _))
  have h4s3 := hb.size
  skip
  clear hb B32 B42 B52 BQ2
  have h3 := H3.out
  try simp only at h3
  have hl3 : ¬ (l.length : Int) = 3 := by omega
  clear h3
  have p0 := B33.out.cell 0 (by simp)
  have p1 := B33.out.cell 1 (by simp)
  have p2 := B33.out.cell 2 (by simp)
  have p3 := B33.out.cell 3 (by simp)
  have p4 := B33.out.cell 4 (by simp)
  have p5 := B33.out.cell 5 (by simp)
  simp only [List.getElem_cons_zero, List.getElem_cons_succ] at p0 p1 p2 p3 p4 p5
  go_wp2_with fail
  refine (HFO.out _ _ (HX.out _ HB3.out)).mono ?_
  rintro e w4 ⟨rfl, hb⟩
  clear p0 p1 p2 p3 p4 p5
  have HB4 := Lib.hid (belS HB3.out hb)
  have B34 := Lib.hid (B33.out.below hb)
  have B44 := Lib.hid (B43.out.below hb)
  have B54 := Lib.hid (B53.out.below hb)
  have BQ4 := Lib.hid (BQ3.out.below hb)
  have S3 := Lib.hid (ownsF_below R3.out hb (Nat.le_refl _))
  have S5 := Lib.hid (ownsF_below R5.out hb (Nat.le_refl _))
  have h4s4 := hb.size
  skip
  clear hb B33 B43 B53 BQ3
  go_wp2_with fail
  refine (HOF.out _).mono ?_
  rintro e w5 ⟨rfl, rfl⟩
  have hcl : ∀ j, j < 2 → (w4.alloc (.cells #[.string s, .int .i64 0] 137)).cell? ⟨w4.heap.size, j, none⟩ = (cLayer ⟨s.data.toList, 0⟩)[j]? := cell_newL w4 ⟨s.data.toList, 0⟩ _ rfl
  have hlen : (l ++ [(⟨s.data.toList, 0⟩ : LayerD)]).length = l.length + 1 := by simp
  have hcap : l.length ≤ 4194304 := by have := HSZ.out; omega
  have hBs : w.heap.size + 1 + 1 + 1 ≤ (w4.alloc (.cells #[.string s, .int .i64 0] 137)).heap.size := by simp; omega
  have q0 := BQ4.out.cell 0 (by simp)
  have q1 := BQ4.out.cell 1 (by simp)
  have q2 := BQ4.out.cell 2 (by simp)
  have q3 := BQ4.out.cell 3 (by simp)
  have q4 := BQ4.out.cell 4 (by simp)
  have q5 := BQ4.out.cell 5 (by simp)
  simp only [List.getElem_cons_zero, List.getElem_cons_succ] at q0 q1 q2 q3 q4 q5
  have p0 := BQ4.out.froz 0 (by simp)
  have p1 := BQ4.out.froz 1 (by simp)
  have p2 := BQ4.out.froz 2 (by simp)
  have p3 := BQ4.out.froz 3 (by simp)
  have p4 := BQ4.out.froz 4 (by simp)
  have p5 := BQ4.out.froz 5 (by simp)
  go_wp2_with (at_builtin; refine append_lay rfl _ _ rfl (w.heap.size + 1 + 1 + 1) (.slice ua l.length uc) l ⟨s.data.toList, 0⟩ (w4.alloc (.cells #[.string s, .int .i64 0] 137)) w4.heap.size rfl (ownsF_alloc S5.out _) rfl hcl hcap hBs ?_; intro v6 w6 hO6 hg6; obtain ⟨va, vc, rfl⟩ := slice_lenW hO6 hlen; have HO6 := Lib.hid hO6; clear hO6; have HG6 := Lib.hid hg6; clear hg6; have QX := Lib.hid ((BQ4.out.alloc (.cells #[.string s, .int .i64 0] 137)).grown HG6.out (fun e => by have := HU5.out _ e; omega)); have B46 := Lib.hid ((B44.out.alloc (.cells #[.string s, .int .i64 0] 137)).grown HG6.out (fun e => by have := HU5.out _ e; omega)); have B56 := Lib.hid ((B54.out.alloc (.cells #[.string s, .int .i64 0] 137)).grown HG6.out (fun e => by have := HU5.out _ e; omega)); have B47 := Lib.hid (B46.out.other (c := w1.heap.size) (by omega) 5 (.slice va (l.length + 1) vc)); have B57 := Lib.hid (B56.out.other (c := w1.heap.size) (by omega) 5 (.slice va (l.length + 1) vc)); have BQ7 := Lib.hid (QX.out.set 5 (by simp) (.slice va (l.length + 1) vc)); have q5' := QX.out.cell 5 (by simp); have p5' := QX.out.froz 5 (by simp); simp only [List.set_cons_succ, List.set_cons_zero] at BQ7; have x0 := BQ7.out.cell 0 (by simp); have r0 := B47.out.cell 0 (by simp); have z0 := B47.out.froz 0 (by simp); have x1 := BQ7.out.cell 1 (by simp); have r1 := B47.out.cell 1 (by simp); have z1 := B47.out.froz 1 (by simp); have x2 := BQ7.out.cell 2 (by simp); have r2 := B47.out.cell 2 (by simp); have z2 := B47.out.froz 2 (by simp); have x3 := BQ7.out.cell 3 (by simp); have r3 := B47.out.cell 3 (by simp); have z3 := B47.out.froz 3 (by simp); have x4 := BQ7.out.cell 4 (by simp); have r4 := B47.out.cell 4 (by simp); have z4 := B47.out.froz 4 (by simp); have x5 := BQ7.out.cell 5 (by simp); have r5 := B47.out.cell 5 (by simp); have z5 := B47.out.froz 5 (by simp); have s0 := B57.out.cell 0 (by simp); have y0 := B57.out.froz 0 (by simp); have s1 := B57.out.cell 1 (by simp); have y1 := B57.out.froz 1 (by simp); have s2 := B57.out.cell 2 (by simp); have y2 := B57.out.froz 2 (by simp); have s3 := B57.out.cell 3 (by simp); have y3 := B57.out.froz 3 (by simp); have s4 := B57.out.cell 4 (by simp); have y4 := B57.out.froz 4 (by simp); simp only [List.getElem_cons_zero, List.getElem_cons_succ] at q5' x0 r0 x1 r1 x2 r2 x3 r3 x4 r4 x5 r5 s0 s1 s2 s3 s4)
  have HB6 := Lib.hid (below_appendF (HB4.out.alloc HB4.out.size _) (ownsF_base (B' := w.heap.size) (ownsF_alloc S5.out _) (by omega)) HG6.out (Nat.le_trans (by omega) hBs))
  have U3 := Lib.hid (ownsF_keptF (ownsF_alloc S3.out _) (ownsF_alloc S5.out _) HG6.out (by decide))
  have hnb : (Value.slice va (l.length + 1) vc).ownBlock ≠ some w1.heap.size := lay_not_bool HO6.out (by rw [hlen]; omega) (QX.out.cell 1 (by simp))
  have HB7 := Lib.hid (HB6.out.setCell (p := ⟨w1.heap.size, 5, none⟩) (by simp; omega) (.slice va (l.length + 1) vc))
  have T3 := Lib.hid (ownsF_setNe (p := ⟨w1.heap.size, 5, none⟩) (u := .slice va (l.length + 1) vc) U3.out (fun e => Nat.lt_irrefl _ (HU3.out _ e)))
  have T5 := Lib.hid (ownsF_setNe (p := ⟨w1.heap.size, 5, none⟩) (u := .slice va (l.length + 1) vc) HO6.out hnb)
  all_goals
    refine bodyPost_ret (v := .tuple #[.agg #[.string ⟨a0.toArray⟩, .bool a1, .bool a2, .slice ga a3.length gc, .int .i64 a4, .slice va (l.length + 1) vc], .agg #[.int .i64 0, .int .i64 gv, .string ⟨#[]⟩, .int .i64 0, .int .i64 0]]) (by simp [results, Tryz.results106, go_sem, cell_set_at, cell_set_ne, r0, r1, r2, r3, r4, r5, s0, s1, s2, s3, s4]) rfl ⟨_, rfl, ⟨_, _, rfl, ?_, ?_⟩, ?_⟩
    · refine ownsF_base (B := (((w.heap.size + 1) + 1) + 1)) ?_ (by omega)
      repeat (first | with_reducible exact T3.out | with_reducible refine ownsF_set ?_ (by simp; try omega) | with_reducible refine ownsF_drew ?_)
    · refine ownsF_base (B := (((w.heap.size + 1) + 1) + 1)) ?_ (by omega)
      repeat (first | with_reducible exact T5.out | with_reducible refine ownsF_set ?_ (by simp; try omega) | with_reducible refine ownsF_drew ?_)
    · repeat (first | with_reducible exact HB7.out | with_reducible refine Below.setCell ?_ (by simp; try omega) _ | with_reducible refine Below.drew ?_)
theorem specWrap_any (v : Value) (x : PartD) (s : ByteArray) (w : World) (hx : ValAt rPart 0 w v x) (hs : SmallP x) (hk : ∀ c ∈ x.fCore.fCells, c.fKey.length ≤ maxLen) (hz : s.size ≤ 1048576) :
    Calls Tryz.prog 106 #[v, .string s] w fun e w' => GivesOPR (wrapP x s.data.toList) (wrapR x s.data.toList) w e w' := by
  cases hp : partB x with
  | false => exact specWrap_bad1 v x s w hx hs hk hz hp
  | true =>
    by_cases hc : 0 ≤ layI s.data.toList
    · by_cases h3 : x.fLayers.length = 3
      · exact specWrap_full v x s w hx hs hk hz hc hp h3
      · cases ho : offersF (faceP x) (needI (layI s.data.toList)) with
        | false => exact specWrap_fail v x s w hx hs hk hz hc hp h3 ho
        | true => exact specWrap_ok v x s w hx hs hk hz hc hp h3 ho
    · exact specWrap_bad2 v x s w hx hs hk hz hc hp
end Go.Proofs.YteeopjcbpngofaaGreat
/- Contracts of chapter 4: MakePart, the model's. Written by gen/ch4mk.py. -/
namespace Go.Proofs.YteeopjcbpngofaaGreat
set_option linter.unusedVariables false
set_option linter.unusedSimpArgs false
open Go.RowKit
set_option maxRecDepth 100000 in
set_option maxHeartbeats 3200000 in
theorem specMake_nil (a : Option Addr) (c : Nat) (w : World) :
    Calls Tryz.prog 59 #[.slice a 0 c] w fun e w' => GivesOPR zeroP ⟨7, 0, [], 0, 0⟩ w e w' := by
  unfold GivesOPR zeroP vReply
  have BS := Lib.hid (bx_start2 w [.string ⟨#[]⟩, .bool false, .bool false, .slice none 0 0, .int .i64 0, .slice none 0 0] [.int .i64 0, .int .i64 0, .string ⟨#[]⟩, .int .i64 0, .int .i64 0] 74 76)
  have B2 := Lib.hid BS.out.1
  have B3 := Lib.hid BS.out.2.1
  go_enter Tryz.func59, Tryz.ntmps59
  go_wp2_with fail
  exact bodyPost_ret (v := .tuple #[.agg #[.string ⟨#[]⟩, .bool false, .bool false, .slice none 0 0, .int .i64 0, .slice none 0 0], .agg #[.int .i64 7, .int .i64 0, .string ⟨#[]⟩, .int .i64 0, .int .i64 0]]) (by simp [results, Tryz.results59, go_sem]) rfl ⟨_, rfl, ⟨_, _, rfl, ownsF_nil _ _ _ _ _, ownsF_nil _ _ _ _ _⟩, (bx_start2 w [.string ⟨#[]⟩, .bool false, .bool false, .slice none 0 0, .int .i64 0, .slice none 0 0] [.int .i64 7, .int .i64 0, .string ⟨#[]⟩, .int .i64 0, .int .i64 0] 74 76).2.2⟩
set_option maxRecDepth 100000 in
set_option maxHeartbeats 3200000 in
theorem specMake_bad (b o c : Nat) (k : List UInt8) (r : List (List UInt8)) (w : World) (hR : RowAt w (.slice (some ⟨b, o, none⟩) (r.length + 1) c) ((k :: r).map strV)) (hz : ∀ s ∈ k :: r, s.length ≤ 1048576) (hc : r.length + 1 ≤ c) (hm : r.length + 1 ≤ maxLen) (hk : ¬ 0 ≤ kindI k) :
    Calls Tryz.prog 59 #[.slice (some ⟨b, o, none⟩) (r.length + 1) c] w fun e w' => GivesOPR zeroP ⟨7, 0, [], 0, 0⟩ w e w' := by
  have d0 := rowAt_cellS hR 0 (by simp)
  simp only [List.map_cons, List.getElem_cons_zero, strV, Nat.add_zero] at d0
  have hbw : b < w.heap.size := by
    obtain ⟨b', o', e, hlt, _⟩ := rowAt_cell hR 0 (by simp)
    injection e with e; injection e with e1 e2; subst e1; exact hlt
  have HNP := Lib.hid (fun W => specNewPart_own ⟨k.toArray⟩ W (by have := hz k (List.mem_cons_self ..); simpa [ByteArray.size] using this))
  simp only [GivesNPO, vNP] at HNP
  have HR := Lib.hid hR
  have HZ := Lib.hid hz
  have HM := Lib.hid hm
  clear hR hz hm
  unfold GivesOPR zeroP vReply
  rw [show decide (0 ≤ kindI (⟨k.toArray⟩ : ByteArray).data.toList) = false from decide_eq_false hk] at HNP
  generalize nmK (⟨k.toArray⟩ : ByteArray).data.toList = nk at *
  have BS := Lib.hid (bx_start2 w [.string ⟨#[]⟩, .bool false, .bool false, .slice none 0 0, .int .i64 0, .slice none 0 0] [.int .i64 0, .int .i64 0, .string ⟨#[]⟩, .int .i64 0, .int .i64 0] 74 76)
  have HD := Lib.hid d0
  clear d0
  have d0 := (BS.out.2.2.cell (p := ⟨b, o, none⟩) hbw).trans HD.out
  go_enter Tryz.func59, Tryz.ntmps59
  go_wp2_with fail
  refine (HNP.out _).mono ?_
  rintro e w1 ⟨a1, c1, rfl, ho, hb⟩
  have HB1 := Lib.hid ((belS BS.out.2.2 hb).alloc (belS BS.out.2.2 hb).size (.cells #[.string ⟨nk.toArray⟩, .bool false, .bool false, .slice a1 0 c1, .int .i64 0, .slice none 0 0] 74))
  have B2 := Lib.hid ((BS.out.1.below hb).alloc (.cells #[.string ⟨nk.toArray⟩, .bool false, .bool false, .slice a1 0 c1, .int .i64 0, .slice none 0 0] 74))
  have B3 := Lib.hid ((BS.out.2.1.below hb).alloc (.cells #[.string ⟨nk.toArray⟩, .bool false, .bool false, .slice a1 0 c1, .int .i64 0, .slice none 0 0] 74))
  clear ho hb d0
  have r0 := B2.out.cell 0 (by simp)
  have r1 := B2.out.cell 1 (by simp)
  have r2 := B2.out.cell 2 (by simp)
  have r3 := B2.out.cell 3 (by simp)
  have r4 := B2.out.cell 4 (by simp)
  have r5 := B2.out.cell 5 (by simp)
  simp only [List.getElem_cons_zero, List.getElem_cons_succ] at r0 r1 r2 r3 r4 r5
  have z0 := B2.out.froz 0 (by simp)
  have z1 := B2.out.froz 1 (by simp)
  have z2 := B2.out.froz 2 (by simp)
  have z3 := B2.out.froz 3 (by simp)
  have z4 := B2.out.froz 4 (by simp)
  have z5 := B2.out.froz 5 (by simp)
  have s0 := B3.out.cell 0 (by simp)
  have s1 := B3.out.cell 1 (by simp)
  have s2 := B3.out.cell 2 (by simp)
  have s3 := B3.out.cell 3 (by simp)
  have s4 := B3.out.cell 4 (by simp)
  simp only [List.getElem_cons_zero, List.getElem_cons_succ] at s0 s1 s2 s3 s4
  have y0 := B3.out.froz 0 (by simp)
  have y1 := B3.out.froz 1 (by simp)
  have y2 := B3.out.froz 2 (by simp)
  have y3 := B3.out.froz 3 (by simp)
  have y4 := B3.out.froz 4 (by simp)
  go_wp2_with fail
  clear r0 r1 r2 r3 r4 r5 z0 z1 z2 z3 z4 z5 s0 s1 s2 s3 s4 y0 y1 y2 y3 y4
  have E4 := Lib.hid ((B2.out.put6 (.string ⟨#[]⟩) (.bool false) (.bool false) (.slice none 0 0) (.int .i64 0) (.slice none 0 0)).put5o (c := w.heap.size + 1) (by omega) (.int .i64 7) (.int .i64 0) (.string ⟨#[]⟩) (.int .i64 0) (.int .i64 0))
  have E5 := Lib.hid ((B3.out.put6o (c := w.heap.size) (by omega) (.string ⟨#[]⟩) (.bool false) (.bool false) (.slice none 0 0) (.int .i64 0) (.slice none 0 0)).put5 (.int .i64 7) (.int .i64 0) (.string ⟨#[]⟩) (.int .i64 0) (.int .i64 0))
  have EB := Lib.hid (below_put5 (below_put6 HB1.out w.heap.size (by omega) (.string ⟨#[]⟩) (.bool false) (.bool false) (.slice none 0 0) (.int .i64 0) (.slice none 0 0)) (w.heap.size + 1) (by omega) (.int .i64 7) (.int .i64 0) (.string ⟨#[]⟩) (.int .i64 0) (.int .i64 0))
  generalize ((((((((((((w1.alloc (.cells #[.string ⟨nk.toArray⟩, .bool false, .bool false, .slice a1 0 c1, .int .i64 0, .slice none 0 0] 74)).setCell ⟨w.heap.size, 0, none⟩ (.string ⟨#[]⟩)).setCell ⟨w.heap.size, 1, none⟩ (.bool false)).setCell ⟨w.heap.size, 2, none⟩ (.bool false)).setCell ⟨w.heap.size, 3, none⟩ (.slice none 0 0)).setCell ⟨w.heap.size, 4, none⟩ (.int .i64 0)).setCell ⟨w.heap.size, 5, none⟩ (.slice none 0 0)).setCell ⟨w.heap.size + 1, 0, none⟩ (.int .i64 7)).setCell ⟨w.heap.size + 1, 1, none⟩ (.int .i64 0)).setCell ⟨w.heap.size + 1, 2, none⟩ (.string ⟨#[]⟩)).setCell ⟨w.heap.size + 1, 3, none⟩ (.int .i64 0)).setCell ⟨w.heap.size + 1, 4, none⟩ (.int .i64 0)) = WE at *
  have r0 := E4.out.cell 0 (by simp)
  have r1 := E4.out.cell 1 (by simp)
  have r2 := E4.out.cell 2 (by simp)
  have r3 := E4.out.cell 3 (by simp)
  have r4 := E4.out.cell 4 (by simp)
  have r5 := E4.out.cell 5 (by simp)
  simp only [List.getElem_cons_zero, List.getElem_cons_succ] at r0 r1 r2 r3 r4 r5
  have s0 := E5.out.cell 0 (by simp)
  have s1 := E5.out.cell 1 (by simp)
  have s2 := E5.out.cell 2 (by simp)
  have s3 := E5.out.cell 3 (by simp)
  have s4 := E5.out.cell 4 (by simp)
  simp only [List.getElem_cons_zero, List.getElem_cons_succ] at s0 s1 s2 s3 s4
  exact bodyPost_ret (v := .tuple #[.agg #[.string ⟨#[]⟩, .bool false, .bool false, .slice none 0 0, .int .i64 0, .slice none 0 0], .agg #[.int .i64 7, .int .i64 0, .string ⟨#[]⟩, .int .i64 0, .int .i64 0]]) (by simp [results, Tryz.results59, go_sem, r0, r1, r2, r3, r4, r5, s0, s1, s2, s3, s4]) rfl ⟨_, rfl, ⟨_, _, rfl, ownsF_nil _ _ _ _ _, ownsF_nil _ _ _ _ _⟩, EB.out⟩
set_option maxRecDepth 100000 in
set_option maxHeartbeats 3200000 in
theorem specMake_one (b o c : Nat) (k : List UInt8) (r : List (List UInt8)) (w : World) (hR : RowAt w (.slice (some ⟨b, o, none⟩) (r.length + 1) c) ((k :: r).map strV)) (hz : ∀ s ∈ k :: r, s.length ≤ 1048576) (hc : r.length + 1 ≤ c) (hm : r.length + 1 ≤ maxLen) (h1 : c = 1) (hk : 0 ≤ kindI k) :
    Calls Tryz.prog 59 #[.slice (some ⟨b, o, none⟩) (r.length + 1) c] w fun e w' => GivesOPR (makeGo (newP k) r).1 (makeGo (newP k) r).2 w e w' := by
  have d0 := rowAt_cellS hR 0 (by simp)
  simp only [List.map_cons, List.getElem_cons_zero, strV, Nat.add_zero] at d0
  have hbw : b < w.heap.size := by
    obtain ⟨b', o', e, hlt, _⟩ := rowAt_cell hR 0 (by simp)
    injection e with e; injection e with e1 e2; subst e1; exact hlt
  have HNP := Lib.hid (fun W => specNewPart_own ⟨k.toArray⟩ W (by have := hz k (List.mem_cons_self ..); simpa [ByteArray.size] using this))
  simp only [GivesNPO, vNP] at HNP
  have HR := Lib.hid hR
  have HZ := Lib.hid hz
  have HM := Lib.hid hm
  clear hR hz hm
  rw [show decide (0 ≤ kindI (⟨k.toArray⟩ : ByteArray).data.toList) = true from decide_eq_true hk, show nmK (⟨k.toArray⟩ : ByteArray).data.toList = k from if_pos hk] at HNP
  subst h1
  obtain rfl : r = [] := List.eq_nil_of_length_eq_zero (by omega)
  simp only [List.length_nil, Nat.zero_add] at *
  rw [show makeGo (newP k) [] = (newP k, ⟨0, faceP (newP k), [], 0, 0⟩) from rfl]
  unfold GivesOPR vReply
  simp only
  generalize hp0 : newP k = p
  have HPK := Lib.hid hp0
  clear hp0
  generalize hfp : faceP p = fp
  have HFP := Lib.hid hfp
  clear hfp
  have BS := Lib.hid (bx_start2 w [.string ⟨#[]⟩, .bool false, .bool false, .slice none 0 0, .int .i64 0, .slice none 0 0] [.int .i64 0, .int .i64 0, .string ⟨#[]⟩, .int .i64 0, .int .i64 0] 74 76)
  have HD := Lib.hid d0
  clear d0
  have d0 := (BS.out.2.2.cell (p := ⟨b, o, none⟩) hbw).trans HD.out
  go_enter Tryz.func59, Tryz.ntmps59
  go_wp2_with fail
  refine (HNP.out _).mono ?_
  rintro e w1 ⟨a1, c1, rfl, ho, hb⟩
  have HB1 := Lib.hid ((belS BS.out.2.2 hb).alloc (belS BS.out.2.2 hb).size (.cells #[.string ⟨k.toArray⟩, .bool false, .bool false, .slice a1 0 c1, .int .i64 0, .slice none 0 0] 74))
  have h1s := hb.size
  simp at h1s
  have ST0 := Lib.hid (show MkSt w w1.heap.size p (w1.alloc (.cells #[.string ⟨k.toArray⟩, .bool false, .bool false, .slice a1 0 c1, .int .i64 0, .slice none 0 0] 74)) by rw [← HPK.out]; exact ⟨newP_small (HZ.out k (List.mem_cons_self ..)), rfl, ⟨_, Bx.new w1 [.string ⟨k.toArray⟩, .bool false, .bool false, .slice a1 0 c1, .int .i64 0, .slice none 0 0] 74, _, _, rfl, ownsF_alloc (ownsF_base ho (by simp)) _, ownsF_nil _ _ _ _ _⟩, (BS.out.1.below hb).alloc (.cells #[.string ⟨k.toArray⟩, .bool false, .bool false, .slice a1 0 c1, .int .i64 0, .slice none 0 0] 74), (BS.out.2.1.below hb).alloc (.cells #[.string ⟨k.toArray⟩, .bool false, .bool false, .slice a1 0 c1, .int .i64 0, .slice none 0 0] 74), HB1.out⟩)
  clear ho hb d0
  go_wp2_with fail
  generalize w1.alloc (.cells #[.string ⟨k.toArray⟩, .bool false, .bool false, .slice a1 0 c1, .int .i64 0, .slice none 0 0] 74) = wr at *
  have hst := ST0.out
  obtain ⟨hsm, hbare, ⟨cs, hq, hown⟩, hr2, hr3, hbw2⟩ := hst
  refine wp_loop_rounds 1 ?_
  rw [rounds_succ]
  obtain ⟨⟨a0, a1, a2, a3, a4⟩, l⟩ := p
  obtain rfl : a3 = [] := hbare
  obtain ⟨u3, u5, rfl, ho3, ho5⟩ := hown
  simp only at ho3 ho5 hq
  obtain ⟨ga, gc, rfl⟩ := slice_of ho3
  obtain ⟨ua, uc, rfl⟩ := slice_of ho5
  simp only [List.length_nil] at *
  have O3 := Lib.hid ho3
  have O5 := Lib.hid ho5
  have HSM := Lib.hid hsm
  have BQ := Lib.hid hq
  have B2 := Lib.hid hr2
  have B3 := Lib.hid hr3
  have HBr := Lib.hid hbw2
  have hlq := hq.lt
  have hls := hbw2.size
  clear hsm ho3 ho5 hq hr2 hr3 hbw2
  have HRP := Lib.hid (fun W (hb : Below wr.heap.size wr W) => (show rPart 0 W [.string ⟨a0.toArray⟩, .bool a1, .bool a2, .slice ga 0 gc, .int .i64 a4, .slice ua l.length uc] (⟨⟨a0, a1, a2, [], a4⟩, l⟩ : PartD) from goodPart.mono (oPart_r ⟨_, _, rfl, ownsF_below O3.out hb (Nat.le_refl _), ownsF_below O5.out hb (Nat.le_refl _)⟩ HSM.out) (Nat.zero_le _)))
  have HFO := Lib.hid (fun W (h : rPart 0 W [.string ⟨a0.toArray⟩, .bool a1, .bool a2, .slice ga 0 gc, .int .i64 a4, .slice ua l.length uc] (⟨⟨a0, a1, a2, [], a4⟩, l⟩ : PartD)) => (show Calls Tryz.prog 107 #[.agg #[.string ⟨a0.toArray⟩, .bool a1, .bool a2, .slice ga 0 gc, .int .i64 a4, .slice ua l.length uc]] W fun e w' => e = .returned (.int .i64 (faceP (⟨⟨a0, a1, a2, [], a4⟩, l⟩ : PartD))) ∧ Below W.heap.size W w' from specFaceOf_any (.agg #[.string ⟨a0.toArray⟩, .bool a1, .bool a2, .slice ga 0 gc, .int .i64 a4, .slice ua l.length uc]) (⟨⟨a0, a1, a2, [], a4⟩, l⟩ : PartD) W ⟨[.string ⟨a0.toArray⟩, .bool a1, .bool a2, .slice ga 0 gc, .int .i64 a4, .slice ua l.length uc], rfl, h⟩))
  rw [HFP.out] at HFO
  have BQd := Lib.hid (bx_dr BQ.out)
  have B2d := Lib.hid (bx_dr B2.out)
  have B3d := Lib.hid (bx_dr B3.out)
  have q0 := BQd.out.cell 0 (by simp)
  have q1 := BQd.out.cell 1 (by simp)
  have q2 := BQd.out.cell 2 (by simp)
  have q3 := BQd.out.cell 3 (by simp)
  have q4 := BQd.out.cell 4 (by simp)
  have q5 := BQd.out.cell 5 (by simp)
  simp only [List.getElem_cons_zero, List.getElem_cons_succ] at q0 q1 q2 q3 q4 q5
  go_wp2_with fail
  go_region_with (first
      | (go_at_call 107; (with_reducible refine (HFO.out _ (HRP.out _ (bel_dr (Below.refl _ _)))).mono ?_); rintro e w6 ⟨rfl, hb6⟩; have BQ6 := Lib.hid (BQd.out.below hb6); have B26 := Lib.hid (B2d.out.below hb6); have B36 := Lib.hid (B3d.out.below hb6); have q0' := BQ6.out.cell 0 (by simp); have q1' := BQ6.out.cell 1 (by simp); have q2' := BQ6.out.cell 2 (by simp); have q3' := BQ6.out.cell 3 (by simp); have q4' := BQ6.out.cell 4 (by simp); have q5' := BQ6.out.cell 5 (by simp); have r0 := B26.out.cell 0 (by simp); have z0 := B26.out.froz 0 (by simp); have r1 := B26.out.cell 1 (by simp); have z1 := B26.out.froz 1 (by simp); have r2 := B26.out.cell 2 (by simp); have z2 := B26.out.froz 2 (by simp); have r3 := B26.out.cell 3 (by simp); have z3 := B26.out.froz 3 (by simp); have r4 := B26.out.cell 4 (by simp); have z4 := B26.out.froz 4 (by simp); have r5 := B26.out.cell 5 (by simp); have z5 := B26.out.froz 5 (by simp); have s0 := B36.out.cell 0 (by simp); have y0 := B36.out.froz 0 (by simp); have s1 := B36.out.cell 1 (by simp); have y1 := B36.out.froz 1 (by simp); have s2 := B36.out.cell 2 (by simp); have y2 := B36.out.froz 2 (by simp); have s3 := B36.out.cell 3 (by simp); have y3 := B36.out.froz 3 (by simp); have s4 := B36.out.cell 4 (by simp); have y4 := B36.out.froz 4 (by simp); simp only [List.getElem_cons_zero, List.getElem_cons_succ] at q0' q1' q2' q3' q4' q5' r0 r1 r2 r3 r4 r5 s0 s1 s2 s3 s4))
  all_goals (try go_wp2_with fail)
  all_goals
    have HB6 := Lib.hid (belS (bel_dr HBr.out) hb6)
    have T3 := Lib.hid (ownsF_below (ownsF_drew O3.out) hb6 (Nat.le_refl _))
    have T5 := Lib.hid (ownsF_below (ownsF_drew O5.out) hb6 (Nat.le_refl _))
    refine bodyPost_ret (v := .tuple #[.agg #[.string ⟨a0.toArray⟩, .bool a1, .bool a2, .slice ga 0 gc, .int .i64 a4, .slice ua l.length uc], .agg #[.int .i64 0, .int .i64 fp, .string ⟨#[]⟩, .int .i64 0, .int .i64 0]]) (by simp [results, Tryz.results59, go_sem, cell_set_at, cell_set_ne, r0, r1, r2, r3, r4, r5, s0, s1, s2, s3, s4]) rfl ⟨_, rfl, ⟨_, _, rfl, ?_, ?_⟩, ?_⟩
    · refine ownsF_base (B := ((w.heap.size + 1) + 1)) ?_ (by omega)
      repeat (first | with_reducible exact T3.out | with_reducible refine ownsF_set ?_ (by simp; try omega) | with_reducible refine ownsF_drew ?_)
    · refine ownsF_base (B := ((w.heap.size + 1) + 1)) ?_ (by omega)
      repeat (first | with_reducible exact T5.out | with_reducible refine ownsF_set ?_ (by simp; try omega) | with_reducible refine ownsF_drew ?_)
    · repeat (first | with_reducible exact HB6.out | with_reducible refine Below.setCell ?_ (by simp; try omega) _ | with_reducible refine Below.drew ?_)
set_option maxRecDepth 100000 in
set_option maxHeartbeats 3200000 in
theorem specMake_go (b o c : Nat) (k : List UInt8) (r : List (List UInt8)) (w : World) (hR : RowAt w (.slice (some ⟨b, o, none⟩) (r.length + 1) c) ((k :: r).map strV)) (hz : ∀ s ∈ k :: r, s.length ≤ 1048576) (hc : r.length + 1 ≤ c) (hm : r.length + 1 ≤ maxLen) (h1 : ¬ (c : Int) = 1) (hk : 0 ≤ kindI k) :
    Calls Tryz.prog 59 #[.slice (some ⟨b, o, none⟩) (r.length + 1) c] w fun e w' => GivesOPR (makeGo (newP k) r).1 (makeGo (newP k) r).2 w e w' := by
  have d0 := rowAt_cellS hR 0 (by simp)
  simp only [List.map_cons, List.getElem_cons_zero, strV, Nat.add_zero] at d0
  have hbw : b < w.heap.size := by
    obtain ⟨b', o', e, hlt, _⟩ := rowAt_cell hR 0 (by simp)
    injection e with e; injection e with e1 e2; subst e1; exact hlt
  have HNP := Lib.hid (fun W => specNewPart_own ⟨k.toArray⟩ W (by have := hz k (List.mem_cons_self ..); simpa [ByteArray.size] using this))
  simp only [GivesNPO, vNP] at HNP
  have HR := Lib.hid hR
  have HZ := Lib.hid hz
  have HM := Lib.hid hm
  clear hR hz hm
  rw [show decide (0 ≤ kindI (⟨k.toArray⟩ : ByteArray).data.toList) = true from decide_eq_true hk, show nmK (⟨k.toArray⟩ : ByteArray).data.toList = k from if_pos hk] at HNP
  generalize hp0 : newP k = p0
  have HPK := Lib.hid hp0
  clear hp0
  generalize hres : makeGo p0 r = res
  obtain ⟨rp, t0, fp, t2, t3, t4⟩ := res
  have HRES := Lib.hid hres.symm
  clear hres
  unfold GivesOPR vReply
  simp only
  have BS := Lib.hid (bx_start2 w [.string ⟨#[]⟩, .bool false, .bool false, .slice none 0 0, .int .i64 0, .slice none 0 0] [.int .i64 0, .int .i64 0, .string ⟨#[]⟩, .int .i64 0, .int .i64 0] 74 76)
  have HD := Lib.hid d0
  clear d0
  have d0 := (BS.out.2.2.cell (p := ⟨b, o, none⟩) hbw).trans HD.out
  go_enter Tryz.func59, Tryz.ntmps59
  go_wp2_with fail
  refine (HNP.out _).mono ?_
  rintro e w1 ⟨a1, c1, rfl, ho, hb⟩
  have HB1 := Lib.hid ((belS BS.out.2.2 hb).alloc (belS BS.out.2.2 hb).size (.cells #[.string ⟨k.toArray⟩, .bool false, .bool false, .slice a1 0 c1, .int .i64 0, .slice none 0 0] 74))
  have h1s := hb.size
  simp at h1s
  have ST0 := Lib.hid (show MkSt w w1.heap.size p0 (w1.alloc (.cells #[.string ⟨k.toArray⟩, .bool false, .bool false, .slice a1 0 c1, .int .i64 0, .slice none 0 0] 74)) by rw [← HPK.out]; exact ⟨newP_small (HZ.out k (List.mem_cons_self ..)), rfl, ⟨_, Bx.new w1 [.string ⟨k.toArray⟩, .bool false, .bool false, .slice a1 0 c1, .int .i64 0, .slice none 0 0] 74, _, _, rfl, ownsF_alloc (ownsF_base ho (by simp)) _, ownsF_nil _ _ _ _ _⟩, (BS.out.1.below hb).alloc (.cells #[.string ⟨k.toArray⟩, .bool false, .bool false, .slice a1 0 c1, .int .i64 0, .slice none 0 0] 74), (BS.out.2.1.below hb).alloc (.cells #[.string ⟨k.toArray⟩, .bool false, .bool false, .slice a1 0 c1, .int .i64 0, .slice none 0 0] 74), HB1.out⟩)
  clear ho hb d0
  go_wp2_with fail
  have HRT := Lib.hid (fun W (hb : Below w.heap.size w W) => RowAt.below HR.out hb (Nat.le_refl _))
  generalize w1.alloc (.cells #[.string ⟨k.toArray⟩, .bool false, .bool false, .slice a1 0 c1, .int .i64 0, .slice none 0 0] 74) = w2 at *
  go_loopw [7, 8, 9, 29] (fun _ _ _ i wr => ∃ j : Nat, ∃ p : PartD, j ≤ r.length ∧ i = .int .i64 j ∧ (rp, (⟨t0, fp, t2, t3, t4⟩ : ReplyD)) = makeGo p (r.drop j) ∧ MkSt w w1.heap.size p wr) (fun _ _ _ i _ => r.length - (intOf i).toNat)
  case atStart => exact ⟨0, p0, Nat.zero_le _, rfl, HRES.out, ST0.out⟩
  case round =>
    obtain ⟨j, p, hj, rfl, hgo, hst⟩ := hrel
    obtain ⟨hsm, hbare, ⟨cs, hq, hown⟩, hr2, hr3, hbw2⟩ := hst
    by_cases hlt : j < r.length
    · have d1 := rowAt_cellS (HRT.out _ hbw2) (j + 1) (by simp; omega)
      simp only [List.map_cons, List.getElem_cons_succ, List.getElem_map, strV] at d1
      rw [show o + (j + 1) = o + 1 + j by omega] at d1
      have hzs := HZ.out (r[j]) (List.mem_cons_of_mem _ (List.getElem_mem hlt))
      have hdr : r.drop j = r[j] :: r.drop (j + 1) := List.drop_eq_getElem_cons hlt
      rw [hdr] at hgo
      clear hdr
      generalize r[j] = s at *
      have HW := Lib.hid (fun cs W (h : rPart 0 W cs p) => (show Calls Tryz.prog 106 #[.agg cs.toArray, .string ⟨s.toArray⟩] W fun e w' => GivesOPR (wrapP p s) (wrapR p s) W e w' from specWrap_any (.agg cs.toArray) p ⟨s.toArray⟩ W ⟨cs, rfl, h⟩ hsm (by rw [hbare]; intro c hc; cases hc) (by simpa [ByteArray.size] using hzs)))
      have HSM2 := Lib.hid (wrapP_small hsm s)
      have hb2 : (wrapP p s).fCore.fCells = [] := by rw [wrapP_core]; exact hbare
      have hyes : wrapI p s = 0 → (rp, (⟨t0, fp, t2, t3, t4⟩ : ReplyD)) = makeGo (wrapP p s) (r.drop (j + 1)) := fun h => hgo.trans (makeGo_on h)
      have hno : ¬ wrapI p s = 0 → (rp, (⟨t0, fp, t2, t3, t4⟩ : ReplyD)) = (zeroP, wrapR p s) := fun h => hgo.trans (makeGo_stop h)
      obtain ⟨m1, m3, m4, hrr⟩ : ∃ m1 m3 m4, wrapR p s = ⟨wrapI p s, m1, [], m3, m4⟩ := ⟨_, _, _, rfl⟩
      simp only [hrr] at HW hno
      unfold GivesOPR vReply at HW
      simp only at HW
      clear hgo hrr
      generalize wrapI p s = m0 at *
      generalize wrapP p s = p2 at *
      obtain ⟨⟨a0, a1, a2, a3, a4⟩, l⟩ := p
      obtain rfl : a3 = [] := hbare
      obtain ⟨u3, u5, rfl, ho3, ho5⟩ := hown
      simp only at ho3 ho5 hq
      obtain ⟨ga, gc, rfl⟩ := slice_of ho3
      obtain ⟨ua, uc, rfl⟩ := slice_of ho5
      simp only [List.length_nil] at *
      have O3 := Lib.hid ho3
      have O5 := Lib.hid ho5
      have HSM := Lib.hid hsm
      have BQ := Lib.hid hq
      have B2 := Lib.hid hr2
      have B3 := Lib.hid hr3
      have HBr := Lib.hid hbw2
      have hlq := hq.lt
      have hls := hbw2.size
      clear hsm ho3 ho5 hq hr2 hr3 hbw2
      have HRP := Lib.hid (goodPart.mono (oPart_r ⟨_, _, rfl, O3.out, O5.out⟩ HSM.out) (Nat.zero_le _))
      have HYES := Lib.hid hyes
      have HNO := Lib.hid hno
      have hjr : (j : Int) < (r.length : Int) := by omega
      have hml := HM.out
      unfold maxLen at hml
      clear hyes hno
      have q0 := BQ.out.cell 0 (by simp)
      have q1 := BQ.out.cell 1 (by simp)
      have q2 := BQ.out.cell 2 (by simp)
      have q3 := BQ.out.cell 3 (by simp)
      have q4 := BQ.out.cell 4 (by simp)
      have q5 := BQ.out.cell 5 (by simp)
      simp only [List.getElem_cons_zero, List.getElem_cons_succ] at q0 q1 q2 q3 q4 q5
      go_wp2_with fail
      refine (HW.out _ _ HRP.out).mono ?_
      rintro e w4 ⟨_, rfl, ho, hb⟩
      obtain ⟨⟨b0, b1, b2, b3, b4⟩, l2⟩ := p2
      obtain rfl : b3 = [] := hb2
      obtain ⟨u3, u5, rfl, ho3, ho5⟩ := ho
      simp only at ho3 ho5
      obtain ⟨ha, hc2, rfl⟩ := slice_of ho3
      obtain ⟨va, vc, rfl⟩ := slice_of ho5
      simp only [List.length_nil] at *
      have N3 := Lib.hid ho3
      have N5 := Lib.hid ho5
      have HB4 := Lib.hid (belS HBr.out hb)
      have BQ4 := Lib.hid (BQ.out.below hb)
      have B24 := Lib.hid (B2.out.below hb)
      have B34 := Lib.hid (B3.out.below hb)
      have hs4 := hb.size
      have hq4 := BQ4.out.lt
      clear hb ho3 ho5 q0 q1 q2 q3 q4 q5 BQ B2 B3
      by_cases hcd : m0 = 0
      · subst hcd
        have HG := Lib.hid (HYES.out rfl)
        clear HNO HYES
        have q0 := BQ4.out.cell 0 (by simp)
        have q1 := BQ4.out.cell 1 (by simp)
        have q2 := BQ4.out.cell 2 (by simp)
        have q3 := BQ4.out.cell 3 (by simp)
        have q4 := BQ4.out.cell 4 (by simp)
        have q5 := BQ4.out.cell 5 (by simp)
        simp only [List.getElem_cons_zero, List.getElem_cons_succ] at q0 q1 q2 q3 q4 q5
        have p0 := BQ4.out.froz 0 (by simp)
        have p1 := BQ4.out.froz 1 (by simp)
        have p2 := BQ4.out.froz 2 (by simp)
        have p3 := BQ4.out.froz 3 (by simp)
        have p4 := BQ4.out.froz 4 (by simp)
        have p5 := BQ4.out.froz 5 (by simp)
        go_wp2_with fail
        refine ⟨⟨j + 1, ⟨⟨b0, b1, b2, [], b4⟩, l2⟩, by omega, by go_num, HG.out, ?_⟩, by simp [intOf]; omega⟩
        exact ⟨HSM2.out, rfl, ⟨_, ((BQ4.out.put6 (.string ⟨b0.toArray⟩) (.bool b1) (.bool b2) (.slice ha 0 hc2) (.int .i64 b4) (.slice va l2.length vc)).alloc _).alloc _, _, _, rfl, ownsF_alloc (ownsF_alloc (ownsF_base (ownsF_put6 N3.out w1.heap.size hlq (.string ⟨b0.toArray⟩) (.bool b1) (.bool b2) (.slice ha 0 hc2) (.int .i64 b4) (.slice va l2.length vc)) (by omega)) _) _, ownsF_alloc (ownsF_alloc (ownsF_base (ownsF_put6 N5.out w1.heap.size hlq (.string ⟨b0.toArray⟩) (.bool b1) (.bool b2) (.slice ha 0 hc2) (.int .i64 b4) (.slice va l2.length vc)) (by omega)) _) _⟩,
          ((B24.out.put6o (c := w1.heap.size) (by omega) (.string ⟨b0.toArray⟩) (.bool b1) (.bool b2) (.slice ha 0 hc2) (.int .i64 b4) (.slice va l2.length vc)).alloc _).alloc _, ((B34.out.put6o (c := w1.heap.size) (by omega) (.string ⟨b0.toArray⟩) (.bool b1) (.bool b2) (.slice ha 0 hc2) (.int .i64 b4) (.slice va l2.length vc)).alloc _).alloc _,
          belS (belS (below_put6 HB4.out w1.heap.size (by omega) (.string ⟨b0.toArray⟩) (.bool b1) (.bool b2) (.slice ha 0 hc2) (.int .i64 b4) (.slice va l2.length vc)) (bx_box _ _)) (bx_box _ _)⟩
      · have HG := Lib.hid (HNO.out hcd)
        have hg := HG.out
        simp only [Prod.mk.injEq, ReplyD.mk.injEq] at hg
        obtain ⟨g1, g2, g3, g4, g5, g6⟩ := hg
        subst g1
        subst g4
        have g2 := g2.symm
        have g3 := g3.symm
        have g5 := g5.symm
        have g6 := g6.symm
        subst g2
        subst g3
        subst g5
        subst g6
        clear HNO HYES HG
        have B25 := Lib.hid ((B24.out.alloc (.cells #[.string ⟨b0.toArray⟩, .bool b1, .bool b2, .slice ha 0 hc2, .int .i64 b4, .slice va l2.length vc] 74)).alloc (.cells #[.int .i64 m0, .int .i64 m1, .string ⟨#[]⟩, .int .i64 m3, .int .i64 m4] 76))
        have B35 := Lib.hid ((B34.out.alloc (.cells #[.string ⟨b0.toArray⟩, .bool b1, .bool b2, .slice ha 0 hc2, .int .i64 b4, .slice va l2.length vc] 74)).alloc (.cells #[.int .i64 m0, .int .i64 m1, .string ⟨#[]⟩, .int .i64 m3, .int .i64 m4] 76))
        have r0 := B25.out.cell 0 (by simp)
        have r1 := B25.out.cell 1 (by simp)
        have r2 := B25.out.cell 2 (by simp)
        have r3 := B25.out.cell 3 (by simp)
        have r4 := B25.out.cell 4 (by simp)
        have r5 := B25.out.cell 5 (by simp)
        simp only [List.getElem_cons_zero, List.getElem_cons_succ] at r0 r1 r2 r3 r4 r5
        have z0 := B25.out.froz 0 (by simp)
        have z1 := B25.out.froz 1 (by simp)
        have z2 := B25.out.froz 2 (by simp)
        have z3 := B25.out.froz 3 (by simp)
        have z4 := B25.out.froz 4 (by simp)
        have z5 := B25.out.froz 5 (by simp)
        have s0 := B35.out.cell 0 (by simp)
        have s1 := B35.out.cell 1 (by simp)
        have s2 := B35.out.cell 2 (by simp)
        have s3 := B35.out.cell 3 (by simp)
        have s4 := B35.out.cell 4 (by simp)
        simp only [List.getElem_cons_zero, List.getElem_cons_succ] at s0 s1 s2 s3 s4
        have y0 := B35.out.froz 0 (by simp)
        have y1 := B35.out.froz 1 (by simp)
        have y2 := B35.out.froz 2 (by simp)
        have y3 := B35.out.froz 3 (by simp)
        have y4 := B35.out.froz 4 (by simp)
        go_wp2_with fail
        go_region
        all_goals (try go_wp2_with fail)
        all_goals
          refine bodyPost_ret (v := .tuple #[.agg #[.string ⟨#[]⟩, .bool false, .bool false, .slice none 0 0, .int .i64 0, .slice none 0 0], .agg #[.int .i64 m0, .int .i64 m1, .string ⟨#[]⟩, .int .i64 m3, .int .i64 m4]]) (by simp [results, Tryz.results59, go_sem, cell_set_at, cell_set_ne, r0, r1, r2, r3, r4, r5, s0, s1, s2, s3, s4]) rfl ⟨_, rfl, ⟨_, _, rfl, ownsF_nil _ _ _ _ _, ownsF_nil _ _ _ _ _⟩, ?_⟩
          repeat (first | with_reducible exact HB4.out | with_reducible refine Below.setCell ?_ (by simp; try omega) _ | with_reducible refine Below.alloc ?_ (by first | omega | (simp; omega)) _ | with_reducible refine Below.drew ?_)
    · rw [show r.drop j = [] from List.drop_eq_nil_of_le (by omega)] at hgo
      replace hgo : (rp, (⟨t0, fp, t2, t3, t4⟩ : ReplyD)) = (p, ⟨0, faceP p, [], 0, 0⟩) := hgo
      simp only [Prod.mk.injEq, ReplyD.mk.injEq] at hgo
      obtain ⟨g1, g2, g3, g4, g5, g6⟩ := hgo
      have g1 := g1.symm
      subst g1
      subst g2
      subst g4
      subst g5
      subst g6
      have HFP := Lib.hid g3.symm
      clear g3
      have hjr : ¬ (j : Int) < (r.length : Int) := by omega
      obtain ⟨⟨a0, a1, a2, a3, a4⟩, l⟩ := p
      obtain rfl : a3 = [] := hbare
      obtain ⟨u3, u5, rfl, ho3, ho5⟩ := hown
      simp only at ho3 ho5 hq
      obtain ⟨ga, gc, rfl⟩ := slice_of ho3
      obtain ⟨ua, uc, rfl⟩ := slice_of ho5
      simp only [List.length_nil] at *
      have O3 := Lib.hid ho3
      have O5 := Lib.hid ho5
      have HSM := Lib.hid hsm
      have BQ := Lib.hid hq
      have B2 := Lib.hid hr2
      have B3 := Lib.hid hr3
      have HBr := Lib.hid hbw2
      have hlq := hq.lt
      have hls := hbw2.size
      clear hsm ho3 ho5 hq hr2 hr3 hbw2
      have HRP := Lib.hid (fun W (hb : Below wr.heap.size wr W) => (show rPart 0 W [.string ⟨a0.toArray⟩, .bool a1, .bool a2, .slice ga 0 gc, .int .i64 a4, .slice ua l.length uc] (⟨⟨a0, a1, a2, [], a4⟩, l⟩ : PartD) from goodPart.mono (oPart_r ⟨_, _, rfl, ownsF_below O3.out hb (Nat.le_refl _), ownsF_below O5.out hb (Nat.le_refl _)⟩ HSM.out) (Nat.zero_le _)))
      have HFO := Lib.hid (fun W (h : rPart 0 W [.string ⟨a0.toArray⟩, .bool a1, .bool a2, .slice ga 0 gc, .int .i64 a4, .slice ua l.length uc] (⟨⟨a0, a1, a2, [], a4⟩, l⟩ : PartD)) => (show Calls Tryz.prog 107 #[.agg #[.string ⟨a0.toArray⟩, .bool a1, .bool a2, .slice ga 0 gc, .int .i64 a4, .slice ua l.length uc]] W fun e w' => e = .returned (.int .i64 (faceP (⟨⟨a0, a1, a2, [], a4⟩, l⟩ : PartD))) ∧ Below W.heap.size W w' from specFaceOf_any (.agg #[.string ⟨a0.toArray⟩, .bool a1, .bool a2, .slice ga 0 gc, .int .i64 a4, .slice ua l.length uc]) (⟨⟨a0, a1, a2, [], a4⟩, l⟩ : PartD) W ⟨[.string ⟨a0.toArray⟩, .bool a1, .bool a2, .slice ga 0 gc, .int .i64 a4, .slice ua l.length uc], rfl, h⟩))
      rw [HFP.out] at HFO
      have BQd := Lib.hid (bx_dr BQ.out)
      have B2d := Lib.hid (bx_dr B2.out)
      have B3d := Lib.hid (bx_dr B3.out)
      have q0 := BQd.out.cell 0 (by simp)
      have q1 := BQd.out.cell 1 (by simp)
      have q2 := BQd.out.cell 2 (by simp)
      have q3 := BQd.out.cell 3 (by simp)
      have q4 := BQd.out.cell 4 (by simp)
      have q5 := BQd.out.cell 5 (by simp)
      simp only [List.getElem_cons_zero, List.getElem_cons_succ] at q0 q1 q2 q3 q4 q5
      go_wp2_with fail
      go_region_with (first
          | (go_at_call 107; (with_reducible refine (HFO.out _ (HRP.out _ (bel_dr (Below.refl _ _)))).mono ?_); rintro e w6 ⟨rfl, hb6⟩; have BQ6 := Lib.hid (BQd.out.below hb6); have B26 := Lib.hid (B2d.out.below hb6); have B36 := Lib.hid (B3d.out.below hb6); have q0' := BQ6.out.cell 0 (by simp); have q1' := BQ6.out.cell 1 (by simp); have q2' := BQ6.out.cell 2 (by simp); have q3' := BQ6.out.cell 3 (by simp); have q4' := BQ6.out.cell 4 (by simp); have q5' := BQ6.out.cell 5 (by simp); have r0 := B26.out.cell 0 (by simp); have z0 := B26.out.froz 0 (by simp); have r1 := B26.out.cell 1 (by simp); have z1 := B26.out.froz 1 (by simp); have r2 := B26.out.cell 2 (by simp); have z2 := B26.out.froz 2 (by simp); have r3 := B26.out.cell 3 (by simp); have z3 := B26.out.froz 3 (by simp); have r4 := B26.out.cell 4 (by simp); have z4 := B26.out.froz 4 (by simp); have r5 := B26.out.cell 5 (by simp); have z5 := B26.out.froz 5 (by simp); have s0 := B36.out.cell 0 (by simp); have y0 := B36.out.froz 0 (by simp); have s1 := B36.out.cell 1 (by simp); have y1 := B36.out.froz 1 (by simp); have s2 := B36.out.cell 2 (by simp); have y2 := B36.out.froz 2 (by simp); have s3 := B36.out.cell 3 (by simp); have y3 := B36.out.froz 3 (by simp); have s4 := B36.out.cell 4 (by simp); have y4 := B36.out.froz 4 (by simp); simp only [List.getElem_cons_zero, List.getElem_cons_succ] at q0' q1' q2' q3' q4' q5' r0 r1 r2 r3 r4 r5 s0 s1 s2 s3 s4))
      all_goals (try go_wp2_with fail)
      all_goals
        have HB6 := Lib.hid (belS (bel_dr HBr.out) hb6)
        have T3 := Lib.hid (ownsF_below (ownsF_drew O3.out) hb6 (Nat.le_refl _))
        have T5 := Lib.hid (ownsF_below (ownsF_drew O5.out) hb6 (Nat.le_refl _))
        refine bodyPost_ret (v := .tuple #[.agg #[.string ⟨a0.toArray⟩, .bool a1, .bool a2, .slice ga 0 gc, .int .i64 a4, .slice ua l.length uc], .agg #[.int .i64 0, .int .i64 fp, .string ⟨#[]⟩, .int .i64 0, .int .i64 0]]) (by simp [results, Tryz.results59, go_sem, cell_set_at, cell_set_ne, r0, r1, r2, r3, r4, r5, s0, s1, s2, s3, s4]) rfl ⟨_, rfl, ⟨_, _, rfl, ?_, ?_⟩, ?_⟩
        · refine ownsF_base (B := ((w.heap.size + 1) + 1)) ?_ (by omega)
          repeat (first | with_reducible exact T3.out | with_reducible refine ownsF_set ?_ (by simp; try omega) | with_reducible refine ownsF_drew ?_)
        · refine ownsF_base (B := ((w.heap.size + 1) + 1)) ?_ (by omega)
          repeat (first | with_reducible exact T5.out | with_reducible refine ownsF_set ?_ (by simp; try omega) | with_reducible refine ownsF_drew ?_)
        · repeat (first | with_reducible exact HB6.out | with_reducible refine Below.setCell ?_ (by simp; try omega) _ | with_reducible refine Below.drew ?_)
theorem specMakePart_any (v : Value) (x : List (List UInt8)) (w : World) (hR : RowAt w v (x.map strV)) (hz : ∀ s ∈ x, s.length ≤ 1048576) :
    Calls Tryz.prog 59 #[v] w fun e w' => GivesOPR (makePR x).1 (makePR x).2 w e w' := by
  obtain ⟨a, c, rfl, hl, hcap⟩ := rowAt_cap hR
  cases x with
  | nil => exact specMake_nil a c w
  | cons k r =>
    obtain ⟨b, o, rfl, hbw, _⟩ := rowAt_cell hR 0 (by simp)
    simp only [List.length_map, List.length_cons] at hR hl hcap ⊢
    by_cases hk : 0 ≤ kindI k
    · rw [show makePR (k :: r) = makeGo (newP k) r from if_pos hk]
      by_cases h1 : c = 1
      · exact specMake_one b o c k r w hR hz hcap hl h1 hk
      · exact specMake_go b o c k r w hR hz hcap hl (by omega) hk
    · rw [show makePR (k :: r) = (zeroP, ⟨7, 0, [], 0, 0⟩) from if_neg hk]
      exact specMake_bad b o c k r w hR hz hcap hl hk
set_option maxRecDepth 100000 in
set_option maxHeartbeats 1600000 in
theorem specRecipeFace_any (v : Value) (x : List (List UInt8)) (w : World) (hR : RowAt w v (x.map strV)) (hz : ∀ s ∈ x, s.length ≤ 1048576) :
    Calls Tryz.prog 92 #[v] w fun e w' => e = .returned (.tuple #[.int .i64 (recI x), .bool (recB x)]) ∧ Below w.heap.size w w' := by
  have HMK := Lib.hid (specMakePart_any v x w hR hz)
  have HSM := Lib.hid (makePR_small hz)
  have HV := Lib.hid (@makePR_val x)
  unfold recI recB
  generalize makePR x = res at *
  obtain ⟨⟨⟨a0, a1, a2, a3, a4⟩, l⟩, m0, m1, m2, m3, m4⟩ := res
  unfold GivesOPR vReply at HMK
  simp only at HMK HSM ⊢
  have HFO := Lib.hid (fun cs W (h : rPart 0 W cs ⟨⟨a0, a1, a2, a3, a4⟩, l⟩) => specFaceOf_any (.agg cs.toArray) ⟨⟨a0, a1, a2, a3, a4⟩, l⟩ W ⟨cs, rfl, h⟩)
  generalize hfp : faceP ⟨⟨a0, a1, a2, a3, a4⟩, l⟩ = fp at *
  clear hfp hR hz
  by_cases hc : m0 = 0
  · subst hc
    have hv : m1 = fp := HV.out rfl
    subst hv
    simp only [if_true, decide_true]
    clear HV
    go_enter Tryz.func92, Tryz.ntmps92
    go_wp2_with fail
    refine HMK.out.mono ?_
    rintro e w1 ⟨_, rfl, ⟨u3, u5, rfl, ho3, ho5⟩, hb⟩
    simp only at ho3 ho5
    obtain ⟨ga, gc, rfl⟩ := slice_of ho3
    obtain ⟨ua, uc, rfl⟩ := slice_of ho5
    have HB1 := Lib.hid (belS (belS hb (bx_box w1 (.cells #[.string ⟨a0.toArray⟩, .bool a1, .bool a2, .slice ga a3.length gc, .int .i64 a4, .slice ua l.length uc] 74))) (bx_box _ (.cells #[.int .i64 0, .int .i64 m1, .string ⟨m2.toArray⟩, .int .i64 m3, .int .i64 m4] 76)))
    have O3 := Lib.hid (ownsF_alloc (ownsF_alloc ho3 (.cells #[.string ⟨a0.toArray⟩, .bool a1, .bool a2, .slice ga a3.length gc, .int .i64 a4, .slice ua l.length uc] 74)) (.cells #[.int .i64 0, .int .i64 m1, .string ⟨m2.toArray⟩, .int .i64 m3, .int .i64 m4] 76))
    have O5 := Lib.hid (ownsF_alloc (ownsF_alloc ho5 (.cells #[.string ⟨a0.toArray⟩, .bool a1, .bool a2, .slice ga a3.length gc, .int .i64 a4, .slice ua l.length uc] 74)) (.cells #[.int .i64 0, .int .i64 m1, .string ⟨m2.toArray⟩, .int .i64 m3, .int .i64 m4] 76))
    have HRP := Lib.hid (show rPart 0 ((w1.alloc (.cells #[.string ⟨a0.toArray⟩, .bool a1, .bool a2, .slice ga a3.length gc, .int .i64 a4, .slice ua l.length uc] 74)).alloc (.cells #[.int .i64 0, .int .i64 m1, .string ⟨m2.toArray⟩, .int .i64 m3, .int .i64 m4] 76)) [.string ⟨a0.toArray⟩, .bool a1, .bool a2, .slice ga a3.length gc, .int .i64 a4, .slice ua l.length uc] ⟨⟨a0, a1, a2, a3, a4⟩, l⟩ from goodPart.mono (oPart_r ⟨_, _, rfl, O3.out, O5.out⟩ HSM.out) (Nat.zero_le _))
    clear ho3 ho5 hb
    go_wp2_with fail
    exact bodyPost_ret (v := .tuple #[.int .i64 m1, .bool true]) (by simp [results, Tryz.results92, go_sem]) rfl ⟨rfl, HB1.out⟩
  · simp only [if_neg hc, decide_eq_false hc]
    clear HV
    go_enter Tryz.func92, Tryz.ntmps92
    go_wp2_with fail
    refine HMK.out.mono ?_
    rintro e w1 ⟨_, rfl, ⟨u3, u5, rfl, ho3, ho5⟩, hb⟩
    simp only at ho3 ho5
    obtain ⟨ga, gc, rfl⟩ := slice_of ho3
    obtain ⟨ua, uc, rfl⟩ := slice_of ho5
    have HB1 := Lib.hid (belS (belS hb (bx_box w1 (.cells #[.string ⟨a0.toArray⟩, .bool a1, .bool a2, .slice ga a3.length gc, .int .i64 a4, .slice ua l.length uc] 74))) (bx_box _ (.cells #[.int .i64 m0, .int .i64 m1, .string ⟨m2.toArray⟩, .int .i64 m3, .int .i64 m4] 76)))
    clear ho3 ho5 hb
    go_wp2_with fail
    exact bodyPost_ret (v := .tuple #[.int .i64 0, .bool false]) (by simp [results, Tryz.results92, go_sem]) rfl ⟨rfl, HB1.out⟩
end Go.Proofs.YteeopjcbpngofaaGreat
/- Contracts of chapter 6: IsEntry, the model's. Written by gen/ch6e.py. -/
namespace Go.Proofs.YteeopjcbpngofaaGreat
set_option linter.unusedVariables false
set_option linter.unusedSimpArgs false
open Go.RowKit
set_option maxRecDepth 100000 in
set_option maxHeartbeats 3200000 in
theorem specIsEntry_any (v : Value) (x : EntryD) (w : World) (hx : ValAt rEntry 0 w v x) (hn : x.fName.length ≤ maxLen) (hk : ∀ d ∈ x.fNeeds, d.fFrom.length ≤ maxLen) (hr : ∀ s ∈ x.fRecipe, s.length ≤ 1048576) :
    Calls Tryz.prog 113 #[v] w fun e w' => e = .returned (.bool (entryB x)) ∧ Below w.heap.size w w' := by
  have HRF := Lib.hid (fun v W (h : RowAt W v (x.fRecipe.map strV)) => specRecipeFace_any v x.fRecipe W h hr)
  have HNM := Lib.hid (fun W => specIsName_any ⟨x.fName.toArray⟩ W (by simpa [ByteArray.size] using hn))
  have HVR := Lib.hid (fun W => specIsVer_any x.fVersion W)
  unfold entryB headB
  generalize recI x.fRecipe = fi at *
  generalize recB x.fRecipe = fb at *
  obtain ⟨_, rfl, hx⟩ := hx
  have HX := Lib.hid (fun W (hb : Below w.heap.size w W) => goodEntry.keep hx (kept_below hb (Nat.le_refl _)))
  obtain ⟨a0, a1, ⟨a2, a3⟩, l⟩ := x
  obtain ⟨v1, v4, rfl, h1, h4⟩ := hx
  simp only at h1 h4 hk hn hr
  obtain ⟨ra, rc, rfl, _⟩ := sliceAt_len h1
  obtain ⟨sa, sc, rfl, hl⟩ := sliceAt_len h4
  have H1 := Lib.hid h1
  have H4 := Lib.hid h4
  have HK := Lib.hid hk
  unfold maxLen at hl
  have BS := Lib.hid (bx_start1 w [.string ⟨a0.toArray⟩, .slice ra a1.length rc, .int .i64 a2, .int .i64 a3, .slice sa l.length sc] 95)
  simp only [List.toList_toArray, vVersion] at *
  generalize nameB a0 = nb at *
  generalize verB ⟨a2, a3⟩ = vb at *
  have BX0 := Lib.hid BS.out.1
  have HB0 := Lib.hid BS.out.2
  clear h1 h4 hk hn hr
  cases nb
  · change Calls Tryz.prog 113 _ w (fun e w' => e = .returned (.bool false) ∧ Below w.heap.size w w')
    go_enter Tryz.func113, Tryz.ntmps113
    go_wp2_with fail
    refine (HRF.out _ _ (row_of_slice (SliceAt.below H1.out good_str HB0.out (Nat.le_refl _)))).mono ?_
    rintro e w1 ⟨rfl, hb⟩
    have HB1 := Lib.hid (belS HB0.out hb)
    have BX1 := Lib.hid (BX0.out.below hb)
    clear hb
    have y0 := BX1.out.cell 0 (by simp)
    have y1 := BX1.out.cell 1 (by simp)
    have y2 := BX1.out.cell 2 (by simp)
    have y3 := BX1.out.cell 3 (by simp)
    have y4 := BX1.out.cell 4 (by simp)
    simp only [List.getElem_cons_zero, List.getElem_cons_succ] at y0 y1 y2 y3 y4
    go_wp2_with (first | (go_at_call 94; (with_reducible refine (HNM.out _).mono ?_); rintro e w' ⟨rfl, rfl⟩))
    go_ret
    exact ⟨rfl, HB1.out⟩
  cases fb
  · rw [Bool.and_false]
    change Calls Tryz.prog 113 _ w (fun e w' => e = .returned (.bool false) ∧ Below w.heap.size w w')
    go_enter Tryz.func113, Tryz.ntmps113
    go_wp2_with fail
    refine (HRF.out _ _ (row_of_slice (SliceAt.below H1.out good_str HB0.out (Nat.le_refl _)))).mono ?_
    rintro e w1 ⟨rfl, hb⟩
    have HB1 := Lib.hid (belS HB0.out hb)
    have BX1 := Lib.hid (BX0.out.below hb)
    clear hb
    have y0 := BX1.out.cell 0 (by simp)
    have y1 := BX1.out.cell 1 (by simp)
    have y2 := BX1.out.cell 2 (by simp)
    have y3 := BX1.out.cell 3 (by simp)
    have y4 := BX1.out.cell 4 (by simp)
    simp only [List.getElem_cons_zero, List.getElem_cons_succ] at y0 y1 y2 y3 y4
    go_wp2_with (first | (go_at_call 94; (with_reducible refine (HNM.out _).mono ?_); rintro e w' ⟨rfl, rfl⟩))
    go_ret
    exact ⟨rfl, HB1.out⟩
  cases vb
  · change Calls Tryz.prog 113 _ w (fun e w' => e = .returned (.bool false) ∧ Below w.heap.size w w')
    go_enter Tryz.func113, Tryz.ntmps113
    go_wp2_with fail
    refine (HRF.out _ _ (row_of_slice (SliceAt.below H1.out good_str HB0.out (Nat.le_refl _)))).mono ?_
    rintro e w1 ⟨rfl, hb⟩
    have HB1 := Lib.hid (belS HB0.out hb)
    have BX1 := Lib.hid (BX0.out.below hb)
    clear hb
    have y0 := BX1.out.cell 0 (by simp)
    have y1 := BX1.out.cell 1 (by simp)
    have y2 := BX1.out.cell 2 (by simp)
    have y3 := BX1.out.cell 3 (by simp)
    have y4 := BX1.out.cell 4 (by simp)
    simp only [List.getElem_cons_zero, List.getElem_cons_succ] at y0 y1 y2 y3 y4
    go_wp2_with (first | (go_at_call 94; (with_reducible refine (HNM.out _).mono ?_); rintro e w' ⟨rfl, rfl⟩))
    refine (HVR.out _).mono ?_
    rintro e w2 ⟨rfl, hb⟩
    have HB2 := Lib.hid (belS HB1.out hb)
    have BX2 := Lib.hid (BX1.out.below hb)
    clear hb y0 y1 y2 y3 y4
    have y0 := BX2.out.cell 0 (by simp)
    have y1 := BX2.out.cell 1 (by simp)
    have y2 := BX2.out.cell 2 (by simp)
    have y3 := BX2.out.cell 3 (by simp)
    have y4 := BX2.out.cell 4 (by simp)
    simp only [List.getElem_cons_zero, List.getElem_cons_succ] at y0 y1 y2 y3 y4
    go_wp2_with fail
    go_ret
    exact ⟨rfl, HB2.out⟩
  simp only [Bool.true_and, Bool.and_true]
  by_cases h3 : 3 < l.length
  · rw [show needsB ⟨a0, a1, ⟨a2, a3⟩, l⟩ = false by unfold needsB; rw [decide_eq_false (by simp only; omega)]; rfl]
    have hgt : (3 : Int) < (l.length : Int) := by omega
    clear h3
    go_enter Tryz.func113, Tryz.ntmps113
    go_wp2_with fail
    refine (HRF.out _ _ (row_of_slice (SliceAt.below H1.out good_str HB0.out (Nat.le_refl _)))).mono ?_
    rintro e w1 ⟨rfl, hb⟩
    have HB1 := Lib.hid (belS HB0.out hb)
    have BX1 := Lib.hid (BX0.out.below hb)
    clear hb
    have y0 := BX1.out.cell 0 (by simp)
    have y1 := BX1.out.cell 1 (by simp)
    have y2 := BX1.out.cell 2 (by simp)
    have y3 := BX1.out.cell 3 (by simp)
    have y4 := BX1.out.cell 4 (by simp)
    simp only [List.getElem_cons_zero, List.getElem_cons_succ] at y0 y1 y2 y3 y4
    go_wp2_with (first | (go_at_call 94; (with_reducible refine (HNM.out _).mono ?_); rintro e w' ⟨rfl, rfl⟩))
    refine (HVR.out _).mono ?_
    rintro e w2 ⟨rfl, hb⟩
    have HB2 := Lib.hid (belS HB1.out hb)
    have BX2 := Lib.hid (BX1.out.below hb)
    clear hb y0 y1 y2 y3 y4
    have y0 := BX2.out.cell 0 (by simp)
    have y1 := BX2.out.cell 1 (by simp)
    have y2 := BX2.out.cell 2 (by simp)
    have y3 := BX2.out.cell 3 (by simp)
    have y4 := BX2.out.cell 4 (by simp)
    simp only [List.getElem_cons_zero, List.getElem_cons_succ] at y0 y1 y2 y3 y4
    go_wp2_with fail
    go_ret
    exact ⟨rfl, HB2.out⟩
  · rw [show needsB ⟨a0, a1, ⟨a2, a3⟩, l⟩ = l.all (needOk a0) by unfold needsB; rw [decide_eq_true (by simp only; omega)]; rfl]
    generalize hres : l.all (needOk a0) = res
    have HRES := Lib.hid (show res = (l.drop 0).all (needOk a0) from hres.symm)
    have hgt : ¬ (3 : Int) < (l.length : Int) := by omega
    clear h3 hres
    go_enter Tryz.func113, Tryz.ntmps113
    go_wp2_with fail
    refine (HRF.out _ _ (row_of_slice (SliceAt.below H1.out good_str HB0.out (Nat.le_refl _)))).mono ?_
    rintro e w1 ⟨rfl, hb⟩
    have HB1 := Lib.hid (belS HB0.out hb)
    have BX1 := Lib.hid (BX0.out.below hb)
    clear hb
    have y0 := BX1.out.cell 0 (by simp)
    have y1 := BX1.out.cell 1 (by simp)
    have y2 := BX1.out.cell 2 (by simp)
    have y3 := BX1.out.cell 3 (by simp)
    have y4 := BX1.out.cell 4 (by simp)
    simp only [List.getElem_cons_zero, List.getElem_cons_succ] at y0 y1 y2 y3 y4
    go_wp2_with (first | (go_at_call 94; (with_reducible refine (HNM.out _).mono ?_); rintro e w' ⟨rfl, rfl⟩))
    refine (HVR.out _).mono ?_
    rintro e w2 ⟨rfl, hb⟩
    have HB2 := Lib.hid (belS HB1.out hb)
    have BX2 := Lib.hid (BX1.out.below hb)
    clear hb y0 y1 y2 y3 y4
    have y0 := BX2.out.cell 0 (by simp)
    have y1 := BX2.out.cell 1 (by simp)
    have y2 := BX2.out.cell 2 (by simp)
    have y3 := BX2.out.cell 3 (by simp)
    have y4 := BX2.out.cell 4 (by simp)
    simp only [List.getElem_cons_zero, List.getElem_cons_succ] at y0 y1 y2 y3 y4
    go_wp2_with fail
    go_loopw [6, 36] (fun _ i wr => ∃ k : Nat, k ≤ l.length ∧ i = .int .i64 k ∧ res = (l.drop k).all (needOk a0) ∧ Below w.heap.size w wr ∧ Bx wr w.heap.size [.string ⟨a0.toArray⟩, .slice ra a1.length rc, .int .i64 a2, .int .i64 a3, .slice sa l.length sc]) (fun _ i _ => l.length - (intOf i).toNat)
    case atStart => exact ⟨0, Nat.zero_le _, rfl, HRES.out, HB2.out, BX2.out⟩
    case round =>
      obtain ⟨k, hk, rfl, hres, hbr, hbx⟩ := hrel
      have HRS := Lib.hid hres
      have HBr := Lib.hid hbr
      have BXr := Lib.hid hbx
      have HXr := Lib.hid (SliceAt.below H4.out (good_flat cNeed_len) hbr (Nat.le_refl _))
      have hszr := hbr.size
      clear hres hbr hbx
      by_cases hlt : k < l.length
      · obtain ⟨b, o, cs, rfl, hbw, hat, hd⟩ := sliceAt_cell HXr.out k hlt
        have HM := Lib.hid (HK.out _ (List.getElem_mem hlt))
        have HDR := Lib.hid (show l.drop k = l[k] :: l.drop (k + 1) from List.drop_eq_getElem_cons hlt)
        generalize l[k] = z at *
        obtain ⟨m0, m1, m2, m3⟩ := z
        simp only [rFlat, cNeed] at hat
        subst hat
        have d0 := hd 0 (by decide)
        have d1 := hd 1 (by decide)
        have d2 := hd 2 (by decide)
        have d3 := hd 3 (by decide)
        simp only [List.getElem?_cons_zero, List.getElem?_cons_succ, Nat.add_zero] at d0 d1 d2 d3
        have HIN := Lib.hid (fun W => specIsNeed_any ⟨m0, m1, m2, m3⟩ W HM.out)
        unfold vNeed at HIN
        simp only at HIN
        have HRS2 := Lib.hid (show res = ((needB ⟨m0, m1, m2, m3⟩ && !(m1 == a0)) && (l.drop (k + 1)).all (needOk a0)) by rw [HRS.out, HDR.out]; rfl)
        generalize needB ⟨m0, m1, m2, m3⟩ = nb at *
        have BN := Lib.hid (Bx.new wr [.int .i64 m0, .string ⟨m1.toArray⟩, .int .i64 m2, .int .i64 m3] 97)
        have HBN := Lib.hid (belS HBr.out (bx_box wr (.cells #[.int .i64 m0, .string ⟨m1.toArray⟩, .int .i64 m2, .int .i64 m3] 97)))
        have BXN := Lib.hid (BXr.out.alloc (.cells #[.int .i64 m0, .string ⟨m1.toArray⟩, .int .i64 m2, .int .i64 m3] 97))
        have hkl : (k : Int) < (l.length : Int) := by omega
        clear hd HRS HDR
        cases nb
        · obtain rfl : res = false := by have h := HRS2.out; simpa using h
          clear HRS2
          have n0 := BN.out.cell 0 (by simp)
          have n1 := BN.out.cell 1 (by simp)
          have n2 := BN.out.cell 2 (by simp)
          have n3 := BN.out.cell 3 (by simp)
          simp only [List.getElem_cons_zero, List.getElem_cons_succ] at n0 n1 n2 n3
          go_wp2_with fail
          refine (HIN.out _).mono ?_
          rintro e w2 ⟨rfl, hb⟩
          have HB2 := Lib.hid (belS HBN.out hb)
          clear hb
          go_wp2_with fail
          go_ret
          exact ⟨rfl, HB2.out⟩
        · by_cases he : m1 = a0
          · obtain rfl : res = false := by have h := HRS2.out; rw [show (m1 == a0) = true by simp [he]] at h; simpa using h
            have heq : (m1 == a0) = true := by simp [he]
            clear HRS2 he
            have n0 := BN.out.cell 0 (by simp)
            have n1 := BN.out.cell 1 (by simp)
            have n2 := BN.out.cell 2 (by simp)
            have n3 := BN.out.cell 3 (by simp)
            simp only [List.getElem_cons_zero, List.getElem_cons_succ] at n0 n1 n2 n3
            go_wp2_with fail
            refine (HIN.out _).mono ?_
            rintro e w2 ⟨rfl, hb⟩
            have HB2 := Lib.hid (belS HBN.out hb)
            have BN2 := Lib.hid (BN.out.below hb)
            have BX2 := Lib.hid (BXN.out.below hb)
            clear hb n0 n1 n2 n3
            have n0 := BN2.out.cell 0 (by simp)
            have n1 := BN2.out.cell 1 (by simp)
            have n2 := BN2.out.cell 2 (by simp)
            have n3 := BN2.out.cell 3 (by simp)
            simp only [List.getElem_cons_zero, List.getElem_cons_succ] at n0 n1 n2 n3
            have x0 := BX2.out.cell 0 (by simp)
            have x1 := BX2.out.cell 1 (by simp)
            have x2 := BX2.out.cell 2 (by simp)
            have x3 := BX2.out.cell 3 (by simp)
            have x4 := BX2.out.cell 4 (by simp)
            simp only [List.getElem_cons_zero, List.getElem_cons_succ] at x0 x1 x2 x3 x4
            go_wp2_with fail
            go_ret
            exact ⟨rfl, HB2.out⟩
          · have HR3 := Lib.hid (show res = (l.drop (k + 1)).all (needOk a0) by have h := HRS2.out; rw [show (m1 == a0) = false by simp [he]] at h; simpa using h)
            have heq : (m1 == a0) = false := by simp [he]
            clear HRS2 he
            have n0 := BN.out.cell 0 (by simp)
            have n1 := BN.out.cell 1 (by simp)
            have n2 := BN.out.cell 2 (by simp)
            have n3 := BN.out.cell 3 (by simp)
            simp only [List.getElem_cons_zero, List.getElem_cons_succ] at n0 n1 n2 n3
            go_wp2_with fail
            refine (HIN.out _).mono ?_
            rintro e w2 ⟨rfl, hb⟩
            have HB2 := Lib.hid (belS HBN.out hb)
            have BN2 := Lib.hid (BN.out.below hb)
            have BX2 := Lib.hid (BXN.out.below hb)
            clear hb n0 n1 n2 n3
            have n0 := BN2.out.cell 0 (by simp)
            have n1 := BN2.out.cell 1 (by simp)
            have n2 := BN2.out.cell 2 (by simp)
            have n3 := BN2.out.cell 3 (by simp)
            simp only [List.getElem_cons_zero, List.getElem_cons_succ] at n0 n1 n2 n3
            have x0 := BX2.out.cell 0 (by simp)
            have x1 := BX2.out.cell 1 (by simp)
            have x2 := BX2.out.cell 2 (by simp)
            have x3 := BX2.out.cell 3 (by simp)
            have x4 := BX2.out.cell 4 (by simp)
            simp only [List.getElem_cons_zero, List.getElem_cons_succ] at x0 x1 x2 x3 x4
            go_wp2_with fail
            exact ⟨⟨k + 1, by omega, by go_num, HR3.out, HB2.out, BX2.out⟩, by simp [intOf]; omega⟩
      · obtain rfl : res = true := by have h := HRS.out; rw [List.drop_eq_nil_of_le (by omega)] at h; simpa using h
        have hkl : ¬ (k : Int) < (l.length : Int) := by omega
        go_wp2_with fail
        go_ret
        exact ⟨rfl, HBr.out⟩
end Go.Proofs.YteeopjcbpngofaaGreat
namespace Go.Proofs.YteeopjcbpngofaaGreat
set_option linter.unusedVariables false
set_option linter.unusedSimpArgs false
open Go.RowKit
set_option maxRecDepth 100000 in
set_option maxHeartbeats 3200000 in
theorem specIsReg_any (v : Value) (l : List EntryD) (w : World) (hx : SliceAt rEntry 5 0 w v l) (hg : ∀ e ∈ l, e.fName.length ≤ 1048576 ∧ (∀ d ∈ e.fNeeds, d.fFrom.length ≤ maxLen) ∧ ∀ s ∈ e.fRecipe, s.length ≤ 1048576) :
    Calls Tryz.prog 69 #[v] w fun e w' => e = .returned (.bool (regB l)) ∧ Below w.heap.size w w' := by
  obtain ⟨a, c, rfl, hl⟩ := sliceAt_len hx
  have HX := Lib.hid hx
  have HIE := Lib.hid (fun cs (x : EntryD) W (h : rEntry 0 W cs x) (hq : x ∈ l) => specIsEntry_any (.agg cs.toArray) x W ⟨cs, rfl, h⟩ (Nat.le_trans (hg x hq).1 (by decide)) (hg x hq).2.1 (hg x hq).2.2)
  unfold maxLen at hl
  clear hx hg
  generalize hres : regB l = res
  generalize hlo : decide (l.length ≤ 6) = lo
  have HRES := Lib.hid (show res = (regGo (prv l 0) (l.drop 0) && lo) by rw [← hres, ← hlo]; rfl)
  have HLO := Lib.hid hlo
  clear hres hlo
  go_enter Tryz.func69, Tryz.ntmps69
  go_wp2_with fail
  go_loopw [3, 4, 7] (fun _ _ i wr => ∃ k : Nat, k ≤ l.length ∧ i = .int .i64 k ∧ res = (regGo (prv l k) (l.drop k) && lo) ∧ Below w.heap.size w wr) (fun _ _ i _ => l.length - (intOf i).toNat)
  case atStart => exact ⟨0, Nat.zero_le _, rfl, HRES.out, Below.refl _ _⟩
  case round =>
    obtain ⟨k, hk, rfl, hres, hbr⟩ := hrel
    have HRS := Lib.hid hres
    have HBr := Lib.hid hbr
    have HXr := Lib.hid (SliceAt.below HX.out goodEntry hbr (Nat.le_refl _))
    have hszr := hbr.size
    clear hres hbr
    by_cases hlt : k < l.length
    · obtain ⟨b, o, cs, rfl, hbw, hat, hd⟩ := sliceAt_cell HXr.out k hlt
      have HM := Lib.hid (List.getElem_mem hlt)
      have HDR := Lib.hid (show l.drop k = l[k] :: l.drop (k + 1) from List.drop_eq_getElem_cons hlt)
      have HPS := Lib.hid (prv_succ hlt)
      have HI1 := Lib.hid (fun cs W (h : rEntry 0 W cs l[k]) => HIE.out cs l[k] W h HM.out)
      have HAT := Lib.hid (fun W (hb : Below wr.heap.size wr W) => goodEntry.keep hat (kept_below hb (Nat.le_refl _)))
      clear HM
      generalize l[k] = z at *
      obtain ⟨a0, a1, ⟨a2, a3⟩, l2⟩ := z
      obtain ⟨v1, v4, rfl, h1, h4⟩ := hat
      simp only at h1 h4 HPS
      obtain ⟨ra, rc, rfl, _⟩ := sliceAt_len h1
      obtain ⟨sa, sc, rfl, _⟩ := sliceAt_len h4
      have d0 := hd 0 (by decide)
      have d1 := hd 1 (by decide)
      have d2 := hd 2 (by decide)
      have d3 := hd 3 (by decide)
      have d4 := hd 4 (by decide)
      simp only [List.getElem?_cons_zero, List.getElem?_cons_succ, Nat.add_zero] at d0 d1 d2 d3 d4
      have HRS2 := Lib.hid (show res = (((entryB ⟨a0, a1, ⟨a2, a3⟩, l2⟩ && ltO (prv l k) a0) && regGo (prv l (k + 1)) (l.drop (k + 1))) && lo) by rw [HRS.out, HDR.out, HPS.out]; rfl)
      generalize entryB ⟨a0, a1, ⟨a2, a3⟩, l2⟩ = eb at *
      have BE := Lib.hid (Bx.new wr [.string ⟨a0.toArray⟩, .slice ra a1.length rc, .int .i64 a2, .int .i64 a3, .slice sa l2.length sc] 95)
      have HBN := Lib.hid (belS HBr.out (bx_box wr (.cells #[.string ⟨a0.toArray⟩, .slice ra a1.length rc, .int .i64 a2, .int .i64 a3, .slice sa l2.length sc] 95)))
      have HAT1 := Lib.hid (HAT.out _ (bel_drR (bx_box wr (.cells #[.string ⟨a0.toArray⟩, .slice ra a1.length rc, .int .i64 a2, .int .i64 a3, .slice sa l2.length sc] 95))))
      have HAT0 := Lib.hid (HAT.out _ (bx_box wr (.cells #[.string ⟨a0.toArray⟩, .slice ra a1.length rc, .int .i64 a2, .int .i64 a3, .slice sa l2.length sc] 95)))
      have hkl : (k : Int) < (l.length : Int) := by omega
      clear hd HRS HDR h1 h4 HAT HPS
      cases eb
      · obtain rfl : res = false := by rw [HRS2.out]; simp
        clear HRS2
        go_wp2_with fail
        refine wp_region_held_drew (S := (fun w' => w'.cell? ⟨wr.heap.size, 0, none⟩ = some (.string ⟨a0.toArray⟩) ∧ w'.cell? ⟨wr.heap.size, 1, none⟩ = some (.slice ra a1.length rc) ∧ w'.cell? ⟨wr.heap.size, 2, none⟩ = some (.int .i64 a2) ∧ w'.cell? ⟨wr.heap.size, 3, none⟩ = some (.int .i64 a3) ∧ w'.cell? ⟨wr.heap.size, 4, none⟩ = some (.slice sa l2.length sc))) (by kernel_rfl) ?_ (fun hHeld => ?_)
        · exact ⟨BE.out.cell 0 (by simp), BE.out.cell 1 (by simp), BE.out.cell 2 (by simp), BE.out.cell 3 (by simp), BE.out.cell 4 (by simp)⟩
        refine wpAnyH_take (i := 0) (v := ?_) rfl (by kernel_rfl) (by kernel_rfl) (by kernel_rfl) (fun _ _ _ h => h) (Or.inl ⟨by rfl, ?_⟩) (by assumption) ?_
        rotate_left
        · intro w hSw; (try dsimp only at hSw); go_simp; with_reducible rfl
        try simp only [Act.put, List.getElem_toArray, List.getElem_cons_zero, List.getElem_cons_succ, List.setIfInBounds_toArray, List.set_cons_zero, List.set_cons_succ]
        refine wpAnyH_ready (rs := [1]) (by kernel_rfl) (by simp) ?_
        refine AllReadyH.cons rfl (fun K hK => ?_) AllReadyH.nil
        go_simp
        ((go_at_call 113; (with_reducible refine (HI1.out _ _ HAT1.out).mono ?_); rintro e w2 ⟨rfl, hb1⟩))
        refine hK.out _ _ ?_ (fun hHeld => ?_)
        · (rw [hb1.cell (p := ⟨wr.heap.size, 0, none⟩) (by simp), hb1.cell (p := ⟨wr.heap.size, 1, none⟩) (by simp), hb1.cell (p := ⟨wr.heap.size, 2, none⟩) (by simp), hb1.cell (p := ⟨wr.heap.size, 3, none⟩) (by simp), hb1.cell (p := ⟨wr.heap.size, 4, none⟩) (by simp)]; first | assumption | (simp; done))
        clear hK K
        try simp only [Act.put, List.getElem_toArray, List.getElem_cons_zero, List.getElem_cons_succ, List.setIfInBounds_toArray, List.set_cons_zero, List.set_cons_succ]
        refine wpAnyH_take (i := 2) (v := ?_) rfl (by kernel_rfl) (by kernel_rfl) (by kernel_rfl) (fun _ _ _ h => h) (Or.inl ⟨by rfl, ?_⟩) (by assumption) ?_
        rotate_left
        · intro w hSw; (try dsimp only at hSw); go_simp; with_reducible rfl
        try simp only [Act.put, List.getElem_toArray, List.getElem_cons_zero, List.getElem_cons_succ, List.setIfInBounds_toArray, List.set_cons_zero, List.set_cons_succ]
        refine wpAnyH_take (i := 3) (v := ?_) rfl (by kernel_rfl) (by kernel_rfl) (by kernel_rfl) (fun _ _ _ h => h) (Or.inl ⟨by rfl, ?_⟩) (by assumption) ?_
        rotate_left
        · intro w hSw; (try dsimp only at hSw); go_simp; with_reducible rfl
        try simp only [Act.put, List.getElem_toArray, List.getElem_cons_zero, List.getElem_cons_succ, List.setIfInBounds_toArray, List.set_cons_zero, List.set_cons_succ]
        refine wpAnyH_take (i := 4) (v := undef) rfl (by kernel_rfl) (by kernel_rfl) (by kernel_rfl) (fun _ _ _ h => h) (Or.inr ⟨by rfl, rfl⟩) (by assumption) ?_
        try simp only [Act.put, List.getElem_toArray, List.getElem_cons_zero, List.getElem_cons_succ, List.setIfInBounds_toArray, List.set_cons_zero, List.set_cons_succ]
        refine wpAnyH_take (i := 5) (v := undef) rfl (by kernel_rfl) (by kernel_rfl) (by kernel_rfl) (fun _ _ _ h => h) (Or.inr ⟨by rfl, rfl⟩) (by assumption) ?_
        try simp only [Act.put, List.getElem_toArray, List.getElem_cons_zero, List.getElem_cons_succ, List.setIfInBounds_toArray, List.set_cons_zero, List.set_cons_succ]
        refine wpAnyH_take (i := 6) (v := undef) rfl (by kernel_rfl) (by kernel_rfl) (by kernel_rfl) (fun _ _ _ h => h) (Or.inr ⟨by rfl, rfl⟩) (by assumption) ?_
        try simp only [Act.put, List.getElem_toArray, List.getElem_cons_zero, List.getElem_cons_succ, List.setIfInBounds_toArray, List.set_cons_zero, List.set_cons_succ]
        refine wpAnyH_take (i := 7) (v := undef) rfl (by kernel_rfl) (by kernel_rfl) (by kernel_rfl) (fun _ _ _ h => h) (Or.inr ⟨by rfl, rfl⟩) (by assumption) ?_
        try simp only [Act.put, List.getElem_toArray, List.getElem_cons_zero, List.getElem_cons_succ, List.setIfInBounds_toArray, List.set_cons_zero, List.set_cons_succ]
        refine wpAnyH_take (i := 8) (v := undef) rfl (by kernel_rfl) (by kernel_rfl) (by kernel_rfl) (fun _ _ _ h => h) (Or.inr ⟨by rfl, rfl⟩) (by assumption) ?_
        try simp only [Act.put, List.getElem_toArray, List.getElem_cons_zero, List.getElem_cons_succ, List.setIfInBounds_toArray, List.set_cons_zero, List.set_cons_succ]
        refine wpAnyH_take (i := 9) (v := undef) rfl (by kernel_rfl) (by kernel_rfl) (by kernel_rfl) (fun _ _ _ h => h) (Or.inr ⟨by rfl, rfl⟩) (by assumption) ?_
        try simp only [Act.put, List.getElem_toArray, List.getElem_cons_zero, List.getElem_cons_succ, List.setIfInBounds_toArray, List.set_cons_zero, List.set_cons_succ]
        refine wpAnyH_take (i := 10) (v := undef) rfl (by kernel_rfl) (by kernel_rfl) (by kernel_rfl) (fun _ _ _ h => h) (Or.inr ⟨by rfl, rfl⟩) (by assumption) ?_
        try simp only [Act.put, List.getElem_toArray, List.getElem_cons_zero, List.getElem_cons_succ, List.setIfInBounds_toArray, List.set_cons_zero, List.set_cons_succ]
        refine wpAnyH_take (i := 11) (v := undef) rfl (by kernel_rfl) (by kernel_rfl) (by kernel_rfl) (fun _ _ _ h => h) (Or.inr ⟨by rfl, rfl⟩) (by assumption) ?_
        try simp only [Act.put, List.getElem_toArray, List.getElem_cons_zero, List.getElem_cons_succ, List.setIfInBounds_toArray, List.set_cons_zero, List.set_cons_succ]
        refine wpAnyH_take (i := 12) (v := undef) rfl (by kernel_rfl) (by kernel_rfl) (by kernel_rfl) (fun _ _ _ h => h) (Or.inr ⟨by rfl, rfl⟩) (by assumption) ?_
        try simp only [Act.put, List.getElem_toArray, List.getElem_cons_zero, List.getElem_cons_succ, List.setIfInBounds_toArray, List.set_cons_zero, List.set_cons_succ]
        refine wpAnyH_take (i := 13) (v := undef) rfl (by kernel_rfl) (by kernel_rfl) (by kernel_rfl) (fun _ _ _ h => h) (Or.inr ⟨by rfl, rfl⟩) (by assumption) ?_
        try simp only [Act.put, List.getElem_toArray, List.getElem_cons_zero, List.getElem_cons_succ, List.setIfInBounds_toArray, List.set_cons_zero, List.set_cons_succ]
        refine wpAnyH_take (i := 14) (v := undef) rfl (by kernel_rfl) (by kernel_rfl) (by kernel_rfl) (fun _ _ _ h => h) (Or.inr ⟨by rfl, rfl⟩) (by assumption) ?_
        try simp only [Act.put, List.getElem_toArray, List.getElem_cons_zero, List.getElem_cons_succ, List.setIfInBounds_toArray, List.set_cons_zero, List.set_cons_succ]
        refine wpAnyH_take (i := 15) (v := undef) rfl (by kernel_rfl) (by kernel_rfl) (by kernel_rfl) (fun _ _ _ h => h) (Or.inr ⟨by rfl, rfl⟩) (by assumption) ?_
        try simp only [Act.put, List.getElem_toArray, List.getElem_cons_zero, List.getElem_cons_succ, List.setIfInBounds_toArray, List.set_cons_zero, List.set_cons_succ]
        refine wpAnyH_take (i := 16) (v := undef) rfl (by kernel_rfl) (by kernel_rfl) (by kernel_rfl) (fun _ _ _ h => h) (Or.inr ⟨by rfl, rfl⟩) (by assumption) ?_
        try simp only [Act.put, List.getElem_toArray, List.getElem_cons_zero, List.getElem_cons_succ, List.setIfInBounds_toArray, List.set_cons_zero, List.set_cons_succ]
        refine wpAnyH_take (i := 17) (v := ?_) rfl (by kernel_rfl) (by kernel_rfl) (by kernel_rfl) (fun _ _ _ h => h) (Or.inl ⟨by rfl, ?_⟩) (by assumption) ?_
        rotate_left
        · intro w hSw; (try dsimp only at hSw); go_simp; with_reducible rfl
        try simp only [Act.put, List.getElem_toArray, List.getElem_cons_zero, List.getElem_cons_succ, List.setIfInBounds_toArray, List.set_cons_zero, List.set_cons_succ]
        refine wpAnyH_done (by kernel_rfl) ?_ _
        have HB2 := Lib.hid (belS (bel_drR HBN.out) hb1)
        go_wp2_with fail
        go_ret
        exact ⟨rfl, HB2.out⟩
      by_cases hk0 : k = 0
      · subst hk0
        simp only [Nat.zero_mul, Nat.add_zero] at d0 d1 d2 d3 d4
        have HR3 := Lib.hid (show res = (regGo (prv l (0 + 1)) (l.drop (0 + 1)) && lo) by rw [HRS2.out]; rfl)
        clear HRS2
        go_wp2_with fail
        refine wp_region_held_drew (S := (fun w' => w'.cell? ⟨wr.heap.size, 0, none⟩ = some (.string ⟨a0.toArray⟩) ∧ w'.cell? ⟨wr.heap.size, 1, none⟩ = some (.slice ra a1.length rc) ∧ w'.cell? ⟨wr.heap.size, 2, none⟩ = some (.int .i64 a2) ∧ w'.cell? ⟨wr.heap.size, 3, none⟩ = some (.int .i64 a3) ∧ w'.cell? ⟨wr.heap.size, 4, none⟩ = some (.slice sa l2.length sc))) (by kernel_rfl) ?_ (fun hHeld => ?_)
        · exact ⟨BE.out.cell 0 (by simp), BE.out.cell 1 (by simp), BE.out.cell 2 (by simp), BE.out.cell 3 (by simp), BE.out.cell 4 (by simp)⟩
        refine wpAnyH_take (i := 0) (v := ?_) rfl (by kernel_rfl) (by kernel_rfl) (by kernel_rfl) (fun _ _ _ h => h) (Or.inl ⟨by rfl, ?_⟩) (by assumption) ?_
        rotate_left
        · intro w hSw; (try dsimp only at hSw); go_simp; with_reducible rfl
        try simp only [Act.put, List.getElem_toArray, List.getElem_cons_zero, List.getElem_cons_succ, List.setIfInBounds_toArray, List.set_cons_zero, List.set_cons_succ]
        refine wpAnyH_ready (rs := [1]) (by kernel_rfl) (by simp) ?_
        refine AllReadyH.cons rfl (fun K hK => ?_) AllReadyH.nil
        go_simp
        ((go_at_call 113; (with_reducible refine (HI1.out _ _ HAT1.out).mono ?_); rintro e w2 ⟨rfl, hb1⟩))
        refine hK.out _ _ ?_ (fun hHeld => ?_)
        · (rw [hb1.cell (p := ⟨wr.heap.size, 0, none⟩) (by simp), hb1.cell (p := ⟨wr.heap.size, 1, none⟩) (by simp), hb1.cell (p := ⟨wr.heap.size, 2, none⟩) (by simp), hb1.cell (p := ⟨wr.heap.size, 3, none⟩) (by simp), hb1.cell (p := ⟨wr.heap.size, 4, none⟩) (by simp)]; first | assumption | (simp; done))
        clear hK K
        try simp only [Act.put, List.getElem_toArray, List.getElem_cons_zero, List.getElem_cons_succ, List.setIfInBounds_toArray, List.set_cons_zero, List.set_cons_succ]
        refine wpAnyH_take (i := 2) (v := ?_) rfl (by kernel_rfl) (by kernel_rfl) (by kernel_rfl) (fun _ _ _ h => h) (Or.inl ⟨by rfl, ?_⟩) (by assumption) ?_
        rotate_left
        · intro w hSw; (try dsimp only at hSw); go_simp; with_reducible rfl
        try simp only [Act.put, List.getElem_toArray, List.getElem_cons_zero, List.getElem_cons_succ, List.setIfInBounds_toArray, List.set_cons_zero, List.set_cons_succ]
        refine wpAnyH_take (i := 3) (v := ?_) rfl (by kernel_rfl) (by kernel_rfl) (by kernel_rfl) (fun _ _ _ h => h) (Or.inl ⟨by rfl, ?_⟩) (by assumption) ?_
        rotate_left
        · intro w hSw; (try dsimp only at hSw); go_simp; with_reducible rfl
        try simp only [Act.put, List.getElem_toArray, List.getElem_cons_zero, List.getElem_cons_succ, List.setIfInBounds_toArray, List.set_cons_zero, List.set_cons_succ]
        refine wpAnyH_take (i := 4) (v := ?_) rfl (by kernel_rfl) (by kernel_rfl) (by kernel_rfl) (fun _ _ _ h => h) (Or.inl ⟨by rfl, ?_⟩) (by assumption) ?_
        rotate_left
        · intro w hSw; (try dsimp only at hSw); go_simp; with_reducible rfl
        try simp only [Act.put, List.getElem_toArray, List.getElem_cons_zero, List.getElem_cons_succ, List.setIfInBounds_toArray, List.set_cons_zero, List.set_cons_succ]
        refine wpAnyH_take (i := 5) (v := ?_) rfl (by kernel_rfl) (by kernel_rfl) (by kernel_rfl) (fun _ _ _ h => h) (Or.inl ⟨by rfl, ?_⟩) (by assumption) ?_
        rotate_left
        · intro w hSw; (try dsimp only at hSw); go_simp; with_reducible rfl
        try simp only [Act.put, List.getElem_toArray, List.getElem_cons_zero, List.getElem_cons_succ, List.setIfInBounds_toArray, List.set_cons_zero, List.set_cons_succ]
        refine wpAnyH_take (i := 6) (v := ?_) rfl (by kernel_rfl) (by kernel_rfl) (by kernel_rfl) (fun _ _ _ h => h) (Or.inl ⟨by rfl, ?_⟩) (by assumption) ?_
        rotate_left
        · intro w hSw; (try dsimp only at hSw); go_simp; with_reducible rfl
        try simp only [Act.put, List.getElem_toArray, List.getElem_cons_zero, List.getElem_cons_succ, List.setIfInBounds_toArray, List.set_cons_zero, List.set_cons_succ]
        refine wpAnyH_take (i := 7) (v := undef) rfl (by kernel_rfl) (by kernel_rfl) (by kernel_rfl) (fun _ _ _ h => h) (Or.inr ⟨by rfl, rfl⟩) (by assumption) ?_
        try simp only [Act.put, List.getElem_toArray, List.getElem_cons_zero, List.getElem_cons_succ, List.setIfInBounds_toArray, List.set_cons_zero, List.set_cons_succ]
        refine wpAnyH_take (i := 8) (v := undef) rfl (by kernel_rfl) (by kernel_rfl) (by kernel_rfl) (fun _ _ _ h => h) (Or.inr ⟨by rfl, rfl⟩) (by assumption) ?_
        try simp only [Act.put, List.getElem_toArray, List.getElem_cons_zero, List.getElem_cons_succ, List.setIfInBounds_toArray, List.set_cons_zero, List.set_cons_succ]
        refine wpAnyH_take (i := 9) (v := undef) rfl (by kernel_rfl) (by kernel_rfl) (by kernel_rfl) (fun _ _ _ h => h) (Or.inr ⟨by rfl, rfl⟩) (by assumption) ?_
        try simp only [Act.put, List.getElem_toArray, List.getElem_cons_zero, List.getElem_cons_succ, List.setIfInBounds_toArray, List.set_cons_zero, List.set_cons_succ]
        refine wpAnyH_take (i := 10) (v := undef) rfl (by kernel_rfl) (by kernel_rfl) (by kernel_rfl) (fun _ _ _ h => h) (Or.inr ⟨by rfl, rfl⟩) (by assumption) ?_
        try simp only [Act.put, List.getElem_toArray, List.getElem_cons_zero, List.getElem_cons_succ, List.setIfInBounds_toArray, List.set_cons_zero, List.set_cons_succ]
        refine wpAnyH_take (i := 11) (v := undef) rfl (by kernel_rfl) (by kernel_rfl) (by kernel_rfl) (fun _ _ _ h => h) (Or.inr ⟨by rfl, rfl⟩) (by assumption) ?_
        try simp only [Act.put, List.getElem_toArray, List.getElem_cons_zero, List.getElem_cons_succ, List.setIfInBounds_toArray, List.set_cons_zero, List.set_cons_succ]
        refine wpAnyH_take (i := 12) (v := undef) rfl (by kernel_rfl) (by kernel_rfl) (by kernel_rfl) (fun _ _ _ h => h) (Or.inr ⟨by rfl, rfl⟩) (by assumption) ?_
        try simp only [Act.put, List.getElem_toArray, List.getElem_cons_zero, List.getElem_cons_succ, List.setIfInBounds_toArray, List.set_cons_zero, List.set_cons_succ]
        refine wpAnyH_take (i := 13) (v := undef) rfl (by kernel_rfl) (by kernel_rfl) (by kernel_rfl) (fun _ _ _ h => h) (Or.inr ⟨by rfl, rfl⟩) (by assumption) ?_
        try simp only [Act.put, List.getElem_toArray, List.getElem_cons_zero, List.getElem_cons_succ, List.setIfInBounds_toArray, List.set_cons_zero, List.set_cons_succ]
        refine wpAnyH_take (i := 14) (v := undef) rfl (by kernel_rfl) (by kernel_rfl) (by kernel_rfl) (fun _ _ _ h => h) (Or.inr ⟨by rfl, rfl⟩) (by assumption) ?_
        try simp only [Act.put, List.getElem_toArray, List.getElem_cons_zero, List.getElem_cons_succ, List.setIfInBounds_toArray, List.set_cons_zero, List.set_cons_succ]
        refine wpAnyH_take (i := 15) (v := undef) rfl (by kernel_rfl) (by kernel_rfl) (by kernel_rfl) (fun _ _ _ h => h) (Or.inr ⟨by rfl, rfl⟩) (by assumption) ?_
        try simp only [Act.put, List.getElem_toArray, List.getElem_cons_zero, List.getElem_cons_succ, List.setIfInBounds_toArray, List.set_cons_zero, List.set_cons_succ]
        refine wpAnyH_take (i := 16) (v := ?_) rfl (by kernel_rfl) (by kernel_rfl) (by kernel_rfl) (fun _ _ _ h => h) (Or.inl ⟨by rfl, ?_⟩) (by assumption) ?_
        rotate_left
        · intro w hSw; (try dsimp only at hSw); go_simp; with_reducible rfl
        try simp only [Act.put, List.getElem_toArray, List.getElem_cons_zero, List.getElem_cons_succ, List.setIfInBounds_toArray, List.set_cons_zero, List.set_cons_succ]
        refine wpAnyH_take (i := 17) (v := ?_) rfl (by kernel_rfl) (by kernel_rfl) (by kernel_rfl) (fun _ _ _ h => h) (Or.inl ⟨by rfl, ?_⟩) (by assumption) ?_
        rotate_left
        · intro w hSw; (try dsimp only at hSw); go_simp; with_reducible rfl
        try simp only [Act.put, List.getElem_toArray, List.getElem_cons_zero, List.getElem_cons_succ, List.setIfInBounds_toArray, List.set_cons_zero, List.set_cons_succ]
        refine wpAnyH_done (by kernel_rfl) ?_ _
        have HB2 := Lib.hid (belS (bel_drR HBN.out) hb1)
        go_wp2_with fail
        exact ⟨⟨0 + 1, by omega, by go_num, HR3.out, HB2.out⟩, by simp [intOf]; omega⟩
      obtain ⟨j, rfl⟩ : ∃ j, k = j + 1 := ⟨k - 1, by omega⟩
      have hjx : j < l.length := by omega
      obtain ⟨b2, o2, cs2, e2, hbw2, hat2, hd2⟩ := sliceAt_cell HXr.out j hjx
      injection e2 with e2
      injection e2 with e2 e3
      subst e2 e3
      have HPJ := Lib.hid (prv_succ hjx)
      have p0 := hd2 0 (by decide)
      obtain ⟨v1', v4', rfl, _, _⟩ := hat2
      simp only [List.getElem?_cons_zero, Nat.add_zero] at p0
      generalize (l[j]).fName = n1 at *
      rw [HPJ.out] at HRS2
      have hwr : IntKind.i64.wrap ((j : Int) + 1 - 1) = (j : Int) := by rw [Int.add_sub_cancel]; exact IntWalk.i64_in _ (by omega)
      have hwr2 : IntKind.i64.wrap (j : Int) = (j : Int) := IntWalk.i64_in _ (by omega)
      have h0j : (0 : Int) ≤ (j : Int) := by omega
      have hjl : (j : Int) < (l.length : Int) := by omega
      have hj1 : (0 : Int) < (j : Int) + 1 := by omega
      clear hd2 HPJ
      cases hlt2 : decide (n1 < a0)
      · have hx1 : Op.bytesLess n1 a0 = false := by rw [Proofs.bytesLess_eq]; exact hlt2
        obtain rfl : res = false := by rw [HRS2.out]; simp [ltO, hlt2]
        clear HRS2 hlt2
        go_wp2_with fail
        refine wp_region_held_drew (S := (fun w' => w'.cell? ⟨wr.heap.size, 0, none⟩ = some (.string ⟨a0.toArray⟩) ∧ w'.cell? ⟨wr.heap.size, 1, none⟩ = some (.slice ra a1.length rc) ∧ w'.cell? ⟨wr.heap.size, 2, none⟩ = some (.int .i64 a2) ∧ w'.cell? ⟨wr.heap.size, 3, none⟩ = some (.int .i64 a3) ∧ w'.cell? ⟨wr.heap.size, 4, none⟩ = some (.slice sa l2.length sc) ∧ w'.cell? ⟨b, o + j * 5, none⟩ = some (.string ⟨n1.toArray⟩))) (by kernel_rfl) ?_ (fun hHeld => ?_)
        · exact ⟨BE.out.cell 0 (by simp), BE.out.cell 1 (by simp), BE.out.cell 2 (by simp), BE.out.cell 3 (by simp), BE.out.cell 4 (by simp), (allocR hbw p0)⟩
        refine wpAnyH_take (i := 0) (v := ?_) rfl (by kernel_rfl) (by kernel_rfl) (by kernel_rfl) (fun _ _ _ h => h) (Or.inl ⟨by rfl, ?_⟩) (by assumption) ?_
        rotate_left
        · intro w hSw; (try dsimp only at hSw); go_simp; with_reducible rfl
        try simp only [Act.put, List.getElem_toArray, List.getElem_cons_zero, List.getElem_cons_succ, List.setIfInBounds_toArray, List.set_cons_zero, List.set_cons_succ]
        refine wpAnyH_ready (rs := [1]) (by kernel_rfl) (by simp) ?_
        refine AllReadyH.cons rfl (fun K hK => ?_) AllReadyH.nil
        go_simp
        ((go_at_call 113; (with_reducible refine (HI1.out _ _ HAT1.out).mono ?_); rintro e w2 ⟨rfl, hb1⟩))
        refine hK.out _ _ ?_ (fun hHeld => ?_)
        · (rw [hb1.cell (p := ⟨wr.heap.size, 0, none⟩) (by simp), hb1.cell (p := ⟨wr.heap.size, 1, none⟩) (by simp), hb1.cell (p := ⟨wr.heap.size, 2, none⟩) (by simp), hb1.cell (p := ⟨wr.heap.size, 3, none⟩) (by simp), hb1.cell (p := ⟨wr.heap.size, 4, none⟩) (by simp), hb1.cell (p := ⟨b, o + j * 5, none⟩) (by simp; omega)]; first | assumption | (simp; done))
        clear hK K
        try simp only [Act.put, List.getElem_toArray, List.getElem_cons_zero, List.getElem_cons_succ, List.setIfInBounds_toArray, List.set_cons_zero, List.set_cons_succ]
        refine wpAnyH_take (i := 2) (v := ?_) rfl (by kernel_rfl) (by kernel_rfl) (by kernel_rfl) (fun _ _ _ h => h) (Or.inl ⟨by rfl, ?_⟩) (by assumption) ?_
        rotate_left
        · intro w hSw; (try dsimp only at hSw); go_simp; with_reducible rfl
        try simp only [Act.put, List.getElem_toArray, List.getElem_cons_zero, List.getElem_cons_succ, List.setIfInBounds_toArray, List.set_cons_zero, List.set_cons_succ]
        refine wpAnyH_take (i := 3) (v := ?_) rfl (by kernel_rfl) (by kernel_rfl) (by kernel_rfl) (fun _ _ _ h => h) (Or.inl ⟨by rfl, ?_⟩) (by assumption) ?_
        rotate_left
        · intro w hSw; (try dsimp only at hSw); go_simp; with_reducible rfl
        try simp only [Act.put, List.getElem_toArray, List.getElem_cons_zero, List.getElem_cons_succ, List.setIfInBounds_toArray, List.set_cons_zero, List.set_cons_succ]
        refine wpAnyH_take (i := 4) (v := ?_) rfl (by kernel_rfl) (by kernel_rfl) (by kernel_rfl) (fun _ _ _ h => h) (Or.inl ⟨by rfl, ?_⟩) (by assumption) ?_
        rotate_left
        · intro w hSw; (try dsimp only at hSw); go_simp; with_reducible rfl
        try simp only [Act.put, List.getElem_toArray, List.getElem_cons_zero, List.getElem_cons_succ, List.setIfInBounds_toArray, List.set_cons_zero, List.set_cons_succ]
        refine wpAnyH_take (i := 5) (v := ?_) rfl (by kernel_rfl) (by kernel_rfl) (by kernel_rfl) (fun _ _ _ h => h) (Or.inl ⟨by rfl, ?_⟩) (by assumption) ?_
        rotate_left
        · intro w hSw; (try dsimp only at hSw); go_simp; with_reducible rfl
        try simp only [Act.put, List.getElem_toArray, List.getElem_cons_zero, List.getElem_cons_succ, List.setIfInBounds_toArray, List.set_cons_zero, List.set_cons_succ]
        refine wpAnyH_take (i := 6) (v := ?_) rfl (by kernel_rfl) (by kernel_rfl) (by kernel_rfl) (fun _ _ _ h => h) (Or.inl ⟨by rfl, ?_⟩) (by assumption) ?_
        rotate_left
        · intro w hSw; (try dsimp only at hSw); go_simp; with_reducible rfl
        try simp only [Act.put, List.getElem_toArray, List.getElem_cons_zero, List.getElem_cons_succ, List.setIfInBounds_toArray, List.set_cons_zero, List.set_cons_succ]
        refine wpAnyH_take (i := 7) (v := ?_) rfl (by kernel_rfl) (by kernel_rfl) (by kernel_rfl) (fun _ _ _ h => h) (Or.inl ⟨by rfl, ?_⟩) (by assumption) ?_
        rotate_left
        · intro w hSw; (try dsimp only at hSw); go_simp; with_reducible rfl
        try simp only [Act.put, List.getElem_toArray, List.getElem_cons_zero, List.getElem_cons_succ, List.setIfInBounds_toArray, List.set_cons_zero, List.set_cons_succ]
        refine wpAnyH_take (i := 8) (v := ?_) rfl (by kernel_rfl) (by kernel_rfl) (by kernel_rfl) (fun _ _ _ h => h) (Or.inl ⟨by rfl, ?_⟩) (by assumption) ?_
        rotate_left
        · intro w hSw; (try dsimp only at hSw); go_simp; with_reducible rfl
        try simp only [Act.put, List.getElem_toArray, List.getElem_cons_zero, List.getElem_cons_succ, List.setIfInBounds_toArray, List.set_cons_zero, List.set_cons_succ]
        refine wpAnyH_take (i := 9) (v := ?_) rfl (by kernel_rfl) (by kernel_rfl) (by kernel_rfl) (fun _ _ _ h => h) (Or.inl ⟨by rfl, ?_⟩) (by assumption) ?_
        rotate_left
        · intro w hSw; (try dsimp only at hSw); go_simp; with_reducible rfl
        try simp only [Act.put, List.getElem_toArray, List.getElem_cons_zero, List.getElem_cons_succ, List.setIfInBounds_toArray, List.set_cons_zero, List.set_cons_succ]
        refine wpAnyH_take (i := 10) (v := ?_) rfl (by kernel_rfl) (by kernel_rfl) (by kernel_rfl) (fun _ _ _ h => h) (Or.inl ⟨by rfl, ?_⟩) (by assumption) ?_
        rotate_left
        · intro w hSw; (try dsimp only at hSw); go_simp; with_reducible rfl
        try simp only [Act.put, List.getElem_toArray, List.getElem_cons_zero, List.getElem_cons_succ, List.setIfInBounds_toArray, List.set_cons_zero, List.set_cons_succ]
        refine wpAnyH_take (i := 11) (v := ?_) rfl (by kernel_rfl) (by kernel_rfl) (by kernel_rfl) (fun _ _ _ h => h) (Or.inl ⟨by rfl, ?_⟩) (by assumption) ?_
        rotate_left
        · intro w hSw; (try dsimp only at hSw); go_simp; with_reducible rfl
        try simp only [Act.put, List.getElem_toArray, List.getElem_cons_zero, List.getElem_cons_succ, List.setIfInBounds_toArray, List.set_cons_zero, List.set_cons_succ]
        refine wpAnyH_take (i := 12) (v := ?_) rfl (by kernel_rfl) (by kernel_rfl) (by kernel_rfl) (fun _ _ _ h => h) (Or.inl ⟨by rfl, ?_⟩) (by assumption) ?_
        rotate_left
        · intro w hSw; (try dsimp only at hSw); go_simp; with_reducible rfl
        try simp only [Act.put, List.getElem_toArray, List.getElem_cons_zero, List.getElem_cons_succ, List.setIfInBounds_toArray, List.set_cons_zero, List.set_cons_succ]
        refine wpAnyH_take (i := 13) (v := ?_) rfl (by kernel_rfl) (by kernel_rfl) (by kernel_rfl) (fun _ _ _ h => h) (Or.inl ⟨by rfl, ?_⟩) (by assumption) ?_
        rotate_left
        · intro w hSw; (try dsimp only at hSw); go_simp; with_reducible rfl
        try simp only [Act.put, List.getElem_toArray, List.getElem_cons_zero, List.getElem_cons_succ, List.setIfInBounds_toArray, List.set_cons_zero, List.set_cons_succ]
        refine wpAnyH_take (i := 14) (v := ?_) rfl (by kernel_rfl) (by kernel_rfl) (by kernel_rfl) (fun _ _ _ h => h) (Or.inl ⟨by rfl, ?_⟩) (by assumption) ?_
        rotate_left
        · intro w hSw; (try dsimp only at hSw); go_simp; with_reducible rfl
        try simp only [Act.put, List.getElem_toArray, List.getElem_cons_zero, List.getElem_cons_succ, List.setIfInBounds_toArray, List.set_cons_zero, List.set_cons_succ]
        refine wpAnyH_take (i := 15) (v := ?_) rfl (by kernel_rfl) (by kernel_rfl) (by kernel_rfl) (fun _ _ _ h => h) (Or.inl ⟨by rfl, ?_⟩) (by assumption) ?_
        rotate_left
        · intro w hSw; (try dsimp only at hSw); go_simp; with_reducible rfl
        try simp only [Act.put, List.getElem_toArray, List.getElem_cons_zero, List.getElem_cons_succ, List.setIfInBounds_toArray, List.set_cons_zero, List.set_cons_succ]
        refine wpAnyH_take (i := 16) (v := ?_) rfl (by kernel_rfl) (by kernel_rfl) (by kernel_rfl) (fun _ _ _ h => h) (Or.inl ⟨by rfl, ?_⟩) (by assumption) ?_
        rotate_left
        · intro w hSw; (try dsimp only at hSw); go_simp; with_reducible rfl
        try simp only [Act.put, List.getElem_toArray, List.getElem_cons_zero, List.getElem_cons_succ, List.setIfInBounds_toArray, List.set_cons_zero, List.set_cons_succ]
        refine wpAnyH_take (i := 17) (v := ?_) rfl (by kernel_rfl) (by kernel_rfl) (by kernel_rfl) (fun _ _ _ h => h) (Or.inl ⟨by rfl, ?_⟩) (by assumption) ?_
        rotate_left
        · intro w hSw; (try dsimp only at hSw); go_simp; with_reducible rfl
        try simp only [Act.put, List.getElem_toArray, List.getElem_cons_zero, List.getElem_cons_succ, List.setIfInBounds_toArray, List.set_cons_zero, List.set_cons_succ]
        refine wpAnyH_done (by kernel_rfl) ?_ _
        have HB2 := Lib.hid (belS (bel_drR HBN.out) hb1)
        go_wp2_with fail
        go_ret
        exact ⟨rfl, HB2.out⟩
      · have hx1 : Op.bytesLess n1 a0 = true := by rw [Proofs.bytesLess_eq]; exact hlt2
        have HR3 := Lib.hid (show res = (regGo (prv l (j + 1 + 1)) (l.drop (j + 1 + 1)) && lo) by rw [HRS2.out]; simp [ltO, hlt2])
        clear HRS2 hlt2
        go_wp2_with fail
        refine wp_region_held_drew (S := (fun w' => w'.cell? ⟨wr.heap.size, 0, none⟩ = some (.string ⟨a0.toArray⟩) ∧ w'.cell? ⟨wr.heap.size, 1, none⟩ = some (.slice ra a1.length rc) ∧ w'.cell? ⟨wr.heap.size, 2, none⟩ = some (.int .i64 a2) ∧ w'.cell? ⟨wr.heap.size, 3, none⟩ = some (.int .i64 a3) ∧ w'.cell? ⟨wr.heap.size, 4, none⟩ = some (.slice sa l2.length sc) ∧ w'.cell? ⟨b, o + j * 5, none⟩ = some (.string ⟨n1.toArray⟩))) (by kernel_rfl) ?_ (fun hHeld => ?_)
        · exact ⟨BE.out.cell 0 (by simp), BE.out.cell 1 (by simp), BE.out.cell 2 (by simp), BE.out.cell 3 (by simp), BE.out.cell 4 (by simp), (allocR hbw p0)⟩
        refine wpAnyH_take (i := 0) (v := ?_) rfl (by kernel_rfl) (by kernel_rfl) (by kernel_rfl) (fun _ _ _ h => h) (Or.inl ⟨by rfl, ?_⟩) (by assumption) ?_
        rotate_left
        · intro w hSw; (try dsimp only at hSw); go_simp; with_reducible rfl
        try simp only [Act.put, List.getElem_toArray, List.getElem_cons_zero, List.getElem_cons_succ, List.setIfInBounds_toArray, List.set_cons_zero, List.set_cons_succ]
        refine wpAnyH_ready (rs := [1]) (by kernel_rfl) (by simp) ?_
        refine AllReadyH.cons rfl (fun K hK => ?_) AllReadyH.nil
        go_simp
        ((go_at_call 113; (with_reducible refine (HI1.out _ _ HAT1.out).mono ?_); rintro e w2 ⟨rfl, hb1⟩))
        refine hK.out _ _ ?_ (fun hHeld => ?_)
        · (rw [hb1.cell (p := ⟨wr.heap.size, 0, none⟩) (by simp), hb1.cell (p := ⟨wr.heap.size, 1, none⟩) (by simp), hb1.cell (p := ⟨wr.heap.size, 2, none⟩) (by simp), hb1.cell (p := ⟨wr.heap.size, 3, none⟩) (by simp), hb1.cell (p := ⟨wr.heap.size, 4, none⟩) (by simp), hb1.cell (p := ⟨b, o + j * 5, none⟩) (by simp; omega)]; first | assumption | (simp; done))
        clear hK K
        try simp only [Act.put, List.getElem_toArray, List.getElem_cons_zero, List.getElem_cons_succ, List.setIfInBounds_toArray, List.set_cons_zero, List.set_cons_succ]
        refine wpAnyH_take (i := 2) (v := ?_) rfl (by kernel_rfl) (by kernel_rfl) (by kernel_rfl) (fun _ _ _ h => h) (Or.inl ⟨by rfl, ?_⟩) (by assumption) ?_
        rotate_left
        · intro w hSw; (try dsimp only at hSw); go_simp; with_reducible rfl
        try simp only [Act.put, List.getElem_toArray, List.getElem_cons_zero, List.getElem_cons_succ, List.setIfInBounds_toArray, List.set_cons_zero, List.set_cons_succ]
        refine wpAnyH_take (i := 3) (v := ?_) rfl (by kernel_rfl) (by kernel_rfl) (by kernel_rfl) (fun _ _ _ h => h) (Or.inl ⟨by rfl, ?_⟩) (by assumption) ?_
        rotate_left
        · intro w hSw; (try dsimp only at hSw); go_simp; with_reducible rfl
        try simp only [Act.put, List.getElem_toArray, List.getElem_cons_zero, List.getElem_cons_succ, List.setIfInBounds_toArray, List.set_cons_zero, List.set_cons_succ]
        refine wpAnyH_take (i := 4) (v := ?_) rfl (by kernel_rfl) (by kernel_rfl) (by kernel_rfl) (fun _ _ _ h => h) (Or.inl ⟨by rfl, ?_⟩) (by assumption) ?_
        rotate_left
        · intro w hSw; (try dsimp only at hSw); go_simp; with_reducible rfl
        try simp only [Act.put, List.getElem_toArray, List.getElem_cons_zero, List.getElem_cons_succ, List.setIfInBounds_toArray, List.set_cons_zero, List.set_cons_succ]
        refine wpAnyH_take (i := 5) (v := ?_) rfl (by kernel_rfl) (by kernel_rfl) (by kernel_rfl) (fun _ _ _ h => h) (Or.inl ⟨by rfl, ?_⟩) (by assumption) ?_
        rotate_left
        · intro w hSw; (try dsimp only at hSw); go_simp; with_reducible rfl
        try simp only [Act.put, List.getElem_toArray, List.getElem_cons_zero, List.getElem_cons_succ, List.setIfInBounds_toArray, List.set_cons_zero, List.set_cons_succ]
        refine wpAnyH_take (i := 6) (v := ?_) rfl (by kernel_rfl) (by kernel_rfl) (by kernel_rfl) (fun _ _ _ h => h) (Or.inl ⟨by rfl, ?_⟩) (by assumption) ?_
        rotate_left
        · intro w hSw; (try dsimp only at hSw); go_simp; with_reducible rfl
        try simp only [Act.put, List.getElem_toArray, List.getElem_cons_zero, List.getElem_cons_succ, List.setIfInBounds_toArray, List.set_cons_zero, List.set_cons_succ]
        refine wpAnyH_take (i := 7) (v := ?_) rfl (by kernel_rfl) (by kernel_rfl) (by kernel_rfl) (fun _ _ _ h => h) (Or.inl ⟨by rfl, ?_⟩) (by assumption) ?_
        rotate_left
        · intro w hSw; (try dsimp only at hSw); go_simp; with_reducible rfl
        try simp only [Act.put, List.getElem_toArray, List.getElem_cons_zero, List.getElem_cons_succ, List.setIfInBounds_toArray, List.set_cons_zero, List.set_cons_succ]
        refine wpAnyH_take (i := 8) (v := ?_) rfl (by kernel_rfl) (by kernel_rfl) (by kernel_rfl) (fun _ _ _ h => h) (Or.inl ⟨by rfl, ?_⟩) (by assumption) ?_
        rotate_left
        · intro w hSw; (try dsimp only at hSw); go_simp; with_reducible rfl
        try simp only [Act.put, List.getElem_toArray, List.getElem_cons_zero, List.getElem_cons_succ, List.setIfInBounds_toArray, List.set_cons_zero, List.set_cons_succ]
        refine wpAnyH_take (i := 9) (v := ?_) rfl (by kernel_rfl) (by kernel_rfl) (by kernel_rfl) (fun _ _ _ h => h) (Or.inl ⟨by rfl, ?_⟩) (by assumption) ?_
        rotate_left
        · intro w hSw; (try dsimp only at hSw); go_simp; with_reducible rfl
        try simp only [Act.put, List.getElem_toArray, List.getElem_cons_zero, List.getElem_cons_succ, List.setIfInBounds_toArray, List.set_cons_zero, List.set_cons_succ]
        refine wpAnyH_take (i := 10) (v := ?_) rfl (by kernel_rfl) (by kernel_rfl) (by kernel_rfl) (fun _ _ _ h => h) (Or.inl ⟨by rfl, ?_⟩) (by assumption) ?_
        rotate_left
        · intro w hSw; (try dsimp only at hSw); go_simp; with_reducible rfl
        try simp only [Act.put, List.getElem_toArray, List.getElem_cons_zero, List.getElem_cons_succ, List.setIfInBounds_toArray, List.set_cons_zero, List.set_cons_succ]
        refine wpAnyH_take (i := 11) (v := ?_) rfl (by kernel_rfl) (by kernel_rfl) (by kernel_rfl) (fun _ _ _ h => h) (Or.inl ⟨by rfl, ?_⟩) (by assumption) ?_
        rotate_left
        · intro w hSw; (try dsimp only at hSw); go_simp; with_reducible rfl
        try simp only [Act.put, List.getElem_toArray, List.getElem_cons_zero, List.getElem_cons_succ, List.setIfInBounds_toArray, List.set_cons_zero, List.set_cons_succ]
        refine wpAnyH_take (i := 12) (v := ?_) rfl (by kernel_rfl) (by kernel_rfl) (by kernel_rfl) (fun _ _ _ h => h) (Or.inl ⟨by rfl, ?_⟩) (by assumption) ?_
        rotate_left
        · intro w hSw; (try dsimp only at hSw); go_simp; with_reducible rfl
        try simp only [Act.put, List.getElem_toArray, List.getElem_cons_zero, List.getElem_cons_succ, List.setIfInBounds_toArray, List.set_cons_zero, List.set_cons_succ]
        refine wpAnyH_take (i := 13) (v := ?_) rfl (by kernel_rfl) (by kernel_rfl) (by kernel_rfl) (fun _ _ _ h => h) (Or.inl ⟨by rfl, ?_⟩) (by assumption) ?_
        rotate_left
        · intro w hSw; (try dsimp only at hSw); go_simp; with_reducible rfl
        try simp only [Act.put, List.getElem_toArray, List.getElem_cons_zero, List.getElem_cons_succ, List.setIfInBounds_toArray, List.set_cons_zero, List.set_cons_succ]
        refine wpAnyH_take (i := 14) (v := ?_) rfl (by kernel_rfl) (by kernel_rfl) (by kernel_rfl) (fun _ _ _ h => h) (Or.inl ⟨by rfl, ?_⟩) (by assumption) ?_
        rotate_left
        · intro w hSw; (try dsimp only at hSw); go_simp; with_reducible rfl
        try simp only [Act.put, List.getElem_toArray, List.getElem_cons_zero, List.getElem_cons_succ, List.setIfInBounds_toArray, List.set_cons_zero, List.set_cons_succ]
        refine wpAnyH_take (i := 15) (v := ?_) rfl (by kernel_rfl) (by kernel_rfl) (by kernel_rfl) (fun _ _ _ h => h) (Or.inl ⟨by rfl, ?_⟩) (by assumption) ?_
        rotate_left
        · intro w hSw; (try dsimp only at hSw); go_simp; with_reducible rfl
        try simp only [Act.put, List.getElem_toArray, List.getElem_cons_zero, List.getElem_cons_succ, List.setIfInBounds_toArray, List.set_cons_zero, List.set_cons_succ]
        refine wpAnyH_take (i := 16) (v := ?_) rfl (by kernel_rfl) (by kernel_rfl) (by kernel_rfl) (fun _ _ _ h => h) (Or.inl ⟨by rfl, ?_⟩) (by assumption) ?_
        rotate_left
        · intro w hSw; (try dsimp only at hSw); go_simp; with_reducible rfl
        try simp only [Act.put, List.getElem_toArray, List.getElem_cons_zero, List.getElem_cons_succ, List.setIfInBounds_toArray, List.set_cons_zero, List.set_cons_succ]
        refine wpAnyH_take (i := 17) (v := ?_) rfl (by kernel_rfl) (by kernel_rfl) (by kernel_rfl) (fun _ _ _ h => h) (Or.inl ⟨by rfl, ?_⟩) (by assumption) ?_
        rotate_left
        · intro w hSw; (try dsimp only at hSw); go_simp; with_reducible rfl
        try simp only [Act.put, List.getElem_toArray, List.getElem_cons_zero, List.getElem_cons_succ, List.setIfInBounds_toArray, List.set_cons_zero, List.set_cons_succ]
        refine wpAnyH_done (by kernel_rfl) ?_ _
        have HB2 := Lib.hid (belS (bel_drR HBN.out) hb1)
        go_wp2_with fail
        exact ⟨⟨j + 1 + 1, by omega, by go_num, HR3.out, HB2.out⟩, by simp [intOf]; omega⟩
    · have hkl : ¬ (k : Int) < (l.length : Int) := by omega
      obtain rfl : res = lo := by rw [HRS.out, List.drop_eq_nil_of_le (by omega)]; rfl
      cases res
      · have h6 : ¬ (l.length : Int) ≤ 6 := by have h := of_decide_eq_false HLO.out; omega
        go_wp2_with fail
        go_ret
        exact ⟨by first | rfl | exact ret_bool (by simp; omega), HBr.out⟩
      · have h6 : (l.length : Int) ≤ 6 := by have h := of_decide_eq_true HLO.out; omega
        go_wp2_with fail
        go_ret
        exact ⟨by first | rfl | exact ret_bool (by simp; omega), HBr.out⟩
end Go.Proofs.YteeopjcbpngofaaGreat
