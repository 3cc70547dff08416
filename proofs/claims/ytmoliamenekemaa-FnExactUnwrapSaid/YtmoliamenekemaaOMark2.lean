/- Marks of a part, and what holds them. -/
import Derived.Test.YtmoliamenekemaaOMark
namespace Go.Proofs.Ytmoliamenekemaa
set_option linter.unusedVariables false
set_option linter.unusedSimpArgs false
open Go.RowKit
theorem betw_grown {lo hi : Nat} {w w' : World} {r : Option Nat} (h : w.grownBy w' r) (hr : ∀ g, r = some g → lo ≤ g ∧ g < hi) : Betw lo hi w w' :=
  ⟨h.os, h.tape, h.output, h.size, fun k hk hd => h.block k hk (fun e => by have := hr k e.symm; omega)⟩
theorem betw_trans {lo hi : Nat} {a b c : World} (h : Betw lo hi a b) (k : Betw lo hi b c) : Betw lo hi a c :=
  ⟨k.os.trans h.os, k.tape.trans h.tape, k.output.trans h.output, Nat.le_trans h.size k.size, fun i hi hd => (k.block i (Nat.lt_of_lt_of_le hi h.size) hd).trans (h.block i hi hd)⟩
theorem betw_alloc {lo hi : Nat} (w : World) (o : Obj) : Betw lo hi w (w.alloc o) := ⟨(bx_box w o).os, (bx_box w o).tape, (bx_box w o).output, (bx_box w o).size, fun k hk _ => (bx_box w o).block k hk⟩
theorem ownR_mk {α : Type} {f : α → List Value} {E k : Nat} {w : World} {lo hi : Nat} {v : Value} {l : List α} (h : OwnsF f E k w lo v l) (h2 : ∀ g, v.ownBlock = some g → g < hi) : OwnR f E k w lo hi v l := ⟨h, h2⟩
theorem own_loP {w : World} {B : Nat} {cs : List Value} {x : PartD} (ho : oPart w B cs x) : ∃ L, L = B ∧ oPart w L cs x := ⟨B, rfl, ho⟩
theorem oPart_0 {w : World} {B : Nat} {cs : List Value} {x : PartD} (h : oPart w B cs x) (hs : SmallP x) : rPart 0 w cs x := goodPart.mono (oPart_r h hs) (Nat.zero_le _)
set_option maxRecDepth 100000 in
set_option maxHeartbeats 1600000 in
theorem markPart_o (lo hi : Nat) (cs : List Value) (x : PartD) (k : Int) (w : World) (h : OwnP w lo hi cs x) (hm : x.fCore.fCells.length ≤ 1048576) (hm2 : x.fLayers.length ≤ 1048576) (h0 : 1 ≤ k) (h1 : k ≤ 8388608) :
    Calls Try.prog 16 #[.agg cs.toArray, .int .i64 k] w fun e w' => e = .returned (.int .i64 (k + x.fCore.fCells.length * 2 + x.fLayers.length * 2)) ∧ OwnP w' lo hi cs (marksP k x) ∧ Betw lo hi w w' := by
  obtain ⟨v3, v5, rfl, h3, h5⟩ := h
  obtain ⟨⟨a0, a1, a2, a3, a4⟩, l⟩ := x
  unfold OwnP marksP
  simp only at h3 h5 hm hm2 ⊢
  obtain ⟨ra, rc, rfl⟩ := slice_of h3.1
  obtain ⟨sa, sc, rfl⟩ := slice_of h5.1
  have HA := Lib.hid (bx_box w (.cells #[.string ⟨a0.toArray⟩, .bool a1, .bool a2, .slice ra a3.length rc, .int .i64 a4, .slice sa l.length sc] 35))
  have BX := Lib.hid (Bx.new w [.string ⟨a0.toArray⟩, .bool a1, .bool a2, .slice ra a3.length rc, .int .i64 a4, .slice sa l.length sc] 35)
  have H3 := Lib.hid (ownsF_below h3.1 HA.out (Nat.le_refl _))
  have H5 := Lib.hid (ownsF_below h5.1 HA.out (Nat.le_refl _))
  have L3 := Lib.hid (fun g e => And.intro (World.ownsRow.lt h3.1 g e).1 (h3.2 g e))
  have L5 := Lib.hid (fun g e => And.intro (World.ownsRow.lt h5.1 g e).1 (h5.2 g e))
  have N3 := Lib.hid (show (Value.slice ra a3.length rc).ownBlock ≠ some w.heap.size from fun e => by have := (World.ownsRow.lt h3.1 _ e).2; omega)
  have HMC := Lib.hid (fun W (hO : OwnsF cCell 115 2 W lo (.slice ra a3.length rc) a3) => markCore_c lo (.slice ra a3.length rc) ⟨a0, a1, a2, a3, a4⟩ k W hO (by simp only; omega) h0 (by omega))
  unfold vCore at HMC
  simp only at HMC
  clear h3 h5
  have hk2 : k + (a3.length : Int) * 2 ≤ 16777216 := by omega
  have hk3 : 1 ≤ k + (a3.length : Int) * 2 := by omega
  go_enter Try.func16, Try.ntmps16
  go_wp2_with fail
  refine (HMC.out _ H3.out).mono ?_
  rintro e w1 ⟨rfl, ho, hg⟩
  have O3 := Lib.hid ho
  have O5 := Lib.hid (ownsF_keptF H5.out H3.out hg (by decide))
  have BX1 := Lib.hid (BX.out.grown hg N3.out)
  have BT := Lib.hid (betw_trans (betw_alloc w _) (betw_grown hg L3.out))
  clear ho hg
  have e5 := BX1.out.cell 5 (by simp)
  simp only [List.getElem_cons_zero, List.getElem_cons_succ] at e5
  go_wp2_with fail
  clear e5
  refine (markLayerS_any lo _ l (k + (a3.length : Int) * 2) _ O5.out (by omega) hk3 hk2).mono ?_
  rintro e w2 ⟨rfl, ho, hg⟩
  have P5 := Lib.hid ho
  have P3 := Lib.hid (ownsF_keptF O3.out O5.out hg (by decide))
  have BT2 := Lib.hid (betw_trans BT.out (betw_grown hg L5.out))
  clear ho hg
  go_wp2_with fail
  go_ret
  exact ⟨rfl, ⟨_, _, by simp, ⟨P3.out, fun g e => (L3.out g e).2⟩, ⟨P5.out, fun g e => (L5.out g e).2⟩⟩, BT2.out⟩
set_option maxRecDepth 100000 in
set_option maxHeartbeats 1600000 in
theorem heldPart_o (cs : List Value) (x : PartD) (k : Int) (w : World) (h : rPart 0 w cs (marksP k x)) (hm : x.fCore.fCells.length ≤ 1048576) (hm2 : x.fLayers.length ≤ 1048576) (h0 : 1 ≤ k) (h1 : k ≤ 8388608) :
    Calls Try.prog 17 #[.agg cs.toArray, .int .i64 k] w fun e w' => e = .returned (.int .i64 (k + x.fCore.fCells.length * 2 + x.fLayers.length * 2)) ∧ Below w.heap.size w w' := by
  obtain ⟨v3, v5, rfl, h3, h5⟩ := h
  obtain ⟨⟨a0, a1, a2, a3, a4⟩, l⟩ := x
  unfold marksP at h3 h5 ⊢
  simp only at h3 h5 hm hm2 ⊢
  obtain ⟨ra, rc, rfl, _⟩ := sliceAt_len h3
  obtain ⟨sa, sc, rfl, _⟩ := sliceAt_len h5
  have HA := Lib.hid (bx_box w (.cells #[.string ⟨a0.toArray⟩, .bool a1, .bool a2, .slice ra (marksCell k a3.length).length rc, .int .i64 a4, .slice sa (marksLayer (k + (a3.length : Int) * 2) l.length).length sc] 35))
  have BX := Lib.hid (Bx.new w [.string ⟨a0.toArray⟩, .bool a1, .bool a2, .slice ra (marksCell k a3.length).length rc, .int .i64 a4, .slice sa (marksLayer (k + (a3.length : Int) * 2) l.length).length sc] 35)
  have H5 := Lib.hid h5
  have HH := Lib.hid (fun W (hb : Below w.heap.size w W) => heldCore_any (vCore ⟨a0, a1, a2, marksCell k a3.length, a4⟩ (.slice ra (marksCell k a3.length).length rc)) ⟨a0, a1, a2, [], a4⟩ a3.length k W ⟨_, rfl, FlatAt.below (flatAt_of_slice cCell_len (by decide) h3) hb (Nat.le_refl _)⟩ (by omega) h0 (by omega))
  unfold vCore at HH
  simp only at HH
  clear h3 h5
  have hk2 : k + (a3.length : Int) * 2 ≤ 16777216 := by omega
  have hk3 : 1 ≤ k + (a3.length : Int) * 2 := by omega
  generalize (marksCell k a3.length).length = n3 at *
  have HL := Lib.hid (fun W (hb : Below w.heap.size w W) => heldLayerS_any (.slice sa (marksLayer (k + (a3.length : Int) * 2) l.length).length sc) l.length (k + (a3.length : Int) * 2) W (flatAt_of_slice cLayer_len (by decide) (SliceAt.below H5.out (good_flat cLayer_len) hb (Nat.le_refl _))) (by omega) hk3 hk2)
  generalize (marksLayer (k + (a3.length : Int) * 2) l.length).length = n5 at *
  go_enter Try.func17, Try.ntmps17
  go_wp2_with fail
  refine (HH.out _ HA.out).mono ?_
  rintro e w1 ⟨rfl, hb⟩
  have HB := Lib.hid (belS HA.out hb)
  have BX1 := Lib.hid (BX.out.below hb)
  clear hb
  have e5 := BX1.out.cell 5 (by simp)
  simp only [List.getElem_cons_zero, List.getElem_cons_succ] at e5
  go_wp2_with fail
  clear e5
  refine (HL.out _ HB.out).mono ?_
  rintro e w2 ⟨rfl, hb⟩
  have HB2 := Lib.hid (belS HB.out hb)
  clear hb
  go_wp2_with fail
  go_ret
  exact ⟨rfl, HB2.out⟩
end Go.Proofs.Ytmoliamenekemaa
