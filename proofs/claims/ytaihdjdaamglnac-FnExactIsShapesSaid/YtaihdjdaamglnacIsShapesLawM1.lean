/- Recipes made, in plain words. -/
import Derived.Test.YtaihdjdaamglnacIsShapesLawM0
import Derived.Deep.AppendLies
import Derived.Stop.Asserts
import Derived.Shelf.Strings.BuilderK
import Derived.Test.YtaihdjdaamglnacRows
import Derived.StillTailTactics
import Derived.Recover
import Derived.Defers
/- Contracts of chapter 4: IsPart, both sides. -/
namespace Go.Proofs.Ytaihdjdaamglnac
set_option linter.unusedVariables false
set_option linter.unusedSimpArgs false
open Go.RowKit
def countedB (n : List UInt8) : Bool := n == [99, 111, 117, 110, 116, 115] || n == [104, 101, 97, 114, 115]
def cntB (y : LayerD) : Bool := if countedB y.fName = true then numB y.fCount else y.fCount == 0
def layOk (x : PartD) (i : Nat) : Bool := decide (0 ≤ layI (x.fLayers.getD i default).fName) && offersF (faceN x i) (needI (layI (x.fLayers.getD i default).fName)) && cntB (x.fLayers.getD i default)
def layTo (x : PartD) (k : Nat) : Bool := (List.range k).all (layOk x)
def partB (x : PartD) : Bool := coreB x.fCore && decide (x.fLayers.length ≤ 3) && layTo x x.fLayers.length
theorem layTo_succ (x : PartD) (k : Nat) : layTo x (k + 1) = (layTo x k && layOk x k) := by simp [layTo, List.range_succ, List.all_append]
theorem partB_bad {x : PartD} {k : Nat} (hk : k < x.fLayers.length) (h : layOk x k = false) : partB x = false := by
  have : layTo x x.fLayers.length = false := by
    unfold layTo
    rw [List.all_eq_false]
    exact ⟨k, List.mem_range.2 hk, by simp [h]⟩
  simp [partB, this]
theorem layOk_of (x : PartD) (i : Nat) (h : i < x.fLayers.length) (y : LayerD) (hy : x.fLayers[i] = y) : layOk x i = (decide (0 ≤ layI y.fName) && offersF (faceN x i) (needI (layI y.fName)) && cntB y) := by
  unfold layOk
  rw [List.getD_eq_getElem?_getD, List.getElem?_eq_getElem h, Option.getD_some, hy]
theorem faceN_take (c : CoreD) (l : List LayerD) (i : Nat) (h : i ≤ l.length) : faceP ⟨c, l.take i⟩ = faceN ⟨c, l⟩ i := by
  unfold faceP
  rw [show (⟨c, l.take i⟩ : PartD).fLayers.length = i by simp; omega]
  cases i with
  | zero => rfl
  | succ i =>
    unfold faceN
    simp only [List.getD_eq_getElem?_getD]
    rw [List.getElem?_take_of_lt (by omega)]
set_option maxRecDepth 100000 in
set_option maxHeartbeats 1600000 in
theorem insideOf_c (k : ByteArray) (on br : Bool) (ca sa : Option Addr) (cn cc sn sc : Nat) (ct : Int) (i : Nat) (w : World) (hi : i ≤ sc) (hs : i ≤ maxLen) :
    Calls Try.prog 59 #[.agg #[.string k, .bool on, .bool br, .slice ca cn cc, .int .i64 ct, .slice sa sn sc], .int .i64 i] w fun e w' => e = .returned (.agg #[.string k, .bool on, .bool br, .slice ca cn cc, .int .i64 ct, .slice sa i sc]) ∧ Below w.heap.size w w' := by
  unfold maxLen at hs
  go_enter Try.func59, Try.ntmps59
  go_wp2_with fail
  go_region
  all_goals (try go_wp2_with fail)
  all_goals
    refine bodyPost_ret (v := .agg #[.string k, .bool on, .bool br, .slice ca cn cc, .int .i64 ct, .slice sa i sc]) (by simp [results, Try.results59, go_sem]) rfl ⟨rfl, ?_⟩
    repeat (first | with_reducible exact Below.refl _ _ | with_reducible refine Below.alloc ?_ (by simp; try omega) _ | with_reducible refine Below.drew ?_ | with_reducible refine belD ?_)
set_option maxHeartbeats 1600000 in
theorem isLayerCount_c (n : List UInt8) (c : Int) (w : World) :
    Calls Try.prog 60 #[.agg #[.string ⟨n.toArray⟩, .int .i64 c]] w fun e w' => e = .returned (.bool (cntB ⟨n, c⟩)) ∧ Below w.heap.size w w' := by
  have HN := Lib.hid (isNumber_any c)
  by_cases h0 : n = [99, 111, 117, 110, 116, 115]
  · subst h0
    have HR := Lib.hid (show cntB ⟨[99, 111, 117, 110, 116, 115], c⟩ = numB c from rfl)
    generalize numB c = b at *
    go_enter Try.func60, Try.ntmps60
    go_wp2_with (first | (go_at_call 70; (with_reducible refine (HN.out _).mono ?_); rintro e w' ⟨rfl, rfl⟩))
    go_ret
    exact ⟨ret_bool HR.out.symm, part_box w _⟩
  · by_cases h1 : n = [104, 101, 97, 114, 115]
    · subst h1
      have HR := Lib.hid (show cntB ⟨[104, 101, 97, 114, 115], c⟩ = numB c from rfl)
      generalize numB c = b at *
      clear h0
      go_enter Try.func60, Try.ntmps60
      go_wp2_with (first | (go_at_call 70; (with_reducible refine (HN.out _).mono ?_); rintro e w' ⟨rfl, rfl⟩))
      go_ret
      exact ⟨ret_bool HR.out.symm, part_box w _⟩
    · have HR := Lib.hid (show cntB ⟨n, c⟩ = (c == 0) by unfold cntB countedB; simp [h0, h1])
      have g0 : (n == [99, 111, 117, 110, 116, 115]) = false := by simp [h0]
      have g1 : (n == [104, 101, 97, 114, 115]) = false := by simp [h1]
      clear h0 h1
      go_enter Try.func60, Try.ntmps60
      go_wp2_with (first | (go_at_call 70; (with_reducible refine (HN.out _).mono ?_); rintro e w' ⟨rfl, rfl⟩))
      go_ret
      exact ⟨ret_bool HR.out.symm, part_box w _⟩
end Go.Proofs.Ytaihdjdaamglnac
/- Contracts of chapter 4: IsPart, the program's. -/
namespace Go.Proofs.Ytaihdjdaamglnac
set_option linter.unusedVariables false
set_option linter.unusedSimpArgs false
open Go.RowKit
set_option maxRecDepth 100000 in
set_option maxHeartbeats 3200000 in
theorem implIsPart_any (v : Value) (x : PartD) (w : World) (hx : ValAt rPart 0 w v x) (hs : ∀ c ∈ x.fCore.fCells, c.fKey.length ≤ maxLen) :
    Calls Try.prog 47 #[v] w fun e w' => e = .returned (.bool (partB x)) ∧ Below w.heap.size w w' := by
  obtain ⟨_, rfl, hx⟩ := hx
  have HX := Lib.hid hx
  have HBAD := Lib.hid (fun k => partB_bad (x := x) (k := k))
  have HOK := Lib.hid (fun i h y hy => layOk_of x i h y hy)
  have HSU := Lib.hid (layTo_succ x)
  have HFN := Lib.hid (faceN_take x.fCore x.fLayers)
  have HP := Lib.hid (show partB x = (coreB x.fCore && decide (x.fLayers.length ≤ 3) && layTo x x.fLayers.length) from rfl)
  obtain ⟨xc, ls⟩ := x
  obtain ⟨v3, v5, rfl, h3, h5⟩ := hx
  have HC := Lib.hid (fun W (hb : Below w.heap.size w W) => implIsCore_any (vCore xc v3) xc W ⟨v3, rfl, FlatAt.below (flatAt_of_slice cCell_len (by decide) h3) hb (Nat.le_refl _)⟩ hs)
  obtain ⟨a0, a1, a2, a3, a4⟩ := xc
  unfold vCore at HC
  simp only at h3 h5 HX HC HP HFN HBAD HOK
  obtain ⟨ra, rc, rfl, _⟩ := sliceAt_len h3
  obtain ⟨sa, sc, rfl, hl, hcap⟩ := sliceAt_cap h5
  have H5 := Lib.hid h5
  have H3 := Lib.hid h3
  unfold maxLen at hl
  have HB0 := Lib.hid (show ∀ o, Below w.heap.size w (w.alloc o) from fun o => part_box w o)
  have HS0 := Lib.hid (Bx.new w [.string ⟨a0.toArray⟩, .bool a1, .bool a2, .slice ra a3.length rc, .int .i64 a4, .slice sa ls.length sc] 37)
  clear h3 h5
  have HPB := Lib.hid (show partB ⟨⟨a0, a1, a2, a3, a4⟩, ls⟩ = partB ⟨⟨a0, a1, a2, a3, a4⟩, ls⟩ from rfl)
  generalize partB ⟨⟨a0, a1, a2, a3, a4⟩, ls⟩ = pb at *
  have HCB := Lib.hid (show coreB ⟨a0, a1, a2, a3, a4⟩ = coreB ⟨a0, a1, a2, a3, a4⟩ from rfl)
  generalize coreB ⟨a0, a1, a2, a3, a4⟩ = cb at *
  clear HPB HCB HX
  cases cb with
  | false =>
    have HR := Lib.hid (show pb = false by rw [HP.out]; rfl)
    go_enter Try.func47, Try.ntmps47
    go_wp2_with fail
    refine (HC.out _ (HB0.out _)).mono ?_
    rintro e w1 ⟨rfl, hb⟩
    have HB := Lib.hid (belS (HB0.out _) hb)
    clear hb
    go_wp2_with fail
    go_ret
    exact ⟨ret_bool HR.out.symm, HB.out⟩
  | true =>
    by_cases h3 : 3 < ls.length
    · have HR := Lib.hid (show pb = false by rw [HP.out, show decide (ls.length ≤ 3) = false by simpa using h3]; rfl)
      go_enter Try.func47, Try.ntmps47
      go_wp2_with fail
      refine (HC.out _ (HB0.out _)).mono ?_
      rintro e w1 ⟨rfl, hb⟩
      have HB := Lib.hid (belS (HB0.out _) hb)
      have BX := Lib.hid (HS0.out.below hb)
      clear hb
      have e0 := BX.out.cell 0 (by simp)
      have e1 := BX.out.cell 1 (by simp)
      have e2 := BX.out.cell 2 (by simp)
      have e3 := BX.out.cell 3 (by simp)
      have e4 := BX.out.cell 4 (by simp)
      have e5 := BX.out.cell 5 (by simp)
      simp only [List.getElem_cons_zero, List.getElem_cons_succ] at e0 e1 e2 e3 e4 e5
      go_wp2_with fail
      go_ret
      exact ⟨ret_bool HR.out.symm, HB.out⟩
    · have HR := Lib.hid (show pb = layTo ⟨⟨a0, a1, a2, a3, a4⟩, ls⟩ ls.length by rw [HP.out, show decide (ls.length ≤ 3) = true by simpa using h3]; simp)
      go_enter Try.func47, Try.ntmps47
      go_wp2_with fail
      refine (HC.out _ (HB0.out _)).mono ?_
      rintro e w1 ⟨rfl, hb⟩
      have HB := Lib.hid (belS (HB0.out _) hb)
      have BX := Lib.hid (HS0.out.below hb)
      clear hb
      have e0 := BX.out.cell 0 (by simp)
      have e1 := BX.out.cell 1 (by simp)
      have e2 := BX.out.cell 2 (by simp)
      have e3 := BX.out.cell 3 (by simp)
      have e4 := BX.out.cell 4 (by simp)
      have e5 := BX.out.cell 5 (by simp)
      simp only [List.getElem_cons_zero, List.getElem_cons_succ] at e0 e1 e2 e3 e4 e5
      go_wp2_with fail
      clear e0 e1 e2 e3 e4 e5
      go_loopw [3, 4, 20] (fun _ _ i wr => ∃ k : Nat, k ≤ ls.length ∧ i = .int .i64 k ∧ layTo ⟨⟨a0, a1, a2, a3, a4⟩, ls⟩ k = true ∧ Below w.heap.size w wr ∧ Bx wr w.heap.size [.string ⟨a0.toArray⟩, .bool a1, .bool a2, .slice ra a3.length rc, .int .i64 a4, .slice sa ls.length sc]) (fun _ _ i _ => ls.length - (intOf i).toNat)
      case atStart => exact ⟨0, Nat.zero_le _, rfl, rfl, HB.out, BX.out⟩
      case round =>
        obtain ⟨k, hk, rfl, ht, hbr, hbx⟩ := hrel
        have HT := Lib.hid ht
        have HBr := Lib.hid hbr
        have BXr := Lib.hid hbx
        have HXr := Lib.hid (SliceAt.below H5.out (good_flat cLayer_len) hbr (Nat.le_refl _))
        clear ht hbr hbx
        by_cases hlt : k < ls.length
        · obtain ⟨b, o, cs, rfl, hbw, hat, hd⟩ := sliceAt_cell HXr.out k hlt
          have HLO := Lib.hid (HOK.out k hlt _ rfl)
          have HBD := Lib.hid (fun h => HBAD.out k hlt h)
          have HNX := Lib.hid (show layOk ⟨⟨a0, a1, a2, a3, a4⟩, ls⟩ k = true → layTo ⟨⟨a0, a1, a2, a3, a4⟩, ls⟩ (k + 1) = true from fun h => by rw [HSU.out, HT.out, h]; rfl)
          have HTK := Lib.hid (HFN.out k (Nat.le_of_lt hlt))
          have HFO := Lib.hid (fun W hW => implFaceOf_any (.agg #[.string ⟨a0.toArray⟩, .bool a1, .bool a2, .slice ra a3.length rc, .int .i64 a4, .slice (some ⟨b, o, none⟩) k sc]) ⟨⟨a0, a1, a2, a3, a4⟩, ls.take k⟩ W ⟨_, rfl, _, _, rfl, SliceAt.below H3.out (good_flat cCell_len) hW (Nat.le_refl _), sliceAt_take (SliceAt.below H5.out (good_flat cLayer_len) hW (Nat.le_refl _)) k (Nat.le_of_lt hlt) (by omega)⟩)
          rw [HTK.out] at HFO
          generalize ls[k] = z at *
          obtain ⟨z0, z1⟩ := z
          simp only [rFlat, cLayer] at hat HLO
          subst hat
          have d0 := hd 0 (by decide)
          have d1 := hd 1 (by decide)
          simp only [List.getElem?_cons_zero, List.getElem?_cons_succ, Nat.add_zero] at d0 d1
          have HLN := Lib.hid (implLayerNeeds_any ⟨z0.toArray⟩)
          simp only [ndV, List.toList_toArray] at HLN
          have HIO := Lib.hid (fun W => insideOf_c ⟨a0.toArray⟩ a1 a2 ra (some ⟨b, o, none⟩) a3.length rc ls.length sc a4 k W (by omega) (by unfold maxLen; omega))
          have HOF := Lib.hid (implOffers_any (faceN ⟨⟨a0, a1, a2, a3, a4⟩, ls⟩ k) (needI (layI z0)))
          have HIL := Lib.hid (isLayerCount_c z0 z1)
          have hkc : (k : Int) < (ls.length : Int) := by omega
          generalize layOk ⟨⟨a0, a1, a2, a3, a4⟩, ls⟩ k = lo at *
          generalize faceN ⟨⟨a0, a1, a2, a3, a4⟩, ls⟩ k = fc at *
          generalize needI (layI z0) = nd at *
          generalize offersF fc nd = ob at *
          generalize cntB ⟨z0, z1⟩ = cn at *
          generalize hge : decide (0 ≤ layI z0) = q at *
          clear hd hge HXr HTK
          have HW0 := Lib.hid (part_box wr (.cells #[.string ⟨z0.toArray⟩, .int .i64 z1] 58))
          have BL := Lib.hid (Bx.new wr [.string ⟨z0.toArray⟩, .int .i64 z1] 58)
          have BX1 := Lib.hid (BXr.out.alloc (.cells #[.string ⟨z0.toArray⟩, .int .i64 z1] 58))
          have HB1 := Lib.hid (belS HBr.out HW0.out)
          have e0 := BX1.out.cell 0 (by simp)
          have e1 := BX1.out.cell 1 (by simp)
          have e2 := BX1.out.cell 2 (by simp)
          have e3 := BX1.out.cell 3 (by simp)
          have e4 := BX1.out.cell 4 (by simp)
          have e5 := BX1.out.cell 5 (by simp)
          simp only [List.getElem_cons_zero, List.getElem_cons_succ] at e0 e1 e2 e3 e4 e5
          cases q with
          | false =>
            have HR2 := Lib.hid (show pb = false from HBD.out (by rw [HLO.out]; rfl))
            go_wp2_with (first | (go_at_call 46; (with_reducible refine (HLN.out _).mono ?_); rintro e w' ⟨rfl, rfl⟩))
            go_ret
            exact ⟨ret_bool HR2.out.symm, HB1.out⟩
          | true =>
            go_wp2_with (first | (go_at_call 46; (with_reducible refine (HLN.out _).mono ?_); rintro e w' ⟨rfl, rfl⟩))
            refine (HIO.out _).mono ?_
            rintro e w2 ⟨rfl, hb⟩
            have HB2 := Lib.hid (belS HB1.out hb)
            have BL2 := Lib.hid (BL.out.below hb)
            have BX2 := Lib.hid (BX1.out.below hb)
            clear hb
            clear e0 e1 e2 e3 e4 e5
            go_wp2_with fail
            refine (HFO.out _ HB2.out).mono ?_
            rintro e w3 ⟨rfl, hb⟩
            have HB3 := Lib.hid (belS HB2.out hb)
            have BL3 := Lib.hid (BL2.out.below hb)
            have BX3 := Lib.hid (BX2.out.below hb)
            clear hb
            have g0 := BL3.out.cell 0 (by simp)
            have g1 := BL3.out.cell 1 (by simp)
            simp only [List.getElem_cons_zero, List.getElem_cons_succ] at g0 g1
            cases ob with
            | false =>
              have HR2 := Lib.hid (show pb = false from HBD.out (by rw [HLO.out]; rfl))
              go_wp2_with (first | (go_at_call 58; (with_reducible refine (HOF.out _).mono ?_); rintro e w' ⟨rfl, rfl⟩))
              go_ret
              exact ⟨ret_bool HR2.out.symm, HB3.out⟩
            | true =>
              go_wp2_with (first | (go_at_call 58; (with_reducible refine (HOF.out _).mono ?_); rintro e w' ⟨rfl, rfl⟩))
              refine (HIL.out _).mono ?_
              rintro e w4 ⟨rfl, hb⟩
              have HB4 := Lib.hid (belS HB3.out hb)
              have BX4 := Lib.hid (BX3.out.below hb)
              clear hb g0 g1
              cases cn with
              | false =>
                have HR2 := Lib.hid (show pb = false from HBD.out (by rw [HLO.out]; rfl))
                go_wp2_with fail
                go_ret
                exact ⟨ret_bool HR2.out.symm, HB4.out⟩
              | true =>
                have HR2 := Lib.hid (HNX.out (by rw [HLO.out]; rfl))
                go_wp2_with fail
                exact ⟨⟨k + 1, by omega, by go_num, HR2.out, HB4.out, BX4.out⟩, by simp [intOf]; omega⟩
        · have HR2 := Lib.hid (show pb = true by rw [HR.out]; have h := HT.out; rwa [show k = ls.length by omega] at h)
          go_wp2
          go_ret
          exact ⟨ret_bool HR2.out.symm, HBr.out⟩
end Go.Proofs.Ytaihdjdaamglnac
/- Parts whose rows are one's own. -/
namespace Go.Proofs.Ytaihdjdaamglnac
set_option linter.unusedVariables false
set_option linter.unusedSimpArgs false
open Go.RowKit
theorem Bx.grown {w w' : World} {b : Nat} {cs : List Value} {r : Option Nat} (h : Bx w b cs) (hg : w.grownBy w' r) (hr : r ≠ some b) : Bx w' b cs :=
  ⟨Nat.lt_of_lt_of_le h.lt hg.size, fun j hj => (World.cell?_of_block (hg.block b h.lt (fun e => hr e.symm))).trans (h.cell j hj), fun j hj => (World.frozen?_of_block (hg.block b h.lt (fun e => hr e.symm))).trans (h.froz j hj)⟩
theorem Bx.belowK {w w' : World} {b B : Nat} {cs : List Value} (h : Bx w b cs) (hb : Below B w w') (hB : b < B) : Bx w' b cs :=
  ⟨Nat.lt_of_lt_of_le h.lt hb.size, fun j hj => (World.cell?_of_block (hb.block b hB)).trans (h.cell j hj), fun j hj => (World.frozen?_of_block (hb.block b hB)).trans (h.froz j hj)⟩
/-- six cells stored, one behind the other -/
theorem Bx.put6 {w : World} {b : Nat} {c0 c1 c2 c3 c4 c5 : Value} (h : Bx w b [c0, c1, c2, c3, c4, c5]) (u0 u1 u2 u3 u4 u5 : Value) :
    Bx ((((((w.setCell ⟨b, 0, none⟩ u0).setCell ⟨b, 1, none⟩ u1).setCell ⟨b, 2, none⟩ u2).setCell ⟨b, 3, none⟩ u3).setCell ⟨b, 4, none⟩ u4).setCell ⟨b, 5, none⟩ u5) b [u0, u1, u2, u3, u4, u5] :=
  ((((((h.set 0 (by simp) u0).set 1 (by simp) u1).set 2 (by simp) u2).set 3 (by simp) u3).set 4 (by simp) u4).set 5 (by simp) u5)
theorem below_put6 {B : Nat} {a w : World} (h : Below B a w) (b : Nat) (hb : B ≤ b) (u0 u1 u2 u3 u4 u5 : Value) :
    Below B a ((((((w.setCell ⟨b, 0, none⟩ u0).setCell ⟨b, 1, none⟩ u1).setCell ⟨b, 2, none⟩ u2).setCell ⟨b, 3, none⟩ u3).setCell ⟨b, 4, none⟩ u4).setCell ⟨b, 5, none⟩ u5) :=
  ((((((h.setCell (p := ⟨b, 0, none⟩) hb u0).setCell (p := ⟨b, 1, none⟩) hb u1).setCell (p := ⟨b, 2, none⟩) hb u2).setCell (p := ⟨b, 3, none⟩) hb u3).setCell (p := ⟨b, 4, none⟩) hb u4).setCell (p := ⟨b, 5, none⟩) hb u5)
theorem ownsF_put6 {α : Type} {f : α → List Value} {E k : Nat} {w : World} {B : Nat} {v : Value} {l : List α} (h : OwnsF f E k w B v l) (b : Nat) (hb : b < B) (u0 u1 u2 u3 u4 u5 : Value) :
    OwnsF f E k ((((((w.setCell ⟨b, 0, none⟩ u0).setCell ⟨b, 1, none⟩ u1).setCell ⟨b, 2, none⟩ u2).setCell ⟨b, 3, none⟩ u3).setCell ⟨b, 4, none⟩ u4).setCell ⟨b, 5, none⟩ u5) B v l :=
  ownsF_set (ownsF_set (ownsF_set (ownsF_set (ownsF_set (ownsF_set h hb) hb) hb) hb) hb) hb
theorem Bx.dr {w : World} {b : Nat} {cs : List Value} (h : Bx w b cs) : Bx w.drew b cs := ⟨h.lt, h.cell, h.froz⟩
/-- a part in cells, whose rows are one's own and lie in blocks from B on -/
def oPart (w : World) (B : Nat) (cs : List Value) (x : PartD) : Prop := ∃ v3 v5, cs = [.string ⟨x.fCore.fKind.toArray⟩, .bool x.fCore.fOn, .bool x.fCore.fBroken, v3, .int .i64 x.fCore.fCount, v5] ∧ OwnsF cCell 96 2 w B v3 x.fCore.fCells ∧ OwnsF cLayer 58 2 w B v5 x.fLayers
/-- sizes that no copy outgrows -/
structure SmallP (x : PartD) : Prop where
  z : zPart x ≤ 1048576
  kind : x.fCore.fKind.length ≤ 1048576
  cells : x.fCore.fCells.length ≤ 2097152
  keys : ∀ c ∈ x.fCore.fCells, c.fKey.length ≤ 1048576
  lays : x.fLayers.length ≤ 2097152
  names : ∀ y ∈ x.fLayers, y.fName.length ≤ 1048576
theorem smallP_of {x : PartD} (h : zPart x ≤ 1048576) : SmallP x := by
  unfold zPart zCore at h
  refine ⟨by unfold zPart zCore; exact h, by omega, by omega, fun c hc => ?_, by omega, fun y hy => ?_⟩
  · have := sumF_mem zCell x.fCore.fCells c hc
    have h2 : c.fKey.length ≤ zCell c := by unfold zCell; omega
    omega
  · have := sumF_mem zLayer x.fLayers y hy
    have h2 : y.fName.length ≤ zLayer y := by unfold zLayer; omega
    omega
def GivesOP (x : PartD) (w : World) (e : Ending) (w' : World) : Prop := ∃ cs, e = .returned (.agg cs.toArray) ∧ oPart w' w.heap.size cs x ∧ Below w.heap.size w w'
theorem oPart_r {w : World} {B : Nat} {cs : List Value} {x : PartD} (h : oPart w B cs x) (hs : SmallP x) : rPart B w cs x := by
  obtain ⟨v3, v5, rfl, h3, h5⟩ := h
  exact ⟨v3, v5, rfl, sliceAt_of_owns cCell_len h3 (Nat.le_trans hs.cells (by decide)), sliceAt_of_owns cLayer_len h5 (Nat.le_trans hs.lays (by decide))⟩
theorem oPart_below {w w' : World} {B B' : Nat} {cs : List Value} {x : PartD} (h : oPart w B cs x) (hb : Below B' w w') (hB : w.heap.size ≤ B') : oPart w' B cs x := by
  obtain ⟨v3, v5, rfl, h3, h5⟩ := h
  exact ⟨v3, v5, rfl, ownsF_below h3 hb hB, ownsF_below h5 hb hB⟩
theorem oPart_base {w : World} {B B' : Nat} {cs : List Value} {x : PartD} (h : oPart w B cs x) (hB : B' ≤ B) : oPart w B' cs x := by
  obtain ⟨v3, v5, rfl, h3, h5⟩ := h
  exact ⟨v3, v5, rfl, ownsF_base h3 hB, ownsF_base h5 hB⟩
theorem oPart_set {w : World} {B : Nat} {cs : List Value} {x : PartD} {p : Addr} {u : Value} (h : oPart w B cs x) (hp : p.block < B) : oPart (w.setCell p u) B cs x := by
  obtain ⟨v3, v5, rfl, h3, h5⟩ := h
  exact ⟨v3, v5, rfl, ownsF_set h3 hp, ownsF_set h5 hp⟩
theorem oPart_drew {w : World} {B : Nat} {cs : List Value} {x : PartD} (h : oPart w B cs x) : oPart w.drew B cs x := h
theorem infoLay : (Try.prog.info? 58).map (fun i => (i.zero, i.size, i.bytes)) = some (some (.agg #[.string ⟨#[]⟩, .int .i64 0]), 2, 24) := by kernel_rfl
/-- append of one layer to a row of one's own, at a step of a region that draws -/
theorem step_lays {ops : Array Oper} {o : Oper} {a : Act} {K : Act → World → Prop} {Q : Exit → Act → World → Prop} {E : Prop} (hgd : o.guard = none) (s x : Operand)
    (ho : o.op = .call { callee := .builtin .append, args := #[s, x], argTypes := #[35, 35] }) (B : Nat) (v : Value) (l : List LayerD) (y : LayerD) (w : World) (blk : Nat)
    (hs : a.eval s = v) (hO : OwnsF cLayer 58 2 w B v l) (hx : a.eval x = .slice (some ⟨blk, 0, none⟩) 1 1) (hc : ∀ j, j < 2 → w.cell? ⟨blk, j, none⟩ = (cLayer y)[j]?) (hl : l.length ≤ 4194304) (hB : B ≤ w.heap.size)
    (h : ∀ v' w', OwnsF cLayer 58 2 w' B v' (l ++ [y]) → w.grownBy w' v.ownBlock → K (a.put o.dst v') w') : if Region.wanted o (yielded ops a.tmps) = true then Oper.wp Try.prog o a w K Q else E := by
  obtain ⟨i0, hi, hz0, hz1, hz2⟩ := info_parts infoLay
  refine step_append_lies w hgd s x 35 ho B 58 i0 _ 2 24 Try.underlying35 hi hz0 hz1 hz2 rfl (by decide) v l.length (l.flatMap cLayer) hs hO ⟨blk, 0, none⟩ 1 1 (cLayer y) hx rfl ?_ (cLayer_one y) (by decide) (by unfold maxLen; omega) (by omega) hB _ rfl ?_
  · intro j u hj
    have hj2 : j < 2 := (List.getElem?_eq_some_iff.1 hj).1
    rw [Addr.add_lit, Nat.zero_add, hc j hj2]; exact hj
  · intro g cap w' h1 h2 _ _
    refine h _ w' ?_ h2
    unfold OwnsF; rw [List.flatMap_append, List.length_append]; simpa using h1
theorem cell_newL (w : World) (y : LayerD) (blk : Nat) (h : blk = w.heap.size) : ∀ j, j < 2 → (w.alloc (.cells #[.string ⟨y.fName.toArray⟩, .int .i64 y.fCount] 58)).cell? ⟨blk, j, none⟩ = (cLayer y)[j]? := by
  intro j hj
  subst h
  rw [cell_of_row _ _ _ _ 58 (0, 0) (heap_alloc_new w _)]
  rcases (show j = 0 ∨ j = 1 by omega) with rfl | rfl <;> rfl
end Go.Proofs.Ytaihdjdaamglnac
/- One-valued assertions to interface types: where the methods are there, and where one is missing (a panic). -/
namespace Go.Proofs.Ytaihdjdaamglnac
set_option linter.unusedVariables false
open Go.RowKit
section
variable {P : Program} {t xT asserted E : TypeId} {want : Array (String × TypeId)}
theorem ta_has (hu : P.underlying asserted = some (.interface want)) (h : (P.info? t).map (fun i => (lacking want i.methods).isEmpty) = some true)
    (v : Value) (xT : TypeId) (w : World) : (Instr.typeAssert (.iface t v) xT asserted false).run P w = .ok (.iface t v) w := by
  obtain ⟨i, hi, hl⟩ := Option.map_eq_some_iff.1 h
  simp [Instr.typeAssert, run_underlying hu, typeInfo, hi, missingMethod_none (List.isEmpty_iff.1 hl)]
theorem ta_lacks (hu : P.underlying asserted = some (.interface want)) (h : (P.info? t).map (fun i => (lacking want i.methods).isEmpty) = some false) (hE : P.underlying P.rt.typeAssertionError = some (.pointer E)) :
    ∃ c : Array Value, ∀ (v : Value) (xT : TypeId) (w : World), (Instr.typeAssert (.iface t v) xT asserted false).run P w = .halt (.panic (.iface P.rt.typeAssertionError (.pointer (some ⟨w.heap.size, 0, none⟩)))) (w.alloc (.cells c E)) := by
  obtain ⟨i, hi, hl⟩ := Option.map_eq_some_iff.1 h
  obtain ⟨m, hm⟩ := missingMethod_some (want := want) (got := i.methods) (fun e => by rw [e] at hl; cases hl)
  refine ⟨#[.pointer none, typeHandle P t, typeHandle P asserted, strVal m], fun v xT w => ?_⟩
  simp [Instr.typeAssert, run_underlying hu, typeInfo, hi, hm, runtimePanic, elemOf, run_underlying hE, newVar, newRow, Value.cells, goPanic]

end
theorem cell_set_at {w : World} {b o : Nat} {u : Value} (hb : (w.cell? ⟨b, o, none⟩).isSome = true) : (w.setCell ⟨b, o, none⟩ u).cell? ⟨b, o, none⟩ = some u := by
  obtain ⟨x, hx⟩ := Option.isSome_iff_exists.1 hb
  exact World.cell?_setCell_same w _ _ hx
theorem cell_set_ne {w : World} {b i j : Nat} {u : Value} (h : i ≠ j) : (w.setCell ⟨b, i, none⟩ u).cell? ⟨b, j, none⟩ = w.cell? ⟨b, j, none⟩ := World.cell?_setCell_other (a := ⟨b, i, none⟩) (b := ⟨b, j, none⟩) (h := fun e => h (by injection e)) ..
theorem rtE : ∃ E, Try.prog.underlying Try.prog.rt.typeAssertionError = some (.pointer E) := ⟨152, by kernel_rfl⟩
def Has (I T : TypeId) : Prop := ∀ (v : Value) (xT : TypeId) (w : World), (Instr.typeAssert (.iface T v) xT I false).run Try.prog w = .ok (.iface T v) w
def Fails (I T : TypeId) : Prop := ∃ (c : Array Value) (E : TypeId), ∀ (v : Value) (xT : TypeId) (w : World), (Instr.typeAssert (.iface T v) xT I false).run Try.prog w = .halt (.panic (.iface Try.prog.rt.typeAssertionError (.pointer (some ⟨w.heap.size, 0, none⟩)))) (w.alloc (.cells c E))
theorem fails_of {I T : TypeId} {want : Array (String × TypeId)} (hu : Try.prog.underlying I = some (.interface want)) (h : (Try.prog.info? T).map (fun i => (lacking want i.methods).isEmpty) = some false) : Fails I T := by
  obtain ⟨E, hE⟩ := rtE
  obtain ⟨c, hc⟩ := ta_lacks (t := T) hu h hE
  exact ⟨c, E, hc⟩
def Panics (w : World) (e : Ending) (w' : World) : Prop := ∃ pv, e = .panicked [{ v := .iface Try.prog.rt.typeAssertionError pv, recovered := false }] ∧ Below w.heap.size w w'
end Go.Proofs.Ytaihdjdaamglnac
/- The library's contracts of strings.Builder, laid at this program's numbers. -/
namespace Go.Proofs.Ytaihdjdaamglnac
set_option linter.unusedVariables false
open Go.Shelf Go.RowKit
def bRen : Go.Shelf.Ren := ⟨fun | 167 => 50 | 240 => 64 | 276 => 73 | 169 => 36 | n => n, fun | 9 => 9 | 0 => 0 | 72 => 64 | 70 => 61 | 37 => 62 | 127 => 81 | 3 => 3 | 4 => 4 | 5 => 5 | 20 => 20 | 75 => 79 | 80 => 66 | 164 => 147 | n => n, fun | n => n⟩
theorem bLays240 : Go.Proofs.Lays.n240 Try.prog bRen := {
  mixed := by kernel_rfl
  f240 := Try.func64.trans (congrArg some (by kernel_rfl))
  f276 := Try.func73.trans (congrArg some (by kernel_rfl))
  t0 := Try.underlying0
  a0 := Try.isAgg0
  z0 := Try.sizeOf0
  v0 := Try.zeroValue0
  t4 := Try.underlying4
  a4 := Try.isAgg4
  z4 := Try.sizeOf4
  v4 := Try.zeroValue4
  t9 := Try.underlying9
  a9 := Try.isAgg9
  z9 := Try.sizeOf9
  v9 := Try.zeroValue9
  t20 := Try.underlying20
  a20 := Try.isAgg20
  z20 := Try.sizeOf20
  v20 := Try.zeroValue20
  t70 := Try.underlying61
  a70 := Try.isAgg61
  z70 := Try.sizeOf61
  v70 := Try.zeroValue61
  t72 := Try.underlying64
  a72 := Try.isAgg64
  z72 := Try.sizeOf64
  v72 := Try.zeroValue64
  t164 := Try.underlying147
  a164 := Try.isAgg147
  z164 := Try.sizeOf147
  v164 := Try.zeroValue147 }
theorem bLays167 : Go.Proofs.Lays.n167 Try.prog bRen := {
  mixed := by kernel_rfl
  f167 := Try.func50.trans (congrArg some (by kernel_rfl))
  f240 := Try.func64.trans (congrArg some (by kernel_rfl))
  f276 := Try.func73.trans (congrArg some (by kernel_rfl))
  t0 := Try.underlying0
  a0 := Try.isAgg0
  z0 := Try.sizeOf0
  v0 := Try.zeroValue0
  t4 := Try.underlying4
  a4 := Try.isAgg4
  z4 := Try.sizeOf4
  v4 := Try.zeroValue4
  t5 := Try.underlying5
  a5 := Try.isAgg5
  z5 := Try.sizeOf5
  v5 := Try.zeroValue5
  t9 := Try.underlying9
  a9 := Try.isAgg9
  z9 := Try.sizeOf9
  v9 := Try.zeroValue9
  t20 := Try.underlying20
  a20 := Try.isAgg20
  z20 := Try.sizeOf20
  v20 := Try.zeroValue20
  t37 := Try.underlying62
  a37 := Try.isAgg62
  z37 := Try.sizeOf62
  v37 := Try.zeroValue62
  t70 := Try.underlying61
  a70 := Try.isAgg61
  z70 := Try.sizeOf61
  v70 := Try.zeroValue61
  t72 := Try.underlying64
  a72 := Try.isAgg64
  z72 := Try.sizeOf64
  v72 := Try.zeroValue64
  t75 := Try.underlying79
  a75 := Try.isAgg79
  z75 := Try.sizeOf79
  v75 := Try.zeroValue79
  t164 := Try.underlying147
  a164 := Try.isAgg147
  z164 := Try.sizeOf147
  v164 := Try.zeroValue147 }
theorem bLays169 : Go.Proofs.Lays.n169 Try.prog bRen := {
  mixed := by kernel_rfl
  f169 := Try.func36.trans (congrArg some (by kernel_rfl))
  t0 := Try.underlying0
  a0 := Try.isAgg0
  z0 := Try.sizeOf0
  v0 := Try.zeroValue0
  t3 := Try.underlying3
  a3 := Try.isAgg3
  z3 := Try.sizeOf3
  v3 := Try.zeroValue3
  t9 := Try.underlying9
  a9 := Try.isAgg9
  z9 := Try.sizeOf9
  v9 := Try.zeroValue9
  t37 := Try.underlying62
  a37 := Try.isAgg62
  z37 := Try.sizeOf62
  v37 := Try.zeroValue62
  t70 := Try.underlying61
  a70 := Try.isAgg61
  z70 := Try.sizeOf61
  v70 := Try.zeroValue61
  t72 := Try.underlying64
  a72 := Try.isAgg64
  z72 := Try.sizeOf64
  v72 := Try.zeroValue64
  t127 := Try.underlying81
  a127 := Try.isAgg81
  z127 := Try.sizeOf81
  v127 := Try.zeroValue81 }
theorem bExtra : Builder.Extra Try.prog bRen := {
  sizeBuilder := by kernel_rfl
  liesBuilder := by kernel_rfl
  t5 := Try.underlying5
  a5 := Try.isAgg5
  z5 := Try.sizeOf5
  v5 := Try.zeroValue5
  infoByte := by kernel_rfl
  cellsByte := by kernel_rfl
  sizeByte := by kernel_rfl
  neB5 := by decide }
theorem writeByte_k (B b : Nat) (bs : List Value) (c : Int) (w : World) (h : Lib.IsBuilderF 64 5 B b bs w) (hlen : bs.length + 1 ≤ 140737488355328) (hBw : B ≤ w.heap.size) :
    Calls Try.prog 50 #[.pointer (some ⟨b, 0, none⟩), .int .u8 c] w fun e w' => e = .returned .nilIface ∧ (Lib.BuilderAtF 64 5 B b (.pointer (some ⟨b, 0, none⟩)) (bs ++ [.int .u8 c]) w' ∧ Below B w w' ∧ Lib.OthersKept 5 (some b) w w') :=
  Any.Builder_WriteByte_k bLays167 bExtra B b bs c w h hlen hBw
theorem string_k (B b : Nat) (l : List UInt8) (w : World) (h : Lib.IsBuilderF 64 5 B b (Lib.byteCells l) w) (hBw : B ≤ w.heap.size) :
    Calls Try.prog 36 #[.pointer (some ⟨b, 0, none⟩)] w fun e w' => e = .returned (.string ⟨l.toArray⟩) ∧ (Lib.IsBuilderF 64 5 B b (Lib.byteCells l) w' ∧ Below B w w' ∧ Lib.OthersKept 5 (some b) w w') :=
  Any.Builder_String_any_k bLays169 bExtra B b l w h hBw
end Go.Proofs.Ytaihdjdaamglnac
/- Contracts of the program's FormatNumber. -/
namespace Go.Proofs.Ytaihdjdaamglnac
set_option linter.unusedVariables false
open Go.RowKit
theorem byteCells_one (x : UInt8) : Lib.byteCells [x] = [.int .u8 (x.toNat : Int)] := rfl
theorem bytes_more {T e : TypeId} {B b : Nat} {p : Value} {bs : List UInt8} {c : Int} {w : World} (h0 : 0 ≤ c) (h1 : c ≤ 255) (h : Lib.BuilderAtF T e B b p (Lib.byteCells bs ++ [.int .u8 c]) w) : Lib.BuilderAtF T e B b p (Lib.byteCells (bs ++ [UInt8.ofNat c.toNat])) w := by
  rw [Lib.byteCells_append, byteCells_one, show ((UInt8.ofNat c.toNat).toNat : Int) = c from by simp; omega]
  exact h
theorem wrap_neg (n : Int) (h : -9223372036854775808 ≤ n) (h' : n < 0) : IntKind.u64.wrap (-IntKind.u64.wrap n) = -n := by
  simp only [IntKind.wrap, IntKind.bits, IntKind.signed]; simp; omega
end Go.Proofs.Ytaihdjdaamglnac
/- JoinWith, the model's and the program's; the program's writeText and copyText. -/
namespace Go.Proofs.Ytaihdjdaamglnac
set_option linter.unusedVariables false
open Go.RowKit
/-- the first k texts with sep between them -/
def joinK (x : List (List UInt8)) (sep : List UInt8) : Nat → List UInt8
  | 0 => []
  | k + 1 => joinK x sep k ++ (if 0 < k then sep else []) ++ x.getD k []
def joinL (x : List (List UInt8)) (sep : List UInt8) : List UInt8 := joinK x sep x.length
theorem strEq {s : ByteArray} {l : List UInt8} (h : s.data.toList = l) : Value.string s = .string ⟨l.toArray⟩ := by subst h; simp
theorem joinK_mono (x : List (List UInt8)) (sep : List UInt8) (k m : Nat) (h : k ≤ m) : (joinK x sep k).length ≤ (joinK x sep m).length := by
  induction m with
  | zero => rw [show k = 0 from by omega]; exact Nat.le_refl _
  | succ m ih =>
    rcases Nat.lt_or_ge m k with h1 | h1
    · rw [show k = m + 1 from by omega]; exact Nat.le_refl _
    · have := ih h1; simp only [joinK, List.length_append]; omega
theorem joinK_len (x : List (List UInt8)) (sep : List UInt8) (k : Nat) (h : k ≤ x.length) : (joinK x sep k).length ≤ k * sep.length + total (x.take k) := by
  induction k with
  | zero => simp [joinK]
  | succ k ih =>
    have h1 := ih (by omega)
    have h2 := total_take_succ x k (by omega)
    have h3 : x.getD k [] = x[k] := by simp [List.getD, List.getElem?_eq_getElem (show k < x.length by omega)]
    simp only [joinK, List.length_append, h3, h2, Nat.succ_mul]
    split <;> simp <;> omega
set_option maxHeartbeats 400000 in
theorem writeText_any (B b : Nat) (bs : List UInt8) (s : ByteArray) (w : World) (hI : Lib.IsBuilderF 64 5 B b (Lib.byteCells bs) w) (hl : bs.length + s.size ≤ 140737488355328) (hB : B ≤ w.heap.size) :
    Calls Try.prog 35 #[.pointer (some ⟨b, 0, none⟩), .string s] w fun e w' => e = .returned (.tuple #[]) ∧ Lib.IsBuilderF 64 5 B b (Lib.byteCells (bs ++ s.data.toList)) w' ∧ Below B w w' ∧ Lib.OthersKept 5 (some b) w w' := by
  have HI := Lib.hid hI
  have HB := Lib.hid hB
  clear hI hB
  go_enter Try.func35, Try.ntmps35
  go_wp2_with fail
  go_loopw [4, 7] (fun _ i wr => ∃ k : Nat, k ≤ s.size ∧ i = .int .i64 k ∧ Lib.IsBuilderF 64 5 B b (Lib.byteCells (bs ++ s.data.toList.take k)) wr ∧ Below B w wr ∧ Lib.OthersKept 5 (some b) w wr) (fun _ i _ => s.size - (intOf i).toNat)
  case atStart => exact ⟨0, Nat.zero_le _, rfl, by simpa using HI.out, Below.refl _ _, Lib.OthersKept.refl _ _ _⟩
  case round =>
    obtain ⟨k, hk, rfl, hI, hb, ho⟩ := hrel
    have HI2 := Lib.hid hI
    have HB2 := Lib.hid hb
    have HO2 := Lib.hid ho
    clear hI hb ho
    by_cases hlt : k < s.size
    · have hu := (s[k]).toNat_lt
      have HN := Lib.hid (take_snoc s k hlt)
      go_wp2_with fail
      refine (writeByte_k B b (Lib.byteCells (bs ++ s.data.toList.take k)) _ wr HI2.out (by rw [Lib.byteCells_length]; simp; omega) (Nat.le_trans HB.out HB2.out.size)).mono ?_
      rintro e w1 ⟨rfl, h1, b1, o1⟩
      have H1 := Lib.hid (bytes_more (by omega) (by omega) h1)
      have B1 := Lib.hid (HB2.out.trans b1)
      have O1 := Lib.hid (HO2.out.trans o1)
      clear h1 b1 o1
      go_wp2_with fail
      refine ⟨⟨k + 1, by omega, by go_num, Or.inr ?_, B1.out, O1.out⟩, by simp [intOf]; omega⟩
      have h := H1.out
      rw [HN.out, ← List.append_assoc]
      simpa using h
    · have HN := Lib.hid (show s.data.toList.take k = s.data.toList from List.take_of_length_le (by rw [size_list]; omega))
      go_wp2_with fail
      go_end0
      exact ⟨rfl, by have h := HI2.out; rw [HN.out] at h; exact h, HB2.out, HO2.out⟩
set_option maxHeartbeats 400000 in
theorem copyText_any (s : ByteArray) (w : World) (hl : s.size ≤ 140737488355328) :
    Calls Try.prog 23 #[.string s] w fun e w' => e = .returned (.string s) ∧ Below w.heap.size w w' := by
  have hf := Lib.fresh_isBuilder 64 5 w
  have HW := Lib.hid (writeText_any w.heap.size w.heap.size [] s (w.alloc (.cells #[.pointer none, .slice none 0 0] 64)) (Lib.IsBuilderF.of hf) (by simpa using hl) (by simp))
  clear hf
  go_enter Try.func23, Try.ntmps23
  go_wp2_with fail
  refine HW.out.mono ?_
  rintro e w1 ⟨rfl, h1, b1, o1⟩
  have HS := Lib.hid (string_k w.heap.size w.heap.size ([] ++ s.data.toList) w1 h1 (by have := b1.size; simp at this; omega))
  have B1 := Lib.hid (((Below.refl w.heap.size w).alloc (Nat.le_refl _) _).trans b1)
  clear h1 b1 o1
  go_wp2_with fail
  refine HS.out.mono ?_
  rintro e w2 ⟨rfl, h2, b2, o2⟩
  go_wp2_with fail
  go_ret
  exact ⟨by simp, B1.out.trans b2⟩
end Go.Proofs.Ytaihdjdaamglnac
/- copyCore: new cells, new texts. -/
namespace Go.Proofs.Ytaihdjdaamglnac
set_option linter.unusedVariables false
set_option linter.unusedSimpArgs false
open Go.RowKit
/-- append of one cell to a row of one's own, at a step of a region that draws -/
theorem step_cells {ops : Array Oper} {o : Oper} {a : Act} {K : Act → World → Prop} {Q : Exit → Act → World → Prop} {E : Prop} (hgd : o.guard = none) (s x : Operand)
    (ho : o.op = .call { callee := .builtin .append, args := #[s, x], argTypes := #[32, 32] }) (B : Nat) (v : Value) (l : List CellD) (y : CellD) (w : World) (blk : Nat)
    (hs : a.eval s = v) (hO : OwnsF cCell 96 2 w B v l) (hx : a.eval x = .slice (some ⟨blk, 0, none⟩) 1 1) (hc : ∀ j, j < 2 → w.cell? ⟨blk, j, none⟩ = (cCell y)[j]?) (hl : l.length ≤ 4194304) (hB : B ≤ w.heap.size)
    (h : ∀ v' w', OwnsF cCell 96 2 w' B v' (l ++ [y]) → w.grownBy w' v.ownBlock → K (a.put o.dst v') w') : if Region.wanted o (yielded ops a.tmps) = true then Oper.wp Try.prog o a w K Q else E := by
  obtain ⟨i0, hi, hz0, hz1, hz2⟩ := info_parts cell_info
  refine step_append_lies w hgd s x 32 ho B 96 i0 _ 2 24 Try.underlying32 hi hz0 hz1 hz2 rfl (by decide) v l.length (l.flatMap cCell) hs hO ⟨blk, 0, none⟩ 1 1 (cCell y) hx rfl ?_ (cCell_one y) (by decide) (by unfold maxLen; omega) (by omega) hB _ rfl ?_
  · intro j u hj
    have hj2 : j < 2 := (List.getElem?_eq_some_iff.1 hj).1
    rw [Addr.add_lit, Nat.zero_add, hc j hj2]; exact hj
  · intro g cap w' h1 h2 _ _
    refine h _ w' ?_ h2
    unfold OwnsF; rw [List.flatMap_append, List.length_append]; simpa using h1
theorem ownsF_drew {α : Type} {f : α → List Value} {E k : Nat} {w : World} {B : Nat} {v : Value} {l : List α} (h : OwnsF f E k w B v l) : OwnsF f E k w.drew B v l := h
set_option maxRecDepth 100000 in
set_option maxHeartbeats 3200000 in
theorem copyCore_c (v : Value) (d : CoreD) (w : World) (hx : CoreAt w v d) (hm : d.fCells.length ≤ 2097152) (hs : ∀ c ∈ d.fCells, c.fKey.length ≤ 1048576) (hk : d.fKind.length ≤ 1048576) :
    Calls Try.prog 56 #[v] w fun e w' => GivesCore d w e w' := by
  obtain ⟨cv, rfl, hx⟩ := hx
  obtain ⟨i0, hi, hz0, hz1, hz2⟩ := info_parts cell_info
  obtain ⟨kd, on, br, l, cnt⟩ := d
  unfold vCore
  simp only at *
  obtain ⟨a, c, rfl, hl⟩ := flatAt_len hx
  have HX := Lib.hid hx
  have HS := Lib.hid hs
  clear hx hs
  unfold maxLen at hl
  have HB0 := Lib.hid (show ∀ o1 o2, Below w.heap.size w ((w.alloc o1).alloc o2) from fun o1 o2 => ((Below.refl _ _).alloc (Nat.le_refl _) _).alloc (by simp) _)
  have HKD := Lib.hid (fun W => copyText_any ⟨kd.toArray⟩ W (by rw [← size_list]; simp; omega))
  have hb2 : i0.bytes * l.length ≤ 281474976710656 := by rw [hz2]; omega
  have HB2 := Lib.hid hb2
  have HM := Lib.hid (show l.length ≤ maxLen from by unfold maxLen; omega)
  clear hb2
  go_enter Try.func56, Try.ntmps56
  go_wp2_with (refine wpList_make_own _ rfl _ _ 32 rfl (w.heap.size + 1 + 1) 96 i0 _ 2 Try.underlying32 hi hz0 hz1 .i64 .i64 _ l.length rfl rfl rfl HB2.out HM.out (by simp) ?_; intro w1 hown1 hgrow1; have q0 : w1.cell? ⟨w.heap.size, 0, none⟩ = some (.string ⟨kd.toArray⟩) := hgrow1.cell (a := ⟨w.heap.size, 0, none⟩) (by simp [go_sem]) (by simp); have q1 : w1.cell? ⟨w.heap.size, 1, none⟩ = some (.bool on) := hgrow1.cell (a := ⟨w.heap.size, 1, none⟩) (by simp [go_sem]) (by simp); have q2 : w1.cell? ⟨w.heap.size, 2, none⟩ = some (.bool br) := hgrow1.cell (a := ⟨w.heap.size, 2, none⟩) (by simp [go_sem]) (by simp); have q3 : w1.cell? ⟨w.heap.size, 3, none⟩ = some (.slice a l.length c) := hgrow1.cell (a := ⟨w.heap.size, 3, none⟩) (by simp [go_sem]) (by simp); have q4 : w1.cell? ⟨w.heap.size, 4, none⟩ = some (.int .i64 cnt) := hgrow1.cell (a := ⟨w.heap.size, 4, none⟩) (by simp [go_sem]) (by simp); have r0 : w1.cell? ⟨w.heap.size + 1, 0, none⟩ = some (.string ⟨#[]⟩) := hgrow1.cell (a := ⟨w.heap.size + 1, 0, none⟩) (by simp [go_sem]) (by simp); have r1 : w1.cell? ⟨w.heap.size + 1, 1, none⟩ = some (.bool false) := hgrow1.cell (a := ⟨w.heap.size + 1, 1, none⟩) (by simp [go_sem]) (by simp); have r2 : w1.cell? ⟨w.heap.size + 1, 2, none⟩ = some (.bool false) := hgrow1.cell (a := ⟨w.heap.size + 1, 2, none⟩) (by simp [go_sem]) (by simp); have r3 : w1.cell? ⟨w.heap.size + 1, 3, none⟩ = some (.slice none 0 0) := hgrow1.cell (a := ⟨w.heap.size + 1, 3, none⟩) (by simp [go_sem]) (by simp); have r4 : w1.cell? ⟨w.heap.size + 1, 4, none⟩ = some (.int .i64 0) := hgrow1.cell (a := ⟨w.heap.size + 1, 4, none⟩) (by simp [go_sem]) (by simp))
  have HO0 := Lib.hid (show OwnsF cCell 96 2 w1 (w.heap.size + 1 + 1) (.slice (some ⟨w.heap.size + 1 + 1, 0, none⟩) 0 l.length) (l.take 0) from by simpa [OwnsF] using hown1)
  have HW1 := Lib.hid (show Below w.heap.size w w1 from (HB0.out _ _).trans ⟨hgrow1.os, hgrow1.tape, hgrow1.output, hgrow1.size, fun i hi => hgrow1.block i (by simp; omega) (by simp)⟩)
  have HS1 := Lib.hid (show w.heap.size + 1 + 1 ≤ w1.heap.size from by simpa using hgrow1.size)
  have HQ := Lib.hid (And.intro q0 (And.intro q1 (And.intro q2 (And.intro q3 q4))))
  have HR := Lib.hid (And.intro r0 (And.intro r1 (And.intro r2 (And.intro r3 r4))))
  have HZ := Lib.hid (show ∀ i o, i < w.heap.size + 1 + 1 → w.heap.size ≤ i → w1.frozen? ⟨i, o, none⟩ = false from fun i o h1 h2 => by
    rw [World.frozen?_of_block (a := ⟨i, o, none⟩) (hgrow1.block i (by simpa using h1) (by simp))]
    rcases (show i = w.heap.size ∨ i = w.heap.size + 1 by omega) with rfl | rfl <;> simp [go_sem])
  clear hown1 hgrow1 hz0 hz1 hz2 HB2 hi r0 r1 r2 r3 r4
  go_loopw [3, 5, 13] (fun u _ i wr => ∃ k : Nat, k ≤ l.length ∧ i = .int .i64 k ∧ OwnsF cCell 96 2 wr (w.heap.size + 1 + 1) u (l.take k) ∧ Below (w.heap.size + 1 + 1) w1 wr) (fun _ _ i _ => l.length - (intOf i).toNat)
  case atStart => exact ⟨0, Nat.zero_le _, rfl, HO0.out, Below.refl _ _⟩
  case round =>
    obtain ⟨k, hk2, rfl, hO, hb⟩ := hrel
    have HO := Lib.hid hO
    have HB := Lib.hid hb
    have HBw := Lib.hid (show Below w.heap.size w wr from HW1.out.trans (hb.mono (by omega)))
    have HXr := Lib.hid (FlatAt.below HX.out HBw.out (Nat.le_refl _))
    have HLT := Lib.hid (show ∀ g, u3.ownBlock = some g → g < wr.heap.size from fun g h => (World.ownsRow.lt hO g h).2)
    have HSZ := Lib.hid (Nat.le_trans HS1.out hb.size)
    clear hO hb
    by_cases hlt : k < l.length
    · obtain ⟨b, o, rfl, hbl, hd⟩ := flatAt_cell cCell_len HXr.out k hlt (by decide)
      have d0 := hd 0 (by decide)
      have d1 := hd 1 (by decide)
      clear hd
      have HSN := Lib.hid (show l.take (k + 1) = l.take k ++ [l[k]] from by rw [List.take_succ_eq_append_getElem hlt])
      have hks := HS.out l[k] (List.getElem_mem hlt)
      generalize l[k] = p at *
      obtain ⟨a0, a1⟩ := p
      simp only [cCell, List.getElem?_cons_zero, List.getElem?_cons_succ, Nat.add_zero] at d0 d1 hks
      have HCT := Lib.hid (fun W => copyText_any ⟨a0.toArray⟩ W (by rw [← size_list]; simp; omega))
      clear hks
      go_wp2_with fail
      go_region_held3 (fun w' => w'.cell? ⟨wr.heap.size, 0, none⟩ = some (.string ⟨a0.toArray⟩) ∧ w'.cell? ⟨wr.heap.size, 1, none⟩ = some (.int .i64 a1))
        (first
          | go_keep
          | (rw [hb1.cell (p := ⟨wr.heap.size, 0, none⟩) (by simp), hb1.cell (p := ⟨wr.heap.size, 1, none⟩) (by simp)]; assumption)
          | (rw [hg1.cell_far ⟨wr.heap.size, 0, none⟩ (by have := hb1.size; simp at *; omega) (by intro e; have := HLT.out _ e.symm; simp at this), hg1.cell_far ⟨wr.heap.size, 1, none⟩ (by have := hb1.size; simp at *; omega) (by intro e; have := HLT.out _ e.symm; simp at this)]; assumption))
        (first
          | (go_at_call 23; (with_reducible refine (HCT.out _).mono ?_); rintro e w2 ⟨rfl, hb1⟩)
          | (refine step_cells rfl _ _ rfl (w.heap.size + 1 + 1) u3 (l.take k) ⟨a0, a1⟩ _ w2.heap.size rfl (ownsF_alloc (ownsF_below (ownsF_drew (ownsF_alloc HO.out _)) hb1 (Nat.le_refl _)) _) rfl (cell_newC w2 ⟨a0, a1⟩ _ rfl) ?_ ?_ ?_; (simp; omega); (have h1 := hb1.size; have h2 := HSZ.out; simp at h1; simp; omega); intro v' w4 hO4 hg1))
      have HA := Lib.hid (((Below.refl wr.heap.size wr).alloc (Nat.le_refl _) (.cells #[.string ⟨a0.toArray⟩, .int .i64 a1] 96)).drew)
      have HA1 := Lib.hid ((HA.out.trans (hb1.mono HA.out.size)).alloc (HA.out.trans (hb1.mono HA.out.size)).size (.cells #[.string ⟨a0.toArray⟩, .int .i64 a1] 96))
      have HA2 := Lib.hid (HB.out.trans (HA1.out.mono (HSZ.out)))
      have HA3 := Lib.hid (below_appendF HA2.out (ownsF_alloc (ownsF_below (ownsF_drew (ownsF_alloc HO.out _)) hb1 (Nat.le_refl _)) _) hg1 (Nat.le_trans HS1.out HA2.out.size))
      have HO4 := Lib.hid hO4
      rename_i hheld
      clear hb1 hg1 hO4 hheld
      go_wp2_with fail
      exact ⟨⟨k + 1, by omega, by go_num, by rw [HSN.out]; exact HO4.out, HA3.out⟩, by simp [intOf]; omega⟩
    · have HOl := Lib.hid (show OwnsF cCell 96 2 wr (w.heap.size + 1 + 1) u3 l from by have h := HO.out; rw [List.take_of_length_le (by omega)] at h; exact h)
      obtain ⟨ua, uc, rfl⟩ : ∃ ua uc, u3 = .slice ua l.length uc := by
        rcases HOl.out.2 with ⟨rfl, hn⟩ | ⟨g, cap, cur, rfl, _⟩
        · exact ⟨none, 0, by rw [hn]⟩
        · exact ⟨_, _, rfl⟩
      obtain ⟨q0, q1, q2, q3, q4⟩ := HQ.out
      obtain ⟨r0, r1, r2, r3, r4⟩ := HR.out
      replace q0 := (HB.out.cell (p := ⟨w.heap.size, 0, none⟩) (by simp; omega)).trans q0
      replace q1 := (HB.out.cell (p := ⟨w.heap.size, 1, none⟩) (by simp; omega)).trans q1
      replace q2 := (HB.out.cell (p := ⟨w.heap.size, 2, none⟩) (by simp; omega)).trans q2
      replace q3 := (HB.out.cell (p := ⟨w.heap.size, 3, none⟩) (by simp; omega)).trans q3
      replace q4 := (HB.out.cell (p := ⟨w.heap.size, 4, none⟩) (by simp; omega)).trans q4
      replace r0 := (HB.out.cell (p := ⟨w.heap.size + 1, 0, none⟩) (by simp)).trans r0
      replace r1 := (HB.out.cell (p := ⟨w.heap.size + 1, 1, none⟩) (by simp)).trans r1
      replace r2 := (HB.out.cell (p := ⟨w.heap.size + 1, 2, none⟩) (by simp)).trans r2
      replace r3 := (HB.out.cell (p := ⟨w.heap.size + 1, 3, none⟩) (by simp)).trans r3
      replace r4 := (HB.out.cell (p := ⟨w.heap.size + 1, 4, none⟩) (by simp)).trans r4
      have z0 : ∀ o, wr.frozen? ⟨w.heap.size, o, none⟩ = false := fun o => (HB.out.frozen (p := ⟨w.heap.size, o, none⟩) (by simp; omega)).trans (HZ.out _ o (by omega) (by omega))
      have z1 : ∀ o, wr.frozen? ⟨w.heap.size + 1, o, none⟩ = false := fun o => (HB.out.frozen (p := ⟨w.heap.size + 1, o, none⟩) (by simp)).trans (HZ.out _ o (by omega) (by omega))
      have hsz := HSZ.out
      have hl0 : w.heap.size < wr.heap.size := by omega
      have hl1 : w.heap.size + 1 < wr.heap.size := by omega
      go_wp2_with fail
      refine (HKD.out _).mono ?_
      rintro e w5 ⟨rfl, hb5⟩
      have HB5 := Lib.hid hb5
      obtain ⟨hcc, hff⟩ := bcell hb5
      clear hb5
      go_wp2_with fail
      refine bodyPost_ret (v := .agg #[.string ⟨kd.toArray⟩, .bool on, .bool br, .slice ua l.length uc, .int .i64 cnt]) (by simp [results, Try.results56, go_sem, cell_set_at, cell_set_ne, hcc, q0, q1, q2, q3, q4, r0, r1, r2, r3, r4, hl0, hl1]) rfl ?_
      refine ⟨_, rfl, ⟨_, rfl, ?_⟩, ?_⟩
      · refine ownsF_base (B := w.heap.size + 1 + 1) ?_ (by omega)
        repeat (with_reducible refine ownsF_set ?_ (by simp; try omega))
        exact ownsF_below HOl.out HB5.out (Nat.le_refl _)
      · repeat (with_reducible refine Below.setCell ?_ (by simp; try omega) _)
        exact HBw.out.trans (HB5.out.mono (by omega))
end Go.Proofs.Ytaihdjdaamglnac
/- copyPart: a part copied, its rows new. -/
namespace Go.Proofs.Ytaihdjdaamglnac
set_option linter.unusedVariables false
set_option linter.unusedSimpArgs false
open Go.RowKit
set_option maxRecDepth 100000 in
set_option maxHeartbeats 3200000 in
theorem copyPart_c (v : Value) (x : PartD) (w : World) (hx : ValAt rPart 0 w v x) (hs : SmallP x) :
    Calls Try.prog 45 #[v] w fun e w' => GivesOP x w e w' := by
  obtain ⟨_, rfl, hx⟩ := hx
  obtain ⟨i0, hi, hz0, hz1, hz2⟩ := info_parts infoLay
  obtain ⟨xc, l⟩ := x
  obtain ⟨v3, v5, rfl, h3, h5⟩ := hx
  have HCC := Lib.hid (fun W (hb : Below w.heap.size w W) => copyCore_c (vCore xc v3) xc W ⟨v3, rfl, FlatAt.below (flatAt_of_slice cCell_len (by decide) h3) hb (Nat.le_refl _)⟩ hs.cells hs.keys hs.kind)
  unfold GivesCore OwnsCore at HCC
  have HS := Lib.hid hs.names
  have hm := hs.lays
  simp only at h3 h5 HS hm
  obtain ⟨ra, rc, rfl, _⟩ := sliceAt_len h3
  obtain ⟨sa, sc, rfl, hl⟩ := sliceAt_len h5
  have H5 := Lib.hid h5
  obtain ⟨kd, on, br, cl, cnt⟩ := xc
  unfold vCore at HCC
  simp only at HCC h3 ⊢
  clear h3 h5 hs
  unfold maxLen at hl
  have hb2 : i0.bytes * l.length ≤ 281474976710656 := by rw [hz2]; omega
  have HB2 := Lib.hid hb2
  have HM := Lib.hid (show l.length ≤ maxLen from by unfold maxLen; omega)
  clear hb2
  have BS := Lib.hid (bx_start2 w [.string ⟨kd.toArray⟩, .bool on, .bool br, .slice ra cl.length rc, .int .i64 cnt, .slice sa l.length sc] [.string ⟨#[]⟩, .bool false, .bool false, .slice none 0 0, .int .i64 0, .slice none 0 0] 37 37)
  go_enter Try.func45, Try.ntmps45
  go_wp2_with (refine wpList_make_own _ rfl _ _ 35 rfl (w.heap.size + 1 + 1) 58 i0 _ 2 Try.underlying35 hi hz0 hz1 .i64 .i64 _ l.length rfl rfl rfl HB2.out HM.out (by simp) ?_; intro w1 hown1 hgrow1; have BP := Lib.hid (BS.out.1.grown hgrow1 (by simp)); have BR := Lib.hid (BS.out.2.1.grown hgrow1 (by simp)); have e5 := BP.out.cell 5 (by simp); simp only [List.getElem_cons_zero, List.getElem_cons_succ] at e5)
  have HO0 := Lib.hid (show OwnsF cLayer 58 2 w1 (w.heap.size + 1 + 1) (.slice (some ⟨w.heap.size + 1 + 1, 0, none⟩) 0 l.length) (l.take 0) from by simpa [OwnsF] using hown1)
  have HW1 := Lib.hid (show Below w.heap.size w w1 from BS.out.2.2.trans ⟨hgrow1.os, hgrow1.tape, hgrow1.output, hgrow1.size, fun i hi => hgrow1.block i (by simp; omega) (by simp)⟩)
  have HS1 := Lib.hid (show w.heap.size + 1 + 1 ≤ w1.heap.size from by simpa using hgrow1.size)
  clear hown1 hgrow1 hz0 hz1 hz2 HB2 hi e5
  go_loopw [3, 5, 13] (fun u _ i wr => ∃ k : Nat, k ≤ l.length ∧ i = .int .i64 k ∧ OwnsF cLayer 58 2 wr (w.heap.size + 1 + 1) u (l.take k) ∧ Below (w.heap.size + 1 + 1) w1 wr) (fun _ _ i _ => l.length - (intOf i).toNat)
  case atStart => exact ⟨0, Nat.zero_le _, rfl, HO0.out, Below.refl _ _⟩
  case round =>
    obtain ⟨k, hk2, rfl, hO, hb⟩ := hrel
    have HO := Lib.hid hO
    have HB := Lib.hid hb
    have HBw := Lib.hid (show Below w.heap.size w wr from HW1.out.trans (hb.mono (by omega)))
    have HXr := Lib.hid (SliceAt.below H5.out (good_flat cLayer_len) HBw.out (Nat.le_refl _))
    have HLT := Lib.hid (show ∀ g, u3.ownBlock = some g → g < wr.heap.size from fun g h => (World.ownsRow.lt hO g h).2)
    have HSZ := Lib.hid (Nat.le_trans HS1.out hb.size)
    clear hO hb
    by_cases hlt : k < l.length
    · obtain ⟨b, o, cs, rfl, hbl, hat, hd⟩ := sliceAt_cell HXr.out k hlt
      have HSN := Lib.hid (show l.take (k + 1) = l.take k ++ [l[k]] from by rw [List.take_succ_eq_append_getElem hlt])
      have hks := HS.out l[k] (List.getElem_mem hlt)
      generalize l[k] = p at *
      obtain ⟨a0, a1⟩ := p
      simp only [rFlat, cLayer] at hat
      subst hat
      have d0 := hd 0 (by decide)
      have d1 := hd 1 (by decide)
      simp only [List.getElem?_cons_zero, List.getElem?_cons_succ, Nat.add_zero] at d0 d1 hks
      have HCT := Lib.hid (fun W => copyText_any ⟨a0.toArray⟩ W (by rw [← size_list]; simp; omega))
      clear hks hd
      go_wp2_with fail
      go_region_held3 (fun w' => w'.cell? ⟨wr.heap.size, 0, none⟩ = some (.string ⟨a0.toArray⟩) ∧ w'.cell? ⟨wr.heap.size, 1, none⟩ = some (.int .i64 a1))
        (first
          | go_keep
          | (rw [hb1.cell (p := ⟨wr.heap.size, 0, none⟩) (by simp), hb1.cell (p := ⟨wr.heap.size, 1, none⟩) (by simp)]; assumption)
          | (rw [hg1.cell_far ⟨wr.heap.size, 0, none⟩ (by have := hb1.size; simp at *; omega) (by intro e; have := HLT.out _ e.symm; simp at this), hg1.cell_far ⟨wr.heap.size, 1, none⟩ (by have := hb1.size; simp at *; omega) (by intro e; have := HLT.out _ e.symm; simp at this)]; assumption))
        (first
          | (go_at_call 23; (with_reducible refine (HCT.out _).mono ?_); rintro e w2 ⟨rfl, hb1⟩)
          | (refine step_lays rfl _ _ rfl (w.heap.size + 1 + 1) u3 (l.take k) ⟨a0, a1⟩ _ w2.heap.size rfl (ownsF_alloc (ownsF_below (ownsF_drew (ownsF_alloc HO.out _)) hb1 (Nat.le_refl _)) _) rfl (cell_newL w2 ⟨a0, a1⟩ _ rfl) ?_ ?_ ?_; (simp; omega); (have h1 := hb1.size; have h2 := HSZ.out; simp at h1; simp; omega); intro v' w4 hO4 hg1))
      have HA := Lib.hid (((Below.refl wr.heap.size wr).alloc (Nat.le_refl _) (.cells #[.string ⟨a0.toArray⟩, .int .i64 a1] 58)).drew)
      have HA1 := Lib.hid ((HA.out.trans (hb1.mono HA.out.size)).alloc (HA.out.trans (hb1.mono HA.out.size)).size (.cells #[.string ⟨a0.toArray⟩, .int .i64 a1] 58))
      have HA2 := Lib.hid (HB.out.trans (HA1.out.mono (HSZ.out)))
      have HA3 := Lib.hid (below_appendF HA2.out (ownsF_alloc (ownsF_below (ownsF_drew (ownsF_alloc HO.out _)) hb1 (Nat.le_refl _)) _) hg1 (Nat.le_trans HS1.out HA2.out.size))
      have HO4 := Lib.hid hO4
      rename_i hheld
      clear hb1 hg1 hO4 hheld
      go_wp2_with fail
      exact ⟨⟨k + 1, by omega, by go_num, by rw [HSN.out]; exact HO4.out, HA3.out⟩, by simp [intOf]; omega⟩
    · have HOl := Lib.hid (show OwnsF cLayer 58 2 wr (w.heap.size + 1 + 1) u3 l from by have h := HO.out; rw [List.take_of_length_le (by omega)] at h; exact h)
      obtain ⟨ua, uc, rfl⟩ := slice_of HOl.out
      have hsz := HSZ.out
      have BP2 := Lib.hid (BP.out.belowK HB.out (by omega))
      have BR2 := Lib.hid (BR.out.belowK HB.out (by omega))
      have q0 := BP2.out.cell 0 (by simp)
      have q1 := BP2.out.cell 1 (by simp)
      have q2 := BP2.out.cell 2 (by simp)
      have q3 := BP2.out.cell 3 (by simp)
      have q4 := BP2.out.cell 4 (by simp)
      have q5 := BP2.out.cell 5 (by simp)
      simp only [List.getElem_cons_zero, List.getElem_cons_succ] at q0 q1 q2 q3 q4 q5
      go_wp2_with fail
      refine (HCC.out _ HBw.out).mono ?_
      rintro e w5 ⟨_, rfl, ⟨cv, rfl, ho5⟩, hb5⟩
      obtain ⟨ga, gc, rfl⟩ := slice_of ho5
      have HB5 := Lib.hid hb5
      have HO5 := Lib.hid ho5
      have BR3 := Lib.hid (BR2.out.below hb5)
      clear hb5 ho5 q0 q1 q2 q3 q4 q5
      have r0 := BR3.out.cell 0 (by simp)
      have r1 := BR3.out.cell 1 (by simp)
      have r2 := BR3.out.cell 2 (by simp)
      have r3 := BR3.out.cell 3 (by simp)
      have r4 := BR3.out.cell 4 (by simp)
      have r5 := BR3.out.cell 5 (by simp)
      simp only [List.getElem_cons_zero, List.getElem_cons_succ] at r0 r1 r2 r3 r4 r5
      have z0 := BR3.out.froz 0 (by simp)
      have z1 := BR3.out.froz 1 (by simp)
      have z2 := BR3.out.froz 2 (by simp)
      have z3 := BR3.out.froz 3 (by simp)
      have z4 := BR3.out.froz 4 (by simp)
      have z5 := BR3.out.froz 5 (by simp)
      go_wp2_with fail
      clear r0 r1 r2 r3 r4 r5 z0 z1 z2 z3 z4 z5
      have BR4 := Lib.hid (BR3.out.put6 (.string ⟨kd.toArray⟩) (.bool on) (.bool br) (.slice ga cl.length gc) (.int .i64 cnt) (.slice ua l.length uc))
      have HB6 := Lib.hid (below_put6 (HBw.out.trans (HB5.out.mono HBw.out.size)) (w.heap.size + 1) (by omega) (.string ⟨kd.toArray⟩) (.bool on) (.bool br) (.slice ga cl.length gc) (.int .i64 cnt) (.slice ua l.length uc))
      have OC := Lib.hid (ownsF_put6 HO5.out (w.heap.size + 1) (by omega) (.string ⟨kd.toArray⟩) (.bool on) (.bool br) (.slice ga cl.length gc) (.int .i64 cnt) (.slice ua l.length uc))
      have OL := Lib.hid (ownsF_put6 (ownsF_below HOl.out HB5.out (Nat.le_refl _)) (w.heap.size + 1) (by omega) (.string ⟨kd.toArray⟩) (.bool on) (.bool br) (.slice ga cl.length gc) (.int .i64 cnt) (.slice ua l.length uc))
      generalize ((((((w5.setCell ⟨w.heap.size + 1, 0, none⟩ (.string ⟨kd.toArray⟩)).setCell ⟨w.heap.size + 1, 1, none⟩ (.bool on)).setCell ⟨w.heap.size + 1, 2, none⟩ (.bool br)).setCell ⟨w.heap.size + 1, 3, none⟩ (.slice ga cl.length gc)).setCell ⟨w.heap.size + 1, 4, none⟩ (.int .i64 cnt)).setCell ⟨w.heap.size + 1, 5, none⟩ (.slice ua l.length uc)) = WE at *
      have r0 := BR4.out.cell 0 (by simp)
      have r1 := BR4.out.cell 1 (by simp)
      have r2 := BR4.out.cell 2 (by simp)
      have r3 := BR4.out.cell 3 (by simp)
      have r4 := BR4.out.cell 4 (by simp)
      have r5 := BR4.out.cell 5 (by simp)
      simp only [List.getElem_cons_zero, List.getElem_cons_succ] at r0 r1 r2 r3 r4 r5
      exact bodyPost_ret (v := .agg #[.string ⟨kd.toArray⟩, .bool on, .bool br, .slice ga cl.length gc, .int .i64 cnt, .slice ua l.length uc]) (by simp [results, Try.results45, go_sem, r0, r1, r2, r3, r4, r5]) rfl ⟨_, rfl, ⟨_, _, rfl, ownsF_base OC.out (by omega), ownsF_base OL.out (by omega)⟩, HB6.out⟩
end Go.Proofs.Ytaihdjdaamglnac
/- What partOf hands out, by kind. -/
namespace Go.Proofs.Ytaihdjdaamglnac
set_option linter.unusedVariables false
set_option linter.unusedSimpArgs false
open Go.RowKit
def ptrs (b n : Nat) : Value := .agg (Array.replicate n (.pointer (some ⟨b, 0, none⟩)))
def partV (b : Nat) : Nat → Value
  | 0 => .iface 146 (.agg #[.pointer (some ⟨b, 0, none⟩)])
  | 1 => .iface 127 (.agg #[.pointer (some ⟨b, 0, none⟩), .pointer (some ⟨b, 0, none⟩)])
  | 2 => .iface 130 (.agg #[.pointer (some ⟨b, 0, none⟩), .pointer (some ⟨b, 0, none⟩)])
  | 3 => .iface 133 (.agg #[.pointer (some ⟨b, 0, none⟩), .pointer (some ⟨b, 0, none⟩), .pointer (some ⟨b, 0, none⟩)])
  | 4 => .iface 135 (.agg #[.pointer (some ⟨b, 0, none⟩), .pointer (some ⟨b, 0, none⟩), .pointer (some ⟨b, 0, none⟩)])
  | 5 => .iface 138 (.agg #[.pointer (some ⟨b, 0, none⟩), .pointer (some ⟨b, 0, none⟩), .pointer (some ⟨b, 0, none⟩)])
  | 6 => .iface 141 (.agg #[.pointer (some ⟨b, 0, none⟩), .pointer (some ⟨b, 0, none⟩), .pointer (some ⟨b, 0, none⟩), .pointer (some ⟨b, 0, none⟩)])
  | _ => .iface 144 (.agg #[.pointer (some ⟨b, 0, none⟩), .pointer (some ⟨b, 0, none⟩), .pointer (some ⟨b, 0, none⟩), .pointer (some ⟨b, 0, none⟩), .pointer (some ⟨b, 0, none⟩), .pointer (some ⟨b, 0, none⟩), .pointer (some ⟨b, 0, none⟩)])
set_option maxRecDepth 100000 in
set_option maxHeartbeats 1600000 in
theorem partOf_k (j : Nat) (hj : j < 8) (b : Nat) (w : World) (h : w.cell? ⟨b, 0, none⟩ = some (.string ⟨(kindN j).toArray⟩)) :
    Calls Try.prog 63 #[.pointer (some ⟨b, 0, none⟩)] w fun e w' => e = .returned (partV b j) ∧ Below w.heap.size w w' := by
  have hl0 := World.block_lt_of_cell? w _ h
  simp only at hl0
  have hn0 : ¬ b = w.heap.size := by omega
  rcases (show j = 0 ∨ j = 1 ∨ j = 2 ∨ j = 3 ∨ j = 4 ∨ j = 5 ∨ j = 6 ∨ j = 7 by omega) with rfl | rfl | rfl | rfl | rfl | rfl | rfl | rfl
  all_goals
    simp only [kindN] at h
    unfold partV
    go_enter Try.func63, Try.ntmps63
    go_wp2_with fail
    go_ret
    exact ⟨rfl, (Below.refl _ _).alloc (Nat.le_refl _) _⟩
end Go.Proofs.Ytaihdjdaamglnac
/- A part as a value of an interface type: its face, and which assertions it meets. Written by gen/ch4if.py. -/
namespace Go.Proofs.Ytaihdjdaamglnac
set_option linter.unusedVariables false
set_option linter.unusedSimpArgs false
open Go.RowKit

theorem bel_dr {B : Nat} {a w : World} (h : Below B a w) : Below B a w.drew := ⟨h.os, h.tape, h.output, h.size, h.block⟩
theorem off_bits : ∀ a : Fin 64, offersF ((a : Nat) : Int) 0 = true ∧ offersF ((a : Nat) : Int) 1 = hasI ((a : Nat) : Int) 0 ∧ offersF ((a : Nat) : Int) 2 = hasI ((a : Nat) : Int) 1 ∧ offersF ((a : Nat) : Int) 4 = hasI ((a : Nat) : Int) 2 ∧ offersF ((a : Nat) : Int) 3 = (hasI ((a : Nat) : Int) 0 && hasI ((a : Nat) : Int) 1) := by decide +kernel
/-- the type T meets an assertion to I, or it does not -/
def Meets (I T : TypeId) (b : Bool) : Prop := match b with | true => Has I T | false => Fails I T
structure Ass (T : TypeId) (f : Int) : Prop where
  face : isF f = true
  run : Meets 102 T (offersF f 1)
  keep : Meets 106 T (offersF f 2)
  tell : Meets 118 T (offersF f 4)
  both : Meets 111 T (offersF f 3)
theorem as_run_k0 : Meets 102 146 (offersF 0 1) := (show offersF 0 1 = false by decide +kernel) ▸ (show Fails 102 146 from fails_of Try.underlying102 (by kernel_rfl))
theorem as_keep_k0 : Meets 106 146 (offersF 0 2) := (show offersF 0 2 = false by decide +kernel) ▸ (show Fails 106 146 from fails_of Try.underlying106 (by kernel_rfl))
theorem as_tell_k0 : Meets 118 146 (offersF 0 4) := (show offersF 0 4 = false by decide +kernel) ▸ (show Fails 118 146 from fails_of Try.underlying118 (by kernel_rfl))
theorem as_both_k0 : Meets 111 146 (offersF 0 3) := (show offersF 0 3 = false by decide +kernel) ▸ (show Fails 111 146 from fails_of Try.underlying111 (by kernel_rfl))
theorem ass_k0 : Ass 146 0 := ⟨by decide, as_run_k0, as_keep_k0, as_tell_k0, as_both_k0⟩
theorem fk_0 (b : Nat) : ∀ (fuel : Nat) (w : World), (method (fuel + 1) 146 (.agg #[.pointer (some ⟨b, 0, none⟩)]) "loop.example/g03016/impl.face").run Try.prog w = .ok (104, .agg #[.pointer (some ⟨b, 0, none⟩)]) w := by intro fuel w; kernel_rfl
theorem fn_0 (b : Nat) : ∀ (fuel : Nat) (w : World), (nilAhead (fuel + 1) 146 (.agg #[.pointer (some ⟨b, 0, none⟩)]) "loop.example/g03016/impl.face").run Try.prog w = .ok (some false) w := by intro fuel w; kernel_rfl
theorem as_run_k1 : Meets 102 127 (offersF 1 1) := (show offersF 1 1 = true by decide +kernel) ▸ (show Has 102 127 from ta_has Try.underlying102 (by kernel_rfl))
theorem as_keep_k1 : Meets 106 127 (offersF 1 2) := (show offersF 1 2 = false by decide +kernel) ▸ (show Fails 106 127 from fails_of Try.underlying106 (by kernel_rfl))
theorem as_tell_k1 : Meets 118 127 (offersF 1 4) := (show offersF 1 4 = false by decide +kernel) ▸ (show Fails 118 127 from fails_of Try.underlying118 (by kernel_rfl))
theorem as_both_k1 : Meets 111 127 (offersF 1 3) := (show offersF 1 3 = false by decide +kernel) ▸ (show Fails 111 127 from fails_of Try.underlying111 (by kernel_rfl))
theorem ass_k1 : Ass 127 1 := ⟨by decide, as_run_k1, as_keep_k1, as_tell_k1, as_both_k1⟩
theorem fk_1 (b : Nat) : ∀ (fuel : Nat) (w : World), (method (fuel + 1) 127 (.agg #[.pointer (some ⟨b, 0, none⟩), .pointer (some ⟨b, 0, none⟩)]) "loop.example/g03016/impl.face").run Try.prog w = .ok (104, .agg #[.pointer (some ⟨b, 0, none⟩)]) w := by intro fuel w; kernel_rfl
theorem fn_1 (b : Nat) : ∀ (fuel : Nat) (w : World), (nilAhead (fuel + 1) 127 (.agg #[.pointer (some ⟨b, 0, none⟩), .pointer (some ⟨b, 0, none⟩)]) "loop.example/g03016/impl.face").run Try.prog w = .ok (some false) w := by intro fuel w; kernel_rfl
theorem as_run_k2 : Meets 102 130 (offersF 2 1) := (show offersF 2 1 = false by decide +kernel) ▸ (show Fails 102 130 from fails_of Try.underlying102 (by kernel_rfl))
theorem as_keep_k2 : Meets 106 130 (offersF 2 2) := (show offersF 2 2 = true by decide +kernel) ▸ (show Has 106 130 from ta_has Try.underlying106 (by kernel_rfl))
theorem as_tell_k2 : Meets 118 130 (offersF 2 4) := (show offersF 2 4 = false by decide +kernel) ▸ (show Fails 118 130 from fails_of Try.underlying118 (by kernel_rfl))
theorem as_both_k2 : Meets 111 130 (offersF 2 3) := (show offersF 2 3 = false by decide +kernel) ▸ (show Fails 111 130 from fails_of Try.underlying111 (by kernel_rfl))
theorem ass_k2 : Ass 130 2 := ⟨by decide, as_run_k2, as_keep_k2, as_tell_k2, as_both_k2⟩
theorem fk_2 (b : Nat) : ∀ (fuel : Nat) (w : World), (method (fuel + 1) 130 (.agg #[.pointer (some ⟨b, 0, none⟩), .pointer (some ⟨b, 0, none⟩)]) "loop.example/g03016/impl.face").run Try.prog w = .ok (104, .agg #[.pointer (some ⟨b, 0, none⟩)]) w := by intro fuel w; kernel_rfl
theorem fn_2 (b : Nat) : ∀ (fuel : Nat) (w : World), (nilAhead (fuel + 1) 130 (.agg #[.pointer (some ⟨b, 0, none⟩), .pointer (some ⟨b, 0, none⟩)]) "loop.example/g03016/impl.face").run Try.prog w = .ok (some false) w := by intro fuel w; kernel_rfl
theorem as_run_k3 : Meets 102 133 (offersF 5 1) := (show offersF 5 1 = true by decide +kernel) ▸ (show Has 102 133 from ta_has Try.underlying102 (by kernel_rfl))
theorem as_keep_k3 : Meets 106 133 (offersF 5 2) := (show offersF 5 2 = false by decide +kernel) ▸ (show Fails 106 133 from fails_of Try.underlying106 (by kernel_rfl))
theorem as_tell_k3 : Meets 118 133 (offersF 5 4) := (show offersF 5 4 = true by decide +kernel) ▸ (show Has 118 133 from ta_has Try.underlying118 (by kernel_rfl))
theorem as_both_k3 : Meets 111 133 (offersF 5 3) := (show offersF 5 3 = false by decide +kernel) ▸ (show Fails 111 133 from fails_of Try.underlying111 (by kernel_rfl))
theorem ass_k3 : Ass 133 5 := ⟨by decide, as_run_k3, as_keep_k3, as_tell_k3, as_both_k3⟩
theorem fk_3 (b : Nat) : ∀ (fuel : Nat) (w : World), (method (fuel + 1) 133 (.agg #[.pointer (some ⟨b, 0, none⟩), .pointer (some ⟨b, 0, none⟩), .pointer (some ⟨b, 0, none⟩)]) "loop.example/g03016/impl.face").run Try.prog w = .ok (104, .agg #[.pointer (some ⟨b, 0, none⟩)]) w := by intro fuel w; kernel_rfl
theorem fn_3 (b : Nat) : ∀ (fuel : Nat) (w : World), (nilAhead (fuel + 1) 133 (.agg #[.pointer (some ⟨b, 0, none⟩), .pointer (some ⟨b, 0, none⟩), .pointer (some ⟨b, 0, none⟩)]) "loop.example/g03016/impl.face").run Try.prog w = .ok (some false) w := by intro fuel w; kernel_rfl
theorem as_run_k4 : Meets 102 135 (offersF 3 1) := (show offersF 3 1 = true by decide +kernel) ▸ (show Has 102 135 from ta_has Try.underlying102 (by kernel_rfl))
theorem as_keep_k4 : Meets 106 135 (offersF 3 2) := (show offersF 3 2 = true by decide +kernel) ▸ (show Has 106 135 from ta_has Try.underlying106 (by kernel_rfl))
theorem as_tell_k4 : Meets 118 135 (offersF 3 4) := (show offersF 3 4 = false by decide +kernel) ▸ (show Fails 118 135 from fails_of Try.underlying118 (by kernel_rfl))
theorem as_both_k4 : Meets 111 135 (offersF 3 3) := (show offersF 3 3 = true by decide +kernel) ▸ (show Has 111 135 from ta_has Try.underlying111 (by kernel_rfl))
theorem ass_k4 : Ass 135 3 := ⟨by decide, as_run_k4, as_keep_k4, as_tell_k4, as_both_k4⟩
theorem fk_4 (b : Nat) : ∀ (fuel : Nat) (w : World), (method (fuel + 1) 135 (.agg #[.pointer (some ⟨b, 0, none⟩), .pointer (some ⟨b, 0, none⟩), .pointer (some ⟨b, 0, none⟩)]) "loop.example/g03016/impl.face").run Try.prog w = .ok (104, .agg #[.pointer (some ⟨b, 0, none⟩)]) w := by intro fuel w; kernel_rfl
theorem fn_4 (b : Nat) : ∀ (fuel : Nat) (w : World), (nilAhead (fuel + 1) 135 (.agg #[.pointer (some ⟨b, 0, none⟩), .pointer (some ⟨b, 0, none⟩), .pointer (some ⟨b, 0, none⟩)]) "loop.example/g03016/impl.face").run Try.prog w = .ok (some false) w := by intro fuel w; kernel_rfl
theorem as_run_k5 : Meets 102 138 (offersF 9 1) := (show offersF 9 1 = true by decide +kernel) ▸ (show Has 102 138 from ta_has Try.underlying102 (by kernel_rfl))
theorem as_keep_k5 : Meets 106 138 (offersF 9 2) := (show offersF 9 2 = false by decide +kernel) ▸ (show Fails 106 138 from fails_of Try.underlying106 (by kernel_rfl))
theorem as_tell_k5 : Meets 118 138 (offersF 9 4) := (show offersF 9 4 = false by decide +kernel) ▸ (show Fails 118 138 from fails_of Try.underlying118 (by kernel_rfl))
theorem as_both_k5 : Meets 111 138 (offersF 9 3) := (show offersF 9 3 = false by decide +kernel) ▸ (show Fails 111 138 from fails_of Try.underlying111 (by kernel_rfl))
theorem ass_k5 : Ass 138 9 := ⟨by decide, as_run_k5, as_keep_k5, as_tell_k5, as_both_k5⟩
theorem fk_5 (b : Nat) : ∀ (fuel : Nat) (w : World), (method (fuel + 1) 138 (.agg #[.pointer (some ⟨b, 0, none⟩), .pointer (some ⟨b, 0, none⟩), .pointer (some ⟨b, 0, none⟩)]) "loop.example/g03016/impl.face").run Try.prog w = .ok (104, .agg #[.pointer (some ⟨b, 0, none⟩)]) w := by intro fuel w; kernel_rfl
theorem fn_5 (b : Nat) : ∀ (fuel : Nat) (w : World), (nilAhead (fuel + 1) 138 (.agg #[.pointer (some ⟨b, 0, none⟩), .pointer (some ⟨b, 0, none⟩), .pointer (some ⟨b, 0, none⟩)]) "loop.example/g03016/impl.face").run Try.prog w = .ok (some false) w := by intro fuel w; kernel_rfl
theorem as_run_k6 : Meets 102 141 (offersF 19 1) := (show offersF 19 1 = true by decide +kernel) ▸ (show Has 102 141 from ta_has Try.underlying102 (by kernel_rfl))
theorem as_keep_k6 : Meets 106 141 (offersF 19 2) := (show offersF 19 2 = true by decide +kernel) ▸ (show Has 106 141 from ta_has Try.underlying106 (by kernel_rfl))
theorem as_tell_k6 : Meets 118 141 (offersF 19 4) := (show offersF 19 4 = false by decide +kernel) ▸ (show Fails 118 141 from fails_of Try.underlying118 (by kernel_rfl))
theorem as_both_k6 : Meets 111 141 (offersF 19 3) := (show offersF 19 3 = true by decide +kernel) ▸ (show Has 111 141 from ta_has Try.underlying111 (by kernel_rfl))
theorem ass_k6 : Ass 141 19 := ⟨by decide, as_run_k6, as_keep_k6, as_tell_k6, as_both_k6⟩
theorem fk_6 (b : Nat) : ∀ (fuel : Nat) (w : World), (method (fuel + 1) 141 (.agg #[.pointer (some ⟨b, 0, none⟩), .pointer (some ⟨b, 0, none⟩), .pointer (some ⟨b, 0, none⟩), .pointer (some ⟨b, 0, none⟩)]) "loop.example/g03016/impl.face").run Try.prog w = .ok (104, .agg #[.pointer (some ⟨b, 0, none⟩)]) w := by intro fuel w; kernel_rfl
theorem fn_6 (b : Nat) : ∀ (fuel : Nat) (w : World), (nilAhead (fuel + 1) 141 (.agg #[.pointer (some ⟨b, 0, none⟩), .pointer (some ⟨b, 0, none⟩), .pointer (some ⟨b, 0, none⟩), .pointer (some ⟨b, 0, none⟩)]) "loop.example/g03016/impl.face").run Try.prog w = .ok (some false) w := by intro fuel w; kernel_rfl
theorem as_run_k7 : Meets 102 144 (offersF 63 1) := (show offersF 63 1 = true by decide +kernel) ▸ (show Has 102 144 from ta_has Try.underlying102 (by kernel_rfl))
theorem as_keep_k7 : Meets 106 144 (offersF 63 2) := (show offersF 63 2 = true by decide +kernel) ▸ (show Has 106 144 from ta_has Try.underlying106 (by kernel_rfl))
theorem as_tell_k7 : Meets 118 144 (offersF 63 4) := (show offersF 63 4 = true by decide +kernel) ▸ (show Has 118 144 from ta_has Try.underlying118 (by kernel_rfl))
theorem as_both_k7 : Meets 111 144 (offersF 63 3) := (show offersF 63 3 = true by decide +kernel) ▸ (show Has 111 144 from ta_has Try.underlying111 (by kernel_rfl))
theorem ass_k7 : Ass 144 63 := ⟨by decide, as_run_k7, as_keep_k7, as_tell_k7, as_both_k7⟩
theorem fk_7 (b : Nat) : ∀ (fuel : Nat) (w : World), (method (fuel + 1) 144 (.agg #[.pointer (some ⟨b, 0, none⟩), .pointer (some ⟨b, 0, none⟩), .pointer (some ⟨b, 0, none⟩), .pointer (some ⟨b, 0, none⟩), .pointer (some ⟨b, 0, none⟩), .pointer (some ⟨b, 0, none⟩), .pointer (some ⟨b, 0, none⟩)]) "loop.example/g03016/impl.face").run Try.prog w = .ok (104, .agg #[.pointer (some ⟨b, 0, none⟩)]) w := by intro fuel w; kernel_rfl
theorem fn_7 (b : Nat) : ∀ (fuel : Nat) (w : World), (nilAhead (fuel + 1) 144 (.agg #[.pointer (some ⟨b, 0, none⟩), .pointer (some ⟨b, 0, none⟩), .pointer (some ⟨b, 0, none⟩), .pointer (some ⟨b, 0, none⟩), .pointer (some ⟨b, 0, none⟩), .pointer (some ⟨b, 0, none⟩), .pointer (some ⟨b, 0, none⟩)]) "loop.example/g03016/impl.face").run Try.prog w = .ok (some false) w := by intro fuel w; kernel_rfl
theorem as_run_l0 : Meets 102 122 (offersF 0 1) := (show offersF 0 1 = false by decide +kernel) ▸ (show Fails 102 122 from fails_of Try.underlying102 (by kernel_rfl))
theorem as_keep_l0 : Meets 106 122 (offersF 0 2) := (show offersF 0 2 = false by decide +kernel) ▸ (show Fails 106 122 from fails_of Try.underlying106 (by kernel_rfl))
theorem as_tell_l0 : Meets 118 122 (offersF 0 4) := (show offersF 0 4 = false by decide +kernel) ▸ (show Fails 118 122 from fails_of Try.underlying118 (by kernel_rfl))
theorem as_both_l0 : Meets 111 122 (offersF 0 3) := (show offersF 0 3 = false by decide +kernel) ▸ (show Fails 111 122 from fails_of Try.underlying111 (by kernel_rfl))
theorem ass_l0 : Ass 122 0 := ⟨by decide, as_run_l0, as_keep_l0, as_tell_l0, as_both_l0⟩
theorem fl_0 (b o : Nat) : ∀ (fuel : Nat) (w : World), (method (fuel + 1) 122 (.agg #[.pointer (some ⟨b, o, none⟩)]) "loop.example/g03016/impl.face").run Try.prog w = .ok (96, .agg #[.pointer (some ⟨b, o, none⟩)]) w := by intro fuel w; kernel_rfl
theorem fm_0 (b o : Nat) : ∀ (fuel : Nat) (w : World), (nilAhead (fuel + 1) 122 (.agg #[.pointer (some ⟨b, o, none⟩)]) "loop.example/g03016/impl.face").run Try.prog w = .ok (some false) w := by intro fuel w; kernel_rfl
theorem as_run_l1 : Meets 102 104 (offersF 1 1) := (show offersF 1 1 = true by decide +kernel) ▸ (show Has 102 104 from ta_has Try.underlying102 (by kernel_rfl))
theorem as_keep_l1 : Meets 106 104 (offersF 1 2) := (show offersF 1 2 = false by decide +kernel) ▸ (show Fails 106 104 from fails_of Try.underlying106 (by kernel_rfl))
theorem as_tell_l1 : Meets 118 104 (offersF 1 4) := (show offersF 1 4 = false by decide +kernel) ▸ (show Fails 118 104 from fails_of Try.underlying118 (by kernel_rfl))
theorem as_both_l1 : Meets 111 104 (offersF 1 3) := (show offersF 1 3 = false by decide +kernel) ▸ (show Fails 111 104 from fails_of Try.underlying111 (by kernel_rfl))
theorem ass_l1 : Ass 104 1 := ⟨by decide, as_run_l1, as_keep_l1, as_tell_l1, as_both_l1⟩
theorem fl_1 (b o : Nat) (T : TypeId) (V : Value) : ∀ (fuel : Nat) (w : World), (method (fuel + 1) 104 (.agg #[.pointer (some ⟨b, o, none⟩), .iface T V]) "loop.example/g03016/impl.face").run Try.prog w = .ok (96, .agg #[.pointer (some ⟨b, o, none⟩)]) w := by intro fuel w; kernel_rfl
theorem fm_1 (b o : Nat) (T : TypeId) (V : Value) : ∀ (fuel : Nat) (w : World), (nilAhead (fuel + 1) 104 (.agg #[.pointer (some ⟨b, o, none⟩), .iface T V]) "loop.example/g03016/impl.face").run Try.prog w = .ok (some false) w := by intro fuel w; kernel_rfl
theorem as_run_l2 : Meets 102 108 (offersF 2 1) := (show offersF 2 1 = false by decide +kernel) ▸ (show Fails 102 108 from fails_of Try.underlying102 (by kernel_rfl))
theorem as_keep_l2 : Meets 106 108 (offersF 2 2) := (show offersF 2 2 = true by decide +kernel) ▸ (show Has 106 108 from ta_has Try.underlying106 (by kernel_rfl))
theorem as_tell_l2 : Meets 118 108 (offersF 2 4) := (show offersF 2 4 = false by decide +kernel) ▸ (show Fails 118 108 from fails_of Try.underlying118 (by kernel_rfl))
theorem as_both_l2 : Meets 111 108 (offersF 2 3) := (show offersF 2 3 = false by decide +kernel) ▸ (show Fails 111 108 from fails_of Try.underlying111 (by kernel_rfl))
theorem ass_l2 : Ass 108 2 := ⟨by decide, as_run_l2, as_keep_l2, as_tell_l2, as_both_l2⟩
theorem fl_2 (b o : Nat) (T : TypeId) (V : Value) : ∀ (fuel : Nat) (w : World), (method (fuel + 1) 108 (.agg #[.pointer (some ⟨b, o, none⟩), .iface T V]) "loop.example/g03016/impl.face").run Try.prog w = .ok (96, .agg #[.pointer (some ⟨b, o, none⟩)]) w := by intro fuel w; kernel_rfl
theorem fm_2 (b o : Nat) (T : TypeId) (V : Value) : ∀ (fuel : Nat) (w : World), (nilAhead (fuel + 1) 108 (.agg #[.pointer (some ⟨b, o, none⟩), .iface T V]) "loop.example/g03016/impl.face").run Try.prog w = .ok (some false) w := by intro fuel w; kernel_rfl
theorem as_run_l3 : Meets 102 109 (offersF 6 1) := (show offersF 6 1 = false by decide +kernel) ▸ (show Fails 102 109 from fails_of Try.underlying102 (by kernel_rfl))
theorem as_keep_l3 : Meets 106 109 (offersF 6 2) := (show offersF 6 2 = true by decide +kernel) ▸ (show Has 106 109 from ta_has Try.underlying106 (by kernel_rfl))
theorem as_tell_l3 : Meets 118 109 (offersF 6 4) := (show offersF 6 4 = true by decide +kernel) ▸ (show Has 118 109 from ta_has Try.underlying118 (by kernel_rfl))
theorem as_both_l3 : Meets 111 109 (offersF 6 3) := (show offersF 6 3 = false by decide +kernel) ▸ (show Fails 111 109 from fails_of Try.underlying111 (by kernel_rfl))
theorem ass_l3 : Ass 109 6 := ⟨by decide, as_run_l3, as_keep_l3, as_tell_l3, as_both_l3⟩
theorem fl_3 (b o : Nat) (T : TypeId) (V : Value) : ∀ (fuel : Nat) (w : World), (method (fuel + 1) 109 (.agg #[.pointer (some ⟨b, o, none⟩), .iface T V]) "loop.example/g03016/impl.face").run Try.prog w = .ok (96, .agg #[.pointer (some ⟨b, o, none⟩)]) w := by intro fuel w; kernel_rfl
theorem fm_3 (b o : Nat) (T : TypeId) (V : Value) : ∀ (fuel : Nat) (w : World), (nilAhead (fuel + 1) 109 (.agg #[.pointer (some ⟨b, o, none⟩), .iface T V]) "loop.example/g03016/impl.face").run Try.prog w = .ok (some false) w := by intro fuel w; kernel_rfl
theorem as_run_l4 : Meets 102 113 (offersF 3 1) := (show offersF 3 1 = true by decide +kernel) ▸ (show Has 102 113 from ta_has Try.underlying102 (by kernel_rfl))
theorem as_keep_l4 : Meets 106 113 (offersF 3 2) := (show offersF 3 2 = true by decide +kernel) ▸ (show Has 106 113 from ta_has Try.underlying106 (by kernel_rfl))
theorem as_tell_l4 : Meets 118 113 (offersF 3 4) := (show offersF 3 4 = false by decide +kernel) ▸ (show Fails 118 113 from fails_of Try.underlying118 (by kernel_rfl))
theorem as_both_l4 : Meets 111 113 (offersF 3 3) := (show offersF 3 3 = true by decide +kernel) ▸ (show Has 111 113 from ta_has Try.underlying111 (by kernel_rfl))
theorem ass_l4 : Ass 113 3 := ⟨by decide, as_run_l4, as_keep_l4, as_tell_l4, as_both_l4⟩
theorem fl_4 (b o : Nat) (T : TypeId) (V : Value) : ∀ (fuel : Nat) (w : World), (method (fuel + 1) 113 (.agg #[.pointer (some ⟨b, o, none⟩), .iface T V]) "loop.example/g03016/impl.face").run Try.prog w = .ok (96, .agg #[.pointer (some ⟨b, o, none⟩)]) w := by intro fuel w; kernel_rfl
theorem fm_4 (b o : Nat) (T : TypeId) (V : Value) : ∀ (fuel : Nat) (w : World), (nilAhead (fuel + 1) 113 (.agg #[.pointer (some ⟨b, o, none⟩), .iface T V]) "loop.example/g03016/impl.face").run Try.prog w = .ok (some false) w := by intro fuel w; kernel_rfl
theorem as_run_l5 : Meets 102 114 (offersF 2 1) := (show offersF 2 1 = false by decide +kernel) ▸ (show Fails 102 114 from fails_of Try.underlying102 (by kernel_rfl))
theorem as_keep_l5 : Meets 106 114 (offersF 2 2) := (show offersF 2 2 = true by decide +kernel) ▸ (show Has 106 114 from ta_has Try.underlying106 (by kernel_rfl))
theorem as_tell_l5 : Meets 118 114 (offersF 2 4) := (show offersF 2 4 = false by decide +kernel) ▸ (show Fails 118 114 from fails_of Try.underlying118 (by kernel_rfl))
theorem as_both_l5 : Meets 111 114 (offersF 2 3) := (show offersF 2 3 = false by decide +kernel) ▸ (show Fails 111 114 from fails_of Try.underlying111 (by kernel_rfl))
theorem ass_l5 : Ass 114 2 := ⟨by decide, as_run_l5, as_keep_l5, as_tell_l5, as_both_l5⟩
theorem fl_5 (b o : Nat) (T : TypeId) (V : Value) : ∀ (fuel : Nat) (w : World), (method (fuel + 1) 114 (.agg #[.pointer (some ⟨b, o, none⟩), .iface T V]) "loop.example/g03016/impl.face").run Try.prog w = .ok (96, .agg #[.pointer (some ⟨b, o, none⟩)]) w := by intro fuel w; kernel_rfl
theorem fm_5 (b o : Nat) (T : TypeId) (V : Value) : ∀ (fuel : Nat) (w : World), (nilAhead (fuel + 1) 114 (.agg #[.pointer (some ⟨b, o, none⟩), .iface T V]) "loop.example/g03016/impl.face").run Try.prog w = .ok (some false) w := by intro fuel w; kernel_rfl
theorem as_run_l6 : Meets 102 115 (offersF 9 1) := (show offersF 9 1 = true by decide +kernel) ▸ (show Has 102 115 from ta_has Try.underlying102 (by kernel_rfl))
theorem as_keep_l6 : Meets 106 115 (offersF 9 2) := (show offersF 9 2 = false by decide +kernel) ▸ (show Fails 106 115 from fails_of Try.underlying106 (by kernel_rfl))
theorem as_tell_l6 : Meets 118 115 (offersF 9 4) := (show offersF 9 4 = false by decide +kernel) ▸ (show Fails 118 115 from fails_of Try.underlying118 (by kernel_rfl))
theorem as_both_l6 : Meets 111 115 (offersF 9 3) := (show offersF 9 3 = false by decide +kernel) ▸ (show Fails 111 115 from fails_of Try.underlying111 (by kernel_rfl))
theorem ass_l6 : Ass 115 9 := ⟨by decide, as_run_l6, as_keep_l6, as_tell_l6, as_both_l6⟩
theorem fl_6 (b o : Nat) (T : TypeId) (V : Value) : ∀ (fuel : Nat) (w : World), (method (fuel + 1) 115 (.agg #[.pointer (some ⟨b, o, none⟩), .iface T V]) "loop.example/g03016/impl.face").run Try.prog w = .ok (96, .agg #[.pointer (some ⟨b, o, none⟩)]) w := by intro fuel w; kernel_rfl
theorem fm_6 (b o : Nat) (T : TypeId) (V : Value) : ∀ (fuel : Nat) (w : World), (nilAhead (fuel + 1) 115 (.agg #[.pointer (some ⟨b, o, none⟩), .iface T V]) "loop.example/g03016/impl.face").run Try.prog w = .ok (some false) w := by intro fuel w; kernel_rfl
theorem as_run_l7 : Meets 102 116 (offersF 33 1) := (show offersF 33 1 = true by decide +kernel) ▸ (show Has 102 116 from ta_has Try.underlying102 (by kernel_rfl))
theorem as_keep_l7 : Meets 106 116 (offersF 33 2) := (show offersF 33 2 = false by decide +kernel) ▸ (show Fails 106 116 from fails_of Try.underlying106 (by kernel_rfl))
theorem as_tell_l7 : Meets 118 116 (offersF 33 4) := (show offersF 33 4 = false by decide +kernel) ▸ (show Fails 118 116 from fails_of Try.underlying118 (by kernel_rfl))
theorem as_both_l7 : Meets 111 116 (offersF 33 3) := (show offersF 33 3 = false by decide +kernel) ▸ (show Fails 111 116 from fails_of Try.underlying111 (by kernel_rfl))
theorem ass_l7 : Ass 116 33 := ⟨by decide, as_run_l7, as_keep_l7, as_tell_l7, as_both_l7⟩
theorem fl_7 (b o : Nat) (T : TypeId) (V : Value) : ∀ (fuel : Nat) (w : World), (method (fuel + 1) 116 (.agg #[.pointer (some ⟨b, o, none⟩), .iface T V]) "loop.example/g03016/impl.face").run Try.prog w = .ok (96, .agg #[.pointer (some ⟨b, o, none⟩)]) w := by intro fuel w; kernel_rfl
theorem fm_7 (b o : Nat) (T : TypeId) (V : Value) : ∀ (fuel : Nat) (w : World), (nilAhead (fuel + 1) 116 (.agg #[.pointer (some ⟨b, o, none⟩), .iface T V]) "loop.example/g03016/impl.face").run Try.prog w = .ok (some false) w := by intro fuel w; kernel_rfl
theorem as_run_l8 : Meets 102 120 (offersF 4 1) := (show offersF 4 1 = false by decide +kernel) ▸ (show Fails 102 120 from fails_of Try.underlying102 (by kernel_rfl))
theorem as_keep_l8 : Meets 106 120 (offersF 4 2) := (show offersF 4 2 = false by decide +kernel) ▸ (show Fails 106 120 from fails_of Try.underlying106 (by kernel_rfl))
theorem as_tell_l8 : Meets 118 120 (offersF 4 4) := (show offersF 4 4 = true by decide +kernel) ▸ (show Has 118 120 from ta_has Try.underlying118 (by kernel_rfl))
theorem as_both_l8 : Meets 111 120 (offersF 4 3) := (show offersF 4 3 = false by decide +kernel) ▸ (show Fails 111 120 from fails_of Try.underlying111 (by kernel_rfl))
theorem ass_l8 : Ass 120 4 := ⟨by decide, as_run_l8, as_keep_l8, as_tell_l8, as_both_l8⟩
theorem fl_8 (b o : Nat) (T : TypeId) (V : Value) : ∀ (fuel : Nat) (w : World), (method (fuel + 1) 120 (.agg #[.pointer (some ⟨b, o, none⟩), .iface T V]) "loop.example/g03016/impl.face").run Try.prog w = .ok (96, .agg #[.pointer (some ⟨b, o, none⟩)]) w := by intro fuel w; kernel_rfl
theorem fm_8 (b o : Nat) (T : TypeId) (V : Value) : ∀ (fuel : Nat) (w : World), (nilAhead (fuel + 1) 120 (.agg #[.pointer (some ⟨b, o, none⟩), .iface T V]) "loop.example/g03016/impl.face").run Try.prog w = .ok (some false) w := by intro fuel w; kernel_rfl
/-- the value (T, V) tells the face f, in each world that keeps what lies below -/
def FaceAt (w : World) (T : TypeId) (V : Value) (f : Int) : Prop := ∃ (F : FuncId) (rcv : Value), (F = 104 ∨ F = 96) ∧ (∀ (fuel : Nat) (w : World), (method (fuel + 1) T V "loop.example/g03016/impl.face").run Try.prog w = .ok (F, rcv) w) ∧ (∀ (fuel : Nat) (w : World), (nilAhead (fuel + 1) T V "loop.example/g03016/impl.face").run Try.prog w = .ok (some false) w) ∧
  ∀ W, Below w.heap.size w W → Calls Try.prog F #[rcv] W fun e w' => e = .returned (.int .i64 f) ∧ Below W.heap.size W w'
theorem FaceAt.below {w w' : World} {T : TypeId} {V : Value} {f : Int} (h : FaceAt w T V f) (hb : Below w.heap.size w w') : FaceAt w' T V f := by
  obtain ⟨F, r, h0, h1, h2, h3⟩ := h
  exact ⟨F, r, h0, h1, h2, fun W hW => h3 W (belS hb hW)⟩
def IfaceAt (w : World) (v : Value) (f : Int) : Prop := ∃ T V, v = .iface T V ∧ FaceAt w T V f ∧ Ass T f
theorem IfaceAt.below {w w' : World} {v : Value} {f : Int} (h : IfaceAt w v f) (hb : Below w.heap.size w w') : IfaceAt w' v f := by
  obtain ⟨T, V, h1, h2, h3⟩ := h
  exact ⟨T, V, h1, h2.below hb, h3⟩
set_option maxHeartbeats 800000 in
theorem bodyName_c (b : Nat) (k : List UInt8) (w : World) (h : w.cell? ⟨b, 0, none⟩ = some (.string ⟨k.toArray⟩)) :
    Calls Try.prog 105 #[.agg #[.pointer (some ⟨b, 0, none⟩)]] w fun e w' => e = .returned (.string ⟨k.toArray⟩) ∧ Below w.heap.size w w' := by
  have hl := World.block_lt_of_cell? w _ h
  simp only at hl
  have hne : ¬ b = w.heap.size := by omega
  go_enter Try.func105, Try.ntmps105
  go_wp2_with fail
  go_ret
  exact ⟨rfl, part_box w _⟩
set_option maxHeartbeats 800000 in
theorem bodyFace_c (b : Nat) (k : List UInt8) (w : World) (h : w.cell? ⟨b, 0, none⟩ = some (.string ⟨k.toArray⟩)) :
    Calls Try.prog 104 #[.agg #[.pointer (some ⟨b, 0, none⟩)]] w fun e w' => e = .returned (.int .i64 (kfI (kindI k))) ∧ Below w.heap.size w w' := by
  have hl := World.block_lt_of_cell? w _ h
  simp only at hl
  have HN := Lib.hid (bodyName_c b k (w.alloc (.cells #[.pointer (some ⟨b, 0, none⟩)] 124)) (((part_box w _).cell (p := ⟨b, 0, none⟩) hl).trans h))
  have HK := Lib.hid (implKind_any ⟨k.toArray⟩)
  simp only [List.toList_toArray] at HK
  unfold kfV at HK
  generalize kfI (kindI k) = f at *
  generalize decide (0 ≤ kindI k) = q at *
  clear h
  go_enter Try.func104, Try.ntmps104
  go_wp2_with fail
  refine HN.out.mono ?_
  rintro e w1 ⟨rfl, hb⟩
  have HB := Lib.hid (belS (part_box w _) hb)
  clear hb
  go_wp2_with (first | (go_at_call 33; (with_reducible refine (HK.out _).mono ?_); rintro e w' ⟨rfl, rfl⟩))
  go_ret
  exact ⟨rfl, HB.out⟩
set_option maxHeartbeats 800000 in
theorem coverName_c (b o : Nat) (k : List UInt8) (w : World) (h : w.cell? ⟨b, o, none⟩ = some (.string ⟨k.toArray⟩)) :
    Calls Try.prog 97 #[.agg #[.pointer (some ⟨b, o, none⟩)]] w fun e w' => e = .returned (.string ⟨k.toArray⟩) ∧ Below w.heap.size w w' := by
  have hl := World.block_lt_of_cell? w _ h
  simp only at hl
  have hne : ¬ b = w.heap.size := by omega
  go_enter Try.func97, Try.ntmps97
  go_wp2_with fail
  go_ret
  exact ⟨rfl, part_box w _⟩
set_option maxHeartbeats 800000 in
theorem coverFace_c (b o : Nat) (k : List UInt8) (w : World) (h : w.cell? ⟨b, o, none⟩ = some (.string ⟨k.toArray⟩)) :
    Calls Try.prog 96 #[.agg #[.pointer (some ⟨b, o, none⟩)]] w fun e w' => e = .returned (.int .i64 (giveI (layI k))) ∧ Below w.heap.size w w' := by
  have hl := World.block_lt_of_cell? w _ h
  simp only at hl
  have HN := Lib.hid (coverName_c b o k (w.alloc (.cells #[.pointer (some ⟨b, o, none⟩)] 100)) (((part_box w _).cell (p := ⟨b, o, none⟩) hl).trans h))
  have HK := Lib.hid (implLayerGives_any ⟨k.toArray⟩)
  simp only [List.toList_toArray] at HK
  unfold gvV at HK
  generalize giveI (layI k) = f at *
  generalize decide (0 ≤ layI k) = q at *
  clear h
  go_enter Try.func96, Try.ntmps96
  go_wp2_with fail
  refine HN.out.mono ?_
  rintro e w1 ⟨rfl, hb⟩
  have HB := Lib.hid (belS (part_box w _) hb)
  clear hb
  go_wp2_with (first | (go_at_call 34; (with_reducible refine (HK.out _).mono ?_); rintro e w' ⟨rfl, rfl⟩))
  go_ret
  exact ⟨rfl, HB.out⟩
theorem faceAt_body {b : Nat} {k : List UInt8} {w : World} {T : TypeId} {V : Value} {f : Int} (h : w.cell? ⟨b, 0, none⟩ = some (.string ⟨k.toArray⟩)) (hf : kfI (kindI k) = f) (h1 : ∀ (fuel : Nat) (w : World), (method (fuel + 1) T V "loop.example/g03016/impl.face").run Try.prog w = .ok (104, .agg #[.pointer (some ⟨b, 0, none⟩)]) w)
    (h2 : ∀ (fuel : Nat) (w : World), (nilAhead (fuel + 1) T V "loop.example/g03016/impl.face").run Try.prog w = .ok (some false) w) : FaceAt w T V f := by
  subst hf
  exact ⟨_, _, Or.inl rfl, h1, h2, fun W hW => bodyFace_c b k W ((hW.cell (p := ⟨b, 0, none⟩) (World.block_lt_of_cell? w _ h)).trans h)⟩
theorem faceAt_cover {b o : Nat} {k : List UInt8} {w : World} {T : TypeId} {V : Value} {f : Int} (h : w.cell? ⟨b, o, none⟩ = some (.string ⟨k.toArray⟩)) (hf : giveI (layI k) = f) (h1 : ∀ (fuel : Nat) (w : World), (method (fuel + 1) T V "loop.example/g03016/impl.face").run Try.prog w = .ok (96, .agg #[.pointer (some ⟨b, o, none⟩)]) w)
    (h2 : ∀ (fuel : Nat) (w : World), (nilAhead (fuel + 1) T V "loop.example/g03016/impl.face").run Try.prog w = .ok (some false) w) : FaceAt w T V f := by
  subst hf
  exact ⟨_, _, Or.inr rfl, h1, h2, fun W hW => coverFace_c b o k W ((hW.cell (p := ⟨b, o, none⟩) (World.block_lt_of_cell? w _ h)).trans h)⟩
theorem iface_kind {b : Nat} {w : World} (j : Nat) (hj : j < 8) (h : w.cell? ⟨b, 0, none⟩ = some (.string ⟨(kindN j).toArray⟩)) : IfaceAt w (partV b j) (kfN j) := by
  rcases (show j = 0 ∨ j = 1 ∨ j = 2 ∨ j = 3 ∨ j = 4 ∨ j = 5 ∨ j = 6 ∨ j = 7 by omega) with rfl | rfl | rfl | rfl | rfl | rfl | rfl | rfl
  · exact ⟨_, _, rfl, faceAt_body h (by decide +kernel) (fk_0 b) (fn_0 b), ass_k0⟩
  · exact ⟨_, _, rfl, faceAt_body h (by decide +kernel) (fk_1 b) (fn_1 b), ass_k1⟩
  · exact ⟨_, _, rfl, faceAt_body h (by decide +kernel) (fk_2 b) (fn_2 b), ass_k2⟩
  · exact ⟨_, _, rfl, faceAt_body h (by decide +kernel) (fk_3 b) (fn_3 b), ass_k3⟩
  · exact ⟨_, _, rfl, faceAt_body h (by decide +kernel) (fk_4 b) (fn_4 b), ass_k4⟩
  · exact ⟨_, _, rfl, faceAt_body h (by decide +kernel) (fk_5 b) (fn_5 b), ass_k5⟩
  · exact ⟨_, _, rfl, faceAt_body h (by decide +kernel) (fk_6 b) (fn_6 b), ass_k6⟩
  · exact ⟨_, _, rfl, faceAt_body h (by decide +kernel) (fk_7 b) (fn_7 b), ass_k7⟩
/-- what wrapping hands out, by adapter -/
def wrapV (b o : Nat) (v : Value) : Nat → Value
  | 0 => .iface 122 (.agg #[.pointer (some ⟨b, o, none⟩)])
  | 1 => .iface 104 (.agg #[.pointer (some ⟨b, o, none⟩), v])
  | 2 => .iface 108 (.agg #[.pointer (some ⟨b, o, none⟩), v])
  | 3 => .iface 109 (.agg #[.pointer (some ⟨b, o, none⟩), v])
  | 4 => .iface 113 (.agg #[.pointer (some ⟨b, o, none⟩), v])
  | 5 => .iface 114 (.agg #[.pointer (some ⟨b, o, none⟩), v])
  | 6 => .iface 115 (.agg #[.pointer (some ⟨b, o, none⟩), v])
  | 7 => .iface 116 (.agg #[.pointer (some ⟨b, o, none⟩), v])
  | _ => .iface 120 (.agg #[.pointer (some ⟨b, o, none⟩), v])
theorem iface_wrap {b o : Nat} {w : World} {T : TypeId} {V : Value} (i : Nat) (hi : i < 9) (h : w.cell? ⟨b, o, none⟩ = some (.string ⟨(layN i).toArray⟩)) : IfaceAt w (wrapV b o (.iface T V) i) (giveN i) := by
  rcases (show i = 0 ∨ i = 1 ∨ i = 2 ∨ i = 3 ∨ i = 4 ∨ i = 5 ∨ i = 6 ∨ i = 7 ∨ i = 8 by omega) with rfl | rfl | rfl | rfl | rfl | rfl | rfl | rfl | rfl
  · exact ⟨_, _, rfl, faceAt_cover h (by decide +kernel) (fl_0 b o) (fm_0 b o), ass_l0⟩
  · exact ⟨_, _, rfl, faceAt_cover h (by decide +kernel) (fl_1 b o T V) (fm_1 b o T V), ass_l1⟩
  · exact ⟨_, _, rfl, faceAt_cover h (by decide +kernel) (fl_2 b o T V) (fm_2 b o T V), ass_l2⟩
  · exact ⟨_, _, rfl, faceAt_cover h (by decide +kernel) (fl_3 b o T V) (fm_3 b o T V), ass_l3⟩
  · exact ⟨_, _, rfl, faceAt_cover h (by decide +kernel) (fl_4 b o T V) (fm_4 b o T V), ass_l4⟩
  · exact ⟨_, _, rfl, faceAt_cover h (by decide +kernel) (fl_5 b o T V) (fm_5 b o T V), ass_l5⟩
  · exact ⟨_, _, rfl, faceAt_cover h (by decide +kernel) (fl_6 b o T V) (fm_6 b o T V), ass_l6⟩
  · exact ⟨_, _, rfl, faceAt_cover h (by decide +kernel) (fl_7 b o T V) (fm_7 b o T V), ass_l7⟩
  · exact ⟨_, _, rfl, faceAt_cover h (by decide +kernel) (fl_8 b o T V) (fm_8 b o T V), ass_l8⟩
end Go.Proofs.Ytaihdjdaamglnac
/- assertAndWrap, by adapter: where the assertion is met, and where it is not. Written by gen/ch4if.py. -/
namespace Go.Proofs.Ytaihdjdaamglnac
set_option linter.unusedVariables false
set_option linter.unusedSimpArgs false
open Go.RowKit

set_option maxRecDepth 100000 in
set_option maxHeartbeats 1600000 in
theorem aw_0 (b o : Nat) (T : TypeId) (V : Value) (w : World) (h : w.cell? ⟨b, o, none⟩ = some (.string ⟨(layN 0).toArray⟩)) :
    Calls Try.prog 62 #[.iface T V, .pointer (some ⟨b, o, none⟩)] w fun e w' => e = .returned (wrapV b o (.iface T V) 0) ∧ Below w.heap.size w w' := by
  have hl0 := World.block_lt_of_cell? w _ h
  simp only at hl0
  have hn0 : ¬ b = w.heap.size := by omega
  simp only [layN] at h
  unfold wrapV
  go_enter Try.func62, Try.ntmps62
  go_wp2_with fail
  try go_region
  all_goals (try go_wp2_with fail)
  all_goals
    go_ret
    refine ⟨rfl, ?_⟩
    repeat (first | with_reducible exact Below.refl _ _ | with_reducible refine Below.alloc ?_ (by simp; try omega) _ | with_reducible refine bel_dr ?_)
set_option maxRecDepth 100000 in
set_option maxHeartbeats 1600000 in
theorem aw_1 (b o : Nat) (T : TypeId) (V : Value) (w : World) (h : w.cell? ⟨b, o, none⟩ = some (.string ⟨(layN 1).toArray⟩)) (hta : Has 102 T) :
    Calls Try.prog 62 #[.iface T V, .pointer (some ⟨b, o, none⟩)] w fun e w' => e = .returned (wrapV b o (.iface T V) 1) ∧ Below w.heap.size w w' := by
  have hl0 := World.block_lt_of_cell? w _ h
  simp only at hl0
  have hn0 : ¬ b = w.heap.size := by omega
  simp only [layN] at h
  unfold wrapV
  unfold Has at hta
  go_enter Try.func62, Try.ntmps62
  go_wp2_with fail
  try go_region
  all_goals (try go_wp2_with fail)
  all_goals
    go_ret
    refine ⟨rfl, ?_⟩
    repeat (first | with_reducible exact Below.refl _ _ | with_reducible refine Below.alloc ?_ (by simp; try omega) _ | with_reducible refine bel_dr ?_)
set_option maxRecDepth 100000 in
set_option maxHeartbeats 1600000 in
theorem awp_1 (b o : Nat) (T : TypeId) (V : Value) (w : World) (h : w.cell? ⟨b, o, none⟩ = some (.string ⟨(layN 1).toArray⟩)) (hta : Fails 102 T) :
    Calls Try.prog 62 #[.iface T V, .pointer (some ⟨b, o, none⟩)] w fun e w' => Panics w e w' := by
  have hl0 := World.block_lt_of_cell? w _ h
  simp only at hl0
  have hn0 : ¬ b = w.heap.size := by omega
  simp only [layN] at h
  obtain ⟨c, E, hta⟩ := hta
  go_enter Try.func62, Try.ntmps62
  go_wp2_with fail
  refine wp_region_any (by kernel_rfl) ?_
  change wpAny _ _ _ _ _ _ _ (World.drew _)
  refine wpAny_take (i := 1) (v := ?_) rfl (by kernel_rfl) (by kernel_rfl) (by kernel_rfl) (fun _ _ _ h => h) (Or.inl ⟨by rfl, ?_⟩) ?_
  rotate_left
  · intro w; go_simp; try (with_reducible rfl)
  refine wpAny_ready (rs := [0, 2]) (by kernel_rfl) (by simp) ?_
  refine AllReady.cons rfl (fun K hK => ?_) ?_
  · go_simp
    refine hK _ _ ?_
    clear hK K
    refine wpAny_ready (rs := [2]) (by kernel_rfl) (by simp) ?_
    refine AllReady.cons rfl (fun K hK => ?_) ?_
    · go_simp
      exact ⟨rfl, _, rfl, by repeat (first | with_reducible exact Below.refl _ _ | with_reducible refine Below.alloc ?_ (by simp; try omega) _ | with_reducible refine Below.drew ?_ | with_reducible refine below_drewN ?_ _)⟩
    exact AllReady.nil
  refine AllReady.cons rfl (fun K hK => ?_) ?_
  · go_simp
    exact ⟨rfl, _, rfl, by repeat (first | with_reducible exact Below.refl _ _ | with_reducible refine Below.alloc ?_ (by simp; try omega) _ | with_reducible refine Below.drew ?_ | with_reducible refine below_drewN ?_ _)⟩
  exact AllReady.nil
set_option maxRecDepth 100000 in
set_option maxHeartbeats 1600000 in
theorem aw_2 (b o : Nat) (T : TypeId) (V : Value) (w : World) (h : w.cell? ⟨b, o, none⟩ = some (.string ⟨(layN 2).toArray⟩)) (hta : Has 106 T) :
    Calls Try.prog 62 #[.iface T V, .pointer (some ⟨b, o, none⟩)] w fun e w' => e = .returned (wrapV b o (.iface T V) 2) ∧ Below w.heap.size w w' := by
  have hl0 := World.block_lt_of_cell? w _ h
  simp only at hl0
  have hn0 : ¬ b = w.heap.size := by omega
  simp only [layN] at h
  unfold wrapV
  unfold Has at hta
  go_enter Try.func62, Try.ntmps62
  go_wp2_with fail
  try go_region
  all_goals (try go_wp2_with fail)
  all_goals
    go_ret
    refine ⟨rfl, ?_⟩
    repeat (first | with_reducible exact Below.refl _ _ | with_reducible refine Below.alloc ?_ (by simp; try omega) _ | with_reducible refine bel_dr ?_)
set_option maxRecDepth 100000 in
set_option maxHeartbeats 1600000 in
theorem awp_2 (b o : Nat) (T : TypeId) (V : Value) (w : World) (h : w.cell? ⟨b, o, none⟩ = some (.string ⟨(layN 2).toArray⟩)) (hta : Fails 106 T) :
    Calls Try.prog 62 #[.iface T V, .pointer (some ⟨b, o, none⟩)] w fun e w' => Panics w e w' := by
  have hl0 := World.block_lt_of_cell? w _ h
  simp only at hl0
  have hn0 : ¬ b = w.heap.size := by omega
  simp only [layN] at h
  obtain ⟨c, E, hta⟩ := hta
  go_enter Try.func62, Try.ntmps62
  go_wp2_with fail
  refine wp_region_any (by kernel_rfl) ?_
  change wpAny _ _ _ _ _ _ _ (World.drew _)
  refine wpAny_take (i := 1) (v := ?_) rfl (by kernel_rfl) (by kernel_rfl) (by kernel_rfl) (fun _ _ _ h => h) (Or.inl ⟨by rfl, ?_⟩) ?_
  rotate_left
  · intro w; go_simp; try (with_reducible rfl)
  refine wpAny_ready (rs := [0, 2]) (by kernel_rfl) (by simp) ?_
  refine AllReady.cons rfl (fun K hK => ?_) ?_
  · go_simp
    refine hK _ _ ?_
    clear hK K
    refine wpAny_ready (rs := [2]) (by kernel_rfl) (by simp) ?_
    refine AllReady.cons rfl (fun K hK => ?_) ?_
    · go_simp
      exact ⟨rfl, _, rfl, by repeat (first | with_reducible exact Below.refl _ _ | with_reducible refine Below.alloc ?_ (by simp; try omega) _ | with_reducible refine Below.drew ?_ | with_reducible refine below_drewN ?_ _)⟩
    exact AllReady.nil
  refine AllReady.cons rfl (fun K hK => ?_) ?_
  · go_simp
    exact ⟨rfl, _, rfl, by repeat (first | with_reducible exact Below.refl _ _ | with_reducible refine Below.alloc ?_ (by simp; try omega) _ | with_reducible refine Below.drew ?_ | with_reducible refine below_drewN ?_ _)⟩
  exact AllReady.nil
set_option maxRecDepth 100000 in
set_option maxHeartbeats 1600000 in
theorem aw_3 (b o : Nat) (T : TypeId) (V : Value) (w : World) (h : w.cell? ⟨b, o, none⟩ = some (.string ⟨(layN 3).toArray⟩)) (hta : Has 106 T) :
    Calls Try.prog 62 #[.iface T V, .pointer (some ⟨b, o, none⟩)] w fun e w' => e = .returned (wrapV b o (.iface T V) 3) ∧ Below w.heap.size w w' := by
  have hl0 := World.block_lt_of_cell? w _ h
  simp only at hl0
  have hn0 : ¬ b = w.heap.size := by omega
  simp only [layN] at h
  unfold wrapV
  unfold Has at hta
  go_enter Try.func62, Try.ntmps62
  go_wp2_with fail
  try go_region
  all_goals (try go_wp2_with fail)
  all_goals
    go_ret
    refine ⟨rfl, ?_⟩
    repeat (first | with_reducible exact Below.refl _ _ | with_reducible refine Below.alloc ?_ (by simp; try omega) _ | with_reducible refine bel_dr ?_)
set_option maxRecDepth 100000 in
set_option maxHeartbeats 1600000 in
theorem awp_3 (b o : Nat) (T : TypeId) (V : Value) (w : World) (h : w.cell? ⟨b, o, none⟩ = some (.string ⟨(layN 3).toArray⟩)) (hta : Fails 106 T) :
    Calls Try.prog 62 #[.iface T V, .pointer (some ⟨b, o, none⟩)] w fun e w' => Panics w e w' := by
  have hl0 := World.block_lt_of_cell? w _ h
  simp only at hl0
  have hn0 : ¬ b = w.heap.size := by omega
  simp only [layN] at h
  obtain ⟨c, E, hta⟩ := hta
  go_enter Try.func62, Try.ntmps62
  go_wp2_with fail
  refine wp_region_any (by kernel_rfl) ?_
  change wpAny _ _ _ _ _ _ _ (World.drew _)
  refine wpAny_take (i := 1) (v := ?_) rfl (by kernel_rfl) (by kernel_rfl) (by kernel_rfl) (fun _ _ _ h => h) (Or.inl ⟨by rfl, ?_⟩) ?_
  rotate_left
  · intro w; go_simp; try (with_reducible rfl)
  refine wpAny_ready (rs := [0, 2]) (by kernel_rfl) (by simp) ?_
  refine AllReady.cons rfl (fun K hK => ?_) ?_
  · go_simp
    refine hK _ _ ?_
    clear hK K
    refine wpAny_ready (rs := [2]) (by kernel_rfl) (by simp) ?_
    refine AllReady.cons rfl (fun K hK => ?_) ?_
    · go_simp
      exact ⟨rfl, _, rfl, by repeat (first | with_reducible exact Below.refl _ _ | with_reducible refine Below.alloc ?_ (by simp; try omega) _ | with_reducible refine Below.drew ?_ | with_reducible refine below_drewN ?_ _)⟩
    exact AllReady.nil
  refine AllReady.cons rfl (fun K hK => ?_) ?_
  · go_simp
    exact ⟨rfl, _, rfl, by repeat (first | with_reducible exact Below.refl _ _ | with_reducible refine Below.alloc ?_ (by simp; try omega) _ | with_reducible refine Below.drew ?_ | with_reducible refine below_drewN ?_ _)⟩
  exact AllReady.nil
set_option maxRecDepth 100000 in
set_option maxHeartbeats 1600000 in
theorem aw_4 (b o : Nat) (T : TypeId) (V : Value) (w : World) (h : w.cell? ⟨b, o, none⟩ = some (.string ⟨(layN 4).toArray⟩)) (hta : Has 111 T) :
    Calls Try.prog 62 #[.iface T V, .pointer (some ⟨b, o, none⟩)] w fun e w' => e = .returned (wrapV b o (.iface T V) 4) ∧ Below w.heap.size w w' := by
  have hl0 := World.block_lt_of_cell? w _ h
  simp only at hl0
  have hn0 : ¬ b = w.heap.size := by omega
  simp only [layN] at h
  unfold wrapV
  unfold Has at hta
  go_enter Try.func62, Try.ntmps62
  go_wp2_with fail
  try go_region
  all_goals (try go_wp2_with fail)
  all_goals
    go_ret
    refine ⟨rfl, ?_⟩
    repeat (first | with_reducible exact Below.refl _ _ | with_reducible refine Below.alloc ?_ (by simp; try omega) _ | with_reducible refine bel_dr ?_)
set_option maxRecDepth 100000 in
set_option maxHeartbeats 1600000 in
theorem awp_4 (b o : Nat) (T : TypeId) (V : Value) (w : World) (h : w.cell? ⟨b, o, none⟩ = some (.string ⟨(layN 4).toArray⟩)) (hta : Fails 111 T) :
    Calls Try.prog 62 #[.iface T V, .pointer (some ⟨b, o, none⟩)] w fun e w' => Panics w e w' := by
  have hl0 := World.block_lt_of_cell? w _ h
  simp only at hl0
  have hn0 : ¬ b = w.heap.size := by omega
  simp only [layN] at h
  obtain ⟨c, E, hta⟩ := hta
  go_enter Try.func62, Try.ntmps62
  go_wp2_with fail
  refine wp_region_any (by kernel_rfl) ?_
  change wpAny _ _ _ _ _ _ _ (World.drew _)
  refine wpAny_take (i := 1) (v := ?_) rfl (by kernel_rfl) (by kernel_rfl) (by kernel_rfl) (fun _ _ _ h => h) (Or.inl ⟨by rfl, ?_⟩) ?_
  rotate_left
  · intro w; go_simp; try (with_reducible rfl)
  refine wpAny_ready (rs := [0, 2]) (by kernel_rfl) (by simp) ?_
  refine AllReady.cons rfl (fun K hK => ?_) ?_
  · go_simp
    refine hK _ _ ?_
    clear hK K
    refine wpAny_ready (rs := [2]) (by kernel_rfl) (by simp) ?_
    refine AllReady.cons rfl (fun K hK => ?_) ?_
    · go_simp
      exact ⟨rfl, _, rfl, by repeat (first | with_reducible exact Below.refl _ _ | with_reducible refine Below.alloc ?_ (by simp; try omega) _ | with_reducible refine Below.drew ?_ | with_reducible refine below_drewN ?_ _)⟩
    exact AllReady.nil
  refine AllReady.cons rfl (fun K hK => ?_) ?_
  · go_simp
    exact ⟨rfl, _, rfl, by repeat (first | with_reducible exact Below.refl _ _ | with_reducible refine Below.alloc ?_ (by simp; try omega) _ | with_reducible refine Below.drew ?_ | with_reducible refine below_drewN ?_ _)⟩
  exact AllReady.nil
set_option maxRecDepth 100000 in
set_option maxHeartbeats 1600000 in
theorem aw_5 (b o : Nat) (T : TypeId) (V : Value) (w : World) (h : w.cell? ⟨b, o, none⟩ = some (.string ⟨(layN 5).toArray⟩)) (hta : Has 106 T) :
    Calls Try.prog 62 #[.iface T V, .pointer (some ⟨b, o, none⟩)] w fun e w' => e = .returned (wrapV b o (.iface T V) 5) ∧ Below w.heap.size w w' := by
  have hl0 := World.block_lt_of_cell? w _ h
  simp only at hl0
  have hn0 : ¬ b = w.heap.size := by omega
  simp only [layN] at h
  unfold wrapV
  unfold Has at hta
  go_enter Try.func62, Try.ntmps62
  go_wp2_with fail
  try go_region
  all_goals (try go_wp2_with fail)
  all_goals
    go_ret
    refine ⟨rfl, ?_⟩
    repeat (first | with_reducible exact Below.refl _ _ | with_reducible refine Below.alloc ?_ (by simp; try omega) _ | with_reducible refine bel_dr ?_)
set_option maxRecDepth 100000 in
set_option maxHeartbeats 1600000 in
theorem awp_5 (b o : Nat) (T : TypeId) (V : Value) (w : World) (h : w.cell? ⟨b, o, none⟩ = some (.string ⟨(layN 5).toArray⟩)) (hta : Fails 106 T) :
    Calls Try.prog 62 #[.iface T V, .pointer (some ⟨b, o, none⟩)] w fun e w' => Panics w e w' := by
  have hl0 := World.block_lt_of_cell? w _ h
  simp only at hl0
  have hn0 : ¬ b = w.heap.size := by omega
  simp only [layN] at h
  obtain ⟨c, E, hta⟩ := hta
  go_enter Try.func62, Try.ntmps62
  go_wp2_with fail
  refine wp_region_any (by kernel_rfl) ?_
  change wpAny _ _ _ _ _ _ _ (World.drew _)
  refine wpAny_take (i := 1) (v := ?_) rfl (by kernel_rfl) (by kernel_rfl) (by kernel_rfl) (fun _ _ _ h => h) (Or.inl ⟨by rfl, ?_⟩) ?_
  rotate_left
  · intro w; go_simp; try (with_reducible rfl)
  refine wpAny_ready (rs := [0, 2]) (by kernel_rfl) (by simp) ?_
  refine AllReady.cons rfl (fun K hK => ?_) ?_
  · go_simp
    refine hK _ _ ?_
    clear hK K
    refine wpAny_ready (rs := [2]) (by kernel_rfl) (by simp) ?_
    refine AllReady.cons rfl (fun K hK => ?_) ?_
    · go_simp
      exact ⟨rfl, _, rfl, by repeat (first | with_reducible exact Below.refl _ _ | with_reducible refine Below.alloc ?_ (by simp; try omega) _ | with_reducible refine Below.drew ?_ | with_reducible refine below_drewN ?_ _)⟩
    exact AllReady.nil
  refine AllReady.cons rfl (fun K hK => ?_) ?_
  · go_simp
    exact ⟨rfl, _, rfl, by repeat (first | with_reducible exact Below.refl _ _ | with_reducible refine Below.alloc ?_ (by simp; try omega) _ | with_reducible refine Below.drew ?_ | with_reducible refine below_drewN ?_ _)⟩
  exact AllReady.nil
set_option maxRecDepth 100000 in
set_option maxHeartbeats 1600000 in
theorem aw_6 (b o : Nat) (T : TypeId) (V : Value) (w : World) (h : w.cell? ⟨b, o, none⟩ = some (.string ⟨(layN 6).toArray⟩)) (hta : Has 102 T) :
    Calls Try.prog 62 #[.iface T V, .pointer (some ⟨b, o, none⟩)] w fun e w' => e = .returned (wrapV b o (.iface T V) 6) ∧ Below w.heap.size w w' := by
  have hl0 := World.block_lt_of_cell? w _ h
  simp only at hl0
  have hn0 : ¬ b = w.heap.size := by omega
  simp only [layN] at h
  unfold wrapV
  unfold Has at hta
  go_enter Try.func62, Try.ntmps62
  go_wp2_with fail
  try go_region
  all_goals (try go_wp2_with fail)
  all_goals
    go_ret
    refine ⟨rfl, ?_⟩
    repeat (first | with_reducible exact Below.refl _ _ | with_reducible refine Below.alloc ?_ (by simp; try omega) _ | with_reducible refine bel_dr ?_)
set_option maxRecDepth 100000 in
set_option maxHeartbeats 1600000 in
theorem awp_6 (b o : Nat) (T : TypeId) (V : Value) (w : World) (h : w.cell? ⟨b, o, none⟩ = some (.string ⟨(layN 6).toArray⟩)) (hta : Fails 102 T) :
    Calls Try.prog 62 #[.iface T V, .pointer (some ⟨b, o, none⟩)] w fun e w' => Panics w e w' := by
  have hl0 := World.block_lt_of_cell? w _ h
  simp only at hl0
  have hn0 : ¬ b = w.heap.size := by omega
  simp only [layN] at h
  obtain ⟨c, E, hta⟩ := hta
  go_enter Try.func62, Try.ntmps62
  go_wp2_with fail
  refine wp_region_any (by kernel_rfl) ?_
  change wpAny _ _ _ _ _ _ _ (World.drew _)
  refine wpAny_take (i := 1) (v := ?_) rfl (by kernel_rfl) (by kernel_rfl) (by kernel_rfl) (fun _ _ _ h => h) (Or.inl ⟨by rfl, ?_⟩) ?_
  rotate_left
  · intro w; go_simp; try (with_reducible rfl)
  refine wpAny_ready (rs := [0, 2]) (by kernel_rfl) (by simp) ?_
  refine AllReady.cons rfl (fun K hK => ?_) ?_
  · go_simp
    refine hK _ _ ?_
    clear hK K
    refine wpAny_ready (rs := [2]) (by kernel_rfl) (by simp) ?_
    refine AllReady.cons rfl (fun K hK => ?_) ?_
    · go_simp
      exact ⟨rfl, _, rfl, by repeat (first | with_reducible exact Below.refl _ _ | with_reducible refine Below.alloc ?_ (by simp; try omega) _ | with_reducible refine Below.drew ?_ | with_reducible refine below_drewN ?_ _)⟩
    exact AllReady.nil
  refine AllReady.cons rfl (fun K hK => ?_) ?_
  · go_simp
    exact ⟨rfl, _, rfl, by repeat (first | with_reducible exact Below.refl _ _ | with_reducible refine Below.alloc ?_ (by simp; try omega) _ | with_reducible refine Below.drew ?_ | with_reducible refine below_drewN ?_ _)⟩
  exact AllReady.nil
set_option maxRecDepth 100000 in
set_option maxHeartbeats 1600000 in
theorem aw_7 (b o : Nat) (T : TypeId) (V : Value) (w : World) (h : w.cell? ⟨b, o, none⟩ = some (.string ⟨(layN 7).toArray⟩)) (hta : Has 102 T) :
    Calls Try.prog 62 #[.iface T V, .pointer (some ⟨b, o, none⟩)] w fun e w' => e = .returned (wrapV b o (.iface T V) 7) ∧ Below w.heap.size w w' := by
  have hl0 := World.block_lt_of_cell? w _ h
  simp only at hl0
  have hn0 : ¬ b = w.heap.size := by omega
  simp only [layN] at h
  unfold wrapV
  unfold Has at hta
  go_enter Try.func62, Try.ntmps62
  go_wp2_with fail
  try go_region
  all_goals (try go_wp2_with fail)
  all_goals
    go_ret
    refine ⟨rfl, ?_⟩
    repeat (first | with_reducible exact Below.refl _ _ | with_reducible refine Below.alloc ?_ (by simp; try omega) _ | with_reducible refine bel_dr ?_)
set_option maxRecDepth 100000 in
set_option maxHeartbeats 1600000 in
theorem awp_7 (b o : Nat) (T : TypeId) (V : Value) (w : World) (h : w.cell? ⟨b, o, none⟩ = some (.string ⟨(layN 7).toArray⟩)) (hta : Fails 102 T) :
    Calls Try.prog 62 #[.iface T V, .pointer (some ⟨b, o, none⟩)] w fun e w' => Panics w e w' := by
  have hl0 := World.block_lt_of_cell? w _ h
  simp only at hl0
  have hn0 : ¬ b = w.heap.size := by omega
  simp only [layN] at h
  obtain ⟨c, E, hta⟩ := hta
  go_enter Try.func62, Try.ntmps62
  go_wp2_with fail
  refine wp_region_any (by kernel_rfl) ?_
  change wpAny _ _ _ _ _ _ _ (World.drew _)
  refine wpAny_take (i := 1) (v := ?_) rfl (by kernel_rfl) (by kernel_rfl) (by kernel_rfl) (fun _ _ _ h => h) (Or.inl ⟨by rfl, ?_⟩) ?_
  rotate_left
  · intro w; go_simp; try (with_reducible rfl)
  refine wpAny_ready (rs := [0, 2]) (by kernel_rfl) (by simp) ?_
  refine AllReady.cons rfl (fun K hK => ?_) ?_
  · go_simp
    refine hK _ _ ?_
    clear hK K
    refine wpAny_ready (rs := [2]) (by kernel_rfl) (by simp) ?_
    refine AllReady.cons rfl (fun K hK => ?_) ?_
    · go_simp
      exact ⟨rfl, _, rfl, by repeat (first | with_reducible exact Below.refl _ _ | with_reducible refine Below.alloc ?_ (by simp; try omega) _ | with_reducible refine Below.drew ?_ | with_reducible refine below_drewN ?_ _)⟩
    exact AllReady.nil
  refine AllReady.cons rfl (fun K hK => ?_) ?_
  · go_simp
    exact ⟨rfl, _, rfl, by repeat (first | with_reducible exact Below.refl _ _ | with_reducible refine Below.alloc ?_ (by simp; try omega) _ | with_reducible refine Below.drew ?_ | with_reducible refine below_drewN ?_ _)⟩
  exact AllReady.nil
set_option maxRecDepth 100000 in
set_option maxHeartbeats 1600000 in
theorem aw_8 (b o : Nat) (T : TypeId) (V : Value) (w : World) (h : w.cell? ⟨b, o, none⟩ = some (.string ⟨(layN 8).toArray⟩)) (hta : Has 118 T) :
    Calls Try.prog 62 #[.iface T V, .pointer (some ⟨b, o, none⟩)] w fun e w' => e = .returned (wrapV b o (.iface T V) 8) ∧ Below w.heap.size w w' := by
  have hl0 := World.block_lt_of_cell? w _ h
  simp only at hl0
  have hn0 : ¬ b = w.heap.size := by omega
  simp only [layN] at h
  unfold wrapV
  unfold Has at hta
  go_enter Try.func62, Try.ntmps62
  go_wp2_with fail
  try go_region
  all_goals (try go_wp2_with fail)
  all_goals
    go_ret
    refine ⟨rfl, ?_⟩
    repeat (first | with_reducible exact Below.refl _ _ | with_reducible refine Below.alloc ?_ (by simp; try omega) _ | with_reducible refine bel_dr ?_)
set_option maxRecDepth 100000 in
set_option maxHeartbeats 1600000 in
theorem awp_8 (b o : Nat) (T : TypeId) (V : Value) (w : World) (h : w.cell? ⟨b, o, none⟩ = some (.string ⟨(layN 8).toArray⟩)) (hta : Fails 118 T) :
    Calls Try.prog 62 #[.iface T V, .pointer (some ⟨b, o, none⟩)] w fun e w' => Panics w e w' := by
  have hl0 := World.block_lt_of_cell? w _ h
  simp only at hl0
  have hn0 : ¬ b = w.heap.size := by omega
  simp only [layN] at h
  obtain ⟨c, E, hta⟩ := hta
  go_enter Try.func62, Try.ntmps62
  go_wp2_with fail
  refine wp_region_any (by kernel_rfl) ?_
  change wpAny _ _ _ _ _ _ _ (World.drew _)
  refine wpAny_take (i := 1) (v := ?_) rfl (by kernel_rfl) (by kernel_rfl) (by kernel_rfl) (fun _ _ _ h => h) (Or.inl ⟨by rfl, ?_⟩) ?_
  rotate_left
  · intro w; go_simp; try (with_reducible rfl)
  refine wpAny_ready (rs := [0, 2]) (by kernel_rfl) (by simp) ?_
  refine AllReady.cons rfl (fun K hK => ?_) ?_
  · go_simp
    refine hK _ _ ?_
    clear hK K
    refine wpAny_ready (rs := [2]) (by kernel_rfl) (by simp) ?_
    refine AllReady.cons rfl (fun K hK => ?_) ?_
    · go_simp
      exact ⟨rfl, _, rfl, by repeat (first | with_reducible exact Below.refl _ _ | with_reducible refine Below.alloc ?_ (by simp; try omega) _ | with_reducible refine Below.drew ?_ | with_reducible refine below_drewN ?_ _)⟩
    exact AllReady.nil
  refine AllReady.cons rfl (fun K hK => ?_) ?_
  · go_simp
    exact ⟨rfl, _, rfl, by repeat (first | with_reducible exact Below.refl _ _ | with_reducible refine Below.alloc ?_ (by simp; try omega) _ | with_reducible refine Below.drew ?_ | with_reducible refine below_drewN ?_ _)⟩
  exact AllReady.nil
end Go.Proofs.Ytaihdjdaamglnac
/- Reply: what the laws' own helpers do with it. Written by gen/flat.py. -/
namespace Go.Proofs.Ytaihdjdaamglnac
set_option linter.unusedVariables false
open Go.RowKit
structure ReplyD where
  fCode : Int
  fValue : Int
  fText : List UInt8
  fWant : Int
  fHad : Int
deriving DecidableEq
def okReply (d : ReplyD) : Prop := (-9223372036854775808 ≤ d.fCode ∧ d.fCode ≤ 9223372036854775807) ∧ (-9223372036854775808 ≤ d.fValue ∧ d.fValue ≤ 9223372036854775807) ∧ (d.fText.length ≤ maxLen) ∧ (-9223372036854775808 ≤ d.fWant ∧ d.fWant ≤ 9223372036854775807) ∧ (-9223372036854775808 ≤ d.fHad ∧ d.fHad ≤ 9223372036854775807)
def vReply (d : ReplyD) : Value := .agg #[.int .i64 d.fCode, .int .i64 d.fValue, .string ⟨d.fText.toArray⟩, .int .i64 d.fWant, .int .i64 d.fHad]
def cReply (d : ReplyD) : List Value := [.int .i64 d.fCode, .int .i64 d.fValue, .string ⟨d.fText.toArray⟩, .int .i64 d.fWant, .int .i64 d.fHad]
theorem cReply_len (d : ReplyD) : (cReply d).length = 5 := rfl
theorem cReply_one (d : ReplyD) : ∀ u ∈ cReply d, u.oneCell' = true := by intro u hu; simp only [cReply, List.mem_cons, List.not_mem_nil, or_false] at hu; rcases hu with rfl | rfl | rfl | rfl | rfl <;> rfl
def zReply (d : ReplyD) : Nat := d.fText.length
theorem infoReply : (Try.prog.info? 39).map (fun i => (i.zero, i.size, i.bytes)) = some (some (.agg #[.int .i64 0, .int .i64 0, .string ⟨#[]⟩, .int .i64 0, .int .i64 0]), 5, 48) := by kernel_rfl
def marksReply (k : Int) (n : Nat) : List ReplyD := (List.range n).map fun i : Nat => ⟨k + i * 5, k + i * 5 + 1, markL (k + i * 5 + 1 + 1), k + i * 5 + 1 + 1 + 1, k + i * 5 + 1 + 1 + 1 + 1⟩
theorem marksReply_len (k : Int) (n : Nat) : (marksReply k n).length = n := by simp [marksReply]
theorem marksReply_get (k : Int) (n i : Nat) (h : i < n) : (marksReply k n)[i]'(by rw [marksReply_len]; exact h) = ⟨k + i * 5, k + i * 5 + 1, markL (k + i * 5 + 1 + 1), k + i * 5 + 1 + 1 + 1, k + i * 5 + 1 + 1 + 1 + 1⟩ := by simp [marksReply]
end Go.Proofs.Ytaihdjdaamglnac
/- wrapIn: its deferred function literal, and itself. -/
namespace Go.Proofs.Ytaihdjdaamglnac
set_option linter.unusedVariables false
set_option linter.unusedSimpArgs false
open Go.RowKit
/-- the literal's boxes: the layer at nl, what is inside at ni, what is outside at no, the reply at nr -/
structure BoxW (nl ni no nr b o : Nat) (k : List UInt8) (v : Value) (w : World) : Prop where
  l0 : w.cell? ⟨nl, 0, none⟩ = some (.pointer (some ⟨b, o, none⟩))
  n0 : w.cell? ⟨b, o, none⟩ = some (.string ⟨k.toArray⟩)
  i0 : w.cell? ⟨ni, 0, none⟩ = some v
  o0 : (w.cell? ⟨no, 0, none⟩).isSome = true
  oz : w.frozen? ⟨no, 0, none⟩ = false
  r : ∀ o, o < 5 → (w.cell? ⟨nr, o, none⟩).isSome = true
  z : ∀ o, o < 5 → w.frozen? ⟨nr, o, none⟩ = false
theorem some_lt {w : World} {n o : Nat} (h : (w.cell? ⟨n, o, none⟩).isSome = true) : n < w.heap.size := by
  obtain ⟨v, hv⟩ := Option.isSome_iff_exists.1 h
  exact World.block_lt_of_cell? w _ hv
theorem BoxW.below {nl ni no nr b o : Nat} {k : List UInt8} {v : Value} {w w' : World} (h : BoxW nl ni no nr b o k v w) (hb : Below w.heap.size w w') : BoxW nl ni no nr b o k v w' := by
  have hr := some_lt (h.r 0 (by decide))
  have ho := some_lt h.o0
  exact ⟨(hb.cell (p := ⟨nl, 0, none⟩) (World.block_lt_of_cell? w _ h.l0)).trans h.l0, (hb.cell (p := ⟨b, o, none⟩) (World.block_lt_of_cell? w _ h.n0)).trans h.n0, (hb.cell (p := ⟨ni, 0, none⟩) (World.block_lt_of_cell? w _ h.i0)).trans h.i0,
    by rw [hb.cell (p := ⟨no, 0, none⟩) ho]; exact h.o0, (hb.frozen (p := ⟨no, 0, none⟩) ho).trans h.oz, fun o ho => by rw [hb.cell (p := ⟨nr, o, none⟩) hr]; exact h.r o ho, fun o ho => (hb.frozen (p := ⟨nr, o, none⟩) hr).trans (h.z o ho)⟩
def putW (w : World) (no nr : Nat) (v : Value) (want had : Int) : World := (((((w.setCell ⟨no, 0, none⟩ v).setCell ⟨nr, 0, none⟩ (.int .i64 1)).setCell ⟨nr, 1, none⟩ (.int .i64 0)).setCell ⟨nr, 2, none⟩ (.string ⟨#[]⟩)).setCell ⟨nr, 3, none⟩ (.int .i64 want)).setCell ⟨nr, 4, none⟩ (.int .i64 had)
theorem catchW_idle (a1 a2 a3 a4 : Value) (w : World) :
    CallsD Try.prog 61 #[a1, a2, a3, a4] .returning w fun e u' w' => e = .returned (.tuple #[]) ∧ u' = .returning ∧ w' = w := by
  refine callsD_of_wpS Try.func61 rfl fun c₀ cs hu => ?_
  apply wpS_seq
  apply wpS_region
  simp [wpOpsS, go_sem, recoverD, hu, Try.ntmps61, Exit.thenS]
  refine wpS_cond (t := false) (by simp [Act.eval, Array.replicate]) ?_
  simp only [Bool.false_eq_true, if_false]
  refine wpS_of_wp (wp_skip ?_)
  cases c₀
  simp_all [bodyPostS, results, Try.results61]
set_option maxRecDepth 100000 in
set_option maxHeartbeats 1600000 in
theorem catchW (nl ni no nr b o : Nat) (k : List UInt8) (T : TypeId) (V : Value) (f : Int) (pv : Value) (w : World) (hf : FaceAt w T V f) (hb : BoxW nl ni no nr b o k (.iface T V) w) (hne : no ≠ nr) :
    CallsD Try.prog 61 #[.pointer (some ⟨nl, 0, none⟩), .pointer (some ⟨ni, 0, none⟩), .pointer (some ⟨no, 0, none⟩), .pointer (some ⟨nr, 0, none⟩)] (.panicking ({ v := .iface Try.prog.rt.typeAssertionError pv, recovered := false } :: [])) w fun e u' w' =>
      e = .returned (.tuple #[]) ∧ u' = .panicking ({ v := .iface Try.prog.rt.typeAssertionError pv, recovered := true } :: []) ∧ ∃ w1, Below w.heap.size w w1 ∧ w' = putW w1 no nr (.iface T V) (needI (layI k)) f := by
  have HX := Lib.hid hb
  have x0 := hb.l0
  have n0 := hb.n0
  have p0 := hb.i0
  have HW := Lib.hid (fun W => implLayerNeeds_any ⟨k.toArray⟩ W)
  simp only [List.toList_toArray, ndV] at HW
  obtain ⟨F, rcv, hF, hfm, hfn, HF0⟩ := hf
  have HF := Lib.hid HF0
  generalize needI (layI k) = want at *
  generalize decide (0 ≤ layI k) = q at *
  clear HF0 hb
  rcases hF with rfl | rfl
  all_goals
    refine callsD_of_wpS Try.func61 rfl fun c₀ cs hu => ?_
    apply wpS_seq
    apply wpS_region
    simp [wpOpsS, go_sem, recoverD, hu, Try.ntmps61, Exit.thenS]
    refine wpS_cond (t := true) (by simp [Act.eval, Array.replicate]) ?_
    simp only [if_true]
    refine wpS_of_wp ?_
    go_wp2_with (first | (go_at_call 46; (with_reducible refine (HW.out _).mono ?_); rintro e w' ⟨rfl, rfl⟩))
    go_region_with (first
      | ((with_reducible refine (HF.out _ (by repeat (first | with_reducible exact Below.refl _ _ | with_reducible refine bel_dr ?_))).mono ?_); rintro e w1 ⟨rfl, hb1⟩; have HB1 := Lib.hid (show Below w.heap.size w w1 from ⟨hb1.os, hb1.tape, hb1.output, hb1.size, hb1.block⟩); clear hb1; have KR := Lib.hid (HX.out.below HB1.out); have k0 := KR.out.i0; have yo := KR.out.oz; obtain ⟨eo, fo⟩ := Option.isSome_iff_exists.1 KR.out.o0; have y0 := KR.out.z 0 (by decide); have y1 := KR.out.z 1 (by decide); have y2 := KR.out.z 2 (by decide); have y3 := KR.out.z 3 (by decide); have y4 := KR.out.z 4 (by decide); obtain ⟨e0, f0⟩ := Option.isSome_iff_exists.1 (KR.out.r 0 (by decide)); obtain ⟨e1, f1⟩ := Option.isSome_iff_exists.1 (KR.out.r 1 (by decide)); obtain ⟨e2, f2⟩ := Option.isSome_iff_exists.1 (KR.out.r 2 (by decide)); obtain ⟨e3, f3⟩ := Option.isSome_iff_exists.1 (KR.out.r 3 (by decide)); obtain ⟨e4, f4⟩ := Option.isSome_iff_exists.1 (KR.out.r 4 (by decide))))
    all_goals
      refine ⟨rfl, _, rfl, .tuple #[], ?_, rfl, rfl, w1, HB1.out, rfl⟩
      simp [results, Try.results61, go_sem]
end Go.Proofs.Ytaihdjdaamglnac
/- wrapIn: what it answers. -/
namespace Go.Proofs.Ytaihdjdaamglnac
set_option linter.unusedVariables false
set_option linter.unusedSimpArgs false
open Go.RowKit
theorem bx_dr {w : World} {b : Nat} {cs : List Value} (h : Bx w b cs) : Bx w.drew b cs := ⟨h.lt, h.cell, h.froz⟩
/-- a region of a function with defers, which does not panic -/
def OnlyN (K : Act → World → Prop) : Exit → Act → World → Prop
  | .normal, a, w => K a w
  | _, _, _ => False
theorem wp_only {P : Program} {c : Code} {Q : Exit → Act → World → Prop} {a : Act} {w : World} (h : c.wp P (OnlyN (Q .normal)) a w) : c.wp P Q a w :=
  wp_mono h (fun e a w hh => by cases e <;> first | exact hh | exact hh.elim)
/-- what wrapIn answers: the wrapped part, or what came in -/
def WrapRes (b o i : Nat) (v : Value) (f : Int) (w : World) (e : Ending) (w' : World) : Prop :=
  Below w.heap.size w w' ∧ ((offersF f (needN i) = true ∧ e = .returned (.tuple #[wrapV b o v i, vReply ⟨0, giveN i, [], 0, 0⟩])) ∨ (offersF f (needN i) = false ∧ e = .returned (.tuple #[v, vReply ⟨1, 0, [], needN i, f⟩])))
set_option maxRecDepth 100000 in
set_option maxHeartbeats 1600000 in
theorem wrapIn_ok (b o i : Nat) (hi : i < 9) (T : TypeId) (V : Value) (f : Int) (w : World) (h : w.cell? ⟨b, o, none⟩ = some (.string ⟨(layN i).toArray⟩)) (ho : offersF f (needN i) = true)
    (hA : ∀ W, Below w.heap.size w W → Calls Try.prog 62 #[.iface T V, .pointer (some ⟨b, o, none⟩)] W fun e w' => e = .returned (wrapV b o (.iface T V) i) ∧ Below W.heap.size W w') :
    Calls Try.prog 48 #[.iface T V, .pointer (some ⟨b, o, none⟩)] w fun e w' => WrapRes b o i (.iface T V) f w e w' := by
  have hl0 := World.block_lt_of_cell? w _ h
  obtain ⟨T', V', hv, hF, _⟩ := iface_wrap (T := T) (V := V) i hi h
  unfold WrapRes
  rw [hv] at hA ⊢
  obtain ⟨F, rcv, hFF, hfm, hfn, hFC⟩ := hF
  have HF := Lib.hid hFC
  have HA := Lib.hid hA
  have HO := Lib.hid ho
  generalize giveN i = g at *
  clear h hA ho hv hFC
  have hmf : ∀ (fn : Fn) (first cap : Array Value) (w : World), (Instr.makeFunc fn first cap).run Try.prog w = .ok (.func fn first cap) w := fun _ _ _ _ => rfl
  have BX := Lib.hid (bx_start3 (w.alloc (.cells #[.iface T V] 72)) [.pointer (some ⟨b, o, none⟩)] [.nilIface] [.int .i64 0, .int .i64 0, .string ⟨#[]⟩, .int .i64 0, .int .i64 0] 77 72 39)
  have HB3 := Lib.hid (belS (part_box w (.cells #[.iface T V] 72)) BX.out.2.2.2)
  rw [show (w.alloc (.cells #[.iface T V] 72)).heap.size = w.heap.size + 1 by simp] at BX
  rcases hFF with rfl | rfl
  all_goals
    go_enter_defers Try.func48, Try.ntmps48
    go_wp2_with fail
    refine (HA.out _ HB3.out).mono ?_
    rintro e w1 ⟨rfl, hb⟩
    have HB1 := Lib.hid (belS HB3.out hb)
    have BO := Lib.hid (BX.out.2.1.below hb)
    have BR := Lib.hid (BX.out.2.2.1.below hb)
    clear hb HA
    have c0 := BO.out.cell 0 (by simp)
    simp only [List.getElem_cons_zero, List.getElem_cons_succ] at c0
    have z0 := BO.out.froz 0 (by simp)
    go_wp2_with fail
    have BO2 := Lib.hid (bx_dr (BO.out.set 0 (by simp) (.iface T' V')))
    have BR2 := Lib.hid (bx_dr (BR.out.other (c := w.heap.size + 1 + 1) (by omega) 0 (.iface T' V')))
    have HB2 := Lib.hid (bel_dr (HB1.out.setCell (p := ⟨w.heap.size + 1 + 1, 0, none⟩) (by simp; omega) (.iface T' V')))
    simp only [List.set_cons_zero] at BO2
    clear c0 z0
    have c0 := BO2.out.cell 0 (by simp)
    simp only [List.getElem_cons_zero, List.getElem_cons_succ] at c0
    have z0 := BO2.out.froz 0 (by simp)
    have r0 := BR2.out.cell 0 (by simp)
    have r1 := BR2.out.cell 1 (by simp)
    have r2 := BR2.out.cell 2 (by simp)
    have r3 := BR2.out.cell 3 (by simp)
    have r4 := BR2.out.cell 4 (by simp)
    simp only [List.getElem_cons_zero, List.getElem_cons_succ] at r0 r1 r2 r3 r4
    have y0 := BR2.out.froz 0 (by simp)
    have y1 := BR2.out.froz 1 (by simp)
    have y2 := BR2.out.froz 2 (by simp)
    have y3 := BR2.out.froz 3 (by simp)
    have y4 := BR2.out.froz 4 (by simp)
    refine wp_only ?_
    go_region_with (first
      | ((with_reducible refine (HF.out _ (by repeat (first | with_reducible exact HB1.out | refine bel_dr ?_ | refine Below.setCell ?_ (by simp; try omega) _))).mono ?_); rintro e w2 ⟨rfl, hb2⟩; have HB3 := Lib.hid (show Below w.heap.size w w2 from by first | exact belS HB2.out hb2 | exact belS (HB2.out.setCell (p := ⟨w.heap.size + 1 + 1, 0, none⟩) (by simp; omega) (.iface T' V')) hb2); have BO3 := Lib.hid (show Bx w2 (w.heap.size + 1 + 1) [.iface T' V'] from by first | exact BO2.out.below hb2 | exact (BO2.out.set 0 (by simp) (.iface T' V')).below hb2); have BR3 := Lib.hid (show Bx w2 (w.heap.size + 1 + 1 + 1) [.int .i64 0, .int .i64 0, .string ⟨#[]⟩, .int .i64 0, .int .i64 0] from by first | exact BR2.out.below hb2 | exact (BR2.out.other (c := w.heap.size + 1 + 1) (by omega) 0 (.iface T' V')).below hb2); have c3 := BO3.out.cell 0 (by simp); have z3 := BO3.out.froz 0 (by simp); have r3 := BR3.out.cell 0 (by simp); have r4 := BR3.out.cell 1 (by simp); have r5 := BR3.out.cell 2 (by simp); have r6 := BR3.out.cell 3 (by simp); have r7 := BR3.out.cell 4 (by simp); have y5 := BR3.out.froz 0 (by simp); have y6 := BR3.out.froz 1 (by simp); have y7 := BR3.out.froz 2 (by simp); have y8 := BR3.out.froz 3 (by simp); have y9 := BR3.out.froz 4 (by simp); simp only [List.getElem_cons_zero, List.getElem_cons_succ] at c3 r3 r4 r5 r6 r7))
    all_goals unfold OnlyN
    all_goals go_wp2_with fail
    all_goals
      change Leaves _ _ _ _ _ _ _
      refine leaves_cons (f := 61) (args := #[.pointer (some ⟨w.heap.size + 1, 0, none⟩), .pointer (some ⟨w.heap.size, 0, none⟩), .pointer (some ⟨w.heap.size + 1 + 1, 0, none⟩), .pointer (some ⟨w.heap.size + 1 + 1 + 1, 0, none⟩)]) (by simp) (by simp [go_sem]) ?_
      refine (catchW_idle _ _ _ _ _).mono ?_
      rintro e u' w'' ⟨rfl, rfl, rfl⟩
      simp [Leaves, settle, results, Try.results48, go_sem, cell_set_at, cell_set_ne, c3, r3, r4, r5, r6, r7]
      refine ⟨?_, Or.inl ⟨HO.out, rfl⟩⟩
      repeat (first | with_reducible exact HB3.out | refine Below.setCell ?_ (by simp; try omega) _)
end Go.Proofs.Ytaihdjdaamglnac
/- wrapIn: where the assertion is not met; wrapIn whole; wholePart. -/
namespace Go.Proofs.Ytaihdjdaamglnac
set_option linter.unusedVariables false
set_option linter.unusedSimpArgs false
open Go.RowKit
set_option maxRecDepth 100000 in
set_option maxHeartbeats 1600000 in
theorem wrapIn_fail (b o i : Nat) (hi : i < 9) (T : TypeId) (V : Value) (f : Int) (w : World) (h : w.cell? ⟨b, o, none⟩ = some (.string ⟨(layN i).toArray⟩)) (ho : offersF f (needN i) = false) (hF : FaceAt w T V f)
    (hA : ∀ W, Below w.heap.size w W → Calls Try.prog 62 #[.iface T V, .pointer (some ⟨b, o, none⟩)] W fun e w' => Panics W e w') :
    Calls Try.prog 48 #[.iface T V, .pointer (some ⟨b, o, none⟩)] w fun e w' => WrapRes b o i (.iface T V) f w e w' := by
  have hl0 := World.block_lt_of_cell? w _ h
  simp only at hl0
  unfold WrapRes
  have HX := Lib.hid h
  have HF := Lib.hid hF
  have HA := Lib.hid hA
  have HO := Lib.hid ho
  have HN := Lib.hid (show needI (layI (layN i)) = needN i from by
    rcases (show i = 0 ∨ i = 1 ∨ i = 2 ∨ i = 3 ∨ i = 4 ∨ i = 5 ∨ i = 6 ∨ i = 7 ∨ i = 8 by omega) with rfl | rfl | rfl | rfl | rfl | rfl | rfl | rfl | rfl <;> decide +kernel)
  clear h hA ho hF
  have hmf : ∀ (fn : Fn) (first cap : Array Value) (w : World), (Instr.makeFunc fn first cap).run Try.prog w = .ok (.func fn first cap) w := fun _ _ _ _ => rfl
  have BI := Lib.hid (Bx.new w [.iface T V] 72)
  have BX := Lib.hid (bx_start3 (w.alloc (.cells #[.iface T V] 72)) [.pointer (some ⟨b, o, none⟩)] [.nilIface] [.int .i64 0, .int .i64 0, .string ⟨#[]⟩, .int .i64 0, .int .i64 0] 77 72 39)
  have HB3 := Lib.hid (belS (part_box w (.cells #[.iface T V] 72)) BX.out.2.2.2)
  have BI2 := Lib.hid (BI.out.below BX.out.2.2.2)
  rw [show (w.alloc (.cells #[.iface T V] 72)).heap.size = w.heap.size + 1 by simp] at BX
  go_enter_defers Try.func48, Try.ntmps48
  go_wp2_with fail
  refine (HA.out _ HB3.out).mono ?_
  rintro e w1 ⟨pv, rfl, hb⟩
  have HB1 := Lib.hid (belS HB3.out hb)
  have BI3 := Lib.hid (BI2.out.below hb)
  have BL := Lib.hid (BX.out.1.below hb)
  have BO := Lib.hid (BX.out.2.1.below hb)
  have BR := Lib.hid (BX.out.2.2.1.below hb)
  clear hb HA
  have HBW := Lib.hid (show BoxW (w.heap.size + 1) w.heap.size (w.heap.size + 1 + 1) (w.heap.size + 1 + 1 + 1) b o (layN i) (.iface T V) w1 from
    ⟨BL.out.cell 0 (by simp), (HB1.out.cell (p := ⟨b, o, none⟩) hl0).trans HX.out, BI3.out.cell 0 (by simp), by rw [BO.out.cell 0 (by simp)]; rfl, BO.out.froz 0 (by simp),
      fun j hj => by rw [BR.out.cell j (by simpa using hj)]; rfl, fun j hj => BR.out.froz j (by simpa using hj)⟩)
  clear BI BI2 BI3 BL BO BR BX HX
  refine leaves_cons (f := 61) (args := #[.pointer (some ⟨w.heap.size + 1, 0, none⟩), .pointer (some ⟨w.heap.size, 0, none⟩), .pointer (some ⟨w.heap.size + 1 + 1, 0, none⟩), .pointer (some ⟨w.heap.size + 1 + 1 + 1, 0, none⟩)]) (by simp) (by simp [go_sem]) ?_
  refine (catchW _ _ _ _ b o (layN i) T V f pv _ (HF.out.below HB1.out) HBW.out (by omega)).mono ?_
  rintro e u' w'' ⟨rfl, rfl, w2, hb2, rfl⟩
  have HB2 := Lib.hid (belS HB1.out hb2)
  have KR := Lib.hid (HBW.out.below hb2)
  obtain ⟨eo, fo⟩ := Option.isSome_iff_exists.1 KR.out.o0
  obtain ⟨e0, f0⟩ := Option.isSome_iff_exists.1 (KR.out.r 0 (by decide))
  obtain ⟨e1, f1⟩ := Option.isSome_iff_exists.1 (KR.out.r 1 (by decide))
  obtain ⟨e2, f2⟩ := Option.isSome_iff_exists.1 (KR.out.r 2 (by decide))
  obtain ⟨e3, f3⟩ := Option.isSome_iff_exists.1 (KR.out.r 3 (by decide))
  obtain ⟨e4, f4⟩ := Option.isSome_iff_exists.1 (KR.out.r 4 (by decide))
  rw [HN.out]
  unfold putW vReply
  generalize needN i = want at *
  clear hb2 HBW KR
  simp [Leaves, settle, results, Try.results48, go_sem, cell_set_at, cell_set_ne, bx_set_ne, fo, f0, f1, f2, f3, f4]
  refine ⟨?_, HO.out⟩
  repeat (first | with_reducible exact HB2.out | refine Below.setCell ?_ (by simp; try omega) _)
theorem wrapIn_c (b o i : Nat) (hi : i < 9) (v : Value) (f : Int) (w : World) (h : w.cell? ⟨b, o, none⟩ = some (.string ⟨(layN i).toArray⟩)) (hv : IfaceAt w v f) :
    Calls Try.prog 48 #[v, .pointer (some ⟨b, o, none⟩)] w fun e w' => WrapRes b o i v f w e w' := by
  obtain ⟨T, V, rfl, hF, hA⟩ := hv
  have hl0 := World.block_lt_of_cell? w _ h
  have hW : ∀ W, Below w.heap.size w W → W.cell? ⟨b, o, none⟩ = some (.string ⟨(layN i).toArray⟩) := fun W hb => (hb.cell (p := ⟨b, o, none⟩) hl0).trans h
  obtain ⟨hf, hr, hk, ht, hbo⟩ := hA
  have h0 : offersF f 0 = true := by
    obtain ⟨F, rfl⟩ := isF_fin hf
    exact (off_bits F).1
  rcases (show i = 0 ∨ i = 1 ∨ i = 2 ∨ i = 3 ∨ i = 4 ∨ i = 5 ∨ i = 6 ∨ i = 7 ∨ i = 8 by omega) with rfl | rfl | rfl | rfl | rfl | rfl | rfl | rfl | rfl
  · exact wrapIn_ok b o 0 (by decide) T V f w h h0 (fun W hb => aw_0 b o T V W (hW W hb))
  · cases hq : offersF f 1 with
    | true => rw [hq] at hr; exact wrapIn_ok b o 1 (by decide) T V f w h hq (fun W hb => aw_1 b o T V W (hW W hb) hr)
    | false => rw [hq] at hr; exact wrapIn_fail b o 1 (by decide) T V f w h hq hF (fun W hb => awp_1 b o T V W (hW W hb) hr)
  · cases hq : offersF f 2 with
    | true => rw [hq] at hk; exact wrapIn_ok b o 2 (by decide) T V f w h hq (fun W hb => aw_2 b o T V W (hW W hb) hk)
    | false => rw [hq] at hk; exact wrapIn_fail b o 2 (by decide) T V f w h hq hF (fun W hb => awp_2 b o T V W (hW W hb) hk)
  · cases hq : offersF f 2 with
    | true => rw [hq] at hk; exact wrapIn_ok b o 3 (by decide) T V f w h hq (fun W hb => aw_3 b o T V W (hW W hb) hk)
    | false => rw [hq] at hk; exact wrapIn_fail b o 3 (by decide) T V f w h hq hF (fun W hb => awp_3 b o T V W (hW W hb) hk)
  · cases hq : offersF f 3 with
    | true => rw [hq] at hbo; exact wrapIn_ok b o 4 (by decide) T V f w h hq (fun W hb => aw_4 b o T V W (hW W hb) hbo)
    | false => rw [hq] at hbo; exact wrapIn_fail b o 4 (by decide) T V f w h hq hF (fun W hb => awp_4 b o T V W (hW W hb) hbo)
  · cases hq : offersF f 2 with
    | true => rw [hq] at hk; exact wrapIn_ok b o 5 (by decide) T V f w h hq (fun W hb => aw_5 b o T V W (hW W hb) hk)
    | false => rw [hq] at hk; exact wrapIn_fail b o 5 (by decide) T V f w h hq hF (fun W hb => awp_5 b o T V W (hW W hb) hk)
  · cases hq : offersF f 1 with
    | true => rw [hq] at hr; exact wrapIn_ok b o 6 (by decide) T V f w h hq (fun W hb => aw_6 b o T V W (hW W hb) hr)
    | false => rw [hq] at hr; exact wrapIn_fail b o 6 (by decide) T V f w h hq hF (fun W hb => awp_6 b o T V W (hW W hb) hr)
  · cases hq : offersF f 1 with
    | true => rw [hq] at hr; exact wrapIn_ok b o 7 (by decide) T V f w h hq (fun W hb => aw_7 b o T V W (hW W hb) hr)
    | false => rw [hq] at hr; exact wrapIn_fail b o 7 (by decide) T V f w h hq hF (fun W hb => awp_7 b o T V W (hW W hb) hr)
  · cases hq : offersF f 4 with
    | true => rw [hq] at ht; exact wrapIn_ok b o 8 (by decide) T V f w h hq (fun W hb => aw_8 b o T V W (hW W hb) ht)
    | false => rw [hq] at ht; exact wrapIn_fail b o 8 (by decide) T V f w h hq hF (fun W hb => awp_8 b o T V W (hW W hb) ht)
end Go.Proofs.Ytaihdjdaamglnac
/- wholePart: a valid part with all its adapters, as a value of an interface type. -/
namespace Go.Proofs.Ytaihdjdaamglnac
set_option linter.unusedVariables false
set_option linter.unusedSimpArgs false
open Go.RowKit
theorem partB_lay {x : PartD} (h : partB x = true) (k : Nat) (hk : k < x.fLayers.length) : layOk x k = true := by
  cases hq : layOk x k with
  | true => rfl
  | false => rw [partB_bad hk hq] at h; cases h
theorem partB_core {x : PartD} (h : partB x = true) : coreB x.fCore = true := by
  simp only [partB, Bool.and_eq_true] at h; exact h.1.1
theorem partB_len {x : PartD} (h : partB x = true) : x.fLayers.length ≤ 3 := by
  simp only [partB, Bool.and_eq_true, decide_eq_true_iff] at h; exact h.1.2
theorem coreB_kind {d : CoreD} (h : coreB d = true) : ∃ j : Nat, kindI d.fKind = j ∧ j < 8 ∧ kindN j = d.fKind := by
  have h0 : 0 ≤ kindI d.fKind := by
    simp only [coreB, Bool.and_eq_true, decide_eq_true_iff] at h; exact h.1.1.1.1.1
  rcases kindI_bd d.fKind with h1 | h1
  · omega
  · exact h1
theorem faceN_succ (x : PartD) (k : Nat) (hk : k < x.fLayers.length) : faceN x (k + 1) = giveI (layI (x.fLayers[k]).fName) := by
  show giveI (layI (x.fLayers.getD k default).fName) = _
  rw [List.getD_eq_getElem?_getD, List.getElem?_eq_getElem hk]; rfl
/-- the face and the assertions of a valid part with its first layers -/
def Whole (x : PartD) (k : Nat) (w : World) (v : Value) : Prop := IfaceAt w v (faceN x k)
set_option maxRecDepth 100000 in
set_option maxHeartbeats 3200000 in
theorem wholePart_c (b0 : Nat) (cs : List Value) (x : PartD) (w : World) (hx : rPart 0 w cs x) (hb : Bx w b0 cs) (hp : partB x = true) :
    Calls Try.prog 49 #[.pointer (some ⟨b0, 0, none⟩)] w fun e w' => ∃ v, e = .returned v ∧ IfaceAt w' v (faceP x) ∧ Below w.heap.size w w' := by
  have HLK := Lib.hid (fun k hk => partB_lay hp k hk)
  have HOK := Lib.hid (fun i h y hy => layOk_of x i h y hy)
  have HFS := Lib.hid (faceN_succ x)
  have HFP := Lib.hid (show faceP x = faceN x x.fLayers.length from rfl)
  obtain ⟨j, hj1, hj2, hj3⟩ := coreB_kind (partB_core hp)
  have H0 := Lib.hid (show faceN x 0 = kfN j by unfold faceN kfI; rw [hj1, if_neg (by omega)]; rfl)
  obtain ⟨xc, ls⟩ := x
  obtain ⟨v3, v5, rfl, h3, h5⟩ := hx
  simp only at h3 h5 hj3 HLK HOK HFS HFP
  obtain ⟨sa, sc, rfl, hl, hcap⟩ := sliceAt_cap h5
  have H5 := Lib.hid h5
  have BX := Lib.hid hb
  have HK := Lib.hid (show w.cell? ⟨b0, 0, none⟩ = some (.string ⟨(kindN j).toArray⟩) by have h := hb.cell 0 (by simp); rw [hj3]; exact h)
  have HPO := Lib.hid (partOf_k j hj2 b0 w HK.out)
  unfold maxLen at hl
  clear h3 h5 hp hj1 hj3 hb
  go_enter Try.func49, Try.ntmps49
  go_wp2_with fail
  refine HPO.out.mono ?_
  rintro e w1 ⟨rfl, hb⟩
  have HB1 := Lib.hid hb
  have BX1 := Lib.hid (BX.out.below hb)
  have HI := Lib.hid (show IfaceAt w1 (partV b0 j) (faceN ⟨xc, ls⟩ 0) by rw [H0.out]; exact iface_kind j hj2 ((hb.cell (p := ⟨b0, 0, none⟩) BX.out.lt).trans HK.out))
  generalize partV b0 j = pv at *
  clear hb
  have e5 := BX1.out.cell 5 (by simp)
  simp only [List.getElem_cons_zero, List.getElem_cons_succ] at e5
  go_wp2_with fail
  clear e5
  go_loopw [3, 4, 14] (fun u3 _ i wr => ∃ k : Nat, k ≤ ls.length ∧ i = .int .i64 k ∧ Whole ⟨xc, ls⟩ k wr u3 ∧ Below w.heap.size w wr) (fun _ _ i _ => ls.length - (intOf i).toNat)
  case atStart => exact ⟨0, Nat.zero_le _, rfl, HI.out, HB1.out⟩
  case round =>
    obtain ⟨k, hk, rfl, ht, hbr⟩ := hrel
    have HT := Lib.hid ht
    have HBr := Lib.hid hbr
    have BXr := Lib.hid (BX.out.below hbr)
    have HXr := Lib.hid (SliceAt.below H5.out (good_flat cLayer_len) hbr (Nat.le_refl _))
    clear ht hbr
    by_cases hlt : k < ls.length
    · obtain ⟨b, o, cs, rfl, hbw, hat, hd⟩ := sliceAt_cell HXr.out k hlt
      have HO1 := Lib.hid (HLK.out k hlt)
      have HO2 := Lib.hid (HOK.out k hlt _ rfl)
      have HF1 := Lib.hid (HFS.out k hlt)
      have d0 := hd 0 (by decide)
      generalize ls[k] = z at *
      obtain ⟨z0, z1⟩ := z
      simp only [rFlat, cLayer] at hat HO2 HF1
      subst hat
      simp only [List.getElem?_cons_zero, Nat.add_zero] at d0
      have hh := HO1.out
      rw [HO2.out] at hh
      simp only [Bool.and_eq_true, decide_eq_true_iff] at hh
      obtain ⟨⟨hh1, hh2⟩, _⟩ := hh
      obtain ⟨q, hq1, hq2, hq3⟩ : ∃ q : Nat, layI z0 = q ∧ q < 9 ∧ layN q = z0 := by
        rcases layI_bd z0 with h1 | h1
        · omega
        · exact h1
      subst hq3
      have hn : needI (layI (layN q)) = needN q := by rw [hq1]; unfold needI; rw [if_neg (by omega)]; rfl
      have hg : giveI (layI (layN q)) = giveN q := by rw [hq1]; unfold giveI; rw [if_neg (by omega)]; rfl
      have HW := Lib.hid (wrapIn_c b (o + k * 2) q hq2 u3 (faceN ⟨xc, ls⟩ k) wr d0 HT.out)
      have HOF := Lib.hid (show offersF (faceN ⟨xc, ls⟩ k) (needN q) = true by rw [← hn]; exact hh2)
      have HGV := Lib.hid (show faceN ⟨xc, ls⟩ (k + 1) = giveN q by rw [HF1.out, hg])
      have D0 := Lib.hid d0
      have hkc : (k : Int) < (ls.length : Int) := by omega
      have e5 := BXr.out.cell 5 (by simp)
      simp only [List.getElem_cons_zero, List.getElem_cons_succ] at e5
      obtain ⟨T, V, hu, hu2⟩ := HT.out
      have HU := Lib.hid hu
      clear hd HXr hh1 hh2 hq1 hn hg d0 HO1 HO2 HF1 HLK HOK HFS hu hu2
      go_wp2_with fail
      refine HW.out.mono ?_
      rintro e w2 ⟨hb2, hres⟩
      obtain rfl : e = .returned (.tuple #[wrapV b (o + k * 2) u3 q, vReply ⟨0, giveN q, [], 0, 0⟩]) := by
        rcases hres with ⟨_, h⟩ | ⟨h, _⟩
        · exact h
        · rw [HOF.out] at h; cases h
      have HB2 := Lib.hid (belS HBr.out hb2)
      have HWW := Lib.hid (show Whole ⟨xc, ls⟩ (k + 1) w2 (wrapV b (o + k * 2) u3 q) by
        unfold Whole
        rw [HGV.out, HU.out]
        exact iface_wrap q hq2 ((hb2.cell (p := ⟨b, o + k * 2, none⟩) hbw).trans D0.out))
      generalize wrapV b (o + k * 2) u3 q = nv at *
      unfold vReply
      clear hb2 hres e5
      go_wp2_with fail
      exact ⟨⟨k + 1, by omega, by go_num, HWW.out, HB2.out⟩, by simp [intOf]; omega⟩
    · have HR := Lib.hid (show IfaceAt wr u3 (faceP ⟨xc, ls⟩) by rw [HFP.out]; have h := HT.out; rwa [show k = ls.length by omega] at h)
      go_wp2
      go_ret
      exact ⟨u3, rfl, HR.out, HBr.out⟩
end Go.Proofs.Ytaihdjdaamglnac
/- Wrapping in plain words; results of a part and a reply. -/
namespace Go.Proofs.Ytaihdjdaamglnac
set_option linter.unusedVariables false
set_option linter.unusedSimpArgs false
open Go.RowKit
theorem Bx.put5 {w : World} {b : Nat} {c0 c1 c2 c3 c4 : Value} (h : Bx w b [c0, c1, c2, c3, c4]) (u0 u1 u2 u3 u4 : Value) :
    Bx (((((w.setCell ⟨b, 0, none⟩ u0).setCell ⟨b, 1, none⟩ u1).setCell ⟨b, 2, none⟩ u2).setCell ⟨b, 3, none⟩ u3).setCell ⟨b, 4, none⟩ u4) b [u0, u1, u2, u3, u4] :=
  (((((h.set 0 (by simp) u0).set 1 (by simp) u1).set 2 (by simp) u2).set 3 (by simp) u3).set 4 (by simp) u4)
theorem Bx.put5o {w : World} {b c : Nat} {cs : List Value} (h : Bx w b cs) (hne : b ≠ c) (u0 u1 u2 u3 u4 : Value) :
    Bx (((((w.setCell ⟨c, 0, none⟩ u0).setCell ⟨c, 1, none⟩ u1).setCell ⟨c, 2, none⟩ u2).setCell ⟨c, 3, none⟩ u3).setCell ⟨c, 4, none⟩ u4) b cs :=
  (((((h.other hne 0 u0).other hne 1 u1).other hne 2 u2).other hne 3 u3).other hne 4 u4)
theorem Bx.put6o {w : World} {b c : Nat} {cs : List Value} (h : Bx w b cs) (hne : b ≠ c) (u0 u1 u2 u3 u4 u5 : Value) :
    Bx ((((((w.setCell ⟨c, 0, none⟩ u0).setCell ⟨c, 1, none⟩ u1).setCell ⟨c, 2, none⟩ u2).setCell ⟨c, 3, none⟩ u3).setCell ⟨c, 4, none⟩ u4).setCell ⟨c, 5, none⟩ u5) b cs :=
  ((((((h.other hne 0 u0).other hne 1 u1).other hne 2 u2).other hne 3 u3).other hne 4 u4).other hne 5 u5)
theorem below_put5 {B : Nat} {a w : World} (h : Below B a w) (b : Nat) (hb : B ≤ b) (u0 u1 u2 u3 u4 : Value) :
    Below B a (((((w.setCell ⟨b, 0, none⟩ u0).setCell ⟨b, 1, none⟩ u1).setCell ⟨b, 2, none⟩ u2).setCell ⟨b, 3, none⟩ u3).setCell ⟨b, 4, none⟩ u4) :=
  (((((h.setCell (p := ⟨b, 0, none⟩) hb u0).setCell (p := ⟨b, 1, none⟩) hb u1).setCell (p := ⟨b, 2, none⟩) hb u2).setCell (p := ⟨b, 3, none⟩) hb u3).setCell (p := ⟨b, 4, none⟩) hb u4)
theorem ownsF_put5 {α : Type} {f : α → List Value} {E k : Nat} {w : World} {B : Nat} {v : Value} {l : List α} (h : OwnsF f E k w B v l) (b : Nat) (hb : b < B) (u0 u1 u2 u3 u4 : Value) :
    OwnsF f E k (((((w.setCell ⟨b, 0, none⟩ u0).setCell ⟨b, 1, none⟩ u1).setCell ⟨b, 2, none⟩ u2).setCell ⟨b, 3, none⟩ u3).setCell ⟨b, 4, none⟩ u4) B v l :=
  ownsF_set (ownsF_set (ownsF_set (ownsF_set (ownsF_set h hb) hb) hb) hb) hb
/-- the code of Wrap's reply -/
def wrapI (x : PartD) (s : List UInt8) : Int :=
  if partB x = true ∧ 0 ≤ layI s then (if x.fLayers.length = 3 then 5 else if offersF (faceP x) (needI (layI s)) = true then 0 else 1) else 7
def wrapP (x : PartD) (s : List UInt8) : PartD := if wrapI x s = 0 then ⟨x.fCore, x.fLayers ++ [⟨s, 0⟩]⟩ else x
def wrapR (x : PartD) (s : List UInt8) : ReplyD := ⟨wrapI x s, if wrapI x s = 0 then giveI (layI s) else 0, [], if wrapI x s = 1 then needI (layI s) else 0, if wrapI x s = 1 then faceP x else 0⟩
def GivesOPR (x : PartD) (r : ReplyD) (w : World) (e : Ending) (w' : World) : Prop := ∃ cs, e = .returned (.tuple #[.agg cs.toArray, vReply r]) ∧ oPart w' w.heap.size cs x ∧ Below w.heap.size w w'
def GivesPR (x : PartD) (r : ReplyD) (w : World) (e : Ending) (w' : World) : Prop := ∃ cs, e = .returned (.tuple #[.agg cs.toArray, vReply r]) ∧ rPart w.heap.size w' cs x ∧ Below w.heap.size w w'
theorem givesPR_of {x : PartD} {r : ReplyD} {w w' : World} {e : Ending} (h : GivesOPR x r w e w') (hs : SmallP x) : GivesPR x r w e w' := by
  obtain ⟨cs, h1, h2, h3⟩ := h
  exact ⟨cs, h1, oPart_r h2 hs, h3⟩
theorem wrap_bad {x : PartD} {s : List UInt8} (h : ¬ (partB x = true ∧ 0 ≤ layI s)) : wrapP x s = x ∧ wrapR x s = ⟨7, 0, [], 0, 0⟩ := by
  have hi : wrapI x s = 7 := if_neg h
  unfold wrapP wrapR; rw [hi]; exact ⟨rfl, rfl⟩
theorem wrap_full {x : PartD} {s : List UInt8} (h : partB x = true ∧ 0 ≤ layI s) (h3 : x.fLayers.length = 3) : wrapP x s = x ∧ wrapR x s = ⟨5, 0, [], 0, 0⟩ := by
  have hi : wrapI x s = 5 := by unfold wrapI; rw [if_pos h, if_pos h3]
  unfold wrapP wrapR; rw [hi]; exact ⟨rfl, rfl⟩
theorem wrap_ok {x : PartD} {s : List UInt8} (h : partB x = true ∧ 0 ≤ layI s) (h3 : ¬ x.fLayers.length = 3) (ho : offersF (faceP x) (needI (layI s)) = true) : wrapP x s = ⟨x.fCore, x.fLayers ++ [⟨s, 0⟩]⟩ ∧ wrapR x s = ⟨0, giveI (layI s), [], 0, 0⟩ := by
  have hi : wrapI x s = 0 := by unfold wrapI; rw [if_pos h, if_neg h3, if_pos ho]
  unfold wrapP wrapR; rw [hi]; exact ⟨rfl, rfl⟩
theorem wrap_fail {x : PartD} {s : List UInt8} (h : partB x = true ∧ 0 ≤ layI s) (h3 : ¬ x.fLayers.length = 3) (ho : offersF (faceP x) (needI (layI s)) = false) : wrapP x s = x ∧ wrapR x s = ⟨1, 0, [], needI (layI s), faceP x⟩ := by
  have hi : wrapI x s = 1 := by unfold wrapI; rw [if_pos h, if_neg h3, if_neg (by simp [ho])]
  unfold wrapP wrapR; rw [hi]; exact ⟨rfl, rfl⟩
theorem sumF_le {α : Type} (f : α → Nat) (b : Nat) (l : List α) (h : ∀ a ∈ l, f a ≤ b) : sumF f l ≤ l.length * b := by
  induction l with
  | nil => simp [sumF]
  | cons x r ih =>
    have h1 := ih (fun a ha => h a (List.mem_cons_of_mem _ ha))
    have h2 := h x (List.mem_cons_self ..)
    simp only [sumF, List.length_cons, Nat.add_mul, Nat.one_mul]; omega
theorem layN_len (k : Nat) : (layN k).length ≤ 6 := by unfold layN; split <;> decide
theorem kindN_len (k : Nat) : (kindN k).length ≤ 6 := by unfold kindN; split <;> decide
theorem partB_small {x : PartD} (h : partB x = true) : zPart x ≤ 100 := by
  have hc := partB_core h
  have hl := partB_len h
  obtain ⟨j, _, _, hj⟩ := coreB_kind hc
  have h1 : x.fCore.fKind.length ≤ 6 := by rw [← hj]; exact kindN_len j
  have hcb : cellsB x.fCore.fCells = true := by simp only [coreB, Bool.and_eq_true] at hc; exact hc.1.1.1.1.2
  have h2 := cellsB_len hcb
  have h3 := sumF_le zCell 8 x.fCore.fCells (fun c hc => by have h9 := (cellsB_mem hcb c hc).1; simp only [nameB, Bool.and_eq_true, decide_eq_true_iff] at h9; exact h9.1.1.2)
  have h4 := sumF_le zLayer 6 x.fLayers (fun y hy => by
    obtain ⟨i, hi, rfl⟩ := List.mem_iff_getElem.1 hy
    have h5 := partB_lay h i hi
    rw [layOk_of x i hi _ rfl] at h5
    simp only [Bool.and_eq_true, decide_eq_true_iff] at h5
    rcases layI_bd (x.fLayers[i]).fName with h6 | ⟨q, _, _, h7⟩
    · omega
    · show (x.fLayers[i]).fName.length ≤ 6
      rw [← h7]; exact layN_len q)
  have h5 : x.fCore.fCells.length * 8 ≤ 32 := by omega
  unfold zPart zCore
  omega
theorem wrapP_small {x : PartD} (hs : SmallP x) (s : List UInt8) : SmallP (wrapP x s) := by
  by_cases h : wrapI x s = 0
  · have h1 : partB x = true ∧ 0 ≤ layI s := by
      by_cases h1 : partB x = true ∧ 0 ≤ layI s
      · exact h1
      · rw [wrapI, if_neg h1] at h; cases h
    have h2 := partB_small h1.1
    have h3 : s.length ≤ 6 := by
      rcases layI_bd s with h6 | ⟨q, _, _, h7⟩
      · omega
      · rw [← h7]; exact layN_len q
    have h4 : ∀ (a : List LayerD), sumF zLayer (a ++ [⟨s, 0⟩]) = sumF zLayer a + s.length := by
      intro a
      induction a with
      | nil => simp [sumF, zLayer]
      | cons y r ih => simp only [List.cons_append, sumF, ih]; omega
    unfold wrapP
    rw [if_pos h]
    refine smallP_of ?_
    unfold zPart zCore at h2 ⊢
    simp only [h4, List.length_append, List.length_cons, List.length_nil]
    omega
  · unfold wrapP; rw [if_neg h]; exact hs
theorem append_lay {ops : Array Oper} {rest : List Oper} {o : Oper} {a : Act} {Q : Exit → Act → World → Prop} (hgd : o.guard = none) (s x : Operand)
    (ho : o.op = .call { callee := .builtin .append, args := #[s, x], argTypes := #[35, 35] }) (B : Nat) (v : Value) (l : List LayerD) (y : LayerD) (w : World) (blk : Nat)
    (hs : a.eval s = v) (hO : OwnsF cLayer 58 2 w B v l) (hx : a.eval x = .slice (some ⟨blk, 0, none⟩) 1 1) (hc : ∀ j, j < 2 → w.cell? ⟨blk, j, none⟩ = (cLayer y)[j]?) (hl : l.length ≤ 4194304) (hB : B ≤ w.heap.size)
    (h : ∀ v' w', OwnsF cLayer 58 2 w' B v' (l ++ [y]) → w.grownBy w' v.ownBlock → wpList Try.prog ops Q rest (a.put o.dst v') w') : wpList Try.prog ops Q (o :: rest) a w :=
  append_flat cLayer_len cLayer_one infoLay rfl (by decide) (by decide) Try.underlying35 hgd s x ho B v l y w blk hs hO hx hc hl hB h
theorem ownsF_setNe {α : Type} {f : α → List Value} {E k : Nat} {w : World} {B : Nat} {v : Value} {l : List α} {p : Addr} {u : Value} (h : OwnsF f E k w B v l) (hp : v.ownBlock ≠ some p.block) : OwnsF f E k (w.setCell p u) B v l :=
  World.ownsRow.kept h (row := some p.block) ⟨rfl, rfl, rfl, by simp, fun i hi hne => Below.heap_setCell w p u i (fun e => hne (by rw [e]))⟩ (Or.inr hp)
theorem slice_lenW {α : Type} {f : α → List Value} {E k : Nat} {w : World} {B m : Nat} {v : Value} {l : List α} (h : OwnsF f E k w B v l) (hm : l.length = m) : ∃ a c, v = .slice a m c := by
  subst hm; exact slice_of h
theorem lay_not_bool {w : World} {N b : Nat} {v : Value} {l : List LayerD} {x : Bool} (h : OwnsF cLayer 58 2 w N v l) (hl : 0 < l.length) (hb : w.cell? ⟨b, 1, none⟩ = some (.bool x)) : v.ownBlock ≠ some b := by
  rcases h.2 with ⟨rfl, _⟩ | ⟨g, cap, cur, rfl, _⟩
  · simp [Value.ownBlock]
  · intro e
    simp [Value.ownBlock] at e
    subst e
    have h1 := World.ownsRow.cellAt h 1 (by omega)
    rw [hb] at h1
    cases l with
    | nil => simp at hl
    | cons d r => simp [cLayer] at h1
end Go.Proofs.Ytaihdjdaamglnac
/- Contracts of chapter 3: NewCore, the program's and the model's. -/
namespace Go.Proofs.Ytaihdjdaamglnac
set_option linter.unusedVariables false
open Go.RowKit
def newCoreD (k : List UInt8) : CoreD := if 0 ≤ kindI k then ⟨k, false, false, [], 0⟩ else ⟨[], false, false, [], 0⟩
def GivesNew (k : List UInt8) (w : World) (e : Ending) (w' : World) : Prop := ∃ v, e = .returned (.tuple #[v, .bool (decide (0 ≤ kindI k))]) ∧ OwnsCore w' w.heap.size v (newCoreD k) ∧ Below w.heap.size w w'
theorem owns_zero (w : World) (B : Nat) (k : List UInt8) : OwnsCore w B (.agg #[.string ⟨k.toArray⟩, .bool false, .bool false, .slice none 0 0, .int .i64 0]) ⟨k, false, false, [], 0⟩ :=
  ⟨.slice none 0 0, rfl, rfl, Or.inl ⟨rfl, rfl⟩⟩
theorem newCoreD_yes {k : List UInt8} (h : decide (0 ≤ kindI k) = true) : newCoreD k = ⟨k, false, false, [], 0⟩ := if_pos (of_decide_eq_true h)
theorem newCoreD_no {k : List UInt8} (h : decide (0 ≤ kindI k) = false) : newCoreD k = ⟨[], false, false, [], 0⟩ := if_neg (of_decide_eq_false h)
theorem new_cells {f : FuncId} {args : Array Value} {k : List UInt8} {w : World} (h : Calls Try.prog f args w fun e w' => GivesNew k w e w') :
    Calls Try.prog f args w fun e w' => ∃ cv, e = .returned (.tuple #[vCore (newCoreD k) cv, .bool (decide (0 ≤ kindI k))]) ∧ OwnsF cCell 96 2 w' w.heap.size cv (newCoreD k).fCells ∧ Below w.heap.size w w' :=
  h.mono fun e w' ⟨v, h1, ⟨cv, h2, h3⟩, h4⟩ => ⟨cv, by rw [h1, h2], h3, h4⟩
set_option maxRecDepth 100000 in
set_option maxHeartbeats 1600000 in
theorem implNewCore_any (s : ByteArray) (w : World) (hs : s.size ≤ 1048576) :
    Calls Try.prog 44 #[.string s] w fun e w' => GivesNew s.data.toList w e w' := by
  have HK := Lib.hid (implKind_any s)
  have HC := Lib.hid (fun w0 => copyText_any s w0 (by omega))
  have HY := Lib.hid (@newCoreD_yes s.data.toList)
  have HN := Lib.hid (@newCoreD_no s.data.toList)
  have HS := Lib.hid (show (⟨s.data.toList.toArray⟩ : ByteArray) = s by simp)
  unfold GivesNew
  unfold kfV at HK
  generalize newCoreD s.data.toList = nc at *
  generalize kfI (kindI s.data.toList) = f at *
  generalize decide (0 ≤ kindI s.data.toList) = b at *
  generalize s.data.toList = l at *
  have hl := HS.out
  subst hl
  have HB0 := Lib.hid (show ∀ o, Below w.heap.size w (w.alloc o) from fun o => (Below.refl w.heap.size w).alloc (Nat.le_refl _) o)
  cases b with
  | false =>
    have HD := Lib.hid (HN.out rfl)
    go_enter Try.func44, Try.ntmps44
    go_wp2_with fail
    refine (HK.out _).mono ?_
    rintro e w1 ⟨rfl, rfl⟩
    go_wp2_with fail
    refine bodyPost_ret (v := .tuple #[.agg #[.string ⟨#[]⟩, .bool false, .bool false, .slice none 0 0, .int .i64 0], .bool false]) (by simp [results, Try.results44, go_sem]) rfl ⟨_, rfl, ?_, ?_⟩
    · rw [HD.out]; exact owns_zero _ _ []
    · first | exact HB0.out _ | (repeat (refine Below.setCell ?_ (by simp; try omega) _)
                                 exact HB0.out _)
  | true =>
    have HD := Lib.hid (HY.out rfl)
    go_enter Try.func44, Try.ntmps44
    go_wp2_with fail
    refine (HK.out _).mono ?_
    rintro e w1 ⟨rfl, rfl⟩
    go_wp2_with fail
    refine (HC.out _).mono ?_
    rintro e w1 ⟨rfl, hb⟩
    obtain ⟨hcc, hff⟩ := bcell hb
    simp at hcc hff
    have hsz := hb.size
    simp at hsz
    have HB := Lib.hid ((HB0.out _).trans (hb.mono (HB0.out _).size))
    clear hb
    go_wp2_with fail
    refine bodyPost_ret (v := .tuple #[.agg #[.string ⟨l.toArray⟩, .bool false, .bool false, .slice none 0 0, .int .i64 0], .bool true]) (by simp [results, Try.results44, go_sem, hcc]) rfl ⟨_, rfl, ?_, ?_⟩
    · rw [HD.out]; exact owns_zero _ _ l
    · repeat (refine Below.setCell ?_ (by simp; try omega) _)
      exact HB.out
set_option maxRecDepth 100000 in
set_option maxHeartbeats 1600000 in
theorem specNewCore_any (s : ByteArray) (w : World) (hs : s.size ≤ 1048576) :
    Calls Try.prog 25 #[.string s] w fun e w' => GivesNew s.data.toList w e w' := by
  have HK := Lib.hid (specKind_any s)
  have HY := Lib.hid (@newCoreD_yes s.data.toList)
  have HN := Lib.hid (@newCoreD_no s.data.toList)
  have HS := Lib.hid (show (⟨s.data.toList.toArray⟩ : ByteArray) = s by simp)
  unfold GivesNew
  unfold kfV at HK
  generalize newCoreD s.data.toList = nc at *
  generalize kfI (kindI s.data.toList) = f at *
  generalize decide (0 ≤ kindI s.data.toList) = b at *
  generalize s.data.toList = l at *
  have hl := HS.out
  subst hl
  have HB0 := Lib.hid (show ∀ o, Below w.heap.size w (w.alloc o) from fun o => (Below.refl w.heap.size w).alloc (Nat.le_refl _) o)
  cases b with
  | false =>
    have HD := Lib.hid (HN.out rfl)
    go_enter Try.func25, Try.ntmps25
    go_wp2_with fail
    refine (HK.out _).mono ?_
    rintro e w1 ⟨rfl, hb⟩
    obtain ⟨hcc, hff⟩ := bcell hb
    simp at hcc hff
    have hsz := hb.size
    simp at hsz
    have HB := Lib.hid ((HB0.out _).trans (hb.mono (HB0.out _).size))
    clear hb
    go_wp2_with fail
    refine bodyPost_ret (v := .tuple #[.agg #[.string ⟨#[]⟩, .bool false, .bool false, .slice none 0 0, .int .i64 0], .bool false]) (by simp [results, Try.results25, go_sem, hcc]) rfl ⟨_, rfl, ?_, ?_⟩
    · rw [HD.out]; exact owns_zero _ _ []
    · repeat (refine Below.setCell ?_ (by simp; try omega) _)
      exact HB.out
  | true =>
    have HD := Lib.hid (HY.out rfl)
    go_enter Try.func25, Try.ntmps25
    go_wp2_with fail
    refine (HK.out _).mono ?_
    rintro e w1 ⟨rfl, hb⟩
    obtain ⟨hcc, hff⟩ := bcell hb
    simp at hcc hff
    have hsz := hb.size
    simp at hsz
    have HB := Lib.hid ((HB0.out _).trans (hb.mono (HB0.out _).size))
    clear hb
    go_wp2_with fail
    refine bodyPost_ret (v := .tuple #[.agg #[.string ⟨l.toArray⟩, .bool false, .bool false, .slice none 0 0, .int .i64 0], .bool true]) (by simp [results, Try.results25, go_sem, hcc]) rfl ⟨_, rfl, ?_, ?_⟩
    · rw [HD.out]; exact owns_zero _ _ l
    · repeat (refine Below.setCell ?_ (by simp; try omega) _)
      exact HB.out
end Go.Proofs.Ytaihdjdaamglnac
/- Contracts of chapter 4: NewPart, both sides; what marks do to a part without rows. -/
namespace Go.Proofs.Ytaihdjdaamglnac
set_option linter.unusedVariables false
set_option linter.unusedSimpArgs false
open Go.RowKit
def nmK (l : List UInt8) : List UInt8 := if 0 ≤ kindI l then l else []
theorem newCore_is (l : List UInt8) : newCoreD l = ⟨nmK l, false, false, [], 0⟩ := by unfold newCoreD nmK; split <;> rfl
def vNP (l : List UInt8) (a : Option Addr) (c : Nat) : Value := .agg #[.string ⟨(nmK l).toArray⟩, .bool false, .bool false, .slice a 0 c, .int .i64 0, .slice none 0 0]
/-- the same, with the row of cells told as one's own -/
def GivesNPO (l : List UInt8) (w : World) (e : Ending) (w' : World) : Prop := ∃ a c, e = .returned (.tuple #[vNP l a c, .bool (decide (0 ≤ kindI l))]) ∧ OwnsF cCell 96 2 w' w.heap.size (.slice a 0 c) [] ∧ Below w.heap.size w w'
def GivesNP (l : List UInt8) (w : World) (e : Ending) (w' : World) : Prop := ∃ a c, e = .returned (.tuple #[vNP l a c, .bool (decide (0 ≤ kindI l))]) ∧ Below w.heap.size w w'
theorem flat_none {α : Type} (f : α → List Value) (k : Nat) (w : World) (a : Option Addr) (c : Nat) : FlatAt f k w (.slice a 0 c) ([] : List α) := ⟨a, c, by simp, by simp, Nat.zero_le _, Or.inl rfl⟩
theorem slice_none {α : Type} (R : Nat → World → List Value → α → Prop) (k F : Nat) (w : World) (a : Option Addr) (c : Nat) : SliceAt R k F w (.slice a 0 c) ([] : List α) := ⟨a, c, by simp, Nat.zero_le _, Or.inl rfl⟩
set_option maxRecDepth 100000 in
set_option maxHeartbeats 1600000 in
theorem implNewPart_own (s : ByteArray) (w : World) (hs : s.size ≤ 1048576) :
    Calls Try.prog 31 #[.string s] w fun e w' => GivesNPO s.data.toList w e w' := by
  have HC := Lib.hid (fun w0 => new_cells (implNewCore_any s w0 hs))
  have HS := Lib.hid (bx_start1 w [.string ⟨#[]⟩, .bool false, .bool false, .slice none 0 0, .int .i64 0, .slice none 0 0] 37)
  unfold GivesNPO vNP
  simp only [newCore_is, vCore] at HC
  generalize nmK s.data.toList = n at *
  generalize decide (0 ≤ kindI s.data.toList) = b at *
  clear hs
  go_enter Try.func31, Try.ntmps31
  go_wp2_with fail
  refine (HC.out _).mono ?_
  rintro e w1 ⟨cv, rfl, ho, hb⟩
  obtain ⟨a, c, rfl, _⟩ := flatAt_len (ownsF_at ho (by simp))
  have BN := Lib.hid (HS.out.1.below hb)
  have HB := Lib.hid (belS HS.out.2 hb)
  have OW := Lib.hid (ownsF_alloc (ownsF_put6 (ownsF_base (B' := w.heap.size + 1) ho (by simp)) w.heap.size (by omega) (.string ⟨n.toArray⟩) (.bool false) (.bool false) (.slice a 0 c) (.int .i64 0) (.slice none 0 0)) (.cells #[.string ⟨n.toArray⟩, .bool false, .bool false, .slice a 0 c, .int .i64 0] 34))
  clear ho hb
  have e0 := BN.out.cell 0 (by simp)
  have e1 := BN.out.cell 1 (by simp)
  have e2 := BN.out.cell 2 (by simp)
  have e3 := BN.out.cell 3 (by simp)
  have e4 := BN.out.cell 4 (by simp)
  have e5 := BN.out.cell 5 (by simp)
  have f0 := BN.out.froz 0 (by simp)
  have f1 := BN.out.froz 1 (by simp)
  have f2 := BN.out.froz 2 (by simp)
  have f3 := BN.out.froz 3 (by simp)
  have f4 := BN.out.froz 4 (by simp)
  have f5 := BN.out.froz 5 (by simp)
  have hl := BN.out.lt
  simp only [List.getElem_cons_zero, List.getElem_cons_succ] at e0 e1 e2 e3 e4 e5
  go_wp2_with fail
  clear e0 e1 e2 e3 e4 e5 f0 f1 f2 f3 f4 f5 hl
  have BN := Lib.hid (BN.out.set 0 (by simp) (.string ⟨n.toArray⟩))
  have HB := Lib.hid (HB.out.setCell (p := ⟨w.heap.size, 0, none⟩) (by simp) (.string ⟨n.toArray⟩))
  have BN := Lib.hid (BN.out.set 1 (by simp) (.bool false))
  have HB := Lib.hid (HB.out.setCell (p := ⟨w.heap.size, 1, none⟩) (by simp) (.bool false))
  have BN := Lib.hid (BN.out.set 2 (by simp) (.bool false))
  have HB := Lib.hid (HB.out.setCell (p := ⟨w.heap.size, 2, none⟩) (by simp) (.bool false))
  have BN := Lib.hid (BN.out.set 3 (by simp) (.slice a 0 c))
  have HB := Lib.hid (HB.out.setCell (p := ⟨w.heap.size, 3, none⟩) (by simp) (.slice a 0 c))
  have BN := Lib.hid (BN.out.set 4 (by simp) (.int .i64 0))
  have HB := Lib.hid (HB.out.setCell (p := ⟨w.heap.size, 4, none⟩) (by simp) (.int .i64 0))
  have BN := Lib.hid (BN.out.set 5 (by simp) (.slice none 0 0))
  have HB := Lib.hid (HB.out.setCell (p := ⟨w.heap.size, 5, none⟩) (by simp) (.slice none 0 0))
  have BN := Lib.hid (BN.out.alloc (.cells #[.string ⟨n.toArray⟩, .bool false, .bool false, .slice a 0 c, .int .i64 0] 34))
  have HB := Lib.hid (belS HB.out (bx_box _ (.cells #[.string ⟨n.toArray⟩, .bool false, .bool false, .slice a 0 c, .int .i64 0] 34)))
  simp only [List.set_cons_zero, List.set_cons_succ] at BN
  generalize (((((((w1).setCell ⟨w.heap.size, 0, none⟩ (.string ⟨n.toArray⟩)).setCell ⟨w.heap.size, 1, none⟩ (.bool false)).setCell ⟨w.heap.size, 2, none⟩ (.bool false)).setCell ⟨w.heap.size, 3, none⟩ (.slice a 0 c)).setCell ⟨w.heap.size, 4, none⟩ (.int .i64 0)).setCell ⟨w.heap.size, 5, none⟩ (.slice none 0 0)).alloc (.cells #[.string ⟨n.toArray⟩, .bool false, .bool false, .slice a 0 c, .int .i64 0] 34) = WE at *
  have e0 := BN.out.cell 0 (by simp)
  have e1 := BN.out.cell 1 (by simp)
  have e2 := BN.out.cell 2 (by simp)
  have e3 := BN.out.cell 3 (by simp)
  have e4 := BN.out.cell 4 (by simp)
  have e5 := BN.out.cell 5 (by simp)
  simp only [List.getElem_cons_zero, List.getElem_cons_succ] at e0 e1 e2 e3 e4 e5
  exact bodyPost_ret (v := .tuple #[.agg #[.string ⟨n.toArray⟩, .bool false, .bool false, .slice a 0 c, .int .i64 0, .slice none 0 0], .bool b]) (by simp [results, Try.results31, go_sem, e0, e1, e2, e3, e4, e5]) rfl ⟨a, c, rfl, ownsF_base OW.out (by omega), HB.out⟩
theorem implNewPart_any (s : ByteArray) (w : World) (hs : s.size ≤ 1048576) :
    Calls Try.prog 31 #[.string s] w fun e w' => GivesNP s.data.toList w e w' :=
  (implNewPart_own s w hs).mono fun e w' h => by
    obtain ⟨a, c, h1, _, h3⟩ := h
    exact ⟨a, c, h1, h3⟩
set_option maxRecDepth 100000 in
set_option maxHeartbeats 1600000 in
theorem specNewPart_own (s : ByteArray) (w : World) (hs : s.size ≤ 1048576) :
    Calls Try.prog 18 #[.string s] w fun e w' => GivesNPO s.data.toList w e w' := by
  have HC := Lib.hid (fun w0 => new_cells (specNewCore_any s w0 hs))
  have HS := Lib.hid (bx_start1 w [.string ⟨#[]⟩, .bool false, .bool false, .slice none 0 0, .int .i64 0, .slice none 0 0] 37)
  unfold GivesNPO vNP
  simp only [newCore_is, vCore] at HC
  generalize nmK s.data.toList = n at *
  generalize decide (0 ≤ kindI s.data.toList) = b at *
  clear hs
  go_enter Try.func18, Try.ntmps18
  go_wp2_with fail
  refine (HC.out _).mono ?_
  rintro e w1 ⟨cv, rfl, ho, hb⟩
  obtain ⟨a, c, rfl, _⟩ := flatAt_len (ownsF_at ho (by simp))
  have BN := Lib.hid (HS.out.1.below hb)
  have HB := Lib.hid (belS HS.out.2 hb)
  have OW := Lib.hid (ownsF_alloc (ownsF_put6 (ownsF_base (B' := w.heap.size + 1) ho (by simp)) w.heap.size (by omega) (.string ⟨n.toArray⟩) (.bool false) (.bool false) (.slice a 0 c) (.int .i64 0) (.slice none 0 0)) (.cells #[.string ⟨n.toArray⟩, .bool false, .bool false, .slice a 0 c, .int .i64 0] 34))
  clear ho hb
  have e0 := BN.out.cell 0 (by simp)
  have e1 := BN.out.cell 1 (by simp)
  have e2 := BN.out.cell 2 (by simp)
  have e3 := BN.out.cell 3 (by simp)
  have e4 := BN.out.cell 4 (by simp)
  have e5 := BN.out.cell 5 (by simp)
  have f0 := BN.out.froz 0 (by simp)
  have f1 := BN.out.froz 1 (by simp)
  have f2 := BN.out.froz 2 (by simp)
  have f3 := BN.out.froz 3 (by simp)
  have f4 := BN.out.froz 4 (by simp)
  have f5 := BN.out.froz 5 (by simp)
  have hl := BN.out.lt
  simp only [List.getElem_cons_zero, List.getElem_cons_succ] at e0 e1 e2 e3 e4 e5
  go_wp2_with fail
  clear e0 e1 e2 e3 e4 e5 f0 f1 f2 f3 f4 f5 hl
  have BN := Lib.hid (BN.out.set 0 (by simp) (.string ⟨n.toArray⟩))
  have HB := Lib.hid (HB.out.setCell (p := ⟨w.heap.size, 0, none⟩) (by simp) (.string ⟨n.toArray⟩))
  have BN := Lib.hid (BN.out.set 1 (by simp) (.bool false))
  have HB := Lib.hid (HB.out.setCell (p := ⟨w.heap.size, 1, none⟩) (by simp) (.bool false))
  have BN := Lib.hid (BN.out.set 2 (by simp) (.bool false))
  have HB := Lib.hid (HB.out.setCell (p := ⟨w.heap.size, 2, none⟩) (by simp) (.bool false))
  have BN := Lib.hid (BN.out.set 3 (by simp) (.slice a 0 c))
  have HB := Lib.hid (HB.out.setCell (p := ⟨w.heap.size, 3, none⟩) (by simp) (.slice a 0 c))
  have BN := Lib.hid (BN.out.set 4 (by simp) (.int .i64 0))
  have HB := Lib.hid (HB.out.setCell (p := ⟨w.heap.size, 4, none⟩) (by simp) (.int .i64 0))
  have BN := Lib.hid (BN.out.set 5 (by simp) (.slice none 0 0))
  have HB := Lib.hid (HB.out.setCell (p := ⟨w.heap.size, 5, none⟩) (by simp) (.slice none 0 0))
  have BN := Lib.hid (BN.out.alloc (.cells #[.string ⟨n.toArray⟩, .bool false, .bool false, .slice a 0 c, .int .i64 0] 34))
  have HB := Lib.hid (belS HB.out (bx_box _ (.cells #[.string ⟨n.toArray⟩, .bool false, .bool false, .slice a 0 c, .int .i64 0] 34)))
  simp only [List.set_cons_zero, List.set_cons_succ] at BN
  generalize (((((((w1).setCell ⟨w.heap.size, 0, none⟩ (.string ⟨n.toArray⟩)).setCell ⟨w.heap.size, 1, none⟩ (.bool false)).setCell ⟨w.heap.size, 2, none⟩ (.bool false)).setCell ⟨w.heap.size, 3, none⟩ (.slice a 0 c)).setCell ⟨w.heap.size, 4, none⟩ (.int .i64 0)).setCell ⟨w.heap.size, 5, none⟩ (.slice none 0 0)).alloc (.cells #[.string ⟨n.toArray⟩, .bool false, .bool false, .slice a 0 c, .int .i64 0] 34) = WE at *
  have e0 := BN.out.cell 0 (by simp)
  have e1 := BN.out.cell 1 (by simp)
  have e2 := BN.out.cell 2 (by simp)
  have e3 := BN.out.cell 3 (by simp)
  have e4 := BN.out.cell 4 (by simp)
  have e5 := BN.out.cell 5 (by simp)
  simp only [List.getElem_cons_zero, List.getElem_cons_succ] at e0 e1 e2 e3 e4 e5
  exact bodyPost_ret (v := .tuple #[.agg #[.string ⟨n.toArray⟩, .bool false, .bool false, .slice a 0 c, .int .i64 0, .slice none 0 0], .bool b]) (by simp [results, Try.results18, go_sem, e0, e1, e2, e3, e4, e5]) rfl ⟨a, c, rfl, ownsF_base OW.out (by omega), HB.out⟩
theorem specNewPart_any (s : ByteArray) (w : World) (hs : s.size ≤ 1048576) :
    Calls Try.prog 18 #[.string s] w fun e w' => GivesNP s.data.toList w e w' :=
  (specNewPart_own s w hs).mono fun e w' h => by
    obtain ⟨a, c, h1, _, h3⟩ := h
    exact ⟨a, c, h1, h3⟩
theorem np_at (l : List UInt8) (a : Option Addr) (c : Nat) (w : World) : ValAt rPart 0 w (vNP l a c) ⟨⟨nmK l, false, false, [], 0⟩, []⟩ := ⟨_, rfl, _, _, rfl, slice_none _ _ _ _ _ _, slice_none _ _ _ _ _ _⟩
end Go.Proofs.Ytaihdjdaamglnac
namespace Go.Proofs.Ytaihdjdaamglnac
set_option linter.unusedVariables false
set_option linter.unusedSimpArgs false
open Go.RowKit
def zeroP : PartD := ⟨⟨[], false, false, [], 0⟩, []⟩
def newP (k : List UInt8) : PartD := ⟨⟨k, false, false, [], 0⟩, []⟩
def makeGo : PartD → List (List UInt8) → PartD × ReplyD
  | p, [] => (p, ⟨0, faceP p, [], 0, 0⟩)
  | p, s :: r => if wrapI p s = 0 then makeGo (wrapP p s) r else (zeroP, wrapR p s)
def makePR : List (List UInt8) → PartD × ReplyD
  | [] => (zeroP, ⟨7, 0, [], 0, 0⟩)
  | k :: r => if 0 ≤ kindI k then makeGo (newP k) r else (zeroP, ⟨7, 0, [], 0, 0⟩)
theorem makeGo_stop {p : PartD} {s : List UInt8} {r : List (List UInt8)} (h : ¬ wrapI p s = 0) : makeGo p (s :: r) = (zeroP, wrapR p s) := if_neg h
theorem makeGo_on {p : PartD} {s : List UInt8} {r : List (List UInt8)} (h : wrapI p s = 0) : makeGo p (s :: r) = makeGo (wrapP p s) r := if_pos h
theorem ownsF_nil {α : Type} (f : α → List Value) (E k : Nat) (w : World) (B : Nat) : OwnsF f E k w B (.slice none 0 0) [] := ⟨by simp, Or.inl ⟨rfl, rfl⟩⟩
theorem wrapP_core (p : PartD) (s : List UInt8) : (wrapP p s).fCore = p.fCore := by unfold wrapP; split <;> rfl
theorem newP_small {k : List UInt8} (h : k.length ≤ 1048576) : SmallP (newP k) := smallP_of (by unfold zPart zCore newP; simp [sumF]; exact h)
theorem zeroP_small : SmallP zeroP := smallP_of (by decide)
theorem makeGo_small (r : List (List UInt8)) : ∀ {p : PartD}, SmallP p → SmallP (makeGo p r).1 := by
  induction r with
  | nil => intro p h; exact h
  | cons s r ih =>
    intro p h
    by_cases hw : wrapI p s = 0
    · rw [makeGo_on hw]; exact ih (wrapP_small h s)
    · rw [makeGo_stop hw]; exact zeroP_small
theorem makePR_small {l : List (List UInt8)} (h : ∀ s ∈ l, s.length ≤ 1048576) : SmallP (makePR l).1 := by
  cases l with
  | nil => exact zeroP_small
  | cons k r =>
    by_cases hk : 0 ≤ kindI k
    · rw [makePR, if_pos hk]; exact makeGo_small r (newP_small (h k (List.mem_cons_self ..)))
    · rw [makePR, if_neg hk]; exact zeroP_small
theorem makeGo_val (r : List (List UInt8)) : ∀ {p : PartD}, (makeGo p r).2.fCode = 0 → (makeGo p r).2.fValue = faceP (makeGo p r).1 := by
  induction r with
  | nil => intro p h; rfl
  | cons s r ih =>
    intro p h
    by_cases hw : wrapI p s = 0
    · rw [makeGo_on hw] at h ⊢; exact ih h
    · rw [makeGo_stop hw] at h; exact absurd h hw
theorem makePR_val {l : List (List UInt8)} : (makePR l).2.fCode = 0 → (makePR l).2.fValue = faceP (makePR l).1 := by
  cases l with
  | nil => intro h; cases h
  | cons k r =>
    by_cases hk : 0 ≤ kindI k
    · rw [makePR, if_pos hk]; exact makeGo_val r
    · rw [makePR, if_neg hk]; intro h; cases h
def recB (l : List (List UInt8)) : Bool := decide ((makePR l).2.fCode = 0)
def recI (l : List (List UInt8)) : Int := if (makePR l).2.fCode = 0 then faceP (makePR l).1 else 0
/-- the state of the loop: the part so far, in a variable of its own -/
structure MkSt (w : World) (b4 : Nat) (p : PartD) (wr : World) : Prop where
  small : SmallP p
  bare : p.fCore.fCells = []
  part : ∃ cs, Bx wr b4 cs ∧ oPart wr (w.heap.size + 1 + 1) cs p
  r2 : Bx wr w.heap.size [.string ⟨#[]⟩, .bool false, .bool false, .slice none 0 0, .int .i64 0, .slice none 0 0]
  r3 : Bx wr (w.heap.size + 1) [.int .i64 0, .int .i64 0, .string ⟨#[]⟩, .int .i64 0, .int .i64 0]
  below : Below w.heap.size w wr
end Go.Proofs.Ytaihdjdaamglnac
