/- Arguments opened: slices of structs that hold rows themselves. -/
import Derived.Test.YtlkpinlkbikokaeIsSlotsLawM1
import Derived.Shelf.Strings.BuilderK
import Derived.Test.YtlkpinlkbikokaeRows
import Derived.Test.YtlkpinlkbikokaeIsSlotsLawM0
import Derived.Test.YtlkpinlkbikokaeShelf
import Derived.Lib.IndexMore
import Derived.Lib.IndexLaws
import Derived.Lib.SlicesCompact
import Derived.Deep.Slices
/- Contracts of chapter 3: the model's IsCore. -/
namespace Go.Proofs.Ytlkpinlkbikokae
set_option linter.unusedVariables false
open Go.RowKit
theorem l2Has_0 (f : Int) (x : Bool) (h : hasI f 0 = x) (hf : isF f = true) (w : World) :
    Calls Try.prog 35 #[.int .i64 f, .int .i64 0] w fun e w' => e = .returned (.bool x) ∧ w = w' := l2Has_b f 0 x h hf (by decide) w
theorem l2Has_1 (f : Int) (x : Bool) (h : hasI f 1 = x) (hf : isF f = true) (w : World) :
    Calls Try.prog 35 #[.int .i64 f, .int .i64 1] w fun e w' => e = .returned (.bool x) ∧ w = w' := l2Has_b f 1 x h hf (by decide) w
set_option maxRecDepth 100000 in
set_option maxHeartbeats 6400000 in
theorem specIsCore_any (v : Value) (d : CoreD) (w : World) (hx : CoreAt w v d) (hs : ∀ c ∈ d.fCells, c.fKey.length ≤ maxLen) :
    Calls Try.prog 22 #[v] w fun e w' => e = .returned (.bool (coreB d)) ∧ Below w.heap.size w w' := by
  obtain ⟨cv, rfl, hx⟩ := hx
  have HKD := Lib.hid (specKind_b d.fKind)
  have HH0 := Lib.hid (l2Has_0 (kfI (kindI d.fKind)) _ rfl (kfI_face _))
  have HH1 := Lib.hid (l2Has_1 (kfI (kindI d.fKind)) _ rfl (kfI_face _))
  have HR := Lib.hid (show coreB d = (decide (0 ≤ kindI d.fKind) && cellsB d.fCells && (decide (d.fCells.length = 0) || hasI (kfI (kindI d.fKind)) 1) && (!(d.fOn || d.fBroken) || hasI (kfI (kindI d.fKind)) 0) && numB d.fCount && !(d.fOn && d.fBroken)) from rfl)
  generalize coreB d = res at *
  obtain ⟨kd, on, br, l, cnt⟩ := d
  unfold vCore
  simp only at *
  obtain ⟨a, c, rfl, hl⟩ := flatAt_len hx
  unfold maxLen at hl
  have HB0 := Lib.hid (show ∀ o, Below w.heap.size w (w.alloc o) from fun o => (Below.refl w.heap.size w).alloc (Nat.le_refl _) o)
  have HIC := Lib.hid (fun w0 hb => specIsCells_any _ l w0 (hx.below hb (Nat.le_refl _)) hs)
  clear hx hs
  have HK := Lib.hid (HKD.out _ rfl)
  generalize hasI (kfI (kindI kd)) 1 = h1 at *
  generalize hasI (kfI (kindI kd)) 0 = h0 at *
  generalize kfI (kindI kd) = f at *
  generalize decide (0 ≤ kindI kd) = kk at *
  generalize cellsB l = cb at *
  have HN0 := Lib.hid (show cnt < 0 → numB cnt = false from fun h => by simp [numB]; omega)
  have HN1 := Lib.hid (show 999 < cnt → numB cnt = false from fun h => by simp [numB]; omega)
  have HN2 := Lib.hid (show 0 ≤ cnt → cnt ≤ 999 → numB cnt = true from fun h h2 => by simp [numB]; omega)
  generalize numB cnt = nb at *
  clear HKD
  go_enter Try.func22, Try.ntmps22
  go_wp2_with fail
  refine (HK.out _).mono ?_
  rintro e w1 ⟨rfl, hb⟩
  have HB1 := Lib.hid ((HB0.out _).trans (hb.mono (HB0.out _).size))
  obtain ⟨hcc, _⟩ := bcell hb
  simp at hcc
  have hc0 := hcc w.heap.size 0 (by omega)
  have hc1 := hcc w.heap.size 1 (by omega)
  have hc2 := hcc w.heap.size 2 (by omega)
  have hc3 := hcc w.heap.size 3 (by omega)
  have hc4 := hcc w.heap.size 4 (by omega)
  simp at hc0 hc1 hc2 hc3 hc4
  have HLT := Lib.hid (show w.heap.size < w1.heap.size from by have := hb.size; simp at this; omega)
  clear hb hcc
  cases kk with
  | false =>
    go_wp2_with (first | (go_at_call 35; (with_reducible refine (HH0.out _).mono ?_); rintro e w' ⟨rfl, rfl⟩))
    go_ret
    exact ⟨ret_bool (by rw [HR.out]; rfl), HB1.out⟩
  | true =>
    go_wp2_with (first | (go_at_call 35; (with_reducible refine (HH0.out _).mono ?_); rintro e w' ⟨rfl, rfl⟩))
    refine (HIC.out _ HB1.out).mono ?_
    rintro e w2 ⟨rfl, hb⟩
    have HB := Lib.hid (HB1.out.trans (hb.mono HB1.out.size))
    have c0 := (hb.cell (p := ⟨w.heap.size, 0, none⟩) HLT.out).trans hc0
    have c1 := (hb.cell (p := ⟨w.heap.size, 1, none⟩) HLT.out).trans hc1
    have c2 := (hb.cell (p := ⟨w.heap.size, 2, none⟩) HLT.out).trans hc2
    have c3 := (hb.cell (p := ⟨w.heap.size, 3, none⟩) HLT.out).trans hc3
    have c4 := (hb.cell (p := ⟨w.heap.size, 4, none⟩) HLT.out).trans hc4
    clear hb hc0 hc1 hc2 hc3 hc4
    cases cb with
    | false =>
      go_wp2_with fail
      go_ret
      exact ⟨ret_bool (by rw [HR.out]; rfl), HB.out⟩
    | true =>
      by_cases hn : 0 < l.length
      · have hg : decide ((0 : Int) < (l.length : Int)) = true := decide_eq_true (by omega)
        rw [show decide (l.length = 0) = false from decide_eq_false (by omega)] at HR
        cases h1 with
        | false =>
          go_wp2_with (first | (go_at_call 35; (with_reducible refine (HH1.out _).mono ?_); rintro e w' ⟨rfl, rfl⟩))
          go_ret
          exact ⟨ret_bool (by rw [HR.out]; rfl), HB.out⟩
        | true =>
          by_cases hv : cnt < 0
          · rw [HN0.out hv] at HR
            go_wp2_with (first | (go_at_call 35; (with_reducible refine (HH1.out _).mono ?_); rintro e w' ⟨rfl, rfl⟩))
            go_ret
            exact ⟨ret_bool (by rw [HR.out]; cases on <;> cases br <;> cases h0 <;> rfl), HB.out⟩
          · by_cases hv2 : 999 < cnt
            · rw [HN1.out hv2] at HR
              go_wp2_with (first | (go_at_call 35; (with_reducible refine (HH1.out _).mono ?_); rintro e w' ⟨rfl, rfl⟩))
              go_ret
              exact ⟨ret_bool (by rw [HR.out]; cases on <;> cases br <;> cases h0 <;> rfl), HB.out⟩
            · rw [HN2.out (by omega) (by omega)] at HR
              cases on <;> cases br <;> cases h0
              all_goals
                go_wp2_with (first | (go_at_call 35; (with_reducible refine (HH1.out _).mono ?_); rintro e w' ⟨rfl, rfl⟩))
                go_ret
                exact ⟨ret_bool (by rw [HR.out]; rfl), HB.out⟩
      · have hg : decide ((0 : Int) < (l.length : Int)) = false := decide_eq_false (by omega)
        rw [show decide (l.length = 0) = true from decide_eq_true (by omega)] at HR
        have hg2 : (l.length : Int) ≤ 0 := by omega
        clear hn
        by_cases hv : cnt < 0
        · rw [HN0.out hv] at HR
          go_wp2_with fail
          go_ret
          exact ⟨ret_bool (by rw [HR.out]; cases on <;> cases br <;> cases h0 <;> rfl), HB.out⟩
        · by_cases hv2 : 999 < cnt
          · rw [HN1.out hv2] at HR
            go_wp2_with fail
            go_ret
            exact ⟨ret_bool (by rw [HR.out]; cases on <;> cases br <;> cases h0 <;> rfl), HB.out⟩
          · rw [HN2.out (by omega) (by omega)] at HR
            cases on <;> cases br <;> cases h0
            all_goals
              go_wp2_with fail
              go_ret
              exact ⟨ret_bool (by rw [HR.out]; rfl), HB.out⟩
end Go.Proofs.Ytlkpinlkbikokae
/- Contracts of chapter 4: IsPart, both sides. -/
namespace Go.Proofs.Ytlkpinlkbikokae
set_option linter.unusedVariables false
set_option linter.unusedSimpArgs false
open Go.RowKit
def countedB (n : List UInt8) : Bool := n == [99, 111, 117, 110, 116, 115] || n == [104, 101, 97, 114, 115]
def cntB (y : LayerD) : Bool := if countedB y.fName = true then numB y.fCount else y.fCount == 0
def layOk (x : PartD) (i : Nat) : Bool := decide (0 ≤ layI (x.fLayers.getD i default).fName) && offersF (faceN x i) (needI (layI (x.fLayers.getD i default).fName)) && cntB (x.fLayers.getD i default)
def layTo (x : PartD) (k : Nat) : Bool := (List.range k).all (layOk x)
def partB (x : PartD) : Bool := coreB x.fCore && decide (x.fLayers.length ≤ 3) && layTo x x.fLayers.length
theorem layTo_succ (x : PartD) (k : Nat) : layTo x (k + 1) = (layTo x k && layOk x k) := by simp [layTo, List.range_succ, List.all_append]
theorem partB_bad {x : PartD} {k : Nat} (hk : k < x.fLayers.length) (h : layOk x k = false) : partB x = false := by
  have : layTo x x.fLayers.length = false := by
    unfold layTo
    rw [List.all_eq_false]
    exact ⟨k, List.mem_range.2 hk, by simp [h]⟩
  simp [partB, this]
theorem layOk_of (x : PartD) (i : Nat) (h : i < x.fLayers.length) (y : LayerD) (hy : x.fLayers[i] = y) : layOk x i = (decide (0 ≤ layI y.fName) && offersF (faceN x i) (needI (layI y.fName)) && cntB y) := by
  unfold layOk
  rw [List.getD_eq_getElem?_getD, List.getElem?_eq_getElem h, Option.getD_some, hy]
theorem faceN_take (c : CoreD) (l : List LayerD) (i : Nat) (h : i ≤ l.length) : faceP ⟨c, l.take i⟩ = faceN ⟨c, l⟩ i := by
  unfold faceP
  rw [show (⟨c, l.take i⟩ : PartD).fLayers.length = i by simp; omega]
  cases i with
  | zero => rfl
  | succ i =>
    unfold faceN
    simp only [List.getD_eq_getElem?_getD]
    rw [List.getElem?_take_of_lt (by omega)]
set_option maxRecDepth 100000 in
set_option maxHeartbeats 1600000 in
theorem insideOf_c (k : ByteArray) (on br : Bool) (ca sa : Option Addr) (cn cc sn sc : Nat) (ct : Int) (i : Nat) (w : World) (hi : i ≤ sc) (hs : i ≤ maxLen) :
    Calls Try.prog 45 #[.agg #[.string k, .bool on, .bool br, .slice ca cn cc, .int .i64 ct, .slice sa sn sc], .int .i64 i] w fun e w' => e = .returned (.agg #[.string k, .bool on, .bool br, .slice ca cn cc, .int .i64 ct, .slice sa i sc]) ∧ Below w.heap.size w w' := by
  unfold maxLen at hs
  go_enter Try.func45, Try.ntmps45
  go_wp2_with fail
  go_region
  all_goals (try go_wp2_with fail)
  all_goals
    refine bodyPost_ret (v := .agg #[.string k, .bool on, .bool br, .slice ca cn cc, .int .i64 ct, .slice sa i sc]) (by simp [results, Try.results45, go_sem]) rfl ⟨rfl, ?_⟩
    repeat (first | with_reducible exact Below.refl _ _ | with_reducible refine Below.alloc ?_ (by simp; try omega) _ | with_reducible refine Below.drew ?_ | with_reducible refine belD ?_)
set_option maxHeartbeats 1600000 in
theorem isLayerCount_c (n : List UInt8) (c : Int) (w : World) :
    Calls Try.prog 46 #[.agg #[.string ⟨n.toArray⟩, .int .i64 c]] w fun e w' => e = .returned (.bool (cntB ⟨n, c⟩)) ∧ Below w.heap.size w w' := by
  have HN := Lib.hid (isNumber_any c)
  by_cases h0 : n = [99, 111, 117, 110, 116, 115]
  · subst h0
    have HR := Lib.hid (show cntB ⟨[99, 111, 117, 110, 116, 115], c⟩ = numB c from rfl)
    generalize numB c = b at *
    go_enter Try.func46, Try.ntmps46
    go_wp2_with (first | (go_at_call 59; (with_reducible refine (HN.out _).mono ?_); rintro e w' ⟨rfl, rfl⟩))
    go_ret
    exact ⟨ret_bool HR.out.symm, part_box w _⟩
  · by_cases h1 : n = [104, 101, 97, 114, 115]
    · subst h1
      have HR := Lib.hid (show cntB ⟨[104, 101, 97, 114, 115], c⟩ = numB c from rfl)
      generalize numB c = b at *
      clear h0
      go_enter Try.func46, Try.ntmps46
      go_wp2_with (first | (go_at_call 59; (with_reducible refine (HN.out _).mono ?_); rintro e w' ⟨rfl, rfl⟩))
      go_ret
      exact ⟨ret_bool HR.out.symm, part_box w _⟩
    · have HR := Lib.hid (show cntB ⟨n, c⟩ = (c == 0) by unfold cntB countedB; simp [h0, h1])
      have g0 : (n == [99, 111, 117, 110, 116, 115]) = false := by simp [h0]
      have g1 : (n == [104, 101, 97, 114, 115]) = false := by simp [h1]
      clear h0 h1
      go_enter Try.func46, Try.ntmps46
      go_wp2_with (first | (go_at_call 59; (with_reducible refine (HN.out _).mono ?_); rintro e w' ⟨rfl, rfl⟩))
      go_ret
      exact ⟨ret_bool HR.out.symm, part_box w _⟩
end Go.Proofs.Ytlkpinlkbikokae
/- Slots in plain words. -/
namespace Go.Proofs.Ytlkpinlkbikokae
set_option linter.unusedVariables false
set_option linter.unusedSimpArgs false
open Go.RowKit
def zPt : PartD := ⟨⟨[], false, false, [], 0⟩, []⟩
def slotOk (x : SlotD) : Bool := if x.fFull = true then partB x.fPart else decide (x.fPart = zPt)
theorem zPt_at (w : World) : ValAt rPart 0 w (.agg #[.string ⟨#[]⟩, .bool false, .bool false, .slice none 0 0, .int .i64 0, .slice none 0 0]) zPt := ⟨[.string ⟨#[]⟩, .bool false, .bool false, .slice none 0 0, .int .i64 0, .slice none 0 0], rfl, .slice none 0 0, .slice none 0 0, rfl, ⟨none, 0, by simp [zPt], Nat.zero_le _, Or.inl rfl⟩, ⟨none, 0, by simp [zPt], Nat.zero_le _, Or.inl rfl⟩⟩
theorem all_take_succ {α : Type} (p : α → Bool) (l : List α) (k : Nat) (h : k < l.length) : (l.take (k + 1)).all p = ((l.take k).all p && p l[k]) := by
  rw [List.take_succ_eq_append_getElem h, List.all_append]; simp
theorem all_bad {α : Type} (p : α → Bool) (l : List α) (k : Nat) (h : k < l.length) (hp : p l[k] = false) : l.all p = false := by
  rw [List.all_eq_false]; exact ⟨l[k], List.getElem_mem h, by simp [hp]⟩
end Go.Proofs.Ytlkpinlkbikokae
/- Contracts of chapter 4: IsPart, the program's. -/
namespace Go.Proofs.Ytlkpinlkbikokae
set_option linter.unusedVariables false
set_option linter.unusedSimpArgs false
open Go.RowKit
set_option maxRecDepth 100000 in
set_option maxHeartbeats 3200000 in
theorem implIsPart_any (v : Value) (x : PartD) (w : World) (hx : ValAt rPart 0 w v x) (hs : ∀ c ∈ x.fCore.fCells, c.fKey.length ≤ maxLen) :
    Calls Try.prog 29 #[v] w fun e w' => e = .returned (.bool (partB x)) ∧ Below w.heap.size w w' := by
  obtain ⟨_, rfl, hx⟩ := hx
  have HX := Lib.hid hx
  have HBAD := Lib.hid (fun k => partB_bad (x := x) (k := k))
  have HOK := Lib.hid (fun i h y hy => layOk_of x i h y hy)
  have HSU := Lib.hid (layTo_succ x)
  have HFN := Lib.hid (faceN_take x.fCore x.fLayers)
  have HP := Lib.hid (show partB x = (coreB x.fCore && decide (x.fLayers.length ≤ 3) && layTo x x.fLayers.length) from rfl)
  obtain ⟨xc, ls⟩ := x
  obtain ⟨v3, v5, rfl, h3, h5⟩ := hx
  have HC := Lib.hid (fun W (hb : Below w.heap.size w W) => implIsCore_any (vCore xc v3) xc W ⟨v3, rfl, FlatAt.below (flatAt_of_slice cCell_len (by decide) h3) hb (Nat.le_refl _)⟩ hs)
  obtain ⟨a0, a1, a2, a3, a4⟩ := xc
  unfold vCore at HC
  simp only at h3 h5 HX HC HP HFN HBAD HOK
  obtain ⟨ra, rc, rfl, _⟩ := sliceAt_len h3
  obtain ⟨sa, sc, rfl, hl, hcap⟩ := sliceAt_cap h5
  have H5 := Lib.hid h5
  have H3 := Lib.hid h3
  unfold maxLen at hl
  have HB0 := Lib.hid (show ∀ o, Below w.heap.size w (w.alloc o) from fun o => part_box w o)
  have HS0 := Lib.hid (Bx.new w [.string ⟨a0.toArray⟩, .bool a1, .bool a2, .slice ra a3.length rc, .int .i64 a4, .slice sa ls.length sc] 44)
  clear h3 h5
  have HPB := Lib.hid (show partB ⟨⟨a0, a1, a2, a3, a4⟩, ls⟩ = partB ⟨⟨a0, a1, a2, a3, a4⟩, ls⟩ from rfl)
  generalize partB ⟨⟨a0, a1, a2, a3, a4⟩, ls⟩ = pb at *
  have HCB := Lib.hid (show coreB ⟨a0, a1, a2, a3, a4⟩ = coreB ⟨a0, a1, a2, a3, a4⟩ from rfl)
  generalize coreB ⟨a0, a1, a2, a3, a4⟩ = cb at *
  clear HPB HCB HX
  cases cb with
  | false =>
    have HR := Lib.hid (show pb = false by rw [HP.out]; rfl)
    go_enter Try.func29, Try.ntmps29
    go_wp2_with fail
    refine (HC.out _ (HB0.out _)).mono ?_
    rintro e w1 ⟨rfl, hb⟩
    have HB := Lib.hid (belS (HB0.out _) hb)
    clear hb
    go_wp2_with fail
    go_ret
    exact ⟨ret_bool HR.out.symm, HB.out⟩
  | true =>
    by_cases h3 : 3 < ls.length
    · have HR := Lib.hid (show pb = false by rw [HP.out, show decide (ls.length ≤ 3) = false by simpa using h3]; rfl)
      go_enter Try.func29, Try.ntmps29
      go_wp2_with fail
      refine (HC.out _ (HB0.out _)).mono ?_
      rintro e w1 ⟨rfl, hb⟩
      have HB := Lib.hid (belS (HB0.out _) hb)
      have BX := Lib.hid (HS0.out.below hb)
      clear hb
      have e0 := BX.out.cell 0 (by simp)
      have e1 := BX.out.cell 1 (by simp)
      have e2 := BX.out.cell 2 (by simp)
      have e3 := BX.out.cell 3 (by simp)
      have e4 := BX.out.cell 4 (by simp)
      have e5 := BX.out.cell 5 (by simp)
      simp only [List.getElem_cons_zero, List.getElem_cons_succ] at e0 e1 e2 e3 e4 e5
      go_wp2_with fail
      go_ret
      exact ⟨ret_bool HR.out.symm, HB.out⟩
    · have HR := Lib.hid (show pb = layTo ⟨⟨a0, a1, a2, a3, a4⟩, ls⟩ ls.length by rw [HP.out, show decide (ls.length ≤ 3) = true by simpa using h3]; simp)
      go_enter Try.func29, Try.ntmps29
      go_wp2_with fail
      refine (HC.out _ (HB0.out _)).mono ?_
      rintro e w1 ⟨rfl, hb⟩
      have HB := Lib.hid (belS (HB0.out _) hb)
      have BX := Lib.hid (HS0.out.below hb)
      clear hb
      have e0 := BX.out.cell 0 (by simp)
      have e1 := BX.out.cell 1 (by simp)
      have e2 := BX.out.cell 2 (by simp)
      have e3 := BX.out.cell 3 (by simp)
      have e4 := BX.out.cell 4 (by simp)
      have e5 := BX.out.cell 5 (by simp)
      simp only [List.getElem_cons_zero, List.getElem_cons_succ] at e0 e1 e2 e3 e4 e5
      go_wp2_with fail
      clear e0 e1 e2 e3 e4 e5
      go_loopw [3, 4, 20] (fun _ _ i wr => ∃ k : Nat, k ≤ ls.length ∧ i = .int .i64 k ∧ layTo ⟨⟨a0, a1, a2, a3, a4⟩, ls⟩ k = true ∧ Below w.heap.size w wr ∧ Bx wr w.heap.size [.string ⟨a0.toArray⟩, .bool a1, .bool a2, .slice ra a3.length rc, .int .i64 a4, .slice sa ls.length sc]) (fun _ _ i _ => ls.length - (intOf i).toNat)
      case atStart => exact ⟨0, Nat.zero_le _, rfl, rfl, HB.out, BX.out⟩
      case round =>
        obtain ⟨k, hk, rfl, ht, hbr, hbx⟩ := hrel
        have HT := Lib.hid ht
        have HBr := Lib.hid hbr
        have BXr := Lib.hid hbx
        have HXr := Lib.hid (SliceAt.below H5.out (good_flat cLayer_len) hbr (Nat.le_refl _))
        clear ht hbr hbx
        by_cases hlt : k < ls.length
        · obtain ⟨b, o, cs, rfl, hbw, hat, hd⟩ := sliceAt_cell HXr.out k hlt
          have HLO := Lib.hid (HOK.out k hlt _ rfl)
          have HBD := Lib.hid (fun h => HBAD.out k hlt h)
          have HNX := Lib.hid (show layOk ⟨⟨a0, a1, a2, a3, a4⟩, ls⟩ k = true → layTo ⟨⟨a0, a1, a2, a3, a4⟩, ls⟩ (k + 1) = true from fun h => by rw [HSU.out, HT.out, h]; rfl)
          have HTK := Lib.hid (HFN.out k (Nat.le_of_lt hlt))
          have HFO := Lib.hid (fun W hW => implFaceOf_any (.agg #[.string ⟨a0.toArray⟩, .bool a1, .bool a2, .slice ra a3.length rc, .int .i64 a4, .slice (some ⟨b, o, none⟩) k sc]) ⟨⟨a0, a1, a2, a3, a4⟩, ls.take k⟩ W ⟨_, rfl, _, _, rfl, SliceAt.below H3.out (good_flat cCell_len) hW (Nat.le_refl _), sliceAt_take (SliceAt.below H5.out (good_flat cLayer_len) hW (Nat.le_refl _)) k (Nat.le_of_lt hlt) (by omega)⟩)
          rw [HTK.out] at HFO
          generalize ls[k] = z at *
          obtain ⟨z0, z1⟩ := z
          simp only [rFlat, cLayer] at hat HLO
          subst hat
          have d0 := hd 0 (by decide)
          have d1 := hd 1 (by decide)
          simp only [List.getElem?_cons_zero, List.getElem?_cons_succ, Nat.add_zero] at d0 d1
          have HLN := Lib.hid (implLayerNeeds_any ⟨z0.toArray⟩)
          simp only [ndV, List.toList_toArray] at HLN
          have HIO := Lib.hid (fun W => insideOf_c ⟨a0.toArray⟩ a1 a2 ra (some ⟨b, o, none⟩) a3.length rc ls.length sc a4 k W (by omega) (by unfold maxLen; omega))
          have HOF := Lib.hid (implOffers_any (faceN ⟨⟨a0, a1, a2, a3, a4⟩, ls⟩ k) (needI (layI z0)))
          have HIL := Lib.hid (isLayerCount_c z0 z1)
          have hkc : (k : Int) < (ls.length : Int) := by omega
          generalize layOk ⟨⟨a0, a1, a2, a3, a4⟩, ls⟩ k = lo at *
          generalize faceN ⟨⟨a0, a1, a2, a3, a4⟩, ls⟩ k = fc at *
          generalize needI (layI z0) = nd at *
          generalize offersF fc nd = ob at *
          generalize cntB ⟨z0, z1⟩ = cn at *
          generalize hge : decide (0 ≤ layI z0) = q at *
          clear hd hge HXr HTK
          have HW0 := Lib.hid (part_box wr (.cells #[.string ⟨z0.toArray⟩, .int .i64 z1] 57))
          have BL := Lib.hid (Bx.new wr [.string ⟨z0.toArray⟩, .int .i64 z1] 57)
          have BX1 := Lib.hid (BXr.out.alloc (.cells #[.string ⟨z0.toArray⟩, .int .i64 z1] 57))
          have HB1 := Lib.hid (belS HBr.out HW0.out)
          have e0 := BX1.out.cell 0 (by simp)
          have e1 := BX1.out.cell 1 (by simp)
          have e2 := BX1.out.cell 2 (by simp)
          have e3 := BX1.out.cell 3 (by simp)
          have e4 := BX1.out.cell 4 (by simp)
          have e5 := BX1.out.cell 5 (by simp)
          simp only [List.getElem_cons_zero, List.getElem_cons_succ] at e0 e1 e2 e3 e4 e5
          cases q with
          | false =>
            have HR2 := Lib.hid (show pb = false from HBD.out (by rw [HLO.out]; rfl))
            go_wp2_with (first | (go_at_call 42; (with_reducible refine (HLN.out _).mono ?_); rintro e w' ⟨rfl, rfl⟩))
            go_ret
            exact ⟨ret_bool HR2.out.symm, HB1.out⟩
          | true =>
            go_wp2_with (first | (go_at_call 42; (with_reducible refine (HLN.out _).mono ?_); rintro e w' ⟨rfl, rfl⟩))
            refine (HIO.out _).mono ?_
            rintro e w2 ⟨rfl, hb⟩
            have HB2 := Lib.hid (belS HB1.out hb)
            have BL2 := Lib.hid (BL.out.below hb)
            have BX2 := Lib.hid (BX1.out.below hb)
            clear hb
            clear e0 e1 e2 e3 e4 e5
            go_wp2_with fail
            refine (HFO.out _ HB2.out).mono ?_
            rintro e w3 ⟨rfl, hb⟩
            have HB3 := Lib.hid (belS HB2.out hb)
            have BL3 := Lib.hid (BL2.out.below hb)
            have BX3 := Lib.hid (BX2.out.below hb)
            clear hb
            have g0 := BL3.out.cell 0 (by simp)
            have g1 := BL3.out.cell 1 (by simp)
            simp only [List.getElem_cons_zero, List.getElem_cons_succ] at g0 g1
            cases ob with
            | false =>
              have HR2 := Lib.hid (show pb = false from HBD.out (by rw [HLO.out]; rfl))
              go_wp2_with (first | (go_at_call 43; (with_reducible refine (HOF.out _).mono ?_); rintro e w' ⟨rfl, rfl⟩))
              go_ret
              exact ⟨ret_bool HR2.out.symm, HB3.out⟩
            | true =>
              go_wp2_with (first | (go_at_call 43; (with_reducible refine (HOF.out _).mono ?_); rintro e w' ⟨rfl, rfl⟩))
              refine (HIL.out _).mono ?_
              rintro e w4 ⟨rfl, hb⟩
              have HB4 := Lib.hid (belS HB3.out hb)
              have BX4 := Lib.hid (BX3.out.below hb)
              clear hb g0 g1
              cases cn with
              | false =>
                have HR2 := Lib.hid (show pb = false from HBD.out (by rw [HLO.out]; rfl))
                go_wp2_with fail
                go_ret
                exact ⟨ret_bool HR2.out.symm, HB4.out⟩
              | true =>
                have HR2 := Lib.hid (HNX.out (by rw [HLO.out]; rfl))
                go_wp2_with fail
                exact ⟨⟨k + 1, by omega, by go_num, HR2.out, HB4.out, BX4.out⟩, by simp [intOf]; omega⟩
        · have HR2 := Lib.hid (show pb = true by rw [HR.out]; have h := HT.out; rwa [show k = ls.length by omega] at h)
          go_wp2
          go_ret
          exact ⟨ret_bool HR2.out.symm, HBr.out⟩
end Go.Proofs.Ytlkpinlkbikokae
/- The library's contracts of strings.Builder, laid at this program's numbers. -/
namespace Go.Proofs.Ytlkpinlkbikokae
set_option linter.unusedVariables false
open Go.Shelf Go.RowKit
end Go.Proofs.Ytlkpinlkbikokae
/- Contracts of the program's FormatNumber. -/
namespace Go.Proofs.Ytlkpinlkbikokae
set_option linter.unusedVariables false
open Go.RowKit
theorem byteCells_one (x : UInt8) : Lib.byteCells [x] = [.int .u8 (x.toNat : Int)] := rfl
theorem bytes_more {T e : TypeId} {B b : Nat} {p : Value} {bs : List UInt8} {c : Int} {w : World} (h0 : 0 ≤ c) (h1 : c ≤ 255) (h : Lib.BuilderAtF T e B b p (Lib.byteCells bs ++ [.int .u8 c]) w) : Lib.BuilderAtF T e B b p (Lib.byteCells (bs ++ [UInt8.ofNat c.toNat])) w := by
  rw [Lib.byteCells_append, byteCells_one, show ((UInt8.ofNat c.toNat).toNat : Int) = c from by simp; omega]
  exact h
theorem wrap_neg (n : Int) (h : -9223372036854775808 ≤ n) (h' : n < 0) : IntKind.u64.wrap (-IntKind.u64.wrap n) = -n := by
  simp only [IntKind.wrap, IntKind.bits, IntKind.signed]; simp; omega
end Go.Proofs.Ytlkpinlkbikokae
/- JoinWith, the model's and the program's; the program's writeText and copyText. -/
namespace Go.Proofs.Ytlkpinlkbikokae
set_option linter.unusedVariables false
open Go.RowKit
/-- the first k texts with sep between them -/
def joinK (x : List (List UInt8)) (sep : List UInt8) : Nat → List UInt8
  | 0 => []
  | k + 1 => joinK x sep k ++ (if 0 < k then sep else []) ++ x.getD k []
def joinL (x : List (List UInt8)) (sep : List UInt8) : List UInt8 := joinK x sep x.length
theorem strEq {s : ByteArray} {l : List UInt8} (h : s.data.toList = l) : Value.string s = .string ⟨l.toArray⟩ := by subst h; simp
theorem joinK_mono (x : List (List UInt8)) (sep : List UInt8) (k m : Nat) (h : k ≤ m) : (joinK x sep k).length ≤ (joinK x sep m).length := by
  induction m with
  | zero => rw [show k = 0 from by omega]; exact Nat.le_refl _
  | succ m ih =>
    rcases Nat.lt_or_ge m k with h1 | h1
    · rw [show k = m + 1 from by omega]; exact Nat.le_refl _
    · have := ih h1; simp only [joinK, List.length_append]; omega
theorem joinK_len (x : List (List UInt8)) (sep : List UInt8) (k : Nat) (h : k ≤ x.length) : (joinK x sep k).length ≤ k * sep.length + total (x.take k) := by
  induction k with
  | zero => simp [joinK]
  | succ k ih =>
    have h1 := ih (by omega)
    have h2 := total_take_succ x k (by omega)
    have h3 : x.getD k [] = x[k] := by simp [List.getD, List.getElem?_eq_getElem (show k < x.length by omega)]
    simp only [joinK, List.length_append, h3, h2, Nat.succ_mul]
    split <;> simp <;> omega
end Go.Proofs.Ytlkpinlkbikokae
/- SplitAt, the model's and the program's. -/
namespace Go.Proofs.Ytlkpinlkbikokae
set_option linter.unusedVariables false
open Go.RowKit
/-- the parts of l between the occurrences of sep (sep is not empty), by at most so many cuts -/
def splitF (sep : List UInt8) : Nat → List UInt8 → List (List UInt8)
  | 0, l => [l]
  | f + 1, l => if Lib.index l sep < 0 then [l] else l.take (Lib.index l sep).toNat :: splitF sep f (l.drop ((Lib.index l sep).toNat + sep.length))
def splitL (l sep : List UInt8) : List (List UInt8) := if sep = [] then [l] else splitF sep (l.length + 1) l
theorem splitF_none {sep l : List UInt8} (f : Nat) (h : Lib.index l sep < 0) : splitF sep f l = [l] := by
  cases f with
  | zero => rfl
  | succ f => simp [splitF, h]
theorem splitF_some {sep l : List UInt8} (f i : Nat) (h : Lib.index l sep = i) : splitF sep (f + 1) l = l.take i :: splitF sep f (l.drop (i + sep.length)) := by
  have : ¬ (i : Int) < 0 := by omega
  simp [splitF, h, this]
/-- a cut at place i of the text, the first one from place a on -/
theorem index_at {l sep : List UInt8} {a i : Nat} (hai : a ≤ i) (hi : i ≤ l.length) (hno : ∀ j, a ≤ j → j < i → Lib.occAt l sep j = false) (ho : Lib.occAt l sep i = true) : Lib.index (l.drop a) sep = ((i - a : Nat) : Int) := by
  refine Lib.index_first (by simp; omega) ?_ ?_
  · unfold Lib.occAt at *; rw [List.drop_drop, show a + (i - a) = i from by omega]; exact ho
  · intro j hj
    have := hno (a + j) (by omega) (by omega)
    unfold Lib.occAt at *; rw [List.drop_drop]; exact this
theorem index_end {l sep : List UInt8} {a i : Nat} (hs0 : 0 < sep.length) (hai : a ≤ i) (hil : l.length < i + sep.length) (hno : ∀ j, a ≤ j → j < i → Lib.occAt l sep j = false) : Lib.index (l.drop a) sep < 0 := by
  have : Lib.index (l.drop a) sep = -1 := by
    refine Lib.index_none fun j hj => ?_
    unfold Lib.occAt; rw [List.drop_drop]
    rcases Nat.lt_or_ge (a + j) i with h | h
    · exact hno (a + j) (by omega) h
    · cases hp : sep.isPrefixOf (l.drop (a + j)) with
      | false => rfl
      | true =>
        have := (List.isPrefixOf_iff_prefix.1 hp).length_le
        rw [List.length_drop] at this; omega
  omega
theorem extract_eq (s : ByteArray) (a b : Nat) : (s.extract a b).data.toList = (s.data.toList.drop a).take (b - a) := by
  rw [Lib.extract_data]
theorem occAt_iff (l sep : List UInt8) (i : Nat) (h : i + sep.length ≤ l.length) : Lib.occAt l sep i = decide ((l.drop i).take sep.length = sep) := by
  unfold Lib.occAt
  rw [Bool.eq_iff_iff, List.isPrefixOf_iff_prefix, decide_eq_true_iff, List.prefix_iff_eq_take]
  exact ⟨fun h => h.symm, fun h => h.symm⟩
/-- the invariant of the model's scan -/
def ScanInv (l sep : List UInt8) (acc : List (List UInt8)) (a i : Nat) : Prop :=
  a ≤ i ∧ i ≤ l.length ∧ (∀ j, a ≤ j → j < i → Lib.occAt l sep j = false) ∧ acc.length ≤ a ∧ ∃ f, acc ++ splitF sep f (l.drop a) = splitL l sep ∧ l.length - a < f
theorem scan_start (l sep : List UInt8) (h : sep ≠ []) : ScanInv l sep [] 0 0 :=
  ⟨Nat.le_refl _, Nat.zero_le _, fun j _ h => absurd h (by omega), Nat.zero_le _, l.length + 1, by simp [splitL, h], by omega⟩
theorem scan_skip {l sep : List UInt8} {acc : List (List UInt8)} {a i : Nat} (h : ScanInv l sep acc a i) (hi : i + sep.length ≤ l.length) (h0 : 0 < sep.length) (hno : Lib.occAt l sep i = false) : ScanInv l sep acc a (i + 1) := by
  obtain ⟨h1, h2, h3, h4, h5⟩ := h
  refine ⟨by omega, by omega, fun j hj hj2 => ?_, h4, h5⟩
  rcases Nat.lt_or_ge j i with h | h
  · exact h3 j hj h
  · rw [show j = i by omega]; exact hno
theorem scan_cut {l sep : List UInt8} {acc : List (List UInt8)} {a i : Nat} (h : ScanInv l sep acc a i) (hi : i + sep.length ≤ l.length) (h0 : 0 < sep.length) (ho : Lib.occAt l sep i = true) : ScanInv l sep (acc ++ [(l.drop a).take (i - a)]) (i + sep.length) (i + sep.length) := by
  obtain ⟨h1, h2, h3, h4, f, h5, h6⟩ := h
  refine ⟨Nat.le_refl _, hi, fun j hj hj2 => absurd hj2 (by omega), by simp; omega, ?_⟩
  cases f with
  | zero => omega
  | succ f =>
    rw [splitF_some f (i - a) (index_at h1 h2 h3 ho), List.drop_drop, show a + (i - a + sep.length) = i + sep.length by omega] at h5
    exact ⟨f, by rw [← h5]; simp, by omega⟩
theorem scan_end {l sep : List UInt8} {acc : List (List UInt8)} {a i : Nat} (h : ScanInv l sep acc a i) (hi : l.length < i + sep.length) (h0 : 0 < sep.length) : acc ++ [l.drop a] = splitL l sep := by
  obtain ⟨h1, h2, h3, h4, f, h5, h6⟩ := h
  rw [← h5, splitF_none f (index_end h0 h1 hi h3)]
theorem owns_one (w : World) (B : Nat) (s : ByteArray) (h : B ≤ w.heap.size) : Owns (w.alloc (.cells #[.string s] 9)) B (.slice (some ⟨w.heap.size, 0, none⟩) 1 1) [s.data.toList] :=
  ⟨rfl, .inr ⟨w.heap.size, 1, #[.string s], rfl, h, heap_alloc_new w _, Nat.le_refl _, by decide, rfl, by simp [strV]⟩⟩
def strLen : Value → Nat
  | .string t => t.size
  | _ => 0
def CutInv (l sep t : List UInt8) (acc : List (List UInt8)) : Prop := ∃ f, acc ++ splitF sep f t = splitL l sep ∧ t.length < f
theorem cut_start (l sep : List UInt8) (h : sep ≠ []) : CutInv l sep l [] := ⟨l.length + 1, by simp [splitL, h], by omega⟩
theorem cut_next {l sep t : List UInt8} {acc : List (List UInt8)} (h : CutInv l sep t acc) (i : Nat) (hi : Lib.index t sep = i) (h0 : 0 < sep.length) (hr : i + sep.length ≤ t.length) : CutInv l sep (t.drop (i + sep.length)) (acc ++ [t.take i]) := by
  obtain ⟨f, h1, h2⟩ := h
  cases f with
  | zero => omega
  | succ f =>
    rw [splitF_some f i hi] at h1
    exact ⟨f, by rw [← h1]; simp, by simp; omega⟩
theorem cut_end {l sep t : List UInt8} {acc : List (List UInt8)} (h : CutInv l sep t acc) (hi : Lib.index t sep < 0) : acc ++ [t] = splitL l sep := by
  obtain ⟨f, h1, h2⟩ := h
  rw [← h1, splitF_none f hi]
theorem splitF_len (sep : List UInt8) (h0 : 0 < sep.length) : ∀ (f : Nat) (l : List UInt8), (splitF sep f l).length ≤ l.length + 1 := by
  intro f
  induction f with
  | zero => intro l; simp [splitF]
  | succ f ih =>
    intro l
    by_cases h : Lib.index l sep < 0
    · rw [splitF_none _ h]; simp
    · obtain ⟨i, hi⟩ := Int.eq_ofNat_of_zero_le (show 0 ≤ Lib.index l sep by omega)
      have hr := Lib.index_room l sep (by omega)
      rw [splitF_some f i hi]
      have := ih (l.drop (i + sep.length))
      rw [List.length_drop] at this
      simp only [List.length_cons]; omega
theorem splitL_len (l sep : List UInt8) : (splitL l sep).length ≤ l.length + 1 := by
  unfold splitL
  split
  · simp
  · rename_i h
    exact splitF_len sep (by cases sep with | nil => exact absurd rfl h | cons a b => simp) _ _
end Go.Proofs.Ytlkpinlkbikokae
/- Dividing and joining, plain: what is divided is joined again, and what is joined by a byte that no text has is divided again. -/
namespace Go.Proofs.Ytlkpinlkbikokae
set_option linter.unusedVariables false
open Go.RowKit
theorem joinK_take (x : List (List UInt8)) (y : List (List UInt8)) (sep : List UInt8) : ∀ k, k ≤ x.length → joinK (x ++ y) sep k = joinK x sep k := by
  intro k
  induction k with
  | zero => intro _; rfl
  | succ k ih =>
    intro hk
    have e : (x ++ y).getD k [] = x.getD k [] := by simp [List.getD, List.getElem?_append_left (show k < x.length by omega)]
    simp only [joinK, ih (by omega), e]
theorem joinL_cons (a : List UInt8) (x : List (List UInt8)) (sep : List UInt8) (hx : x ≠ []) : joinL (a :: x) sep = a ++ sep ++ joinL x sep := by
  have key : ∀ k, k < x.length → joinK (a :: x) sep (k + 2) = a ++ sep ++ joinK x sep (k + 1) := by
    intro k
    induction k with
    | zero => intro _; simp [joinK]
    | succ k ih =>
      intro hk
      have h := ih (by omega)
      have e1 : joinK (a :: x) sep (k + 1 + 2) = joinK (a :: x) sep (k + 2) ++ sep ++ x.getD (k + 1) [] := by simp [joinK]
      have e2 : joinK x sep (k + 1 + 1) = joinK x sep (k + 1) ++ sep ++ x.getD (k + 1) [] := by simp [joinK]
      rw [e1, h, e2]; simp
  cases x with
  | nil => exact absurd rfl hx
  | cons b r =>
    have := key r.length (by simp)
    unfold joinL
    simpa using this
theorem joinL_one (a sep : List UInt8) : joinL [a] sep = a := by simp [joinL, joinK]
theorem splitF_ne (sep : List UInt8) (f : Nat) (l : List UInt8) : splitF sep f l ≠ [] := by
  cases f with
  | zero => simp [splitF]
  | succ f => unfold splitF; split <;> simp
theorem index_take (l sep : List UInt8) (i : Nat) (h : Lib.index l sep = i) : l.take i ++ sep ++ l.drop (i + sep.length) = l := by
  rcases Lib.index_spec l sep with ⟨h1, _⟩ | ⟨j, h1, h2, h3, _⟩
  · omega
  · have : j = i := by omega
    subst this
    unfold Lib.occAt at h3
    obtain ⟨t, ht⟩ := List.isPrefixOf_iff_prefix.1 h3
    have e : l.drop (j + sep.length) = t := by rw [← List.drop_drop, ← ht]; simp
    rw [e, List.append_assoc, ht, List.take_append_drop]
theorem join_split (sep : List UInt8) : ∀ (f : Nat) (l : List UInt8), joinL (splitF sep f l) sep = l := by
  intro f
  induction f with
  | zero => intro l; simp [splitF, joinL_one]
  | succ f ih =>
    intro l
    by_cases h : Lib.index l sep < 0
    · rw [splitF_none _ h, joinL_one]
    · obtain ⟨i, hi⟩ := Int.eq_ofNat_of_zero_le (show 0 ≤ Lib.index l sep by omega)
      rw [splitF_some f i hi, joinL_cons _ _ _ (splitF_ne sep f _), ih, index_take l sep i hi]
theorem join_splitL (l sep : List UInt8) : joinL (splitL l sep) sep = l := by
  unfold splitL
  split
  · rw [joinL_one]
  · exact join_split sep _ l
theorem occ_one (l : List UInt8) (c : UInt8) (j : Nat) : Lib.occAt l [c] j = true ↔ l[j]? = some c := by
  unfold Lib.occAt
  rw [List.isPrefixOf_iff_prefix]
  constructor
  · rintro ⟨t, ht⟩
    have : (l.drop j)[0]? = some c := by rw [← ht]; rfl
    simpa using this
  · intro h
    have hj := (List.getElem?_eq_some_iff.1 h)
    obtain ⟨hj, rfl⟩ := hj
    exact ⟨l.drop (j + 1), by rw [List.drop_eq_getElem_cons hj]; rfl⟩
theorem index_none1 {l : List UInt8} {c : UInt8} (h : c ∉ l) : Lib.index l [c] < 0 := by
  have : Lib.index l [c] = -1 := Lib.index_none fun j hj => by
    cases ho : Lib.occAt l [c] j with
    | false => rfl
    | true => exact absurd (List.mem_of_getElem? ((occ_one l c j).1 ho)) h
  omega
theorem index_some1 {a r : List UInt8} {c : UInt8} (h : c ∉ a) : Lib.index (a ++ c :: r) [c] = (a.length : Int) := by
  refine Lib.index_first (by simp) ?_ ?_
  · rw [occ_one]; simp
  · intro j hj
    cases ho : Lib.occAt (a ++ c :: r) [c] j with
    | false => rfl
    | true =>
      have := (occ_one _ c j).1 ho
      rw [List.getElem?_append_left hj] at this
      exact absurd (List.mem_of_getElem? this) h
theorem split_join (c : UInt8) : ∀ (ps : List (List UInt8)) (f : Nat), ps ≠ [] → (∀ p ∈ ps, c ∉ p) → ps.length ≤ f + 1 → splitF [c] f (joinL ps [c]) = ps := by
  intro ps
  induction ps with
  | nil => intro f h; exact absurd rfl h
  | cons a r ih =>
    intro f _ hp hf
    have ha := hp a List.mem_cons_self
    by_cases hr : r = []
    · subst hr
      rw [joinL_one]
      exact splitF_none f (index_none1 ha)
    · have hl : 0 < r.length := List.length_pos_iff.2 hr
      obtain ⟨g, rfl⟩ : ∃ g, f = g + 1 := ⟨f - 1, by simp at hf; omega⟩
      rw [joinL_cons a r [c] hr, List.append_assoc, List.singleton_append, splitF_some g a.length (index_some1 ha)]
      have e1 : (a ++ c :: joinL r [c]).take a.length = a := by simp
      have e2 : (a ++ c :: joinL r [c]).drop (a.length + [c].length) = joinL r [c] := by simp [List.drop_append]
      rw [e1, e2, ih g hr (fun p h => hp p (List.mem_cons_of_mem _ h)) (by simp at hf; omega)]
theorem joinL_ge (ps : List (List UInt8)) (c : UInt8) : ps.length ≤ (joinL ps [c]).length + 1 := by
  induction ps with
  | nil => simp
  | cons a r ih =>
    by_cases hr : r = []
    · subst hr; simp
    · rw [joinL_cons a r [c] hr]; simp; omega
theorem splitL_joinL (c : UInt8) (ps : List (List UInt8)) (h : ps ≠ []) (hp : ∀ p ∈ ps, c ∉ p) : splitL (joinL ps [c]) [c] = ps := by
  unfold splitL
  rw [if_neg (by simp)]
  exact split_join c ps _ h hp (by have := joinL_ge ps c; omega)
theorem splitL_none1 {l : List UInt8} {c : UInt8} (h : c ∉ l) : splitL l [c] = [l] := by
  unfold splitL; rw [if_neg (by simp)]; exact splitF_none _ (index_none1 h)
theorem splitL_ne (l : List UInt8) (c : UInt8) : splitL l [c] ≠ [] := by
  unfold splitL; rw [if_neg (by simp)]; exact splitF_ne _ _ _
theorem joinL_two (a b : List UInt8) (c : UInt8) : joinL [a, b] [c] = a ++ c :: b := by rw [joinL_cons a [b] [c] (by simp), joinL_one]; simp
/-- the text in front of the first c and the text behind it -/
theorem cut_some {a r : List UInt8} {c : UInt8} (h : c ∉ a) : Lib.cut (a ++ c :: r) [c] = (a, r, true) := by
  unfold Lib.cut
  rw [index_some1 h, if_pos (by omega)]
  simp [List.drop_append]
theorem cut_none {a : List UInt8} {c : UInt8} (h : c ∉ a) : Lib.cut a [c] = (a, [], false) := by
  unfold Lib.cut
  rw [if_neg (by have := index_none1 h; omega)]
/-- a text either has no c, or is what stands in front of the first one, and behind it -/
theorem cut_cases (l : List UInt8) (c : UInt8) : c ∉ l ∨ ∃ a r, l = a ++ c :: r ∧ c ∉ a := by
  by_cases h : c ∈ l
  · right
    induction l with
    | nil => simp at h
    | cons x t ih =>
      by_cases hx : x = c
      · subst hx; exact ⟨[], t, rfl, by simp⟩
      · obtain ⟨a, r, e, ha⟩ := ih (by rcases List.mem_cons.1 h with h | h; exact absurd h.symm hx; exact h)
        exact ⟨x :: a, r, by rw [e]; rfl, by simp; exact ⟨fun e => hx e.symm, ha⟩⟩
  · exact Or.inl h
/-- divided into two: there is just one c -/
theorem split_two {l a b : List UInt8} {c : UInt8} (h : splitL l [c] = [a, b]) : l = a ++ c :: b ∧ c ∉ a := by
  have e : l = a ++ c :: b := by rw [← joinL_two, ← h, join_splitL]
  refine ⟨e, ?_⟩
  rcases cut_cases l c with hn | ⟨a', r, e2, ha'⟩
  · rw [splitL_none1 hn] at h; simp at h
  · have : splitL l [c] = a' :: splitF [c] l.length r := by
      have e3 : (a' ++ c :: r).drop (a'.length + [c].length) = r := by simp [List.drop_append]
      have e4 : (a' ++ c :: r).take a'.length = a' := by simp
      unfold splitL; rw [if_neg (by simp), e2, splitF_some _ a'.length (index_some1 ha'), e3, e4]
    rw [this] at h
    injection h with h1 _
    rw [← h1]; exact ha'
theorem cut_len (l sep : List UInt8) : (Lib.cut l sep).1.length ≤ l.length ∧ (Lib.cut l sep).2.1.length ≤ l.length := by
  unfold Lib.cut
  split
  · exact ⟨by simp; omega, by simp⟩
  · exact ⟨Nat.le_refl _, by simp⟩
theorem joinK_part (x : List (List UInt8)) (sep : List UInt8) : ∀ (m k : Nat), k < m → m ≤ x.length → (x.getD k []).length ≤ (joinK x sep m).length := by
  intro m
  induction m with
  | zero => intro k h; omega
  | succ m ih =>
    intro k hk hm
    simp only [joinK, List.length_append]
    rcases Nat.lt_or_ge k m with h | h
    · have := ih k h (by omega); omega
    · rw [show k = m by omega]; omega
theorem split_part (l : List UInt8) (c : UInt8) (p : List UInt8) (h : p ∈ splitL l [c]) : p.length ≤ l.length := by
  obtain ⟨k, hk, rfl⟩ := List.mem_iff_getElem.1 h
  have := joinK_part (splitL l [c]) [c] (splitL l [c]).length k hk (Nat.le_refl _)
  rw [show joinK (splitL l [c]) [c] (splitL l [c]).length = l from join_splitL l [c]] at this
  rw [List.getD_eq_getElem?_getD, List.getElem?_eq_getElem hk] at this
  exact this
theorem dataL (l : List UInt8) : (⟨l.toArray⟩ : ByteArray).data.toList = l := by simp
end Go.Proofs.Ytlkpinlkbikokae
/- Contracts of ParseNumber, the model's and the program's. -/
namespace Go.Proofs.Ytlkpinlkbikokae
set_option linter.unusedVariables false
open Go.RowKit
def pnum (l : List UInt8) : Int := ((parseL l).getD 0 : Nat)
def pok (l : List UInt8) : Bool := (parseL l).isSome
theorem pnum_some {l : List UInt8} {n : Nat} (h : parseL l = some n) : pnum l = n ∧ pok l = true := by simp [pnum, pok, h]
theorem pnum_none {l : List UInt8} (h : parseL l = none) : pnum l = 0 ∧ pok l = false := by simp [pnum, pok, h]
theorem ret_pair {a b : Int} {c d : Bool} (h : a = b) (h2 : c = d) : Ending.returned (.tuple #[.int .i64 a, .bool c]) = .returned (.tuple #[.int .i64 b, .bool d]) := by rw [h, h2]
theorem valL_next (s : ByteArray) (k : Nat) (h : k < s.size) : valL (s.data.toList.take (k + 1)) = 10 * valL (s.data.toList.take k) + (s[k].toNat : Int) - 48 := by
  rw [take_snoc s k h, valL_snoc]; omega
theorem digB_isDig (c : UInt8) : isDig c.toNat = digB c := by simp [isDig, digB]
theorem all_next (s : ByteArray) (k : Nat) (h : k < s.size) (ha : (s.data.toList.take k).all digB = true) (hd : isDig (s[k]).toNat = true) : (s.data.toList.take (k + 1)).all digB = true := by
  rw [take_snoc s k h, List.all_append, ha, digB_isDig] at *; simpa using hd
theorem nodig_at (s : ByteArray) (k : Nat) (h : k < s.size) (hd : isDig (s[k]).toNat = false) : parseL s.data.toList = none :=
  parseL_nodig _ k (by rw [size_list]; exact h) (by rw [getD_get s k h, ← digB_isDig]; exact hd)
theorem first48 (s : ByteArray) (h : 0 < s.size) (hz : (s[0].toNat : Int) = 48) : s.data.toList.getD 0 0 = 48 := by
  rw [getD_get s 0 h]; exact UInt8.toNat_inj.1 (by show s[0].toNat = 48; omega)
theorem notfirst48 (s : ByteArray) (h : 0 < s.size) (hz : ¬ (s[0].toNat : Int) = 48) : s.data.toList.getD 0 0 ≠ 48 := by
  rw [getD_get s 0 h]; intro e; apply hz; rw [e]; rfl
theorem wrap_dig (x : Int) (h0 : 48 ≤ x) (h1 : x ≤ 255) : IntKind.u8.wrap (x - 48) = x - 48 := by
  simp only [IntKind.wrap, IntKind.bits, IntKind.signed]; simp; omega
end Go.Proofs.Ytlkpinlkbikokae
/- Texts in ascending order, each once: the plain side. -/
namespace Go.Proofs.Ytlkpinlkbikokae

/-- texts in strictly ascending order -/
def Strict (l : List (List UInt8)) : Prop := l.Pairwise (· < ·)
/-- s is put in front of the first text that is not less, unless it is that text -/
def ins (s : List UInt8) : List (List UInt8) → List (List UInt8)
  | [] => [s]
  | x :: r => if x < s then x :: ins s r else if x = s then x :: r else s :: x :: r
def ascL (x : List (List UInt8)) : List (List UInt8) := x.foldl (fun a y => ins y a) []

theorem strict_unique : ∀ {a b : List (List UInt8)}, Strict a → Strict b → (∀ x, x ∈ a ↔ x ∈ b) → a = b := by
  intro a
  induction a with
  | nil =>
    intro b _ _ h
    cases b with
    | nil => rfl
    | cons y s => exact absurd ((h y).2 (List.mem_cons_self ..)) (by simp)
  | cons x r ih =>
    intro b ha hb h
    cases b with
    | nil => exact absurd ((h x).1 (List.mem_cons_self ..)) (by simp)
    | cons y s =>
      have ha' := List.pairwise_cons.1 ha
      have hb' := List.pairwise_cons.1 hb
      have e : x = y := by
        rcases List.mem_cons.1 ((h x).1 (List.mem_cons_self ..)) with h1 | h1
        · exact h1
        · rcases List.mem_cons.1 ((h y).2 (List.mem_cons_self ..)) with h2 | h2
          · exact h2.symm
          · exact absurd (List.lt_trans (hb'.1 x h1) (ha'.1 y h2)) (List.lt_irrefl _)
      subst e
      congr 1
      refine ih ha'.2 hb'.2 fun z => ⟨fun hz => ?_, fun hz => ?_⟩
      · rcases List.mem_cons.1 ((h z).1 (List.mem_cons_of_mem _ hz)) with h1 | h1
        · subst h1; exact absurd (ha'.1 z hz) (List.lt_irrefl _)
        · exact h1
      · rcases List.mem_cons.1 ((h z).2 (List.mem_cons_of_mem _ hz)) with h1 | h1
        · subst h1; exact absurd (hb'.1 z hz) (List.lt_irrefl _)
        · exact h1
theorem mem_ins (s : List UInt8) : ∀ (l : List (List UInt8)) (z : List UInt8), z ∈ ins s l ↔ z = s ∨ z ∈ l := by
  intro l
  induction l with
  | nil => intro z; simp [ins]
  | cons x r ih =>
    intro z
    unfold ins
    split
    · simp only [List.mem_cons, ih]
      constructor
      · rintro (h | h | h)
        · exact Or.inr (Or.inl h)
        · exact Or.inl h
        · exact Or.inr (Or.inr h)
      · rintro (h | h | h)
        · exact Or.inr (Or.inl h)
        · exact Or.inl h
        · exact Or.inr (Or.inr h)
    · split
      · rename_i h; subst h; simp
      · simp
theorem strict_ins (s : List UInt8) : ∀ (l : List (List UInt8)), Strict l → Strict (ins s l) := by
  intro l
  induction l with
  | nil => intro _; simp [ins, Strict]
  | cons x r ih =>
    intro h
    have h' := List.pairwise_cons.1 h
    unfold ins
    split
    · rename_i hx
      refine List.pairwise_cons.2 ⟨fun z hz => ?_, ih h'.2⟩
      rcases (mem_ins s r z).1 hz with h1 | h1
      · subst h1; exact hx
      · exact h'.1 z h1
    · split
      · exact h
      · rename_i h1 h2
        have hsx : s < x := by
          rcases Decidable.em (s < x) with h3 | h3
          · exact h3
          · exact absurd (List.le_antisymm (List.not_lt.1 h3) (List.not_lt.1 h1)) h2
        refine List.pairwise_cons.2 ⟨fun z hz => ?_, h⟩
        rcases List.mem_cons.1 hz with h3 | h3
        · subst h3; exact hsx
        · exact List.lt_trans hsx (h'.1 z h3)
theorem foldl_ins : ∀ (x a : List (List UInt8)), Strict a → Strict (x.foldl (fun a y => ins y a) a) ∧ ∀ z, z ∈ x.foldl (fun a y => ins y a) a ↔ z ∈ a ∨ z ∈ x := by
  intro x
  induction x with
  | nil => intro a h; exact ⟨h, fun z => by simp⟩
  | cons y r ih =>
    intro a h
    have := ih (ins y a) (strict_ins y a h)
    refine ⟨this.1, fun z => ?_⟩
    rw [List.foldl_cons, this.2 z, mem_ins, List.mem_cons]
    constructor
    · rintro ((h | h) | h)
      · exact Or.inr (Or.inl h)
      · exact Or.inl h
      · exact Or.inr (Or.inr h)
    · rintro (h | h | h)
      · exact Or.inl (Or.inr h)
      · exact Or.inl (Or.inl h)
      · exact Or.inr h
theorem asc_strict (x : List (List UInt8)) : Strict (ascL x) := (foldl_ins x [] List.Pairwise.nil).1
theorem asc_mem (x : List (List UInt8)) (z : List UInt8) : z ∈ ascL x ↔ z ∈ x := by
  have := (foldl_ins x [] List.Pairwise.nil).2 z
  simpa [ascL] using this
theorem asc_eq {x y : List (List UInt8)} (h : Strict y) (hm : ∀ z, z ∈ y ↔ z ∈ x) : y = ascL x :=
  strict_unique h (asc_strict x) fun z => by rw [hm z, asc_mem x z]
theorem asc_idem (x : List (List UInt8)) : ascL (ascL x) = ascL x := (asc_eq (asc_strict x) fun _ => Iff.rfl).symm
theorem ins_len (s : List UInt8) (l : List (List UInt8)) : (ins s l).length ≤ l.length + 1 := by
  induction l with
  | nil => simp [ins]
  | cons x r ih => unfold ins; split <;> (try split) <;> simp <;> omega
theorem foldl_len : ∀ (x a : List (List UInt8)), (x.foldl (fun a y => ins y a) a).length ≤ a.length + x.length := by
  intro x
  induction x with
  | nil => intro a; simp
  | cons y r ih => intro a; have := ih (ins y a); have := ins_len y a; simp only [List.foldl_cons, List.length_cons]; omega
theorem asc_len (x : List (List UInt8)) : (ascL x).length ≤ x.length := by have := foldl_len x []; simpa [ascL] using this

/-- the loop of the model's l1Put -/
theorem ins_below {s : List UInt8} {p : List (List UInt8)} (h : ∀ z ∈ p, z < s) (t : List (List UInt8)) : ins s (p ++ t) = p ++ ins s t := by
  induction p with
  | nil => rfl
  | cons x r ih =>
    have hx := h x (List.mem_cons_self ..)
    simp only [List.cons_append, ins, if_pos hx]
    rw [ih fun z hz => h z (List.mem_cons_of_mem _ hz)]
theorem ins_done {s : List UInt8} {p : List (List UInt8)} (h : ∃ z ∈ p, ¬ z < s) (t : List (List UInt8)) : ins s (p ++ t) = ins s p ++ t := by
  induction p with
  | nil => obtain ⟨z, hz, _⟩ := h; simp at hz
  | cons x r ih =>
    simp only [List.cons_append, ins]
    by_cases hx : x < s
    · obtain ⟨z, hz, hzs⟩ := h
      rcases List.mem_cons.1 hz with h1 | h1
      · subst h1; exact absurd hx hzs
      · rw [if_pos hx, if_pos hx, ih ⟨z, h1, hzs⟩]; rfl
    · rw [if_neg hx, if_neg hx]
      split <;> rfl

/-- what slices.Compact leaves of a sorted list -/
theorem compact_sorted (d : Array (List UInt8)) (hs : ∀ i j, i ≤ j → j < d.size → d[i]! ≤ d[j]!) : ∀ m, m ≤ d.size →
    Strict (Lib.compactUpTo d m) ∧ (∀ z, z ∈ Lib.compactUpTo d m ↔ ∃ i, i < m ∧ d[i]! = z) := by
  intro m
  induction m with
  | zero => intro _; exact ⟨List.Pairwise.nil, fun z => by simp [Lib.compactUpTo]⟩
  | succ m ih =>
    intro hm
    obtain ⟨h1, h2⟩ := ih (by omega)
    rw [Lib.compactUpTo_succ]
    by_cases hk : m = 0 ∨ d[m]! ≠ d[m - 1]!
    · have hk' : Lib.keeps d m = true := by simpa [Lib.keeps] using hk
      rw [if_pos hk']
      constructor
      · refine List.pairwise_append.2 ⟨h1, by simp, fun a ha b hb => ?_⟩
        have hb' : b = d[m]! := by simpa using hb
        subst hb'
        obtain ⟨i, hi, rfl⟩ := (h2 a).1 ha
        have hne : d[m]! ≠ d[m - 1]! := by rcases hk with h | h; · omega
                                           · exact h
        rcases Decidable.em (d[i]! < d[m]!) with h | h
        · exact h
        · exfalso
          have e : d[i]! = d[m]! := List.le_antisymm (hs i m (by omega) (by omega)) (List.not_lt.1 h)
          have h3 := hs i (m - 1) (by omega) (by omega)
          have h4 := hs (m - 1) m (by omega) (by omega)
          rw [e] at h3
          exact hne (List.le_antisymm h3 h4)
      · intro z
        rw [List.mem_append, h2 z]
        constructor
        · rintro (⟨i, hi, e⟩ | h)
          · exact ⟨i, by omega, e⟩
          · exact ⟨m, by omega, by simpa using (show z = d[m]! by simpa using h).symm⟩
        · rintro ⟨i, hi, e⟩
          rcases Nat.lt_or_ge i m with h | h
          · exact Or.inl ⟨i, h, e⟩
          · right; have : i = m := by omega
            subst this; simp [e]
    · have hk' : Lib.keeps d m = false := by simpa [Lib.keeps] using hk
      rw [if_neg (by simp [hk']), List.append_nil]
      refine ⟨h1, fun z => ?_⟩
      rw [h2 z]
      constructor
      · rintro ⟨i, hi, e⟩; exact ⟨i, by omega, e⟩
      · rintro ⟨i, hi, e⟩
        rcases Nat.lt_or_ge i m with h | h
        · exact ⟨i, h, e⟩
        · have : i = m := by omega
          subst this
          have hm0 : i ≠ 0 := fun h => hk (Or.inl h)
          have he : d[i]! = d[i - 1]! := Decidable.byContradiction fun h => hk (Or.inr h)
          exact ⟨i - 1, by omega, by rw [← he]; exact e⟩
def leB (x y : List UInt8) : Bool := decide (x ≤ y)
theorem compact_mergeSort (x : List (List UInt8)) : Lib.compact (x.mergeSort fun a b => decide (a ≤ b)) = ascL x := by
  have hp := List.pairwise_mergeSort (le := fun a b : List UInt8 => decide (a ≤ b)) (fun a b c h1 h2 => by simp at *; exact List.le_trans h1 h2) (fun a b => by simp; exact List.le_total a b) x
  generalize hl : (x.mergeSort fun a b => decide (a ≤ b)) = l at *
  have hmem : ∀ z, z ∈ l ↔ z ∈ x := fun z => by rw [← hl]; exact List.mem_mergeSort
  have hs : ∀ i j, i ≤ j → j < l.toArray.size → l.toArray[i]! ≤ l.toArray[j]! := by
    intro i j hij hj
    have hj' : j < l.length := by simpa using hj
    rw [getElem!_pos _ i (by simp; omega), getElem!_pos _ j (by simpa using hj')]
    simp only [List.getElem_toArray]
    rcases Nat.lt_or_ge i j with h | h
    · have := List.pairwise_iff_getElem.1 hp i j (by omega) hj' h
      simpa using this
    · have : i = j := by omega
      subst this; exact List.le_refl _
  have h := compact_sorted l.toArray hs l.length (by simp)
  refine asc_eq h.1 fun z => ?_
  rw [← hmem z]
  unfold Lib.compact
  rw [h.2 z, List.mem_iff_getElem]
  constructor
  · rintro ⟨i, hi, e⟩; exact ⟨i, hi, by rw [← e, getElem!_pos _ i (by simpa using hi)]; simp⟩
  · rintro ⟨i, hi, e⟩; exact ⟨i, hi, by rw [getElem!_pos _ i (by simpa using hi)]; simpa using e⟩
end Go.Proofs.Ytlkpinlkbikokae
/- Cells, plain: which lists are cells, how they are written and read; the lenient reading held against the writing is the strict one. -/
namespace Go.Proofs.Ytlkpinlkbikokae
set_option linter.unusedVariables false
open Go.RowKit
def cellT (d : CellD) : List UInt8 := d.fKey ++ 61 :: numL d.fValue
def fmtC (l : List CellD) : List UInt8 := if cellsB l = true then (if l = [] then [45] else joinL (l.map cellT) [44]) else []
theorem nameB_all {l : List UInt8} (h : nameB l = true) (c : UInt8) (hc : c ∈ l) : (isLet c.toNat || isDig c.toNat) = true := by
  simp only [nameB, Bool.and_eq_true, nmB, List.all_eq_true] at h
  exact h.2 c hc
theorem nameB_no {l : List UInt8} (h : nameB l = true) (c : UInt8) (hc : (isLet c.toNat || isDig c.toNat) = false) : c ∉ l := fun hm => by rw [nameB_all h c hm] at hc; simp at hc
theorem numL_no (n : Nat) (c : UInt8) (hc : digB c = false) : c ∉ numL n := fun hm => by
  have := List.all_eq_true.1 (numL_dig n) c hm
  rw [this] at hc; simp at hc
theorem numB_nat {n : Int} (h : numB n = true) : ∃ k : Nat, n = k ∧ k ≤ 999 := by
  simp only [numB, Bool.and_eq_true, decide_eq_true_iff] at h
  exact ⟨n.toNat, by omega, by omega⟩
theorem parse_num {n : Int} (h : numB n = true) : pnum (numL n) = n ∧ pok (numL n) = true := by
  obtain ⟨k, rfl, hk⟩ := numB_nat h
  exact pnum_some (parseL_some hk rfl)
theorem cellT_cut {d : CellD} (h : nameB d.fKey = true) : Lib.cut (cellT d) [61] = (d.fKey, numL d.fValue, true) := cut_some (nameB_no h 61 (by decide))
theorem cellT_no {d : CellD} (h : nameB d.fKey = true) (h2 : numB d.fValue = true) : (44 : UInt8) ∉ cellT d := by
  obtain ⟨k, e, hk⟩ := numB_nat h2
  unfold cellT
  rw [e]
  intro hm
  rcases List.mem_append.1 hm with hm | hm
  · exact nameB_no h 44 (by decide) hm
  · rcases List.mem_cons.1 hm with hm | hm
    · exact absurd hm (by decide)
    · exact numL_no k 44 (by decide) hm
theorem cellT_split {d : CellD} (h : nameB d.fKey = true) (h2 : numB d.fValue = true) : splitL (cellT d) [61] = [d.fKey, numL d.fValue] := by
  obtain ⟨k, e, hk⟩ := numB_nat h2
  have : cellT d = joinL [d.fKey, numL d.fValue] [61] := by rw [joinL_two]; rfl
  rw [this]
  refine splitL_joinL 61 _ (by simp) ?_
  intro p hp
  simp only [List.mem_cons, List.not_mem_nil, or_false] at hp
  rcases hp with rfl | rfl
  · exact nameB_no h 61 (by decide)
  · rw [e]; exact numL_no k 61 (by decide)
/-- the program's lenient reading of one cell, of a text -/
def rdC (t : List UInt8) : CellD := ⟨(Lib.cut t [61]).1, pnum (Lib.cut t [61]).2.1⟩
def rdCs (s : List UInt8) : List CellD := if s = [45] then [] else (splitL s [44]).map rdC
/-- what is read: the cells that are written so -/
def prsB (s : List UInt8) : Bool := cellsB (rdCs s) && decide (fmtC (rdCs s) = s)
def prsC (s : List UInt8) : List CellD := if prsB s = true then rdCs s else []
/-- the model's reading of the first k parts -/
def oneB (t : List UInt8) : Bool := decide ((splitL t [61]).length = 2) && pok ((splitL t [61]).getD 1 [])
def oneC (t : List UInt8) : CellD := ⟨(splitL t [61]).getD 0 [], pnum ((splitL t [61]).getD 1 [])⟩
theorem oneB_cell {t : List UInt8} (h : oneB t = true) : cellT (oneC t) = t ∧ rdC t = oneC t := by
  simp only [oneB, Bool.and_eq_true, decide_eq_true_iff] at h
  obtain ⟨a, b, e⟩ : ∃ a b, splitL t [61] = [a, b] := by
    match splitL t [61], h.1 with
    | [a, b], _ => exact ⟨a, b, rfl⟩
  obtain ⟨e2, hna⟩ := split_two e
  have hb : pok b = true := by have := h.2; rw [e] at this; exact this
  unfold oneC
  rw [e]
  simp only [List.getD_cons_zero, List.getD_cons_succ]
  unfold pok at hb
  obtain ⟨n, hn⟩ := Option.isSome_iff_exists.1 hb
  obtain ⟨p1, p2⟩ := pnum_some hn
  obtain ⟨n1, n2⟩ := parseL_iff hn
  refine ⟨?_, ?_⟩
  · unfold cellT; simp only; rw [p1, n2]; exact e2.symm
  · unfold rdC; rw [e2, cut_some hna]
theorem prs_strict (s : List UInt8) (hs : s ≠ [45]) : prsB s = ((splitL s [44]).all oneB && cellsB ((splitL s [44]).map oneC)) := by
  have hne := splitL_ne s 44
  have hr : rdCs s = (splitL s [44]).map rdC := if_neg hs
  cases hR : ((splitL s [44]).all oneB && cellsB ((splitL s [44]).map oneC)) with
  | true =>
    simp only [Bool.and_eq_true, List.all_eq_true] at hR
    obtain ⟨h1, h2⟩ := hR
    have e1 : (splitL s [44]).map rdC = (splitL s [44]).map oneC := List.map_congr_left fun t ht => (oneB_cell (h1 t ht)).2
    have e2 : ((splitL s [44]).map oneC).map cellT = splitL s [44] := by
      rw [List.map_map]
      conv => rhs; rw [← List.map_id (splitL s [44])]
      exact List.map_congr_left fun t ht => (oneB_cell (h1 t ht)).1
    unfold prsB
    rw [hr, e1, h2, Bool.true_and, decide_eq_true_iff]
    unfold fmtC
    rw [if_pos h2, if_neg (by simpa using hne), e2, join_splitL]
  | false =>
    cases hL : prsB s with
    | false => rfl
    | true =>
      simp only [prsB, Bool.and_eq_true, decide_eq_true_iff, hr] at hL
      obtain ⟨h1, h2⟩ := hL
      have hmem := cellsB_mem h1
      generalize hl : (splitL s [44]).map rdC = l at *
      have hl0 : l ≠ [] := by rw [← hl]; simpa using hne
      unfold fmtC at h2
      rw [if_pos h1, if_neg hl0] at h2
      have hsp : splitL s [44] = l.map cellT := by
        rw [← h2]
        refine splitL_joinL 44 _ (by simpa using hl0) ?_
        intro p hp
        obtain ⟨d, hd, rfl⟩ := List.mem_map.1 hp
        exact cellT_no (hmem d hd).1 (hmem d hd).2
      have h3 : (splitL s [44]).all oneB = true := by
        rw [hsp, List.all_eq_true]
        intro p hp
        obtain ⟨d, hd, rfl⟩ := List.mem_map.1 hp
        unfold oneB
        rw [cellT_split (hmem d hd).1 (hmem d hd).2]
        simpa using (parse_num (hmem d hd).2).2
      have h4 : (splitL s [44]).map oneC = l := by
        rw [hsp, List.map_map]
        conv => rhs; rw [← List.map_id l]
        refine List.map_congr_left fun d hd => ?_
        simp only [Function.comp, oneC]
        rw [cellT_split (hmem d hd).1 (hmem d hd).2]
        simp only [List.getD_cons_zero, List.getD_cons_succ]
        rw [(parse_num (hmem d hd).2).1]
        rfl
      rw [h3, h4, h1] at hR
      exact absurd hR (by simp)
theorem prsC_yes {s : List UInt8} (h : prsB s = true) : prsC s = rdCs s := if_pos h
theorem prsC_no {s : List UInt8} (h : prsB s = false) : prsC s = [] := if_neg (by simp [h])
theorem prsB_dash : prsB [45] = true := by unfold prsB rdCs; rw [if_pos rfl]; rfl
theorem prsC_strict {s : List UInt8} (hs : s ≠ [45]) (h : prsB s = true) : prsC s = (splitL s [44]).map oneC := by
  rw [prsC_yes h]
  rw [prs_strict s hs, Bool.and_eq_true, List.all_eq_true] at h
  unfold rdCs
  rw [if_neg hs]
  exact List.map_congr_left fun t ht => (oneB_cell (h.1 t ht)).2
theorem prsC_fmt {s : List UInt8} (h : prsB s = true) : cellsB (prsC s) = true ∧ fmtC (prsC s) = s := by
  rw [prsC_yes h]
  simp only [prsB, Bool.and_eq_true, decide_eq_true_iff] at h; exact h
theorem fmtC_dash {l : List CellD} (h : cellsB l = true) (he : fmtC l = [45]) : l = [] := by
  by_cases hl : l = []
  · exact hl
  · exfalso
    have hm := cellsB_mem h
    unfold fmtC at he
    rw [if_pos h, if_neg hl] at he
    cases l with
    | nil => exact hl rfl
    | cons d r =>
      have hk := (hm d List.mem_cons_self).1
      have h1 : 1 ≤ d.fKey.length := by simp only [nameB, Bool.and_eq_true, decide_eq_true_iff] at hk; omega
      have h2 : 1 ≤ (numL d.fValue).length := by
        obtain ⟨k, e, _⟩ := numB_nat (hm d List.mem_cons_self).2
        rw [e]; exact List.length_pos_iff.2 (numL_ne k)
      have : (joinL ((d :: r).map cellT) [44]).length = 1 := by rw [he]; rfl
      rw [List.map_cons] at this
      by_cases hr : r = []
      · subst hr; simp only [List.map_nil] at this; rw [joinL_one] at this; unfold cellT at this; simp at this; omega
      · rw [joinL_cons _ _ _ (by simpa using hr)] at this; unfold cellT at this; simp at this; omega
/-- what is written is read again -/
theorem prs_fmt {l : List CellD} (h : cellsB l = true) : prsB (fmtC l) = true ∧ prsC (fmtC l) = l := by
  have key : rdCs (fmtC l) = l := by
    by_cases hd : fmtC l = [45]
    · rw [fmtC_dash h hd]; rfl
    · have hl : l ≠ [] := by rintro rfl; exact hd rfl
      have hm := cellsB_mem h
      unfold rdCs
      rw [if_neg hd]
      have e : fmtC l = joinL (l.map cellT) [44] := by unfold fmtC; rw [if_pos h, if_neg hl]
      rw [e, splitL_joinL 44 _ (by simpa using hl) (by
        intro p hp
        obtain ⟨d, hd, rfl⟩ := List.mem_map.1 hp
        exact cellT_no (hm d hd).1 (hm d hd).2), List.map_map]
      conv => rhs; rw [← List.map_id l]
      refine List.map_congr_left fun d hd => ?_
      simp only [Function.comp, rdC]
      rw [cellT_cut (hm d hd).1]
      simp only
      rw [(parse_num (hm d hd).2).1]
      rfl
  have hp : prsB (fmtC l) = true := by unfold prsB; rw [key, h]; simp
  exact ⟨hp, by rw [prsC_yes hp, key]⟩
end Go.Proofs.Ytlkpinlkbikokae
/- Contracts of chapter 3: slices.Equal of cells; SameCore, the program's and the model's. -/
namespace Go.Proofs.Ytlkpinlkbikokae
set_option linter.unusedVariables false
open Go.RowKit
theorem belE {B : Nat} {a w : World} (h : Below B a w) (n : Nat) : Below B a (w.drewN n) := ⟨h.os, h.tape, h.output, h.size, h.block⟩
set_option maxRecDepth 100000 in
set_option maxHeartbeats 1600000 in
theorem equalCells_any (v u : Value) (x y : List CellD) (w : World) (hx : FlatAt cCell 2 w v x) (hy : FlatAt cCell 2 w u y) :
    Calls Try.prog 63 #[v, u] w fun e w' => e = .returned (.bool (decide (x = y))) ∧ Below w.heap.size w w' := by
  obtain ⟨a, c, rfl, hl⟩ := flatAt_len hx
  obtain ⟨a2, c2, rfl, hl2⟩ := flatAt_len hy
  have HX := Lib.hid hx
  have HY := Lib.hid hy
  clear hx hy
  unfold maxLen at hl hl2
  by_cases he : x.length = y.length
  · have hb : ((x.length : Int) == y.length) = true := beq_iff_eq.2 (by omega)
    have hbn : ((x.length : Int) != y.length) = false := by rw [bne_eq_false_iff_eq]; omega
    have HE := Lib.hid he
    clear he
    go_enter Try.func63, Try.ntmps63
    go_wp2
    go_loopw [5, 13] (fun _ i wr => ∃ k : Nat, k ≤ x.length ∧ i = .int .i64 k ∧ x.take k = y.take k ∧ Below w.heap.size w wr) (fun _ i _ => x.length - (intOf i).toNat)
    case atStart => exact ⟨0, Nat.zero_le _, rfl, rfl, Below.refl _ _⟩
    case round =>
      obtain ⟨k, hk, rfl, ht, hbr⟩ := hrel
      have HT := Lib.hid ht
      have HB := Lib.hid hbr
      have HXr := Lib.hid (FlatAt.below HX.out hbr (Nat.le_refl _))
      have HYr := Lib.hid (FlatAt.below HY.out hbr (Nat.le_refl _))
      clear ht hbr
      by_cases hlt : k < x.length
      · have hky : k < y.length := by have := HE.out; omega
        obtain ⟨b, o, rfl, _, hd⟩ := flatAt_cell cCell_len HXr.out k hlt (by decide)
        obtain ⟨b2, o2, rfl, _, hd2⟩ := flatAt_cell cCell_len HYr.out k hky (by decide)
        have d0 := hd 0 (by decide)
        have d1 := hd 1 (by decide)
        have q0 := hd2 0 (by decide)
        have q1 := hd2 1 (by decide)
        clear hd hd2
        have HS := Lib.hid (take_eq_step x y HE.out k hlt HT.out)
        have HD := Lib.hid (show x[k] ≠ y[k] → ¬ x = y from fun h e => h (by subst e; rfl))
        generalize x[k] = p at *
        generalize y[k] = q at *
        obtain ⟨a0, a1⟩ := p
        obtain ⟨b0, b1⟩ := q
        simp only [cCell, List.getElem?_cons_zero, List.getElem?_cons_succ, Nat.add_zero] at d0 d1 q0 q1
        have hk0 : (0 : Int) ≤ (k : Int) := by omega
        have hk1 : (k : Int) < (x.length : Int) := by omega
        have hk2 : (k : Int) < (y.length : Int) := by omega
        by_cases heq : (⟨a0, a1⟩ : CellD) = ⟨b0, b1⟩
        · have HN := Lib.hid (HS.out heq)
          injection heq with e0 e1
          subst e0 e1
          clear HS HD
          go_wp2
          go_quiet (fail)
          go_wp2_with fail
          exact ⟨⟨k + 1, by omega, by go_num, HN.out, belE HB.out _⟩, by simp [intOf]; omega⟩
        · have HN := Lib.hid (HD.out heq)
          by_cases e0 : a0 = b0
          · have e1 : ¬ a1 = b1 := fun e => heq (by rw [e0, e])
            have hn1 : (a1 == b1) = false := by simpa using e1
            subst e0
            clear HS HD heq e1
            go_wp2
            go_quiet (fail)
            go_wp2_with fail
            go_ret
            exact ⟨ret_bool (by simp [HN.out]), belE HB.out _⟩
          · have hn0 : (a0 == b0) = false := by simpa using e0
            clear HS HD heq e0
            go_wp2
            go_quiet (fail)
            go_wp2_with fail
            go_ret
            exact ⟨ret_bool (by simp [HN.out]), belE HB.out _⟩
      · have HN := Lib.hid (show x = y from by
          have h := HT.out
          rw [List.take_of_length_le (by omega), List.take_of_length_le (by have := HE.out; omega)] at h
          exact h)
        go_wp2
        go_ret
        exact ⟨ret_bool (by simp [HN.out]), HB.out⟩
  · have hb : ((x.length : Int) == y.length) = false := beq_eq_false_iff_ne.2 (by omega)
    have hbn : ((x.length : Int) != y.length) = true := by rw [bne_iff_ne]; omega
    have HN := Lib.hid (show ¬ x = y from fun e => he (by rw [e]))
    clear he
    go_enter Try.func63, Try.ntmps63
    go_wp2
    go_ret
    exact ⟨ret_bool (by simp [HN.out]), Below.refl _ _⟩
set_option maxRecDepth 100000 in
set_option maxHeartbeats 3200000 in
theorem implSame_b (v u : Value) (x y : CoreD) (q : Bool) (hq : decide (x = y) = q) (w : World) (hx : CoreAt w v x) (hy : CoreAt w u y) :
    Calls Try.prog 47 #[v, u] w fun e w' => e = .returned (.bool q) ∧ Below w.heap.size w w' := by
  obtain ⟨cv, rfl, hx⟩ := hx
  obtain ⟨cu, rfl, hy⟩ := hy
  have hex := coreD_ext x y
  obtain ⟨a0, a1, a2, a3, a4⟩ := x
  obtain ⟨b0, b1, b2, b3, b4⟩ := y
  unfold vCore
  simp only at *
  have B2 := Lib.hid (show ∀ o1 o2, Below w.heap.size w ((w.alloc o1).alloc o2) from fun o1 o2 => ((Below.refl _ _).alloc (Nat.le_refl _) _).alloc (by simp) _)
  have HX := Lib.hid hx
  have HY := Lib.hid hy
  have HN := Lib.hid (show ¬ (a0 = b0 ∧ a1 = b1 ∧ a2 = b2 ∧ a3 = b3 ∧ a4 = b4) → false = q from fun h => by rw [← hq]; symm; rw [decide_eq_false_iff_not, hex]; exact h)
  have HQ := Lib.hid (show a0 = b0 → a1 = b1 → a2 = b2 → a4 = b4 → decide (a3 = b3) = q from fun h0 h1 h2 h4 => by
    rw [← hq]
    by_cases h3 : a3 = b3
    · rw [decide_eq_true h3, decide_eq_true (hex.2 ⟨h0, h1, h2, h3, h4⟩)]
    · rw [decide_eq_false h3, decide_eq_false (fun e => h3 (hex.1 e).2.2.2.1)])
  have HC := Lib.hid (fun o1 o2 => equalCells_any cv cu a3 b3 ((w.alloc o1).alloc o2) (HX.out.below (B2.out o1 o2) (Nat.le_refl _)) (HY.out.below (B2.out o1 o2) (Nat.le_refl _)))
  clear hx hy hq hex
  by_cases h0 : a0 = b0
  case neg =>
    have HF := Lib.hid (HN.out fun e => h0 e.1)
    have hne : (a0 == b0) = false := by simpa using h0
    have hnf : (a0 != b0) = true := by simpa using h0
    clear h0
    go_enter Try.func47, Try.ntmps47
    go_wp2_with fail
    go_ret
    exact ⟨ret_bool HF.out, B2.out _ _⟩
  case pos =>
    by_cases h1 : a1 = b1
    case neg =>
      have HF := Lib.hid (HN.out fun e => h1 e.2.1)
      subst h0
      cases a1 <;> cases b1
      all_goals first
        | exact absurd rfl h1
        | (clear h1
           go_enter Try.func47, Try.ntmps47
           go_wp2_with fail
           go_ret
           exact ⟨ret_bool HF.out, B2.out _ _⟩)
    case pos =>
      by_cases h2 : a2 = b2
      case neg =>
        have HF := Lib.hid (HN.out fun e => h2 e.2.2.1)
        subst h0 h1
        cases a1 <;> cases a2 <;> cases b2
        all_goals first
          | exact absurd rfl h2
          | (clear h2
             go_enter Try.func47, Try.ntmps47
             go_wp2_with fail
             go_ret
             exact ⟨ret_bool HF.out, B2.out _ _⟩)
      case pos =>
        by_cases h4 : a4 = b4
        case neg =>
          have HF := Lib.hid (HN.out fun e => h4 e.2.2.2.2)
          have hne : (a4 == b4) = false := by simpa using h4
          have hnf : (a4 != b4) = true := by simpa using h4
          subst h0 h1 h2
          clear h4
          cases a1 <;> cases a2
          all_goals
            go_enter Try.func47, Try.ntmps47
            go_wp2_with fail
            go_ret
            exact ⟨ret_bool HF.out, B2.out _ _⟩
        case pos =>
          have HF := Lib.hid (HQ.out h0 h1 h2 h4)
          subst h0 h1 h2 h4
          obtain ⟨pa, pc, rfl, _⟩ := flatAt_len HX.out
          obtain ⟨qa, qc, rfl, _⟩ := flatAt_len HY.out
          generalize decide (a3 = b3) = eq at *
          cases a1 <;> cases a2
          all_goals
            go_enter Try.func47, Try.ntmps47
            go_wp2_with fail
            refine (HC.out _ _).mono ?_
            rintro e w1 ⟨rfl, hb⟩
            have HB := Lib.hid ((B2.out _ _).trans (hb.mono (B2.out _ _).size))
            clear hb
            go_wp2_with fail
            go_ret
            exact ⟨ret_bool HF.out, HB.out⟩
theorem implSame_any (v u : Value) (x y : CoreD) (w : World) (hx : CoreAt w v x) (hy : CoreAt w u y) :
    Calls Try.prog 47 #[v, u] w fun e w' => e = .returned (.bool (decide (x = y))) ∧ Below w.heap.size w w' := implSame_b v u x y _ rfl w hx hy
end Go.Proofs.Ytlkpinlkbikokae
/- Contracts of chapter 4: slices.Equal of layers; SamePart, the program's. -/
namespace Go.Proofs.Ytlkpinlkbikokae
set_option linter.unusedVariables false
set_option linter.unusedSimpArgs false
open Go.RowKit
set_option maxRecDepth 100000 in
set_option maxHeartbeats 1600000 in
theorem equalLayers_any (v u : Value) (x y : List LayerD) (w : World) (hx : FlatAt cLayer 2 w v x) (hy : FlatAt cLayer 2 w u y) :
    Calls Try.prog 48 #[v, u] w fun e w' => e = .returned (.bool (decide (x = y))) ∧ Below w.heap.size w w' := by
  obtain ⟨a, c, rfl, hl⟩ := flatAt_len hx
  obtain ⟨a2, c2, rfl, hl2⟩ := flatAt_len hy
  have HX := Lib.hid hx
  have HY := Lib.hid hy
  clear hx hy
  unfold maxLen at hl hl2
  by_cases he : x.length = y.length
  · have hb : ((x.length : Int) == y.length) = true := beq_iff_eq.2 (by omega)
    have hbn : ((x.length : Int) != y.length) = false := by rw [bne_eq_false_iff_eq]; omega
    have HE := Lib.hid he
    clear he
    go_enter Try.func48, Try.ntmps48
    go_wp2
    go_loopw [5, 13] (fun _ i wr => ∃ k : Nat, k ≤ x.length ∧ i = .int .i64 k ∧ x.take k = y.take k ∧ Below w.heap.size w wr) (fun _ i _ => x.length - (intOf i).toNat)
    case atStart => exact ⟨0, Nat.zero_le _, rfl, rfl, Below.refl _ _⟩
    case round =>
      obtain ⟨k, hk, rfl, ht, hbr⟩ := hrel
      have HT := Lib.hid ht
      have HB := Lib.hid hbr
      have HXr := Lib.hid (FlatAt.below HX.out hbr (Nat.le_refl _))
      have HYr := Lib.hid (FlatAt.below HY.out hbr (Nat.le_refl _))
      clear ht hbr
      by_cases hlt : k < x.length
      · have hky : k < y.length := by have := HE.out; omega
        obtain ⟨b, o, rfl, _, hd⟩ := flatAt_cell cLayer_len HXr.out k hlt (by decide)
        obtain ⟨b2, o2, rfl, _, hd2⟩ := flatAt_cell cLayer_len HYr.out k hky (by decide)
        have d0 := hd 0 (by decide)
        have d1 := hd 1 (by decide)
        have q0 := hd2 0 (by decide)
        have q1 := hd2 1 (by decide)
        clear hd hd2
        have HS := Lib.hid (take_eq_step x y HE.out k hlt HT.out)
        have HD := Lib.hid (show x[k] ≠ y[k] → ¬ x = y from fun h e => h (by subst e; rfl))
        generalize x[k] = p at *
        generalize y[k] = q at *
        obtain ⟨a0, a1⟩ := p
        obtain ⟨b0, b1⟩ := q
        simp only [cLayer, List.getElem?_cons_zero, List.getElem?_cons_succ, Nat.add_zero] at d0 d1 q0 q1
        have hk0 : (0 : Int) ≤ (k : Int) := by omega
        have hk1 : (k : Int) < (x.length : Int) := by omega
        have hk2 : (k : Int) < (y.length : Int) := by omega
        by_cases heq : (⟨a0, a1⟩ : LayerD) = ⟨b0, b1⟩
        · have HN := Lib.hid (HS.out heq)
          injection heq with e0 e1
          subst e0 e1
          clear HS HD
          go_wp2
          go_quiet (fail)
          go_wp2_with fail
          exact ⟨⟨k + 1, by omega, by go_num, HN.out, belE HB.out _⟩, by simp [intOf]; omega⟩
        · have HN := Lib.hid (HD.out heq)
          by_cases e0 : a0 = b0
          · have e1 : ¬ a1 = b1 := fun e => heq (by rw [e0, e])
            have hn1 : (a1 == b1) = false := by simpa using e1
            subst e0
            clear HS HD heq e1
            go_wp2
            go_quiet (fail)
            go_wp2_with fail
            go_ret
            exact ⟨ret_bool (by simp [HN.out]), belE HB.out _⟩
          · have hn0 : (a0 == b0) = false := by simpa using e0
            clear HS HD heq e0
            go_wp2
            go_quiet (fail)
            go_wp2_with fail
            go_ret
            exact ⟨ret_bool (by simp [HN.out]), belE HB.out _⟩
      · have HN := Lib.hid (show x = y from by
          have h := HT.out
          rw [List.take_of_length_le (by omega), List.take_of_length_le (by have := HE.out; omega)] at h
          exact h)
        go_wp2
        go_ret
        exact ⟨ret_bool (by simp [HN.out]), HB.out⟩
  · have hb : ((x.length : Int) == y.length) = false := beq_eq_false_iff_ne.2 (by omega)
    have hbn : ((x.length : Int) != y.length) = true := by rw [bne_iff_ne]; omega
    have HN := Lib.hid (show ¬ x = y from fun e => he (by rw [e]))
    clear he
    go_enter Try.func48, Try.ntmps48
    go_wp2
    go_ret
    exact ⟨ret_bool (by simp [HN.out]), Below.refl _ _⟩

theorem part_eq (x y : PartD) : decide (x = y) = (decide (x.fCore = y.fCore) && decide (x.fLayers = y.fLayers)) := by rw [Bool.eq_iff_iff]; cases x; cases y; simp
set_option maxRecDepth 100000 in
set_option maxHeartbeats 1600000 in
theorem implSamePart_any (v u : Value) (x y : PartD) (w : World) (hx : ValAt rPart 0 w v x) (hy : ValAt rPart 0 w u y) :
    Calls Try.prog 30 #[v, u] w fun e w' => e = .returned (.bool (decide (x = y))) ∧ Below w.heap.size w w' := by
  rw [part_eq]
  obtain ⟨_, rfl, hx⟩ := hx
  obtain ⟨_, rfl, hy⟩ := hy
  obtain ⟨⟨a0, a1, a2, a3, a4⟩, ls⟩ := x
  obtain ⟨⟨b0, b1, b2, b3, b4⟩, ms⟩ := y
  obtain ⟨v3, v5, rfl, h3, h5⟩ := hx
  obtain ⟨u3, u5, rfl, k3, k5⟩ := hy
  simp only at h3 h5 k3 k5 ⊢
  have HC := Lib.hid (fun w1 (hw : Below w.heap.size w w1) => implSame_any (.agg #[.string ⟨a0.toArray⟩, .bool a1, .bool a2, v3, .int .i64 a4]) (.agg #[.string ⟨b0.toArray⟩, .bool b1, .bool b2, u3, .int .i64 b4]) ⟨a0, a1, a2, a3, a4⟩ ⟨b0, b1, b2, b3, b4⟩ w1 ⟨v3, rfl, (flatAt_of_slice cCell_len (by decide) h3).below hw (Nat.le_refl _)⟩ ⟨u3, rfl, (flatAt_of_slice cCell_len (by decide) k3).below hw (Nat.le_refl _)⟩)
  have HL := Lib.hid (fun w1 (hw : Below w.heap.size w w1) => equalLayers_any v5 u5 ls ms w1 ((flatAt_of_slice cLayer_len (by decide) h5).below hw (Nat.le_refl _)) ((flatAt_of_slice cLayer_len (by decide) k5).below hw (Nat.le_refl _)))
  obtain ⟨ra, rc, rfl, _⟩ := sliceAt_len h3
  obtain ⟨sa, sc, rfl, _⟩ := sliceAt_len h5
  obtain ⟨pa, pc, rfl, _⟩ := sliceAt_len k3
  obtain ⟨qa, qc, rfl, _⟩ := sliceAt_len k5
  have HS := Lib.hid (bx_start2 w [.string ⟨a0.toArray⟩, .bool a1, .bool a2, .slice ra a3.length rc, .int .i64 a4, .slice sa ls.length sc] [.string ⟨b0.toArray⟩, .bool b1, .bool b2, .slice pa b3.length pc, .int .i64 b4, .slice qa ms.length qc] 44 44)
  generalize decide ((⟨a0, a1, a2, a3, a4⟩ : CoreD) = ⟨b0, b1, b2, b3, b4⟩) = p at *
  generalize decide (ls = ms) = q at *
  clear h3 h5 k3 k5
  cases p with
  | false =>
    go_enter Try.func30, Try.ntmps30
    go_wp2_with fail
    refine (HC.out _ HS.out.2.2).mono ?_
    rintro e w1 ⟨rfl, hb⟩
    have HB := Lib.hid (belS (w := w) HS.out.2.2 hb)
    clear hb
    go_wp2_with fail
    go_ret
    exact ⟨rfl, HB.out⟩
  | true =>
    go_enter Try.func30, Try.ntmps30
    go_wp2_with fail
    refine (HC.out _ HS.out.2.2).mono ?_
    rintro e w1 ⟨rfl, hb⟩
    have HB := Lib.hid (belS (w := w) HS.out.2.2 hb)
    have BA := Lib.hid (HS.out.1.below hb)
    have BB := Lib.hid (HS.out.2.1.below hb)
    clear hb
    have eA := BA.out.cell 5 (by simp)
    have eB := BB.out.cell 5 (by simp)
    simp only [List.getElem_cons_zero, List.getElem_cons_succ] at eA eB
    go_wp2_with fail
    refine (HL.out _ HB.out).mono ?_
    rintro e w2 ⟨rfl, hb⟩
    have HB := Lib.hid (belS (w := w) HB.out hb)
    clear hb eA eB
    go_wp2_with fail
    go_ret
    exact ⟨ret_bool (by simp), HB.out⟩
end Go.Proofs.Ytlkpinlkbikokae
/- Contracts of chapter 8: IsSlots, the program's. Written by gen/ch8t.py. -/
namespace Go.Proofs.Ytlkpinlkbikokae
set_option linter.unusedVariables false
set_option linter.unusedSimpArgs false
open Go.RowKit
set_option maxRecDepth 100000 in
set_option maxHeartbeats 1600000 in
theorem isWrong_any (v : Value) (x : SlotD) (w : World) (hx : ValAt rSlot 0 w v x) (hk : ∀ c ∈ x.fPart.fCore.fCells, c.fKey.length ≤ maxLen) :
    Calls Try.prog 17 #[v] w fun e w' => e = .returned (.bool (!slotOk x)) ∧ Below w.heap.size w w' := by
  obtain ⟨_, rfl, hx⟩ := hx
  obtain ⟨f, ⟨⟨a0, a1, a2, a3, a4⟩, ls⟩⟩ := x
  obtain ⟨v4, v6, rfl, h4, h6⟩ := hx
  simp only at h4 h6
  obtain ⟨ra, rc, rfl, _⟩ := sliceAt_len h4
  obtain ⟨sa, sc, rfl, _⟩ := sliceAt_len h6
  have HIP := Lib.hid (fun cs W (h : rPart 0 W cs (⟨⟨a0, a1, a2, a3, a4⟩, ls⟩ : PartD)) => implIsPart_any (.agg cs.toArray) (⟨⟨a0, a1, a2, a3, a4⟩, ls⟩ : PartD) W ⟨cs, rfl, h⟩ hk)
  have HSP := Lib.hid (fun cs W (h : rPart 0 W cs (⟨⟨a0, a1, a2, a3, a4⟩, ls⟩ : PartD)) => implSamePart_any (.agg cs.toArray) (.agg #[.string ⟨#[]⟩, .bool false, .bool false, .slice none 0 0, .int .i64 0, .slice none 0 0]) (⟨⟨a0, a1, a2, a3, a4⟩, ls⟩ : PartD) zPt W ⟨cs, rfl, h⟩ (zPt_at W))
  have HPX := Lib.hid (fun W (hb : Below w.heap.size w W) => goodPart.keep (show rPart 0 w [.string ⟨a0.toArray⟩, .bool a1, .bool a2, .slice ra a3.length rc, .int .i64 a4, .slice sa ls.length sc] (⟨⟨a0, a1, a2, a3, a4⟩, ls⟩ : PartD) from ⟨_, _, rfl, h4, h6⟩) (kept_below hb (Nat.le_refl _)))
  have BS := Lib.hid (bx_start1 w [.bool f, .string ⟨a0.toArray⟩, .bool a1, .bool a2, .slice ra a3.length rc, .int .i64 a4, .slice sa ls.length sc] 46)
  have BX0 := Lib.hid BS.out.1
  have HB0 := Lib.hid BS.out.2
  unfold slotOk
  simp only
  clear h4 h6 hk BS
  cases f
  · rw [if_neg (by decide)]
    generalize decide ((⟨⟨a0, a1, a2, a3, a4⟩, ls⟩ : PartD) = zPt) = pb at *
    go_enter Try.func17, Try.ntmps17
    have x0 := BX0.out.cell 0 (by simp)
    have x1 := BX0.out.cell 1 (by simp)
    have x2 := BX0.out.cell 2 (by simp)
    have x3 := BX0.out.cell 3 (by simp)
    have x4 := BX0.out.cell 4 (by simp)
    have x5 := BX0.out.cell 5 (by simp)
    have x6 := BX0.out.cell 6 (by simp)
    simp only [List.getElem_cons_zero, List.getElem_cons_succ] at x0 x1 x2 x3 x4 x5 x6
    go_wp2_with fail
    refine (HSP.out _ _ (HPX.out _ HB0.out)).mono ?_
    rintro e w1 ⟨rfl, hb⟩
    have HB1 := Lib.hid (belS HB0.out hb)
    clear hb
    cases pb
    · go_wp2_with fail
      go_ret
      exact ⟨rfl, HB1.out⟩
    · go_wp2_with fail
      go_ret
      exact ⟨rfl, HB1.out⟩
  · rw [if_pos rfl]
    generalize partB (⟨⟨a0, a1, a2, a3, a4⟩, ls⟩ : PartD) = pb at *
    go_enter Try.func17, Try.ntmps17
    have x0 := BX0.out.cell 0 (by simp)
    have x1 := BX0.out.cell 1 (by simp)
    have x2 := BX0.out.cell 2 (by simp)
    have x3 := BX0.out.cell 3 (by simp)
    have x4 := BX0.out.cell 4 (by simp)
    have x5 := BX0.out.cell 5 (by simp)
    have x6 := BX0.out.cell 6 (by simp)
    simp only [List.getElem_cons_zero, List.getElem_cons_succ] at x0 x1 x2 x3 x4 x5 x6
    go_wp2_with fail
    refine (HIP.out _ _ (HPX.out _ HB0.out)).mono ?_
    rintro e w1 ⟨rfl, hb⟩
    have HB1 := Lib.hid (belS HB0.out hb)
    clear hb
    cases pb
    · go_wp2_with fail
      go_ret
      exact ⟨rfl, HB1.out⟩
    · go_wp2_with fail
      go_ret
      exact ⟨rfl, HB1.out⟩
set_option maxRecDepth 100000 in
set_option maxHeartbeats 1600000 in
theorem idxSlot_any (v : Value) (l : List SlotD) (w : World) (hx : SliceAt rSlot 7 0 w v l) (hk : ∀ x ∈ l, ∀ c ∈ x.fPart.fCore.fCells, c.fKey.length ≤ maxLen) :
    Calls Try.prog 28 #[v, .func (.func 17) #[] #[]] w fun e w' => ∃ i : Int, e = .returned (.int .i64 i) ∧ decide (0 ≤ i) = !(l.all slotOk) ∧ Below w.heap.size w w' := by
  obtain ⟨a, c, rfl, hl⟩ := sliceAt_len hx
  have HX := Lib.hid hx
  have HK := Lib.hid hk
  clear hx hk
  unfold maxLen at hl
  go_enter Try.func28, Try.ntmps28
  go_wp2
  go_loopw [5, 8] (fun _ i wr => ∃ k : Nat, k ≤ l.length ∧ i = .int .i64 k ∧ (l.take k).all slotOk = true ∧ Below w.heap.size w wr) (fun _ i _ => l.length - (intOf i).toNat)
  case atStart => exact ⟨0, Nat.zero_le _, rfl, rfl, Below.refl _ _⟩
  case round =>
    obtain ⟨k, hk, rfl, ht, hbr⟩ := hrel
    have HB := Lib.hid hbr
    have HXr := Lib.hid (SliceAt.below HX.out goodSlot hbr (Nat.le_refl _))
    have HT := Lib.hid ht
    clear ht hbr
    by_cases hlt : k < l.length
    · obtain ⟨b, o, cs, rfl, hbw, hat, hd⟩ := sliceAt_cell HXr.out k hlt
      have HIW := Lib.hid (isWrong_any (.agg cs.toArray) l[k] wr ⟨cs, rfl, hat⟩ (HK.out _ (List.getElem_mem hlt)))
      have HY := Lib.hid (all_bad slotOk l k hlt)
      have HN := Lib.hid (show slotOk l[k] = true → (l.take (k + 1)).all slotOk = true from fun h => by rw [all_take_succ _ _ _ hlt, HT.out, h]; rfl)
      generalize slotOk l[k] = so at *
      generalize l[k] = x at *
      have hx := hat
      obtain ⟨f, ⟨⟨a0, a1, a2, a3, a4⟩, ls⟩⟩ := x
      obtain ⟨v4, v6, rfl, h4, h6⟩ := hx
      simp only at h4 h6
      obtain ⟨ra, rc, rfl, _⟩ := sliceAt_len h4
      obtain ⟨sa, sc, rfl, _⟩ := sliceAt_len h6
      have d0 := hd 0 (by decide)
      have d1 := hd 1 (by decide)
      have d2 := hd 2 (by decide)
      have d3 := hd 3 (by decide)
      have d4 := hd 4 (by decide)
      have d5 := hd 5 (by decide)
      have d6 := hd 6 (by decide)
      simp only [List.getElem?_cons_zero, List.getElem?_cons_succ, Nat.add_zero] at d0 d1 d2 d3 d4 d5 d6
      have hkl : (k : Int) < (l.length : Int) := by omega
      have h0k : (0 : Int) ≤ (k : Int) := by omega
      clear hd h4 h6 hat
      cases so
      · have HR := Lib.hid (HY.out rfl)
        clear HY HN
        go_wp2_with fail
        refine HIW.out.mono ?_
        rintro e w1 ⟨rfl, hb⟩
        have HB1 := Lib.hid (belS HB.out hb)
        clear hb
        go_wp2_with fail
        go_ret
        exact ⟨_, rfl, by rw [HR.out]; exact decide_eq_true h0k, HB1.out⟩
      · have HR := Lib.hid (HN.out rfl)
        clear HY HN
        go_wp2_with fail
        refine HIW.out.mono ?_
        rintro e w1 ⟨rfl, hb⟩
        have HB1 := Lib.hid (belS HB.out hb)
        clear hb
        go_wp2_with fail
        exact ⟨⟨k + 1, by omega, by go_num, HR.out, HB1.out⟩, by simp [intOf]; omega⟩
    · have HR := Lib.hid (show l.all slotOk = true by have h := HT.out; rwa [List.take_of_length_le (by omega)] at h)
      have hkl : ¬ (k : Int) < (l.length : Int) := by omega
      go_wp2_with fail
      go_ret
      exact ⟨-1, rfl, by rw [HR.out]; rfl, HB.out⟩
set_option maxRecDepth 100000 in
theorem hasSlot_any (v : Value) (l : List SlotD) (w : World) (hx : SliceAt rSlot 7 0 w v l) (hk : ∀ x ∈ l, ∀ c ∈ x.fPart.fCore.fCells, c.fKey.length ≤ maxLen) :
    Calls Try.prog 16 #[v, .func (.func 17) #[] #[]] w fun e w' => e = .returned (.bool (!(l.all slotOk))) ∧ Below w.heap.size w w' := by
  have HI := Lib.hid (idxSlot_any v l w hx hk)
  clear hx hk
  go_enter Try.func16, Try.ntmps16
  go_wp2_with fail
  refine HI.out.mono ?_
  rintro e w1 ⟨i, rfl, hi, hb⟩
  have HB := Lib.hid hb
  have HH := Lib.hid hi
  clear hb hi
  go_wp2_with fail
  go_ret
  exact ⟨ret_bool HH.out, HB.out⟩
set_option maxRecDepth 100000 in
theorem implIsSlots_any (v : Value) (l : List SlotD) (w : World) (hx : SliceAt rSlot 7 0 w v l) (hk : ∀ x ∈ l, ∀ c ∈ x.fPart.fCore.fCells, c.fKey.length ≤ maxLen) :
    Calls Try.prog 8 #[v] w fun e w' => e = .returned (.bool (decide (l.length = 3) && l.all slotOk)) ∧ Below w.heap.size w w' := by
  have HI := Lib.hid (fun W (h : Below w.heap.size w W) => hasSlot_any v l W (SliceAt.below hx goodSlot h (Nat.le_refl _)) hk)
  obtain ⟨a, c, rfl, hl⟩ := sliceAt_len hx
  clear hx hk
  generalize l.all slotOk = ok at *
  by_cases h3 : l.length = 3
  · have hb3 : ((l.length : Int) == 3) = true := by rw [h3]; rfl
    rw [decide_eq_true h3, Bool.true_and]
    clear h3
    go_enter Try.func8, Try.ntmps8
    go_wp2_with fail
    refine (HI.out _ (Below.refl _ _)).mono ?_
    rintro e w1 ⟨rfl, hb⟩
    have HB := Lib.hid hb
    clear hb
    cases ok
    · go_wp2_with fail
      go_ret
      exact ⟨rfl, HB.out⟩
    · go_wp2_with fail
      go_ret
      exact ⟨rfl, HB.out⟩
  · have hb3 : ((l.length : Int) == 3) = false := by rw [beq_eq_false_iff_ne]; omega
    rw [decide_eq_false h3, Bool.false_and]
    clear h3
    go_enter Try.func8, Try.ntmps8
    go_wp2_with fail
    go_ret
    exact ⟨rfl, Below.refl _ _⟩
end Go.Proofs.Ytlkpinlkbikokae
/- Contracts of chapter 4: IsPart, the model's. -/
namespace Go.Proofs.Ytlkpinlkbikokae
set_option linter.unusedVariables false
set_option linter.unusedSimpArgs false
open Go.RowKit
set_option maxRecDepth 100000 in
set_option maxHeartbeats 3200000 in
theorem specIsPart_any (v : Value) (x : PartD) (w : World) (hx : ValAt rPart 0 w v x) (hs : ∀ c ∈ x.fCore.fCells, c.fKey.length ≤ maxLen) :
    Calls Try.prog 13 #[v] w fun e w' => e = .returned (.bool (partB x)) ∧ Below w.heap.size w w' := by
  obtain ⟨_, rfl, hx⟩ := hx
  have HX := Lib.hid hx
  have HBAD := Lib.hid (fun k => partB_bad (x := x) (k := k))
  have HOK := Lib.hid (fun i h y hy => layOk_of x i h y hy)
  have HSU := Lib.hid (layTo_succ x)
  have HFN := Lib.hid (faceN_take x.fCore x.fLayers)
  have HP := Lib.hid (show partB x = (coreB x.fCore && decide (x.fLayers.length ≤ 3) && layTo x x.fLayers.length) from rfl)
  obtain ⟨xc, ls⟩ := x
  obtain ⟨v3, v5, rfl, h3, h5⟩ := hx
  have HC := Lib.hid (fun W (hb : Below w.heap.size w W) => specIsCore_any (vCore xc v3) xc W ⟨v3, rfl, FlatAt.below (flatAt_of_slice cCell_len (by decide) h3) hb (Nat.le_refl _)⟩ hs)
  obtain ⟨a0, a1, a2, a3, a4⟩ := xc
  unfold vCore at HC
  simp only at h3 h5 HX HC HP HFN HBAD HOK
  obtain ⟨ra, rc, rfl, _⟩ := sliceAt_len h3
  obtain ⟨sa, sc, rfl, hl, hcap⟩ := sliceAt_cap h5
  have H5 := Lib.hid h5
  have H3 := Lib.hid h3
  unfold maxLen at hl
  have HB0 := Lib.hid (show ∀ o, Below w.heap.size w (w.alloc o) from fun o => part_box w o)
  have HS0 := Lib.hid (Bx.new w [.string ⟨a0.toArray⟩, .bool a1, .bool a2, .slice ra a3.length rc, .int .i64 a4, .slice sa ls.length sc] 44)
  clear h3 h5
  have HPB := Lib.hid (show partB ⟨⟨a0, a1, a2, a3, a4⟩, ls⟩ = partB ⟨⟨a0, a1, a2, a3, a4⟩, ls⟩ from rfl)
  generalize partB ⟨⟨a0, a1, a2, a3, a4⟩, ls⟩ = pb at *
  have HCB := Lib.hid (show coreB ⟨a0, a1, a2, a3, a4⟩ = coreB ⟨a0, a1, a2, a3, a4⟩ from rfl)
  generalize coreB ⟨a0, a1, a2, a3, a4⟩ = cb at *
  clear HPB HCB HX
  cases cb with
  | false =>
    have HR := Lib.hid (show pb = false by rw [HP.out]; rfl)
    go_enter Try.func13, Try.ntmps13
    go_wp2_with fail
    refine (HC.out _ (HB0.out _)).mono ?_
    rintro e w1 ⟨rfl, hb⟩
    have HB := Lib.hid (belS (HB0.out _) hb)
    clear hb
    go_wp2_with fail
    go_ret
    exact ⟨ret_bool HR.out.symm, HB.out⟩
  | true =>
    by_cases h3 : 3 < ls.length
    · have HR := Lib.hid (show pb = false by rw [HP.out, show decide (ls.length ≤ 3) = false by simpa using h3]; rfl)
      go_enter Try.func13, Try.ntmps13
      go_wp2_with fail
      refine (HC.out _ (HB0.out _)).mono ?_
      rintro e w1 ⟨rfl, hb⟩
      have HB := Lib.hid (belS (HB0.out _) hb)
      have BX := Lib.hid (HS0.out.below hb)
      clear hb
      have e0 := BX.out.cell 0 (by simp)
      have e1 := BX.out.cell 1 (by simp)
      have e2 := BX.out.cell 2 (by simp)
      have e3 := BX.out.cell 3 (by simp)
      have e4 := BX.out.cell 4 (by simp)
      have e5 := BX.out.cell 5 (by simp)
      simp only [List.getElem_cons_zero, List.getElem_cons_succ] at e0 e1 e2 e3 e4 e5
      go_wp2_with fail
      go_ret
      exact ⟨ret_bool HR.out.symm, HB.out⟩
    · have HR := Lib.hid (show pb = layTo ⟨⟨a0, a1, a2, a3, a4⟩, ls⟩ ls.length by rw [HP.out, show decide (ls.length ≤ 3) = true by simpa using h3]; simp)
      go_enter Try.func13, Try.ntmps13
      go_wp2_with fail
      refine (HC.out _ (HB0.out _)).mono ?_
      rintro e w1 ⟨rfl, hb⟩
      have HB := Lib.hid (belS (HB0.out _) hb)
      have BX := Lib.hid (HS0.out.below hb)
      clear hb
      have e0 := BX.out.cell 0 (by simp)
      have e1 := BX.out.cell 1 (by simp)
      have e2 := BX.out.cell 2 (by simp)
      have e3 := BX.out.cell 3 (by simp)
      have e4 := BX.out.cell 4 (by simp)
      have e5 := BX.out.cell 5 (by simp)
      simp only [List.getElem_cons_zero, List.getElem_cons_succ] at e0 e1 e2 e3 e4 e5
      go_wp2_with fail
      clear e0 e1 e2 e3 e4 e5
      go_loopw [3, 4, 21] (fun _ _ i wr => ∃ k : Nat, k ≤ ls.length ∧ i = .int .i64 k ∧ layTo ⟨⟨a0, a1, a2, a3, a4⟩, ls⟩ k = true ∧ Below w.heap.size w wr ∧ Bx wr w.heap.size [.string ⟨a0.toArray⟩, .bool a1, .bool a2, .slice ra a3.length rc, .int .i64 a4, .slice sa ls.length sc]) (fun _ _ i _ => ls.length - (intOf i).toNat)
      case atStart => exact ⟨0, Nat.zero_le _, rfl, rfl, HB.out, BX.out⟩
      case round =>
        obtain ⟨k, hk, rfl, ht, hbr, hbx⟩ := hrel
        have HT := Lib.hid ht
        have HBr := Lib.hid hbr
        have BXr := Lib.hid hbx
        have HXr := Lib.hid (SliceAt.below H5.out (good_flat cLayer_len) hbr (Nat.le_refl _))
        clear ht hbr hbx
        by_cases hlt : k < ls.length
        · obtain ⟨b, o, cs, rfl, hbw, hat, hd⟩ := sliceAt_cell HXr.out k hlt
          have HLO := Lib.hid (HOK.out k hlt _ rfl)
          have HBD := Lib.hid (fun h => HBAD.out k hlt h)
          have HNX := Lib.hid (show layOk ⟨⟨a0, a1, a2, a3, a4⟩, ls⟩ k = true → layTo ⟨⟨a0, a1, a2, a3, a4⟩, ls⟩ (k + 1) = true from fun h => by rw [HSU.out, HT.out, h]; rfl)
          have HFO := Lib.hid (fun W hW => l4Face_any (.agg #[.string ⟨a0.toArray⟩, .bool a1, .bool a2, .slice ra a3.length rc, .int .i64 a4, .slice (some ⟨b, o, none⟩) ls.length sc]) ⟨⟨a0, a1, a2, a3, a4⟩, ls⟩ k W ⟨_, rfl, _, _, rfl, SliceAt.below H3.out (good_flat cCell_len) hW (Nat.le_refl _), SliceAt.below H5.out (good_flat cLayer_len) hW (Nat.le_refl _)⟩ (Nat.le_of_lt hlt))
          generalize ls[k] = z at *
          obtain ⟨z0, z1⟩ := z
          simp only [rFlat, cLayer] at hat HLO
          subst hat
          have d0 := hd 0 (by decide)
          have d1 := hd 1 (by decide)
          simp only [List.getElem?_cons_zero, List.getElem?_cons_succ, Nat.add_zero] at d0 d1
          have HLN := Lib.hid (specLayerNeeds_any ⟨z0.toArray⟩)
          simp only [ndV, List.toList_toArray] at HLN
          have HOF := Lib.hid (specOffers_any (faceN ⟨⟨a0, a1, a2, a3, a4⟩, ls⟩ k) (needI (layI z0)))
          have hkc : (k : Int) < (ls.length : Int) := by omega
          generalize layOk ⟨⟨a0, a1, a2, a3, a4⟩, ls⟩ k = lo at *
          generalize faceN ⟨⟨a0, a1, a2, a3, a4⟩, ls⟩ k = fc at *
          generalize needI (layI z0) = nd at *
          generalize offersF fc nd = ob at *
          generalize hge : decide (0 ≤ layI z0) = q at *
          clear hd hge HXr
          have HW0 := Lib.hid (part_box wr (.cells #[.string ⟨z0.toArray⟩, .int .i64 z1] 57))
          have BL := Lib.hid (Bx.new wr [.string ⟨z0.toArray⟩, .int .i64 z1] 57)
          have BX1 := Lib.hid (BXr.out.alloc (.cells #[.string ⟨z0.toArray⟩, .int .i64 z1] 57))
          have HB1 := Lib.hid (belS HBr.out HW0.out)
          by_cases h0 : z0 = [99, 111, 117, 110, 116, 115]
          · subst h0
            have HCD := Lib.hid (show countedB [99, 111, 117, 110, 116, 115] = true from rfl)
            have HCN := Lib.hid (show True from trivial)
            have e0 := BX1.out.cell 0 (by simp)
            have e1 := BX1.out.cell 1 (by simp)
            have e2 := BX1.out.cell 2 (by simp)
            have e3 := BX1.out.cell 3 (by simp)
            have e4 := BX1.out.cell 4 (by simp)
            have e5 := BX1.out.cell 5 (by simp)
            simp only [List.getElem_cons_zero, List.getElem_cons_succ] at e0 e1 e2 e3 e4 e5
            go_wp2_with fail
            refine (HLN.out _).mono ?_
            rintro e w2 ⟨rfl, hb⟩
            have HB2 := Lib.hid (belS HB1.out hb)
            have BL2 := Lib.hid (BL.out.below hb)
            have BX2 := Lib.hid (BX1.out.below hb)
            clear hb
            clear e0 e1 e2 e3 e4 e5
            have e0 := BX2.out.cell 0 (by simp)
            have e1 := BX2.out.cell 1 (by simp)
            have e2 := BX2.out.cell 2 (by simp)
            have e3 := BX2.out.cell 3 (by simp)
            have e4 := BX2.out.cell 4 (by simp)
            have e5 := BX2.out.cell 5 (by simp)
            simp only [List.getElem_cons_zero, List.getElem_cons_succ] at e0 e1 e2 e3 e4 e5
            have g0 := BL2.out.cell 0 (by simp)
            have g1 := BL2.out.cell 1 (by simp)
            simp only [List.getElem_cons_zero, List.getElem_cons_succ] at g0 g1
            cases q with
            | false =>
              have HR2 := Lib.hid (show pb = false from HBD.out (by rw [HLO.out]; rfl))
              go_wp2_with fail
              go_ret
              exact ⟨ret_bool HR2.out.symm, HB2.out⟩
            | true =>
              go_wp2_with fail
              refine (HFO.out _ HB2.out).mono ?_
              rintro e w3 ⟨rfl, hb⟩
              have HB3 := Lib.hid (belS HB2.out hb)
              have BL3 := Lib.hid (BL2.out.below hb)
              have BX3 := Lib.hid (BX2.out.below hb)
              clear hb
              clear e0 e1 e2 e3 e4 e5 g0 g1
              have g0 := BL3.out.cell 0 (by simp)
              have g1 := BL3.out.cell 1 (by simp)
              simp only [List.getElem_cons_zero, List.getElem_cons_succ] at g0 g1
              cases ob with
              | false =>
                have HR2 := Lib.hid (show pb = false from HBD.out (by rw [HLO.out]; rfl))
                go_wp2_with (first | (go_at_call 24; (with_reducible refine (HOF.out _).mono ?_); rintro e w' ⟨rfl, rfl⟩))
                go_ret
                exact ⟨ret_bool HR2.out.symm, HB3.out⟩
              | true =>
                by_cases hc0 : z1 < 0
                · skip
                  have HR2 := Lib.hid (show pb = false from HBD.out (by rw [HLO.out]; unfold cntB; rw [HCD.out]; simp [numB]; omega))
                  go_wp2_with (first | (go_at_call 24; (with_reducible refine (HOF.out _).mono ?_); rintro e w' ⟨rfl, rfl⟩))
                  go_ret
                  exact ⟨ret_bool HR2.out.symm, HB3.out⟩
                · by_cases hc9 : 999 < z1
                  · skip
                    have HR2 := Lib.hid (show pb = false from HBD.out (by rw [HLO.out]; unfold cntB; rw [HCD.out]; simp [numB]; omega))
                    go_wp2_with (first | (go_at_call 24; (with_reducible refine (HOF.out _).mono ?_); rintro e w' ⟨rfl, rfl⟩))
                    go_ret
                    exact ⟨ret_bool HR2.out.symm, HB3.out⟩
                  · have HR2 := Lib.hid (HNX.out (by rw [HLO.out]; unfold cntB; rw [HCD.out]; simp [numB]; omega))
                    by_cases hcp : 0 < z1
                    · go_wp2_with (first | (go_at_call 24; (with_reducible refine (HOF.out _).mono ?_); rintro e w' ⟨rfl, rfl⟩))
                      exact ⟨⟨k + 1, by omega, by go_num, HR2.out, HB3.out, BX3.out⟩, by simp [intOf]; omega⟩
                    · go_wp2_with (first | (go_at_call 24; (with_reducible refine (HOF.out _).mono ?_); rintro e w' ⟨rfl, rfl⟩))
                      exact ⟨⟨k + 1, by omega, by go_num, HR2.out, HB3.out, BX3.out⟩, by simp [intOf]; omega⟩
          · by_cases h1 : z0 = [104, 101, 97, 114, 115]
            · subst h1
              clear h0
              have HCD := Lib.hid (show countedB [104, 101, 97, 114, 115] = true from rfl)
              have e0 := BX1.out.cell 0 (by simp)
              have e1 := BX1.out.cell 1 (by simp)
              have e2 := BX1.out.cell 2 (by simp)
              have e3 := BX1.out.cell 3 (by simp)
              have e4 := BX1.out.cell 4 (by simp)
              have e5 := BX1.out.cell 5 (by simp)
              simp only [List.getElem_cons_zero, List.getElem_cons_succ] at e0 e1 e2 e3 e4 e5
              go_wp2_with fail
              refine (HLN.out _).mono ?_
              rintro e w2 ⟨rfl, hb⟩
              have HB2 := Lib.hid (belS HB1.out hb)
              have BL2 := Lib.hid (BL.out.below hb)
              have BX2 := Lib.hid (BX1.out.below hb)
              clear hb
              clear e0 e1 e2 e3 e4 e5
              have e0 := BX2.out.cell 0 (by simp)
              have e1 := BX2.out.cell 1 (by simp)
              have e2 := BX2.out.cell 2 (by simp)
              have e3 := BX2.out.cell 3 (by simp)
              have e4 := BX2.out.cell 4 (by simp)
              have e5 := BX2.out.cell 5 (by simp)
              simp only [List.getElem_cons_zero, List.getElem_cons_succ] at e0 e1 e2 e3 e4 e5
              have g0 := BL2.out.cell 0 (by simp)
              have g1 := BL2.out.cell 1 (by simp)
              simp only [List.getElem_cons_zero, List.getElem_cons_succ] at g0 g1
              cases q with
              | false =>
                have HR2 := Lib.hid (show pb = false from HBD.out (by rw [HLO.out]; rfl))
                go_wp2_with fail
                go_ret
                exact ⟨ret_bool HR2.out.symm, HB2.out⟩
              | true =>
                go_wp2_with fail
                refine (HFO.out _ HB2.out).mono ?_
                rintro e w3 ⟨rfl, hb⟩
                have HB3 := Lib.hid (belS HB2.out hb)
                have BL3 := Lib.hid (BL2.out.below hb)
                have BX3 := Lib.hid (BX2.out.below hb)
                clear hb
                clear e0 e1 e2 e3 e4 e5 g0 g1
                have g0 := BL3.out.cell 0 (by simp)
                have g1 := BL3.out.cell 1 (by simp)
                simp only [List.getElem_cons_zero, List.getElem_cons_succ] at g0 g1
                cases ob with
                | false =>
                  have HR2 := Lib.hid (show pb = false from HBD.out (by rw [HLO.out]; rfl))
                  go_wp2_with (first | (go_at_call 24; (with_reducible refine (HOF.out _).mono ?_); rintro e w' ⟨rfl, rfl⟩))
                  go_ret
                  exact ⟨ret_bool HR2.out.symm, HB3.out⟩
                | true =>
                  by_cases hc0 : z1 < 0
                  · skip
                    have HR2 := Lib.hid (show pb = false from HBD.out (by rw [HLO.out]; unfold cntB; rw [HCD.out]; simp [numB]; omega))
                    go_wp2_with (first | (go_at_call 24; (with_reducible refine (HOF.out _).mono ?_); rintro e w' ⟨rfl, rfl⟩))
                    go_ret
                    exact ⟨ret_bool HR2.out.symm, HB3.out⟩
                  · by_cases hc9 : 999 < z1
                    · skip
                      have HR2 := Lib.hid (show pb = false from HBD.out (by rw [HLO.out]; unfold cntB; rw [HCD.out]; simp [numB]; omega))
                      go_wp2_with (first | (go_at_call 24; (with_reducible refine (HOF.out _).mono ?_); rintro e w' ⟨rfl, rfl⟩))
                      go_ret
                      exact ⟨ret_bool HR2.out.symm, HB3.out⟩
                    · have HR2 := Lib.hid (HNX.out (by rw [HLO.out]; unfold cntB; rw [HCD.out]; simp [numB]; omega))
                      by_cases hcp : 0 < z1
                      · go_wp2_with (first | (go_at_call 24; (with_reducible refine (HOF.out _).mono ?_); rintro e w' ⟨rfl, rfl⟩))
                        exact ⟨⟨k + 1, by omega, by go_num, HR2.out, HB3.out, BX3.out⟩, by simp [intOf]; omega⟩
                      · go_wp2_with (first | (go_at_call 24; (with_reducible refine (HOF.out _).mono ?_); rintro e w' ⟨rfl, rfl⟩))
                        exact ⟨⟨k + 1, by omega, by go_num, HR2.out, HB3.out, BX3.out⟩, by simp [intOf]; omega⟩
            · have HCD := Lib.hid (show countedB z0 = false by simp [countedB, h0, h1])
              have k0 : (z0 == [99, 111, 117, 110, 116, 115]) = false := by simp [h0]
              have k1 : (z0 == [104, 101, 97, 114, 115]) = false := by simp [h1]
              clear h0 h1
              have e0 := BX1.out.cell 0 (by simp)
              have e1 := BX1.out.cell 1 (by simp)
              have e2 := BX1.out.cell 2 (by simp)
              have e3 := BX1.out.cell 3 (by simp)
              have e4 := BX1.out.cell 4 (by simp)
              have e5 := BX1.out.cell 5 (by simp)
              simp only [List.getElem_cons_zero, List.getElem_cons_succ] at e0 e1 e2 e3 e4 e5
              go_wp2_with fail
              refine (HLN.out _).mono ?_
              rintro e w2 ⟨rfl, hb⟩
              have HB2 := Lib.hid (belS HB1.out hb)
              have BL2 := Lib.hid (BL.out.below hb)
              have BX2 := Lib.hid (BX1.out.below hb)
              clear hb
              clear e0 e1 e2 e3 e4 e5
              have e0 := BX2.out.cell 0 (by simp)
              have e1 := BX2.out.cell 1 (by simp)
              have e2 := BX2.out.cell 2 (by simp)
              have e3 := BX2.out.cell 3 (by simp)
              have e4 := BX2.out.cell 4 (by simp)
              have e5 := BX2.out.cell 5 (by simp)
              simp only [List.getElem_cons_zero, List.getElem_cons_succ] at e0 e1 e2 e3 e4 e5
              have g0 := BL2.out.cell 0 (by simp)
              have g1 := BL2.out.cell 1 (by simp)
              simp only [List.getElem_cons_zero, List.getElem_cons_succ] at g0 g1
              cases q with
              | false =>
                have HR2 := Lib.hid (show pb = false from HBD.out (by rw [HLO.out]; rfl))
                go_wp2_with fail
                go_ret
                exact ⟨ret_bool HR2.out.symm, HB2.out⟩
              | true =>
                go_wp2_with fail
                refine (HFO.out _ HB2.out).mono ?_
                rintro e w3 ⟨rfl, hb⟩
                have HB3 := Lib.hid (belS HB2.out hb)
                have BL3 := Lib.hid (BL2.out.below hb)
                have BX3 := Lib.hid (BX2.out.below hb)
                clear hb
                clear e0 e1 e2 e3 e4 e5 g0 g1
                have g0 := BL3.out.cell 0 (by simp)
                have g1 := BL3.out.cell 1 (by simp)
                simp only [List.getElem_cons_zero, List.getElem_cons_succ] at g0 g1
                cases ob with
                | false =>
                  have HR2 := Lib.hid (show pb = false from HBD.out (by rw [HLO.out]; rfl))
                  go_wp2_with (first | (go_at_call 24; (with_reducible refine (HOF.out _).mono ?_); rintro e w' ⟨rfl, rfl⟩))
                  go_ret
                  exact ⟨ret_bool HR2.out.symm, HB3.out⟩
                | true =>
                  by_cases hc0 : z1 < 0
                  · skip
                    have HR2 := Lib.hid (show pb = false from HBD.out (by rw [HLO.out]; unfold cntB; rw [HCD.out]; simp; omega))
                    go_wp2_with (first | (go_at_call 24; (with_reducible refine (HOF.out _).mono ?_); rintro e w' ⟨rfl, rfl⟩))
                    go_ret
                    exact ⟨ret_bool HR2.out.symm, HB3.out⟩
                  · by_cases hc9 : 999 < z1
                    · skip
                      have HR2 := Lib.hid (show pb = false from HBD.out (by rw [HLO.out]; unfold cntB; rw [HCD.out]; simp; omega))
                      go_wp2_with (first | (go_at_call 24; (with_reducible refine (HOF.out _).mono ?_); rintro e w' ⟨rfl, rfl⟩))
                      go_ret
                      exact ⟨ret_bool HR2.out.symm, HB3.out⟩
                    · by_cases hcp : 0 < z1
                      · skip
                        have HR2 := Lib.hid (show pb = false from HBD.out (by rw [HLO.out]; unfold cntB; rw [HCD.out]; simp; omega))
                        go_wp2_with (first | (go_at_call 24; (with_reducible refine (HOF.out _).mono ?_); rintro e w' ⟨rfl, rfl⟩))
                        go_ret
                        exact ⟨ret_bool HR2.out.symm, HB3.out⟩
                      · have HR2 := Lib.hid (HNX.out (by rw [HLO.out]; unfold cntB; rw [HCD.out]; simp; omega))
                        go_wp2_with (first | (go_at_call 24; (with_reducible refine (HOF.out _).mono ?_); rintro e w' ⟨rfl, rfl⟩))
                        exact ⟨⟨k + 1, by omega, by go_num, HR2.out, HB3.out, BX3.out⟩, by simp [intOf]; omega⟩
        · have HR2 := Lib.hid (show pb = true by rw [HR.out]; have h := HT.out; rwa [show k = ls.length by omega] at h)
          go_wp2
          go_ret
          exact ⟨ret_bool HR2.out.symm, HBr.out⟩
end Go.Proofs.Ytlkpinlkbikokae
/- Contracts of chapter 3: the model's SameCore. -/
namespace Go.Proofs.Ytlkpinlkbikokae
set_option linter.unusedVariables false
open Go.RowKit
set_option maxRecDepth 100000 in
set_option maxHeartbeats 6400000 in
theorem specSame_b (v u : Value) (x y : CoreD) (q : Bool) (hq : decide (x = y) = q) (w : World) (hx : CoreAt w v x) (hy : CoreAt w u y) :
    Calls Try.prog 26 #[v, u] w fun e w' => e = .returned (.bool q) ∧ Below w.heap.size w w' := by
  obtain ⟨cv, rfl, hx⟩ := hx
  obtain ⟨cu, rfl, hy⟩ := hy
  have hex := coreD_ext x y
  obtain ⟨a0, a1, a2, a3, a4⟩ := x
  obtain ⟨b0, b1, b2, b3, b4⟩ := y
  unfold vCore
  simp only at *
  have B2 := Lib.hid (show ∀ o1 o2, Below w.heap.size w ((w.alloc o1).alloc o2) from fun o1 o2 => ((Below.refl _ _).alloc (Nat.le_refl _) _).alloc (by simp) _)
  have HX := Lib.hid hx
  have HY := Lib.hid hy
  have HN := Lib.hid (show ¬ (a0 = b0 ∧ a1 = b1 ∧ a2 = b2 ∧ a3 = b3 ∧ a4 = b4) → false = q from fun h => by rw [← hq]; symm; rw [decide_eq_false_iff_not, hex]; exact h)
  have HQ := Lib.hid (show a0 = b0 → a1 = b1 → a2 = b2 → a4 = b4 → decide (a3 = b3) = q from fun h0 h1 h2 h4 => by
    rw [← hq]
    by_cases h3 : a3 = b3
    · rw [decide_eq_true h3, decide_eq_true (hex.2 ⟨h0, h1, h2, h3, h4⟩)]
    · rw [decide_eq_false h3, decide_eq_false (fun e => h3 (hex.1 e).2.2.2.1)])
  obtain ⟨pa, pc, rfl, hla⟩ := flatAt_len hx
  obtain ⟨qa, qc, rfl, hlb⟩ := flatAt_len hy
  unfold maxLen at hla hlb
  clear hx hy hq hex
  by_cases h0 : a0 = b0
  case neg =>
    have HF := Lib.hid (HN.out fun e => h0 e.1)
    have hne : (a0 == b0) = false := by simpa using h0
    have hnf : (a0 != b0) = true := by simpa using h0
    clear h0
    go_enter Try.func26, Try.ntmps26
    go_wp2_with fail
    go_ret
    exact ⟨ret_bool HF.out, B2.out _ _⟩
  case pos =>
    by_cases h1 : a1 = b1
    case neg =>
      have HF := Lib.hid (HN.out fun e => h1 e.2.1)
      subst h0
      cases a1 <;> cases b1
      all_goals first
        | exact absurd rfl h1
        | (clear h1
           go_enter Try.func26, Try.ntmps26
           go_wp2_with fail
           go_ret
           exact ⟨ret_bool HF.out, B2.out _ _⟩)
    case pos =>
      by_cases h2 : a2 = b2
      case neg =>
        have HF := Lib.hid (HN.out fun e => h2 e.2.2.1)
        subst h0 h1
        cases a1 <;> cases a2 <;> cases b2
        all_goals first
          | exact absurd rfl h2
          | (clear h2
             go_enter Try.func26, Try.ntmps26
             go_wp2_with fail
             go_ret
             exact ⟨ret_bool HF.out, B2.out _ _⟩)
      case pos =>
        by_cases h4 : a4 = b4
        case neg =>
          have HF := Lib.hid (HN.out fun e => h4 e.2.2.2.2)
          have hne : (a4 == b4) = false := by simpa using h4
          have hnf : (a4 != b4) = true := by simpa using h4
          subst h0 h1 h2
          clear h4
          cases a1 <;> cases a2
          all_goals
            go_enter Try.func26, Try.ntmps26
            go_wp2_with fail
            go_ret
            exact ⟨ret_bool HF.out, B2.out _ _⟩
        case pos =>
          have HF := Lib.hid (HQ.out h0 h1 h2 h4)
          subst h0 h1 h2 h4
          by_cases hl : a3.length = b3.length
          case neg =>
            have hb : ((a3.length : Int) == b3.length) = false := beq_eq_false_iff_ne.2 (by omega)
            have hbn : ((a3.length : Int) != b3.length) = true := by rw [bne_iff_ne]; omega
            rw [show decide (a3 = b3) = false from decide_eq_false (fun e => hl (by rw [e]))] at HF
            clear hl
            cases a1 <;> cases a2
            all_goals
              go_enter Try.func26, Try.ntmps26
              go_wp2_with fail
              go_ret
              exact ⟨ret_bool HF.out, B2.out _ _⟩
          case pos =>
            have hb : ((a3.length : Int) == b3.length) = true := beq_iff_eq.2 (by omega)
            have hbn : ((a3.length : Int) != b3.length) = false := by rw [bne_eq_false_iff_eq]; omega
            have HE := Lib.hid hl
            clear hl
            cases a1 <;> cases a2
            all_goals
              go_enter Try.func26, Try.ntmps26
              go_wp2_with fail
              go_loopw [5, 44] (fun _ i wr => ∃ k : Nat, k ≤ a3.length ∧ i = .int .i64 k ∧ a3.take k = b3.take k ∧ Below w.heap.size w wr ∧ wr.cell? ⟨w.heap.size, 3, none⟩ = some (.slice pa a3.length pc) ∧ wr.cell? ⟨w.heap.size + 1, 3, none⟩ = some (.slice qa b3.length qc)) (fun _ i _ => a3.length - (intOf i).toNat)
              case atStart => exact ⟨0, Nat.zero_le _, rfl, rfl, B2.out _ _, by simp, by simp⟩
              case round =>
                obtain ⟨k, hk, rfl, ht, hbr, hc1, hc2⟩ := hrel
                have HT := Lib.hid ht
                have HB := Lib.hid hbr
                have HC := Lib.hid (show _ ∧ _ from ⟨hc1, hc2⟩)
                have HXr := Lib.hid (FlatAt.below HX.out hbr (Nat.le_refl _))
                have HYr := Lib.hid (FlatAt.below HY.out hbr (Nat.le_refl _))
                clear ht hbr
                by_cases hlt : k < a3.length
                · have hky : k < b3.length := by have := HE.out; omega
                  obtain ⟨b, o, rfl, _, hd⟩ := flatAt_cell cCell_len HXr.out k hlt (by decide)
                  obtain ⟨b', o2, rfl, _, hd2⟩ := flatAt_cell cCell_len HYr.out k hky (by decide)
                  have d0 := hd 0 (by decide)
                  have d1 := hd 1 (by decide)
                  have q0 := hd2 0 (by decide)
                  have q1 := hd2 1 (by decide)
                  clear hd hd2
                  have HS := Lib.hid (take_eq_step a3 b3 HE.out k hlt HT.out)
                  have HD := Lib.hid (show a3[k] ≠ b3[k] → ¬ a3 = b3 from fun h e => h (by subst e; rfl))
                  generalize a3[k] = p at *
                  generalize b3[k] = r at *
                  obtain ⟨e0, e1⟩ := p
                  obtain ⟨f0, f1⟩ := r
                  simp only [cCell, List.getElem?_cons_zero, List.getElem?_cons_succ, Nat.add_zero] at d0 d1 q0 q1
                  have hk0 : (0 : Int) ≤ (k : Int) := by omega
                  have hk1 : (k : Int) < (a3.length : Int) := by omega
                  have hk2 : (k : Int) < (b3.length : Int) := by omega
                  by_cases heq : (⟨e0, e1⟩ : CellD) = ⟨f0, f1⟩
                  · have HN2 := Lib.hid (HS.out heq)
                    injection heq with g0 g1
                    subst g0 g1
                    clear HS HD
                    go_wp2
                    go_quiet (fail)
                    go_wp2_with fail
                    exact ⟨⟨k + 1, by omega, by go_num, HN2.out, belE HB.out _, HC.out.1, HC.out.2⟩, by simp [intOf]; omega⟩
                  · have HN2 := Lib.hid (show decide (a3 = b3) = false from decide_eq_false (HD.out heq))
                    by_cases g0 : e0 = f0
                    · have g1 : ¬ e1 = f1 := fun e => heq (by rw [g0, e])
                      have hn1 : (e1 == f1) = false := by simpa using g1
                      subst g0
                      clear HS HD heq g1
                      go_wp2
                      go_quiet (fail)
                      go_wp2_with fail
                      go_ret
                      exact ⟨ret_bool (by rw [← HF.out, HN2.out]), belE HB.out _⟩
                    · have hn0 : (e0 == f0) = false := by simpa using g0
                      clear HS HD heq g0
                      go_wp2
                      go_quiet (fail)
                      go_wp2_with fail
                      go_ret
                      exact ⟨ret_bool (by rw [← HF.out, HN2.out]), belE HB.out _⟩
                · have HN2 := Lib.hid (show decide (a3 = b3) = true from decide_eq_true (by
                    have h := HT.out
                    rw [List.take_of_length_le (by omega), List.take_of_length_le (by have := HE.out; omega)] at h
                    exact h))
                  go_wp2
                  go_ret
                  exact ⟨ret_bool (by rw [← HF.out, HN2.out]), HB.out⟩
theorem specSame_any (v u : Value) (x y : CoreD) (w : World) (hx : CoreAt w v x) (hy : CoreAt w u y) :
    Calls Try.prog 26 #[v, u] w fun e w' => e = .returned (.bool (decide (x = y))) ∧ Below w.heap.size w w' := specSame_b v u x y _ rfl w hx hy
end Go.Proofs.Ytlkpinlkbikokae
/- Contracts of chapter 4: SamePart, the model's. -/
namespace Go.Proofs.Ytlkpinlkbikokae
set_option linter.unusedVariables false
set_option linter.unusedSimpArgs false
open Go.RowKit
set_option maxRecDepth 100000 in
set_option maxHeartbeats 3200000 in
theorem specSamePart_any (v u : Value) (x y : PartD) (w : World) (hx : ValAt rPart 0 w v x) (hy : ValAt rPart 0 w u y) :
    Calls Try.prog 14 #[v, u] w fun e w' => e = .returned (.bool (decide (x = y))) ∧ Below w.heap.size w w' := by
  rw [part_eq]
  obtain ⟨_, rfl, hx⟩ := hx
  obtain ⟨_, rfl, hy⟩ := hy
  obtain ⟨⟨a0, a1, a2, a3, a4⟩, ls⟩ := x
  obtain ⟨⟨b0, b1, b2, b3, b4⟩, ms⟩ := y
  obtain ⟨v3, v5, rfl, h3, h5⟩ := hx
  obtain ⟨u3, u5, rfl, k3, k5⟩ := hy
  simp only at h3 h5 k3 k5 ⊢
  have HC := Lib.hid (fun w1 (hw : Below w.heap.size w w1) => specSame_any (.agg #[.string ⟨a0.toArray⟩, .bool a1, .bool a2, v3, .int .i64 a4]) (.agg #[.string ⟨b0.toArray⟩, .bool b1, .bool b2, u3, .int .i64 b4]) ⟨a0, a1, a2, a3, a4⟩ ⟨b0, b1, b2, b3, b4⟩ w1 ⟨v3, rfl, (flatAt_of_slice cCell_len (by decide) h3).below hw (Nat.le_refl _)⟩ ⟨u3, rfl, (flatAt_of_slice cCell_len (by decide) k3).below hw (Nat.le_refl _)⟩)
  have HX := Lib.hid (flatAt_of_slice cLayer_len (by decide) h5)
  have HY := Lib.hid (flatAt_of_slice cLayer_len (by decide) k5)
  obtain ⟨ra, rc, rfl, _⟩ := sliceAt_len h3
  obtain ⟨sa, sc, rfl, hla⟩ := sliceAt_len h5
  obtain ⟨pa, pc, rfl, _⟩ := sliceAt_len k3
  obtain ⟨qa, qc, rfl, hlb⟩ := sliceAt_len k5
  unfold maxLen at hla hlb
  have HS := Lib.hid (bx_start2 w [.string ⟨a0.toArray⟩, .bool a1, .bool a2, .slice ra a3.length rc, .int .i64 a4, .slice sa ls.length sc] [.string ⟨b0.toArray⟩, .bool b1, .bool b2, .slice pa b3.length pc, .int .i64 b4, .slice qa ms.length qc] 44 44)
  generalize decide ((⟨a0, a1, a2, a3, a4⟩ : CoreD) = ⟨b0, b1, b2, b3, b4⟩) = p at *
  clear h3 h5 k3 k5
  cases p with
  | false =>
    go_enter Try.func14, Try.ntmps14
    go_wp2_with fail
    refine (HC.out _ HS.out.2.2).mono ?_
    rintro e w1 ⟨rfl, hb⟩
    have HB := Lib.hid (belS (w := w) HS.out.2.2 hb)
    clear hb
    go_wp2_with fail
    go_ret
    exact ⟨rfl, HB.out⟩
  | true =>
    by_cases hl : ls.length = ms.length
    case neg =>
      have hb2 : ((ls.length : Int) == ms.length) = false := beq_eq_false_iff_ne.2 (by omega)
      have hbn : ((ls.length : Int) != ms.length) = true := by rw [bne_iff_ne]; omega
      have HF := Lib.hid (show decide (ls = ms) = false from decide_eq_false (fun e => hl (by rw [e])))
      rw [HF.out]
      clear hl
      go_enter Try.func14, Try.ntmps14
      go_wp2_with fail
      refine (HC.out _ HS.out.2.2).mono ?_
      rintro e w1 ⟨rfl, hb⟩
      have HB := Lib.hid (belS (w := w) HS.out.2.2 hb)
      have BA := Lib.hid (HS.out.1.below hb)
      have BB := Lib.hid (HS.out.2.1.below hb)
      clear hb
      have eA := BA.out.cell 5 (by simp)
      have eB := BB.out.cell 5 (by simp)
      simp only [List.getElem_cons_zero, List.getElem_cons_succ] at eA eB
      go_wp2_with fail
      go_ret
      exact ⟨rfl, HB.out⟩
    case pos =>
      have hb2 : ((ls.length : Int) == ms.length) = true := beq_iff_eq.2 (by omega)
      have hbn : ((ls.length : Int) != ms.length) = false := by rw [bne_eq_false_iff_eq]; omega
      have HE := Lib.hid hl
      clear hl
      go_enter Try.func14, Try.ntmps14
      go_wp2_with fail
      refine (HC.out _ HS.out.2.2).mono ?_
      rintro e w1 ⟨rfl, hb⟩
      have HB0 := Lib.hid (belS (w := w) HS.out.2.2 hb)
      have BA := Lib.hid (HS.out.1.below hb)
      have BB := Lib.hid (HS.out.2.1.below hb)
      clear hb
      have eA := BA.out.cell 5 (by simp)
      have eB := BB.out.cell 5 (by simp)
      simp only [List.getElem_cons_zero, List.getElem_cons_succ] at eA eB
      have HAB := Lib.hid (show _ ∧ _ from ⟨eA, eB⟩)
      go_wp2_with fail
      clear eA eB
      go_loopw [5, 24] (fun _ i wr => ∃ k : Nat, k ≤ ls.length ∧ i = .int .i64 k ∧ ls.take k = ms.take k ∧ Below w.heap.size w wr ∧ wr.cell? ⟨w.heap.size, 5, none⟩ = some (.slice sa ls.length sc) ∧ wr.cell? ⟨w.heap.size + 1, 5, none⟩ = some (.slice qa ms.length qc)) (fun _ i _ => ls.length - (intOf i).toNat)
      case atStart => exact ⟨0, Nat.zero_le _, rfl, rfl, HB0.out, HAB.out.1, HAB.out.2⟩
      case round =>
        obtain ⟨k, hk, rfl, ht, hbr, hc1, hc2⟩ := hrel
        have HT := Lib.hid ht
        have HB := Lib.hid hbr
        have HCC := Lib.hid (show _ ∧ _ from ⟨hc1, hc2⟩)
        have HXr := Lib.hid (FlatAt.below HX.out hbr (Nat.le_refl _))
        have HYr := Lib.hid (FlatAt.below HY.out hbr (Nat.le_refl _))
        clear ht hbr
        by_cases hlt : k < ls.length
        · have hky : k < ms.length := by have := HE.out; omega
          obtain ⟨b, o, rfl, _, hd⟩ := flatAt_cell cLayer_len HXr.out k hlt (by decide)
          obtain ⟨b', o2, rfl, _, hd2⟩ := flatAt_cell cLayer_len HYr.out k hky (by decide)
          have d0 := hd 0 (by decide)
          have d1 := hd 1 (by decide)
          have q0 := hd2 0 (by decide)
          have q1 := hd2 1 (by decide)
          clear hd hd2
          have HSS := Lib.hid (take_eq_step ls ms HE.out k hlt HT.out)
          have HD := Lib.hid (show ls[k] ≠ ms[k] → ¬ ls = ms from fun h e => h (by subst e; rfl))
          generalize ls[k] = p at *
          generalize ms[k] = r at *
          obtain ⟨e0, e1⟩ := p
          obtain ⟨f0, f1⟩ := r
          simp only [cLayer, List.getElem?_cons_zero, List.getElem?_cons_succ, Nat.add_zero] at d0 d1 q0 q1
          have hk0 : (0 : Int) ≤ (k : Int) := by omega
          have hk1 : (k : Int) < (ls.length : Int) := by omega
          have hk2 : (k : Int) < (ms.length : Int) := by omega
          by_cases heq : (⟨e0, e1⟩ : LayerD) = ⟨f0, f1⟩
          · have HN2 := Lib.hid (HSS.out heq)
            injection heq with g0 g1
            subst g0 g1
            clear HSS HD
            go_wp2
            go_quiet (fail)
            go_wp2_with fail
            exact ⟨⟨k + 1, by omega, by go_num, HN2.out, belE HB.out _, HCC.out.1, HCC.out.2⟩, by simp [intOf]; omega⟩
          · have HN2 := Lib.hid (show decide (ls = ms) = false from decide_eq_false (HD.out heq))
            by_cases g0 : e0 = f0
            · have g1 : ¬ e1 = f1 := fun e => heq (by rw [g0, e])
              have hn1 : (e1 == f1) = false := by simpa using g1
              subst g0
              clear HSS HD heq g1
              go_wp2
              go_quiet (fail)
              go_wp2_with fail
              go_ret
              exact ⟨ret_bool (by rw [HN2.out]; rfl), belE HB.out _⟩
            · have hn0 : (e0 == f0) = false := by simpa using g0
              clear HSS HD heq g0
              go_wp2
              go_quiet (fail)
              go_wp2_with fail
              go_ret
              exact ⟨ret_bool (by rw [HN2.out]; rfl), belE HB.out _⟩
        · have HN2 := Lib.hid (show decide (ls = ms) = true from decide_eq_true (by
            have h := HT.out
            rw [List.take_of_length_le (by omega), List.take_of_length_le (by have := HE.out; omega)] at h
            exact h))
          go_wp2
          go_ret
          exact ⟨ret_bool (by rw [HN2.out]; rfl), HB.out⟩
end Go.Proofs.Ytlkpinlkbikokae
/- Contracts of chapter 8: IsSlots, the model's. Written by gen/ch8t.py. -/
namespace Go.Proofs.Ytlkpinlkbikokae
set_option linter.unusedVariables false
set_option linter.unusedSimpArgs false
open Go.RowKit
set_option maxRecDepth 100000 in
set_option maxHeartbeats 3200000 in
theorem specIsSlots_any (v : Value) (l : List SlotD) (w : World) (hx : SliceAt rSlot 7 0 w v l) (hk : ∀ x ∈ l, ∀ c ∈ x.fPart.fCore.fCells, c.fKey.length ≤ maxLen) :
    Calls Try.prog 6 #[v] w fun e w' => e = .returned (.bool (decide (l.length = 3) && l.all slotOk)) ∧ Below w.heap.size w w' := by
  obtain ⟨a, c, rfl, hl⟩ := sliceAt_len hx
  have HX := Lib.hid hx
  have HK := Lib.hid hk
  unfold maxLen at hl
  clear hx hk
  generalize hres : (decide (l.length = 3) && l.all slotOk) = res
  generalize hlo : decide (l.length = 3) = lo
  have HRES := Lib.hid (show res = ((l.drop 0).all slotOk && lo) by rw [← hres, ← hlo]; exact Bool.and_comm _ _)
  have HLO := Lib.hid hlo
  clear hres hlo
  go_enter Try.func6, Try.ntmps6
  go_wp2_with fail
  go_loopw [4, 7] (fun _ i wr => ∃ k : Nat, k ≤ l.length ∧ i = .int .i64 k ∧ res = ((l.drop k).all slotOk && lo) ∧ Below w.heap.size w wr) (fun _ i _ => l.length - (intOf i).toNat)
  case atStart => exact ⟨0, Nat.zero_le _, rfl, HRES.out, Below.refl _ _⟩
  case round =>
    obtain ⟨k, hk, rfl, hres, hbr⟩ := hrel
    have HRS := Lib.hid hres
    have HBr := Lib.hid hbr
    have HXr := Lib.hid (SliceAt.below HX.out goodSlot hbr (Nat.le_refl _))
    clear hres hbr
    by_cases hlt : k < l.length
    · obtain ⟨b, o, cs, rfl, hbw, hat, hd⟩ := sliceAt_cell HXr.out k hlt
      have HM := Lib.hid (HK.out _ (List.getElem_mem hlt))
      have HDR := Lib.hid (show l.drop k = l[k] :: l.drop (k + 1) from List.drop_eq_getElem_cons hlt)
      generalize l[k] = x at *
      have hx := hat
      have hk := HM.out
      obtain ⟨f, ⟨⟨a0, a1, a2, a3, a4⟩, ls⟩⟩ := x
      obtain ⟨v4, v6, rfl, h4, h6⟩ := hx
      simp only at h4 h6
      obtain ⟨ra, rc, rfl, _⟩ := sliceAt_len h4
      obtain ⟨sa, sc, rfl, _⟩ := sliceAt_len h6
      simp only at hk
      have HIP := Lib.hid (fun cs W (h : rPart 0 W cs (⟨⟨a0, a1, a2, a3, a4⟩, ls⟩ : PartD)) => specIsPart_any (.agg cs.toArray) (⟨⟨a0, a1, a2, a3, a4⟩, ls⟩ : PartD) W ⟨cs, rfl, h⟩ hk)
      have HSP := Lib.hid (fun cs W (h : rPart 0 W cs (⟨⟨a0, a1, a2, a3, a4⟩, ls⟩ : PartD)) => specSamePart_any (.agg cs.toArray) (.agg #[.string ⟨#[]⟩, .bool false, .bool false, .slice none 0 0, .int .i64 0, .slice none 0 0]) (⟨⟨a0, a1, a2, a3, a4⟩, ls⟩ : PartD) zPt W ⟨cs, rfl, h⟩ (zPt_at W))
      have HPX := Lib.hid (fun W (hb : Below wr.heap.size wr W) => goodPart.keep (show rPart 0 wr [.string ⟨a0.toArray⟩, .bool a1, .bool a2, .slice ra a3.length rc, .int .i64 a4, .slice sa ls.length sc] (⟨⟨a0, a1, a2, a3, a4⟩, ls⟩ : PartD) from ⟨_, _, rfl, h4, h6⟩) (kept_below hb (Nat.le_refl _)))
      have d0 := hd 0 (by decide)
      have d1 := hd 1 (by decide)
      have d2 := hd 2 (by decide)
      have d3 := hd 3 (by decide)
      have d4 := hd 4 (by decide)
      have d5 := hd 5 (by decide)
      have d6 := hd 6 (by decide)
      simp only [List.getElem?_cons_zero, List.getElem?_cons_succ, Nat.add_zero] at d0 d1 d2 d3 d4 d5 d6
      have HRS2 := Lib.hid (show res = ((slotOk ⟨f, (⟨⟨a0, a1, a2, a3, a4⟩, ls⟩ : PartD)⟩ && (l.drop (k + 1)).all slotOk) && lo) by rw [HRS.out, HDR.out]; rfl)
      have BE := Lib.hid (Bx.new wr [.bool f, .string ⟨a0.toArray⟩, .bool a1, .bool a2, .slice ra a3.length rc, .int .i64 a4, .slice sa ls.length sc] 46)
      have HBN := Lib.hid (belS HBr.out (bx_box wr (.cells #[.bool f, .string ⟨a0.toArray⟩, .bool a1, .bool a2, .slice ra a3.length rc, .int .i64 a4, .slice sa ls.length sc] 46)))
      have hkl : (k : Int) < (l.length : Int) := by omega
      clear hd h4 h6 hat hk HM HRS HDR
      unfold slotOk at HRS2
      simp only at HRS2
      cases f
      · replace HRS2 := Lib.hid (show res = ((decide ((⟨⟨a0, a1, a2, a3, a4⟩, ls⟩ : PartD) = zPt) && (l.drop (k + 1)).all slotOk) && lo) from HRS2.out)
        generalize decide ((⟨⟨a0, a1, a2, a3, a4⟩, ls⟩ : PartD) = zPt) = pb at *
        cases pb
        · obtain rfl : res = false := by rw [HRS2.out]; simp
          clear HRS2
          have e0 := BE.out.cell 0 (by simp)
          have e1 := BE.out.cell 1 (by simp)
          have e2 := BE.out.cell 2 (by simp)
          have e3 := BE.out.cell 3 (by simp)
          have e4 := BE.out.cell 4 (by simp)
          have e5 := BE.out.cell 5 (by simp)
          have e6 := BE.out.cell 6 (by simp)
          simp only [List.getElem_cons_zero, List.getElem_cons_succ] at e0 e1 e2 e3 e4 e5 e6
          go_wp2_with fail
          refine (HSP.out _ _ (HPX.out _ (bx_box wr _))).mono ?_
          rintro e w2 ⟨rfl, hb⟩
          have HB2 := Lib.hid (belS HBN.out hb)
          have BE2 := Lib.hid (BE.out.below hb)
          clear hb e0 e1 e2 e3 e4 e5 e6
          have e0 := BE2.out.cell 0 (by simp)
          have e1 := BE2.out.cell 1 (by simp)
          have e2 := BE2.out.cell 2 (by simp)
          have e3 := BE2.out.cell 3 (by simp)
          have e4 := BE2.out.cell 4 (by simp)
          have e5 := BE2.out.cell 5 (by simp)
          have e6 := BE2.out.cell 6 (by simp)
          simp only [List.getElem_cons_zero, List.getElem_cons_succ] at e0 e1 e2 e3 e4 e5 e6
          go_wp2_with fail
          go_ret
          exact ⟨rfl, HB2.out⟩
        · have HR3 := Lib.hid (show res = ((l.drop (k + 1)).all slotOk && lo) by rw [HRS2.out]; rfl)
          clear HRS2
          have e0 := BE.out.cell 0 (by simp)
          have e1 := BE.out.cell 1 (by simp)
          have e2 := BE.out.cell 2 (by simp)
          have e3 := BE.out.cell 3 (by simp)
          have e4 := BE.out.cell 4 (by simp)
          have e5 := BE.out.cell 5 (by simp)
          have e6 := BE.out.cell 6 (by simp)
          simp only [List.getElem_cons_zero, List.getElem_cons_succ] at e0 e1 e2 e3 e4 e5 e6
          go_wp2_with fail
          refine (HSP.out _ _ (HPX.out _ (bx_box wr _))).mono ?_
          rintro e w2 ⟨rfl, hb⟩
          have HB2 := Lib.hid (belS HBN.out hb)
          have BE2 := Lib.hid (BE.out.below hb)
          clear hb e0 e1 e2 e3 e4 e5 e6
          have e0 := BE2.out.cell 0 (by simp)
          have e1 := BE2.out.cell 1 (by simp)
          have e2 := BE2.out.cell 2 (by simp)
          have e3 := BE2.out.cell 3 (by simp)
          have e4 := BE2.out.cell 4 (by simp)
          have e5 := BE2.out.cell 5 (by simp)
          have e6 := BE2.out.cell 6 (by simp)
          simp only [List.getElem_cons_zero, List.getElem_cons_succ] at e0 e1 e2 e3 e4 e5 e6
          go_wp2_with fail
          exact ⟨⟨k + 1, by omega, by go_num, HR3.out, HB2.out⟩, by simp [intOf]; omega⟩
      · replace HRS2 := Lib.hid (show res = ((partB (⟨⟨a0, a1, a2, a3, a4⟩, ls⟩ : PartD) && (l.drop (k + 1)).all slotOk) && lo) from HRS2.out)
        generalize partB (⟨⟨a0, a1, a2, a3, a4⟩, ls⟩ : PartD) = pb at *
        cases pb
        · obtain rfl : res = false := by rw [HRS2.out]; simp
          clear HRS2
          have e0 := BE.out.cell 0 (by simp)
          have e1 := BE.out.cell 1 (by simp)
          have e2 := BE.out.cell 2 (by simp)
          have e3 := BE.out.cell 3 (by simp)
          have e4 := BE.out.cell 4 (by simp)
          have e5 := BE.out.cell 5 (by simp)
          have e6 := BE.out.cell 6 (by simp)
          simp only [List.getElem_cons_zero, List.getElem_cons_succ] at e0 e1 e2 e3 e4 e5 e6
          go_wp2_with fail
          refine (HIP.out _ _ (HPX.out _ (bx_box wr _))).mono ?_
          rintro e w2 ⟨rfl, hb⟩
          have HB2 := Lib.hid (belS HBN.out hb)
          have BE2 := Lib.hid (BE.out.below hb)
          clear hb e0 e1 e2 e3 e4 e5 e6
          have e0 := BE2.out.cell 0 (by simp)
          have e1 := BE2.out.cell 1 (by simp)
          have e2 := BE2.out.cell 2 (by simp)
          have e3 := BE2.out.cell 3 (by simp)
          have e4 := BE2.out.cell 4 (by simp)
          have e5 := BE2.out.cell 5 (by simp)
          have e6 := BE2.out.cell 6 (by simp)
          simp only [List.getElem_cons_zero, List.getElem_cons_succ] at e0 e1 e2 e3 e4 e5 e6
          go_wp2_with fail
          go_ret
          exact ⟨rfl, HB2.out⟩
        · have HR3 := Lib.hid (show res = ((l.drop (k + 1)).all slotOk && lo) by rw [HRS2.out]; rfl)
          clear HRS2
          have e0 := BE.out.cell 0 (by simp)
          have e1 := BE.out.cell 1 (by simp)
          have e2 := BE.out.cell 2 (by simp)
          have e3 := BE.out.cell 3 (by simp)
          have e4 := BE.out.cell 4 (by simp)
          have e5 := BE.out.cell 5 (by simp)
          have e6 := BE.out.cell 6 (by simp)
          simp only [List.getElem_cons_zero, List.getElem_cons_succ] at e0 e1 e2 e3 e4 e5 e6
          go_wp2_with fail
          refine (HIP.out _ _ (HPX.out _ (bx_box wr _))).mono ?_
          rintro e w2 ⟨rfl, hb⟩
          have HB2 := Lib.hid (belS HBN.out hb)
          have BE2 := Lib.hid (BE.out.below hb)
          clear hb e0 e1 e2 e3 e4 e5 e6
          have e0 := BE2.out.cell 0 (by simp)
          have e1 := BE2.out.cell 1 (by simp)
          have e2 := BE2.out.cell 2 (by simp)
          have e3 := BE2.out.cell 3 (by simp)
          have e4 := BE2.out.cell 4 (by simp)
          have e5 := BE2.out.cell 5 (by simp)
          have e6 := BE2.out.cell 6 (by simp)
          simp only [List.getElem_cons_zero, List.getElem_cons_succ] at e0 e1 e2 e3 e4 e5 e6
          go_wp2_with fail
          exact ⟨⟨k + 1, by omega, by go_num, HR3.out, HB2.out⟩, by simp [intOf]; omega⟩
    · have hkl : ¬ (k : Int) < (l.length : Int) := by omega
      obtain rfl : res = lo := by rw [HRS.out, List.drop_eq_nil_of_le (by omega)]; rfl
      cases res
      · have hb3 : ((l.length : Int) == 3) = false := by have h := of_decide_eq_false HLO.out; rw [beq_eq_false_iff_ne]; omega
        go_wp2_with fail
        go_ret
        exact ⟨by first | rfl | exact ret_bool hb3, HBr.out⟩
      · have hb3 : ((l.length : Int) == 3) = true := by have h := of_decide_eq_true HLO.out; rw [h]; rfl
        go_wp2_with fail
        go_ret
        exact ⟨by first | rfl | exact ret_bool hb3, HBr.out⟩
end Go.Proofs.Ytlkpinlkbikokae
/- Arguments opened: structs by value, slices of structs. -/
namespace Go.Proofs.Ytlkpinlkbikokae
set_option linter.unusedVariables false
open Go.ChangeShapes Go.WideShapes Go.ChangeAt Go.RowKit Go.WideMaps Go.WideElems
open Go.Deep
section
variable {H : Type} {enc : TypeId × Value → H} {P : Program} {W : World}
theorem leaf_str {n : Nat} {t : TypeId} {c : Value} {x : DataW H × List MemPlace} (ht : P.underlying t = some .string) (h : DataW.trod enc P W 0 (fun _ => true) true n t [c] = some x) : ∃ l : List UInt8, c = .string ⟨l.toArray⟩ ∧ l.length ≤ maxLen := by
  obtain ⟨s, h1, _, h3⟩ := DataW.trod_string ht h
  injection h1 with h1
  exact ⟨s.data.toList, by rw [h1], by rw [Array.length_toList]; exact h3⟩
theorem leaf_int {n : Nat} {t : TypeId} {c : Value} {x : DataW H × List MemPlace} (ht : P.underlying t = some (.int .i64)) (h : DataW.trod enc P W 0 (fun _ => true) true n t [c] = some x) : ∃ z : Int, c = .int .i64 z ∧ -9223372036854775808 ≤ z ∧ z ≤ 9223372036854775807 := by
  obtain ⟨z, h1, _, h3⟩ := DataW.trod_int ht h
  injection h1 with h1
  exact ⟨z, h1, bounds_i64 h3⟩
theorem leaf_bool {n : Nat} {t : TypeId} {c : Value} {x : DataW H × List MemPlace} (ht : P.underlying t = some .bool) (h : DataW.trod enc P W 0 (fun _ => true) true n t [c] = some x) : ∃ b : Bool, c = .bool b := by
  obtain ⟨b, h1, _⟩ := DataW.trod_bool ht h
  injection h1 with h1
  exact ⟨b, h1⟩
theorem field_at {fs : Array Field} {n : Nat} {cs : List Value} {xs : List (DataW H × List MemPlace)} (hl : xs.length = fs.size)
    (hf : ∀ (i : Nat) (f : Field), fs[i]? = some f → DataW.trod enc P W 0 (fun _ => true) true n f.type ((cs.drop f.offset).take (P.cellsOf f.type)) = xs[i]?) (i : Nat) (f : Field) (h : fs[i]? = some f) :
    ∃ x, DataW.trod enc P W 0 (fun _ => true) true n f.type ((cs.drop f.offset).take (P.cellsOf f.type)) = some x := by
  have hi : i < fs.size := (Array.getElem?_eq_some_iff.1 h).1
  exact ⟨xs[i]'(by omega), by rw [hf i f h, List.getElem?_eq_getElem]⟩
theorem field_one {fs : Array Field} {n : Nat} {cs : List Value} {xs : List (DataW H × List MemPlace)} (hl : xs.length = fs.size)
    (hf : ∀ (i : Nat) (f : Field), fs[i]? = some f → DataW.trod enc P W 0 (fun _ => true) true n f.type ((cs.drop f.offset).take (P.cellsOf f.type)) = xs[i]?) (i : Nat) (f : Field) (T o : Nat) (c : Value) (r : List Value) (h : fs[i]? = some f) (hT : f.type = T) (ho : f.offset = o) (hc : P.cellsOf T = 1) (hd : cs.drop o = c :: r) :
    ∃ x, DataW.trod enc P W 0 (fun _ => true) true n T [c] = some x := by
  obtain ⟨x, hx⟩ := field_at hl hf i f h
  subst hT; subst ho
  rw [hc, hd] at hx
  exact ⟨x, hx⟩
/-- a slice of structs of texts and numbers -/
theorem open_flat {α : Type} [Inhabited α] {f : α → List Value} {k : Nat} {G : α → Prop} (hk : ∀ x, (f x).length = k) (hk0 : 0 < k) {t e : TypeId} {n : Nat} {v : Value} {x : DataW H × List MemPlace} (ht : P.underlying t = some (.slice e)) (hc : P.cellsOf e = k)
    (hel : ∀ n cs x, DataW.trod enc P W 0 (fun _ => true) true n e cs = some x → ∃ d, cs = f d ∧ G d) (h : DataW.trod enc P W 0 (fun _ => true) true n t [v] = some x) :
    ∃ l : List α, FlatAt f k W v l ∧ ∀ d ∈ l, G d := by
  rcases open_slice ht h with ⟨h0, _⟩ | ⟨a, len, cap, m, n', D, Pl, hcs, _, hl, hm, hmm, _, hx⟩
  · injection h0 with h0
    subst h0
    exact ⟨[], ⟨none, 0, rfl, by simp, Nat.zero_le _, Or.inl rfl⟩, by simp⟩
  · injection hcs with hcs
    subst hcs
    simp only [if_true] at hmm
    subst hmm
    obtain ⟨F, hF⟩ := choose_lt (α := α) (p := fun i d => (∀ j, j < k → W.cell? ((a.add (i * k)).add j) = (f d)[j]?) ∧ G d) (n := m) (fun i hi => by
      obtain ⟨cs', h1, h2⟩ := hx i hi
      obtain ⟨d, rfl, hg⟩ := hel _ _ _ h2
      rw [hc] at h1
      obtain ⟨_, _, h3⟩ := World.cells?_some h1
      exact ⟨d, h3, hg⟩)
    refine ⟨(List.range len).map F, ?_, ?_⟩
    · obtain ⟨ab, ao, spot⟩ := a
      refine ⟨some ⟨ab, ao, spot⟩, m - len, by simp; omega, by rw [flat_len f k hk, List.length_map], by simp; omega, ?_⟩
      rcases Nat.eq_zero_or_pos len with h0 | hpos
      · left; simp [h0]
      · right
        have g0 := (hF 0 (by omega)).1 0 hk0
        have hlen0 : 0 < (f (F 0)).length := by rw [hk]; exact hk0
        rw [List.getElem?_eq_getElem hlen0] at g0
        have hspot : spot = none := by
          have := World.cell?_spot g0
          simpa [Addr.add] using this
        subst hspot
        have hlt : ab < W.heap.size := by
          simp only [Addr.add_lit, Nat.zero_mul, Nat.add_zero] at g0
          exact World.block_lt_of_cell? W _ g0
        refine ⟨ab, ao, rfl, hlt, fun i hi => ?_⟩
        rw [List.length_map, List.length_range] at hi
        have hq : i / k < len := Nat.div_lt_of_lt_mul (by rw [Nat.mul_comm]; exact hi)
        have hr : i % k < k := Nat.mod_lt _ hk0
        have h1 := (hF (i / k) (by omega)).1 (i % k) hr
        rw [Addr.add_lit, Addr.add_lit] at h1
        have e1 : i / k * k + i % k = i := by rw [Nat.mul_comm]; exact Nat.div_add_mod i k
        rw [show ao + i / k * k + i % k = ao + i by omega] at h1
        rw [h1, ← e1, flat_get f k hk _ (i / k) (by simpa using hq) (i % k) hr]
        simp [e1]
    · intro d hd
      obtain ⟨i, hi, rfl⟩ := List.mem_map.1 hd
      exact (hF i (by have := List.mem_range.1 hi; omega)).2
theorem two_of {α : Type} {l : List α} (h : l.length = 2) : ∃ a b, l = [a, b] := by match l, h with | [a, b], _ => exact ⟨a, b, rfl⟩
theorem three_of {α : Type} {l : List α} (h : l.length = 3) : ∃ a b c, l = [a, b, c] := by match l, h with | [a, b, c], _ => exact ⟨a, b, c, rfl⟩
theorem four_of {α : Type} {l : List α} (h : l.length = 4) : ∃ a b c d, l = [a, b, c, d] := by match l, h with | [a, b, c, d], _ => exact ⟨a, b, c, d, rfl⟩
theorem five_of {α : Type} {l : List α} (h : l.length = 5) : ∃ a b c d e, l = [a, b, c, d, e] := by match l, h with | [a, b, c, d, e], _ => exact ⟨a, b, c, d, e, rfl⟩
end
section
variable {H : Type} {enc : TypeId × Value → H} {W : World}
set_option maxRecDepth 100000 in
theorem open_Cell {n : Nat} {cs : List Value} {x : DataW H × List MemPlace} (h : DataW.trod enc Try.prog W 0 (fun _ => true) true n 92 cs = some x) : ∃ d : CellD, cs = cCell d ∧ okCell d := by
  obtain ⟨xs, m, rfl, _, hl, hn, hf⟩ := DataW.trod_struct Try.underlying92 h
  rw [show Try.prog.cellsOf 92 = 2 by kernel_rfl] at hl
  obtain ⟨c0, c1, rfl⟩ := two_of hl
  obtain ⟨y0, k0⟩ := field_one hn hf 0 _ 9 0 _ _ rfl rfl rfl (by kernel_rfl) rfl
  obtain ⟨y1, k1⟩ := field_one hn hf 1 _ 3 1 _ _ rfl rfl rfl (by kernel_rfl) rfl
  obtain ⟨l0, rfl, b0⟩ := leaf_str Try.underlying9 k0
  obtain ⟨l1, rfl, b1⟩ := leaf_int Try.underlying3 k1
  exact ⟨⟨l0, l1⟩, rfl, b0, b1⟩
set_option maxRecDepth 100000 in
theorem openS_Cell {n : Nat} {v : Value} {x : DataW H × List MemPlace} (h : DataW.trod enc Try.prog W 0 (fun _ => true) true n 31 [v] = some x) : ∃ l : List CellD, FlatAt cCell 2 W v l ∧ ∀ d ∈ l, okCell d :=
  haveI : Inhabited CellD := ⟨⟨[], 0⟩⟩
  open_flat cCell_len (by decide) Try.underlying31 (by kernel_rfl) (fun _ _ _ h => open_Cell h) h
set_option maxRecDepth 100000 in
theorem argS_Cell {base : Nat} {v : Value} {d : DataW H} {p : List MemPlace} (hval : Value.okWide Try.prog W .any base 31 v) (h : DataW.Trod enc Try.prog W 0 (fun _ => true) true 31 v d p) : ∃ l : List CellD, FlatAt cCell 2 W v l ∧ ∀ d ∈ l, okCell d := by
  obtain ⟨a1, len, cap, rfl⟩ := okWide_slice Try.underlying31 hval
  obtain ⟨fuel, hf⟩ := h
  exact openS_Cell hf
end
end Go.Proofs.Ytlkpinlkbikokae
/- Arguments opened: cores. -/
namespace Go.Proofs.Ytlkpinlkbikokae
set_option linter.unusedVariables false
open Go.ChangeShapes Go.WideShapes Go.ChangeAt Go.RowKit Go.WideMaps Go.WideElems
open Go.Deep
section
variable {H : Type} {enc : TypeId × Value → H} {W : World}
set_option maxRecDepth 100000 in
theorem open_Core {n : Nat} {cs : List Value} {x : DataW H × List MemPlace} (h : DataW.trod enc Try.prog W 0 (fun _ => true) true n 33 cs = some x) :
    ∃ (d : CoreD) (cv : Value), cs = [.string ⟨d.fKind.toArray⟩, .bool d.fOn, .bool d.fBroken, cv, .int .i64 d.fCount] ∧ FlatAt cCell 2 W cv d.fCells ∧ okCore d := by
  obtain ⟨xs, m, rfl, _, hl, hn, hf⟩ := DataW.trod_struct Try.underlying33 h
  rw [show Try.prog.cellsOf 33 = 5 by kernel_rfl] at hl
  obtain ⟨c0, c1, c2, c3, c4, rfl⟩ := five_of hl
  obtain ⟨y0, k0⟩ := field_one hn hf 0 _ 9 0 _ _ rfl rfl rfl (by kernel_rfl) rfl
  obtain ⟨y1, k1⟩ := field_one hn hf 1 _ 4 1 _ _ rfl rfl rfl (by kernel_rfl) rfl
  obtain ⟨y2, k2⟩ := field_one hn hf 2 _ 4 2 _ _ rfl rfl rfl (by kernel_rfl) rfl
  obtain ⟨y3, k3⟩ := field_one hn hf 3 _ 31 3 _ _ rfl rfl rfl (by kernel_rfl) rfl
  obtain ⟨y4, k4⟩ := field_one hn hf 4 _ 3 4 _ _ rfl rfl rfl (by kernel_rfl) rfl
  obtain ⟨l0, rfl, b0⟩ := leaf_str Try.underlying9 k0
  obtain ⟨l1, rfl⟩ := leaf_bool Try.underlying4 k1
  obtain ⟨l2, rfl⟩ := leaf_bool Try.underlying4 k2
  obtain ⟨l3, b3, e3⟩ := openS_Cell k3
  obtain ⟨l4, rfl, b4⟩ := leaf_int Try.underlying3 k4
  exact ⟨⟨l0, l1, l2, l3, l4⟩, c3, rfl, b3, b0, e3, b4⟩
set_option maxRecDepth 100000 in
theorem arg_Core {base : Nat} {v : Value} {d : DataW H} {p : List MemPlace} (hval : Value.okWide Try.prog W .any base 33 v) (h : DataW.Trod enc Try.prog W 0 (fun _ => true) true 33 v d p) : ∃ d : CoreD, CoreAt W v d ∧ okCore d := by
  obtain ⟨cs, rfl, _⟩ := okWide_struct Try.underlying33 hval
  obtain ⟨fuel, hf⟩ := h
  obtain ⟨d, cv, h1, h2, h3⟩ := open_Core hf
  refine ⟨d, ⟨cv, ?_, h2⟩, h3⟩
  simp only [Value.cells] at h1
  unfold vCore
  congr 1
  exact Array.toList_inj.1 h1
end
end Go.Proofs.Ytlkpinlkbikokae
/- Arguments opened: flat structs. Written by gen/openflat.py. -/
namespace Go.Proofs.Ytlkpinlkbikokae
set_option linter.unusedVariables false
open Go.ChangeShapes Go.WideShapes Go.ChangeAt Go.RowKit Go.WideMaps Go.WideElems
open Go.Deep
section
variable {H : Type} {enc : TypeId × Value → H} {W : World}
set_option maxRecDepth 100000 in
theorem open_Layer {n : Nat} {cs : List Value} {x : DataW H × List MemPlace} (h : DataW.trod enc Try.prog W 0 (fun _ => true) true n 81 cs = some x) : ∃ d : LayerD, cs = cLayer d ∧ okLayer d := by
  obtain ⟨xs, m, rfl, _, hl, hn, hf⟩ := DataW.trod_struct Try.underlying81 h
  rw [show Try.prog.cellsOf 81 = 2 by kernel_rfl] at hl
  obtain ⟨c0, c1, rfl⟩ := two_of hl
  obtain ⟨y0, k0⟩ := field_one hn hf 0 _ 9 0 _ _ rfl rfl rfl (by kernel_rfl) rfl
  obtain ⟨y1, k1⟩ := field_one hn hf 1 _ 3 1 _ _ rfl rfl rfl (by kernel_rfl) rfl
  obtain ⟨l0, rfl, b0⟩ := leaf_str Try.underlying9 k0
  obtain ⟨l1, rfl, b1⟩ := leaf_int Try.underlying3 k1
  exact ⟨⟨l0, l1⟩, rfl, b0, b1⟩
set_option maxRecDepth 100000 in
theorem arg_Layer {base : Nat} {v : Value} {d : DataW H} {p : List MemPlace} (hval : Value.okWide Try.prog W .any base 81 v) (h : DataW.Trod enc Try.prog W 0 (fun _ => true) true 81 v d p) : ∃ d : LayerD, v = vLayer d ∧ okLayer d := by
  obtain ⟨cs, rfl, _⟩ := okWide_struct Try.underlying81 hval
  obtain ⟨fuel, hf⟩ := h
  obtain ⟨d, h1, h2⟩ := open_Layer hf
  refine ⟨d, ?_, h2⟩
  simp only [Value.cells] at h1
  unfold vLayer
  congr 1
  exact Array.toList_inj.1 h1
set_option maxRecDepth 100000 in
theorem openS_Layer {n : Nat} {v : Value} {x : DataW H × List MemPlace} (h : DataW.trod enc Try.prog W 0 (fun _ => true) true n 34 [v] = some x) : ∃ l : List LayerD, FlatAt cLayer 2 W v l ∧ ∀ d ∈ l, okLayer d :=
  haveI : Inhabited LayerD := ⟨⟨[], 0⟩⟩
  open_flat cLayer_len (by decide) Try.underlying34 (by kernel_rfl) (fun _ _ _ h => open_Layer h) h
set_option maxRecDepth 100000 in
theorem argS_Layer {base : Nat} {v : Value} {d : DataW H} {p : List MemPlace} (hval : Value.okWide Try.prog W .any base 34 v) (h : DataW.Trod enc Try.prog W 0 (fun _ => true) true 34 v d p) : ∃ l : List LayerD, FlatAt cLayer 2 W v l ∧ ∀ d ∈ l, okLayer d := by
  obtain ⟨a1, len, cap, rfl⟩ := okWide_slice Try.underlying34 hval
  obtain ⟨fuel, hf⟩ := h
  exact openS_Layer hf
end
end Go.Proofs.Ytlkpinlkbikokae
namespace Go.Proofs.Ytlkpinlkbikokae
set_option linter.unusedVariables false
open Go.ChangeShapes Go.WideShapes Go.ChangeAt Go.RowKit Go.WideMaps Go.WideElems
open Go.Deep
section
variable {H : Type} {enc : TypeId × Value → H} {P : Program} {W : World}
theorem open_deep {α : Type} [Inhabited α] {R : Nat → World → List Value → α → Prop} {k : Nat} {G : α → Prop} (hg : Good R k) (hk0 : 0 < k) {t e : TypeId} {n : Nat} {v : Value} {x : DataW H × List MemPlace} (ht : P.underlying t = some (.slice e)) (hc : P.cellsOf e = k)
    (hel : ∀ n cs x, DataW.trod enc P W 0 (fun _ => true) true n e cs = some x → ∃ d, R 0 W cs d ∧ G d) (h : DataW.trod enc P W 0 (fun _ => true) true n t [v] = some x) :
    ∃ l : List α, SliceAt R k 0 W v l ∧ ∀ d ∈ l, G d := by
  rcases open_slice ht h with ⟨h0, _⟩ | ⟨a, len, cap, m, n', D, Pl, hcs, _, hl, hm, hmm, _, hx⟩
  · injection h0 with h0
    subst h0
    exact ⟨[], sliceAt_nil _ _, by simp⟩
  · injection hcs with hcs
    subst hcs
    simp only [if_true] at hmm
    subst hmm
    obtain ⟨F, hF⟩ := choose_lt (α := α) (p := fun i d => (∃ cs, R 0 W cs d ∧ ∀ j, j < k → W.cell? ((a.add (i * k)).add j) = cs[j]?) ∧ G d) (n := m) (fun i hi => by
      obtain ⟨cs', h1, h2⟩ := hx i hi
      obtain ⟨d, hr, hg2⟩ := hel _ _ _ h2
      rw [hc] at h1
      obtain ⟨_, _, h3⟩ := World.cells?_some h1
      exact ⟨d, ⟨cs', hr, h3⟩, hg2⟩)
    refine ⟨(List.range len).map F, ?_, ?_⟩
    · obtain ⟨ab, ao, spot⟩ := a
      refine ⟨some ⟨ab, ao, spot⟩, m - len, by simp; omega, by simp; omega, ?_⟩
      rcases Nat.eq_zero_or_pos len with h0 | hpos
      · left; simp [h0]
      · right
        obtain ⟨cs0, r0, g0⟩ := (hF 0 (by omega)).1
        have g0 := g0 0 hk0
        have hlen0 : 0 < cs0.length := by rw [hg.len r0]; exact hk0
        rw [List.getElem?_eq_getElem hlen0] at g0
        have hspot : spot = none := by
          have := World.cell?_spot g0
          simpa [Addr.add] using this
        subst hspot
        have hlt : ab < W.heap.size := by
          simp only [Addr.add_lit, Nat.zero_mul, Nat.add_zero] at g0
          exact World.block_lt_of_cell? W _ g0
        refine ⟨ab, ao, rfl, Nat.zero_le _, hlt, fun i hi => ?_⟩
        have hi2 : i < len := by simpa using hi
        obtain ⟨cs, r1, g1⟩ := (hF i (by omega)).1
        refine ⟨cs, by simpa using r1, fun j hj => ?_⟩
        have h2 := g1 j hj
        rw [Addr.add_lit, Addr.add_lit] at h2
        exact h2
    · intro d hd
      obtain ⟨i, hi, rfl⟩ := List.mem_map.1 hd
      exact (hF i (by have := List.mem_range.1 hi; omega)).2
end
end Go.Proofs.Ytlkpinlkbikokae
