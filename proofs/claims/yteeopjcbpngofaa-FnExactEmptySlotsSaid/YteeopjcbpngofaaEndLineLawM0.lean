/- Part: how it reads, and what the laws' own helpers do with it. Written by gen/deep.py. -/
import Derived.Test.YteeopjcbpngofaaRows
import Derived.WalkKit
import Derived.ProofKit
import Derived.OpenShut
import Derived.Lib.UnsafeStr
import Derived.WalkSpells
import Derived.WalkLawsBesides
import Derived.Lib.Hide
import Derived.Lib.Bytes
import Derived.Deep.QuietTactic
import Derived.BigQuiet
import Derived.Deep.RegionHeld3
import Derived.OwnWalk
import Derived.Laws.OwnMore
import Derived.Deep.CutRange
import Derived.StillTailTactics
/- How a law is closed that answers true and only makes new memory: its arguments read as before. -/
namespace Go.Proofs.Yteeopjcbpngofaa
set_option linter.unusedVariables false
open Go.ChangeShapes Go.WideShapes Go.ChangeAt Go.RowKit Go.WideMaps Go.WideElems
open Go.ChangeMaps (open_string shut_string)

theorem ownK : ownKnob Try.prog.godebug = none := by kernel_rfl
theorem laidK : laidOutB Try.prog = true := by kernel_rfl
def initL : List Char := let c := Char.ofNat; [c 104, c 97, c 114, c 110, c 101, c 115, c 115, c 32, c 57, c 52, c 49, c 57, c 54, c 50, c 54, c 49, c 53, c 53, c 50, c 53, c 54, c 50, c 55, c 51, c 98, c 99, c 99, c 51, c 50, c 48, c 57, c 53, c 55, c 99, c 48, c 51, c 57, c 99, c 57, c 49, c 55, c 98, c 48, c 55, c 99, c 102, c 99, c 99, c 57, c 52, c 98, c 53, c 49, c 97, c 48, c 100, c 97, c 54, c 51, c 101, c 56, c 50, c 54, c 51, c 50, c 56, c 55, c 99, c 100, c 55, c 55, c 101, c 32, c 99, c 117, c 116, c 32, c 97, c 116, c 32, c 108, c 111, c 111, c 112, c 46, c 101, c 120, c 97, c 109, c 112, c 108, c 101, c 47, c 103, c 48, c 51, c 48, c 49, c 54, c 47, c 108, c 97, c 119, c 115, c 46, c 70, c 110, c 69, c 120, c 97, c 99, c 116, c 69, c 109, c 112, c 116, c 121, c 83, c 108, c 111, c 116, c 115, c 32, c 108, c 111, c 111, c 112, c 46, c 101, c 120, c 97, c 109, c 112, c 108, c 101, c 47, c 103, c 48, c 51, c 48, c 49, c 54, c 47, c 108, c 97, c 119, c 115, c 46, c 70, c 110, c 69, c 120, c 97, c 99, c 116, c 83, c 104, c 97, c 112, c 101, c 115, c 79, c 102, c 32, c 108, c 111, c 111, c 112, c 46, c 101, c 120, c 97, c 109, c 112, c 108, c 101, c 47, c 103, c 48, c 51, c 48, c 49, c 54, c 47, c 108, c 97, c 119, c 115, c 46, c 70, c 110, c 69, c 120, c 97, c 99, c 116, c 69, c 110, c 100, c 76, c 105, c 110, c 101, c 32, c 108, c 111, c 111, c 112, c 46, c 101, c 120, c 97, c 109, c 112, c 108, c 101, c 47, c 103, c 48, c 51, c 48, c 49, c 54, c 47, c 108, c 97, c 119, c 115, c 46, c 70, c 110, c 69, c 120, c 97, c 99, c 116, c 83, c 97, c 109, c 101, c 72, c 111, c 115, c 116]
def initW : List (List Char) := let c := Char.ofNat; [[c 99, c 117, c 116], [c 97, c 116], [c 108, c 111, c 111, c 112, c 46, c 101, c 120, c 97, c 109, c 112, c 108, c 101, c 47, c 103, c 48, c 51, c 48, c 49, c 54, c 47, c 108, c 97, c 119, c 115, c 46, c 70, c 110, c 69, c 120, c 97, c 99, c 116, c 69, c 109, c 112, c 116, c 121, c 83, c 108, c 111, c 116, c 115], [c 108, c 111, c 111, c 112, c 46, c 101, c 120, c 97, c 109, c 112, c 108, c 101, c 47, c 103, c 48, c 51, c 48, c 49, c 54, c 47, c 108, c 97, c 119, c 115, c 46, c 70, c 110, c 69, c 120, c 97, c 99, c 116, c 83, c 104, c 97, c 112, c 101, c 115, c 79, c 102], [c 108, c 111, c 111, c 112, c 46, c 101, c 120, c 97, c 109, c 112, c 108, c 101, c 47, c 103, c 48, c 51, c 48, c 49, c 54, c 47, c 108, c 97, c 119, c 115, c 46, c 70, c 110, c 69, c 120, c 97, c 99, c 116, c 69, c 110, c 100, c 76, c 105, c 110, c 101], [c 108, c 111, c 111, c 112, c 46, c 101, c 120, c 97, c 109, c 112, c 108, c 101, c 47, c 103, c 48, c 51, c 48, c 49, c 54, c 47, c 108, c 97, c 119, c 115, c 46, c 70, c 110, c 69, c 120, c 97, c 99, c 116, c 83, c 97, c 109, c 101, c 72, c 111, c 115, c 116]]
set_option maxRecDepth 100000 in
theorem initStr : Try.prog.initOrder = String.ofList initL := by kernel_rfl
theorem initSigns : Try.prog.initOrder.toList = initL := by rw [initStr, String.toList_ofList]
set_option maxRecDepth 100000 in
theorem initWords : behindMainWord (wordsSigns initL) = initW := by kernel_rfl
theorem headLifts_g (P : Program) (h : P.initOrder.toList = initL) : P.headLifts = [] := by unfold Program.headLifts; rw [h, initWords]; kernel_rfl
theorem make_g (P : Program) (h : P.initOrder.toList = initL) : P.make = some .cut := by unfold Program.make; rw [h, initWords]; kernel_rfl
theorem liftsFinal_g (P : Program) (h : P.initOrder.toList = initL) : P.liftsFinal = false := by unfold Program.liftsFinal; rw [headLifts_g P h, h, initWords]; kernel_rfl
theorem mayEnter_g (P : Program) (h : P.initOrder.toList = initL) (h1 : P.laysLater = false) (h2 : P.bearsReflect = false) : P.mayEnter = P.doorFits [] := by unfold Program.mayEnter; rw [h, initWords, h1, h2]; kernel_rfl
theorem laysLater_k : Try.prog.laysLater = false := by kernel_rfl
theorem bearsReflect_k : Try.prog.bearsReflect = false := by kernel_rfl
theorem doorFits_k : Try.prog.doorFits [] = true := by kernel_rfl
theorem make_k : Try.prog.make = some .cut := make_g _ initSigns
theorem liftsFinal_k : Try.prog.liftsFinal = false := liftsFinal_g _ initSigns
theorem mayEnter_k : Try.prog.mayEnter = true := (mayEnter_g _ initSigns laysLater_k bearsReflect_k).trans doorFits_k

section
variable {H : Type} {enc : TypeId × Value → H} {P : Program}
theorem trodAll_below (hl : laidOutB P = true) {W W' : World} (hb : Below W.heap.size W W') (sp : Nat → Bool) :
    ∀ {ts : List TypeId} {vs : List Value} {ds : List (DataW H)} {ps : List MemPlace}, (ts.all fun t => P.readableRec t && decide (t < P.types.size)) = true →
      DataW.TrodAll enc P W 0 (fun _ => true) true ts vs ds ps → (∀ x ∈ ps, x.block < W.heap.size) → (∀ x ∈ ps, sp x.block = true) → DataW.TrodAll enc P W' 0 sp true ts vs ds ps
  | [], [], [], _, _, h, _, _ => h
  | [], [], _ :: _, _, _, h, _, _ => h.elim
  | [], _ :: _, _, _, _, h, _, _ => h.elim
  | _ :: _, [], _, _, _, h, _, _ => h.elim
  | _ :: _, _ :: _, [], _, _, h, _, _ => h.elim
  | t :: ts, v :: vs, d :: ds, ps, ht, h, hlt, hsp => by
    obtain ⟨p, q, h1, h2, rfl⟩ := h
    simp only [List.all_cons, Bool.and_eq_true] at ht
    refine ⟨p, q, ?_, trodAll_below hl hb sp ht.2 h2 (fun x hx => hlt x (List.mem_append_right _ hx)) (fun x hx => hsp x (List.mem_append_right _ hx)), rfl⟩
    exact WideElems.Trod_stays hl ht.1.1 (of_decide_eq_true ht.1.2) h1 (fun x hx => hb.same (hlt x (List.mem_append_left _ hx))) (fun x hx => hsp x (List.mem_append_left _ hx))
theorem trodAll_len {W : World} {b : Nat} {sp : Nat → Bool} {hd : Bool} : ∀ {ts : List TypeId} {vs : List Value} {ds : List (DataW H)} {ps : List MemPlace}, DataW.TrodAll enc P W b sp hd ts vs ds ps → ds.length = ts.length
  | [], [], [], _, _ => rfl
  | [], [], _ :: _, _, h => h.elim
  | [], _ :: _, _, _, h => h.elim
  | _ :: _, [], _, _, h => h.elim
  | _ :: _, _ :: _, [], _, h => h.elim
  | _ :: _, _ :: _, _ :: _, _, ⟨_, _, _, h2, _⟩ => by simp [trodAll_len h2]
theorem law_post {f : Func} {s : ChangeSpec} {fresh handsOn again : Bool} {W W' : World} {args : Array Value} {ds gs : List (DataW H)} {before : List MemPlace} {tb : TypeId}
    (hl : laidOutB P = true) (hv : s.vars = []) (hr : f.resultTypes = #[tb]) (htb : P.underlying tb = some .bool)
    (hts : (f.params.toList.all fun t => P.readableRec t && decide (t < P.types.size)) = true)
    (hfn : ∀ ds : List (DataW H), ds.length = f.params.toList.length → s.fn H ds = { results := [.lit (.bool true)], args := ds })
    (hW : DataW.Whole enc P f.params.toList s.vars false W args.toList ds gs before) (hb : Below W.heap.size W W') :
    s.post enc P f false fresh handsOn again W args (.bool true) W' := by
  have hlt : ∀ p ∈ before, p.block < W.heap.size := fun p hp => hW.lt p hp
  have hW0 := hW
  obtain ⟨p, q, hA, hV, rfl, hfz, hnd⟩ := hW
  rw [hv] at hV
  obtain ⟨rfl, rfl⟩ := trodVars_none hV
  have hds := trodAll_len hA
  have e : s.fn H (ds ++ []) = { results := [.lit (.bool true)], args := ds } := by rw [List.append_nil]; exact hfn ds hds
  simp only [List.append_nil] at hlt hW0
  have hargs : ∀ sp : Nat → Bool, (∀ x ∈ p, sp x.block = true) → DataW.TrodAll enc P W' 0 sp true f.params.toList args.toList ds p := fun sp hsp => trodAll_below hl hb sp hts hA hlt hsp
  have hold : ∀ x ∈ p, (fun b => decide (b < W.heap.size)) x.block = true := fun x hx => by simpa using hlt x hx
  have hres : ∀ (b : Nat) (sp : Nat → Bool) (hd : Bool), DataW.TrodAll enc P W' b sp hd f.resultTypes.toList ((Value.bool true).resultList f.resultTypes.size) [.lit (.bool true)] [] := fun b sp hd => by
    rw [hr]; exact trodAll_cons_mk (shut_bool htb _) trodAll_mk0
  have hok : ∀ (j : Nat) (t : TypeId) (r : Value), f.resultTypes[j]? = some t → ((Value.bool true).resultList f.resultTypes.size)[j]? = some r → Value.okWide P W' .any 0 t r := ok_one hr rfl (okWide_bool_mk htb _)
  have R : ∀ (b : Nat) (sp : Nat → Bool) (hd : Bool), DataW.TrodAll enc P W' b sp hd f.resultTypes.toList ((Value.bool true).resultList f.resultTypes.size) (s.fn H (ds ++ [])).results [] := fun b sp hd => by rw [e]; exact hres b sp hd
  have A : ∀ sp : Nat → Bool, (∀ x ∈ p, sp x.block = true) → DataW.TrodAll enc P W' 0 sp true f.params.toList args.toList (s.fn H (ds ++ [])).args p := fun sp hsp => by rw [e]; exact hargs sp hsp
  have V : ∀ sp : Nat → Bool, DataW.TrodVars enc P W' sp s.vars (s.fn H (ds ++ [])).vars [] := fun sp => by rw [e, hv]; exact rfl
  refine ⟨ds, [], p, [], p, [], hW0, R _ _ _, A _ hold, V _, World.keptBut_mono (fun x hx => ⟨hx, ?_⟩) (hb.frame (· ∈ p)), fun _ => ?_⟩
  · simpa using hx
  · refine ⟨hok, _, _, ([] ++ p) ++ [], ⟨[] ++ p, [], trodAll_append (A _ (fun _ _ => rfl)) (R _ _ _), V _, rfl, ?_, ?_⟩, ?_⟩
    · intro b off hp
      have hin : MemPlace.cell b off ∈ p := by simpa using hp
      rw [hb.frozen (hlt _ hin)]
      exact hfz b off (by simpa using hin)
    · intro ha; cases ha
    · intro x hx _; simpa using hx
end

/-- a slice value reads, in world w, as the one-cell values xs -/
def RowAt (w : World) (v : Value) (xs : List Value) : Prop :=
  ∃ a c, v = .slice a xs.length (xs.length + c) ∧ xs.length ≤ maxLen ∧ (xs = [] ∨ ∃ b o, a = some ⟨b, o, none⟩ ∧ b < w.heap.size ∧ ∀ i, i < xs.length → w.cell? ⟨b, o + i, none⟩ = xs[i]?)
/-- the text l as a value -/
def strV (l : List UInt8) : Value := .string ⟨l.toArray⟩
theorem RowAt.below {w w' : World} {v : Value} {xs : List Value} {B : Nat} (h : RowAt w v xs) (hb : Below B w w') (hB : w.heap.size ≤ B) : RowAt w' v xs := by
  obtain ⟨a, c, rfl, hl, h⟩ := h
  refine ⟨a, c, rfl, hl, h.imp id ?_⟩
  rintro ⟨b, o, rfl, hlt, hc⟩
  exact ⟨b, o, rfl, Nat.lt_of_lt_of_le hlt hb.size, fun i hi => by rw [hb.cell (p := ⟨b, o + i, none⟩) (Nat.lt_of_lt_of_le hlt hB)]; exact hc i hi⟩
theorem cap_eq (a : Option Addr) {n c : Nat} (h : n ≤ c) : Value.slice a n c = .slice a n (n + (c - n)) := by rw [Nat.add_sub_of_le h]
theorem open_row {w : World} {a : Addr} {n c : Nat} {xs : List Value} (hn : xs.length = n) (hm : n ≤ maxLen) (hcap : n ≤ c) (hc : ∀ i, i < n → w.cell? (a.add i) = xs[i]?) : RowAt w (.slice (some a) n c) xs := by
  subst hn
  refine ⟨some a, _, cap_eq _ hcap, hm, ?_⟩
  cases xs with
  | nil => exact Or.inl rfl
  | cons x r =>
    right
    obtain ⟨ab, ao, spot⟩ := a
    have h0 := hc 0 (by simp)
    have hspot : spot = none := by
      have : w.cell? ((⟨ab, ao, spot⟩ : Addr).add 0) = some x := by rw [h0]; rfl
      simpa [Addr.add] using World.cell?_spot this
    subst hspot
    refine ⟨ab, ao, rfl, ?_, fun i hi => by have := hc i hi; rwa [Addr.add_lit] at this⟩
    have h1 : w.cell? ⟨ab, ao, none⟩ = some x := by have := h0; rw [Addr.add_lit] at this; simpa using this
    cases hh : w.heap[ab]? with
    | none => simp [World.cell?, hh] at h1
    | some o => exact (Array.getElem?_eq_some_iff.1 hh).1
section
variable {H : Type} {enc : TypeId × Value → H} {P : Program}
theorem open_byteRow {W : World} {base : Nat} {t e : TypeId} {v : Value} {d : DataW H} {p : List MemPlace} (ht : P.underlying t = some (.slice e)) (he : P.underlying e = some (.int .u8)) (hc : P.cellsOf e = 1)
    (hval : Value.okWide P W .any base t v) (h : DataW.Trod enc P W 0 (fun _ => true) true t v d p) :
    ∃ l : List UInt8, RowAt W v (Lib.byteCells l) := by
  obtain ⟨a1, len, cap, rfl⟩ := okWide_slice ht hval
  obtain ⟨fuel, hf⟩ := h
  rcases open_ints ht he hc hf with ⟨hcs, _⟩ | ⟨a, len', cap', zs, hcs, _, hl, hm, hz, _, hcell, hwz⟩
  · simp [Value.cells] at hcs
    obtain ⟨rfl, rfl, rfl⟩ := hcs
    exact ⟨[], none, 0, rfl, Nat.zero_le _, Or.inl rfl⟩
  · simp [Value.cells] at hcs
    obtain ⟨rfl, rfl, rfl⟩ := hcs
    simp only [if_true] at hz
    refine ⟨(zs.take len).map fun n => UInt8.ofNat n.toNat, open_row (by rw [Lib.byteCells_length]; simp; omega) (by omega) (by omega) ?_⟩
    intro i hi
    rw [hcell i (by omega)]
    have hb := range_u8 hwz i
    have e : zs.getD i 0 = zs[i]'(by omega) := by simp [List.getD, List.getElem?_eq_getElem (show i < zs.length by omega)]
    rw [List.getD_eq_getElem?_getD] at e
    rw [e] at hb
    have hlen : i < ((zs.take len).map fun n => UInt8.ofNat n.toNat).length := by simp; omega
    have hg : (Lib.byteCells ((zs.take len).map fun n => UInt8.ofNat n.toNat))[i]? = some (.int .u8 (zs[i]'(by omega))) := by
      have : (Lib.byteCells ((zs.take len).map fun n => UInt8.ofNat n.toNat))[i]? = some (.int .u8 ((((zs.take len).map fun n => UInt8.ofNat n.toNat)[i]'hlen).toNat : Int)) := by
        simp only [Lib.byteCells, List.getElem?_map, List.getElem?_eq_getElem hlen, Option.map_some]
      rw [this]
      simp only [List.getElem_map, List.getElem_take, UInt8.toNat_ofNat']
      congr 2; omega
    rw [hg, List.getD_eq_getElem?_getD, e]
theorem open_strRow {W : World} {base : Nat} {t e : TypeId} {v : Value} {d : DataW H} {p : List MemPlace} (ht : P.underlying t = some (.slice e)) (he : P.underlying e = some .string) (hc : P.cellsOf e = 1)
    (hval : Value.okWide P W .any base t v) (h : DataW.Trod enc P W 0 (fun _ => true) true t v d p) :
    ∃ l : List ByteArray, RowAt W v (l.map Value.string) ∧ ∀ s ∈ l, s.size ≤ maxLen := by
  obtain ⟨a1, len, cap, rfl⟩ := okWide_slice ht hval
  obtain ⟨fuel, hf⟩ := h
  rcases open_strings ht he hc hf with ⟨hcs, _⟩ | ⟨a, len', cap', ss, hcs, _, hl, hm, hz, _, hcell, hws⟩
  · simp [Value.cells] at hcs
    obtain ⟨rfl, rfl, rfl⟩ := hcs
    exact ⟨[], ⟨none, 0, rfl, Nat.zero_le _, Or.inl rfl⟩, by simp⟩
  · simp [Value.cells] at hcs
    obtain ⟨rfl, rfl, rfl⟩ := hcs
    simp only [if_true] at hz
    refine ⟨ss.take len, open_row (by simp; omega) (by omega) (by omega) ?_, fun s hs => hws s (List.mem_of_mem_take hs)⟩
    intro i hi
    rw [hcell i (by omega)]
    simp [hi, List.getElem?_eq_getElem (show i < ss.length by omega)]
theorem open_strRowL {W : World} {base : Nat} {t e : TypeId} {v : Value} {d : DataW H} {p : List MemPlace} (ht : P.underlying t = some (.slice e)) (he : P.underlying e = some .string) (hc : P.cellsOf e = 1)
    (hval : Value.okWide P W .any base t v) (h : DataW.Trod enc P W 0 (fun _ => true) true t v d p) :
    ∃ x : List (List UInt8), RowAt W v (x.map strV) ∧ ∀ s ∈ x, s.length ≤ maxLen := by
  obtain ⟨l, h1, h2⟩ := open_strRow ht he hc hval h
  refine ⟨l.map fun s => s.data.toList, ?_, ?_⟩
  · have e : (l.map fun s => s.data.toList).map strV = l.map Value.string := by
      rw [List.map_map]
      exact List.map_congr_left fun s _ => by simp [strV]
    rw [e]; exact h1
  · intro s hs
    obtain ⟨y, hy, rfl⟩ := List.mem_map.1 hs
    have := h2 y hy
    exact Nat.le_trans (Nat.le_of_eq Array.length_toList) this
end
end Go.Proofs.Yteeopjcbpngofaa
/- Contracts of the small functions of chapter 1: letters, digits and names. -/
namespace Go.Proofs.Yteeopjcbpngofaa
set_option linter.unusedVariables false
open Go.RowKit

def isLet (c : Int) : Bool := decide (97 ≤ c ∧ c ≤ 122)
def isDig (c : Int) : Bool := decide (48 ≤ c ∧ c ≤ 57)
def isLetB (c : Int) (first : Bool) : Bool := isLet c || (!first && isDig c)

theorem ret_bool {a b : Bool} (h : a = b) : Ending.returned (.bool a) = .returned (.bool b) := by rw [h]
theorem ret_int {k : IntKind} {a b : Int} (h : a = b) : Ending.returned (.int k a) = .returned (.int k b) := by rw [h]

/-- a text is a name -/
def nmB (l : List UInt8) : Bool := l.all fun c => isLet c.toNat || isDig c.toNat
theorem nmB_snoc (l : List UInt8) (c : UInt8) : nmB (l ++ [c]) = (nmB l && (isLet c.toNat || isDig c.toNat)) := by simp [nmB]
theorem take_snoc (s : ByteArray) (k : Nat) (h : k < s.size) : s.data.toList.take (k + 1) = s.data.toList.take k ++ [s[k]] := by
  rw [List.take_succ_eq_append_getElem (by simpa using h)]; rfl
def nameB (l : List UInt8) : Bool := decide (0 < l.length) && decide (l.length ≤ 8) && isLet (l.getD 0 0).toNat && nmB l
theorem getD_get (s : ByteArray) (k : Nat) (h : k < s.size) : s.data.toList.getD k 0 = s[k] := by
  simp only [List.getD_eq_getElem?_getD]
  rw [List.getElem?_eq_getElem (by simpa using h)]; rfl
theorem nameB_false_at (s : ByteArray) (k : Nat) (h : k < s.size) (hb : isLetB (s[k]).toNat ((k : Int) == 0) = false) : nameB s.data.toList = false := by
  rw [← getD_get s k h] at hb
  by_cases h0 : k = 0
  · subst h0
    have hb1 : isLet (s.data.toList.getD 0 0).toNat = false := by simpa [isLetB] using hb
    unfold nameB; rw [hb1]; simp
  · have hk : ((k : Int) == 0) = false := by simpa using h0
    rw [hk] at hb
    have : nmB s.data.toList = false := by
      unfold nmB; rw [List.all_eq_false]
      refine ⟨s.data.toList.getD k 0, ?_, ?_⟩
      · simp only [List.getD_eq_getElem?_getD]
        rw [List.getElem?_eq_getElem (by simpa using h)]; simp
      · simpa [isLetB] using hb
    unfold nameB; rw [this]; simp
theorem nmB_next (s : ByteArray) (k : Nat) (h : k < s.size) (b : Bool) (hn : nmB (s.data.toList.take k) = true) (hb : isLetB (s[k]).toNat b = true) : nmB (s.data.toList.take (k + 1)) = true := by
  rw [take_snoc s k h, nmB_snoc, hn]; revert hb; cases b <;> simp [isLetB]; intro h; exact Or.inl h
theorem name_first (s : ByteArray) (k : Nat) (h : k < s.size) (hf : 0 < k → isLet (s.data.toList.getD 0 0).toNat = true) (hb : isLetB (s[k]).toNat ((k : Int) == 0) = true) : isLet (s.data.toList.getD 0 0).toNat = true := by
  by_cases h0 : k = 0
  · subst h0; rw [getD_get s 0 h]; simpa [isLetB] using hb
  · exact hf (by omega)
theorem size_list (s : ByteArray) : s.data.toList.length = s.size := Array.length_toList
theorem nameB_end (s : ByteArray) (k : Nat) (hk : k ≤ s.size) (hlt : ¬ k < s.size) (hn : nmB (s.data.toList.take k) = true) (hf : 0 < k → isLet (s.data.toList.getD 0 0).toNat = true) :
    nameB s.data.toList = (decide (0 < s.size) && decide (s.size ≤ 8)) := by
  have e : k = s.size := by omega
  subst e
  rw [List.take_of_length_le (by rw [size_list]; omega)] at hn
  unfold nameB; rw [hn, size_list]
  by_cases h0 : 0 < s.size
  · rw [hf h0]; simp
  · simp [h0]
theorem nameB_len (s : ByteArray) (h : s.size = 0 ∨ 8 < s.size) : nameB s.data.toList = false := by
  unfold nameB; rw [size_list]
  rcases h with h | h
  · simp [h]
  · simp [show ¬ s.size ≤ 8 from by omega]
theorem nameB_first (s : ByteArray) (h : 0 < s.size) (hb : isLet (s[0]).toNat = false) : nameB s.data.toList = false := by
  rw [← getD_get s 0 h] at hb
  unfold nameB; rw [hb]; simp
theorem nameB_bad (s : ByteArray) (k : Nat) (h : k < s.size) (hb : (isLet (s[k]).toNat || isDig (s[k]).toNat) = false) : nameB s.data.toList = false := by
  apply nameB_false_at s k h
  rw [Bool.or_eq_false_iff] at hb
  simp [isLetB, hb.1, hb.2]
end Go.Proofs.Yteeopjcbpngofaa
/- Numbers as texts: the digits of a number (plain). -/
namespace Go.Proofs.Yteeopjcbpngofaa
set_option linter.unusedVariables false

/-- the digits of n, at most f of them -/
def digs : Nat → Nat → List UInt8
  | 0, _ => []
  | f + 1, n => if n < 10 then [UInt8.ofNat (48 + n)] else digs f (n / 10) ++ [UInt8.ofNat (48 + n % 10)]
/-- a number as a text -/
def numL (n : Int) : List UInt8 := if n < 0 then 45 :: digs 20 n.natAbs else digs 20 n.natAbs

theorem digs_small (f n : Nat) (h : n < 10) : digs (f + 1) n = [UInt8.ofNat (48 + n)] := by simp [digs, h]
theorem digs_big (f n : Nat) (h : 10 ≤ n) : digs (f + 1) n = digs f (n / 10) ++ [UInt8.ofNat (48 + n % 10)] := by
  have : ¬ n < 10 := by omega
  simp [digs, this]
theorem digs_more : ∀ (f g n : Nat), n < 10 ^ (f + 1) → n < 10 ^ (g + 1) → digs (f + 1) n = digs (g + 1) n := by
  intro f
  induction f with
  | zero =>
    intro g n h _
    have h' : n < 10 := by simpa using h
    rw [digs_small _ _ h', digs_small _ _ h']
  | succ f ih =>
    intro g n h h2
    by_cases hn : n < 10
    · rw [digs_small _ _ hn, digs_small _ _ hn]
    · cases g with
      | zero => exfalso; apply hn; simpa using h2
      | succ g =>
        rw [digs_big (f + 1) n (by omega), digs_big (g + 1) n (by omega), ih g (n / 10)]
        · rw [Nat.pow_succ 10 (f + 1)] at h; omega
        · rw [Nat.pow_succ 10 (g + 1)] at h2; omega
theorem digs_len : ∀ (f n : Nat), (digs f n).length ≤ f := by
  intro f
  induction f with
  | zero => intro n; simp [digs]
  | succ f ih =>
    intro n
    by_cases hn : n < 10
    · rw [digs_small _ _ hn]; simp
    · rw [digs_big _ _ (by omega)]; have := ih (n / 10); simp; omega
theorem digs_ne (f n : Nat) : digs (f + 1) n ≠ [] := by
  by_cases hn : n < 10
  · rw [digs_small _ _ hn]; simp
  · rw [digs_big _ _ (by omega)]; simp

/-- what a text says as a number, digit by digit -/
def valL (l : List UInt8) : Int := l.foldl (fun a c => 10 * a + ((c.toNat : Int) - 48)) 0
def digB (c : UInt8) : Bool := decide (48 ≤ (c.toNat : Int) ∧ (c.toNat : Int) ≤ 57)
theorem valL_snoc (l : List UInt8) (c : UInt8) : valL (l ++ [c]) = 10 * valL l + ((c.toNat : Int) - 48) := by simp [valL]
theorem ofNat_dig (n : Nat) (h : n < 10) : ((UInt8.ofNat (48 + n)).toNat : Int) = 48 + n := by
  rw [UInt8.toNat_ofNat']; omega
theorem valL_digs : ∀ (f n : Nat), n < 10 ^ (f + 1) → valL (digs (f + 1) n) = n := by
  intro f
  induction f with
  | zero =>
    intro n h
    have h' : n < 10 := by simpa using h
    have e := ofNat_dig n h'
    rw [digs_small _ _ h']
    simp only [valL, List.foldl_cons, List.foldl_nil, e]; omega
  | succ f ih =>
    intro n h
    by_cases hn : n < 10
    · have e := ofNat_dig n hn
      rw [digs_small _ _ hn]
      simp only [valL, List.foldl_cons, List.foldl_nil, e]; omega
    · have e := ofNat_dig (n % 10) (by omega)
      rw [digs_big (f + 1) n (by omega), valL_snoc, ih (n / 10) (by rw [Nat.pow_succ 10 (f + 1)] at h; omega), e]; omega
theorem digs_dig : ∀ (f n : Nat), (digs f n).all digB = true := by
  intro f
  induction f with
  | zero => intro n; rfl
  | succ f ih =>
    intro n
    by_cases hn : n < 10
    · have e := ofNat_dig n hn
      rw [digs_small _ _ hn]; simp only [List.all_cons, List.all_nil, Bool.and_true, digB, e]; simp; omega
    · have e := ofNat_dig (n % 10) (by omega)
      rw [digs_big _ _ (by omega), List.all_append, ih]
      simp only [List.all_cons, List.all_nil, Bool.and_true, Bool.true_and, digB, e]; simp; omega
theorem rev_ind {α : Type} {P : List α → Prop} (h0 : P []) (hs : ∀ l c, P l → P (l ++ [c])) (l : List α) : P l := by
  rw [← List.reverse_reverse l]
  induction l.reverse with
  | nil => exact h0
  | cons c t ih => rw [List.reverse_cons]; exact hs _ _ ih
theorem all_snoc {l : List UInt8} {c : UInt8} (h : (l ++ [c]).all digB = true) : l.all digB = true ∧ 48 ≤ (c.toNat : Int) ∧ (c.toNat : Int) ≤ 57 := by
  rw [List.all_append, Bool.and_eq_true] at h
  refine ⟨h.1, ?_⟩
  have h2 := h.2
  simpa [digB] using h2
theorem valL_nonneg (l : List UInt8) : l.all digB = true → 0 ≤ valL l := by
  refine rev_ind (P := fun l => l.all digB = true → 0 ≤ valL l) (fun _ => by simp [valL]) (fun l c ih h => ?_) l
  have h1 := ih (all_snoc h).1
  have h2 := (all_snoc h).2
  rw [valL_snoc]; omega
theorem valL_lt (l : List UInt8) : l.all digB = true → (valL l).natAbs < 10 ^ l.length := by
  refine rev_ind (P := fun l => l.all digB = true → (valL l).natAbs < 10 ^ l.length) (fun _ => by simp [valL]) (fun l c ih h => ?_) l
  have h1 := ih (all_snoc h).1
  have h2 := (all_snoc h).2
  have h3 := valL_nonneg l (all_snoc h).1
  rw [valL_snoc, List.length_append, List.length_singleton, Nat.pow_succ]; omega
/-- a first digit that is not 0 makes a value of at least 1 -/
theorem valL_pos (l : List UInt8) : l.all digB = true → l ≠ [] → l.getD 0 0 ≠ 48 → 1 ≤ valL l := by
  refine rev_ind (P := fun l => l.all digB = true → l ≠ [] → l.getD 0 0 ≠ 48 → 1 ≤ valL l) (fun _ h => absurd rfl h) (fun l c ih h _ h0 => ?_) l
  have h2 := (all_snoc h).2
  rw [valL_snoc]
  cases l with
  | nil =>
    have hc : c.toNat ≠ 48 := fun e => h0 (by simp; exact UInt8.toNat_inj.1 e)
    simp only [valL, List.foldl_nil]; omega
  | cons x r =>
    have := ih (all_snoc h).1 (by simp) (by simpa using h0)
    omega
/-- digits without a leading 0 are the digits of their value -/
theorem digs_valL (l : List UInt8) : l.all digB = true → l ≠ [] → (l.length = 1 ∨ l.getD 0 0 ≠ 48) → digs l.length (valL l).natAbs = l := by
  refine rev_ind (P := fun l => l.all digB = true → l ≠ [] → (l.length = 1 ∨ l.getD 0 0 ≠ 48) → digs l.length (valL l).natAbs = l) (fun _ h => absurd rfl h) (fun l c ih h _ h0 => ?_) l
  have h2 := (all_snoc h).2
  have hl := (all_snoc h).1
  have h3 := valL_nonneg l hl
  rw [valL_snoc, List.length_append, List.length_singleton]
  have hc : UInt8.ofNat c.toNat = c := by simp
  cases l with
  | nil =>
    simp only [valL, List.foldl_nil, List.length_nil]
    rw [digs_small 0 _ (by omega)]
    have : 48 + (10 * 0 + ((c.toNat : Int) - 48)).natAbs = c.toNat := by omega
    rw [this, hc]; rfl
  | cons x r =>
    have hx : (x :: r).getD 0 0 ≠ 48 := by
      rcases h0 with h0 | h0
      · simp at h0
      · simpa using h0
    have hp := valL_pos (x :: r) hl (by simp) hx
    have hi := ih hl (by simp) (Or.inr hx)
    rw [digs_big _ _ (by omega)]
    rw [show (10 * valL (x :: r) + ((c.toNat : Int) - 48)).natAbs / 10 = (valL (x :: r)).natAbs from by omega, hi]
    rw [show 48 + (10 * valL (x :: r) + ((c.toNat : Int) - 48)).natAbs % 10 = c.toNat from by omega, hc]
/-- the digits of a number that is not 0 do not begin with a 0 -/
theorem digs_head : ∀ (f n : Nat), 1 ≤ n → n < 10 ^ (f + 1) → (digs (f + 1) n).getD 0 0 ≠ 48 := by
  intro f
  induction f with
  | zero =>
    intro n h h1
    have h' : n < 10 := by simpa using h1
    rw [digs_small _ _ h']
    intro e
    have e2 := ofNat_dig n h'
    have e3 : (UInt8.ofNat (48 + n)) = 48 := by simpa using e
    rw [e3] at e2
    have : ((48 : UInt8).toNat : Int) = 48 := by decide
    omega
  | succ f ih =>
    intro n h h1
    by_cases hn : n < 10
    · rw [digs_small _ _ hn]
      intro e
      have e2 := ofNat_dig n hn
      have e3 : (UInt8.ofNat (48 + n)) = 48 := by simpa using e
      rw [e3] at e2
      have : ((48 : UInt8).toNat : Int) = 48 := by decide
      omega
    · rw [digs_big _ _ (by omega)]
      have := ih (n / 10) (by omega) (by rw [Nat.pow_succ 10 (f + 1)] at h1; omega)
      have hne := digs_ne f (n / 10)
      revert this
      cases hd : digs (f + 1) (n / 10) with
      | nil => exact absurd hd hne
      | cons x r => simp
theorem numL_nat (n : Nat) : numL n = digs 20 n := by simp [numL, show ¬ ((n : Int) < 0) from by omega]

/-- which number from 0 to 999 a text writes, if any -/
def parseL (l : List UInt8) : Option Nat := (List.range 1000).find? fun n : Nat => decide (numL n = l)
theorem valL_numL (n : Nat) (h : n ≤ 999) : valL (numL n) = n := by rw [numL_nat]; exact valL_digs 19 n (Nat.lt_of_le_of_lt h (by decide))
theorem parseL_some {l : List UInt8} {n : Nat} (h : n ≤ 999) (e : numL n = l) : parseL l = some n := by
  unfold parseL
  cases hf : (List.range 1000).find? fun n : Nat => decide (numL n = l) with
  | none =>
    have := List.find?_eq_none.1 hf n (by simp; omega)
    simp [e] at this
  | some m =>
    have h1 := List.find?_some hf
    have h2 := List.mem_of_find?_eq_some hf
    have h1' : numL m = l := by simpa using h1
    have h3 : m < 1000 := by simpa using h2
    have a := valL_numL n h
    have b := valL_numL m (by omega)
    rw [e] at a; rw [h1', a] at b
    have hmn : m = n := by omega
    rw [hmn]
theorem parseL_none {l : List UInt8} (h : ∀ n : Nat, n ≤ 999 → numL n ≠ l) : parseL l = none := by
  unfold parseL
  rw [List.find?_eq_none]
  intro n hn
  have : n < 1000 := by simpa using hn
  simpa using h n (by omega)
theorem parseL_iff {l : List UInt8} {n : Nat} (h : parseL l = some n) : n ≤ 999 ∧ numL n = l := by
  have h1 := List.find?_some h
  have h2 := List.mem_of_find?_eq_some h
  have h3 : n < 1000 := by simpa using h2
  exact ⟨by omega, by simpa using h1⟩
/-- a text that is parsed: its facts -/
theorem numL_len {n : Nat} (h : n ≤ 999) : (numL n).length ≤ 3 := by
  rw [numL_nat, digs_more 19 2 n (Nat.lt_of_le_of_lt h (by decide)) (by simpa using Nat.lt_of_le_of_lt h (by decide))]; exact digs_len _ _
theorem numL_dig (n : Nat) : (numL n).all digB = true := by rw [numL_nat]; exact digs_dig _ _
theorem numL_ne (n : Nat) : numL n ≠ [] := by rw [numL_nat]; exact digs_ne _ _
theorem numL_head {n : Nat} (h : n ≤ 999) (h1 : (numL n).length ≠ 1) : (numL n).getD 0 0 ≠ 48 := by
  have hn : 10 ≤ n := by
    rcases Nat.lt_or_ge n 10 with h' | h'
    · exfalso; apply h1; rw [numL_nat, digs_small _ _ h']; rfl
    · exact h'
  rw [numL_nat]; exact digs_head 19 n (by omega) (Nat.lt_of_le_of_lt h (by decide))
/-- the model's way: the value of the first four, written again -/
theorem parseL_spec (l : List UInt8) : (0 ≤ valL (l.take 4) ∧ valL (l.take 4) ≤ 999 ∧ numL (valL (l.take 4)) = l → parseL l = some (valL (l.take 4)).toNat) ∧
    (¬ (0 ≤ valL (l.take 4) ∧ valL (l.take 4) ≤ 999 ∧ numL (valL (l.take 4)) = l) → parseL l = none) := by
  constructor
  · rintro ⟨h0, h1, h2⟩
    refine parseL_some (by omega) ?_
    rw [show ((valL (l.take 4)).toNat : Int) = valL (l.take 4) from by omega]; exact h2
  · intro h
    refine parseL_none fun n hn e => h ?_
    have hl := numL_len hn
    have hv := valL_numL n hn
    rw [e] at hl hv
    rw [List.take_of_length_le (by omega), hv]
    exact ⟨by omega, by omega, e⟩
theorem parseL_good (l : List UInt8) (hd : l.all digB = true) (hne : l ≠ []) (hz : l.length = 1 ∨ l.getD 0 0 ≠ 48) (hv : valL l ≤ 999) : parseL l = some (valL l).toNat := by
  have h0 := valL_nonneg l hd
  refine parseL_some (by omega) ?_
  rw [numL_nat, show (valL l).toNat = (valL l).natAbs from by omega]
  have hd2 := digs_valL l hd hne hz
  have hlt := valL_lt l hd
  cases hl : l.length with
  | zero => exact absurd (List.eq_nil_of_length_eq_zero hl) hne
  | succ k =>
    rw [hl] at hd2 hlt
    rw [← digs_more k 19 _ hlt (Nat.lt_of_le_of_lt (show (valL l).natAbs ≤ 999 by omega) (by decide)), hd2]
theorem parseL_nil : parseL [] = none := parseL_none fun n _ e => numL_ne n e
theorem parseL_zero (l : List UInt8) (h : l.getD 0 0 = 48) (h1 : 1 < l.length) : parseL l = none := by
  refine parseL_none fun n hn e => ?_
  subst e
  exact numL_head hn (by omega) h
theorem parseL_nodig (l : List UInt8) (k : Nat) (hk : k < l.length) (h : digB (l.getD k 0) = false) : parseL l = none := by
  refine parseL_none fun n _ e => ?_
  subst e
  have := List.all_eq_true.1 (numL_dig n) ((numL n).getD k 0) (by simp only [List.getD_eq_getElem?_getD]; rw [List.getElem?_eq_getElem hk]; simp)
  rw [h] at this; cases this
theorem valL_take (l : List UInt8) (hd : l.all digB = true) (k : Nat) : valL (l.take k) ≤ valL l := by
  rcases Nat.lt_or_ge k l.length with h | h
  · revert k
    refine rev_ind (P := fun l => l.all digB = true → ∀ k, k < l.length → valL (l.take k) ≤ valL l) (fun _ k h => by simp at h) (fun l c ih h k hk => ?_) l hd
    have h2 := (all_snoc h).2
    have hl := (all_snoc h).1
    have h0 := valL_nonneg l hl
    rw [valL_snoc]
    rcases Nat.lt_or_ge k l.length with h3 | h3
    · have := ih hl k h3
      rw [List.take_append_of_le_length (by omega)]; omega
    · have : k = l.length := by simp at hk; omega
      subst this
      rw [List.take_append_of_le_length (by omega), List.take_length]; omega
  · rw [List.take_of_length_le h]; omega
theorem parseL_big (l : List UInt8) (k : Nat) (h : 999 < valL (l.take k)) : parseL l = none := by
  refine parseL_none fun n hn e => ?_
  subst e
  have := valL_take _ (numL_dig n) k
  rw [valL_numL n hn] at this; omega
theorem u8_lt (c : UInt8) : (c.toNat : Int) ≤ 255 := by have := c.toNat_lt; omega
theorem valL_bd (l : List UInt8) : (valL l).natAbs + 23 ≤ 23 * 10 ^ l.length := by
  refine rev_ind (P := fun l => (valL l).natAbs + 23 ≤ 23 * 10 ^ l.length) (by simp [valL]) (fun l c ih => ?_) l
  have := u8_lt c
  rw [valL_snoc, List.length_append, List.length_singleton, Nat.pow_succ]; omega
theorem valL_bd4 (l : List UInt8) (k : Nat) (hk : k ≤ 4) : -230000 ≤ valL (l.take k) ∧ valL (l.take k) ≤ 230000 := by
  have h := valL_bd (l.take k)
  have h1 : (l.take k).length ≤ 4 := by simp; omega
  have h2 : 10 ^ (l.take k).length ≤ 10 ^ 4 := Nat.pow_le_pow_right (by omega) h1
  omega
end Go.Proofs.Yteeopjcbpngofaa
/- Contracts of the model's FormatNumber and ParseNumber. -/
namespace Go.Proofs.Yteeopjcbpngofaa
set_option linter.unusedVariables false
open Go.RowKit
theorem conv_one (w : World) (x : Int) (h0 : 0 ≤ x) (h1 : x ≤ 255) :
    (convert 105 9 (.slice (some ⟨w.heap.size, 0, none⟩) 1 1)).run Try.prog (w.alloc (.cells #[.int .u8 x] 5)) = .ok (.string ⟨[UInt8.ofNat x.toNat].toArray⟩) (w.alloc (.cells #[.int .u8 x] 5)) := by
  refine run_convert_bytes_back (w.alloc (.cells #[.int .u8 x] 5)) 105 9 5 ⟨w.heap.size, 0, none⟩ 1 [UInt8.ofNat x.toNat] Try.underlying105 Try.underlying5 Try.underlying9 ?_
  intro j hj
  have : j = 0 := by simpa using hj
  subst this
  simp [Addr.add]; omega
theorem dig_eq {a b : Nat} (h : a = b) : #[UInt8.ofNat a].toList = [UInt8.ofNat b] := by rw [h]
theorem ret_strB {s : ByteArray} {b : List UInt8} (h : s.data.toList = b) : Ending.returned (.string s) = .returned (.string ⟨b.toArray⟩) := by subst h; simp
theorem data_app (a b : ByteArray) : (a ++ b).data.toList = a.data.toList ++ b.data.toList := by rw [ByteArray.data_append]; simp
theorem ret_str {a b : List UInt8} (h : a = b) : Ending.returned (.string ⟨a.toArray⟩) = .returned (.string ⟨b.toArray⟩) := by rw [h]
theorem ret_strA {a : Array UInt8} {b : List UInt8} (h : a.toList = b) : Ending.returned (.string ⟨a⟩) = .returned (.string ⟨b.toArray⟩) := by subst h; simp
set_option maxHeartbeats 400000 in
set_option maxRecDepth 100000 in
theorem specFormat_pos (k : Nat) (hk50 : k ≤ 50) : ∀ (n : Int) (w : World), 0 ≤ n → n ≤ 9223372036854775807 → n.natAbs < 10 ^ (k + 1) →
    Calls Try.prog 39 #[.int .i64 n] w fun e w' => e = .returned (.string ⟨(digs (k + 1) n.natAbs).toArray⟩) ∧ Below w.heap.size w w' := by
  induction k with
  | zero =>
    intro n w h0 h1 hn
    have hn' : n < 10 := by omega
    have hcv := conv_one w (48 + n % 10) (by omega) (by omega)
    have HD := Lib.hid (digs_small 0 n.natAbs (by omega))
    clear hn h1
    go_enter Try.func39, Try.ntmps39
    go_wp2_with fail
    go_ret
    exact ⟨ret_strA (by rw [HD.out]; exact dig_eq (by omega)), (Below.refl _ _).alloc (Nat.le_refl _) _⟩
  | succ k ih =>
    intro n w h0 h1 hn
    have hcv := conv_one w (48 + n % 10) (by omega) (by omega)
    by_cases h9 : n ≤ 9
    · have HD := Lib.hid (digs_small (k + 1) n.natAbs (by omega))
      clear hn h1
      go_enter Try.func39, Try.ntmps39
      go_wp2_with fail
      go_ret
      exact ⟨ret_strA (by rw [HD.out]; exact dig_eq (by omega)), (Below.refl _ _).alloc (Nat.le_refl _) _⟩
    · have HD := Lib.hid (digs_big (k + 1) n.natAbs (by omega))
      have hk : (n / 10).natAbs < 10 ^ (k + 1) := by rw [Nat.pow_succ] at hn; omega
      have hlen : (digs (k + 1) (n / 10).natAbs).length ≤ 60 := by have := digs_len (k + 1) (n / 10).natAbs; omega
      have h1' : n / 10 ≤ 9223372036854775807 := by omega
      have IH := Lib.hid (ih (by omega) (n / 10) (w.alloc (.cells #[.int .u8 (48 + n % 10)] 5)) (by omega) h1' hk)
      clear hn hk h1' ih
      go_enter Try.func39, Try.ntmps39
      go_wp2_with (go_at_call 39; refine (IH.out).mono ?_; rintro e w1 ⟨rfl, hb⟩)
      go_ret
      refine ⟨ret_strB ?_, ?_⟩
      · rw [HD.out, data_app, show (n / 10).natAbs = n.natAbs / 10 from by omega, show (48 + n % 10).toNat = 48 + n.natAbs % 10 from by omega]
      · exact ((Below.refl _ _).alloc (Nat.le_refl _) _).trans (hb.mono (by simp))
set_option maxHeartbeats 400000 in
set_option maxRecDepth 100000 in
theorem specFormat_any (n : Int) (w : World) (h0 : -9223372036854775808 ≤ n) (h1 : n ≤ 9223372036854775807) :
    Calls Try.prog 39 #[.int .i64 n] w fun e w' => e = .returned (.string ⟨(numL n).toArray⟩) ∧ Below w.heap.size w w' := by
  by_cases hn : 0 ≤ n
  · have e : numL n = digs (19 + 1) n.natAbs := by simp [numL, show ¬ n < 0 from by omega]
    rw [e]
    exact specFormat_pos 19 (by omega) n w hn h1 (by omega)
  · by_cases hm : n = -9223372036854775808
    · subst hm
      have HE := Lib.hid (show numL (-9223372036854775808) = [45, 57, 50, 50, 51, 51, 55, 50, 48, 51, 54, 56, 53, 52, 55, 55, 53, 56, 48, 56] from by decide +kernel)
      clear hn h0 h1
      go_enter Try.func39, Try.ntmps39
      go_wp2_with fail
      go_ret
      exact ⟨ret_strA (by rw [HE.out]), Below.refl _ _⟩
    · have HE := Lib.hid (show numL n = 45 :: digs 20 n.natAbs from by simp [numL, show n < 0 from by omega])
      have h2 : -9223372036854775807 ≤ n := by omega
      have hlen : (digs 20 n.natAbs).length ≤ 60 := by have := digs_len 20 n.natAbs; omega
      have IH := Lib.hid (specFormat_pos 19 (by omega) (-n) w (by omega) (by omega) (by omega))
      clear h0 hm
      go_enter Try.func39, Try.ntmps39
      go_wp2_with (go_at_call 39; refine (IH.out).mono ?_; rintro e w1 ⟨rfl, hb⟩)
      go_ret
      exact ⟨ret_strB (by rw [HE.out, data_app]; simp), hb⟩
end Go.Proofs.Yteeopjcbpngofaa
/- Lists of texts: what the laws' own helpers do with them. -/
namespace Go.Proofs.Yteeopjcbpngofaa
set_option linter.unusedVariables false
open Go.RowKit

theorem rowAt_cell {w : World} {a : Option Addr} {n c : Nat} {xs : List Value} (h : RowAt w (.slice a n c) xs) (k : Nat) (hk : k < xs.length) : ∃ b o, a = some ⟨b, o, none⟩ ∧ b < w.heap.size ∧ w.cell? ⟨b, o + k, none⟩ = some (xs[k]'hk) := by
  obtain ⟨a', c', e, hl, h⟩ := h
  injection e with e1 e2 e3
  subst e1
  rcases h with rfl | ⟨b, o, rfl, hlt, hc⟩
  · simp at hk
  · exact ⟨b, o, rfl, hlt, by rw [hc k hk]; exact List.getElem?_eq_getElem hk⟩
theorem rowAt_cap {w : World} {v : Value} {xs : List Value} (h : RowAt w v xs) : ∃ a c, v = .slice a xs.length c ∧ xs.length ≤ maxLen ∧ xs.length ≤ c := by
  obtain ⟨a, c, rfl, hl, _⟩ := h; exact ⟨a, _, rfl, hl, by omega⟩
theorem rowAt_len {w : World} {v : Value} {xs : List Value} (h : RowAt w v xs) : ∃ a c, v = .slice a xs.length c ∧ xs.length ≤ maxLen := by
  obtain ⟨a, c, rfl, hl, _⟩ := h; exact ⟨a, _, rfl, hl⟩
theorem rowAt_cellS {w : World} {b o n c : Nat} {xs : List Value} (h : RowAt w (.slice (some ⟨b, o, none⟩) n c) xs) (k : Nat) (hk : k < xs.length) : w.cell? ⟨b, o + k, none⟩ = some (xs[k]'hk) := by
  obtain ⟨b', o', e, _, h⟩ := rowAt_cell h k hk
  injection e with e
  injection e with e1 e2
  subst e1; subst e2; exact h
theorem rowAt_drewN {w : World} {v : Value} {xs : List Value} (h : RowAt w v xs) (n : Nat) : RowAt (w.drewN n) v xs := h
theorem below_drewN {B : Nat} {a w : World} (h : Below B a w) (n : Nat) : Below B a (w.drewN n) := ⟨h.os, h.tape, h.output, h.size, h.block⟩
theorem getElem_map_strV (l : List (List UInt8)) (k : Nat) (h : k < (l.map strV).length) : (l.map strV)[k] = strV (l[k]'(by simpa using h)) := by simp
theorem take_eq_step {α : Type} [DecidableEq α] (x y : List α) (hl : x.length = y.length) (k : Nat) (hk : k < x.length) (h : x.take k = y.take k) : (x[k] = y[k]'(by omega)) → x.take (k + 1) = y.take (k + 1) := by
  intro e
  rw [List.take_succ_eq_append_getElem hk, List.take_succ_eq_append_getElem (by omega), h, e]
set_option maxHeartbeats 400000 in
theorem eqStringS_any (v u : Value) (x y : List (List UInt8)) (w : World) (hx : RowAt w v (x.map strV)) (hy : RowAt w u (y.map strV)) :
    Calls Try.prog 16 #[v, u] w fun e w' => e = .returned (.bool (decide (x = y))) ∧ Below w.heap.size w w' := by
  obtain ⟨a, c, rfl, hl⟩ := rowAt_len hx
  obtain ⟨a2, c2, rfl, hl2⟩ := rowAt_len hy
  rw [List.length_map] at *
  have HX := Lib.hid hx
  have HY := Lib.hid hy
  clear hx hy
  unfold maxLen at hl hl2
  by_cases he : x.length = y.length
  · have hb : ((x.length : Int) == y.length) = true := beq_iff_eq.2 (by omega)
    have HE := Lib.hid he
    clear he
    go_enter Try.func16, Try.ntmps16
    go_wp2
    go_loopw [5] (fun i wr => ∃ k : Nat, k ≤ x.length ∧ i = .int .i64 k ∧ x.take k = y.take k ∧ ∃ nq, wr = w.drewN nq) (fun i _ => x.length - (intOf i).toNat)
    case atStart => exact ⟨0, Nat.zero_le _, rfl, rfl, 0, rfl⟩
    case round =>
      obtain ⟨k, hk, rfl, ht, nq, rfl⟩ := hrel
      have HT := Lib.hid ht
      clear ht
      by_cases hlt : k < x.length
      · have hky : k < y.length := by have := HE.out; omega
        obtain ⟨b, o, rfl, _, d1⟩ := rowAt_cell HX.out k (by simpa using hlt)
        obtain ⟨b2, o2, rfl, _, d2⟩ := rowAt_cell HY.out k (by simpa using hky)
        rw [getElem_map_strV] at d1 d2
        unfold strV at d1 d2
        by_cases heq : x[k] = y[k]
        · have hbeq : (x[k] == y[k]) = true := by simpa using heq
          have HN := Lib.hid (take_eq_step x y HE.out k hlt HT.out heq)
          clear heq
          go_wp2
          go_quiet (fail)
          go_wp2
          exact ⟨⟨k + 1, by omega, by go_num, HN.out, _, rfl⟩, by simp [intOf]; omega⟩
        · have hbeq : (x[k] == y[k]) = false := by simpa using heq
          have HN := Lib.hid (show ¬ x = y from fun e => heq (by subst e; rfl))
          clear heq
          go_wp2
          go_quiet (fail)
          go_wp2
          go_ret
          exact ⟨ret_bool (by simp [HN.out]), below_drewN (below_drewN (Below.refl _ _) _) _⟩
      · have HN := Lib.hid (show x = y from by
          have h := HT.out
          rw [List.take_of_length_le (by omega), List.take_of_length_le (by have := HE.out; omega)] at h
          exact h)
        go_wp2
        go_ret
        exact ⟨ret_bool (by simp [HN.out]), below_drewN (Below.refl _ _) _⟩
  · have hb : ((x.length : Int) == y.length) = false := beq_eq_false_iff_ne.2 (by omega)
    have HN := Lib.hid (show ¬ x = y from fun e => he (by rw [e]))
    clear he
    go_enter Try.func16, Try.ntmps16
    go_wp2
    go_ret
    exact ⟨ret_bool (by simp [HN.out]), Below.refl _ _⟩
def total : List (List UInt8) → Nat
  | [] => 0
  | x :: r => x.length + total r
theorem total_take_succ (x : List (List UInt8)) (k : Nat) (h : k < x.length) : total (x.take (k + 1)) = total (x.take k) + (x[k]).length := by
  induction x generalizing k with
  | nil => simp at h
  | cons a r ih =>
    cases k with
    | zero => simp [total]
    | succ k =>
      have := ih k (by simpa using h)
      simp only [List.take_succ_cons, total, List.getElem_cons_succ, this]; omega
theorem size_strB (l : List UInt8) : (⟨l.toArray⟩ : ByteArray).size = l.length := by simp [ByteArray.size]
def SzPost (x : List (List UInt8)) (left : Int) (w : World) (e : Ending) (w' : World) : Prop := ∃ r : Int, e = .returned (.int .i64 r) ∧ -1 ≤ r ∧ (0 ≤ r → (x.length : Int) + total x + r = left) ∧ w = w'
set_option maxHeartbeats 400000 in
theorem szStringS_any (v : Value) (x : List (List UInt8)) (left : Int) (w : World) (hx : RowAt w v (x.map strV)) (hs : ∀ s ∈ x, s.length ≤ maxLen) (h0 : 0 ≤ left) (h1 : left ≤ 1099511627776) :
    Calls Try.prog 44 #[v, .int .i64 left] w fun e w' => SzPost x left w e w' := by
  obtain ⟨a, c, rfl, hl⟩ := rowAt_len hx
  rw [List.length_map] at *
  have HX := Lib.hid hx
  have HS := Lib.hid hs
  clear hx hs
  unfold maxLen at hl
  by_cases hneg : left - (x.length : Int) < 0
  · go_enter Try.func44, Try.ntmps44
    go_wp2
    go_ret
    exact ⟨-1, rfl, by omega, by omega, rfl⟩
  · go_enter Try.func44, Try.ntmps44
    go_wp2
    go_loop [1, 5] (fun r i => ∃ k : Nat, ∃ z : Int, k ≤ x.length ∧ i = .int .i64 k ∧ r = .int .i64 z ∧ 0 ≤ z ∧ z ≤ left ∧ (x.length : Int) + total (x.take k) + z = left) (fun _ i => x.length - (intOf i).toNat)
    case atStart => exact ⟨0, _, Nat.zero_le _, rfl, rfl, by omega, by omega, by simp [total]; omega⟩
    case round =>
      obtain ⟨k, z, hk, rfl, rfl, hz0, hz1, ht⟩ := hrel
      have HT := Lib.hid ht
      clear ht
      by_cases hlt : k < x.length
      · obtain ⟨b, o, rfl, _, d1⟩ := rowAt_cell HX.out k (by simpa using hlt)
        rw [getElem_map_strV] at d1
        unfold strV at d1
        have hsz := size_strB x[k]
        have hmx : (x[k]).length ≤ maxLen := HS.out _ (List.getElem_mem hlt)
        unfold maxLen at hmx
        have HK := Lib.hid (total_take_succ x k hlt)
        by_cases hn2 : z - ((x[k]).length : Int) < 0
        · go_wp2
          go_ret
          exact ⟨-1, rfl, by omega, by omega, rfl⟩
        · go_wp2
          go_round
          case rel => exact ⟨k + 1, _, by omega, by go_num, rfl, by omega, by omega, by rw [HK.out]; have := HT.out; push_cast; omega⟩
          case measure => simp [intOf]; omega
      · have HN := Lib.hid (show x.take k = x from List.take_of_length_le (by omega))
        go_wp2
        go_ret
        exact ⟨z, rfl, by omega, fun _ => by have := HT.out; rw [HN.out] at this; exact this, rfl⟩
theorem string_cells : Try.prog.cellsOf 9 = 1 := by kernel_rfl
theorem string_info : (Try.prog.info? 9).map (fun i => (i.zero, i.size, i.bytes)) = some (some (.string ⟨#[]⟩), 1, 16) := by kernel_rfl
theorem take_set_succ {α : Type} (xs ys : List α) (k : Nat) (h : k < xs.length) (hy : k < ys.length) (ht : xs.take k = ys.take k) : (xs.set k (ys[k])).take (k + 1) = ys.take (k + 1) := by
  rw [List.take_succ_eq_append_getElem (by simpa using h), List.take_succ_eq_append_getElem hy]
  rw [List.take_set_of_le (by omega), ht]; simp
/-- the slice v is a row of the call's own, of texts -/
def Owns (w : World) (B : Nat) (v : Value) (xs : List (List UInt8)) : Prop := w.ownsRow B 9 1 v xs.length (xs.map strV)
theorem ownsRow_below {w w' : World} {B B' : Nat} {e : TypeId} {size n : Nat} {v : Value} {xs : List Value} (h : w.ownsRow B e size v n xs) (hb : Below B' w w') (hB : w.heap.size ≤ B') : w'.ownsRow B e size v n xs :=
  h.kept (row := none) ⟨hb.os, hb.tape, hb.output, hb.size, fun i hi _ => hb.block i (Nat.lt_of_lt_of_le hi hB)⟩ (by cases v.ownBlock <;> simp)
theorem ownsRow_rowAt {w : World} {B : Nat} {e : TypeId} {n : Nat} {v : Value} {xs : List Value} (h : w.ownsRow B e 1 v n xs) (hm : n ≤ maxLen) : RowAt w v xs := by
  have hl : xs.length = n := by simpa using h.1
  rcases h.2 with ⟨rfl, rfl⟩ | ⟨g, cap, cur, rfl, hb, hg, hn, hc, hs, ht⟩
  · have : xs = [] := List.eq_nil_of_length_eq_zero hl
    subst this
    exact ⟨none, 0, rfl, Nat.zero_le _, Or.inl rfl⟩
  · subst hl
    refine ⟨_, _, cap_eq _ hn, hm, Or.inr ⟨g, 0, rfl, (Array.getElem?_eq_some_iff.1 hg).1, fun i hi => ?_⟩⟩
    rw [Nat.zero_add]
    exact World.ownsRow.cellAt h i (by simpa using hi)
set_option maxRecDepth 100000 in
set_option maxHeartbeats 400000 in
theorem toStringS_any (v : Value) (x : List (List UInt8)) (w : World) (hx : RowAt w v (x.map strV)) (hm : x.length ≤ 2097152) :
    Calls Try.prog 52 #[v] w fun e w' => e = .returned (.slice (some ⟨w.heap.size, 0, none⟩) x.length x.length) ∧ Owns w' w.heap.size (.slice (some ⟨w.heap.size, 0, none⟩) x.length x.length) x ∧ Below w.heap.size w w' := by
  obtain ⟨a, c, rfl, hl⟩ := rowAt_len hx
  rw [List.length_map] at *
  obtain ⟨i0, hi, hz0, hz1, hz2⟩ := info_parts string_info
  have HX := Lib.hid hx
  clear hx
  unfold maxLen at hl
  go_enter Try.func52, Try.ntmps52
  have hb2 : i0.bytes * x.length ≤ 281474976710656 := by rw [hz2]; omega
  have HB2 := Lib.hid hb2
  have HM := Lib.hid (show x.length ≤ maxLen from by unfold maxLen; omega)
  clear hb2
  go_wp2_with (refine wpList_make_full _ rfl (.tmp 6) (.tmp 6) 29 rfl w.heap.size 9 i0 (.string ⟨#[]⟩) 1 Try.underlying29 hi hz0 hz1 .i64 .i64 _ _ x.length rfl rfl rfl rfl HB2.out HM.out (Nat.le_refl _) ?_; intro w1 hown1 hgrow1)
  have HO := Lib.hid (show ∃ xs, w1.ownsRow w.heap.size 9 1 (.slice (some ⟨w.heap.size, 0, none⟩) x.length x.length) x.length xs ∧ xs.take 0 = (x.map strV).take 0 from ⟨_, hown1, rfl⟩)
  have HB := Lib.hid (show Below w.heap.size w w1 from ⟨hgrow1.os, hgrow1.tape, hgrow1.output, hgrow1.size, fun i hi => hgrow1.block i hi (by simp)⟩)
  have hsz := hgrow1.size
  clear hown1 hgrow1 hz0 hz1 hz2 HB2 hi
  go_loopw [4] (fun i wr => ∃ k : Nat, k ≤ x.length ∧ i = .int .i64 k ∧ (∃ xs, wr.ownsRow w.heap.size 9 1 (.slice (some ⟨w.heap.size, 0, none⟩) x.length x.length) x.length xs ∧ xs.take k = (x.map strV).take k) ∧ Below w.heap.size w wr) (fun i _ => x.length - (intOf i).toNat)
  case atStart => exact ⟨0, Nat.zero_le _, rfl, HO.out, HB.out⟩
  case round =>
    obtain ⟨k, hk, rfl, ⟨xs, hown, htake⟩, hb⟩ := hrel
    have HR := Lib.hid (RowAt.below HX.out hb (Nat.le_refl _))
    have HBr := Lib.hid hb
    have HOw := Lib.hid hown
    have HT := Lib.hid htake
    have hxl : xs.length = x.length := by simpa using hown.1
    have HXL := Lib.hid hxl
    clear hb hown htake hxl
    by_cases hlt : k < x.length
    · obtain ⟨b, o, rfl, _, d1⟩ := rowAt_cell HR.out k (by simpa using hlt)
      rw [getElem_map_strV] at d1
      unfold strV at d1
      obtain ⟨u, d2⟩ : ∃ u, wr.cell? ⟨w.heap.size, k, none⟩ = some u := by
        have := World.ownsRow.cellAt HOw.out k (by omega)
        rw [this, List.getElem?_eq_getElem (by have := HXL.out; omega)]
        exact ⟨_, rfl⟩
      have f2 := World.ownsRow.frozenAt HOw.out k
      have HN := Lib.hid (take_set_succ xs (x.map strV) k (by have := HXL.out; omega) (by simpa using hlt) HT.out)
      have HS := Lib.hid (World.ownsRow.stored HOw.out k (strV x[k]))
      go_wp2
      refine ⟨⟨k + 1, by omega, by go_num, ⟨_, HS.out.1, ?_⟩, ?_⟩, by simp [intOf]; omega⟩
      · have := HN.out; rwa [getElem_map_strV] at this
      · exact HBr.out.setCell (Nat.le_refl _) _
    · have HN := Lib.hid (show xs = x.map strV from by
        have h := HT.out
        rw [List.take_of_length_le (by have := HXL.out; omega), List.take_of_length_le (by simp; omega)] at h
        exact h)
      go_wp2
      go_ret
      exact ⟨rfl, by have h := HOw.out; rw [HN.out] at h; exact h, HBr.out⟩
/-- the digits of a number, none for 0 -/
def dg0 (m : Nat) : List UInt8 := if m = 0 then [] else digs 20 m
theorem dg0_step (m : Nat) (h0 : 0 < m) (h1 : m ≤ 9223372036854775807) : dg0 m = dg0 (m / 10) ++ [UInt8.ofNat (48 + m % 10)] := by
  have e : dg0 m = digs 20 m := by simp [dg0, show m ≠ 0 from by omega]
  rw [e]
  by_cases h : m < 10
  · have e2 : dg0 (m / 10) = [] := by simp [dg0]; omega
    rw [e2, digs_small 19 m h, show m % 10 = m from by omega]; rfl
  · have e2 : dg0 (m / 10) = digs 20 (m / 10) := by simp [dg0]; omega
    rw [e2, digs_big 19 m (by omega), digs_more 18 19 (m / 10) (by omega) (by omega)]
theorem add48 (x : Nat) : (48 : UInt8) + UInt8.ofNat x = UInt8.ofNat (48 + x) := by rw [UInt8.ofNat_add]; rfl
theorem app_one (a : UInt8) (l : List UInt8) : Value.string (({ data := #[a] } : ByteArray) ++ { data := l.toArray }) = .string { data := (a :: l).toArray } := by
  congr 1
def markL (k : Int) : List UInt8 := 109 :: dg0 k.toNat
theorem dg0_len (m : Nat) : (dg0 m).length ≤ 20 := by
  unfold dg0; split
  · simp
  · exact digs_len 20 m
set_option maxHeartbeats 400000 in
theorem markText_any (k : Int) (w : World) (h0 : 1 ≤ k) (h1 : k ≤ 9223372036854775807) :
    Calls Try.prog 28 #[.int .i64 k] w fun e w' => e = .returned (.string ⟨(markL k).toArray⟩) ∧ Below w.heap.size w w' := by
  go_enter Try.func28, Try.ntmps28
  go_wp2_with fail
  go_loopw [0, 3] (fun kv ov wr => ∃ (m : Nat) (out : List UInt8), kv = .int .i64 m ∧ ov = .string ⟨out.toArray⟩ ∧ (m : Int) ≤ k ∧ dg0 m ++ out = dg0 k.toNat ∧ Below w.heap.size w wr) (fun kv _ _ => (intOf kv).toNat)
  case atStart => exact ⟨k.toNat, [], by rw [show ((k.toNat : Nat) : Int) = k from by omega], rfl, by omega, by simp, Below.refl _ _⟩
  case round =>
    obtain ⟨m, out, rfl, rfl, hm, hout, hb⟩ := hrel
    have HO := Lib.hid hout
    have HB := Lib.hid hb
    have hlen : out.length ≤ 20 := by have h := congrArg List.length hout; have h2 := dg0_len k.toNat; simp at h; omega
    clear hout hb
    by_cases hp : 0 < m
    · have hcv := conv_one wr (48 + (m : Int) % 10) (by omega) (by omega)
      have HS := Lib.hid (dg0_step m hp (by omega))
      go_wp2_with fail
      refine ⟨⟨m / 10, UInt8.ofNat (48 + m % 10) :: out, by go_num, ?_, by omega, ?_, ?_⟩, by simp [intOf]; omega⟩
      · rw [app_one, add48]
      · have h := HO.out; rw [HS.out] at h; rw [← h]; simp
      · exact HB.out.trans (((Below.refl _ wr).alloc (Nat.le_refl _) _).mono HB.out.size)
    · have hm0 : m = 0 := by omega
      have HF := Lib.hid (show out = dg0 k.toNat from by have h := HO.out; subst hm0; simpa [dg0] using h)
      go_wp2_with fail
      go_ret
      exact ⟨ret_strB (by rw [data_app, HF.out]; rfl), HB.out⟩
/-- the marks from k on, n of them -/
def marks (k : Int) (n : Nat) : List (List UInt8) := (List.range n).map fun i : Nat => markL (k + i)
theorem marks_len (k : Int) (n : Nat) : (marks k n).length = n := by simp [marks]
theorem marks_get (k : Int) (n i : Nat) (h : i < n) : (marks k n)[i]'(by rw [marks_len]; exact h) = markL (k + i) := by simp [marks]
theorem markL_len (k : Int) : (markL k).length ≤ 21 := by unfold markL; have := dg0_len k.toNat; simp; omega
theorem grownBy_refl (w : World) (r : Option Nat) : w.grownBy w r := ⟨rfl, rfl, rfl, Nat.le_refl _, fun _ _ _ => rfl⟩
theorem grownBy_trans {a b c : World} {r : Option Nat} (h : a.grownBy b r) (k : b.grownBy c r) : a.grownBy c r :=
  ⟨k.os.trans h.os, k.tape.trans h.tape, k.output.trans h.output, Nat.le_trans h.size k.size, fun i hi hr => (k.block i (Nat.lt_of_lt_of_le hi h.size) hr).trans (h.block i hi hr)⟩
theorem grownBy_below {a b c : World} {B : Nat} {r : Option Nat} (h : a.grownBy b r) (k : Below B b c) (hB : a.heap.size ≤ B) : a.grownBy c r :=
  ⟨k.os.trans h.os, k.tape.trans h.tape, k.output.trans h.output, Nat.le_trans h.size k.size, fun i hi hr => (k.block i (Nat.lt_of_lt_of_le hi hB)).trans (h.block i hi hr)⟩
set_option maxHeartbeats 400000 in
theorem markStringS_any (B : Nat) (v : Value) (x : List (List UInt8)) (k : Int) (w : World) (hO : Owns w B v x) (hm : x.length ≤ 4194304) (h0 : 1 ≤ k) (h1 : k ≤ 4194304) :
    Calls Try.prog 17 #[v, .int .i64 k] w fun e w' => e = .returned (.int .i64 (k + x.length)) ∧ Owns w' B v (marks k x.length) ∧ w.grownBy w' v.ownBlock := by
  unfold Owns at hO
  rcases hO.2 with ⟨rfl, hn⟩ | ⟨g, cap, cur, rfl, _⟩
  · have hx : x = [] := List.eq_nil_of_length_eq_zero hn
    subst hx
    go_enter Try.func17, Try.ntmps17
    go_wp2_with fail
    refine wp_loop_rounds 1 ?_
    rw [rounds_succ]
    go_wp2_with fail
    go_ret
    exact ⟨ret_int (by simp), by simpa [Owns, marks] using hO, grownBy_refl _ _⟩
  · have HO := Lib.hid (show ∃ xs, w.ownsRow B 9 1 (.slice (some ⟨g, 0, none⟩) x.length cap) x.length xs ∧ xs.take 0 = ((marks k x.length).map strV).take 0 from ⟨_, hO, rfl⟩)
    have hgw : g < w.heap.size := (hO.lt g rfl).2
    clear hO
    go_enter Try.func17, Try.ntmps17
    go_wp2_with fail
    go_loopw [1, 5] (fun kv i wr => ∃ j : Nat, j ≤ x.length ∧ i = .int .i64 j ∧ kv = .int .i64 (k + j) ∧ (∃ xs, wr.ownsRow B 9 1 (.slice (some ⟨g, 0, none⟩) x.length cap) x.length xs ∧ xs.take j = ((marks k x.length).map strV).take j) ∧ w.grownBy wr (some g)) (fun _ i _ => x.length - (intOf i).toNat)
    case atStart => exact ⟨0, Nat.zero_le _, rfl, by simp, HO.out, grownBy_refl _ _⟩
    case round =>
      obtain ⟨j, hj, rfl, rfl, ⟨xs, hown, htake⟩, hg⟩ := hrel
      have HG := Lib.hid hg
      have HOw := Lib.hid hown
      have HT := Lib.hid htake
      have HXL := Lib.hid (show xs.length = x.length by simpa using hown.1)
      clear hg hown htake
      by_cases hlt : j < x.length
      · go_wp2_with fail
        refine (markText_any (k + j) wr (by omega) (by omega)).mono ?_
        rintro e w1 ⟨rfl, hb⟩
        have hsz := HG.out.size
        have HO1 := Lib.hid (ownsRow_below HOw.out hb (Nat.le_refl _))
        have HG1 := Lib.hid (grownBy_below HG.out hb hsz)
        clear hb
        obtain ⟨u, d2⟩ : ∃ u, w1.cell? ⟨g, j, none⟩ = some u := by
          have := World.ownsRow.cellAt HO1.out j (by omega)
          rw [this, List.getElem?_eq_getElem (by have := HXL.out; omega)]
          exact ⟨_, rfl⟩
        have f2 := World.ownsRow.frozenAt HO1.out j
        have HN := Lib.hid (take_set_succ xs ((marks k x.length).map strV) j (by have := HXL.out; omega) (by simp [marks_len]; omega) HT.out)
        have HS := Lib.hid (World.ownsRow.stored HO1.out j (strV (markL (k + j))))
        go_wp2_with fail
        refine ⟨⟨j + 1, by omega, by go_num, ?_, ⟨_, HS.out.1, ?_⟩, ?_⟩, by simp [intOf]; omega⟩
        · congr 1; omega
        · have := HN.out; rwa [getElem_map_strV, marks_get k _ j hlt] at this
        · exact grownBy_trans HG1.out HS.out.2
      · have HN := Lib.hid (show xs = (marks k x.length).map strV from by
          have h := HT.out
          rw [List.take_of_length_le (by have := HXL.out; omega), List.take_of_length_le (by simp [marks_len]; omega)] at h
          exact h)
        go_wp2_with fail
        go_ret
        exact ⟨ret_int (by omega), by have h := HOw.out; rw [HN.out] at h; unfold Owns; rw [marks_len]; exact h, HG.out⟩
set_option maxHeartbeats 400000 in
theorem heldStringS_any (v : Value) (n : Nat) (k : Int) (w : World) (hR : RowAt w v ((marks k n).map strV)) (hm : n ≤ 4194304) (h0 : 1 ≤ k) (h1 : k ≤ 4194304) :
    Calls Try.prog 18 #[v, .int .i64 k] w fun e w' => e = .returned (.int .i64 (k + n)) ∧ Below w.heap.size w w' := by
  obtain ⟨a, c, rfl, hl⟩ := rowAt_len hR
  rw [List.length_map, marks_len] at *
  have HR := Lib.hid hR
  clear hR
  unfold maxLen at hl
  go_enter Try.func18, Try.ntmps18
  go_wp2_with fail
  go_loopw [1, 5] (fun kv i wr => ∃ j : Nat, j ≤ n ∧ i = .int .i64 j ∧ kv = .int .i64 (k + j) ∧ Below w.heap.size w wr) (fun _ i _ => n - (intOf i).toNat)
  case atStart => exact ⟨0, Nat.zero_le _, rfl, by simp, Below.refl _ _⟩
  case round =>
    obtain ⟨j, hj, rfl, rfl, hb⟩ := hrel
    have HB := Lib.hid hb
    have HRr := Lib.hid (RowAt.below HR.out hb (Nat.le_refl _))
    clear hb
    by_cases hlt : j < n
    · obtain ⟨b, o, rfl, hbw, d1⟩ := rowAt_cell HRr.out j (by simp [marks_len]; omega)
      rw [getElem_map_strV, marks_get k n j hlt] at d1
      unfold strV at d1
      have hbeq : (markL (k + j) == markL (k + j)) = true := by simp
      have hj0 : (0 : Int) ≤ (j : Int) := Int.natCast_nonneg _
      have hj1 : (j : Int) < (n : Int) := by omega
      go_wp2_with fail
      go_region_held3 (fun w' => w'.cell? ⟨b, o + j, none⟩ = some (.string ⟨(markL (k + j)).toArray⟩))
        (first
          | go_keep
          | (rw [hb1.cell (p := ⟨b, o + j, none⟩) (by simpa using hbw)]; assumption))
        ((go_at_call 28; refine (markText_any (k + j) _ (by omega) (by omega)).mono ?_; rintro e w1 ⟨rfl, hb1⟩))
      have HB1 := Lib.hid (HB.out.trans ((show Below wr.heap.size wr w1 from ⟨hb1.os, hb1.tape, hb1.output, hb1.size, hb1.block⟩).mono HB.out.size))
      clear hb1
      go_wp2_with fail
      exact ⟨⟨j + 1, by omega, by go_num, by congr 1; omega, HB1.out⟩, by simp [intOf]; omega⟩
    · go_wp2_with fail
      go_ret
      exact ⟨ret_int (by omega), HB.out⟩
/-- append of one text to a row of the call's own -/
theorem append_strs {ops : Array Oper} {rest : List Oper} {o : Oper} {a : Act} {Q : Exit → Act → World → Prop} (hgd : o.guard = none) (s x : Operand)
    (ho : o.op = .call { callee := .builtin .append, args := #[s, x], argTypes := #[29, 29] }) (B : Nat) (v : Value) (xs : List (List UInt8)) (y : List UInt8) (w : World) (blk : Nat)
    (hs : a.eval s = v) (hO : Owns w B v xs) (hx : a.eval x = .slice (some ⟨blk, 0, none⟩) 1 1) (hc : w.cell? ⟨blk, 0, none⟩ = some (strV y)) (hl : xs.length ≤ 4194304) (hB : B ≤ w.heap.size)
    (h : ∀ v' w', Owns w' B v' (xs ++ [y]) → w.grownBy w' v.ownBlock → wpList Try.prog ops Q rest (a.put o.dst v') w') : wpList Try.prog ops Q (o :: rest) a w := by
  obtain ⟨i0, hi, hz0, hz1, hz2⟩ := info_parts string_info
  refine wpList_append_own _ hgd s x 29 ho B 9 i0 (.string ⟨#[]⟩) 1 16 Try.underlying29 hi hz0 hz1 hz2 rfl (by decide) v xs.length (xs.map strV) hs hO ⟨blk, 0, none⟩ 1 1 [strV y] hx rfl ?_ ?_ (by unfold maxLen; omega) (by omega) hB ?_
  · intro j u hj
    cases j with
    | zero => simp at hj; subst hj; rw [Addr.add_lit]; exact hc
    | succ j => simp at hj
  · intro u hu; simp at hu; subst hu; rfl
  · intro v' w' h1 h2 _
    refine h v' w' ?_ h2
    unfold Owns; rw [List.map_append, List.length_append]; exact h1
/-- the same; what is not nil is not nil then -/
theorem append_strsN {ops : Array Oper} {rest : List Oper} {o : Oper} {a : Act} {Q : Exit → Act → World → Prop} (hgd : o.guard = none) (s x : Operand)
    (ho : o.op = .call { callee := .builtin .append, args := #[s, x], argTypes := #[29, 29] }) (B : Nat) (v : Value) (xs : List (List UInt8)) (y : List UInt8) (w : World) (blk : Nat)
    (hs : a.eval s = v) (hO : Owns w B v xs) (hx : a.eval x = .slice (some ⟨blk, 0, none⟩) 1 1) (hc : w.cell? ⟨blk, 0, none⟩ = some (strV y)) (hl : xs.length ≤ 4194304) (hB : B ≤ w.heap.size) (hnn : v ≠ .slice none 0 0)
    (h : ∀ v' w', Owns w' B v' (xs ++ [y]) → w.grownBy w' v.ownBlock → v' ≠ .slice none 0 0 → wpList Try.prog ops Q rest (a.put o.dst v') w') : wpList Try.prog ops Q (o :: rest) a w := by
  obtain ⟨i0, hi, hz0, hz1, hz2⟩ := info_parts string_info
  refine wpList_append_own _ hgd s x 29 ho B 9 i0 (.string ⟨#[]⟩) 1 16 Try.underlying29 hi hz0 hz1 hz2 rfl (by decide) v xs.length (xs.map strV) hs hO ⟨blk, 0, none⟩ 1 1 [strV y] hx rfl ?_ ?_ (by unfold maxLen; omega) (by omega) hB ?_
  · intro j u hj
    cases j with
    | zero => simp at hj; subst hj; rw [Addr.add_lit]; exact hc
    | succ j => simp at hj
  · intro u hu; simp at hu; subst hu; rfl
  · intro v' w' h1 h2 h3
    refine h v' w' ?_ h2 (fun e => hnn (h3.1 e).1)
    unfold Owns; rw [List.map_append, List.length_append]; exact h1
theorem owns_new (w : World) : Owns (w.alloc (.cells #[] 9)) w.heap.size (.slice (some ⟨w.heap.size, 0, none⟩) 0 0) [] :=
  World.ownsRow_made w #[] 0 (Nat.le_refl _) (Nat.zero_le _) rfl
theorem cell_new (w : World) (t : TypeId) (y : Value) : (w.alloc (.cells #[y] t)).cell? ⟨w.heap.size, 0, none⟩ = some y :=
  (cell_of_row _ _ 0 _ t (0, 0) (heap_alloc_new w _)).trans rfl
theorem cell_newS (w : World) (t : TypeId) (s : ByteArray) (blk : Nat) (h : blk = w.heap.size) : (w.alloc (.cells #[.string s] t)).cell? ⟨blk, 0, none⟩ = some (strV s.data.toList) := by
  subst h; rw [cell_new]; simp [strV]
theorem owns_alloc {w : World} {B : Nat} {v : Value} {xs : List (List UInt8)} (h : Owns w B v xs) (o : Obj) : Owns (w.alloc o) B v xs := World.ownsRow.alloc h o
theorem owns_below {w w' : World} {B B' : Nat} {v : Value} {xs : List (List UInt8)} (h : Owns w B v xs) (hb : Below B' w w') (hB : w.heap.size ≤ B') : Owns w' B v xs := ownsRow_below h hb hB
/-- what an append left: nothing below B has turned -/
theorem below_append {a w w' : World} {B : Nat} {v : Value} {xs : List (List UInt8)} (hb : Below B a w) (hO : Owns w B v xs) (hg : w.grownBy w' v.ownBlock) (hB : B ≤ w.heap.size) : Below B a w' :=
  hb.grown hg hB (fun k hk => (World.ownsRow.lt hO k hk).1)
/-- a new row of texts -/
def GivesRow (x : List (List UInt8)) (w : World) (e : Ending) (w' : World) : Prop := ∃ v, e = .returned v ∧ Owns w' w.heap.size v x ∧ Below w.heap.size w w'
theorem owns_row {w : World} {B : Nat} {v : Value} {x : List (List UInt8)} (h : Owns w B v x) (hm : x.length ≤ 4194304) : RowAt w v (x.map strV) := ownsRow_rowAt h (by unfold maxLen; omega)
end Go.Proofs.Yteeopjcbpngofaa
/- Lists of integers: what the laws' own helpers do with them. -/
namespace Go.Proofs.Yteeopjcbpngofaa
set_option linter.unusedVariables false
open Go.RowKit
theorem take_eq_stepI (x y : List Int) (hl : x.length = y.length) (k : Nat) (hk : k < x.length) (h : x.take k = y.take k) : (x[k] = y[k]) → x.take (k + 1) = y.take (k + 1) := by
  intro e
  rw [List.take_succ_eq_append_getElem hk, List.take_succ_eq_append_getElem (by omega), h, e]
def intV (n : Int) : Value := .int .i64 n
theorem getElem_map_intV (l : List Int) (k : Nat) (h : k < (l.map intV).length) : (l.map intV)[k] = intV (l[k]'(by simpa using h)) := by simp
theorem int_info : (Try.prog.info? 3).map (fun i => (i.zero, i.size, i.bytes)) = some (some (.int .i64 0), 1, 8) := by kernel_rfl
/-- the slice v is a row of the call's own, of integers -/
def OwnsI (w : World) (B : Nat) (v : Value) (xs : List Int) : Prop := w.ownsRow B 3 1 v xs.length (xs.map intV)
theorem ownsI_row {w : World} {B : Nat} {v : Value} {x : List Int} (h : OwnsI w B v x) (hm : x.length ≤ 4194304) : RowAt w v (x.map intV) := ownsRow_rowAt h (by unfold maxLen; omega)
theorem ownsI_new (w : World) : OwnsI (w.alloc (.cells #[] 3)) w.heap.size (.slice (some ⟨w.heap.size, 0, none⟩) 0 0) [] :=
  World.ownsRow_made w #[] 0 (Nat.le_refl _) (Nat.zero_le _) rfl
theorem ownsI_alloc {w : World} {B : Nat} {v : Value} {xs : List Int} (h : OwnsI w B v xs) (o : Obj) : OwnsI (w.alloc o) B v xs := World.ownsRow.alloc h o
theorem ownsI_below {w w' : World} {B B' : Nat} {v : Value} {xs : List Int} (h : OwnsI w B v xs) (hb : Below B' w w') (hB : w.heap.size ≤ B') : OwnsI w' B v xs := ownsRow_below h hb hB
theorem below_appendI {a w w' : World} {B : Nat} {v : Value} {xs : List Int} (hb : Below B a w) (hO : OwnsI w B v xs) (hg : w.grownBy w' v.ownBlock) (hB : B ≤ w.heap.size) : Below B a w' :=
  hb.grown hg hB (fun k hk => (World.ownsRow.lt hO k hk).1)
/-- a new row of integers -/
def GivesRowI (x : List Int) (w : World) (e : Ending) (w' : World) : Prop := ∃ v, e = .returned v ∧ OwnsI w' w.heap.size v x ∧ Below w.heap.size w w'
theorem append_ints {ops : Array Oper} {rest : List Oper} {o : Oper} {a : Act} {Q : Exit → Act → World → Prop} (hgd : o.guard = none) (s x : Operand)
    (ho : o.op = .call { callee := .builtin .append, args := #[s, x], argTypes := #[161, 161] }) (B : Nat) (v : Value) (xs : List Int) (y : Int) (w : World) (blk : Nat)
    (hs : a.eval s = v) (hO : OwnsI w B v xs) (hx : a.eval x = .slice (some ⟨blk, 0, none⟩) 1 1) (hc : w.cell? ⟨blk, 0, none⟩ = some (intV y)) (hl : xs.length ≤ 4194304) (hB : B ≤ w.heap.size)
    (h : ∀ v' w', OwnsI w' B v' (xs ++ [y]) → w.grownBy w' v.ownBlock → wpList Try.prog ops Q rest (a.put o.dst v') w') : wpList Try.prog ops Q (o :: rest) a w := by
  obtain ⟨i0, hi, hz0, hz1, hz2⟩ := info_parts int_info
  refine wpList_append_own _ hgd s x 161 ho B 3 i0 (.int .i64 0) 1 8 Try.underlying161 hi hz0 hz1 hz2 rfl (by decide) v xs.length (xs.map intV) hs hO ⟨blk, 0, none⟩ 1 1 [intV y] hx rfl ?_ ?_ (by unfold maxLen; omega) (by omega) hB ?_
  · intro j u hj
    cases j with
    | zero => simp at hj; subst hj; rw [Addr.add_lit]; exact hc
    | succ j => simp at hj
  · intro u hu; simp at hu; subst hu; rfl
  · intro v' w' h1 h2 _
    refine h v' w' ?_ h2
    unfold OwnsI; rw [List.map_append, List.length_append]; exact h1
/-- the marks from k on, n of them -/
def marksI (k : Int) (n : Nat) : List Int := (List.range n).map fun i : Nat => k + i
theorem marksI_len (k : Int) (n : Nat) : (marksI k n).length = n := by simp [marksI]
theorem marksI_get (k : Int) (n i : Nat) (h : i < n) : (marksI k n)[i]'(by rw [marksI_len]; exact h) = k + i := by simp [marksI]
end Go.Proofs.Yteeopjcbpngofaa
/- Slices of structs whose fields are numbers, bools and texts: how they read, and rows of one's own of them. -/
namespace Go.Proofs.Yteeopjcbpngofaa
set_option linter.unusedVariables false
open Go.RowKit
/-- a slice value reads, in world w, as n elements of k cells each, whose cells are cs -/
def RowsAt (w : World) (v : Value) (k n : Nat) (cs : List Value) : Prop :=
  ∃ a c, v = .slice a n (n + c) ∧ cs.length = n * k ∧ n ≤ maxLen ∧ (n = 0 ∨ ∃ b o, a = some ⟨b, o, none⟩ ∧ b < w.heap.size ∧ ∀ i, i < n * k → w.cell? ⟨b, o + i, none⟩ = cs[i]?)
theorem RowsAt.below {w w' : World} {v : Value} {k n : Nat} {xs : List Value} {B : Nat} (h : RowsAt w v k n xs) (hb : Below B w w') (hB : w.heap.size ≤ B) : RowsAt w' v k n xs := by
  obtain ⟨a, c, rfl, hl, hm, h⟩ := h
  refine ⟨a, c, rfl, hl, hm, h.imp id ?_⟩
  rintro ⟨b, o, rfl, hlt, hc⟩
  exact ⟨b, o, rfl, Nat.lt_of_lt_of_le hlt hb.size, fun i hi => by rw [hb.cell (p := ⟨b, o + i, none⟩) (Nat.lt_of_lt_of_le hlt hB)]; exact hc i hi⟩
theorem rowsAt_drewN {w : World} {v : Value} {k n : Nat} {xs : List Value} (h : RowsAt w v k n xs) (m : Nat) : RowsAt (w.drewN m) v k n xs := h
theorem flat_len {α : Type} (f : α → List Value) (k : Nat) (hk : ∀ x, (f x).length = k) (l : List α) : (l.flatMap f).length = l.length * k := by
  induction l with
  | nil => simp
  | cons d r ih => rw [List.flatMap_cons, List.length_append, ih, hk, List.length_cons, Nat.succ_mul, Nat.add_comm]
theorem flat_get {α : Type} (f : α → List Value) (k : Nat) (hk : ∀ x, (f x).length = k) (l : List α) (i : Nat) (h : i < l.length) (j : Nat) (hj : j < k) : (l.flatMap f)[i * k + j]? = (f l[i])[j]? := by
  induction l generalizing i with
  | nil => simp at h
  | cons d r ih =>
    rw [List.flatMap_cons]
    cases i with
    | zero => rw [Nat.zero_mul, Nat.zero_add, List.getElem?_append_left (by rw [hk]; exact hj)]; rfl
    | succ i =>
      have h2 := ih i (by simpa using h)
      rw [List.getElem?_append_right (by rw [hk, Nat.succ_mul]; omega), hk, show (i + 1) * k + j - k = i * k + j by rw [Nat.succ_mul]; omega]
      exact h2
/-- the slice v reads as the elements l -/
def FlatAt {α : Type} (f : α → List Value) (k : Nat) (w : World) (v : Value) (l : List α) : Prop := RowsAt w v k l.length (l.flatMap f)
theorem FlatAt.below {α : Type} {f : α → List Value} {k : Nat} {w w' : World} {v : Value} {l : List α} {B : Nat} (h : FlatAt f k w v l) (hb : Below B w w') (hB : w.heap.size ≤ B) : FlatAt f k w' v l := RowsAt.below h hb hB
theorem flatAt_len {α : Type} {f : α → List Value} {k : Nat} {w : World} {v : Value} {l : List α} (h : FlatAt f k w v l) : ∃ a c, v = .slice a l.length c ∧ l.length ≤ maxLen := by
  obtain ⟨a, c, rfl, _, hm, _⟩ := h; exact ⟨a, _, rfl, hm⟩
theorem flatAt_cap {α : Type} {f : α → List Value} {k : Nat} {w : World} {v : Value} {l : List α} (h : FlatAt f k w v l) : ∃ a c, v = .slice a l.length c ∧ l.length ≤ maxLen ∧ l.length ≤ c := by
  obtain ⟨a, c, rfl, _, hm, _⟩ := h; exact ⟨a, _, rfl, hm, by omega⟩
theorem flatAt_cell {α : Type} {f : α → List Value} {k : Nat} (hk : ∀ x, (f x).length = k) {w : World} {a : Option Addr} {n c : Nat} {l : List α} (h : FlatAt f k w (.slice a n c) l) (i : Nat) (hi : i < l.length) (h0 : 0 < k) :
    ∃ b o, a = some ⟨b, o, none⟩ ∧ b < w.heap.size ∧ ∀ j, j < k → w.cell? ⟨b, o + i * k + j, none⟩ = (f l[i])[j]? := by
  obtain ⟨a', c', e, hl, hm, h⟩ := h
  injection e with e1 e2 e3
  subst e1
  rcases h with h | ⟨b, o, rfl, hlt, hc⟩
  · omega
  · refine ⟨b, o, rfl, hlt, fun j hj => ?_⟩
    rw [Nat.add_assoc, hc (i * k + j) ?_, flat_get f k hk l i hi j hj]
    have h1 : (i + 1) * k ≤ l.length * k := Nat.mul_le_mul_right k hi
    rw [Nat.succ_mul] at h1; omega
/-- a row of the call's own, of such elements -/
def OwnsF {α : Type} (f : α → List Value) (E k : Nat) (w : World) (B : Nat) (v : Value) (l : List α) : Prop := w.ownsRow B E k v l.length (l.flatMap f)
theorem ownsF_at {α : Type} {f : α → List Value} {E k : Nat} {w : World} {B : Nat} {v : Value} {l : List α} (h : OwnsF f E k w B v l) (hm : l.length ≤ 4194304) : FlatAt f k w v l := by
  have hl := h.1
  rcases h.2 with ⟨rfl, hn⟩ | ⟨g, cap, cur, rfl, hb, hg, hn, hc, hs, ht⟩
  · exact ⟨none, 0, by rw [hn], hl, by unfold maxLen; omega, Or.inl hn⟩
  · refine ⟨_, _, cap_eq _ hn, hl, by unfold maxLen; omega, Or.inr ⟨g, 0, rfl, (Array.getElem?_eq_some_iff.1 hg).1, fun i hi => ?_⟩⟩
    rw [Nat.zero_add]
    exact World.ownsRow.cellAt h i hi
theorem ownsF_new {α : Type} (f : α → List Value) (E k : Nat) (w : World) : OwnsF f E k (w.alloc (.cells #[] E)) w.heap.size (.slice (some ⟨w.heap.size, 0, none⟩) 0 0) [] :=
  World.ownsRow_made w #[] 0 (Nat.le_refl _) (Nat.zero_le _) (by simp)
theorem ownsF_alloc {α : Type} {f : α → List Value} {E k : Nat} {w : World} {B : Nat} {v : Value} {l : List α} (h : OwnsF f E k w B v l) (o : Obj) : OwnsF f E k (w.alloc o) B v l := World.ownsRow.alloc h o
theorem ownsF_below {α : Type} {f : α → List Value} {E k : Nat} {w w' : World} {B B' : Nat} {v : Value} {l : List α} (h : OwnsF f E k w B v l) (hb : Below B' w w') (hB : w.heap.size ≤ B') : OwnsF f E k w' B v l := ownsRow_below h hb hB
theorem below_appendF {α : Type} {f : α → List Value} {E k : Nat} {a w w' : World} {B : Nat} {v : Value} {l : List α} (hb : Below B a w) (hO : OwnsF f E k w B v l) (hg : w.grownBy w' v.ownBlock) (hB : B ≤ w.heap.size) : Below B a w' :=
  hb.grown hg hB (fun j hj => (World.ownsRow.lt hO j hj).1)
/-- a new row of such elements -/
def GivesF {α : Type} (f : α → List Value) (E k : Nat) (l : List α) (w : World) (e : Ending) (w' : World) : Prop := ∃ v, e = .returned v ∧ OwnsF f E k w' w.heap.size v l ∧ Below w.heap.size w w'
/-- append of one element, which lies in a block of its own, to a row of one's own -/
theorem append_flat {α : Type} {f : α → List Value} {E S k bytes : Nat} {z : Value} (hk : ∀ x, (f x).length = k) (h1 : ∀ x, ∀ u ∈ f x, u.oneCell' = true) (hinfo : (Try.prog.info? E).map (fun i => (i.zero, i.size, i.bytes)) = some (some z, k, bytes))
    (hz : z.cells.size = k) (hk0 : 0 < k) (hbytes : bytes ≤ 1024) (hS : Try.prog.underlying S = some (.slice E))
    {ops : Array Oper} {rest : List Oper} {o : Oper} {a : Act} {Q : Exit → Act → World → Prop} (hgd : o.guard = none) (s x : Operand)
    (ho : o.op = .call { callee := .builtin .append, args := #[s, x], argTypes := #[S, S] }) (B : Nat) (v : Value) (l : List α) (y : α) (w : World) (blk : Nat)
    (hs : a.eval s = v) (hO : OwnsF f E k w B v l) (hx : a.eval x = .slice (some ⟨blk, 0, none⟩) 1 1) (hc : ∀ j, j < k → w.cell? ⟨blk, j, none⟩ = (f y)[j]?) (hl : l.length ≤ 4194304) (hB : B ≤ w.heap.size)
    (h : ∀ v' w', OwnsF f E k w' B v' (l ++ [y]) → w.grownBy w' v.ownBlock → wpList Try.prog ops Q rest (a.put o.dst v') w') : wpList Try.prog ops Q (o :: rest) a w := by
  obtain ⟨i0, hi, hz0, hz1, hz2⟩ := info_parts hinfo
  refine wpList_append_own _ hgd s x S ho B E i0 z k bytes hS hi hz0 hz1 hz2 hz hk0 v l.length (l.flatMap f) hs hO ⟨blk, 0, none⟩ 1 1 (f y) hx (by rw [hk, Nat.one_mul]) ?_ ?_ (by unfold maxLen; omega) ?_ hB ?_
  · intro j u hj
    have hj2 : j < k := by have := (List.getElem?_eq_some_iff.1 hj).1; rwa [hk] at this
    rw [Addr.add_lit, Nat.zero_add, hc j hj2]; exact hj
  · exact h1 y
  · have : (l.length + 1) * bytes ≤ 4194305 * 1024 := Nat.mul_le_mul (by omega) hbytes
    omega
  · intro v' w' h2 h3 _
    refine h v' w' ?_ h3
    unfold OwnsF; rw [List.flatMap_append, List.length_append]; simpa using h2
theorem take_set_get {α : Type} (xs ys : List α) (m : Nat) (u : α) (hm : m < xs.length) (hy : ys[m]? = some u) (ht : xs.take m = ys.take m) : (xs.set m u).take (m + 1) = ys.take (m + 1) := by
  obtain ⟨h, rfl⟩ := List.getElem?_eq_some_iff.1 hy
  exact take_set_succ xs ys m hm h ht
/-- what a measure of sizes answers: -1, or what is left -/
def SzF (n : Int) (left : Int) (w : World) (e : Ending) (w' : World) : Prop := ∃ r : Int, e = .returned (.int .i64 r) ∧ -1 ≤ r ∧ (0 ≤ r → n + r = left) ∧ Below w.heap.size w w'
def sumF {α : Type} (sz : α → Nat) : List α → Nat
  | [] => 0
  | x :: r => sz x + sumF sz r
theorem sumF_take_succ {α : Type} (sz : α → Nat) (x : List α) (k : Nat) (h : k < x.length) : sumF sz (x.take (k + 1)) = sumF sz (x.take k) + sz (x[k]) := by
  induction x generalizing k with
  | nil => simp at h
  | cons a r ih =>
    cases k with
    | zero => simp [sumF]
    | succ k =>
      have := ih k (by simpa using h)
      simp only [List.take_succ_cons, sumF, List.getElem_cons_succ, this]; omega
theorem sumF_mem {α : Type} (sz : α → Nat) (x : List α) (a : α) (h : a ∈ x) : sz a ≤ sumF sz x := by
  induction x with
  | nil => simp at h
  | cons b r ih =>
    rcases List.mem_cons.1 h with h | h
    · subst h; simp only [sumF]; omega
    · have := ih h; simp only [sumF]; omega
/-- rows of elements of two types are not the same -/
theorem rows_apart {w : World} {B B' : Nat} {e e' : TypeId} {k k' n m : Nat} {v u : Value} {xs ys : List Value} (h : w.ownsRow B e k v n xs) (h' : w.ownsRow B' e' k' u m ys) (hne : e ≠ e') : v.ownBlock = none ∨ v.ownBlock ≠ u.ownBlock := by
  rcases h.2 with ⟨rfl, _⟩ | ⟨g, cap, cur, rfl, _, hg, _⟩
  · exact Or.inl rfl
  · right
    rcases h'.2 with ⟨rfl, _⟩ | ⟨g2, cap2, cur2, rfl, _, hg2, _⟩
    · simp [Value.ownBlock]
    · intro e
      simp [Value.ownBlock] at e
      subst e
      rw [hg] at hg2
      injection hg2 with hg2
      injection hg2 with _ h2 _
      exact hne h2
/-- a row of texts of one's own is as it was, where a row of other elements has grown -/
theorem owns_keptF {α : Type} {f : α → List Value} {E k : Nat} {w w' : World} {B B' : Nat} {v u : Value} {xs : List (List UInt8)} {l : List α} (h : Owns w B v xs) (h' : OwnsF f E k w B' u l) (hg : w.grownBy w' u.ownBlock) (hne : 9 ≠ E) : Owns w' B v xs :=
  World.ownsRow.kept h hg (rows_apart h h' hne)
theorem ownsF_keptF {α β : Type} {f : α → List Value} {f' : β → List Value} {E E' k k' : Nat} {w w' : World} {B B' : Nat} {v u : Value} {l : List α} {l' : List β} (h : OwnsF f E k w B v l) (h' : OwnsF f' E' k' w B' u l') (hg : w.grownBy w' u.ownBlock) (hne : E ≠ E') : OwnsF f E k w' B v l :=
  World.ownsRow.kept h hg (rows_apart h h' hne)
theorem ownsF_keptS {α : Type} {f : α → List Value} {E k : Nat} {w w' : World} {B B' : Nat} {v u : Value} {l : List α} {xs : List (List UInt8)} (h : OwnsF f E k w B v l) (h' : Owns w B' u xs) (hg : w.grownBy w' u.ownBlock) (hne : E ≠ 9) : OwnsF f E k w' B v l :=
  World.ownsRow.kept h hg (rows_apart h h' hne)
theorem ownsF_base {α : Type} {f : α → List Value} {E k : Nat} {w : World} {B B' : Nat} {v : Value} {l : List α} (h : OwnsF f E k w B v l) (hB : B' ≤ B) : OwnsF f E k w B' v l := by
  refine ⟨h.1, h.2.imp id ?_⟩
  rintro ⟨g, cap, cur, h1, h2, h3⟩
  exact ⟨g, cap, cur, h1, Nat.le_trans hB h2, h3⟩
theorem ownsF_set {α : Type} {f : α → List Value} {E k : Nat} {w : World} {B : Nat} {v : Value} {l : List α} {p : Addr} {u : Value} (h : OwnsF f E k w B v l) (hp : p.block < B) : OwnsF f E k (w.setCell p u) B v l := by
  refine World.ownsRow.kept h (row := some p.block) ⟨rfl, rfl, rfl, by simp, fun i hi hne => Below.heap_setCell w p u i (fun e => hne (by rw [e]))⟩ ?_
  cases hv : v.ownBlock with
  | none => exact Or.inl rfl
  | some g => right; intro e; have h1 := (World.ownsRow.lt h g hv).1; injection e with e; omega
end Go.Proofs.Yteeopjcbpngofaa
/- What the walks of the exact laws use: rows of one's own in a range of blocks; what is marked; the law's own variables. -/
namespace Go.Proofs.Yteeopjcbpngofaa
set_option linter.unusedVariables false
open Go.RowKit
theorem below_step {w X w' : World} (h : Below w.heap.size w X) (hb : Below X.heap.size X w') : Below w.heap.size w w' := h.trans (hb.mono h.size)
theorem belA {w X : World} (h : Below w.heap.size w X) (o : Obj) : Below w.heap.size w (X.alloc o) := h.alloc h.size o
theorem allocK {X : World} {b o : Nat} {v : Value} (hlt : b < X.heap.size) (h : X.cell? ⟨b, o, none⟩ = some v) (ob : Obj) : (X.alloc ob).cell? ⟨b, o, none⟩ = some v :=
  (((Below.refl X.heap.size X).alloc (Nat.le_refl _) ob).cell (p := ⟨b, o, none⟩) hlt).trans h
theorem below_le {w X w' : World} (h : Below w.heap.size w X) (hb : Below X.heap.size X w') : w.heap.size ≤ X.heap.size := h.size
theorem below_to {w w1 X : World} (h : Below w.heap.size w w1) (hb : Below w1.heap.size w1 X) : Below w.heap.size w X := h.trans (hb.mono h.size)
theorem belD {B : Nat} {a w : World} (h : Below B a w) : Below B a w.drew := ⟨h.os, h.tape, h.output, h.size, h.block⟩
theorem belN {B : Nat} {a w : World} (h : Below B a w) (n : Nat) : Below B a (w.drewN n) := ⟨h.os, h.tape, h.output, h.size, h.block⟩
theorem maxlen_at {w w1 X : World} {n : Nat} {u : Value} (h : Below w.heap.size w w1) (hlt : n < w.heap.size) (hm : w.cell? ⟨n, 0, none⟩ = some u) (hb : Below w1.heap.size w1 X) : X.cell? ⟨n, 0, none⟩ = some u :=
  ((below_to h hb).cell (p := ⟨n, 0, none⟩) hlt).trans hm
theorem below_of_eq {P : Program} {f : FuncId} {args : Array Value} {w : World} {v : Value} (h : Calls P f args w fun e w' => e = .returned v ∧ w = w') : Calls P f args w fun e w' => e = .returned v ∧ Below w.heap.size w w' :=
  h.mono fun _ _ ⟨h1, h2⟩ => ⟨h1, by subst h2; exact Below.refl _ _⟩
theorem ownsF_all {α : Type} {f : α → List Value} {E k : Nat} {w w' : World} {B : Nat} {v : Value} {l : List α} (h : OwnsF f E k w B v l) (hb : Below w.heap.size w w') : OwnsF f E k w' B v l := ownsF_below h hb (Nat.le_refl _)
theorem below_list1 {w w1 : World} (h : Below w.heap.size w w1) : Below w.heap.size w w1 := h
theorem below_list2 {w w1 w2 : World} (h : Below w.heap.size w w1) (h2 : Below w1.heap.size w1 w2) : Below w.heap.size w w2 := h.trans (h2.mono h.size)
/-- nothing but blocks from lo on and below hi has turned -/
structure Betw (lo hi : Nat) (w w' : World) : Prop where
  os : w'.os = w.os
  tape : w'.tape = w.tape
  output : w'.output = w.output
  size : w.heap.size ≤ w'.heap.size
  block : ∀ k, k < w.heap.size → (k < lo ∨ hi ≤ k) → w'.heap[k]? = w.heap[k]?
theorem betw_below {lo hi : Nat} {c w w' : World} (h : Below c.heap.size c w) (hb : Betw lo hi w w') (hB : c.heap.size ≤ lo) : Below c.heap.size c w' :=
  h.trans ⟨hb.os, hb.tape, hb.output, hb.size, fun k hk => hb.block k (by have := h.size; omega) (Or.inl (by omega))⟩
theorem betw_cell {lo hi : Nat} {w w' : World} (hb : Betw lo hi w w') (n o : Nat) (hlt : n < w.heap.size) (hr : n < lo ∨ hi ≤ n) : w'.cell? ⟨n, o, none⟩ = w.cell? ⟨n, o, none⟩ :=
  World.cell?_of_block (hb.block n hlt hr)
def OwnR {α : Type} (f : α → List Value) (E k : Nat) (w : World) (lo hi : Nat) (v : Value) (l : List α) : Prop := OwnsF f E k w lo v l ∧ ∀ g, v.ownBlock = some g → g < hi
theorem ownR_of {α : Type} {f : α → List Value} {E k : Nat} {w : World} {lo : Nat} {v : Value} {l : List α} (h : OwnsF f E k w lo v l) : OwnR f E k w lo w.heap.size v l := ⟨h, fun g hg => (World.ownsRow.lt h g hg).2⟩
theorem ownR_below {α : Type} {f : α → List Value} {E k : Nat} {w w' : World} {lo hi B' : Nat} {v : Value} {l : List α} (h : OwnR f E k w lo hi v l) (hb : Below B' w w') (hB : w.heap.size ≤ B') : OwnR f E k w' lo hi v l := ⟨ownsF_below h.1 hb hB, h.2⟩
theorem ownR_at {α : Type} {f : α → List Value} {E k : Nat} {w : World} {lo hi : Nat} {v : Value} {l : List α} (h : OwnR f E k w lo hi v l) (hm : l.length ≤ 4194304) : FlatAt f k w v l := ownsF_at h.1 hm
theorem ownR_betw {α : Type} {f : α → List Value} {E k : Nat} {w w' : World} {lo hi lo2 hi2 : Nat} {v : Value} {l : List α} (h : OwnR f E k w lo hi v l) (hb : Betw lo2 hi2 w w') (hd : hi ≤ lo2 ∨ hi2 ≤ lo) : OwnR f E k w' lo hi v l := by
  refine ⟨⟨h.1.1, ?_⟩, h.2⟩
  rcases h.1.2 with h1 | ⟨g, cap, cur, rfl, h2, h3, h4⟩
  · exact Or.inl h1
  · have hg := h.2 g rfl
    exact Or.inr ⟨g, cap, cur, rfl, h2, (hb.block g (Array.getElem?_eq_some_iff.1 h3).1 (by omega)).trans h3, h4⟩
theorem own_lo {α : Type} {f : α → List Value} {E k : Nat} {w : World} {B : Nat} {v : Value} {l : List α} (ho : OwnsF f E k w B v l) : ∃ L, L = B ∧ OwnsF f E k w L v l := ⟨B, rfl, ho⟩
theorem mark_range {α : Type} {f : α → List Value} {E k : Nat} {P : Program} {F : FuncId} {args : Array Value} {w : World} {lo hi : Nat} {v : Value} {l l' : List α} {r : Ending} (hO : OwnR f E k w lo hi v l)
    (h : Calls P F args w fun e w' => e = r ∧ OwnsF f E k w' lo v l' ∧ w.grownBy w' v.ownBlock) : Calls P F args w fun e w' => e = r ∧ OwnR f E k w' lo hi v l' ∧ Betw lo hi w w' :=
  h.mono fun e w' ⟨h1, h2, h3⟩ => ⟨h1, ⟨h2, hO.2⟩, ⟨h3.os, h3.tape, h3.output, h3.size, fun k hk hr => h3.block k hk (fun e => by
    have a := (World.ownsRow.lt hO.1 k e.symm).1
    have b := hO.2 k e.symm
    omega)⟩⟩
end Go.Proofs.Yteeopjcbpngofaa
/- Rows of structs that hold rows themselves: how they read, and what keeps them. -/
namespace Go.Proofs.Yteeopjcbpngofaa
set_option linter.unusedVariables false
open Go.RowKit
/-- nothing in the blocks from F on has turned -/
structure Kept (F : Nat) (w w' : World) : Prop where
  size : w.heap.size ≤ w'.heap.size
  block : ∀ k, F ≤ k → k < w.heap.size → w'.heap[k]? = w.heap[k]?
theorem Kept.refl (F : Nat) (w : World) : Kept F w w := ⟨Nat.le_refl _, fun _ _ _ => rfl⟩
theorem Kept.trans {F : Nat} {a b c : World} (h : Kept F a b) (k : Kept F b c) : Kept F a c :=
  ⟨Nat.le_trans h.size k.size, fun i hF hi => (k.block i hF (Nat.lt_of_lt_of_le hi h.size)).trans (h.block i hF hi)⟩
theorem Kept.mono {F F' : Nat} {a b : World} (h : Kept F a b) (hF : F ≤ F') : Kept F' a b := ⟨h.size, fun i h1 hi => h.block i (Nat.le_trans hF h1) hi⟩
theorem kept_below {B F : Nat} {w w' : World} (h : Below B w w') (hB : w.heap.size ≤ B) : Kept F w w' := ⟨h.size, fun i _ hi => h.block i (Nat.lt_of_lt_of_le hi hB)⟩
theorem Kept.thenB {B F : Nat} {a w w' : World} (k : Kept F a w) (h : Below B w w') (hB : w.heap.size ≤ B) : Kept F a w' := k.trans (kept_below h hB)
theorem Kept.alloc {F : Nat} {a w : World} (h : Kept F a w) (o : Obj) : Kept F a (w.alloc o) := h.trans (kept_below ((Below.refl w.heap.size w).alloc (Nat.le_refl _) o) (Nat.le_refl _))
theorem Kept.setCell {F : Nat} {a w : World} (h : Kept F a w) {p : Addr} (hp : p.block < F) (u : Value) : Kept F a (w.setCell p u) :=
  ⟨by simpa using h.size, fun i hF hi => (Below.heap_setCell w p u i (by omega)).trans (h.block i hF hi)⟩
theorem Kept.drew {F : Nat} {a w : World} (h : Kept F a w) : Kept F a w.drew := ⟨h.size, h.block⟩
theorem Kept.drewN {F : Nat} {a w : World} (h : Kept F a w) (n : Nat) : Kept F a (w.drewN n) := ⟨h.size, h.block⟩
theorem Kept.grown {F : Nat} {a w w' : World} {r : Option Nat} (h : Kept F a w) (hg : w.grownBy w' r) (hr : ∀ b, r = some b → b < F) : Kept F a w' :=
  h.trans ⟨hg.size, fun i hF hi => hg.block i hi (fun e => by have := hr i e.symm; omega)⟩
theorem Kept.cell {F : Nat} {w w' : World} (h : Kept F w w') (b o : Nat) (h1 : F ≤ b) (h2 : b < w.heap.size) : w'.cell? ⟨b, o, none⟩ = w.cell? ⟨b, o, none⟩ := World.cell?_of_block (h.block b h1 h2)
/-- what a reading of k cells must bear -/
structure Good {α : Type} (R : Nat → World → List Value → α → Prop) (k : Nat) : Prop where
  len : ∀ {F w cs x}, R F w cs x → cs.length = k
  keep : ∀ {F w w' cs x}, R F w cs x → Kept F w w' → R F w' cs x
  mono : ∀ {F F' w cs x}, R F w cs x → F' ≤ F → R F' w cs x
def rFlat {α : Type} (f : α → List Value) : Nat → World → List Value → α → Prop := fun _ _ cs x => cs = f x
theorem good_flat {α : Type} {f : α → List Value} {k : Nat} (hk : ∀ x, (f x).length = k) : Good (rFlat f) k :=
  ⟨fun h => by rw [h]; exact hk _, fun h _ => h, fun h _ => h⟩
/-- the slice v reads, in world w, as the elements l; what it holds lies in blocks from F on -/
def SliceAt {α : Type} (R : Nat → World → List Value → α → Prop) (k F : Nat) (w : World) (v : Value) (l : List α) : Prop :=
  ∃ a c, v = .slice a l.length (l.length + c) ∧ l.length ≤ maxLen ∧ (l.length = 0 ∨ ∃ b o, a = some ⟨b, o, none⟩ ∧ F ≤ b ∧ b < w.heap.size ∧ ∀ (i : Nat) (h : i < l.length), ∃ cs, R F w cs l[i] ∧ ∀ j, j < k → w.cell? ⟨b, o + i * k + j, none⟩ = cs[j]?)
section
variable {α : Type} {R : Nat → World → List Value → α → Prop} {k : Nat}
theorem SliceAt.keep {F : Nat} {w w' : World} {v : Value} {l : List α} (h : SliceAt R k F w v l) (g : Good R k) (hk : Kept F w w') : SliceAt R k F w' v l := by
  obtain ⟨a, c, rfl, hl, h⟩ := h
  refine ⟨a, c, rfl, hl, h.imp id ?_⟩
  rintro ⟨b, o, rfl, hF, hlt, hc⟩
  refine ⟨b, o, rfl, hF, Nat.lt_of_lt_of_le hlt hk.size, fun i hi => ?_⟩
  obtain ⟨cs, h1, h2⟩ := hc i hi
  exact ⟨cs, g.keep h1 hk, fun j hj => (hk.cell b _ hF hlt).trans (h2 j hj)⟩
theorem SliceAt.below {F B : Nat} {w w' : World} {v : Value} {l : List α} (h : SliceAt R k F w v l) (g : Good R k) (hb : Below B w w') (hB : w.heap.size ≤ B) : SliceAt R k F w' v l := h.keep g (kept_below hb hB)
theorem SliceAt.mono {F F' : Nat} {w : World} {v : Value} {l : List α} (h : SliceAt R k F w v l) (g : Good R k) (hF : F' ≤ F) : SliceAt R k F' w v l := by
  obtain ⟨a, c, rfl, hl, h⟩ := h
  refine ⟨a, c, rfl, hl, h.imp id ?_⟩
  rintro ⟨b, o, rfl, hF2, hlt, hc⟩
  refine ⟨b, o, rfl, Nat.le_trans hF hF2, hlt, fun i hi => ?_⟩
  obtain ⟨cs, h1, h2⟩ := hc i hi
  exact ⟨cs, g.mono h1 hF, h2⟩
theorem sliceAt_len {F : Nat} {w : World} {v : Value} {l : List α} (h : SliceAt R k F w v l) : ∃ a c, v = .slice a l.length c ∧ l.length ≤ maxLen := by
  obtain ⟨a, c, rfl, hl, _⟩ := h; exact ⟨a, _, rfl, hl⟩
theorem sliceAt_cap {F : Nat} {w : World} {v : Value} {l : List α} (h : SliceAt R k F w v l) : ∃ a c, v = .slice a l.length c ∧ l.length ≤ maxLen ∧ l.length ≤ c := by
  obtain ⟨a, c, rfl, hl, _⟩ := h; exact ⟨a, _, rfl, hl, by omega⟩
theorem sliceAt_cell {F : Nat} {w : World} {a : Option Addr} {n c : Nat} {l : List α} (h : SliceAt R k F w (.slice a n c) l) (i : Nat) (hi : i < l.length) :
    ∃ b o cs, a = some ⟨b, o, none⟩ ∧ b < w.heap.size ∧ R F w cs l[i] ∧ ∀ j, j < k → w.cell? ⟨b, o + i * k + j, none⟩ = cs[j]? := by
  obtain ⟨a', c', e, hl, h⟩ := h
  injection e with e1 e2 e3
  subst e1
  rcases h with h | ⟨b, o, rfl, _, hlt, hc⟩
  · omega
  · obtain ⟨cs, h1, h2⟩ := hc i hi
    exact ⟨b, o, cs, rfl, hlt, h1, h2⟩
theorem sliceAt_nil (F : Nat) (w : World) : SliceAt R k F w (.slice none 0 0) ([] : List α) := ⟨none, 0, rfl, Nat.zero_le _, Or.inl rfl⟩
/-- a beginning of a slice -/
theorem sliceAt_take {F : Nat} {w : World} {a : Option Addr} {n c c' : Nat} {l : List α} (h : SliceAt R k F w (.slice a n c) l) (m : Nat) (hm : m ≤ l.length) (hc' : m ≤ c') : SliceAt R k F w (.slice a m c') (l.take m) := by
  obtain ⟨a', c2, e, hl, h⟩ := h
  injection e with e1 e2 e3
  subst e1
  have hlen : (l.take m).length = m := by rw [List.length_take]; omega
  refine ⟨a, c' - m, by rw [hlen, Nat.add_sub_of_le hc'], by omega, ?_⟩
  rcases h with h | ⟨b, o, rfl, hF, hlt, hc⟩
  · exact Or.inl (by omega)
  · refine Or.inr ⟨b, o, rfl, hF, hlt, fun i hi => ?_⟩
    have hi2 : i < l.length := by omega
    obtain ⟨cs, h1, h2⟩ := hc i hi2
    exact ⟨cs, by rw [List.getElem_take]; exact h1, h2⟩
/-- the cells xs hold the elements l, one behind the other -/
def Cells (R : Nat → World → List Value → α → Prop) (k F : Nat) (w : World) (xs : List Value) (l : List α) : Prop := ∀ (i : Nat) (h : i < l.length), ∃ cs, R F w cs l[i] ∧ ∀ j, j < k → xs[i * k + j]? = cs[j]?
theorem Cells.keep {F : Nat} {w w' : World} {xs : List Value} {l : List α} (h : Cells R k F w xs l) (g : Good R k) (hk : Kept F w w') : Cells R k F w' xs l := by
  intro i hi
  obtain ⟨cs, h1, h2⟩ := h i hi
  exact ⟨cs, g.keep h1 hk, h2⟩
theorem Cells.nil (F : Nat) (w : World) (xs : List Value) : Cells R k F w xs ([] : List α) := fun i hi => absurd hi (Nat.not_lt_zero _)
theorem Cells.snoc {F : Nat} {w : World} {xs ys : List Value} {l : List α} {x : α} {cs : List Value} (h : Cells R k F w xs l) (hx : R F w cs x) (h1 : ∀ i, i < l.length * k → ys[i]? = xs[i]?) (h2 : ∀ j, j < k → ys[l.length * k + j]? = cs[j]?) : Cells R k F w ys (l ++ [x]) := by
  intro i hi
  by_cases hlt : i < l.length
  · obtain ⟨cs', e1, e2⟩ := h i hlt
    refine ⟨cs', by rw [List.getElem_append_left hlt]; exact e1, fun j hj => ?_⟩
    rw [h1 _ ?_]
    · exact e2 j hj
    · have h3 : (i + 1) * k ≤ l.length * k := Nat.mul_le_mul_right k hlt
      rw [Nat.succ_mul] at h3; omega
  · have hi2 : i = l.length := by simp at hi; omega
    subst hi2
    exact ⟨cs, by simpa using hx, h2⟩
theorem sliceAt_of_row {F E : Nat} {w : World} {B : Nat} {v : Value} {xs : List Value} {l : List α} (h : w.ownsRow B E k v l.length xs) (hc : Cells R k F w xs l) (hF : F ≤ B) (hm : l.length ≤ 4194304) : SliceAt R k F w v l := by
  have hl := h.1
  rcases h.2 with ⟨rfl, hn⟩ | ⟨g, cap, cur, rfl, hb, hg, hn, hc2, hs, ht⟩
  · exact ⟨none, 0, by rw [hn], by unfold maxLen; omega, Or.inl hn⟩
  · refine ⟨_, _, cap_eq _ hn, by unfold maxLen; omega, Or.inr ⟨g, 0, rfl, by omega, (Array.getElem?_eq_some_iff.1 hg).1, fun i hi => ?_⟩⟩
    obtain ⟨cs, e1, e2⟩ := hc i hi
    refine ⟨cs, e1, fun j hj => ?_⟩
    rw [Nat.zero_add, World.ownsRow.cellAt h (i * k + j) ?_]
    · exact e2 j hj
    · have h3 : (i + 1) * k ≤ l.length * k := Nat.mul_le_mul_right k hi
      rw [Nat.succ_mul] at h3; omega
end
section
variable {α : Type} {f : α → List Value} {k : Nat}
theorem sliceAt_of_flat {w : World} {v : Value} {l : List α} (hk : ∀ x, (f x).length = k) (h : FlatAt f k w v l) : SliceAt (rFlat f) k 0 w v l := by
  obtain ⟨a, c, rfl, hl, hm, h⟩ := h
  refine ⟨a, c, rfl, hm, h.imp id ?_⟩
  rintro ⟨b, o, rfl, hlt, hc⟩
  refine ⟨b, o, rfl, Nat.zero_le _, hlt, fun i hi => ⟨f l[i], rfl, fun j hj => ?_⟩⟩
  rw [Nat.add_assoc, hc (i * k + j) ?_, flat_get f k hk l i hi j hj]
  have h3 : (i + 1) * k ≤ l.length * k := Nat.mul_le_mul_right k hi
  rw [Nat.succ_mul] at h3; omega
theorem flatAt_of_slice {F : Nat} {w : World} {v : Value} {l : List α} (hk : ∀ x, (f x).length = k) (hk0 : 0 < k) (h : SliceAt (rFlat f) k F w v l) : FlatAt f k w v l := by
  obtain ⟨a, c, rfl, hm, h⟩ := h
  refine ⟨a, c, rfl, flat_len f k hk l, hm, h.imp id ?_⟩
  rintro ⟨b, o, rfl, _, hlt, hc⟩
  refine ⟨b, o, rfl, hlt, fun i hi => ?_⟩
  have hq : i / k < l.length := Nat.div_lt_of_lt_mul (by rw [Nat.mul_comm]; exact hi)
  have hr : i % k < k := Nat.mod_lt _ hk0
  obtain ⟨cs, h1, h2⟩ := hc (i / k) hq
  have h3 := h2 (i % k) hr
  have e1 : i / k * k + i % k = i := by rw [Nat.mul_comm]; exact Nat.div_add_mod i k
  rw [show o + i / k * k + i % k = o + i by omega] at h3
  rw [h3, ← e1, flat_get f k hk l (i / k) hq (i % k) hr, h1, e1]
theorem sliceAt_of_owns {E : Nat} {w : World} {B : Nat} {v : Value} {l : List α} (hk : ∀ x, (f x).length = k) (h : OwnsF f E k w B v l) (hm : l.length ≤ 4194304) : SliceAt (rFlat f) k B w v l := by
  refine sliceAt_of_row h (fun i hi => ⟨f l[i], rfl, fun j hj => flat_get f k hk l i hi j hj⟩) (Nat.le_refl _) hm
end
/-- texts as rows of one cell -/
def cStr (s : List UInt8) : List Value := [strV s]
theorem cStr_len (s : List UInt8) : (cStr s).length = 1 := rfl
theorem cStr_map (l : List (List UInt8)) : l.flatMap cStr = l.map strV := by induction l with | nil => rfl | cons a r ih => simp [cStr, ih]
abbrev rStr := rFlat cStr
theorem good_str : Good rStr 1 := good_flat cStr_len
theorem flat_of_row {w : World} {v : Value} {l : List (List UInt8)} (h : RowAt w v (l.map strV)) : FlatAt cStr 1 w v l := by
  obtain ⟨a, c, rfl, hl, h⟩ := h
  rw [List.length_map] at *
  refine ⟨a, c, rfl, by rw [cStr_map, List.length_map, Nat.mul_one], hl, h.imp (fun e => by simpa using congrArg List.length e) ?_⟩
  rintro ⟨b, o, rfl, hlt, hc⟩
  exact ⟨b, o, rfl, hlt, fun i hi => by rw [cStr_map]; exact hc i (by simpa using hi)⟩
theorem row_of_flat {w : World} {v : Value} {l : List (List UInt8)} (h : FlatAt cStr 1 w v l) : RowAt w v (l.map strV) := by
  obtain ⟨a, c, rfl, hl, hm, h⟩ := h
  refine ⟨a, c, by rw [List.length_map], by rw [List.length_map]; exact hm, ?_⟩
  rw [List.length_map]
  refine h.imp (fun e => by rw [List.eq_nil_of_length_eq_zero e]; rfl) ?_
  rintro ⟨b, o, rfl, hlt, hc⟩
  exact ⟨b, o, rfl, hlt, fun i hi => by rw [hc i (by omega), cStr_map]⟩
theorem row_of_slice {F : Nat} {w : World} {v : Value} {l : List (List UInt8)} (h : SliceAt rStr 1 F w v l) : RowAt w v (l.map strV) := row_of_flat (flatAt_of_slice cStr_len (by decide) h)
theorem slice_of_row {w : World} {v : Value} {l : List (List UInt8)} (h : RowAt w v (l.map strV)) : SliceAt rStr 1 0 w v l := sliceAt_of_flat cStr_len (flat_of_row h)
theorem slice_of_owns {w : World} {B : Nat} {v : Value} {l : List (List UInt8)} (h : Owns w B v l) (hm : l.length ≤ 4194304) : SliceAt rStr 1 B w v l :=
  sliceAt_of_owns (E := 9) cStr_len (by unfold OwnsF; rw [cStr_map]; exact h) hm
theorem belS {w X w' : World} (h : Below w.heap.size w X) (hb : Below X.heap.size X w') : Below w.heap.size w w' := h.trans (hb.mono h.size)
theorem bcellR {W w1 : World} (hb : Below W.heap.size W w1) : (∀ b o, b < W.heap.size → w1.cell? ⟨b, o, none⟩ = W.cell? ⟨b, o, none⟩) ∧ (∀ b o, b < W.heap.size → w1.frozen? ⟨b, o, none⟩ = W.frozen? ⟨b, o, none⟩) :=
  ⟨fun b o h => hb.cell (p := ⟨b, o, none⟩) h, fun b o h => hb.frozen (p := ⟨b, o, none⟩) h⟩
/-- a variable in a block of its own, of the cells cs -/
structure Bx (w : World) (b : Nat) (cs : List Value) : Prop where
  lt : b < w.heap.size
  cell : ∀ j (h : j < cs.length), w.cell? ⟨b, j, none⟩ = some (cs[j]'h)
  froz : ∀ j, j < cs.length → w.frozen? ⟨b, j, none⟩ = false
theorem Bx.below {w w' : World} {b : Nat} {cs : List Value} (h : Bx w b cs) (hb : Below w.heap.size w w') : Bx w' b cs :=
  ⟨Nat.lt_of_lt_of_le h.lt hb.size, fun j hj => (hb.cell (p := ⟨b, j, none⟩) h.lt).trans (h.cell j hj), fun j hj => (hb.frozen (p := ⟨b, j, none⟩) h.lt).trans (h.froz j hj)⟩
theorem bx_set_ne {w : World} {b c i j : Nat} {u : Value} (h : b ≠ c ∨ i ≠ j) : (w.setCell ⟨c, j, none⟩ u).cell? ⟨b, i, none⟩ = w.cell? ⟨b, i, none⟩ :=
  World.cell?_setCell_other (a := ⟨c, j, none⟩) (b := ⟨b, i, none⟩) (h := fun e => by injection e with e1 e2; rcases h with h | h <;> omega) ..
theorem Bx.set {w : World} {b : Nat} {cs : List Value} (h : Bx w b cs) (j : Nat) (hj : j < cs.length) (u : Value) : Bx (w.setCell ⟨b, j, none⟩ u) b (cs.set j u) := by
  refine ⟨by simpa using h.lt, fun i hi => ?_, fun i hi => ?_⟩
  · have hi2 : i < cs.length := by rwa [List.length_set] at hi
    by_cases hij : i = j
    · subst hij
      rw [World.cell?_setCell_same' w ⟨b, i, none⟩ u (by rw [h.cell i hi2]; rfl)]; simp
    · rw [bx_set_ne (Or.inr hij), h.cell i hi2, List.getElem_set_ne (by omega)]
  · rw [List.length_set] at hi
    simpa using h.froz i hi
theorem Bx.other {w : World} {b c : Nat} {cs : List Value} (h : Bx w b cs) (hne : b ≠ c) (j : Nat) (u : Value) : Bx (w.setCell ⟨c, j, none⟩ u) b cs :=
  ⟨by simpa using h.lt, fun i hi => (bx_set_ne (Or.inl hne)).trans (h.cell i hi), fun i hi => by simpa using h.froz i hi⟩
theorem Bx.new (w : World) (cs : List Value) (t : TypeId) : Bx (w.alloc (.cells cs.toArray t)) w.heap.size cs :=
  ⟨by simp, fun j hj => by rw [cell_of_row _ _ j _ t (0, 0) (heap_alloc_new w _)]; simp [List.getElem?_eq_getElem hj], fun j hj => by simp⟩
theorem bx_box (w : World) (o : Obj) : Below w.heap.size w (w.alloc o) := (Below.refl _ _).alloc (Nat.le_refl _) o
theorem Bx.alloc {w : World} {b : Nat} {cs : List Value} (h : Bx w b cs) (o : Obj) : Bx (w.alloc o) b cs := h.below (bx_box w o)
theorem bx_start1 (w : World) (c1 : List Value) (t1 : TypeId) : Bx (w.alloc (.cells c1.toArray t1)) w.heap.size c1 ∧ Below w.heap.size w (w.alloc (.cells c1.toArray t1)) := ⟨Bx.new w c1 t1, bx_box w _⟩
theorem bx_start2 (w : World) (c1 c2 : List Value) (t1 t2 : TypeId) : Bx ((w.alloc (.cells c1.toArray t1)).alloc (.cells c2.toArray t2)) w.heap.size c1 ∧ Bx ((w.alloc (.cells c1.toArray t1)).alloc (.cells c2.toArray t2)) (w.heap.size + 1) c2 ∧ Below w.heap.size w ((w.alloc (.cells c1.toArray t1)).alloc (.cells c2.toArray t2)) := by
  have h := Bx.new (w.alloc (.cells c1.toArray t1)) c2 t2
  rw [show (w.alloc (.cells c1.toArray t1)).heap.size = w.heap.size + 1 by simp] at h
  exact ⟨(Bx.new w c1 t1).alloc _, h, belS (bx_box w _) (bx_box _ _)⟩
theorem bx_start3 (w : World) (c1 c2 c3 : List Value) (t1 t2 t3 : TypeId) : Bx (((w.alloc (.cells c1.toArray t1)).alloc (.cells c2.toArray t2)).alloc (.cells c3.toArray t3)) w.heap.size c1 ∧ Bx (((w.alloc (.cells c1.toArray t1)).alloc (.cells c2.toArray t2)).alloc (.cells c3.toArray t3)) (w.heap.size + 1) c2 ∧ Bx (((w.alloc (.cells c1.toArray t1)).alloc (.cells c2.toArray t2)).alloc (.cells c3.toArray t3)) (w.heap.size + 1 + 1) c3 ∧ Below w.heap.size w (((w.alloc (.cells c1.toArray t1)).alloc (.cells c2.toArray t2)).alloc (.cells c3.toArray t3)) := by
  obtain ⟨h1, h2, h3⟩ := bx_start2 w c1 c2 t1 t2
  have h := Bx.new ((w.alloc (.cells c1.toArray t1)).alloc (.cells c2.toArray t2)) c3 t3
  rw [show ((w.alloc (.cells c1.toArray t1)).alloc (.cells c2.toArray t2)).heap.size = w.heap.size + 1 + 1 by simp] at h
  exact ⟨h1.alloc _, h2.alloc _, h, belS h3 (bx_box _ _)⟩
/-- a struct by its value -/
def ValAt {α : Type} (R : Nat → World → List Value → α → Prop) (F : Nat) (w : World) (v : Value) (x : α) : Prop := ∃ cs, v = .agg cs.toArray ∧ R F w cs x
theorem ValAt.keep {α : Type} {R : Nat → World → List Value → α → Prop} {k F : Nat} {w w' : World} {v : Value} {x : α} (h : ValAt R F w v x) (g : Good R k) (hk : Kept F w w') : ValAt R F w' v x := by
  obtain ⟨cs, rfl, h⟩ := h; exact ⟨cs, rfl, g.keep h hk⟩
theorem ValAt.below {α : Type} {R : Nat → World → List Value → α → Prop} {k F B : Nat} {w w' : World} {v : Value} {x : α} (h : ValAt R F w v x) (g : Good R k) (hb : Below B w w') (hB : w.heap.size ≤ B) : ValAt R F w' v x := h.keep g (kept_below hb hB)
/-- a new struct, or a new slice, that reads as x -/
def GivesV {α : Type} (R : Nat → World → List Value → α → Prop) (x : α) (w : World) (e : Ending) (w' : World) : Prop := ∃ cs, e = .returned (.agg cs.toArray) ∧ R w.heap.size w' cs x ∧ Below w.heap.size w w'
def GivesS {α : Type} (R : Nat → World → List Value → α → Prop) (k : Nat) (l : List α) (w : World) (e : Ending) (w' : World) : Prop := ∃ v, e = .returned v ∧ SliceAt R k w.heap.size w' v l ∧ Below w.heap.size w w'
theorem slice_of {α : Type} {f : α → List Value} {E k : Nat} {w : World} {B : Nat} {v : Value} {l : List α} (h : OwnsF f E k w B v l) : ∃ a c, v = .slice a l.length c := by
  rcases h.2 with ⟨rfl, hn⟩ | ⟨g, cap, cur, rfl, _⟩
  · exact ⟨none, 0, by rw [hn]⟩
  · exact ⟨_, _, rfl⟩
theorem sumF_take_le {α : Type} (sz : α → Nat) (x : List α) (m : Nat) : sumF sz (x.take m) ≤ sumF sz x := by
  induction x generalizing m with
  | nil => simp [sumF]
  | cons a r ih => cases m with
    | zero => simp [sumF]
    | succ m => have := ih m; simp only [List.take_succ_cons, sumF]; omega
theorem total_sum (l : List (List UInt8)) : total l = sumF List.length l := by induction l with | nil => rfl | cons a r ih => simp only [total, sumF, ih]
end Go.Proofs.Yteeopjcbpngofaa
/- Cell: what the laws' own helpers do with it. Written by gen/flat.py. -/
namespace Go.Proofs.Yteeopjcbpngofaa
set_option linter.unusedVariables false
open Go.RowKit
structure CellD where
  fKey : List UInt8
  fValue : Int
deriving DecidableEq
def okCell (d : CellD) : Prop := (d.fKey.length ≤ maxLen) ∧ (-9223372036854775808 ≤ d.fValue ∧ d.fValue ≤ 9223372036854775807)
def vCell (d : CellD) : Value := .agg #[.string ⟨d.fKey.toArray⟩, .int .i64 d.fValue]
def cCell (d : CellD) : List Value := [.string ⟨d.fKey.toArray⟩, .int .i64 d.fValue]
theorem cCell_len (d : CellD) : (cCell d).length = 2 := rfl
theorem cCell_one (d : CellD) : ∀ u ∈ cCell d, u.oneCell' = true := by intro u hu; simp only [cCell, List.mem_cons, List.not_mem_nil, or_false] at hu; rcases hu with rfl | rfl <;> rfl
set_option maxHeartbeats 800000 in
theorem eqCell_any (x y : CellD) (w : World) :
    Calls Try.prog 116 #[vCell x, vCell y] w fun e w' => e = .returned (.bool (decide (x = y))) ∧ Below w.heap.size w w' := by
  obtain ⟨a0, a1⟩ := x
  obtain ⟨b0, b1⟩ := y
  unfold vCell
  by_cases h0 : a0 = b0
  · by_cases h1 : a1 = b1
    · have HN := Lib.hid (show decide ((⟨a0, a1⟩ : CellD) = (⟨b0, b1⟩ : CellD)) = true by rw [h0, h1]; simp)
      subst h0 h1
      go_enter Try.func116, Try.ntmps116
      go_wp2
      go_ret
      exact ⟨ret_bool HN.out.symm, ((Below.refl _ _).alloc (Nat.le_refl _) _).alloc (by simp) _⟩
    · have HN := Lib.hid (show decide ((⟨a0, a1⟩ : CellD) = (⟨b0, b1⟩ : CellD)) = false by rw [decide_eq_false_iff_not]; exact fun e => h1 (by injection e))
      have hne1 : (a1 == b1) = false := by simpa using h1
      have hnf1 : (a1 != b1) = true := by simpa using h1
      subst h0
      clear h1
      go_enter Try.func116, Try.ntmps116
      go_wp2
      go_ret
      exact ⟨ret_bool HN.out.symm, ((Below.refl _ _).alloc (Nat.le_refl _) _).alloc (by simp) _⟩
  · have HN := Lib.hid (show decide ((⟨a0, a1⟩ : CellD) = (⟨b0, b1⟩ : CellD)) = false by rw [decide_eq_false_iff_not]; exact fun e => h0 (by injection e))
    have hne0 : (a0 == b0) = false := by simpa using h0
    have hnf0 : (a0 != b0) = true := by simpa using h0
    clear h0
    go_enter Try.func116, Try.ntmps116
    go_wp2
    go_ret
    exact ⟨ret_bool HN.out.symm, ((Below.refl _ _).alloc (Nat.le_refl _) _).alloc (by simp) _⟩
set_option maxHeartbeats 800000 in
theorem toCell_any (x : CellD) (w : World) :
    Calls Try.prog 118 #[vCell x] w fun e w' => e = .returned (vCell x) ∧ Below w.heap.size w w' := by
  obtain ⟨a0, a1⟩ := x
  unfold vCell
  go_enter Try.func118, Try.ntmps118
  go_wp2
  exact bodyPost_ret (v := .agg #[.string ⟨a0.toArray⟩, .int .i64 a1]) (by simp [results, Try.results118, go_sem]) rfl ⟨rfl, ((((Below.refl _ _).alloc (Nat.le_refl _) _).alloc (by simp) _).alloc (by simp; try omega) _)⟩
set_option maxRecDepth 100000 in
set_option maxHeartbeats 1600000 in
theorem eqCellS_any (v u : Value) (x y : List CellD) (w : World) (hx : FlatAt cCell 2 w v x) (hy : FlatAt cCell 2 w u y) :
    Calls Try.prog 104 #[v, u] w fun e w' => e = .returned (.bool (decide (x = y))) ∧ Below w.heap.size w w' := by
  obtain ⟨a, c, rfl, hl⟩ := flatAt_len hx
  obtain ⟨a2, c2, rfl, hl2⟩ := flatAt_len hy
  have HX := Lib.hid hx
  have HY := Lib.hid hy
  clear hx hy
  unfold maxLen at hl hl2
  by_cases he : x.length = y.length
  · have hb : ((x.length : Int) == y.length) = true := beq_iff_eq.2 (by omega)
    have hbn : ((x.length : Int) != y.length) = false := by rw [bne_eq_false_iff_eq]; omega
    have HE := Lib.hid he
    clear he
    go_enter Try.func104, Try.ntmps104
    go_wp2
    go_loopw [5] (fun i wr => ∃ k : Nat, k ≤ x.length ∧ i = .int .i64 k ∧ x.take k = y.take k ∧ Below w.heap.size w wr) (fun i _ => x.length - (intOf i).toNat)
    case atStart => exact ⟨0, Nat.zero_le _, rfl, rfl, Below.refl _ _⟩
    case round =>
      obtain ⟨k, hk, rfl, ht, hbr⟩ := hrel
      have HT := Lib.hid ht
      have HB := Lib.hid hbr
      have HXr := Lib.hid (FlatAt.below HX.out hbr (Nat.le_refl _))
      have HYr := Lib.hid (FlatAt.below HY.out hbr (Nat.le_refl _))
      clear ht hbr
      by_cases hlt : k < x.length
      · have hky : k < y.length := by have := HE.out; omega
        obtain ⟨b, o, rfl, _, hd⟩ := flatAt_cell cCell_len HXr.out k hlt (by decide)
        obtain ⟨b2, o2, rfl, _, hd2⟩ := flatAt_cell cCell_len HYr.out k hky (by decide)
        have d0 := hd 0 (by decide)
        have d1 := hd 1 (by decide)
        have q0 := hd2 0 (by decide)
        have q1 := hd2 1 (by decide)
        clear hd hd2
        have HS := Lib.hid (take_eq_step x y HE.out k hlt HT.out)
        have HD := Lib.hid (show x[k] ≠ y[k] → ¬ x = y from fun h e => h (by subst e; rfl))
        have HC := Lib.hid (eqCell_any x[k] y[k])
        generalize x[k] = p at *
        generalize y[k] = q at *
        obtain ⟨a0, a1⟩ := p
        obtain ⟨b0, b1⟩ := q
        simp only [cCell, vCell, List.getElem?_cons_zero, List.getElem?_cons_succ, Nat.add_zero] at d0 q0 d1 q1 HC
        go_wp2
        go_still_tail 8, (by kernel_rfl)
        have HB1 := Lib.hid (show Below w.heap.size w wr.drew from ⟨HB.out.os, HB.out.tape, HB.out.output, HB.out.size, HB.out.block⟩)
        change wpList _ _ _ _ _ wr.drew
        generalize wr.drew = w1 at *
        go_wp2_with fail
        refine (HC.out _).mono ?_
        rintro e w2 ⟨rfl, hb0⟩
        have HB2 := Lib.hid (HB1.out.trans (hb0.mono HB1.out.size))
        clear hb0
        by_cases heq : (⟨a0, a1⟩ : CellD) = (⟨b0, b1⟩ : CellD)
        · have HN := Lib.hid (HS.out heq)
          rw [show decide ((⟨a0, a1⟩ : CellD) = (⟨b0, b1⟩ : CellD)) = true by simpa using heq]
          clear heq
          go_wp2_with fail
          exact ⟨⟨k + 1, by omega, by go_num, HN.out, HB2.out⟩, by simp [intOf]; omega⟩
        · have HN := Lib.hid (HD.out heq)
          rw [show decide ((⟨a0, a1⟩ : CellD) = (⟨b0, b1⟩ : CellD)) = false by rw [decide_eq_false_iff_not]; exact heq]
          clear heq
          go_wp2_with fail
          go_ret
          exact ⟨ret_bool (by simp [HN.out]), HB2.out⟩
      · have HN := Lib.hid (show x = y from by
          have h := HT.out
          rw [List.take_of_length_le (by omega), List.take_of_length_le (by have := HE.out; omega)] at h
          exact h)
        go_wp2
        go_ret
        exact ⟨ret_bool (by simp [HN.out]), HB.out⟩
  · have hb : ((x.length : Int) == y.length) = false := beq_eq_false_iff_ne.2 (by omega)
    have hbn : ((x.length : Int) != y.length) = true := by rw [bne_iff_ne]; omega
    have HN := Lib.hid (show ¬ x = y from fun e => he (by rw [e]))
    clear he
    go_enter Try.func104, Try.ntmps104
    go_wp2
    go_ret
    exact ⟨ret_bool (by simp [HN.out]), Below.refl _ _⟩
def zCell (d : CellD) : Nat := d.fKey.length
set_option maxHeartbeats 800000 in
theorem szCell_any (x : CellD) (left : Int) (w : World) (h0 : 0 ≤ left) (h1 : left ≤ 1099511627776) (hs : okCell x) :
    Calls Try.prog 117 #[vCell x, .int .i64 left] w fun e w' => SzF (zCell x) left w e w' := by
  obtain ⟨a0, a1⟩ := x
  obtain ⟨hs0, hs1⟩ := hs
  simp only [vCell, zCell] at *
  unfold maxLen at *
  have HZ0 := Lib.hid (size_strB a0)
  by_cases hn0 : left - (a0.length : Int) < 0
  · go_enter Try.func117, Try.ntmps117
    go_wp2
    go_ret
    exact ⟨-1, rfl, by omega, by omega, (Below.refl _ _).alloc (Nat.le_refl _) _⟩
  · go_enter Try.func117, Try.ntmps117
    go_wp2
    go_ret
    exact ⟨_, rfl, by omega, by push_cast; omega, (Below.refl _ _).alloc (Nat.le_refl _) _⟩
set_option maxRecDepth 100000 in
set_option maxHeartbeats 800000 in
theorem szCellS_any (v : Value) (x : List CellD) (left : Int) (w : World) (hx : FlatAt cCell 2 w v x) (hs : ∀ d ∈ x, okCell d) (h0 : 0 ≤ left) (h1 : left ≤ 1099511627776) :
    Calls Try.prog 106 #[v, .int .i64 left] w fun e w' => SzF (x.length + sumF zCell x) left w e w' := by
  obtain ⟨a, c, rfl, hl⟩ := flatAt_len hx
  have HX := Lib.hid hx
  have HS := Lib.hid hs
  clear hx hs
  unfold maxLen at hl
  by_cases hneg : left - (x.length : Int) < 0
  · go_enter Try.func106, Try.ntmps106
    go_wp2
    go_ret
    exact ⟨-1, rfl, by omega, by omega, Below.refl _ _⟩
  · go_enter Try.func106, Try.ntmps106
    go_wp2
    go_loopw [1, 5] (fun r i wr => ∃ k : Nat, ∃ z : Int, k ≤ x.length ∧ i = .int .i64 k ∧ r = .int .i64 z ∧ 0 ≤ z ∧ z ≤ left ∧ (x.length : Int) + sumF zCell (x.take k) + z = left ∧ Below w.heap.size w wr) (fun _ i _ => x.length - (intOf i).toNat)
    case atStart => exact ⟨0, _, Nat.zero_le _, rfl, rfl, by omega, by omega, by simp [sumF]; omega, Below.refl _ _⟩
    case round =>
      obtain ⟨k, z, hk, rfl, rfl, hz0, hz1, ht, hbr⟩ := hrel
      have HT := Lib.hid ht
      have HB := Lib.hid hbr
      have HXr := Lib.hid (FlatAt.below HX.out hbr (Nat.le_refl _))
      clear ht hbr
      by_cases hlt : k < x.length
      · obtain ⟨b, o, rfl, _, hd⟩ := flatAt_cell cCell_len HXr.out k hlt (by decide)
        have d0 := hd 0 (by decide)
        have d1 := hd 1 (by decide)
        clear hd
        have HC := Lib.hid (szCell_any x[k] z wr hz0 (by omega) (HS.out _ (List.getElem_mem hlt)))
        have HK := Lib.hid (sumF_take_succ zCell x k hlt)
        generalize x[k] = p at *
        have HP := Lib.hid (rfl : zCell p = zCell p)
        obtain ⟨a0, a1⟩ := p
        simp only [cCell, vCell, List.getElem?_cons_zero, List.getElem?_cons_succ, Nat.add_zero] at d0 d1 HC
        go_wp2_with fail
        refine HC.out.mono ?_
        rintro e w2 ⟨r, rfl, hr0, hr1, hb0⟩
        have HB2 := Lib.hid (HB.out.trans (hb0.mono HB.out.size))
        have HR := Lib.hid hr1
        clear hb0 hr1
        by_cases hn2 : r < 0
        · go_wp2_with fail
          go_ret
          exact ⟨-1, rfl, by omega, by omega, HB2.out⟩
        · have hr := HR.out (by omega)
          go_wp2_with fail
          exact ⟨⟨k + 1, _, by omega, by go_num, rfl, by omega, by omega, by rw [HK.out]; have := HT.out; push_cast; omega, HB2.out⟩, by simp [intOf]; omega⟩
      · have HN := Lib.hid (show x.take k = x from List.take_of_length_le (by omega))
        go_wp2
        go_ret
        exact ⟨z, rfl, by omega, fun _ => by have := HT.out; rw [HN.out] at this; omega, HB.out⟩
theorem infoCell : (Try.prog.info? 107).map (fun i => (i.zero, i.size, i.bytes)) = some (some (.agg #[.string ⟨#[]⟩, .int .i64 0]), 2, 24) := by kernel_rfl
set_option maxRecDepth 100000 in
set_option maxHeartbeats 1600000 in
theorem toCellS_any (v : Value) (x : List CellD) (w : World) (hx : FlatAt cCell 2 w v x) (hm : x.length ≤ 2097152) :
    Calls Try.prog 108 #[v] w fun e w' => e = .returned (.slice (some ⟨w.heap.size, 0, none⟩) x.length x.length) ∧ OwnsF cCell 107 2 w' w.heap.size (.slice (some ⟨w.heap.size, 0, none⟩) x.length x.length) x ∧ Below w.heap.size w w' := by
  obtain ⟨a, c, rfl, hl⟩ := flatAt_len hx
  obtain ⟨i0, hi, hz0, hz1, hz2⟩ := info_parts infoCell
  have HX := Lib.hid hx
  clear hx
  unfold maxLen at hl
  go_enter Try.func108, Try.ntmps108
  have hb2 : i0.bytes * x.length ≤ 281474976710656 := by rw [hz2]; omega
  have HB2 := Lib.hid hb2
  have HM := Lib.hid (show x.length ≤ maxLen from by unfold maxLen; omega)
  clear hb2
  go_wp2_with (refine wpList_make_full _ rfl (.tmp 6) (.tmp 6) 56 rfl w.heap.size 107 i0 _ 2 Try.underlying56 hi hz0 hz1 .i64 .i64 _ _ x.length rfl rfl rfl rfl HB2.out HM.out (Nat.le_refl _) ?_; intro w1 hown1 hgrow1)
  have HO := Lib.hid (show ∃ xs, w1.ownsRow w.heap.size 107 2 (.slice (some ⟨w.heap.size, 0, none⟩) x.length x.length) x.length xs ∧ xs.take (0 * 2) = (x.flatMap cCell).take (0 * 2) from ⟨_, hown1, by simp⟩)
  have HB := Lib.hid (show Below w.heap.size w w1 from ⟨hgrow1.os, hgrow1.tape, hgrow1.output, hgrow1.size, fun i hi => hgrow1.block i hi (by simp)⟩)
  have hsz := hgrow1.size
  clear hown1 hgrow1 hz0 hz1 hz2 HB2 hi
  go_loopw [4] (fun i wr => ∃ k : Nat, k ≤ x.length ∧ i = .int .i64 k ∧ (∃ xs, wr.ownsRow w.heap.size 107 2 (.slice (some ⟨w.heap.size, 0, none⟩) x.length x.length) x.length xs ∧ xs.take (k * 2) = (x.flatMap cCell).take (k * 2)) ∧ Below w.heap.size w wr) (fun i _ => x.length - (intOf i).toNat)
  case atStart => exact ⟨0, Nat.zero_le _, rfl, HO.out, HB.out⟩
  case round =>
    obtain ⟨k, hk, rfl, ⟨xs, hown, htake⟩, hb⟩ := hrel
    have HR := Lib.hid (FlatAt.below HX.out hb (Nat.le_refl _))
    have HBr := Lib.hid hb
    have HOw := Lib.hid hown
    have HT := Lib.hid htake
    have HXL := Lib.hid (show xs.length = x.length * 2 from hown.1)
    clear hb hown htake
    by_cases hlt : k < x.length
    · obtain ⟨b, o, rfl, _, hd⟩ := flatAt_cell cCell_len HR.out k hlt (by decide)
      have d0 := hd 0 (by decide)
      have d1 := hd 1 (by decide)
      have g0 := flat_get cCell 2 cCell_len x k hlt 0 (by decide)
      have g1 := flat_get cCell 2 cCell_len x k hlt 1 (by decide)
      clear hd
      have HC := Lib.hid (toCell_any x[k] wr)
      generalize x[k] = p at *
      obtain ⟨a0, a1⟩ := p
      simp only [cCell, vCell, List.getElem?_cons_zero, List.getElem?_cons_succ, Nat.add_zero] at d0 d1 HC g0 g1
      have G0 := Lib.hid g0
      have G1 := Lib.hid g1
      clear g0 g1
      go_wp2_with fail
      refine HC.out.mono ?_
      rintro e w2 ⟨rfl, hb0⟩
      have HB3 := Lib.hid (HBr.out.trans (hb0.mono HBr.out.size))
      have HO3 := Lib.hid (ownsRow_below HOw.out hb0 (Nat.le_refl _))
      clear hb0
      obtain ⟨u0, c0⟩ : ∃ u, w2.cell? ⟨w.heap.size, k * 2, none⟩ = some u := by
        rw [World.ownsRow.cellAt HO3.out (k * 2) (by omega), List.getElem?_eq_getElem (by have := HXL.out; omega)]
        exact ⟨_, rfl⟩
      have f0 := World.ownsRow.frozenAt HO3.out (k * 2)
      obtain ⟨u1, c1⟩ : ∃ u, w2.cell? ⟨w.heap.size, k * 2 + 1, none⟩ = some u := by
        rw [World.ownsRow.cellAt HO3.out (k * 2 + 1) (by omega), List.getElem?_eq_getElem (by have := HXL.out; omega)]
        exact ⟨_, rfl⟩
      have f1 := World.ownsRow.frozenAt HO3.out (k * 2 + 1)
      have HS0 := Lib.hid (World.ownsRow.stored HO3.out (k * 2) (.string ⟨a0.toArray⟩))
      have HT0 := Lib.hid (take_set_get _ (x.flatMap cCell) (k * 2) _ (by have := HXL.out; (try simp only [List.length_set]); omega) G0.out HT.out)
      have HS1 := Lib.hid (World.ownsRow.stored HS0.out.1 (k * 2 + 1) (.int .i64 a1))
      have HT1 := Lib.hid (take_set_get _ (x.flatMap cCell) (k * 2 + 1) _ (by have := HXL.out; (try simp only [List.length_set]); omega) G1.out HT0.out)
      go_wp2_with fail
      refine ⟨⟨k + 1, by omega, by go_num, ⟨_, HS1.out.1, by rw [show (k + 1) * 2 = k * 2 + 1 + 1 by omega]; exact HT1.out⟩, ?_⟩, by simp [intOf]; omega⟩
      exact ((HB3.out.setCell (Nat.le_refl _) _).setCell (Nat.le_refl _) _)
    · have HN := Lib.hid (show xs = x.flatMap cCell from by
        have h := HT.out
        rw [List.take_of_length_le (by have := HXL.out; omega), List.take_of_length_le (by rw [flat_len cCell 2 cCell_len]; omega)] at h
        exact h)
      go_wp2
      go_ret
      exact ⟨rfl, by have h := HOw.out; rw [HN.out] at h; exact h, HBr.out⟩
def marksCell (k : Int) (n : Nat) : List CellD := (List.range n).map fun i : Nat => ⟨markL (k + i * 2), k + i * 2 + 1⟩
theorem marksCell_len (k : Int) (n : Nat) : (marksCell k n).length = n := by simp [marksCell]
theorem marksCell_get (k : Int) (n i : Nat) (h : i < n) : (marksCell k n)[i]'(by rw [marksCell_len]; exact h) = ⟨markL (k + i * 2), k + i * 2 + 1⟩ := by simp [marksCell]
set_option maxRecDepth 100000 in
set_option maxHeartbeats 1600000 in
theorem markCellS_any (B : Nat) (v : Value) (x : List CellD) (k : Int) (w : World) (hO : OwnsF cCell 107 2 w B v x) (hm : x.length ≤ 2097152) (h0 : 1 ≤ k) (h1 : k ≤ 16777216) :
    Calls Try.prog 29 #[v, .int .i64 k] w fun e w' => e = .returned (.int .i64 (k + x.length * 2)) ∧ OwnsF cCell 107 2 w' B v (marksCell k x.length) ∧ w.grownBy w' v.ownBlock := by
  unfold OwnsF at hO
  rcases hO.2 with ⟨rfl, hn⟩ | ⟨g, cap, cur, rfl, _⟩
  · have hx : x = [] := List.eq_nil_of_length_eq_zero hn
    subst hx
    go_enter Try.func29, Try.ntmps29
    go_wp2_with fail
    refine wp_loop_rounds 1 ?_
    rw [rounds_succ]
    go_wp2_with fail
    go_ret
    exact ⟨ret_int (by simp), by simpa [OwnsF, marksCell] using hO, grownBy_refl _ _⟩
  · have HO := Lib.hid (show ∃ xs, w.ownsRow B 107 2 (.slice (some ⟨g, 0, none⟩) x.length cap) x.length xs ∧ xs.take (0 * 2) = ((marksCell k x.length).flatMap cCell).take (0 * 2) from ⟨_, hO, by simp⟩)
    have hgw : g < w.heap.size := (hO.lt g rfl).2
    clear hO
    go_enter Try.func29, Try.ntmps29
    go_wp2_with fail
    go_loopw [1, 5] (fun kv i wr => ∃ j : Nat, j ≤ x.length ∧ i = .int .i64 j ∧ kv = .int .i64 (k + j * 2) ∧ (∃ xs, wr.ownsRow B 107 2 (.slice (some ⟨g, 0, none⟩) x.length cap) x.length xs ∧ xs.take (j * 2) = ((marksCell k x.length).flatMap cCell).take (j * 2)) ∧ w.grownBy wr (some g)) (fun _ i _ => x.length - (intOf i).toNat)
    case atStart => exact ⟨0, Nat.zero_le _, rfl, by simp, HO.out, grownBy_refl _ _⟩
    case round =>
      obtain ⟨j, hj, rfl, rfl, ⟨xs, hown, htake⟩, hg⟩ := hrel
      have HG := Lib.hid hg
      have HOw := Lib.hid hown
      have HT := Lib.hid htake
      have HXL := Lib.hid (show xs.length = x.length * 2 from hown.1)
      clear hg hown htake
      by_cases hlt : j < x.length
      · have G0 := Lib.hid (flat_get cCell 2 cCell_len (marksCell k x.length) j (by rw [marksCell_len]; exact hlt) 0 (by decide))
        have G1 := Lib.hid (flat_get cCell 2 cCell_len (marksCell k x.length) j (by rw [marksCell_len]; exact hlt) 1 (by decide))
        rw [marksCell_get k _ j hlt] at G0 G1
        simp only [cCell, List.getElem?_cons_zero, List.getElem?_cons_succ, Nat.add_zero] at G0 G1
        go_wp2_with fail
        refine (markText_any (k + j * 2) _ (by omega) (by omega)).mono ?_
        rintro e w1 ⟨rfl, hb⟩
        have HO1 := Lib.hid (ownsRow_below HOw.out hb (Nat.le_refl _))
        have HG1 := Lib.hid (grownBy_below (HG.out) hb (HG.out).size)
        clear hb
        obtain ⟨u0, c0⟩ : ∃ u, w1.cell? ⟨g, j * 2, none⟩ = some u := by
          rw [World.ownsRow.cellAt HO1.out (j * 2) (by omega), List.getElem?_eq_getElem (by have := HXL.out; (try simp only [List.length_set]); omega)]
          exact ⟨_, rfl⟩
        have f0 := World.ownsRow.frozenAt HO1.out (j * 2)
        obtain ⟨u1, c1⟩ : ∃ u, w1.cell? ⟨g, j * 2 + 1, none⟩ = some u := by
          rw [World.ownsRow.cellAt HO1.out (j * 2 + 1) (by omega), List.getElem?_eq_getElem (by have := HXL.out; (try simp only [List.length_set]); omega)]
          exact ⟨_, rfl⟩
        have f1 := World.ownsRow.frozenAt HO1.out (j * 2 + 1)
        have HS0 := Lib.hid (World.ownsRow.stored HO1.out (j * 2) (.string ⟨(markL (k + j * 2)).toArray⟩))
        have HT0 := Lib.hid (take_set_get _ _ (j * 2) _ (by have := HXL.out; (try simp only [List.length_set]); omega) G0.out HT.out)
        have HS1 := Lib.hid (World.ownsRow.stored HS0.out.1 (j * 2 + 1) (.int .i64 (k + j * 2 + 1)))
        have HT1 := Lib.hid (take_set_get _ _ (j * 2 + 1) _ (by have := HXL.out; (try simp only [List.length_set]); omega) G1.out HT0.out)
        go_wp2_with fail
        refine ⟨⟨j + 1, by omega, by go_num, ?_, ⟨_, HS1.out.1, by rw [show (j + 1) * 2 = j * 2 + 1 + 1 by omega]; exact HT1.out⟩, ?_⟩, by simp [intOf]; omega⟩
        · congr 1; push_cast; omega
        · exact (grownBy_trans (grownBy_trans HG1.out HS0.out.2) HS1.out.2)
      · have HN := Lib.hid (show xs = (marksCell k x.length).flatMap cCell from by
          have h := HT.out
          rw [List.take_of_length_le (by have := HXL.out; omega), List.take_of_length_le (by rw [flat_len cCell 2 cCell_len, marksCell_len]; omega)] at h
          exact h)
        go_wp2_with fail
        go_ret
        exact ⟨ret_int (by rw [show j = x.length by omega]), by have h := HOw.out; rw [HN.out] at h; unfold OwnsF; rw [marksCell_len]; exact h, HG.out⟩
set_option maxRecDepth 100000 in
set_option maxHeartbeats 1600000 in
theorem heldCellS_any (v : Value) (n : Nat) (k : Int) (w : World) (hR : FlatAt cCell 2 w v (marksCell k n)) (hm : n ≤ 2097152) (h0 : 1 ≤ k) (h1 : k ≤ 16777216) :
    Calls Try.prog 31 #[v, .int .i64 k] w fun e w' => e = .returned (.int .i64 (k + n * 2)) ∧ Below w.heap.size w w' := by
  obtain ⟨a, c, rfl, hl⟩ := flatAt_len hR
  rw [marksCell_len] at *
  have HR := Lib.hid hR
  clear hR
  unfold maxLen at hl
  go_enter Try.func31, Try.ntmps31
  go_wp2_with fail
  go_loopw [1, 5] (fun kv i wr => ∃ j : Nat, j ≤ n ∧ i = .int .i64 j ∧ kv = .int .i64 (k + j * 2) ∧ Below w.heap.size w wr) (fun _ i _ => n - (intOf i).toNat)
  case atStart => exact ⟨0, Nat.zero_le _, rfl, by simp, Below.refl _ _⟩
  case round =>
    obtain ⟨j, hj, rfl, rfl, hb⟩ := hrel
    have HB := Lib.hid hb
    have HRr := Lib.hid (FlatAt.below HR.out hb (Nat.le_refl _))
    clear hb
    by_cases hlt : j < n
    · obtain ⟨b, o, rfl, hbw, hd⟩ := flatAt_cell cCell_len HRr.out j (by rw [marksCell_len]; exact hlt) (by decide)
      rw [marksCell_get k n j hlt] at hd
      have d0 := hd 0 (by decide)
      have d1 := hd 1 (by decide)
      clear hd
      simp only [cCell, List.getElem?_cons_zero, List.getElem?_cons_succ, Nat.add_zero] at d0 d1
      have hj0 : (0 : Int) ≤ (j : Int) := Int.natCast_nonneg _
      have hj1 : (j : Int) < (n : Int) := by omega
      have D0 := Lib.hid d0
      have D1 := Lib.hid d1
      clear d0 d1
      have HBL := Lib.hid hbw
      have d0 := D0.out
      have hbeq0 : (markL (k + j * 2) == markL (k + j * 2)) = true := by simp
      go_wp2_with fail
      go_region_held3 (fun w' => w'.cell? ⟨b, o + j * 2, none⟩ = some (.string ⟨(markL (k + j * 2)).toArray⟩))
        (first
          | go_keep
          | (rw [hb1.cell (p := ⟨b, o + j * 2, none⟩) (by simpa using hbw)]; assumption))
        ((go_at_call 28; refine (markText_any (k + j * 2) _ (by omega) (by omega)).mono ?_; rintro e w1 ⟨rfl, hb1⟩))
      have hB1 : Below wr.heap.size wr w1 := ⟨hb1.os, hb1.tape, hb1.output, hb1.size, hb1.block⟩
      have HB1 := Lib.hid (HB.out.trans (hB1.mono HB.out.size))
      have E1_1 := Lib.hid (show w1.cell? ⟨b, o + j * 2 + 1, none⟩ = some (.int .i64 (k + j * 2 + 1)) by rw [hB1.cell (p := ⟨b, o + j * 2 + 1, none⟩) hbw]; exact D1.out)
      have hbw1 : b < w1.heap.size := Nat.lt_of_lt_of_le hbw hB1.size
      clear hb1 hB1
      have hbw := hbw1
      have d1 := E1_1.out
      go_wp2_with fail
      exact ⟨⟨j + 1, by omega, by go_num, by congr 1; push_cast; omega, HB1.out⟩, by simp [intOf]; omega⟩
    · go_wp2_with fail
      go_ret
      exact ⟨ret_int (by rw [show j = n by omega]), HB.out⟩
end Go.Proofs.Yteeopjcbpngofaa
/- Cores: what the laws' own helpers do with them. -/
namespace Go.Proofs.Yteeopjcbpngofaa
set_option linter.unusedVariables false
open Go.RowKit
structure CoreD where
  fKind : List UInt8
  fOn : Bool
  fBroken : Bool
  fCells : List CellD
  fCount : Int
deriving DecidableEq
def okCore (d : CoreD) : Prop := d.fKind.length ≤ maxLen ∧ (∀ c ∈ d.fCells, okCell c) ∧ -9223372036854775808 ≤ d.fCount ∧ d.fCount ≤ 9223372036854775807
def vCore (d : CoreD) (cv : Value) : Value := .agg #[.string ⟨d.fKind.toArray⟩, .bool d.fOn, .bool d.fBroken, cv, .int .i64 d.fCount]
def CoreAt (w : World) (v : Value) (d : CoreD) : Prop := ∃ cv, v = vCore d cv ∧ FlatAt cCell 2 w cv d.fCells
def OwnsCore (w : World) (B : Nat) (v : Value) (d : CoreD) : Prop := ∃ cv, v = vCore d cv ∧ OwnsF cCell 107 2 w B cv d.fCells
def GivesCore (d : CoreD) (w : World) (e : Ending) (w' : World) : Prop := ∃ v, e = .returned v ∧ OwnsCore w' w.heap.size v d ∧ Below w.heap.size w w'
theorem CoreAt.below {w w' : World} {v : Value} {d : CoreD} {B : Nat} (h : CoreAt w v d) (hb : Below B w w') (hB : w.heap.size ≤ B) : CoreAt w' v d := by
  obtain ⟨cv, rfl, h⟩ := h; exact ⟨cv, rfl, h.below hb hB⟩
theorem ownsCore_below {w w' : World} {B B' : Nat} {v : Value} {d : CoreD} (h : OwnsCore w B v d) (hb : Below B' w w') (hB : w.heap.size ≤ B') : OwnsCore w' B v d := by
  obtain ⟨cv, rfl, h⟩ := h; exact ⟨cv, rfl, ownsF_below h hb hB⟩
theorem ownsCore_at {w : World} {B : Nat} {v : Value} {d : CoreD} (h : OwnsCore w B v d) (hm : d.fCells.length ≤ 4194304) : CoreAt w v d := by
  obtain ⟨cv, rfl, h⟩ := h; exact ⟨cv, rfl, ownsF_at h hm⟩
theorem bcell {W w1 : World} (hb : Below W.heap.size W w1) : (∀ b o, b < W.heap.size → w1.cell? ⟨b, o, none⟩ = W.cell? ⟨b, o, none⟩) ∧ (∀ b o, b < W.heap.size → w1.frozen? ⟨b, o, none⟩ = W.frozen? ⟨b, o, none⟩) :=
  ⟨fun b o h => hb.cell (p := ⟨b, o, none⟩) h, fun b o h => hb.frozen (p := ⟨b, o, none⟩) h⟩
theorem coreD_ext (x y : CoreD) : x = y ↔ x.fKind = y.fKind ∧ x.fOn = y.fOn ∧ x.fBroken = y.fBroken ∧ x.fCells = y.fCells ∧ x.fCount = y.fCount := by
  cases x; cases y; simp
set_option maxRecDepth 100000 in
set_option maxHeartbeats 1600000 in
theorem toCore_any (v : Value) (x : CoreD) (w : World) (hx : CoreAt w v x) (hm : x.fCells.length ≤ 2097152) :
    Calls Try.prog 89 #[v] w fun e w' => GivesCore x w e w' := by
  obtain ⟨cv, rfl, hx⟩ := hx
  obtain ⟨a0, a1, a2, a3, a4⟩ := x
  unfold vCore
  simp only at *
  have HX := Lib.hid hx
  clear hx
  have B3 := Lib.hid (show ∀ o1 o2 o3, Below w.heap.size w (((w.alloc o1).alloc o2).alloc o3) from fun o1 o2 o3 => (((Below.refl _ _).alloc (Nat.le_refl _) _).alloc (by simp) _).alloc (by simp; omega) _)
  have HC := Lib.hid (fun o1 o2 o3 => toCellS_any cv a3 (((w.alloc o1).alloc o2).alloc o3) (HX.out.below (B3.out o1 o2 o3) (Nat.le_refl _)) hm)
  go_enter Try.func89, Try.ntmps89
  go_wp2_with fail
  refine (HC.out _ _ _).mono ?_
  rintro e w1 ⟨rfl, ho, hb⟩
  have HO := Lib.hid (show OwnsF cCell 107 2 w1 (w.heap.size + 1 + 1 + 1) (.slice (some ⟨w.heap.size + 1 + 1 + 1, 0, none⟩) a3.length a3.length) a3 from by simpa using ho)
  have HB := Lib.hid ((B3.out _ _ _).trans (hb.mono (B3.out _ _ _).size))
  obtain ⟨hcc, hff⟩ := bcell hb
  have hsz := hb.size
  simp at hsz
  clear ho hb
  go_wp2_with fail
  refine bodyPost_ret (v := .agg #[.string ⟨a0.toArray⟩, .bool a1, .bool a2, _, .int .i64 a4]) (by simp [results, Try.results89, go_sem, hcc]; rfl) rfl ⟨_, rfl, ⟨_, rfl, ?_⟩, ?_⟩
  · refine ownsF_base (B := w.heap.size + 1 + 1 + 1) ?_ (by omega)
    repeat (refine ownsF_set ?_ (by simp; try omega))
    exact HO.out
  · repeat (refine Below.setCell ?_ (by simp; try omega) _)
    exact HB.out
def zCore (d : CoreD) : Nat := d.fKind.length + (d.fCells.length + sumF zCell d.fCells)
set_option maxRecDepth 100000 in
set_option maxHeartbeats 1600000 in
theorem szCore_any (v : Value) (x : CoreD) (left : Int) (w : World) (hx : CoreAt w v x) (h0 : 0 ≤ left) (h1 : left ≤ 1099511627776) (hk : x.fKind.length ≤ maxLen) (hs : ∀ d ∈ x.fCells, okCell d) :
    Calls Try.prog 87 #[v, .int .i64 left] w fun e w' => SzF (zCore x) left w e w' := by
  obtain ⟨cv, rfl, hx⟩ := hx
  obtain ⟨a0, a1, a2, a3, a4⟩ := x
  unfold vCore zCore
  simp only at *
  have HX := Lib.hid hx
  have HS := Lib.hid hs
  have HZ := Lib.hid (size_strB a0)
  unfold maxLen at hk
  clear hx hs
  have B1 := Lib.hid (show ∀ o1, Below w.heap.size w (w.alloc o1) from fun o1 => (Below.refl _ _).alloc (Nat.le_refl _) _)
  by_cases hn : left - (a0.length : Int) < 0
  · go_enter Try.func87, Try.ntmps87
    go_wp2_with fail
    go_ret
    exact ⟨-1, rfl, by omega, by omega, B1.out _⟩
  · go_enter Try.func87, Try.ntmps87
    go_wp2_with fail
    refine (szCellS_any cv a3 _ _ (HX.out.below (B1.out _) (Nat.le_refl _)) HS.out (by omega) (by omega)).mono ?_
    rintro e w1 ⟨r, rfl, hr0, hr1, hb⟩
    have HB := Lib.hid ((B1.out _).trans (hb.mono (B1.out _).size))
    have HR := Lib.hid hr1
    clear hb hr1
    by_cases hr : r < 0
    · go_wp2_with fail
      go_ret
      exact ⟨-1, rfl, by omega, by omega, HB.out⟩
    · have hr2 := HR.out (by omega)
      go_wp2_with fail
      go_ret
      exact ⟨_, rfl, by omega, by intro _; push_cast; omega, HB.out⟩
end Go.Proofs.Yteeopjcbpngofaa
/- Cores: when two are equal. -/
namespace Go.Proofs.Yteeopjcbpngofaa
set_option linter.unusedVariables false
open Go.RowKit
set_option maxRecDepth 100000 in
set_option maxHeartbeats 1600000 in
theorem eqCore_b (v u : Value) (x y : CoreD) (q : Bool) (hq : decide (x = y) = q) (w : World) (hx : CoreAt w v x) (hy : CoreAt w u y) :
    Calls Try.prog 85 #[v, u] w fun e w' => e = .returned (.bool q) ∧ Below w.heap.size w w' := by
  obtain ⟨cv, rfl, hx⟩ := hx
  obtain ⟨cu, rfl, hy⟩ := hy
  have hex := coreD_ext x y
  obtain ⟨a0, a1, a2, a3, a4⟩ := x
  obtain ⟨b0, b1, b2, b3, b4⟩ := y
  unfold vCore
  simp only at *
  have B2 := Lib.hid (show ∀ o1 o2, Below w.heap.size w ((w.alloc o1).alloc o2) from fun o1 o2 => ((Below.refl _ _).alloc (Nat.le_refl _) _).alloc (by simp) _)
  have HX := Lib.hid hx
  have HY := Lib.hid hy
  have HN := Lib.hid (show ¬ (a0 = b0 ∧ a1 = b1 ∧ a2 = b2 ∧ a3 = b3 ∧ a4 = b4) → false = q from fun h => by rw [← hq]; symm; rw [decide_eq_false_iff_not, hex]; exact h)
  have HQ := Lib.hid (show (a0 = b0 ∧ a1 = b1 ∧ a2 = b2 ∧ a3 = b3 ∧ a4 = b4) → true = q from fun h => by rw [← hq]; symm; rw [decide_eq_true_iff, hex]; exact h)
  have HC := Lib.hid (fun o1 o2 => eqCellS_any cv cu a3 b3 ((w.alloc o1).alloc o2) (HX.out.below (B2.out o1 o2) (Nat.le_refl _)) (HY.out.below (B2.out o1 o2) (Nat.le_refl _)))
  clear hx hy hq hex
  by_cases h0 : a0 = b0
  case neg =>
    have HF := Lib.hid (HN.out fun e => h0 e.1)
    have hne : (a0 == b0) = false := by simpa using h0
    have hnf : (a0 != b0) = true := by simpa using h0
    clear h0
    go_enter Try.func85, Try.ntmps85
    go_wp2_with fail
    go_ret
    exact ⟨ret_bool HF.out, B2.out _ _⟩
  case pos =>
    by_cases h1 : a1 = b1
    case neg =>
      have HF := Lib.hid (HN.out fun e => h1 e.2.1)
      subst h0
      cases a1 <;> cases b1
      all_goals first
        | exact absurd rfl h1
        | (clear h1
           go_enter Try.func85, Try.ntmps85
           go_wp2_with fail
           go_ret
           exact ⟨ret_bool HF.out, B2.out _ _⟩)
    case pos =>
      by_cases h2 : a2 = b2
      case neg =>
        have HF := Lib.hid (HN.out fun e => h2 e.2.2.1)
        subst h0 h1
        cases a1 <;> cases a2 <;> cases b2
        all_goals first
          | exact absurd rfl h2
          | (clear h2
             go_enter Try.func85, Try.ntmps85
             go_wp2_with fail
             go_ret
             exact ⟨ret_bool HF.out, B2.out _ _⟩)
      case pos =>
        subst h0 h1 h2
        cases hd : decide (a3 = b3)
        case false =>
          have HF := Lib.hid (HN.out fun e => by rw [decide_eq_false_iff_not] at hd; exact hd e.2.2.2.1)
          rw [hd] at HC
          clear hd
          cases a1 <;> cases a2
          all_goals
            go_enter Try.func85, Try.ntmps85
            go_wp2_with fail
            refine (HC.out _ _).mono ?_
            rintro e w1 ⟨rfl, hb⟩
            have HB := Lib.hid ((B2.out _ _).trans (hb.mono (B2.out _ _).size))
            clear hb
            go_wp2_with fail
            go_ret
            exact ⟨ret_bool HF.out, HB.out⟩
        case true =>
          rw [hd] at HC
          by_cases h4 : a4 = b4
          case neg =>
            have HF := Lib.hid (HN.out fun e => h4 e.2.2.2.2)
            have hne : (a4 == b4) = false := by simpa using h4
            have hnf : (a4 != b4) = true := by simpa using h4
            clear hd h4
            cases a1 <;> cases a2
            all_goals
              go_enter Try.func85, Try.ntmps85
              go_wp2_with fail
              refine (HC.out _ _).mono ?_
              rintro e w1 ⟨rfl, hb⟩
              have HB := Lib.hid ((B2.out _ _).trans (hb.mono (B2.out _ _).size))
              obtain ⟨hcc, hff⟩ := bcell hb
              clear hb
              go_wp2_with fail
              go_ret
              exact ⟨ret_bool HF.out, HB.out⟩
          case pos =>
            have HF := Lib.hid (HQ.out ⟨rfl, rfl, rfl, by rw [decide_eq_true_iff] at hd; exact hd, h4⟩)
            subst h4
            clear hd
            cases a1 <;> cases a2
            all_goals
              go_enter Try.func85, Try.ntmps85
              go_wp2_with fail
              refine (HC.out _ _).mono ?_
              rintro e w1 ⟨rfl, hb⟩
              have HB := Lib.hid ((B2.out _ _).trans (hb.mono (B2.out _ _).size))
              obtain ⟨hcc, hff⟩ := bcell hb
              clear hb
              go_wp2_with fail
              go_ret
              exact ⟨ret_bool HF.out, HB.out⟩
theorem eqCore_any (v u : Value) (x y : CoreD) (w : World) (hx : CoreAt w v x) (hy : CoreAt w u y) :
    Calls Try.prog 85 #[v, u] w fun e w' => e = .returned (.bool (decide (x = y))) ∧ Below w.heap.size w w' := eqCore_b v u x y _ rfl w hx hy
end Go.Proofs.Yteeopjcbpngofaa
/- Core: how it reads, and what the laws' own helpers do with it. Written by gen/deep.py. -/
namespace Go.Proofs.Yteeopjcbpngofaa
set_option linter.unusedVariables false
set_option linter.unusedSimpArgs false
open Go.RowKit
def rCore : Nat → World → List Value → CoreD → Prop := fun F w cs x => ∃ v3, cs = [.string ⟨x.fKind.toArray⟩, .bool x.fOn, .bool x.fBroken, v3, .int .i64 x.fCount] ∧ SliceAt (rFlat cCell) 2 F w v3 x.fCells
theorem goodCore : Good rCore 5 := by
  refine ⟨?_, ?_, ?_⟩
  · rintro F w cs x ⟨v3, rfl, h3⟩; rfl
  · rintro F w w' cs x ⟨v3, rfl, h3⟩ hk; exact ⟨v3, rfl, h3.keep (good_flat cCell_len) hk⟩
  · rintro F F' w cs x ⟨v3, rfl, h3⟩ hF; exact ⟨v3, rfl, h3.mono (good_flat cCell_len) hF⟩
theorem coreAt_of {F : Nat} {w : World} {cs : List Value} {x : CoreD} (h : rCore F w cs x) : CoreAt w (.agg cs.toArray) x := by
  obtain ⟨v0, rfl, h0⟩ := h
  exact ⟨v0, rfl, flatAt_of_slice cCell_len (by decide) h0⟩
theorem ofCoreAt {w : World} {v : Value} {x : CoreD} (h : CoreAt w v x) : ValAt rCore 0 w v x := by
  obtain ⟨cv, rfl, h⟩ := h
  exact ⟨_, rfl, cv, rfl, sliceAt_of_flat cCell_len h⟩
theorem toCore_d (v : Value) (x : CoreD) (w : World) (hx : ValAt rCore 0 w v x) (hm : zCore x ≤ 2097152) : Calls Try.prog 89 #[v] w fun e w' => GivesV rCore x w e w' := by
  obtain ⟨cs, rfl, h⟩ := hx
  refine (toCore_any _ x w (coreAt_of h) (by unfold zCore at hm; omega)).mono ?_
  rintro e w' ⟨v, rfl, ⟨cv, rfl, ho⟩, hb⟩
  exact ⟨_, rfl, ⟨cv, rfl, sliceAt_of_owns cCell_len ho (by unfold zCore at hm; omega)⟩, hb⟩
theorem szCore_d (v : Value) (x : CoreD) (left : Int) (w : World) (hx : ValAt rCore 0 w v x) (hk : okCore x) (h0 : 0 ≤ left) (h1 : left ≤ 1099511627776) : Calls Try.prog 87 #[v, .int .i64 left] w fun e w' => SzF (zCore x) left w e w' := by
  obtain ⟨cs, rfl, h⟩ := hx
  exact szCore_any _ x left w (coreAt_of h) h0 h1 hk.1 hk.2.1
theorem eqCore_d (v u : Value) (x y : CoreD) (w : World) (hx : ValAt rCore 0 w v x) (hy : ValAt rCore 0 w u y) : Calls Try.prog 85 #[v, u] w fun e w' => e = .returned (.bool (decide (x = y))) ∧ Below w.heap.size w w' := by
  obtain ⟨cs, rfl, h⟩ := hx
  obtain ⟨cs2, rfl, h2⟩ := hy
  exact eqCore_any _ _ x y w (coreAt_of h) (coreAt_of h2)
end Go.Proofs.Yteeopjcbpngofaa
/- Layer: what the laws' own helpers do with it. Written by gen/flat.py. -/
namespace Go.Proofs.Yteeopjcbpngofaa
set_option linter.unusedVariables false
open Go.RowKit
structure LayerD where
  fName : List UInt8
  fCount : Int
deriving DecidableEq
def okLayer (d : LayerD) : Prop := (d.fName.length ≤ maxLen) ∧ (-9223372036854775808 ≤ d.fCount ∧ d.fCount ≤ 9223372036854775807)
def vLayer (d : LayerD) : Value := .agg #[.string ⟨d.fName.toArray⟩, .int .i64 d.fCount]
def cLayer (d : LayerD) : List Value := [.string ⟨d.fName.toArray⟩, .int .i64 d.fCount]
theorem cLayer_len (d : LayerD) : (cLayer d).length = 2 := rfl
theorem cLayer_one (d : LayerD) : ∀ u ∈ cLayer d, u.oneCell' = true := by intro u hu; simp only [cLayer, List.mem_cons, List.not_mem_nil, or_false] at hu; rcases hu with rfl | rfl <;> rfl
set_option maxHeartbeats 800000 in
theorem eqLayer_any (x y : LayerD) (w : World) :
    Calls Try.prog 105 #[vLayer x, vLayer y] w fun e w' => e = .returned (.bool (decide (x = y))) ∧ Below w.heap.size w w' := by
  obtain ⟨a0, a1⟩ := x
  obtain ⟨b0, b1⟩ := y
  unfold vLayer
  by_cases h0 : a0 = b0
  · by_cases h1 : a1 = b1
    · have HN := Lib.hid (show decide ((⟨a0, a1⟩ : LayerD) = (⟨b0, b1⟩ : LayerD)) = true by rw [h0, h1]; simp)
      subst h0 h1
      go_enter Try.func105, Try.ntmps105
      go_wp2
      go_ret
      exact ⟨ret_bool HN.out.symm, ((Below.refl _ _).alloc (Nat.le_refl _) _).alloc (by simp) _⟩
    · have HN := Lib.hid (show decide ((⟨a0, a1⟩ : LayerD) = (⟨b0, b1⟩ : LayerD)) = false by rw [decide_eq_false_iff_not]; exact fun e => h1 (by injection e))
      have hne1 : (a1 == b1) = false := by simpa using h1
      have hnf1 : (a1 != b1) = true := by simpa using h1
      subst h0
      clear h1
      go_enter Try.func105, Try.ntmps105
      go_wp2
      go_ret
      exact ⟨ret_bool HN.out.symm, ((Below.refl _ _).alloc (Nat.le_refl _) _).alloc (by simp) _⟩
  · have HN := Lib.hid (show decide ((⟨a0, a1⟩ : LayerD) = (⟨b0, b1⟩ : LayerD)) = false by rw [decide_eq_false_iff_not]; exact fun e => h0 (by injection e))
    have hne0 : (a0 == b0) = false := by simpa using h0
    have hnf0 : (a0 != b0) = true := by simpa using h0
    clear h0
    go_enter Try.func105, Try.ntmps105
    go_wp2
    go_ret
    exact ⟨ret_bool HN.out.symm, ((Below.refl _ _).alloc (Nat.le_refl _) _).alloc (by simp) _⟩
set_option maxHeartbeats 800000 in
theorem toLayer_any (x : LayerD) (w : World) :
    Calls Try.prog 109 #[vLayer x] w fun e w' => e = .returned (vLayer x) ∧ Below w.heap.size w w' := by
  obtain ⟨a0, a1⟩ := x
  unfold vLayer
  go_enter Try.func109, Try.ntmps109
  go_wp2
  exact bodyPost_ret (v := .agg #[.string ⟨a0.toArray⟩, .int .i64 a1]) (by simp [results, Try.results109, go_sem]) rfl ⟨rfl, ((((Below.refl _ _).alloc (Nat.le_refl _) _).alloc (by simp) _).alloc (by simp; try omega) _)⟩
set_option maxRecDepth 100000 in
set_option maxHeartbeats 1600000 in
theorem eqLayerS_any (v u : Value) (x y : List LayerD) (w : World) (hx : FlatAt cLayer 2 w v x) (hy : FlatAt cLayer 2 w u y) :
    Calls Try.prog 86 #[v, u] w fun e w' => e = .returned (.bool (decide (x = y))) ∧ Below w.heap.size w w' := by
  obtain ⟨a, c, rfl, hl⟩ := flatAt_len hx
  obtain ⟨a2, c2, rfl, hl2⟩ := flatAt_len hy
  have HX := Lib.hid hx
  have HY := Lib.hid hy
  clear hx hy
  unfold maxLen at hl hl2
  by_cases he : x.length = y.length
  · have hb : ((x.length : Int) == y.length) = true := beq_iff_eq.2 (by omega)
    have hbn : ((x.length : Int) != y.length) = false := by rw [bne_eq_false_iff_eq]; omega
    have HE := Lib.hid he
    clear he
    go_enter Try.func86, Try.ntmps86
    go_wp2
    go_loopw [5] (fun i wr => ∃ k : Nat, k ≤ x.length ∧ i = .int .i64 k ∧ x.take k = y.take k ∧ Below w.heap.size w wr) (fun i _ => x.length - (intOf i).toNat)
    case atStart => exact ⟨0, Nat.zero_le _, rfl, rfl, Below.refl _ _⟩
    case round =>
      obtain ⟨k, hk, rfl, ht, hbr⟩ := hrel
      have HT := Lib.hid ht
      have HB := Lib.hid hbr
      have HXr := Lib.hid (FlatAt.below HX.out hbr (Nat.le_refl _))
      have HYr := Lib.hid (FlatAt.below HY.out hbr (Nat.le_refl _))
      clear ht hbr
      by_cases hlt : k < x.length
      · have hky : k < y.length := by have := HE.out; omega
        obtain ⟨b, o, rfl, _, hd⟩ := flatAt_cell cLayer_len HXr.out k hlt (by decide)
        obtain ⟨b2, o2, rfl, _, hd2⟩ := flatAt_cell cLayer_len HYr.out k hky (by decide)
        have d0 := hd 0 (by decide)
        have d1 := hd 1 (by decide)
        have q0 := hd2 0 (by decide)
        have q1 := hd2 1 (by decide)
        clear hd hd2
        have HS := Lib.hid (take_eq_step x y HE.out k hlt HT.out)
        have HD := Lib.hid (show x[k] ≠ y[k] → ¬ x = y from fun h e => h (by subst e; rfl))
        have HC := Lib.hid (eqLayer_any x[k] y[k])
        generalize x[k] = p at *
        generalize y[k] = q at *
        obtain ⟨a0, a1⟩ := p
        obtain ⟨b0, b1⟩ := q
        simp only [cLayer, vLayer, List.getElem?_cons_zero, List.getElem?_cons_succ, Nat.add_zero] at d0 q0 d1 q1 HC
        go_wp2
        go_still_tail 8, (by kernel_rfl)
        have HB1 := Lib.hid (show Below w.heap.size w wr.drew from ⟨HB.out.os, HB.out.tape, HB.out.output, HB.out.size, HB.out.block⟩)
        change wpList _ _ _ _ _ wr.drew
        generalize wr.drew = w1 at *
        go_wp2_with fail
        refine (HC.out _).mono ?_
        rintro e w2 ⟨rfl, hb0⟩
        have HB2 := Lib.hid (HB1.out.trans (hb0.mono HB1.out.size))
        clear hb0
        by_cases heq : (⟨a0, a1⟩ : LayerD) = (⟨b0, b1⟩ : LayerD)
        · have HN := Lib.hid (HS.out heq)
          rw [show decide ((⟨a0, a1⟩ : LayerD) = (⟨b0, b1⟩ : LayerD)) = true by simpa using heq]
          clear heq
          go_wp2_with fail
          exact ⟨⟨k + 1, by omega, by go_num, HN.out, HB2.out⟩, by simp [intOf]; omega⟩
        · have HN := Lib.hid (HD.out heq)
          rw [show decide ((⟨a0, a1⟩ : LayerD) = (⟨b0, b1⟩ : LayerD)) = false by rw [decide_eq_false_iff_not]; exact heq]
          clear heq
          go_wp2_with fail
          go_ret
          exact ⟨ret_bool (by simp [HN.out]), HB2.out⟩
      · have HN := Lib.hid (show x = y from by
          have h := HT.out
          rw [List.take_of_length_le (by omega), List.take_of_length_le (by have := HE.out; omega)] at h
          exact h)
        go_wp2
        go_ret
        exact ⟨ret_bool (by simp [HN.out]), HB.out⟩
  · have hb : ((x.length : Int) == y.length) = false := beq_eq_false_iff_ne.2 (by omega)
    have hbn : ((x.length : Int) != y.length) = true := by rw [bne_iff_ne]; omega
    have HN := Lib.hid (show ¬ x = y from fun e => he (by rw [e]))
    clear he
    go_enter Try.func86, Try.ntmps86
    go_wp2
    go_ret
    exact ⟨ret_bool (by simp [HN.out]), Below.refl _ _⟩
def zLayer (d : LayerD) : Nat := d.fName.length
set_option maxHeartbeats 800000 in
theorem szLayer_any (x : LayerD) (left : Int) (w : World) (h0 : 0 ≤ left) (h1 : left ≤ 1099511627776) (hs : okLayer x) :
    Calls Try.prog 107 #[vLayer x, .int .i64 left] w fun e w' => SzF (zLayer x) left w e w' := by
  obtain ⟨a0, a1⟩ := x
  obtain ⟨hs0, hs1⟩ := hs
  simp only [vLayer, zLayer] at *
  unfold maxLen at *
  have HZ0 := Lib.hid (size_strB a0)
  by_cases hn0 : left - (a0.length : Int) < 0
  · go_enter Try.func107, Try.ntmps107
    go_wp2
    go_ret
    exact ⟨-1, rfl, by omega, by omega, (Below.refl _ _).alloc (Nat.le_refl _) _⟩
  · go_enter Try.func107, Try.ntmps107
    go_wp2
    go_ret
    exact ⟨_, rfl, by omega, by push_cast; omega, (Below.refl _ _).alloc (Nat.le_refl _) _⟩
set_option maxRecDepth 100000 in
set_option maxHeartbeats 800000 in
theorem szLayerS_any (v : Value) (x : List LayerD) (left : Int) (w : World) (hx : FlatAt cLayer 2 w v x) (hs : ∀ d ∈ x, okLayer d) (h0 : 0 ≤ left) (h1 : left ≤ 1099511627776) :
    Calls Try.prog 88 #[v, .int .i64 left] w fun e w' => SzF (x.length + sumF zLayer x) left w e w' := by
  obtain ⟨a, c, rfl, hl⟩ := flatAt_len hx
  have HX := Lib.hid hx
  have HS := Lib.hid hs
  clear hx hs
  unfold maxLen at hl
  by_cases hneg : left - (x.length : Int) < 0
  · go_enter Try.func88, Try.ntmps88
    go_wp2
    go_ret
    exact ⟨-1, rfl, by omega, by omega, Below.refl _ _⟩
  · go_enter Try.func88, Try.ntmps88
    go_wp2
    go_loopw [1, 5] (fun r i wr => ∃ k : Nat, ∃ z : Int, k ≤ x.length ∧ i = .int .i64 k ∧ r = .int .i64 z ∧ 0 ≤ z ∧ z ≤ left ∧ (x.length : Int) + sumF zLayer (x.take k) + z = left ∧ Below w.heap.size w wr) (fun _ i _ => x.length - (intOf i).toNat)
    case atStart => exact ⟨0, _, Nat.zero_le _, rfl, rfl, by omega, by omega, by simp [sumF]; omega, Below.refl _ _⟩
    case round =>
      obtain ⟨k, z, hk, rfl, rfl, hz0, hz1, ht, hbr⟩ := hrel
      have HT := Lib.hid ht
      have HB := Lib.hid hbr
      have HXr := Lib.hid (FlatAt.below HX.out hbr (Nat.le_refl _))
      clear ht hbr
      by_cases hlt : k < x.length
      · obtain ⟨b, o, rfl, _, hd⟩ := flatAt_cell cLayer_len HXr.out k hlt (by decide)
        have d0 := hd 0 (by decide)
        have d1 := hd 1 (by decide)
        clear hd
        have HC := Lib.hid (szLayer_any x[k] z wr hz0 (by omega) (HS.out _ (List.getElem_mem hlt)))
        have HK := Lib.hid (sumF_take_succ zLayer x k hlt)
        generalize x[k] = p at *
        have HP := Lib.hid (rfl : zLayer p = zLayer p)
        obtain ⟨a0, a1⟩ := p
        simp only [cLayer, vLayer, List.getElem?_cons_zero, List.getElem?_cons_succ, Nat.add_zero] at d0 d1 HC
        go_wp2_with fail
        refine HC.out.mono ?_
        rintro e w2 ⟨r, rfl, hr0, hr1, hb0⟩
        have HB2 := Lib.hid (HB.out.trans (hb0.mono HB.out.size))
        have HR := Lib.hid hr1
        clear hb0 hr1
        by_cases hn2 : r < 0
        · go_wp2_with fail
          go_ret
          exact ⟨-1, rfl, by omega, by omega, HB2.out⟩
        · have hr := HR.out (by omega)
          go_wp2_with fail
          exact ⟨⟨k + 1, _, by omega, by go_num, rfl, by omega, by omega, by rw [HK.out]; have := HT.out; push_cast; omega, HB2.out⟩, by simp [intOf]; omega⟩
      · have HN := Lib.hid (show x.take k = x from List.take_of_length_le (by omega))
        go_wp2
        go_ret
        exact ⟨z, rfl, by omega, fun _ => by have := HT.out; rw [HN.out] at this; omega, HB.out⟩
theorem infoLayer : (Try.prog.info? 109).map (fun i => (i.zero, i.size, i.bytes)) = some (some (.agg #[.string ⟨#[]⟩, .int .i64 0]), 2, 24) := by kernel_rfl
set_option maxRecDepth 100000 in
set_option maxHeartbeats 1600000 in
theorem toLayerS_any (v : Value) (x : List LayerD) (w : World) (hx : FlatAt cLayer 2 w v x) (hm : x.length ≤ 2097152) :
    Calls Try.prog 90 #[v] w fun e w' => e = .returned (.slice (some ⟨w.heap.size, 0, none⟩) x.length x.length) ∧ OwnsF cLayer 109 2 w' w.heap.size (.slice (some ⟨w.heap.size, 0, none⟩) x.length x.length) x ∧ Below w.heap.size w w' := by
  obtain ⟨a, c, rfl, hl⟩ := flatAt_len hx
  obtain ⟨i0, hi, hz0, hz1, hz2⟩ := info_parts infoLayer
  have HX := Lib.hid hx
  clear hx
  unfold maxLen at hl
  go_enter Try.func90, Try.ntmps90
  have hb2 : i0.bytes * x.length ≤ 281474976710656 := by rw [hz2]; omega
  have HB2 := Lib.hid hb2
  have HM := Lib.hid (show x.length ≤ maxLen from by unfold maxLen; omega)
  clear hb2
  go_wp2_with (refine wpList_make_full _ rfl (.tmp 6) (.tmp 6) 59 rfl w.heap.size 109 i0 _ 2 Try.underlying59 hi hz0 hz1 .i64 .i64 _ _ x.length rfl rfl rfl rfl HB2.out HM.out (Nat.le_refl _) ?_; intro w1 hown1 hgrow1)
  have HO := Lib.hid (show ∃ xs, w1.ownsRow w.heap.size 109 2 (.slice (some ⟨w.heap.size, 0, none⟩) x.length x.length) x.length xs ∧ xs.take (0 * 2) = (x.flatMap cLayer).take (0 * 2) from ⟨_, hown1, by simp⟩)
  have HB := Lib.hid (show Below w.heap.size w w1 from ⟨hgrow1.os, hgrow1.tape, hgrow1.output, hgrow1.size, fun i hi => hgrow1.block i hi (by simp)⟩)
  have hsz := hgrow1.size
  clear hown1 hgrow1 hz0 hz1 hz2 HB2 hi
  go_loopw [4] (fun i wr => ∃ k : Nat, k ≤ x.length ∧ i = .int .i64 k ∧ (∃ xs, wr.ownsRow w.heap.size 109 2 (.slice (some ⟨w.heap.size, 0, none⟩) x.length x.length) x.length xs ∧ xs.take (k * 2) = (x.flatMap cLayer).take (k * 2)) ∧ Below w.heap.size w wr) (fun i _ => x.length - (intOf i).toNat)
  case atStart => exact ⟨0, Nat.zero_le _, rfl, HO.out, HB.out⟩
  case round =>
    obtain ⟨k, hk, rfl, ⟨xs, hown, htake⟩, hb⟩ := hrel
    have HR := Lib.hid (FlatAt.below HX.out hb (Nat.le_refl _))
    have HBr := Lib.hid hb
    have HOw := Lib.hid hown
    have HT := Lib.hid htake
    have HXL := Lib.hid (show xs.length = x.length * 2 from hown.1)
    clear hb hown htake
    by_cases hlt : k < x.length
    · obtain ⟨b, o, rfl, _, hd⟩ := flatAt_cell cLayer_len HR.out k hlt (by decide)
      have d0 := hd 0 (by decide)
      have d1 := hd 1 (by decide)
      have g0 := flat_get cLayer 2 cLayer_len x k hlt 0 (by decide)
      have g1 := flat_get cLayer 2 cLayer_len x k hlt 1 (by decide)
      clear hd
      have HC := Lib.hid (toLayer_any x[k] wr)
      generalize x[k] = p at *
      obtain ⟨a0, a1⟩ := p
      simp only [cLayer, vLayer, List.getElem?_cons_zero, List.getElem?_cons_succ, Nat.add_zero] at d0 d1 HC g0 g1
      have G0 := Lib.hid g0
      have G1 := Lib.hid g1
      clear g0 g1
      go_wp2_with fail
      refine HC.out.mono ?_
      rintro e w2 ⟨rfl, hb0⟩
      have HB3 := Lib.hid (HBr.out.trans (hb0.mono HBr.out.size))
      have HO3 := Lib.hid (ownsRow_below HOw.out hb0 (Nat.le_refl _))
      clear hb0
      obtain ⟨u0, c0⟩ : ∃ u, w2.cell? ⟨w.heap.size, k * 2, none⟩ = some u := by
        rw [World.ownsRow.cellAt HO3.out (k * 2) (by omega), List.getElem?_eq_getElem (by have := HXL.out; omega)]
        exact ⟨_, rfl⟩
      have f0 := World.ownsRow.frozenAt HO3.out (k * 2)
      obtain ⟨u1, c1⟩ : ∃ u, w2.cell? ⟨w.heap.size, k * 2 + 1, none⟩ = some u := by
        rw [World.ownsRow.cellAt HO3.out (k * 2 + 1) (by omega), List.getElem?_eq_getElem (by have := HXL.out; omega)]
        exact ⟨_, rfl⟩
      have f1 := World.ownsRow.frozenAt HO3.out (k * 2 + 1)
      have HS0 := Lib.hid (World.ownsRow.stored HO3.out (k * 2) (.string ⟨a0.toArray⟩))
      have HT0 := Lib.hid (take_set_get _ (x.flatMap cLayer) (k * 2) _ (by have := HXL.out; (try simp only [List.length_set]); omega) G0.out HT.out)
      have HS1 := Lib.hid (World.ownsRow.stored HS0.out.1 (k * 2 + 1) (.int .i64 a1))
      have HT1 := Lib.hid (take_set_get _ (x.flatMap cLayer) (k * 2 + 1) _ (by have := HXL.out; (try simp only [List.length_set]); omega) G1.out HT0.out)
      go_wp2_with fail
      refine ⟨⟨k + 1, by omega, by go_num, ⟨_, HS1.out.1, by rw [show (k + 1) * 2 = k * 2 + 1 + 1 by omega]; exact HT1.out⟩, ?_⟩, by simp [intOf]; omega⟩
      exact ((HB3.out.setCell (Nat.le_refl _) _).setCell (Nat.le_refl _) _)
    · have HN := Lib.hid (show xs = x.flatMap cLayer from by
        have h := HT.out
        rw [List.take_of_length_le (by have := HXL.out; omega), List.take_of_length_le (by rw [flat_len cLayer 2 cLayer_len]; omega)] at h
        exact h)
      go_wp2
      go_ret
      exact ⟨rfl, by have h := HOw.out; rw [HN.out] at h; exact h, HBr.out⟩
def marksLayer (k : Int) (n : Nat) : List LayerD := (List.range n).map fun i : Nat => ⟨markL (k + i * 2), k + i * 2 + 1⟩
theorem marksLayer_len (k : Int) (n : Nat) : (marksLayer k n).length = n := by simp [marksLayer]
theorem marksLayer_get (k : Int) (n i : Nat) (h : i < n) : (marksLayer k n)[i]'(by rw [marksLayer_len]; exact h) = ⟨markL (k + i * 2), k + i * 2 + 1⟩ := by simp [marksLayer]
set_option maxRecDepth 100000 in
set_option maxHeartbeats 1600000 in
theorem markLayerS_any (B : Nat) (v : Value) (x : List LayerD) (k : Int) (w : World) (hO : OwnsF cLayer 109 2 w B v x) (hm : x.length ≤ 2097152) (h0 : 1 ≤ k) (h1 : k ≤ 16777216) :
    Calls Try.prog 30 #[v, .int .i64 k] w fun e w' => e = .returned (.int .i64 (k + x.length * 2)) ∧ OwnsF cLayer 109 2 w' B v (marksLayer k x.length) ∧ w.grownBy w' v.ownBlock := by
  unfold OwnsF at hO
  rcases hO.2 with ⟨rfl, hn⟩ | ⟨g, cap, cur, rfl, _⟩
  · have hx : x = [] := List.eq_nil_of_length_eq_zero hn
    subst hx
    go_enter Try.func30, Try.ntmps30
    go_wp2_with fail
    refine wp_loop_rounds 1 ?_
    rw [rounds_succ]
    go_wp2_with fail
    go_ret
    exact ⟨ret_int (by simp), by simpa [OwnsF, marksLayer] using hO, grownBy_refl _ _⟩
  · have HO := Lib.hid (show ∃ xs, w.ownsRow B 109 2 (.slice (some ⟨g, 0, none⟩) x.length cap) x.length xs ∧ xs.take (0 * 2) = ((marksLayer k x.length).flatMap cLayer).take (0 * 2) from ⟨_, hO, by simp⟩)
    have hgw : g < w.heap.size := (hO.lt g rfl).2
    clear hO
    go_enter Try.func30, Try.ntmps30
    go_wp2_with fail
    go_loopw [1, 5] (fun kv i wr => ∃ j : Nat, j ≤ x.length ∧ i = .int .i64 j ∧ kv = .int .i64 (k + j * 2) ∧ (∃ xs, wr.ownsRow B 109 2 (.slice (some ⟨g, 0, none⟩) x.length cap) x.length xs ∧ xs.take (j * 2) = ((marksLayer k x.length).flatMap cLayer).take (j * 2)) ∧ w.grownBy wr (some g)) (fun _ i _ => x.length - (intOf i).toNat)
    case atStart => exact ⟨0, Nat.zero_le _, rfl, by simp, HO.out, grownBy_refl _ _⟩
    case round =>
      obtain ⟨j, hj, rfl, rfl, ⟨xs, hown, htake⟩, hg⟩ := hrel
      have HG := Lib.hid hg
      have HOw := Lib.hid hown
      have HT := Lib.hid htake
      have HXL := Lib.hid (show xs.length = x.length * 2 from hown.1)
      clear hg hown htake
      by_cases hlt : j < x.length
      · have G0 := Lib.hid (flat_get cLayer 2 cLayer_len (marksLayer k x.length) j (by rw [marksLayer_len]; exact hlt) 0 (by decide))
        have G1 := Lib.hid (flat_get cLayer 2 cLayer_len (marksLayer k x.length) j (by rw [marksLayer_len]; exact hlt) 1 (by decide))
        rw [marksLayer_get k _ j hlt] at G0 G1
        simp only [cLayer, List.getElem?_cons_zero, List.getElem?_cons_succ, Nat.add_zero] at G0 G1
        go_wp2_with fail
        refine (markText_any (k + j * 2) _ (by omega) (by omega)).mono ?_
        rintro e w1 ⟨rfl, hb⟩
        have HO1 := Lib.hid (ownsRow_below HOw.out hb (Nat.le_refl _))
        have HG1 := Lib.hid (grownBy_below (HG.out) hb (HG.out).size)
        clear hb
        obtain ⟨u0, c0⟩ : ∃ u, w1.cell? ⟨g, j * 2, none⟩ = some u := by
          rw [World.ownsRow.cellAt HO1.out (j * 2) (by omega), List.getElem?_eq_getElem (by have := HXL.out; (try simp only [List.length_set]); omega)]
          exact ⟨_, rfl⟩
        have f0 := World.ownsRow.frozenAt HO1.out (j * 2)
        obtain ⟨u1, c1⟩ : ∃ u, w1.cell? ⟨g, j * 2 + 1, none⟩ = some u := by
          rw [World.ownsRow.cellAt HO1.out (j * 2 + 1) (by omega), List.getElem?_eq_getElem (by have := HXL.out; (try simp only [List.length_set]); omega)]
          exact ⟨_, rfl⟩
        have f1 := World.ownsRow.frozenAt HO1.out (j * 2 + 1)
        have HS0 := Lib.hid (World.ownsRow.stored HO1.out (j * 2) (.string ⟨(markL (k + j * 2)).toArray⟩))
        have HT0 := Lib.hid (take_set_get _ _ (j * 2) _ (by have := HXL.out; (try simp only [List.length_set]); omega) G0.out HT.out)
        have HS1 := Lib.hid (World.ownsRow.stored HS0.out.1 (j * 2 + 1) (.int .i64 (k + j * 2 + 1)))
        have HT1 := Lib.hid (take_set_get _ _ (j * 2 + 1) _ (by have := HXL.out; (try simp only [List.length_set]); omega) G1.out HT0.out)
        go_wp2_with fail
        refine ⟨⟨j + 1, by omega, by go_num, ?_, ⟨_, HS1.out.1, by rw [show (j + 1) * 2 = j * 2 + 1 + 1 by omega]; exact HT1.out⟩, ?_⟩, by simp [intOf]; omega⟩
        · congr 1; push_cast; omega
        · exact (grownBy_trans (grownBy_trans HG1.out HS0.out.2) HS1.out.2)
      · have HN := Lib.hid (show xs = (marksLayer k x.length).flatMap cLayer from by
          have h := HT.out
          rw [List.take_of_length_le (by have := HXL.out; omega), List.take_of_length_le (by rw [flat_len cLayer 2 cLayer_len, marksLayer_len]; omega)] at h
          exact h)
        go_wp2_with fail
        go_ret
        exact ⟨ret_int (by rw [show j = x.length by omega]), by have h := HOw.out; rw [HN.out] at h; unfold OwnsF; rw [marksLayer_len]; exact h, HG.out⟩
set_option maxRecDepth 100000 in
set_option maxHeartbeats 1600000 in
theorem heldLayerS_any (v : Value) (n : Nat) (k : Int) (w : World) (hR : FlatAt cLayer 2 w v (marksLayer k n)) (hm : n ≤ 2097152) (h0 : 1 ≤ k) (h1 : k ≤ 16777216) :
    Calls Try.prog 32 #[v, .int .i64 k] w fun e w' => e = .returned (.int .i64 (k + n * 2)) ∧ Below w.heap.size w w' := by
  obtain ⟨a, c, rfl, hl⟩ := flatAt_len hR
  rw [marksLayer_len] at *
  have HR := Lib.hid hR
  clear hR
  unfold maxLen at hl
  go_enter Try.func32, Try.ntmps32
  go_wp2_with fail
  go_loopw [1, 5] (fun kv i wr => ∃ j : Nat, j ≤ n ∧ i = .int .i64 j ∧ kv = .int .i64 (k + j * 2) ∧ Below w.heap.size w wr) (fun _ i _ => n - (intOf i).toNat)
  case atStart => exact ⟨0, Nat.zero_le _, rfl, by simp, Below.refl _ _⟩
  case round =>
    obtain ⟨j, hj, rfl, rfl, hb⟩ := hrel
    have HB := Lib.hid hb
    have HRr := Lib.hid (FlatAt.below HR.out hb (Nat.le_refl _))
    clear hb
    by_cases hlt : j < n
    · obtain ⟨b, o, rfl, hbw, hd⟩ := flatAt_cell cLayer_len HRr.out j (by rw [marksLayer_len]; exact hlt) (by decide)
      rw [marksLayer_get k n j hlt] at hd
      have d0 := hd 0 (by decide)
      have d1 := hd 1 (by decide)
      clear hd
      simp only [cLayer, List.getElem?_cons_zero, List.getElem?_cons_succ, Nat.add_zero] at d0 d1
      have hj0 : (0 : Int) ≤ (j : Int) := Int.natCast_nonneg _
      have hj1 : (j : Int) < (n : Int) := by omega
      have D0 := Lib.hid d0
      have D1 := Lib.hid d1
      clear d0 d1
      have HBL := Lib.hid hbw
      have d0 := D0.out
      have hbeq0 : (markL (k + j * 2) == markL (k + j * 2)) = true := by simp
      go_wp2_with fail
      go_region_held3 (fun w' => w'.cell? ⟨b, o + j * 2, none⟩ = some (.string ⟨(markL (k + j * 2)).toArray⟩))
        (first
          | go_keep
          | (rw [hb1.cell (p := ⟨b, o + j * 2, none⟩) (by simpa using hbw)]; assumption))
        ((go_at_call 28; refine (markText_any (k + j * 2) _ (by omega) (by omega)).mono ?_; rintro e w1 ⟨rfl, hb1⟩))
      have hB1 : Below wr.heap.size wr w1 := ⟨hb1.os, hb1.tape, hb1.output, hb1.size, hb1.block⟩
      have HB1 := Lib.hid (HB.out.trans (hB1.mono HB.out.size))
      have E1_1 := Lib.hid (show w1.cell? ⟨b, o + j * 2 + 1, none⟩ = some (.int .i64 (k + j * 2 + 1)) by rw [hB1.cell (p := ⟨b, o + j * 2 + 1, none⟩) hbw]; exact D1.out)
      have hbw1 : b < w1.heap.size := Nat.lt_of_lt_of_le hbw hB1.size
      clear hb1 hB1
      have hbw := hbw1
      have d1 := E1_1.out
      go_wp2_with fail
      exact ⟨⟨j + 1, by omega, by go_num, by congr 1; push_cast; omega, HB1.out⟩, by simp [intOf]; omega⟩
    · go_wp2_with fail
      go_ret
      exact ⟨ret_int (by rw [show j = n by omega]), HB.out⟩
end Go.Proofs.Yteeopjcbpngofaa
/- Layer: how it reads, and what the laws' own helpers do with it. Written by gen/deep.py. -/
namespace Go.Proofs.Yteeopjcbpngofaa
set_option linter.unusedVariables false
set_option linter.unusedSimpArgs false
open Go.RowKit
theorem toLayerS_d (v : Value) (x : List LayerD) (w : World) (hx : SliceAt (rFlat cLayer) 2 0 w v x) (hm : x.length + sumF zLayer x ≤ 2097152) : Calls Try.prog 90 #[v] w fun e w' => GivesS (rFlat cLayer) 2 x w e w' :=
  (toLayerS_any v x w (flatAt_of_slice cLayer_len (by decide) hx) (by omega)).mono fun e w' ⟨h1, h2, h3⟩ => ⟨_, h1, sliceAt_of_owns cLayer_len h2 (by omega), h3⟩
theorem szLayerS_d (v : Value) (x : List LayerD) (left : Int) (w : World) (hx : SliceAt (rFlat cLayer) 2 0 w v x) (hs : ∀ d ∈ x, okLayer d) (h0 : 0 ≤ left) (h1 : left ≤ 1099511627776) : Calls Try.prog 88 #[v, .int .i64 left] w fun e w' => SzF (x.length + sumF zLayer x) left w e w' :=
  szLayerS_any v x left w (flatAt_of_slice cLayer_len (by decide) hx) hs h0 h1
theorem eqLayerS_d (v u : Value) (x y : List LayerD) (w : World) (hx : SliceAt (rFlat cLayer) 2 0 w v x) (hy : SliceAt (rFlat cLayer) 2 0 w u y) : Calls Try.prog 86 #[v, u] w fun e w' => e = .returned (.bool (decide (x = y))) ∧ Below w.heap.size w w' :=
  eqLayerS_any v u x y w (flatAt_of_slice cLayer_len (by decide) hx) (flatAt_of_slice cLayer_len (by decide) hy)
end Go.Proofs.Yteeopjcbpngofaa
namespace Go.Proofs.Yteeopjcbpngofaa
set_option linter.unusedVariables false
set_option linter.unusedSimpArgs false
open Go.RowKit
structure PartD where
  fCore : CoreD
  fLayers : List LayerD
deriving DecidableEq
def okPart (x : PartD) : Prop := (okCore x.fCore) ∧ (∀ c ∈ x.fLayers, okLayer c)
def rPart : Nat → World → List Value → PartD → Prop := fun F w cs x => ∃ v3 v5, cs = [.string ⟨x.fCore.fKind.toArray⟩, .bool x.fCore.fOn, .bool x.fCore.fBroken, v3, .int .i64 x.fCore.fCount, v5] ∧ SliceAt (rFlat cCell) 2 F w v3 x.fCore.fCells ∧ SliceAt (rFlat cLayer) 2 F w v5 x.fLayers
theorem goodPart : Good rPart 6 := by
  refine ⟨?_, ?_, ?_⟩
  · rintro F w cs x ⟨v3, v5, rfl, h3, h5⟩; rfl
  · rintro F w w' cs x ⟨v3, v5, rfl, h3, h5⟩ hk; exact ⟨v3, v5, rfl, h3.keep (good_flat cCell_len) hk, h5.keep (good_flat cLayer_len) hk⟩
  · rintro F F' w cs x ⟨v3, v5, rfl, h3, h5⟩ hF; exact ⟨v3, v5, rfl, h3.mono (good_flat cCell_len) hF, h5.mono (good_flat cLayer_len) hF⟩
def zPart (x : PartD) : Nat := zCore x.fCore + (x.fLayers.length + sumF zLayer x.fLayers)
set_option maxRecDepth 100000 in
set_option maxHeartbeats 1600000 in
theorem toPart_d (v : Value) (x : PartD) (w : World) (hx : ValAt rPart 0 w v x) (hm : zPart x ≤ 2097152) : Calls Try.prog 66 #[v] w fun e w' => GivesV rPart x w e w' := by
  obtain ⟨_, rfl, hx⟩ := hx
  obtain ⟨⟨a0_0, a0_1, a0_2, a0_3, a0_4⟩, a1⟩ := x
  obtain ⟨v3, v5, rfl, h3, h5⟩ := hx
  simp only at h3 h5
  simp only [zPart, zCore] at hm
  have HM := Lib.hid hm
  obtain ⟨ra3, rc3, rfl, _⟩ := sliceAt_len h3
  obtain ⟨ra5, rc5, rfl, _⟩ := sliceAt_len h5
  have H3 := Lib.hid h3
  have H5 := Lib.hid h5
  clear hm h3 h5
  have HS := Lib.hid (bx_start3 w [.string ⟨a0_0.toArray⟩, .bool a0_1, .bool a0_2, .slice ra3 a0_3.length rc3, .int .i64 a0_4, .slice ra5 a1.length rc5] [.string ⟨#[]⟩, .bool false, .bool false, .slice none 0 0, .int .i64 0, .slice none 0 0] [.string ⟨#[]⟩, .bool false, .bool false, .slice none 0 0, .int .i64 0, .slice none 0 0] 73 61 61)
  have BA := Lib.hid HS.out.1
  have BB := Lib.hid HS.out.2.1
  have BC := Lib.hid HS.out.2.2.1
  have HB := Lib.hid HS.out.2.2.2
  clear HS
  go_enter Try.func66, Try.ntmps66
  go_wp2_with fail
  generalize ((w.alloc (.cells #[.string ⟨a0_0.toArray⟩, .bool a0_1, .bool a0_2, .slice ra3 a0_3.length rc3, .int .i64 a0_4, .slice ra5 a1.length rc5] 73)).alloc (.cells #[.string ⟨#[]⟩, .bool false, .bool false, .slice none 0 0, .int .i64 0, .slice none 0 0] 61)).alloc (.cells #[.string ⟨#[]⟩, .bool false, .bool false, .slice none 0 0, .int .i64 0, .slice none 0 0] 61) = X1 at *
  refine (toCore_d _ (⟨a0_0, a0_1, a0_2, a0_3, a0_4⟩ : CoreD) _ ⟨_, rfl, _, rfl, (H3.out.below (good_flat cCell_len) HB.out (Nat.le_refl _))⟩ (by simp only [zCore]; have := HM.out; omega)).mono ?_
  rintro e w1 ⟨_, rfl, ⟨u3, rfl, hr3⟩, hb⟩
  have hX : w.heap.size + 3 ≤ X1.heap.size := by have := BC.out.lt; omega
  simp only at hr3
  have R3 := Lib.hid (hr3.mono (good_flat cCell_len) hX)
  obtain ⟨p3, q3, rfl, _⟩ := sliceAt_len hr3
  clear hr3
  have BA := Lib.hid (BA.out.below hb)
  have BB := Lib.hid (BB.out.below hb)
  have BC := Lib.hid (BC.out.below hb)
  have HB := Lib.hid (belS (w := w) HB.out hb)
  clear hb hX
  have eA0 := BA.out.cell 0 (by simp)
  have eA1 := BA.out.cell 1 (by simp)
  have eA2 := BA.out.cell 2 (by simp)
  have eA3 := BA.out.cell 3 (by simp)
  have eA4 := BA.out.cell 4 (by simp)
  have eA5 := BA.out.cell 5 (by simp)
  simp only [List.getElem_cons_zero, List.getElem_cons_succ, List.set_cons_zero, List.set_cons_succ] at eA0 eA1 eA2 eA3 eA4 eA5
  have eC0 := BC.out.cell 0 (by simp)
  have fC0 := BC.out.froz 0 (by simp)
  have eC1 := BC.out.cell 1 (by simp)
  have fC1 := BC.out.froz 1 (by simp)
  have eC2 := BC.out.cell 2 (by simp)
  have fC2 := BC.out.froz 2 (by simp)
  have eC3 := BC.out.cell 3 (by simp)
  have fC3 := BC.out.froz 3 (by simp)
  have eC4 := BC.out.cell 4 (by simp)
  have fC4 := BC.out.froz 4 (by simp)
  have eC5 := BC.out.cell 5 (by simp)
  have fC5 := BC.out.froz 5 (by simp)
  simp only [List.getElem_cons_zero, List.getElem_cons_succ, List.set_cons_zero, List.set_cons_succ] at eC0 eC1 eC2 eC3 eC4 eC5
  go_wp2_with fail
  clear eA0 eA1 eA2 eA3 eA4 eA5
  clear eC0 fC0 eC1 fC1 eC2 fC2 eC3 fC3 eC4 fC4 eC5 fC5
  have BC := Lib.hid (BC.out.set 0 (by simp) (.string ⟨a0_0.toArray⟩))
  have BA := Lib.hid (BA.out.other (c := w.heap.size + 1 + 1) (by omega) 0 (.string ⟨a0_0.toArray⟩))
  have BB := Lib.hid (BB.out.other (c := w.heap.size + 1 + 1) (by omega) 0 (.string ⟨a0_0.toArray⟩))
  have HB := Lib.hid (HB.out.setCell (p := ⟨w.heap.size + 1 + 1, 0, none⟩) (by simp; try omega) (.string ⟨a0_0.toArray⟩))
  have BC := Lib.hid (BC.out.set 1 (by simp) (.bool a0_1))
  have BA := Lib.hid (BA.out.other (c := w.heap.size + 1 + 1) (by omega) 1 (.bool a0_1))
  have BB := Lib.hid (BB.out.other (c := w.heap.size + 1 + 1) (by omega) 1 (.bool a0_1))
  have HB := Lib.hid (HB.out.setCell (p := ⟨w.heap.size + 1 + 1, 1, none⟩) (by simp; try omega) (.bool a0_1))
  have BC := Lib.hid (BC.out.set 2 (by simp) (.bool a0_2))
  have BA := Lib.hid (BA.out.other (c := w.heap.size + 1 + 1) (by omega) 2 (.bool a0_2))
  have BB := Lib.hid (BB.out.other (c := w.heap.size + 1 + 1) (by omega) 2 (.bool a0_2))
  have HB := Lib.hid (HB.out.setCell (p := ⟨w.heap.size + 1 + 1, 2, none⟩) (by simp; try omega) (.bool a0_2))
  have BC := Lib.hid (BC.out.set 3 (by simp) (.slice p3 a0_3.length q3))
  have BA := Lib.hid (BA.out.other (c := w.heap.size + 1 + 1) (by omega) 3 (.slice p3 a0_3.length q3))
  have BB := Lib.hid (BB.out.other (c := w.heap.size + 1 + 1) (by omega) 3 (.slice p3 a0_3.length q3))
  have HB := Lib.hid (HB.out.setCell (p := ⟨w.heap.size + 1 + 1, 3, none⟩) (by simp; try omega) (.slice p3 a0_3.length q3))
  have BC := Lib.hid (BC.out.set 4 (by simp) (.int .i64 a0_4))
  have BA := Lib.hid (BA.out.other (c := w.heap.size + 1 + 1) (by omega) 4 (.int .i64 a0_4))
  have BB := Lib.hid (BB.out.other (c := w.heap.size + 1 + 1) (by omega) 4 (.int .i64 a0_4))
  have HB := Lib.hid (HB.out.setCell (p := ⟨w.heap.size + 1 + 1, 4, none⟩) (by simp; try omega) (.int .i64 a0_4))
  have R3 := Lib.hid (R3.out.keep (good_flat cCell_len) ((((((Kept.refl _ _).setCell (p := ⟨w.heap.size + 1 + 1, 0, none⟩) (by simp) (.string ⟨a0_0.toArray⟩)).setCell (p := ⟨w.heap.size + 1 + 1, 1, none⟩) (by simp) (.bool a0_1)).setCell (p := ⟨w.heap.size + 1 + 1, 2, none⟩) (by simp) (.bool a0_2)).setCell (p := ⟨w.heap.size + 1 + 1, 3, none⟩) (by simp) (.slice p3 a0_3.length q3)).setCell (p := ⟨w.heap.size + 1 + 1, 4, none⟩) (by simp) (.int .i64 a0_4)))
  simp only [List.set_cons_zero, List.set_cons_succ] at BC
  generalize (((((w1).setCell ⟨w.heap.size + 1 + 1, 0, none⟩ (.string ⟨a0_0.toArray⟩)).setCell ⟨w.heap.size + 1 + 1, 1, none⟩ (.bool a0_1)).setCell ⟨w.heap.size + 1 + 1, 2, none⟩ (.bool a0_2)).setCell ⟨w.heap.size + 1 + 1, 3, none⟩ (.slice p3 a0_3.length q3)).setCell ⟨w.heap.size + 1 + 1, 4, none⟩ (.int .i64 a0_4) = X2 at *
  refine (toLayerS_d _ a1 _ (H5.out.below (good_flat cLayer_len) HB.out (Nat.le_refl _)) (by have := HM.out; omega)).mono ?_
  rintro e w2 ⟨u5, rfl, hr5, hb⟩
  have hX : w.heap.size + 3 ≤ X2.heap.size := by have := BC.out.lt; omega
  have R3 := Lib.hid (R3.out.keep (good_flat cCell_len) (kept_below hb (Nat.le_refl _)))
  have R5 := Lib.hid (hr5.mono (good_flat cLayer_len) hX)
  obtain ⟨p5, q5, rfl, _⟩ := sliceAt_len hr5
  clear hr5
  have BA := Lib.hid (BA.out.below hb)
  have BB := Lib.hid (BB.out.below hb)
  have BC := Lib.hid (BC.out.below hb)
  have HB := Lib.hid (belS (w := w) HB.out hb)
  clear hb hX
  have eA0 := BA.out.cell 0 (by simp)
  have eA1 := BA.out.cell 1 (by simp)
  have eA2 := BA.out.cell 2 (by simp)
  have eA3 := BA.out.cell 3 (by simp)
  have eA4 := BA.out.cell 4 (by simp)
  have eA5 := BA.out.cell 5 (by simp)
  simp only [List.getElem_cons_zero, List.getElem_cons_succ, List.set_cons_zero, List.set_cons_succ] at eA0 eA1 eA2 eA3 eA4 eA5
  have eC0 := BC.out.cell 0 (by simp)
  have fC0 := BC.out.froz 0 (by simp)
  have eC1 := BC.out.cell 1 (by simp)
  have fC1 := BC.out.froz 1 (by simp)
  have eC2 := BC.out.cell 2 (by simp)
  have fC2 := BC.out.froz 2 (by simp)
  have eC3 := BC.out.cell 3 (by simp)
  have fC3 := BC.out.froz 3 (by simp)
  have eC4 := BC.out.cell 4 (by simp)
  have fC4 := BC.out.froz 4 (by simp)
  have eC5 := BC.out.cell 5 (by simp)
  have fC5 := BC.out.froz 5 (by simp)
  simp only [List.getElem_cons_zero, List.getElem_cons_succ, List.set_cons_zero, List.set_cons_succ] at eC0 eC1 eC2 eC3 eC4 eC5
  have eB0 := BB.out.cell 0 (by simp)
  have fB0 := BB.out.froz 0 (by simp)
  have eB1 := BB.out.cell 1 (by simp)
  have fB1 := BB.out.froz 1 (by simp)
  have eB2 := BB.out.cell 2 (by simp)
  have fB2 := BB.out.froz 2 (by simp)
  have eB3 := BB.out.cell 3 (by simp)
  have fB3 := BB.out.froz 3 (by simp)
  have eB4 := BB.out.cell 4 (by simp)
  have fB4 := BB.out.froz 4 (by simp)
  have eB5 := BB.out.cell 5 (by simp)
  have fB5 := BB.out.froz 5 (by simp)
  simp only [List.getElem_cons_zero, List.getElem_cons_succ, List.set_cons_zero, List.set_cons_succ] at eB0 eB1 eB2 eB3 eB4 eB5
  go_wp2_with fail
  clear eA0 eA1 eA2 eA3 eA4 eA5
  clear eC0 fC0 eC1 fC1 eC2 fC2 eC3 fC3 eC4 fC4 eC5 fC5
  clear eB0 fB0 eB1 fB1 eB2 fB2 eB3 fB3 eB4 fB4 eB5 fB5
  have BC := Lib.hid (BC.out.set 5 (by simp) (.slice p5 a1.length q5))
  have BA := Lib.hid (BA.out.other (c := w.heap.size + 1 + 1) (by omega) 5 (.slice p5 a1.length q5))
  have BB := Lib.hid (BB.out.other (c := w.heap.size + 1 + 1) (by omega) 5 (.slice p5 a1.length q5))
  have HB := Lib.hid (HB.out.setCell (p := ⟨w.heap.size + 1 + 1, 5, none⟩) (by simp; try omega) (.slice p5 a1.length q5))
  have R3 := Lib.hid (R3.out.keep (good_flat cCell_len) ((Kept.refl _ _).setCell (p := ⟨w.heap.size + 1 + 1, 5, none⟩) (by simp) (.slice p5 a1.length q5)))
  have R5 := Lib.hid (R5.out.keep (good_flat cLayer_len) ((Kept.refl _ _).setCell (p := ⟨w.heap.size + 1 + 1, 5, none⟩) (by simp) (.slice p5 a1.length q5)))
  simp only [List.set_cons_zero, List.set_cons_succ] at BC
  have BB := Lib.hid (BB.out.set 0 (by simp) (.string ⟨a0_0.toArray⟩))
  have HB := Lib.hid (HB.out.setCell (p := ⟨w.heap.size + 1, 0, none⟩) (by simp; try omega) (.string ⟨a0_0.toArray⟩))
  have BB := Lib.hid (BB.out.set 1 (by simp) (.bool a0_1))
  have HB := Lib.hid (HB.out.setCell (p := ⟨w.heap.size + 1, 1, none⟩) (by simp; try omega) (.bool a0_1))
  have BB := Lib.hid (BB.out.set 2 (by simp) (.bool a0_2))
  have HB := Lib.hid (HB.out.setCell (p := ⟨w.heap.size + 1, 2, none⟩) (by simp; try omega) (.bool a0_2))
  have BB := Lib.hid (BB.out.set 3 (by simp) (.slice p3 a0_3.length q3))
  have HB := Lib.hid (HB.out.setCell (p := ⟨w.heap.size + 1, 3, none⟩) (by simp; try omega) (.slice p3 a0_3.length q3))
  have BB := Lib.hid (BB.out.set 4 (by simp) (.int .i64 a0_4))
  have HB := Lib.hid (HB.out.setCell (p := ⟨w.heap.size + 1, 4, none⟩) (by simp; try omega) (.int .i64 a0_4))
  have BB := Lib.hid (BB.out.set 5 (by simp) (.slice p5 a1.length q5))
  have HB := Lib.hid (HB.out.setCell (p := ⟨w.heap.size + 1, 5, none⟩) (by simp; try omega) (.slice p5 a1.length q5))
  have R3 := Lib.hid ((R3.out.keep (good_flat cCell_len) (((((((Kept.refl _ _).setCell (p := ⟨w.heap.size + 1, 0, none⟩) (by simp) (.string ⟨a0_0.toArray⟩)).setCell (p := ⟨w.heap.size + 1, 1, none⟩) (by simp) (.bool a0_1)).setCell (p := ⟨w.heap.size + 1, 2, none⟩) (by simp) (.bool a0_2)).setCell (p := ⟨w.heap.size + 1, 3, none⟩) (by simp) (.slice p3 a0_3.length q3)).setCell (p := ⟨w.heap.size + 1, 4, none⟩) (by simp) (.int .i64 a0_4)).setCell (p := ⟨w.heap.size + 1, 5, none⟩) (by simp) (.slice p5 a1.length q5))).mono (good_flat cCell_len) (show w.heap.size ≤ w.heap.size + 3 by omega))
  have R5 := Lib.hid ((R5.out.keep (good_flat cLayer_len) (((((((Kept.refl _ _).setCell (p := ⟨w.heap.size + 1, 0, none⟩) (by simp) (.string ⟨a0_0.toArray⟩)).setCell (p := ⟨w.heap.size + 1, 1, none⟩) (by simp) (.bool a0_1)).setCell (p := ⟨w.heap.size + 1, 2, none⟩) (by simp) (.bool a0_2)).setCell (p := ⟨w.heap.size + 1, 3, none⟩) (by simp) (.slice p3 a0_3.length q3)).setCell (p := ⟨w.heap.size + 1, 4, none⟩) (by simp) (.int .i64 a0_4)).setCell (p := ⟨w.heap.size + 1, 5, none⟩) (by simp) (.slice p5 a1.length q5))).mono (good_flat cLayer_len) (show w.heap.size ≤ w.heap.size + 3 by omega))
  simp only [List.set_cons_zero, List.set_cons_succ] at BB
  generalize (((((((w2).setCell ⟨w.heap.size + 1 + 1, 5, none⟩ (.slice p5 a1.length q5)).setCell ⟨w.heap.size + 1, 0, none⟩ (.string ⟨a0_0.toArray⟩)).setCell ⟨w.heap.size + 1, 1, none⟩ (.bool a0_1)).setCell ⟨w.heap.size + 1, 2, none⟩ (.bool a0_2)).setCell ⟨w.heap.size + 1, 3, none⟩ (.slice p3 a0_3.length q3)).setCell ⟨w.heap.size + 1, 4, none⟩ (.int .i64 a0_4)).setCell ⟨w.heap.size + 1, 5, none⟩ (.slice p5 a1.length q5) = WE at *
  have eB0 := BB.out.cell 0 (by simp)
  have eB1 := BB.out.cell 1 (by simp)
  have eB2 := BB.out.cell 2 (by simp)
  have eB3 := BB.out.cell 3 (by simp)
  have eB4 := BB.out.cell 4 (by simp)
  have eB5 := BB.out.cell 5 (by simp)
  simp only [List.getElem_cons_zero, List.getElem_cons_succ, List.set_cons_zero, List.set_cons_succ] at eB0 eB1 eB2 eB3 eB4 eB5
  exact bodyPost_ret (v := .agg #[.string ⟨a0_0.toArray⟩, .bool a0_1, .bool a0_2, .slice p3 a0_3.length q3, .int .i64 a0_4, .slice p5 a1.length q5]) (by simp [results, Try.results66, go_sem, eB0, eB1, eB2, eB3, eB4, eB5]) rfl ⟨_, rfl, ⟨_, _, rfl, R3.out, R5.out⟩, HB.out⟩
set_option maxRecDepth 100000 in
set_option maxHeartbeats 1600000 in
theorem szPart_d (v : Value) (x : PartD) (left : Int) (w : World) (hx : ValAt rPart 0 w v x) (hk : okPart x) (h0 : 0 ≤ left) (h1 : left ≤ 1099511627776) : Calls Try.prog 65 #[v, .int .i64 left] w fun e w' => SzF (zPart x) left w e w' := by
  obtain ⟨_, rfl, hx⟩ := hx
  obtain ⟨⟨a0_0, a0_1, a0_2, a0_3, a0_4⟩, a1⟩ := x
  obtain ⟨v3, v5, rfl, hr3, hr5⟩ := hx
  simp only at hr3 hr5
  unfold okPart at hk
  simp only at hk
  simp only [zPart, zCore]
  have HK := Lib.hid hk
  obtain ⟨ra3, rc3, rfl, _⟩ := sliceAt_len hr3
  obtain ⟨ra5, rc5, rfl, _⟩ := sliceAt_len hr5
  have H3 := Lib.hid hr3
  have H5 := Lib.hid hr5
  clear hk hr3 hr5
  have HS := Lib.hid (bx_start1 w [.string ⟨a0_0.toArray⟩, .bool a0_1, .bool a0_2, .slice ra3 a0_3.length rc3, .int .i64 a0_4, .slice ra5 a1.length rc5] 73)
  have BA := Lib.hid HS.out.1
  have HB := Lib.hid HS.out.2
  clear HS
  go_enter Try.func65, Try.ntmps65
  go_wp2_with fail
  generalize w.alloc (.cells #[.string ⟨a0_0.toArray⟩, .bool a0_1, .bool a0_2, .slice ra3 a0_3.length rc3, .int .i64 a0_4, .slice ra5 a1.length rc5] 73) = X1 at *
  refine (szCore_d _ (⟨a0_0, a0_1, a0_2, a0_3, a0_4⟩ : CoreD) _ _ ⟨_, rfl, _, rfl, (H3.out.below (good_flat cCell_len) HB.out (Nat.le_refl _))⟩ HK.out.1 (by omega) (by omega)).mono ?_
  rintro e w1 ⟨r0, rfl, hra0, hrb0, hb⟩
  have HR0 := Lib.hid hrb0
  have HB := Lib.hid (belS (w := w) HB.out hb)
  have BA := Lib.hid (BA.out.below hb)
  clear hb hrb0
  have eA0 := BA.out.cell 0 (by simp)
  have eA1 := BA.out.cell 1 (by simp)
  have eA2 := BA.out.cell 2 (by simp)
  have eA3 := BA.out.cell 3 (by simp)
  have eA4 := BA.out.cell 4 (by simp)
  have eA5 := BA.out.cell 5 (by simp)
  simp only [List.getElem_cons_zero, List.getElem_cons_succ, List.set_cons_zero, List.set_cons_succ] at eA0 eA1 eA2 eA3 eA4 eA5
  by_cases hn0 : r0 < 0
  · go_wp2_with fail
    go_ret
    exact ⟨-1, rfl, by omega, by omega, HB.out⟩
  · have hs0 := HR0.out (by omega)
    simp only [zCore] at hs0
    go_wp2_with fail
    clear eA0 eA1 eA2 eA3 eA4 eA5
    refine (szLayerS_d _ a1 _ _ (H5.out.below (good_flat cLayer_len) HB.out (Nat.le_refl _)) HK.out.2 (by omega) (by omega)).mono ?_
    rintro e w2 ⟨r1, rfl, hra1, hrb1, hb⟩
    have HR1 := Lib.hid hrb1
    have HB := Lib.hid (belS (w := w) HB.out hb)
    have BA := Lib.hid (BA.out.below hb)
    clear hb hrb1
    have eA0 := BA.out.cell 0 (by simp)
    have eA1 := BA.out.cell 1 (by simp)
    have eA2 := BA.out.cell 2 (by simp)
    have eA3 := BA.out.cell 3 (by simp)
    have eA4 := BA.out.cell 4 (by simp)
    have eA5 := BA.out.cell 5 (by simp)
    simp only [List.getElem_cons_zero, List.getElem_cons_succ, List.set_cons_zero, List.set_cons_succ] at eA0 eA1 eA2 eA3 eA4 eA5
    by_cases hn1 : r1 < 0
    · go_wp2_with fail
      go_ret
      exact ⟨-1, rfl, by omega, by omega, HB.out⟩
    · have hs1 := HR1.out (by omega)
      go_wp2_with fail
      go_ret
      exact ⟨_, rfl, by omega, by intro _; push_cast; omega, HB.out⟩
set_option maxRecDepth 100000 in
set_option maxHeartbeats 1600000 in
theorem eqPart_d (v u : Value) (x y : PartD) (w : World) (hx : ValAt rPart 0 w v x) (hy : ValAt rPart 0 w u y) : Calls Try.prog 64 #[v, u] w fun e w' => e = .returned (.bool (decide (x = y))) ∧ Below w.heap.size w w' := by
  have HQ := Lib.hid (show decide (x = y) = (decide (x.fCore = y.fCore) && decide (x.fLayers = y.fLayers)) by rw [Bool.eq_iff_iff]; cases x; cases y; simp [and_assoc])
  obtain ⟨_, rfl, hx⟩ := hx
  obtain ⟨⟨a0_0, a0_1, a0_2, a0_3, a0_4⟩, a1⟩ := x
  obtain ⟨v3, v5, rfl, hv3, hv5⟩ := hx
  simp only at hv3 hv5
  obtain ⟨_, rfl, hy⟩ := hy
  obtain ⟨⟨b0_0, b0_1, b0_2, b0_3, b0_4⟩, b1⟩ := y
  obtain ⟨u3, u5, rfl, hu3, hu5⟩ := hy
  simp only at hu3 hu5
  simp only at HQ
  obtain ⟨ra3, rc3, rfl, _⟩ := sliceAt_len hv3
  obtain ⟨ra5, rc5, rfl, _⟩ := sliceAt_len hv5
  obtain ⟨sa3, sc3, rfl, _⟩ := sliceAt_len hu3
  obtain ⟨sa5, sc5, rfl, _⟩ := sliceAt_len hu5
  have HV3 := Lib.hid hv3
  have HU3 := Lib.hid hu3
  have HV5 := Lib.hid hv5
  have HU5 := Lib.hid hu5
  clear hv3 hu3 hv5 hu5
  have HC0 := Lib.hid (fun w0 (hw : Below w.heap.size w w0) => eqCore_d _ _ (⟨a0_0, a0_1, a0_2, a0_3, a0_4⟩ : CoreD) (⟨b0_0, b0_1, b0_2, b0_3, b0_4⟩ : CoreD) w0 ⟨_, rfl, _, rfl, HV3.out.below (good_flat cCell_len) hw (Nat.le_refl _)⟩ ⟨_, rfl, _, rfl, HU3.out.below (good_flat cCell_len) hw (Nat.le_refl _)⟩)
  generalize decide ((⟨a0_0, a0_1, a0_2, a0_3, a0_4⟩ : CoreD) = (⟨b0_0, b0_1, b0_2, b0_3, b0_4⟩ : CoreD)) = p0 at *
  have HC1 := Lib.hid (fun w0 (hw : Below w.heap.size w w0) => eqLayerS_d _ _ a1 b1 w0 (HV5.out.below (good_flat cLayer_len) hw (Nat.le_refl _)) (HU5.out.below (good_flat cLayer_len) hw (Nat.le_refl _)))
  generalize decide (a1 = b1) = p1 at *
  generalize hq : decide ((⟨⟨a0_0, a0_1, a0_2, a0_3, a0_4⟩, a1⟩ : PartD) = (⟨⟨b0_0, b0_1, b0_2, b0_3, b0_4⟩, b1⟩ : PartD)) = q at *
  clear hq
  have HS := Lib.hid (bx_start2 w [.string ⟨a0_0.toArray⟩, .bool a0_1, .bool a0_2, .slice ra3 a0_3.length rc3, .int .i64 a0_4, .slice ra5 a1.length rc5] [.string ⟨b0_0.toArray⟩, .bool b0_1, .bool b0_2, .slice sa3 b0_3.length sc3, .int .i64 b0_4, .slice sa5 b1.length sc5] 61 61)
  cases p0 with
  | true =>
    cases p1 with
    | true =>
      have HF := Lib.hid (show q = true from by rw [HQ.out]; simp)
      go_enter Try.func64, Try.ntmps64
      have BA := Lib.hid HS.out.1
      have BB := Lib.hid HS.out.2.1
      have HB := Lib.hid HS.out.2.2
      go_wp2_with fail
      refine (HC0.out _ HB.out).mono ?_
      rintro e w1 ⟨rfl, hb⟩
      have HB := Lib.hid (belS (w := w) HB.out hb)
      have BA := Lib.hid (BA.out.below hb)
      have BB := Lib.hid (BB.out.below hb)
      clear hb
      have eA0 := BA.out.cell 0 (by simp)
      have eB0 := BB.out.cell 0 (by simp)
      have eA1 := BA.out.cell 1 (by simp)
      have eB1 := BB.out.cell 1 (by simp)
      have eA2 := BA.out.cell 2 (by simp)
      have eB2 := BB.out.cell 2 (by simp)
      have eA3 := BA.out.cell 3 (by simp)
      have eB3 := BB.out.cell 3 (by simp)
      have eA4 := BA.out.cell 4 (by simp)
      have eB4 := BB.out.cell 4 (by simp)
      have eA5 := BA.out.cell 5 (by simp)
      have eB5 := BB.out.cell 5 (by simp)
      simp only [List.getElem_cons_zero, List.getElem_cons_succ, List.set_cons_zero, List.set_cons_succ] at eA0 eB0 eA1 eB1 eA2 eB2 eA3 eB3 eA4 eB4 eA5 eB5
      go_wp2_with fail
      clear eA0 eB0 eA1 eB1 eA2 eB2 eA3 eB3 eA4 eB4 eA5 eB5
      refine (HC1.out _ HB.out).mono ?_
      rintro e w2 ⟨rfl, hb⟩
      have HB := Lib.hid (belS (w := w) HB.out hb)
      have BA := Lib.hid (BA.out.below hb)
      have BB := Lib.hid (BB.out.below hb)
      clear hb
      have eA0 := BA.out.cell 0 (by simp)
      have eB0 := BB.out.cell 0 (by simp)
      have eA1 := BA.out.cell 1 (by simp)
      have eB1 := BB.out.cell 1 (by simp)
      have eA2 := BA.out.cell 2 (by simp)
      have eB2 := BB.out.cell 2 (by simp)
      have eA3 := BA.out.cell 3 (by simp)
      have eB3 := BB.out.cell 3 (by simp)
      have eA4 := BA.out.cell 4 (by simp)
      have eB4 := BB.out.cell 4 (by simp)
      have eA5 := BA.out.cell 5 (by simp)
      have eB5 := BB.out.cell 5 (by simp)
      simp only [List.getElem_cons_zero, List.getElem_cons_succ, List.set_cons_zero, List.set_cons_succ] at eA0 eB0 eA1 eB1 eA2 eB2 eA3 eB3 eA4 eB4 eA5 eB5
      go_wp2_with fail
      go_ret
      exact ⟨ret_bool HF.out.symm, HB.out⟩
    | false =>
      have HF := Lib.hid (show q = false from by rw [HQ.out]; simp)
      go_enter Try.func64, Try.ntmps64
      have BA := Lib.hid HS.out.1
      have BB := Lib.hid HS.out.2.1
      have HB := Lib.hid HS.out.2.2
      go_wp2_with fail
      refine (HC0.out _ HB.out).mono ?_
      rintro e w1 ⟨rfl, hb⟩
      have HB := Lib.hid (belS (w := w) HB.out hb)
      have BA := Lib.hid (BA.out.below hb)
      have BB := Lib.hid (BB.out.below hb)
      clear hb
      have eA0 := BA.out.cell 0 (by simp)
      have eB0 := BB.out.cell 0 (by simp)
      have eA1 := BA.out.cell 1 (by simp)
      have eB1 := BB.out.cell 1 (by simp)
      have eA2 := BA.out.cell 2 (by simp)
      have eB2 := BB.out.cell 2 (by simp)
      have eA3 := BA.out.cell 3 (by simp)
      have eB3 := BB.out.cell 3 (by simp)
      have eA4 := BA.out.cell 4 (by simp)
      have eB4 := BB.out.cell 4 (by simp)
      have eA5 := BA.out.cell 5 (by simp)
      have eB5 := BB.out.cell 5 (by simp)
      simp only [List.getElem_cons_zero, List.getElem_cons_succ, List.set_cons_zero, List.set_cons_succ] at eA0 eB0 eA1 eB1 eA2 eB2 eA3 eB3 eA4 eB4 eA5 eB5
      go_wp2_with fail
      clear eA0 eB0 eA1 eB1 eA2 eB2 eA3 eB3 eA4 eB4 eA5 eB5
      refine (HC1.out _ HB.out).mono ?_
      rintro e w2 ⟨rfl, hb⟩
      have HB := Lib.hid (belS (w := w) HB.out hb)
      have BA := Lib.hid (BA.out.below hb)
      have BB := Lib.hid (BB.out.below hb)
      clear hb
      have eA0 := BA.out.cell 0 (by simp)
      have eB0 := BB.out.cell 0 (by simp)
      have eA1 := BA.out.cell 1 (by simp)
      have eB1 := BB.out.cell 1 (by simp)
      have eA2 := BA.out.cell 2 (by simp)
      have eB2 := BB.out.cell 2 (by simp)
      have eA3 := BA.out.cell 3 (by simp)
      have eB3 := BB.out.cell 3 (by simp)
      have eA4 := BA.out.cell 4 (by simp)
      have eB4 := BB.out.cell 4 (by simp)
      have eA5 := BA.out.cell 5 (by simp)
      have eB5 := BB.out.cell 5 (by simp)
      simp only [List.getElem_cons_zero, List.getElem_cons_succ, List.set_cons_zero, List.set_cons_succ] at eA0 eB0 eA1 eB1 eA2 eB2 eA3 eB3 eA4 eB4 eA5 eB5
      go_wp2_with fail
      go_ret
      exact ⟨ret_bool HF.out.symm, HB.out⟩
  | false =>
    have HF := Lib.hid (show q = false from by rw [HQ.out]; simp)
    go_enter Try.func64, Try.ntmps64
    have BA := Lib.hid HS.out.1
    have BB := Lib.hid HS.out.2.1
    have HB := Lib.hid HS.out.2.2
    go_wp2_with fail
    refine (HC0.out _ HB.out).mono ?_
    rintro e w1 ⟨rfl, hb⟩
    have HB := Lib.hid (belS (w := w) HB.out hb)
    have BA := Lib.hid (BA.out.below hb)
    have BB := Lib.hid (BB.out.below hb)
    clear hb
    have eA0 := BA.out.cell 0 (by simp)
    have eB0 := BB.out.cell 0 (by simp)
    have eA1 := BA.out.cell 1 (by simp)
    have eB1 := BB.out.cell 1 (by simp)
    have eA2 := BA.out.cell 2 (by simp)
    have eB2 := BB.out.cell 2 (by simp)
    have eA3 := BA.out.cell 3 (by simp)
    have eB3 := BB.out.cell 3 (by simp)
    have eA4 := BA.out.cell 4 (by simp)
    have eB4 := BB.out.cell 4 (by simp)
    have eA5 := BA.out.cell 5 (by simp)
    have eB5 := BB.out.cell 5 (by simp)
    simp only [List.getElem_cons_zero, List.getElem_cons_succ, List.set_cons_zero, List.set_cons_succ] at eA0 eB0 eA1 eB1 eA2 eB2 eA3 eB3 eA4 eB4 eA5 eB5
    go_wp2_with fail
    go_ret
    exact ⟨ret_bool HF.out.symm, HB.out⟩
end Go.Proofs.Yteeopjcbpngofaa
