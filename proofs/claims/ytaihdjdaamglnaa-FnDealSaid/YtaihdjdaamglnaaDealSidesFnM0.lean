/- Deals, plain. -/
import Derived.Test.YtaihdjdaamglnaaRows
import Derived.WalkKit
import Derived.ProofKit
import Derived.OpenShut
import Derived.Lib.UnsafeStr
import Derived.WalkSpells
import Derived.WalkLawsBesides
import Derived.Lib.Hide
import Derived.Lib.Bytes
import Derived.Deep.QuietTactic
import Derived.BigQuiet
import Derived.Laws.OwnMore
import Derived.Deep.Draws
import Derived.Laws.Rows
import Derived.OwnWalk
import Derived.Deep.OwnRows
import Derived.Deep.RegionHeld3
import Derived.Shelf.Strings.BuilderK
import Derived.Stop.Asserts
import Derived.StillTailTactics
import Derived.Lib.Small
import Derived.Deep.AppendLies
import Derived.Test.YtaihdjdaamglnaaProg
import Derived.Lib.SlicesCompact
/- How a law is closed that answers true and only makes new memory: its arguments read as before. -/
namespace Go.Proofs.Ytaihdjdaamglnaa
set_option linter.unusedVariables false
open Go.ChangeShapes Go.WideShapes Go.ChangeAt Go.RowKit Go.WideMaps Go.WideElems
open Go.ChangeMaps (open_string shut_string)

theorem ownK : ownKnob Try.prog.godebug = none := by kernel_rfl
theorem laidK : laidOutB Try.prog = true := by kernel_rfl
def initL : List Char := let c := Char.ofNat; [c 104, c 97, c 114, c 110, c 101, c 115, c 115, c 32, c 53, c 51, c 102, c 53, c 100, c 48, c 52, c 52, c 50, c 97, c 102, c 101, c 52, c 49, c 98, c 54, c 102, c 99, c 100, c 101, c 55, c 49, c 53, c 50, c 53, c 50, c 102, c 56, c 102, c 52, c 99, c 48, c 101, c 101, c 101, c 48, c 53, c 49, c 97, c 100, c 53, c 101, c 56, c 99, c 57, c 48, c 52, c 54, c 52, c 54, c 49, c 50, c 49, c 56, c 56, c 48, c 56, c 56, c 99, c 53, c 50, c 49, c 98, c 55, c 32, c 99, c 117, c 116, c 32, c 97, c 116, c 32, c 108, c 111, c 111, c 112, c 46, c 101, c 120, c 97, c 109, c 112, c 108, c 101, c 47, c 103, c 48, c 51, c 48, c 49, c 54, c 47, c 108, c 97, c 119, c 115, c 46, c 70, c 110, c 87, c 114, c 97, c 112, c 112, c 101, c 100, c 32, c 108, c 111, c 111, c 112, c 46, c 101, c 120, c 97, c 109, c 112, c 108, c 101, c 47, c 103, c 48, c 51, c 48, c 49, c 54, c 47, c 108, c 97, c 119, c 115, c 46, c 70, c 110, c 82, c 101, c 99, c 105, c 112, c 101, c 115, c 32, c 108, c 111, c 111, c 112, c 46, c 101, c 120, c 97, c 109, c 112, c 108, c 101, c 47, c 103, c 48, c 51, c 48, c 49, c 54, c 47, c 108, c 97, c 119, c 115, c 46, c 70, c 110, c 68, c 101, c 97, c 108, c 32, c 108, c 111, c 111, c 112, c 46, c 101, c 120, c 97, c 109, c 112, c 108, c 101, c 47, c 103, c 48, c 51, c 48, c 49, c 54, c 47, c 108, c 97, c 119, c 115, c 46, c 70, c 110, c 68, c 101, c 97, c 108, c 83, c 105, c 100, c 101, c 115, c 32, c 108, c 111, c 111, c 112, c 46, c 101, c 120, c 97, c 109, c 112, c 108, c 101, c 47, c 103, c 48, c 51, c 48, c 49, c 54, c 47, c 108, c 97, c 119, c 115, c 46, c 70, c 110, c 68, c 101, c 97, c 108, c 77, c 111, c 114, c 101, c 32, c 108, c 111, c 111, c 112, c 46, c 101, c 120, c 97, c 109, c 112, c 108, c 101, c 47, c 103, c 48, c 51, c 48, c 49, c 54, c 47, c 108, c 97, c 119, c 115, c 46, c 70, c 110, c 69, c 120, c 97, c 99, c 116, c 69, c 109, c 112, c 116, c 121, c 83, c 108, c 111, c 116, c 115]
def initW : List (List Char) := let c := Char.ofNat; [[c 99, c 117, c 116], [c 97, c 116], [c 108, c 111, c 111, c 112, c 46, c 101, c 120, c 97, c 109, c 112, c 108, c 101, c 47, c 103, c 48, c 51, c 48, c 49, c 54, c 47, c 108, c 97, c 119, c 115, c 46, c 70, c 110, c 87, c 114, c 97, c 112, c 112, c 101, c 100], [c 108, c 111, c 111, c 112, c 46, c 101, c 120, c 97, c 109, c 112, c 108, c 101, c 47, c 103, c 48, c 51, c 48, c 49, c 54, c 47, c 108, c 97, c 119, c 115, c 46, c 70, c 110, c 82, c 101, c 99, c 105, c 112, c 101, c 115], [c 108, c 111, c 111, c 112, c 46, c 101, c 120, c 97, c 109, c 112, c 108, c 101, c 47, c 103, c 48, c 51, c 48, c 49, c 54, c 47, c 108, c 97, c 119, c 115, c 46, c 70, c 110, c 68, c 101, c 97, c 108], [c 108, c 111, c 111, c 112, c 46, c 101, c 120, c 97, c 109, c 112, c 108, c 101, c 47, c 103, c 48, c 51, c 48, c 49, c 54, c 47, c 108, c 97, c 119, c 115, c 46, c 70, c 110, c 68, c 101, c 97, c 108, c 83, c 105, c 100, c 101, c 115], [c 108, c 111, c 111, c 112, c 46, c 101, c 120, c 97, c 109, c 112, c 108, c 101, c 47, c 103, c 48, c 51, c 48, c 49, c 54, c 47, c 108, c 97, c 119, c 115, c 46, c 70, c 110, c 68, c 101, c 97, c 108, c 77, c 111, c 114, c 101], [c 108, c 111, c 111, c 112, c 46, c 101, c 120, c 97, c 109, c 112, c 108, c 101, c 47, c 103, c 48, c 51, c 48, c 49, c 54, c 47, c 108, c 97, c 119, c 115, c 46, c 70, c 110, c 69, c 120, c 97, c 99, c 116, c 69, c 109, c 112, c 116, c 121, c 83, c 108, c 111, c 116, c 115]]
set_option maxRecDepth 100000 in
theorem initStr : Try.prog.initOrder = String.ofList initL := by kernel_rfl
theorem initSigns : Try.prog.initOrder.toList = initL := by rw [initStr, String.toList_ofList]
set_option maxRecDepth 100000 in
theorem initWords : behindMainWord (wordsSigns initL) = initW := by kernel_rfl
theorem headLifts_g (P : Program) (h : P.initOrder.toList = initL) : P.headLifts = [] := by unfold Program.headLifts; rw [h, initWords]; kernel_rfl
theorem make_g (P : Program) (h : P.initOrder.toList = initL) : P.make = some .cut := by unfold Program.make; rw [h, initWords]; kernel_rfl
theorem liftsFinal_g (P : Program) (h : P.initOrder.toList = initL) : P.liftsFinal = false := by unfold Program.liftsFinal; rw [headLifts_g P h, h, initWords]; kernel_rfl
theorem mayEnter_g (P : Program) (h : P.initOrder.toList = initL) (h1 : P.laysLater = false) (h2 : P.bearsReflect = false) : P.mayEnter = P.doorFits [] := by unfold Program.mayEnter; rw [h, initWords, h1, h2]; kernel_rfl
theorem laysLater_k : Try.prog.laysLater = false := by kernel_rfl
theorem bearsReflect_k : Try.prog.bearsReflect = false := by kernel_rfl
theorem doorFits_k : Try.prog.doorFits [] = true := by kernel_rfl
theorem make_k : Try.prog.make = some .cut := make_g _ initSigns
theorem liftsFinal_k : Try.prog.liftsFinal = false := liftsFinal_g _ initSigns
theorem mayEnter_k : Try.prog.mayEnter = true := (mayEnter_g _ initSigns laysLater_k bearsReflect_k).trans doorFits_k

section
variable {H : Type} {enc : TypeId × Value → H} {P : Program}
theorem trodAll_below (hl : laidOutB P = true) {W W' : World} (hb : Below W.heap.size W W') (sp : Nat → Bool) :
    ∀ {ts : List TypeId} {vs : List Value} {ds : List (DataW H)} {ps : List MemPlace}, (ts.all fun t => P.readableRec t && decide (t < P.types.size)) = true →
      DataW.TrodAll enc P W 0 (fun _ => true) true ts vs ds ps → (∀ x ∈ ps, x.block < W.heap.size) → (∀ x ∈ ps, sp x.block = true) → DataW.TrodAll enc P W' 0 sp true ts vs ds ps
  | [], [], [], _, _, h, _, _ => h
  | [], [], _ :: _, _, _, h, _, _ => h.elim
  | [], _ :: _, _, _, _, h, _, _ => h.elim
  | _ :: _, [], _, _, _, h, _, _ => h.elim
  | _ :: _, _ :: _, [], _, _, h, _, _ => h.elim
  | t :: ts, v :: vs, d :: ds, ps, ht, h, hlt, hsp => by
    obtain ⟨p, q, h1, h2, rfl⟩ := h
    simp only [List.all_cons, Bool.and_eq_true] at ht
    refine ⟨p, q, ?_, trodAll_below hl hb sp ht.2 h2 (fun x hx => hlt x (List.mem_append_right _ hx)) (fun x hx => hsp x (List.mem_append_right _ hx)), rfl⟩
    exact WideElems.Trod_stays hl ht.1.1 (of_decide_eq_true ht.1.2) h1 (fun x hx => hb.same (hlt x (List.mem_append_left _ hx))) (fun x hx => hsp x (List.mem_append_left _ hx))
theorem trodAll_len {W : World} {b : Nat} {sp : Nat → Bool} {hd : Bool} : ∀ {ts : List TypeId} {vs : List Value} {ds : List (DataW H)} {ps : List MemPlace}, DataW.TrodAll enc P W b sp hd ts vs ds ps → ds.length = ts.length
  | [], [], [], _, _ => rfl
  | [], [], _ :: _, _, h => h.elim
  | [], _ :: _, _, _, h => h.elim
  | _ :: _, [], _, _, h => h.elim
  | _ :: _, _ :: _, [], _, h => h.elim
  | _ :: _, _ :: _, _ :: _, _, ⟨_, _, _, h2, _⟩ => by simp [trodAll_len h2]
theorem law_post {f : Func} {s : ChangeSpec} {fresh handsOn again : Bool} {W W' : World} {args : Array Value} {ds gs : List (DataW H)} {before : List MemPlace} {tb : TypeId}
    (hl : laidOutB P = true) (hv : s.vars = []) (hr : f.resultTypes = #[tb]) (htb : P.underlying tb = some .bool)
    (hts : (f.params.toList.all fun t => P.readableRec t && decide (t < P.types.size)) = true)
    (hfn : ∀ ds : List (DataW H), ds.length = f.params.toList.length → s.fn H ds = { results := [.lit (.bool true)], args := ds })
    (hW : DataW.Whole enc P f.params.toList s.vars false W args.toList ds gs before) (hb : Below W.heap.size W W') :
    s.post enc P f false fresh handsOn again W args (.bool true) W' := by
  have hlt : ∀ p ∈ before, p.block < W.heap.size := fun p hp => hW.lt p hp
  have hW0 := hW
  obtain ⟨p, q, hA, hV, rfl, hfz, hnd⟩ := hW
  rw [hv] at hV
  obtain ⟨rfl, rfl⟩ := trodVars_none hV
  have hds := trodAll_len hA
  have e : s.fn H (ds ++ []) = { results := [.lit (.bool true)], args := ds } := by rw [List.append_nil]; exact hfn ds hds
  simp only [List.append_nil] at hlt hW0
  have hargs : ∀ sp : Nat → Bool, (∀ x ∈ p, sp x.block = true) → DataW.TrodAll enc P W' 0 sp true f.params.toList args.toList ds p := fun sp hsp => trodAll_below hl hb sp hts hA hlt hsp
  have hold : ∀ x ∈ p, (fun b => decide (b < W.heap.size)) x.block = true := fun x hx => by simpa using hlt x hx
  have hres : ∀ (b : Nat) (sp : Nat → Bool) (hd : Bool), DataW.TrodAll enc P W' b sp hd f.resultTypes.toList ((Value.bool true).resultList f.resultTypes.size) [.lit (.bool true)] [] := fun b sp hd => by
    rw [hr]; exact trodAll_cons_mk (shut_bool htb _) trodAll_mk0
  have hok : ∀ (j : Nat) (t : TypeId) (r : Value), f.resultTypes[j]? = some t → ((Value.bool true).resultList f.resultTypes.size)[j]? = some r → Value.okWide P W' .any 0 t r := ok_one hr rfl (okWide_bool_mk htb _)
  have R : ∀ (b : Nat) (sp : Nat → Bool) (hd : Bool), DataW.TrodAll enc P W' b sp hd f.resultTypes.toList ((Value.bool true).resultList f.resultTypes.size) (s.fn H (ds ++ [])).results [] := fun b sp hd => by rw [e]; exact hres b sp hd
  have A : ∀ sp : Nat → Bool, (∀ x ∈ p, sp x.block = true) → DataW.TrodAll enc P W' 0 sp true f.params.toList args.toList (s.fn H (ds ++ [])).args p := fun sp hsp => by rw [e]; exact hargs sp hsp
  have V : ∀ sp : Nat → Bool, DataW.TrodVars enc P W' sp s.vars (s.fn H (ds ++ [])).vars [] := fun sp => by rw [e, hv]; exact rfl
  refine ⟨ds, [], p, [], p, [], hW0, R _ _ _, A _ hold, V _, World.keptBut_mono (fun x hx => ⟨hx, ?_⟩) (hb.frame (· ∈ p)), fun _ => ?_⟩
  · simpa using hx
  · refine ⟨hok, _, _, ([] ++ p) ++ [], ⟨[] ++ p, [], trodAll_append (A _ (fun _ _ => rfl)) (R _ _ _), V _, rfl, ?_, ?_⟩, ?_⟩
    · intro b off hp
      have hin : MemPlace.cell b off ∈ p := by simpa using hp
      rw [hb.frozen (hlt _ hin)]
      exact hfz b off (by simpa using hin)
    · intro ha; cases ha
    · intro x hx _; simpa using hx
end

/-- a slice value reads, in world w, as the one-cell values xs -/
def RowAt (w : World) (v : Value) (xs : List Value) : Prop :=
  ∃ a c, v = .slice a xs.length (xs.length + c) ∧ xs.length ≤ maxLen ∧ (xs = [] ∨ ∃ b o, a = some ⟨b, o, none⟩ ∧ b < w.heap.size ∧ ∀ i, i < xs.length → w.cell? ⟨b, o + i, none⟩ = xs[i]?)
/-- the text l as a value -/
def strV (l : List UInt8) : Value := .string ⟨l.toArray⟩
theorem RowAt.below {w w' : World} {v : Value} {xs : List Value} {B : Nat} (h : RowAt w v xs) (hb : Below B w w') (hB : w.heap.size ≤ B) : RowAt w' v xs := by
  obtain ⟨a, c, rfl, hl, h⟩ := h
  refine ⟨a, c, rfl, hl, h.imp id ?_⟩
  rintro ⟨b, o, rfl, hlt, hc⟩
  exact ⟨b, o, rfl, Nat.lt_of_lt_of_le hlt hb.size, fun i hi => by rw [hb.cell (p := ⟨b, o + i, none⟩) (Nat.lt_of_lt_of_le hlt hB)]; exact hc i hi⟩
theorem cap_eq (a : Option Addr) {n c : Nat} (h : n ≤ c) : Value.slice a n c = .slice a n (n + (c - n)) := by rw [Nat.add_sub_of_le h]
theorem open_row {w : World} {a : Addr} {n c : Nat} {xs : List Value} (hn : xs.length = n) (hm : n ≤ maxLen) (hcap : n ≤ c) (hc : ∀ i, i < n → w.cell? (a.add i) = xs[i]?) : RowAt w (.slice (some a) n c) xs := by
  subst hn
  refine ⟨some a, _, cap_eq _ hcap, hm, ?_⟩
  cases xs with
  | nil => exact Or.inl rfl
  | cons x r =>
    right
    obtain ⟨ab, ao, spot⟩ := a
    have h0 := hc 0 (by simp)
    have hspot : spot = none := by
      have : w.cell? ((⟨ab, ao, spot⟩ : Addr).add 0) = some x := by rw [h0]; rfl
      simpa [Addr.add] using World.cell?_spot this
    subst hspot
    refine ⟨ab, ao, rfl, ?_, fun i hi => by have := hc i hi; rwa [Addr.add_lit] at this⟩
    have h1 : w.cell? ⟨ab, ao, none⟩ = some x := by have := h0; rw [Addr.add_lit] at this; simpa using this
    cases hh : w.heap[ab]? with
    | none => simp [World.cell?, hh] at h1
    | some o => exact (Array.getElem?_eq_some_iff.1 hh).1
section
variable {H : Type} {enc : TypeId × Value → H} {P : Program}
theorem open_byteRow {W : World} {base : Nat} {t e : TypeId} {v : Value} {d : DataW H} {p : List MemPlace} (ht : P.underlying t = some (.slice e)) (he : P.underlying e = some (.int .u8)) (hc : P.cellsOf e = 1)
    (hval : Value.okWide P W .any base t v) (h : DataW.Trod enc P W 0 (fun _ => true) true t v d p) :
    ∃ l : List UInt8, RowAt W v (Lib.byteCells l) := by
  obtain ⟨a1, len, cap, rfl⟩ := okWide_slice ht hval
  obtain ⟨fuel, hf⟩ := h
  rcases open_ints ht he hc hf with ⟨hcs, _⟩ | ⟨a, len', cap', zs, hcs, _, hl, hm, hz, _, hcell, hwz⟩
  · simp [Value.cells] at hcs
    obtain ⟨rfl, rfl, rfl⟩ := hcs
    exact ⟨[], none, 0, rfl, Nat.zero_le _, Or.inl rfl⟩
  · simp [Value.cells] at hcs
    obtain ⟨rfl, rfl, rfl⟩ := hcs
    simp only [if_true] at hz
    refine ⟨(zs.take len).map fun n => UInt8.ofNat n.toNat, open_row (by rw [Lib.byteCells_length]; simp; omega) (by omega) (by omega) ?_⟩
    intro i hi
    rw [hcell i (by omega)]
    have hb := range_u8 hwz i
    have e : zs.getD i 0 = zs[i]'(by omega) := by simp [List.getD, List.getElem?_eq_getElem (show i < zs.length by omega)]
    rw [List.getD_eq_getElem?_getD] at e
    rw [e] at hb
    have hlen : i < ((zs.take len).map fun n => UInt8.ofNat n.toNat).length := by simp; omega
    have hg : (Lib.byteCells ((zs.take len).map fun n => UInt8.ofNat n.toNat))[i]? = some (.int .u8 (zs[i]'(by omega))) := by
      have : (Lib.byteCells ((zs.take len).map fun n => UInt8.ofNat n.toNat))[i]? = some (.int .u8 ((((zs.take len).map fun n => UInt8.ofNat n.toNat)[i]'hlen).toNat : Int)) := by
        simp only [Lib.byteCells, List.getElem?_map, List.getElem?_eq_getElem hlen, Option.map_some]
      rw [this]
      simp only [List.getElem_map, List.getElem_take, UInt8.toNat_ofNat']
      congr 2; omega
    rw [hg, List.getD_eq_getElem?_getD, e]
theorem open_strRow {W : World} {base : Nat} {t e : TypeId} {v : Value} {d : DataW H} {p : List MemPlace} (ht : P.underlying t = some (.slice e)) (he : P.underlying e = some .string) (hc : P.cellsOf e = 1)
    (hval : Value.okWide P W .any base t v) (h : DataW.Trod enc P W 0 (fun _ => true) true t v d p) :
    ∃ l : List ByteArray, RowAt W v (l.map Value.string) ∧ ∀ s ∈ l, s.size ≤ maxLen := by
  obtain ⟨a1, len, cap, rfl⟩ := okWide_slice ht hval
  obtain ⟨fuel, hf⟩ := h
  rcases open_strings ht he hc hf with ⟨hcs, _⟩ | ⟨a, len', cap', ss, hcs, _, hl, hm, hz, _, hcell, hws⟩
  · simp [Value.cells] at hcs
    obtain ⟨rfl, rfl, rfl⟩ := hcs
    exact ⟨[], ⟨none, 0, rfl, Nat.zero_le _, Or.inl rfl⟩, by simp⟩
  · simp [Value.cells] at hcs
    obtain ⟨rfl, rfl, rfl⟩ := hcs
    simp only [if_true] at hz
    refine ⟨ss.take len, open_row (by simp; omega) (by omega) (by omega) ?_, fun s hs => hws s (List.mem_of_mem_take hs)⟩
    intro i hi
    rw [hcell i (by omega)]
    simp [hi, List.getElem?_eq_getElem (show i < ss.length by omega)]
theorem open_strRowL {W : World} {base : Nat} {t e : TypeId} {v : Value} {d : DataW H} {p : List MemPlace} (ht : P.underlying t = some (.slice e)) (he : P.underlying e = some .string) (hc : P.cellsOf e = 1)
    (hval : Value.okWide P W .any base t v) (h : DataW.Trod enc P W 0 (fun _ => true) true t v d p) :
    ∃ x : List (List UInt8), RowAt W v (x.map strV) ∧ ∀ s ∈ x, s.length ≤ maxLen := by
  obtain ⟨l, h1, h2⟩ := open_strRow ht he hc hval h
  refine ⟨l.map fun s => s.data.toList, ?_, ?_⟩
  · have e : (l.map fun s => s.data.toList).map strV = l.map Value.string := by
      rw [List.map_map]
      exact List.map_congr_left fun s _ => by simp [strV]
    rw [e]; exact h1
  · intro s hs
    obtain ⟨y, hy, rfl⟩ := List.mem_map.1 hs
    have := h2 y hy
    exact Nat.le_trans (Nat.le_of_eq Array.length_toList) this
end
end Go.Proofs.Ytaihdjdaamglnaa
/- The draws' cursor: what its functions leave. -/
namespace Go.Proofs.Ytaihdjdaamglnaa
set_option linter.unusedVariables false
open Go.RowKit

theorem and255 (n : Int) : bits .and .i64 n 255 = n % 256 := by
  have h255 : (BitVec.ofInt 64 255).toNat = 2 ^ 8 - 1 := by decide
  have key : (BitVec.ofInt 64 n &&& BitVec.ofInt 64 255).toNat = (n % ((2 ^ 64 : Nat) : Int)).toNat % 2 ^ 8 := by
    rw [BitVec.toNat_and, BitVec.toNat_ofInt, h255, Nat.and_two_pow_sub_one_eq_mod]
  show IntKind.i64.wrap ((BitVec.ofInt 64 n &&& BitVec.ofInt 64 255).toNat : Nat) = n % 256
  rw [key, IntKind.wrap_i64]
  omega

/-- block b holds the three cells and no more -/
def Three (w : World) (b : Nat) (t : TypeId) (x y z : Value) : Prop := w.heap[b]? = some (.cells #[x, y, z] t (0, 0))
theorem Three.lt {w : World} {b : Nat} {t : TypeId} {x y z : Value} (h : Three w b t x y z) : b < w.heap.size := by
  rcases Nat.lt_or_ge b w.heap.size with hlt | hge
  · exact hlt
  · unfold Three at h; rw [Array.getElem?_eq_none hge] at h; cases h
theorem Three.cell {w : World} {b : Nat} {t : TypeId} {x y z : Value} (h : Three w b t x y z) : w.cell? ⟨b, 0, none⟩ = some x ∧ w.cell? ⟨b, 1, none⟩ = some y ∧ w.cell? ⟨b, 2, none⟩ = some z := by
  refine ⟨(cell_of_row w b 0 _ t (0, 0) h).trans rfl, (cell_of_row w b 1 _ t (0, 0) h).trans rfl, (cell_of_row w b 2 _ t (0, 0) h).trans rfl⟩
theorem Three.free {w : World} {b : Nat} {t : TypeId} {x y z : Value} (h : Three w b t x y z) (i : Nat) : w.frozen? ⟨b, i, none⟩ = false := by
  unfold Three at h; simp [World.frozen?, h]
theorem Three.set1 {w : World} {b : Nat} {t : TypeId} {x y z : Value} (h : Three w b t x y z) (u : Value) : Three (w.setCell ⟨b, 1, none⟩ u) b t x u z := by
  unfold Three at h ⊢; simp [World.setCell, Array.getElem?_modify, h]
theorem Three.set2 {w : World} {b : Nat} {t : TypeId} {x y z : Value} (h : Three w b t x y z) (u : Value) : Three (w.setCell ⟨b, 2, none⟩ u) b t x y u := by
  unfold Three at h ⊢; simp [World.setCell, Array.getElem?_modify, h]
theorem Three.grown {w w' : World} {b c : Nat} {t : TypeId} {x y z : Value} (h : Three w b t x y z) (hg : w.grownBy w' (some c)) (hne : b ≠ c) : Three w' b t x y z :=
  (hg.block b h.lt (fun e => hne (by injection e))).trans h

theorem grown_refl (w : World) (r : Option Nat) : w.grownBy w r := ⟨rfl, rfl, rfl, Nat.le_refl _, fun _ _ _ => rfl⟩
theorem grown_trans {a b c : World} {r : Option Nat} (h : a.grownBy b r) (k : b.grownBy c r) : a.grownBy c r :=
  ⟨k.os.trans h.os, k.tape.trans h.tape, k.output.trans h.output, Nat.le_trans h.size k.size, fun i hi hr => (k.block i (Nat.lt_of_lt_of_le hi h.size) hr).trans (h.block i hi hr)⟩
theorem grown_drewN {a w : World} {r : Option Nat} (h : a.grownBy w r) (n : Nat) : a.grownBy (w.drewN n) r := ⟨h.os, h.tape, h.output, h.size, h.block⟩
theorem grown_set {a w : World} {g : Nat} (h : a.grownBy w (some g)) (i : Nat) (u : Value) : a.grownBy (w.setCell ⟨g, i, none⟩ u) (some g) :=
  ⟨h.os, h.tape, h.output, by simpa [World.setCell] using h.size, fun j hj hne => (Below.heap_setCell w ⟨g, i, none⟩ u j (by rintro rfl; exact hne rfl)).trans (h.block j hj hne)⟩
theorem grown_alloc {a w : World} {r : Option Nat} (h : a.grownBy w r) (o : Obj) : a.grownBy (w.alloc o) r :=
  ⟨h.os, h.tape, h.output, Nat.le_trans h.size (by simp), fun i hi hne => (Below.heap_alloc w o i (Nat.lt_of_lt_of_le hi h.size)).trans (h.block i hi hne)⟩
theorem grown_below {a w w' : World} {B : Nat} {r : Option Nat} (h : a.grownBy w r) (k : Below B w w') (hB : a.heap.size ≤ B) : a.grownBy w' r :=
  ⟨k.os.trans h.os, k.tape.trans h.tape, k.output.trans h.output, Nat.le_trans h.size k.size, fun i hi hr => (k.block i (Nat.lt_of_lt_of_le hi hB)).trans (h.block i hi hr)⟩
theorem below_grown {a b c : World} {B g : Nat} (h : Below B a b) (k : b.grownBy c (some g)) (hB : B ≤ g) (hs : B ≤ b.heap.size) : Below B a c :=
  ⟨k.os.trans h.os, k.tape.trans h.tape, k.output.trans h.output, Nat.le_trans h.size k.size, fun i hi => (k.block i (Nat.lt_of_lt_of_le hi hs) (fun e => by injection e; omega)).trans (h.block i hi)⟩

/-- block b is a cursor over the slice v of the bytes l, which lies in a block below b -/
def Cur (w : World) (b : Nat) (v : Value) (l : List UInt8) : Prop :=
  ∃ i : Nat, ∃ h : Int, Three w b 115 v (.int .i64 i) (.int .i64 h) ∧ i ≤ l.length ∧ l.length ≤ maxLen ∧
    ∃ a c, v = .slice a l.length c ∧ (l = [] ∨ ∃ cb o, a = some ⟨cb, o, none⟩ ∧ cb < b ∧ ∀ j, j < l.length → w.cell? ⟨cb, o + j, none⟩ = (Lib.byteCells l)[j]?)
theorem Cur.lt {w : World} {b : Nat} {v : Value} {l : List UInt8} (h : Cur w b v l) : b < w.heap.size := by
  obtain ⟨i, h, hT, _⟩ := h; exact hT.lt
/-- a number that was drawn -/
def DrawnInt (Q : Int → Prop) (b : Nat) (v : Value) (l : List UInt8) (w : World) (e : Ending) (w' : World) : Prop := ∃ x : Int, e = .returned (.int .i64 x) ∧ Q x ∧ w.grownBy w' (some b) ∧ Cur w' b v l
def DrawnBool (b : Nat) (v : Value) (l : List UInt8) (w : World) (e : Ending) (w' : World) : Prop := ∃ x : Bool, e = .returned (.bool x) ∧ w.grownBy w' (some b) ∧ Cur w' b v l
/-- what keeps the blocks below b, and b's own three cells up to the two numbers, keeps the cursor -/
theorem Cur.kept {w w' : World} {b : Nat} {v : Value} {l : List UInt8} (hC : Cur w b v l) {i : Nat} {h : Int} (hT : Three w' b 115 v (.int .i64 i) (.int .i64 h)) (hi : i ≤ l.length) (hg : w.grownBy w' (some b)) : Cur w' b v l := by
  obtain ⟨i0, h0, hT0, _, hl, a, c, rfl, hr⟩ := hC
  refine ⟨i, h, hT, hi, hl, a, c, rfl, hr.imp id ?_⟩
  rintro ⟨cb, o, rfl, hlt, hc⟩
  have hb := hT0.lt
  exact ⟨cb, o, rfl, hlt, fun j hj => (World.cell?_of_block (a := ⟨cb, o + j, none⟩) (hg.block cb (by omega) (fun e => by injection e; omega))).trans (hc j hj)⟩
theorem Cur.far {w w' : World} {b g : Nat} {v : Value} {l : List UInt8} (hC : Cur w b v l) (hg : w.grownBy w' (some g)) (hb : b < g) : Cur w' b v l := by
  obtain ⟨i, h, hT, hi, hl, a, c, rfl, hr⟩ := hC
  refine ⟨i, h, hT.grown hg (by omega), hi, hl, a, c, rfl, hr.imp id ?_⟩
  rintro ⟨cb, o, rfl, hlt, hc⟩
  have hb := hT.lt
  exact ⟨cb, o, rfl, hlt, fun j hj => (World.cell?_of_block (a := ⟨cb, o + j, none⟩) (hg.block cb (by omega) (fun e => by injection e; omega))).trans (hc j hj)⟩
theorem Cur.below {w w' : World} {b B : Nat} {v : Value} {l : List UInt8} (hC : Cur w b v l) (hg : Below B w w') (hb : b < B) : Cur w' b v l := by
  obtain ⟨i, h, hT, hi, hl, a, c, rfl, hr⟩ := hC
  refine ⟨i, h, (hg.block b hb).trans hT, hi, hl, a, c, rfl, hr.imp id ?_⟩
  rintro ⟨cb, o, rfl, hlt, hc⟩
  exact ⟨cb, o, rfl, hlt, fun j hj => (hg.cell (p := ⟨cb, o + j, none⟩) (by show cb < B; omega)).trans (hc j hj)⟩
theorem cur_alloc {w : World} {b : Nat} {v : Value} {l : List UInt8} (hC : Cur w b v l) (o : Obj) : Cur (w.alloc o) b v l :=
  hC.below (B := w.heap.size) ((Below.refl _ _).alloc (Nat.le_refl _) _) hC.lt
theorem mod_le (x m : Int) (h0 : 0 ≤ x) (h : 0 < m) : x % m ≤ x := by
  have h1 := Int.ediv_nonneg h0 (show 0 ≤ m by omega)
  have h2 := Int.emod_add_mul_ediv x m
  have h3 := Int.mul_nonneg (show 0 ≤ m by omega) h1
  omega
theorem mod_bd (x m : Int) (h : 0 < m) : 0 ≤ x % m ∧ x % m ≤ m - 1 := ⟨Int.emod_nonneg _ (by omega), by have := Int.emod_lt_of_pos x h; omega⟩
set_option maxHeartbeats 400000 in
theorem l1Byte_end (b : Nat) (a : Option Addr) (n c : Nat) (l : List UInt8) (w : World) (i : Nat) (h : Int) (hT : Three w b 115 (.slice a n c) (.int .i64 i) (.int .i64 h)) (hC : Hid (Cur w b (.slice a n c) l)) (hl : Hid (i ≤ l.length)) (hn : n ≤ 9223372036854775807) (hi : n ≤ i) (hi2 : i ≤ 9223372036854775807) :
    Calls Try.prog 97 #[.pointer (some ⟨b, 0, none⟩)] w fun e w' => DrawnInt (fun x => 0 ≤ x ∧ x ≤ 255) b (.slice a n c) l w e w' := by
  obtain ⟨c0, c1, c2⟩ := hT.cell
  have f2 := hT.free 2
  have HT := Lib.hid hT
  clear hT
  go_enter Try.func97, Try.ntmps97
  go_wp2
  generalize wrap64 (wrap64 (h * 6364136223846793005) + 1442695040888963407) = h'
  go_quiet (fail)
  go_wp2
  go_quiet (fail)
  go_wp2
  go_ret
  have hg := grown_set (grown_refl w (some b)) 2 (.int .i64 h')
  have hg2 := hC.out.kept (HT.out.set2 (.int .i64 h')) hl.out hg
  refine ⟨_, rfl, ?_, grown_drewN (grown_drewN hg _) _, hg2⟩
  rw [and255]; have := mod_bd (bits BinOp.xor IntKind.i64 (h' / 34359738368) (h' / 35184372088832)) 256 (by omega); omega
set_option maxHeartbeats 400000 in
theorem l1Byte_in (b cb o : Nat) (n c : Nat) (l : List UInt8) (i : Nat) (h x0 : Int) (w : World) (hT : Three w b 115 (.slice (some ⟨cb, o, none⟩) n c) (.int .i64 i) (.int .i64 h)) (hC : Hid (Cur w b (.slice (some ⟨cb, o, none⟩) n c) l)) (hl : Hid (i + 1 ≤ l.length))
    (hn : n ≤ 9223372036854775807) (hi : i < n) (hcb : cb ≠ b) (cc : w.cell? ⟨cb, o + i, none⟩ = some (.int .u8 x0)) (hx0 : 0 ≤ x0) (hx1 : x0 ≤ 255) :
    Calls Try.prog 97 #[.pointer (some ⟨b, 0, none⟩)] w fun e w' => DrawnInt (fun x => 0 ≤ x ∧ x ≤ 255) b (.slice (some ⟨cb, o, none⟩) n c) l w e w' := by
  obtain ⟨c0, c1, c2⟩ := hT.cell
  have f1 := hT.free 1
  have f2 := hT.free 2
  have HT := Lib.hid hT
  clear hT
  go_enter Try.func97, Try.ntmps97
  go_wp2
  generalize wrap64 (wrap64 (h * 6364136223846793005) + 1442695040888963407) = h'
  go_quiet (fail)
  go_wp2
  go_quiet (fail)
  go_wp2
  go_quiet (fail)
  go_wp2
  go_ret
  have hg := grown_set (grown_set (grown_refl w (some b)) 2 (.int .i64 h')) 1 (.int .i64 (i + 1 : Nat))
  have hg2 := hC.out.kept ((HT.out.set2 (.int .i64 h')).set1 (.int .i64 (i + 1 : Nat))) hl.out hg
  rw [show ((i : Int) + 1) = ((i + 1 : Nat) : Int) from rfl]
  refine ⟨_, rfl, ?_, ?_, ?_⟩
  · rw [and255]
    generalize wrap64 _ = y
    have := mod_bd y 256 (by omega)
    omega
  · exact ⟨hg.os, hg.tape, hg.output, hg.size, hg.block⟩
  · exact hg2
theorem l1Byte_any (b : Nat) (v : Value) (l : List UInt8) (w : World) (hC : Cur w b v l) :
    Calls Try.prog 97 #[.pointer (some ⟨b, 0, none⟩)] w fun e w' => DrawnInt (fun x => 0 ≤ x ∧ x ≤ 255) b v l w e w' := by
  have hC0 := hC
  obtain ⟨i, h, hT, hi, hl, a, c, rfl, hr⟩ := hC
  unfold maxLen at hl
  by_cases hlt : i < l.length
  · rcases hr with rfl | ⟨cb, o, rfl, hcb, hc⟩
    · simp at hlt
    · have hcc := hc i hlt
      have : (Lib.byteCells l)[i]? = some (.int .u8 ((l[i]'hlt).toNat : Int)) := by
        simp only [Lib.byteCells, List.getElem?_map, List.getElem?_eq_getElem hlt, Option.map_some]
      rw [this] at hcc
      have hu := (l[i]'hlt).toNat_lt
      exact l1Byte_in b cb o l.length c l i h _ w hT (Lib.hid hC0) (Lib.hid hlt) (by omega) hlt (by omega) hcc (by omega) (by omega)
  · exact l1Byte_end b a l.length c l w i h hT (Lib.hid hC0) (Lib.hid hi) (by omega) (by omega) (by omega)
/-- a new cursor -/
def NewCur (v : Value) (l : List UInt8) (w : World) (e : Ending) (w' : World) : Prop := ∃ b : Nat, e = .returned (.pointer (some ⟨b, 0, none⟩)) ∧ w.heap.size ≤ b ∧ Below w.heap.size w w' ∧ Cur w' b v l
theorem three_new (w : World) (x y z : Value) (t : TypeId) : Three (w.alloc (.cells #[x, y, z] t)) w.heap.size t x y z := by
  unfold Three; exact heap_alloc_new w _
theorem byteCells_get (l : List UInt8) (i : Nat) (h : i < l.length) : (Lib.byteCells l)[i]? = some (.int .u8 ((l[i]'h).toNat : Int)) := by
  simp only [Lib.byteCells, List.getElem?_map, List.getElem?_eq_getElem h, Option.map_some]
theorem new_cur (w : World) (a : Option Addr) (l : List UInt8) (c : Nat) (x : Int) (hl : l.length ≤ maxLen) (hr : l = [] ∨ ∃ cb o, a = some ⟨cb, o, none⟩ ∧ cb < w.heap.size ∧ ∀ j, j < l.length → w.cell? ⟨cb, o + j, none⟩ = (Lib.byteCells l)[j]?) :
    Cur (w.alloc (.cells #[.slice a l.length c, .int .i64 0, .int .i64 x] 115)) w.heap.size (.slice a l.length c) l := by
  refine ⟨0, x, three_new w _ _ _ _, Nat.zero_le _, hl, a, c, rfl, hr.imp id ?_⟩
  rintro ⟨cb, o, rfl, hlt, hc⟩
  exact ⟨cb, o, rfl, hlt, fun j hj => (World.cell?_of_block (a := ⟨cb, o + j, none⟩) (Below.heap_alloc w _ cb hlt)).trans (hc j hj)⟩
set_option maxRecDepth 100000 in
set_option maxHeartbeats 400000 in
theorem l1New_any (v : Value) (l : List UInt8) (w : World) (hR : RowAt w v (Lib.byteCells l)) :
    Calls Try.prog 37 #[v] w fun e w' => NewCur v l w e w' := by
  obtain ⟨a, c, rfl, hl, hr⟩ := hR
  generalize (Lib.byteCells l).length + c = c at *
  rw [Lib.byteCells_length] at *
  have hr' : l = [] ∨ ∃ cb o, a = some ⟨cb, o, none⟩ ∧ cb < w.heap.size ∧ ∀ j, j < l.length → w.cell? ⟨cb, o + j, none⟩ = (Lib.byteCells l)[j]? := by
    rcases hr with h | h
    · left; cases l with | nil => rfl | cons x r => simp [Lib.byteCells] at h
    · exact Or.inr h
  have HR := Lib.hid hr'
  clear hr hr'
  unfold maxLen at hl
  go_enter Try.func37, Try.ntmps37
  go_wp2
  go_loop [3, 4] (fun h i => ∃ k : Nat, k ≤ l.length ∧ i = .int .i64 k ∧ ∃ x : Int, h = .int .i64 x) (fun _ i => l.length - (intOf i).toNat)
  case atStart => exact ⟨0, Nat.zero_le _, rfl, _, rfl⟩
  case round =>
    obtain ⟨k, hk, rfl, x, rfl⟩ := hrel
    by_cases hlt : k < l.length
    · by_cases h4 : k < 4000
      · rcases HR.out with h | ⟨cb, o, rfl, hcb, hc⟩
        · subst h; simp at hlt
        · have hcc := hc k hlt
          rw [byteCells_get l k hlt] at hcc
          have hu := (l[k]'hlt).toNat_lt
          clear hc
          go_wp2
          go_round
          case rel => exact ⟨k + 1, by omega, by go_num, _, rfl⟩
          case measure => simp [intOf]; omega
      · go_wp2
        go_ret
        exact ⟨_, rfl, Nat.le_refl _, (Below.refl _ _).alloc (Nat.le_refl _) _, new_cur w a l c x hl HR.out⟩
    · go_wp2
      go_ret
      exact ⟨_, rfl, Nat.le_refl _, (Below.refl _ _).alloc (Nat.le_refl _) _, new_cur w a l c x hl HR.out⟩
set_option maxHeartbeats 400000 in
theorem l1Below_any (b : Nat) (v : Value) (l : List UInt8) (n : Int) (w : World) (hC : Cur w b v l) (h0 : -9223372036854775808 ≤ n) (h1 : n ≤ 9223372036854775807) :
    Calls Try.prog 56 #[.pointer (some ⟨b, 0, none⟩), .int .i64 n] w fun e w' => DrawnInt (fun x => 0 ≤ x ∧ x ≤ 16777215 ∧ (0 < n → x < n)) b v l w e w' := by
  have HC := Lib.hid hC
  clear hC
  by_cases hn : n ≤ 0
  · go_enter Try.func56, Try.ntmps56
    go_wp2
    go_ret
    exact ⟨_, rfl, ⟨by omega, by omega, by omega⟩, grown_refl _ _, HC.out⟩
  · by_cases h2 : n ≤ 256
    · go_enter Try.func56, Try.ntmps56
      go_wp2_with (go_at_call 97; refine (l1Byte_any b v l _ HC.out).mono ?_; rintro e w1 ⟨x, rfl, ⟨hx0, hx1⟩, hg1, hC1⟩)
      go_ret
      have := mod_bd x n (by omega)
      exact ⟨_, rfl, ⟨by omega, by omega, by omega⟩, hg1, hC1⟩
    · go_enter Try.func56, Try.ntmps56
      go_wp2_with fail
      refine (l1Byte_any b v l _ HC.out).mono ?_
      rintro e w1 ⟨x, rfl, ⟨hx0, hx1⟩, hg1, hC1⟩
      have HC1 := Lib.hid hC1
      have HG1 := Lib.hid hg1
      clear hC1 hg1
      go_wp2_with fail
      refine (l1Byte_any b v l _ HC1.out).mono ?_
      rintro e w2 ⟨y, rfl, ⟨hy0, hy1⟩, hg2, hC2⟩
      have HC2 := Lib.hid hC2
      have HG2 := Lib.hid hg2
      clear hC2 hg2
      go_wp2_with fail
      refine (l1Byte_any b v l _ HC2.out).mono ?_
      rintro e w3 ⟨z, rfl, ⟨hz0, hz1⟩, hg3, hC3⟩
      have HC3 := Lib.hid hC3
      have HG3 := Lib.hid hg3
      clear hC3 hg3
      go_wp2_with fail
      go_ret
      have hm := mod_bd (x * 65536 + y * 256 + z) n (by omega)
      have hle : (x * 65536 + y * 256 + z) % n ≤ x * 65536 + y * 256 + z := mod_le _ _ (by omega) (by omega)
      exact ⟨_, rfl, ⟨by omega, by omega, by omega⟩, grown_trans (grown_trans HG1.out HG2.out) HG3.out, HC3.out⟩
set_option maxHeartbeats 400000 in
theorem l1Once_any (b : Nat) (v : Value) (l : List UInt8) (n : Int) (w : World) (hC : Cur w b v l) (h0 : -9223372036854775808 ≤ n) (h1 : n ≤ 9223372036854775807) :
    Calls Try.prog 39 #[.pointer (some ⟨b, 0, none⟩), .int .i64 n] w fun e w' => DrawnBool b v l w e w' := by
  have HW := Lib.hid (l1Below_any b v l n w hC h0 h1)
  clear hC h0 h1
  go_enter Try.func39, Try.ntmps39
  go_wp2_with (go_at_call 56; refine (HW.out).mono ?_; rintro e w1 ⟨x, rfl, ⟨hx0, hx1, hx2⟩, hg1, hC1⟩)
  go_ret
  exact ⟨_, rfl, hg1, hC1⟩
/-- a slice value that reads as the values xs (at least one), in a block that is not b -/
def RowOff (b : Nat) (w : World) (v : Value) (xs : List Value) : Prop :=
  ∃ lb o c, v = .slice (some ⟨lb, o, none⟩) xs.length c ∧ lb ≠ b ∧ lb < w.heap.size ∧ 0 < xs.length ∧ xs.length ≤ maxLen ∧ ∀ j, j < xs.length → w.cell? ⟨lb, o + j, none⟩ = xs[j]?
theorem rowOff_new (w : World) (b : Nat) (hb : b < w.heap.size) (t : TypeId) (xs : List Value) (cs : Array Value) (n : Nat) (hcs : cs = xs.toArray) (hn : n = xs.length) (h0 : 0 < xs.length) (hm : xs.length ≤ maxLen) (c : Nat) : RowOff b (w.alloc (.cells cs t)) (.slice (some ⟨w.heap.size, 0, none⟩) n c) xs := by
  subst hcs; subst hn
  refine ⟨w.heap.size, 0, c, rfl, by omega, by simp, h0, hm, fun j _ => ?_⟩
  rw [cell_of_row _ _ _ _ t (0, 0) (heap_alloc_new w _)]
  simp
def DrawnStr (Q : ByteArray → Prop) (b : Nat) (v : Value) (l : List UInt8) (w : World) (e : Ending) (w' : World) : Prop := ∃ x : ByteArray, e = .returned (.string x) ∧ Q x ∧ w.grownBy w' (some b) ∧ Cur w' b v l
set_option maxHeartbeats 400000 in
theorem l1Int_any (b : Nat) (v : Value) (l : List UInt8) (lv : Value) (zs : List Int) (w : World) (hC : Cur w b v l) (hR : RowOff b w lv (zs.map (Value.int .i64))) :
    Calls Try.prog 105 #[.pointer (some ⟨b, 0, none⟩), lv] w fun e w' => DrawnInt (fun x => x ∈ zs) b v l w e w' := by
  obtain ⟨lb, o, c, rfl, hne, hlt, hpos, hm, hc⟩ := hR
  rw [List.length_map] at *
  unfold maxLen at hm
  have HC := Lib.hid hC
  have HR := Lib.hid hc
  clear hC hc
  go_enter Try.func105, Try.ntmps105
  go_wp2_with fail
  refine (l1Below_any b v l _ _ HC.out (by omega) (by omega)).mono ?_
  rintro e w1 ⟨x, rfl, ⟨hx0, hx1, hx2⟩, hg1, hC1⟩
  obtain ⟨k, rfl⟩ := Int.eq_ofNat_of_zero_le hx0
  have hk : k < zs.length := by have := hx2 (by omega); omega
  have hcell : w1.cell? ⟨lb, o + k, none⟩ = some (.int .i64 (zs[k]'hk)) := by
    rw [World.cell?_of_block (a := ⟨lb, o + k, none⟩) (hg1.block lb hlt (fun e => hne (by injection e)))]
    rw [HR.out k hk]; simp [List.getElem?_eq_getElem hk]
  have HG := Lib.hid hg1
  have HC1 := Lib.hid hC1
  clear hg1 hC1 hx2
  go_wp2_with fail
  go_ret
  exact ⟨_, rfl, List.getElem_mem hk, HG.out, HC1.out⟩
set_option maxHeartbeats 400000 in
theorem l1Str_any (b : Nat) (v : Value) (l : List UInt8) (lv : Value) (zs : List ByteArray) (w : World) (hC : Cur w b v l) (hR : RowOff b w lv (zs.map Value.string)) :
    Calls Try.prog 83 #[.pointer (some ⟨b, 0, none⟩), lv] w fun e w' => DrawnStr (fun x => x ∈ zs) b v l w e w' := by
  obtain ⟨lb, o, c, rfl, hne, hlt, hpos, hm, hc⟩ := hR
  rw [List.length_map] at *
  unfold maxLen at hm
  have HC := Lib.hid hC
  have HR := Lib.hid hc
  clear hC hc
  go_enter Try.func83, Try.ntmps83
  go_wp2_with fail
  refine (l1Below_any b v l _ _ HC.out (by omega) (by omega)).mono ?_
  rintro e w1 ⟨x, rfl, ⟨hx0, hx1, hx2⟩, hg1, hC1⟩
  obtain ⟨k, rfl⟩ := Int.eq_ofNat_of_zero_le hx0
  have hk : k < zs.length := by have := hx2 (by omega); omega
  have hcell : w1.cell? ⟨lb, o + k, none⟩ = some (.string (zs[k]'hk)) := by
    rw [World.cell?_of_block (a := ⟨lb, o + k, none⟩) (hg1.block lb hlt (fun e => hne (by injection e)))]
    rw [HR.out k hk]; simp [List.getElem?_eq_getElem hk]
  have HG := Lib.hid hg1
  have HC1 := Lib.hid hC1
  clear hg1 hC1 hx2
  go_wp2_with fail
  go_ret
  exact ⟨_, rfl, List.getElem_mem hk, HG.out, HC1.out⟩
set_option maxHeartbeats 400000 in
theorem l1Odd_any (b : Nat) (v : Value) (l : List UInt8) (w : World) (hC : Cur w b v l) :
    Calls Try.prog 79 #[.pointer (some ⟨b, 0, none⟩)] w fun e w' => DrawnInt (fun x => -9223372036854775808 ≤ x ∧ x ≤ 9223372036854775807) b v l w e w' := by
  have HC := Lib.hid hC
  clear hC
  go_enter Try.func79, Try.ntmps79
  go_wp2_with fail
  refine (l1Int_any b v l _ [-1, 0, 1, 2, 3, 4, 5, 6, 7, 63, 64, 99, 100, 999, 1000, 9223372036854775807, -9223372036854775808] _ (cur_alloc HC.out _) (rowOff_new w b HC.out.lt _ _ _ _ rfl rfl (by decide) (by decide) _)).mono ?_
  rintro e w1 ⟨x, rfl, hx, hg1, hC1⟩
  have HG := Lib.hid (grown_trans (grown_alloc (grown_refl w (some b)) _) hg1)
  have HC1 := Lib.hid hC1
  have HX := Lib.hid hx
  clear hg1 hC1 hx
  go_wp2_with fail
  go_ret
  refine ⟨_, rfl, ?_, HG.out, HC1.out⟩
  have hx := HX.out
  simp only [List.mem_cons, List.not_mem_nil, or_false] at hx
  omega
def strLe (N : Nat) : Value → Bool
  | .string s => decide (s.size ≤ N)
  | _ => false
def strGet : Value → ByteArray
  | .string s => s
  | _ => ByteArray.empty
theorem strs_of (N : Nat) : ∀ xs : List Value, xs.all (strLe N) = true → xs = (xs.map strGet).map Value.string ∧ ∀ s ∈ xs.map strGet, s.size ≤ N
  | [], _ => ⟨rfl, by simp⟩
  | x :: r, h => by
    simp only [List.all_cons, Bool.and_eq_true] at h
    obtain ⟨h1, h2⟩ := strs_of N r h.2
    cases x <;> simp [strLe] at h
    rename_i s
    refine ⟨by simp only [List.map_cons, strGet]; rw [← h1], ?_⟩
    intro y hy
    simp only [List.map_cons, List.mem_cons, strGet] at hy
    rcases hy with rfl | hy
    · exact h.1
    · exact h2 y hy
/-- a text that is drawn out of a list that was just laid -/
theorem l1Str_new (b : Nat) (v : Value) (l : List UInt8) (w : World) (cs : Array Value) (t : TypeId) (n c N : Nat) (hC : Cur w b v l) (hn : n = cs.toList.length) (h0 : 0 < cs.toList.length) (hm : cs.toList.length ≤ 1000) (hall : cs.toList.all (strLe N) = true) :
    Calls Try.prog 83 #[.pointer (some ⟨b, 0, none⟩), .slice (some ⟨w.heap.size, 0, none⟩) n c] (w.alloc (.cells cs t)) fun e w' => DrawnStr (fun x => x.size ≤ N) b v l w e w' := by
  obtain ⟨h1, h2⟩ := strs_of N cs.toList hall
  have hR : RowOff b (w.alloc (.cells cs t)) (.slice (some ⟨w.heap.size, 0, none⟩) n c) ((cs.toList.map strGet).map Value.string) :=
    rowOff_new w b hC.lt t _ cs n (by rw [← h1]) (by rw [← h1]; exact hn) (by rw [← h1]; exact h0) (by rw [← h1]; unfold maxLen; omega) c
  refine (l1Str_any b v l _ _ _ (cur_alloc hC _) hR).mono ?_
  rintro e w1 ⟨x, rfl, hx, hg1, hC1⟩
  exact ⟨x, rfl, h2 x hx, grown_trans (grown_alloc (grown_refl w (some b)) _) hg1, hC1⟩
set_option maxHeartbeats 400000 in
theorem l1Word_any (b : Nat) (v : Value) (l : List UInt8) (w : World) (hC : Cur w b v l) :
    Calls Try.prog 114 #[.pointer (some ⟨b, 0, none⟩)] w fun e w' => DrawnStr (fun x => x.size ≤ 9) b v l w e w' := by
  have HC := Lib.hid hC
  clear hC
  go_enter Try.func114, Try.ntmps114
  go_wp2_with fail
  refine (l1Str_new b v l w _ _ _ _ 9 HC.out (by rfl) (by decide) (by decide) (by decide)).mono ?_
  rintro e w1 ⟨x, rfl, hx, hg1, hC1⟩
  have HG := Lib.hid hg1
  have HC1 := Lib.hid hC1
  clear hg1 hC1
  go_wp2_with fail
  go_ret
  exact ⟨_, rfl, hx, HG.out, HC1.out⟩
/-- a new number, a new text: what a whole draw gives -/
def GivesInt (Q : Int → Prop) (w : World) (e : Ending) (w' : World) : Prop := ∃ x : Int, e = .returned (.int .i64 x) ∧ Q x ∧ Below w.heap.size w w'
def GivesStr (Q : ByteArray → Prop) (w : World) (e : Ending) (w' : World) : Prop := ∃ x : ByteArray, e = .returned (.string x) ∧ Q x ∧ Below w.heap.size w w'
set_option maxHeartbeats 400000 in
theorem big_any (v : Value) (l : List UInt8) (w : World) (hR : RowAt w v (Lib.byteCells l)) :
    Calls Try.prog 9 #[v] w fun e w' => e = .returned (.bool (decide (4096 < l.length))) ∧ w = w' := by
  obtain ⟨a, c, rfl, hl, _⟩ := hR
  generalize (Lib.byteCells l).length + c = c at *
  rw [Lib.byteCells_length] at *
  unfold maxLen at hl
  go_enter Try.func9, Try.ntmps9
  go_wp2
  go_ret
  exact ⟨congrArg (fun b => Ending.returned (.bool b)) (by simp; try omega), rfl⟩
end Go.Proofs.Ytaihdjdaamglnaa
/- Faces as numbers: the plain side. -/
namespace Go.Proofs.Ytaihdjdaamglnaa
set_option linter.unusedVariables false
open Go.RowKit

def isF (f : Int) : Bool := decide (0 ≤ f ∧ f ≤ 63)
/-- ability k is in f -/
def hasI (f : Int) (k : Nat) : Bool := decide (f / 2 ^ k % 2 = 1)
/-- the face of the abilities below k for which p holds -/
def madeK (p : Nat → Bool) : Nat → Int
  | 0 => 0
  | k + 1 => madeK p k + if p k then 2 ^ k else 0
def bothP (a b : Int) (k : Nat) : Bool := hasI a k && hasI b k
def eitherP (a b : Int) (k : Nat) : Bool := hasI a k || hasI b k
def lackP (want f : Int) (k : Nat) : Bool := hasI want k && !hasI f k
def bothF (a b : Int) : Int := if isF a = true ∧ isF b = true then madeK (bothP a b) 6 else 0
def eitherF (a b : Int) : Int := if isF a = true ∧ isF b = true then madeK (eitherP a b) 6 else 0
def lackF (f want : Int) : Int := if isF f = true ∧ isF want = true then madeK (lackP want f) 6 else 0
def offersF (f want : Int) : Bool := isF f && isF want && (lackF f want == 0)
/-- the first k from k0 on, among n, for which p holds; -1 -/
def findK (p : Nat → Bool) : Nat → Nat → Int
  | _, 0 => -1
  | k, n + 1 => if p k then k else findK p (k + 1) n
theorem findK_yes {p : Nat → Bool} {k n : Nat} (hk : k < n) (h : p k = true) : findK p k (n - k) = k := by
  obtain ⟨m, rfl⟩ : ∃ m, n = k + (m + 1) := ⟨n - k - 1, by omega⟩
  rw [show k + (m + 1) - k = m + 1 by omega, findK, if_pos h]
theorem findK_no {p : Nat → Bool} {k n : Nat} (hk : k < n) (h : p k = false) : findK p k (n - k) = findK p (k + 1) (n - (k + 1)) := by
  obtain ⟨m, rfl⟩ : ∃ m, n = k + (m + 1) := ⟨n - k - 1, by omega⟩
  rw [show k + (m + 1) - k = m + 1 by omega, findK, if_neg (by simp [h]), show k + (m + 1) - (k + 1) = m by omega]
theorem findK_end {p : Nat → Bool} {n : Nat} : findK p n (n - n) = -1 := by rw [Nat.sub_self]; rfl
theorem isF_yes {f : Int} (h : isF f = true) : 0 ≤ f ∧ f ≤ 63 := of_decide_eq_true h
theorem isF_no {f : Int} (h : isF f = false) : f < 0 ∨ 63 < f := by have := of_decide_eq_false h; omega
theorem isF_fin {f : Int} (h : isF f = true) : ∃ F : Fin 64, f = ((F : Nat) : Int) := by
  have := isF_yes h
  exact ⟨⟨f.toNat, by omega⟩, by simp; omega⟩
theorem and_fin : ∀ a b : Fin 64, bits .and .i64 ((a : Nat) : Int) ((b : Nat) : Int) = madeK (bothP (a : Nat) (b : Nat)) 6 := by decide +kernel
theorem or_fin : ∀ a b : Fin 64, bits .or .i64 ((a : Nat) : Int) ((b : Nat) : Int) = madeK (eitherP (a : Nat) (b : Nat)) 6 := by decide +kernel
theorem andNot_fin : ∀ a b : Fin 64, bits .andNot .i64 ((a : Nat) : Int) ((b : Nat) : Int) = madeK (lackP (a : Nat) (b : Nat)) 6 := by decide +kernel
theorem and_eq {a b : Int} (ha : isF a = true) (hb : isF b = true) : bits .and .i64 a b = madeK (bothP a b) 6 := by
  obtain ⟨A, rfl⟩ := isF_fin ha; obtain ⟨B, rfl⟩ := isF_fin hb; exact and_fin A B
theorem or_eq {a b : Int} (ha : isF a = true) (hb : isF b = true) : bits .or .i64 a b = madeK (eitherP a b) 6 := by
  obtain ⟨A, rfl⟩ := isF_fin ha; obtain ⟨B, rfl⟩ := isF_fin hb; exact or_fin A B
theorem andNot_eq {a b : Int} (ha : isF a = true) (hb : isF b = true) : bits .andNot .i64 a b = madeK (lackP a b) 6 := by
  obtain ⟨A, rfl⟩ := isF_fin ha; obtain ⟨B, rfl⟩ := isF_fin hb; exact andNot_fin A B
theorem bit_fin : ∀ a : Fin 64, ∀ k : Fin 6, (bits .and .i64 ((a : Nat) : Int) (2 ^ (k : Nat)) != 0) = hasI (a : Nat) k := by decide +kernel
theorem bit_eq {a : Int} (ha : isF a = true) (k : Nat) (hk : k < 6) : (bits .and .i64 a (2 ^ k) != 0) = hasI a k := by
  obtain ⟨A, rfl⟩ := isF_fin ha; exact bit_fin A ⟨k, hk⟩
theorem madeK_bd (p : Nat → Bool) : ∀ k, 0 ≤ madeK p k ∧ madeK p k < 2 ^ k := by
  intro k
  induction k with
  | zero => simp [madeK]
  | succ k ih =>
    have h : (2 : Int) ^ (k + 1) = 2 ^ k + 2 ^ k := by rw [Int.pow_succ]; omega
    have h0 : (0 : Int) < 2 ^ k := Int.pow_pos (by decide)
    simp only [madeK]; rw [h]
    generalize (2 : Int) ^ k = q at *
    split <;> omega
theorem madeK_6 (p : Nat → Bool) : 0 ≤ madeK p 6 ∧ madeK p 6 ≤ 63 := by have := madeK_bd p 6; omega
theorem madeK_step (p : Nat → Bool) (k : Nat) (h : k < 6) : 0 ≤ madeK p k ∧ madeK p k ≤ 63 := by
  have h1 := madeK_bd p k
  have h2 : (2 : Int) ^ k ≤ 2 ^ 6 := by
    rcases (show k = 0 ∨ k = 1 ∨ k = 2 ∨ k = 3 ∨ k = 4 ∨ k = 5 by omega) with rfl | rfl | rfl | rfl | rfl | rfl <;> decide
  omega
theorem madeK_zero (p : Nat → Bool) : ∀ k, madeK p k = 0 ↔ ∀ j, j < k → p j = false := by
  intro k
  induction k with
  | zero => simp [madeK]
  | succ k ih =>
    have h0 : (0 : Int) < 2 ^ k := Int.pow_pos (by decide)
    have hb := madeK_bd p k
    simp only [madeK]
    constructor
    · intro h j hj
      have hk : p k = false := by cases hp : p k with
        | false => rfl
        | true => rw [hp, if_pos rfl] at h; omega
      rcases Nat.lt_or_ge j k with hjk | hjk
      · refine ih.1 ?_ j hjk; rw [hk] at h; simpa using h
      · have : j = k := by omega
        subst this; exact hk
    · intro h
      rw [h k (by omega), ih.2 fun j hj => h j (by omega)]; simp
/-- the abilities of a face -/
def abilK (f : Int) (k : Nat) : List Nat := (List.range k).filter (hasI f)
def abilL (f : Int) : List Nat := if isF f = true then abilK f 6 else []
theorem abilK_succ (f : Int) (k : Nat) : abilK f (k + 1) = abilK f k ++ if hasI f k = true then [k] else [] := by
  unfold abilK; rw [List.range_succ, List.filter_append]; simp [List.filter_cons]
theorem abilK_len (f : Int) (k : Nat) : (abilK f k).length ≤ k := by
  have := List.length_filter_le (hasI f) (List.range k); simpa [abilK] using this
theorem abilL_len (f : Int) : (abilL f).length ≤ 6 := by
  unfold abilL
  split
  · exact abilK_len f 6
  · simp
theorem abilL_lt (f : Int) (k : Nat) (h : k ∈ abilL f) : k < 6 := by
  unfold abilL at h; split at h
  · have := List.mem_filter.1 h; simpa using this.1
  · simp at h
/-- the name of an ability -/
def abN : Nat → List UInt8
  | 0 => [114, 117, 110]
  | 1 => [107, 101, 101, 112]
  | 2 => [116, 101, 108, 108]
  | 3 => [104, 101, 97, 114]
  | 4 => [115, 97, 118, 101]
  | 5 => [104, 101, 97, 108]
  | _ => []
def abNI (k : Int) : List UInt8 := if k < 0 then [] else abN k.toNat
theorem abNI_out {k : Int} (h : k < 0 ∨ 6 ≤ k) : abNI k = [] := by
  unfold abNI
  split
  · rfl
  · obtain ⟨m, hm⟩ : ∃ m, k.toNat = m + 6 := ⟨k.toNat - 6, by omega⟩
    rw [hm]; rfl
theorem abN_len (k : Nat) : (abN k).length ≤ 4 := by unfold abN; split <;> simp
/-- the methods of an ability -/
def mthN : Nat → List (List UInt8)
  | 0 => [[83, 116, 97, 114, 116], [83, 116, 111, 112]]
  | 1 => [[71, 101, 116], [80, 117, 116]]
  | 2 => [[84, 101, 108, 108]]
  | 3 => [[72, 101, 97, 114]]
  | 4 => [[76, 111, 97, 100], [83, 97, 118, 101]]
  | 5 => [[72, 101, 97, 108]]
  | _ => []
theorem mthN_len (k : Nat) : (mthN k).length ≤ 2 := by unfold mthN; split <;> simp
theorem mthN_short (k : Nat) : ∀ s ∈ mthN k, s.length ≤ 5 := by unfold mthN; split <;> simp
def abOf (s : List UInt8) : Int := findK (fun k => abN k == s) 0 6
def abOfM (s : List UInt8) : Int := findK (fun k => decide (s ∈ mthN k)) 0 6
/-- the names of a face's abilities; its methods -/
def namesF (f : Int) : List (List UInt8) := (abilL f).map abN
def methsF (f : Int) : List (List UInt8) := (abilL f).flatMap mthN
/-- the face of all abilities whose methods are in l -/
def faceM (l : List (List UInt8)) (k : Nat) : Bool := (mthN k).all fun s => decide (s ∈ l)
def faceOfM (l : List (List UInt8)) : Int := madeK (faceM l) 6
/-- the faces that f offers -/
def underK (f : Int) (k : Nat) : List Int := ((List.range k).filter fun g => offersF f (g : Nat)).map fun g => ((g : Nat) : Int)
def underL (f : Int) : List Int := underK f 64
theorem underK_succ (f : Int) (k : Nat) : underK f (k + 1) = underK f k ++ if offersF f (k : Nat) = true then [(k : Int)] else [] := by
  unfold underK; rw [List.range_succ, List.filter_append, List.map_append]; by_cases h : offersF f (k : Nat) = true <;> simp [h]
theorem underK_len (f : Int) (k : Nat) : (underK f k).length ≤ k := by
  have := List.length_filter_le (fun g => offersF f (g : Nat)) (List.range k); simpa [underK] using this
end Go.Proofs.Ytaihdjdaamglnaa
/- Contracts of the small functions of chapter 1: letters, digits and names. -/
namespace Go.Proofs.Ytaihdjdaamglnaa
set_option linter.unusedVariables false
open Go.RowKit

def isLet (c : Int) : Bool := decide (97 ≤ c ∧ c ≤ 122)
def isDig (c : Int) : Bool := decide (48 ≤ c ∧ c ≤ 57)
def isLetB (c : Int) (first : Bool) : Bool := isLet c || (!first && isDig c)

theorem ret_bool {a b : Bool} (h : a = b) : Ending.returned (.bool a) = .returned (.bool b) := by rw [h]
theorem ret_int {k : IntKind} {a b : Int} (h : a = b) : Ending.returned (.int k a) = .returned (.int k b) := by rw [h]

set_option maxHeartbeats 400000 in
theorem isLetter_any (c : Int) (w : World) :
    Calls Try.prog 130 #[.int .u8 c] w fun e w' => e = .returned (.bool (isLet c)) ∧ w = w' := by
  go_enter Try.func130, Try.ntmps130
  go_wp2
  all_goals
    go_ret
    exact ⟨ret_bool (by simp [isLet]; try omega), rfl⟩
set_option maxHeartbeats 400000 in
theorem isDigit_any (c : Int) (w : World) :
    Calls Try.prog 131 #[.int .u8 c] w fun e w' => e = .returned (.bool (isDig c)) ∧ w = w' := by
  go_enter Try.func131, Try.ntmps131
  go_wp2
  all_goals
    go_ret
    exact ⟨ret_bool (by simp [isDig]; try omega), rfl⟩
set_option maxHeartbeats 400000 in
theorem l1Letter_any (c : Int) (b : Bool) (w : World) :
    Calls Try.prog 145 #[.int .u8 c, .bool b] w fun e w' => e = .returned (.bool (isLetB c b)) ∧ w = w' := by
  cases b
  all_goals
    go_enter Try.func145, Try.ntmps145
    go_wp2
    all_goals
      go_ret
      exact ⟨ret_bool (by rw [Bool.eq_iff_iff]; simp [isLetB, isLet, isDig]; try omega), rfl⟩
/-- a text is a name -/
def nmB (l : List UInt8) : Bool := l.all fun c => isLet c.toNat || isDig c.toNat
theorem nmB_snoc (l : List UInt8) (c : UInt8) : nmB (l ++ [c]) = (nmB l && (isLet c.toNat || isDig c.toNat)) := by simp [nmB]
theorem take_snoc (s : ByteArray) (k : Nat) (h : k < s.size) : s.data.toList.take (k + 1) = s.data.toList.take k ++ [s[k]] := by
  rw [List.take_succ_eq_append_getElem (by simpa using h)]; rfl
def nameB (l : List UInt8) : Bool := decide (0 < l.length) && decide (l.length ≤ 8) && isLet (l.getD 0 0).toNat && nmB l
theorem getD_get (s : ByteArray) (k : Nat) (h : k < s.size) : s.data.toList.getD k 0 = s[k] := by
  simp only [List.getD_eq_getElem?_getD]
  rw [List.getElem?_eq_getElem (by simpa using h)]; rfl
theorem nameB_false_at (s : ByteArray) (k : Nat) (h : k < s.size) (hb : isLetB (s[k]).toNat ((k : Int) == 0) = false) : nameB s.data.toList = false := by
  rw [← getD_get s k h] at hb
  by_cases h0 : k = 0
  · subst h0
    have hb1 : isLet (s.data.toList.getD 0 0).toNat = false := by simpa [isLetB] using hb
    unfold nameB; rw [hb1]; simp
  · have hk : ((k : Int) == 0) = false := by simpa using h0
    rw [hk] at hb
    have : nmB s.data.toList = false := by
      unfold nmB; rw [List.all_eq_false]
      refine ⟨s.data.toList.getD k 0, ?_, ?_⟩
      · simp only [List.getD_eq_getElem?_getD]
        rw [List.getElem?_eq_getElem (by simpa using h)]; simp
      · simpa [isLetB] using hb
    unfold nameB; rw [this]; simp
theorem nmB_next (s : ByteArray) (k : Nat) (h : k < s.size) (b : Bool) (hn : nmB (s.data.toList.take k) = true) (hb : isLetB (s[k]).toNat b = true) : nmB (s.data.toList.take (k + 1)) = true := by
  rw [take_snoc s k h, nmB_snoc, hn]; revert hb; cases b <;> simp [isLetB]; intro h; exact Or.inl h
theorem name_first (s : ByteArray) (k : Nat) (h : k < s.size) (hf : 0 < k → isLet (s.data.toList.getD 0 0).toNat = true) (hb : isLetB (s[k]).toNat ((k : Int) == 0) = true) : isLet (s.data.toList.getD 0 0).toNat = true := by
  by_cases h0 : k = 0
  · subst h0; rw [getD_get s 0 h]; simpa [isLetB] using hb
  · exact hf (by omega)
theorem size_list (s : ByteArray) : s.data.toList.length = s.size := Array.length_toList
theorem nameB_end (s : ByteArray) (k : Nat) (hk : k ≤ s.size) (hlt : ¬ k < s.size) (hn : nmB (s.data.toList.take k) = true) (hf : 0 < k → isLet (s.data.toList.getD 0 0).toNat = true) :
    nameB s.data.toList = (decide (0 < s.size) && decide (s.size ≤ 8)) := by
  have e : k = s.size := by omega
  subst e
  rw [List.take_of_length_le (by rw [size_list]; omega)] at hn
  unfold nameB; rw [hn, size_list]
  by_cases h0 : 0 < s.size
  · rw [hf h0]; simp
  · simp [h0]
set_option maxHeartbeats 400000 in
theorem specIsName_any (s : ByteArray) (w : World) (hs : s.size ≤ maxLen) :
    Calls Try.prog 144 #[.string s] w fun e w' => e = .returned (.bool (nameB s.data.toList)) ∧ w = w' := by
  unfold maxLen at hs
  go_enter Try.func144, Try.ntmps144
  go_wp2
  go_loop [3] (fun i => ∃ k : Nat, k ≤ s.size ∧ i = .int .i64 k ∧ nmB (s.data.toList.take k) = true ∧ (0 < k → isLet (s.data.toList.getD 0 0).toNat = true)) (fun i => s.size - (intOf i).toNat)
  case atStart => exact ⟨0, Nat.zero_le _, rfl, rfl, by simp⟩
  case round =>
    obtain ⟨k, hk, rfl, hn, hf⟩ := hrel
    have HN := Lib.hid hn
    have HF := Lib.hid hf
    clear hn hf
    by_cases hlt : k < s.size
    · by_cases hb : isLetB (s[k]).toNat ((k : Int) == 0) = true
      · have hb' := hb
        go_wp2_with (go_at_call 145; refine (l1Letter_any _ _ _).mono ?_; rintro e w' ⟨rfl, rfl⟩)
        go_round
        case rel => exact ⟨k + 1, by omega, by go_num, nmB_next s k hlt _ HN.out hb', fun _ => name_first s k hlt HF.out hb'⟩
        case measure => simp [intOf]; omega
      · have hb' : isLetB (s[k]).toNat ((k : Int) == 0) = false := by simpa using hb
        clear hb
        go_wp2_with (go_at_call 145; refine (l1Letter_any _ _ _).mono ?_; rintro e w' ⟨rfl, rfl⟩)
        go_ret
        exact ⟨ret_bool (nameB_false_at s k hlt hb').symm, rfl⟩
    · have hend := Lib.hid (nameB_end s k hk hlt HN.out HF.out)
      by_cases h0 : 0 < s.size
      all_goals
        go_wp2
        go_ret
        exact ⟨ret_bool (by rw [hend.out]; simp [h0]; try omega), rfl⟩
theorem nameB_len (s : ByteArray) (h : s.size = 0 ∨ 8 < s.size) : nameB s.data.toList = false := by
  unfold nameB; rw [size_list]
  rcases h with h | h
  · simp [h]
  · simp [show ¬ s.size ≤ 8 from by omega]
theorem nameB_first (s : ByteArray) (h : 0 < s.size) (hb : isLet (s[0]).toNat = false) : nameB s.data.toList = false := by
  rw [← getD_get s 0 h] at hb
  unfold nameB; rw [hb]; simp
theorem nameB_bad (s : ByteArray) (k : Nat) (h : k < s.size) (hb : (isLet (s[k]).toNat || isDig (s[k]).toNat) = false) : nameB s.data.toList = false := by
  apply nameB_false_at s k h
  rw [Bool.or_eq_false_iff] at hb
  simp [isLetB, hb.1, hb.2]
set_option maxHeartbeats 400000 in
theorem implIsName_any (s : ByteArray) (w : World) (hs : s.size ≤ maxLen) :
    Calls Try.prog 119 #[.string s] w fun e w' => e = .returned (.bool (nameB s.data.toList)) ∧ w = w' := by
  by_cases h0 : s.size = 0
  · have hl := Lib.hid (nameB_len s (Or.inl h0))
    have hE : s.toList = [] := by rw [Lib.toList_data]; exact List.eq_nil_of_length_eq_zero (by rw [size_list]; exact h0)
    go_enter Try.func119, Try.ntmps119
    go_wp2
    go_ret
    exact ⟨ret_bool (by rw [hl.out]), rfl⟩
  · have hE : ¬ s.toList = [] := by rw [Lib.toList_data]; intro h; apply h0; rw [← size_list, h]; rfl
    have hE2 : s.toList.isEmpty = false := by simpa using hE
    clear hE
    have hpos : 0 < s.size := by omega
    unfold maxLen at hs
    by_cases h8 : 8 < s.size
    · have hl := Lib.hid (nameB_len s (Or.inr h8))
      clear h0
      go_enter Try.func119, Try.ntmps119
      go_wp2
      go_ret
      exact ⟨ret_bool (by rw [hl.out]), rfl⟩
    · clear h0
      by_cases hb : isLet (s[0]).toNat = true
      · have hb' := Lib.hid hb
        go_enter Try.func119, Try.ntmps119
        go_wp2_with (go_at_call 130; refine (isLetter_any _ _).mono ?_; rintro e w' ⟨rfl, rfl⟩)
        clear hb
        go_loop [3, 19] (fun _ i => ∃ k : Nat, k ≤ s.size ∧ i = .int .i64 k ∧ nmB (s.data.toList.take k) = true) (fun _ i => s.size - (intOf i).toNat)
        case atStart => exact ⟨0, Nat.zero_le _, rfl, rfl⟩
        case round =>
          obtain ⟨k, hk, rfl, hn⟩ := hrel
          have HN := Lib.hid hn
          clear hn
          by_cases hlt : k < s.size
          · by_cases hc : isLet (s[k]).toNat = true
            · go_wp2_with (go_at_call 130; refine (isLetter_any _ _).mono ?_; rintro e w' ⟨rfl, rfl⟩)
              go_round
              case rel => exact ⟨k + 1, by omega, by go_num, nmB_next s k hlt false HN.out (by simp [isLetB, hc])⟩
              case measure => simp [intOf]; omega
            · have hc' : isLet (s[k]).toNat = false := by simpa using hc
              clear hc
              by_cases hd : isDig (s[k]).toNat = true
              · go_wp2_with (first | (go_at_call 130; refine (isLetter_any _ _).mono ?_; rintro e w' ⟨rfl, rfl⟩) | (go_at_call 131; refine (isDigit_any _ _).mono ?_; rintro e w' ⟨rfl, rfl⟩))
                go_round
                case rel => exact ⟨k + 1, by omega, by go_num, nmB_next s k hlt false HN.out (by simp [isLetB, hd])⟩
                case measure => simp [intOf]; omega
              · have hd' : isDig (s[k]).toNat = false := by simpa using hd
                have hl := Lib.hid (nameB_bad s k hlt (by rw [hc', hd']; rfl))
                clear hd
                go_wp2_with (first | (go_at_call 130; refine (isLetter_any _ _).mono ?_; rintro e w' ⟨rfl, rfl⟩) | (go_at_call 131; refine (isDigit_any _ _).mono ?_; rintro e w' ⟨rfl, rfl⟩))
                go_ret
                exact ⟨ret_bool (by rw [hl.out]), rfl⟩
          · have hend := Lib.hid (nameB_end s k hk hlt HN.out (fun _ => by rw [getD_get s 0 hpos]; exact hb'.out))
            go_wp2
            go_ret
            exact ⟨ret_bool (by rw [hend.out]; simp; omega), rfl⟩
      · have hb' : isLet (s[0]).toNat = false := by simpa using hb
        have hl := Lib.hid (nameB_first s hpos hb')
        clear hb
        go_enter Try.func119, Try.ntmps119
        go_wp2_with (go_at_call 130; refine (isLetter_any _ _).mono ?_; rintro e w' ⟨rfl, rfl⟩)
        go_ret
        exact ⟨ret_bool (by rw [hl.out]), rfl⟩
end Go.Proofs.Ytaihdjdaamglnaa
/- Contracts of chapter 2, the functions that only reckon. -/
namespace Go.Proofs.Ytaihdjdaamglnaa
set_option linter.unusedVariables false
open Go.RowKit
theorem ret_strL {a b : List UInt8} (h : a = b) : Ending.returned (.string ⟨a.toArray⟩) = .returned (.string ⟨b.toArray⟩) := by rw [h]
set_option maxHeartbeats 400000 in
theorem specIsFace_any (f : Int) (w : World) :
    Calls Try.prog 103 #[.int .i64 f] w fun e w' => e = .returned (.bool (isF f)) ∧ w = w' := by
  by_cases h0 : f < 0
  · go_enter Try.func103, Try.ntmps103
    go_wp2
    go_ret
    exact ⟨ret_bool (by simp [isF]; omega), rfl⟩
  · go_enter Try.func103, Try.ntmps103
    go_wp2
    go_ret
    exact ⟨ret_bool (by simp [isF]; omega), rfl⟩
theorem specIsFace_b (f : Int) (x : Bool) (h : isF f = x) (w : World) :
    Calls Try.prog 103 #[.int .i64 f] w fun e w' => e = .returned (.bool x) ∧ w = w' := by
  subst h; exact specIsFace_any f w
set_option maxHeartbeats 400000 in
theorem implIsFace_any (f : Int) (w : World) :
    Calls Try.prog 94 #[.int .i64 f] w fun e w' => e = .returned (.bool (isF f)) ∧ w = w' := by
  by_cases h0 : f < 0
  · go_enter Try.func94, Try.ntmps94
    go_wp2
    go_ret
    exact ⟨ret_bool (by simp [isF]; omega), rfl⟩
  · go_enter Try.func94, Try.ntmps94
    go_wp2
    go_ret
    exact ⟨ret_bool (by simp [isF]; omega), rfl⟩
theorem implIsFace_b (f : Int) (x : Bool) (h : isF f = x) (w : World) :
    Calls Try.prog 94 #[.int .i64 f] w fun e w' => e = .returned (.bool x) ∧ w = w' := by
  subst h; exact implIsFace_any f w
set_option maxHeartbeats 400000 in
theorem areFaces_b (a b : Int) (x y : Bool) (hx : isF a = x) (hy : isF b = y) (w : World) :
    Calls Try.prog 52 #[.int .i64 a, .int .i64 b] w fun e w' => e = .returned (.bool (x && y)) ∧ w = w' := by
  have HA := Lib.hid (implIsFace_b a x hx)
  have HB := Lib.hid (implIsFace_b b y hy)
  clear hx hy
  cases x <;> cases y
  all_goals
    go_enter Try.func52, Try.ntmps52
    go_wp2_with (first | (go_at_call 94; (with_reducible refine (HA.out _).mono ?_); rintro e w' ⟨rfl, rfl⟩) | (go_at_call 94; (with_reducible refine (HB.out _).mono ?_); rintro e w' ⟨rfl, rfl⟩))
    go_ret
    exact ⟨rfl, rfl⟩
set_option maxHeartbeats 400000 in
theorem l2Has_any (f : Int) (k : Nat) (w : World) (hf : isF f = true) (hk : k < 6) :
    Calls Try.prog 116 #[.int .i64 f, .int .i64 k] w fun e w' => e = .returned (.bool (hasI f k)) ∧ w = w' := by
  obtain ⟨h0, h1⟩ := isF_yes hf
  clear hf
  rcases (show k = 0 ∨ k = 1 ∨ k = 2 ∨ k = 3 ∨ k = 4 ∨ k = 5 by omega) with rfl | rfl | rfl | rfl | rfl | rfl
  all_goals
    clear hk
    go_enter Try.func116, Try.ntmps116
    go_wp2
    go_ret
    exact ⟨ret_bool (by rw [Bool.eq_iff_iff]; simp [hasI]), rfl⟩
theorem l2Has_b (f : Int) (k : Nat) (x : Bool) (h : hasI f k = x) (hf : isF f = true) (hk : k < 6) (w : World) :
    Calls Try.prog 116 #[.int .i64 f, .int .i64 k] w fun e w' => e = .returned (.bool x) ∧ w = w' := by
  subst h; exact l2Has_any f k w hf hk
def selB (how : Int) (x y : Bool) : Bool := (decide (how = 0) && x && y) || (decide (how = 1) && (x || y)) || (decide (how = 2) && x && !y)
def madeF (how a b : Int) : Int := if isF a = true ∧ isF b = true then madeK (fun k => selB how (hasI a k) (hasI b k)) 6 else 0
theorem madeF_no (how a b : Int) (h : isF a = false ∨ isF b = false) : madeF how a b = 0 := by
  unfold madeF; rw [if_neg]; rintro ⟨h1, h2⟩; rcases h with h | h <;> simp_all
theorem w64 {x : Int} (h0 : -9223372036854775808 ≤ x) (h1 : x ≤ 9223372036854775807) : wrap64 x = x := by unfold wrap64; omega
theorem pow_bd (k : Nat) (hk : k < 6) : (0 : Int) < 2 ^ k ∧ (2 : Int) ^ k ≤ 32 := by
  rcases (show k = 0 ∨ k = 1 ∨ k = 2 ∨ k = 3 ∨ k = 4 ∨ k = 5 by omega) with rfl | rfl | rfl | rfl | rfl | rfl <;> decide
theorem pow_of (k : Nat) (hk : k < 6) : wrap64 (2 ^ k) = 2 ^ k := by have := pow_bd k hk; exact w64 (by omega) (by omega)
theorem sum_pow (z : Int) (k : Nat) (hk : k < 6) (h0 : 0 ≤ z) (h1 : z ≤ 63) : wrap64 (z + wrap64 (2 ^ k)) = z + 2 ^ k := by
  have := pow_bd k hk; rw [pow_of k hk]; exact w64 (by omega) (by omega)
set_option maxHeartbeats 800000 in
theorem l2Made_any (how a b : Int) (w : World) (hh : how = 0 ∨ how = 1 ∨ how = 2) :
    Calls Try.prog 107 #[.int .i64 a, .int .i64 b, .int .i64 how] w fun e w' => e = .returned (.int .i64 (madeF how a b)) ∧ w = w' := by
  cases ha : isF a with
  | false =>
    have HF := Lib.hid (madeF_no how a b (Or.inl ha))
    have HA := Lib.hid (specIsFace_b a false ha)
    clear ha hh
    go_enter Try.func107, Try.ntmps107
    go_wp2_with (go_at_call 103; (with_reducible refine (HA.out _).mono ?_); rintro e w' ⟨rfl, rfl⟩)
    go_ret
    exact ⟨ret_int HF.out.symm, rfl⟩
  | true =>
    cases hb : isF b with
    | false =>
      have HF := Lib.hid (madeF_no how a b (Or.inr hb))
      have HA := Lib.hid (specIsFace_b a true ha)
      have HB := Lib.hid (specIsFace_b b false hb)
      clear ha hb hh
      go_enter Try.func107, Try.ntmps107
      go_wp2_with (first | (go_at_call 103; (with_reducible refine (HA.out _).mono ?_); rintro e w' ⟨rfl, rfl⟩) | (go_at_call 103; (with_reducible refine (HB.out _).mono ?_); rintro e w' ⟨rfl, rfl⟩))
      go_ret
      exact ⟨ret_int HF.out.symm, rfl⟩
    | true =>
      have HF := Lib.hid (show madeF how a b = madeK (fun k => selB how (hasI a k) (hasI b k)) 6 from if_pos ⟨ha, hb⟩)
      have HA := Lib.hid (specIsFace_b a true ha)
      have HB := Lib.hid (specIsFace_b b true hb)
      have HA1 := Lib.hid ha
      have HB1 := Lib.hid hb
      clear ha hb
      go_enter Try.func107, Try.ntmps107
      go_wp2_with (first | (go_at_call 103; (with_reducible refine (HA.out _).mono ?_); rintro e w' ⟨rfl, rfl⟩) | (go_at_call 103; (with_reducible refine (HB.out _).mono ?_); rintro e w' ⟨rfl, rfl⟩))
      go_loop [7, 8, 9, 10] (fun f i _ _ => ∃ k : Nat, k ≤ 6 ∧ i = .int .i64 k ∧ f = .int .i64 (madeK (fun k => selB how (hasI a k) (hasI b k)) k)) (fun _ i _ _ => 6 - (intOf i).toNat)
      case atStart => exact ⟨0, Nat.zero_le _, rfl, rfl⟩
      case round =>
        obtain ⟨k, hk, rfl, rfl⟩ := hrel
        by_cases hlt : k < 6
        · have hm := madeK_step (fun k => selB how (hasI a k) (hasI b k)) k hlt
          have HS := Lib.hid (show madeK (fun k => selB how (hasI a k) (hasI b k)) (k + 1) = madeK (fun k => selB how (hasI a k) (hasI b k)) k + if selB how (hasI a k) (hasI b k) = true then 2 ^ k else 0 from rfl)
          generalize madeK (fun k => selB how (hasI a k) (hasI b k)) k = z at *
          have HP := Lib.hid (sum_pow z k hlt hm.1 hm.2)
          cases hx : hasI a k <;> cases hy : hasI b k
          all_goals
            have HX := Lib.hid (l2Has_b a k _ hx HA1.out hlt)
            have HY := Lib.hid (l2Has_b b k _ hy HB1.out hlt)
            rw [hx, hy] at HS
            clear hx hy
            rcases hh with rfl | rfl | rfl
          all_goals
            go_wp2_with (first | (go_at_call 116; (with_reducible refine (HX.out _).mono ?_); rintro e w' ⟨rfl, rfl⟩) | (go_at_call 116; (with_reducible refine (HY.out _).mono ?_); rintro e w' ⟨rfl, rfl⟩))
            go_round
            case rel =>
              refine ⟨k + 1, by omega, by go_num, ?_⟩
              rw [HS.out]
              first
                | (rw [if_neg (by decide), Int.add_zero]; done)
                | (rw [if_pos (by decide)]; exact congrArg (Value.int .i64) HP.out)
            case measure => simp [intOf]; omega
        · have : k = 6 := by omega
          subst this
          go_wp2
          go_ret
          exact ⟨ret_int HF.out.symm, rfl⟩
end Go.Proofs.Ytaihdjdaamglnaa
/- Contracts of chapter 2: both, either, lacking, offers. -/
namespace Go.Proofs.Ytaihdjdaamglnaa
set_option linter.unusedVariables false
open Go.RowKit
theorem selB_0 : ∀ x y : Bool, selB 0 x y = (x && y) := by decide
theorem selB_1 : ∀ x y : Bool, selB 1 x y = (x || y) := by decide
theorem selB_2 : ∀ x y : Bool, selB 2 x y = (x && !y) := by decide
theorem madeF_0 (a b : Int) : madeF 0 a b = bothF a b := by
  unfold madeF bothF; rw [show (fun k => selB 0 (hasI a k) (hasI b k)) = bothP a b from funext fun k => selB_0 _ _]
theorem madeF_1 (a b : Int) : madeF 1 a b = eitherF a b := by
  unfold madeF eitherF; rw [show (fun k => selB 1 (hasI a k) (hasI b k)) = eitherP a b from funext fun k => selB_1 _ _]
theorem madeF_2 (f want : Int) : madeF 2 want f = lackF f want := by
  unfold madeF lackF
  rw [show (fun k => selB 2 (hasI want k) (hasI f k)) = lackP want f from funext fun k => selB_2 _ _]
  by_cases h : isF f = true ∧ isF want = true
  · rw [if_pos h, if_pos ⟨h.2, h.1⟩]
  · rw [if_neg h, if_neg (fun h2 => h ⟨h2.2, h2.1⟩)]
theorem bothF_bd (a b : Int) : 0 ≤ bothF a b ∧ bothF a b ≤ 63 := by unfold bothF; split; exact madeK_6 _; omega
theorem eitherF_bd (a b : Int) : 0 ≤ eitherF a b ∧ eitherF a b ≤ 63 := by unfold eitherF; split; exact madeK_6 _; omega
theorem lackF_bd (a b : Int) : 0 ≤ lackF a b ∧ lackF a b ≤ 63 := by unfold lackF; split; exact madeK_6 _; omega
theorem offersF_no {f want : Int} {k : Nat} (hk : k < 6) (hf : isF f = true) (hw : isF want = true) (h : lackP want f k = true) : offersF f want = false := by
  unfold offersF lackF
  rw [if_pos ⟨hf, hw⟩, hf, hw]
  have : madeK (lackP want f) 6 ≠ 0 := fun e => by have := (madeK_zero _ 6).1 e k hk; rw [h] at this; cases this
  simp [this]
theorem offersF_yes {f want : Int} (hf : isF f = true) (hw : isF want = true) (h : ∀ j, j < 6 → lackP want f j = false) : offersF f want = true := by
  unfold offersF lackF
  rw [if_pos ⟨hf, hw⟩, hf, hw, (madeK_zero _ 6).2 h]; rfl
theorem offersF_not {f want : Int} (h : isF f = false ∨ isF want = false) : offersF f want = false := by
  unfold offersF; rcases h with h | h <;> rw [h] <;> simp
set_option maxHeartbeats 400000 in
theorem specBoth_any (a b : Int) (w : World) :
    Calls Try.prog 65 #[.int .i64 a, .int .i64 b] w fun e w' => e = .returned (.int .i64 (bothF a b)) ∧ w = w' := by
  have H := Lib.hid (l2Made_any 0 a b w (Or.inl rfl))
  rw [madeF_0] at H
  go_enter Try.func65, Try.ntmps65
  go_wp2_with fail
  refine H.out.mono ?_
  rintro e w' ⟨rfl, rfl⟩
  go_wp2_with fail
  go_ret
  exact ⟨rfl, rfl⟩
theorem bothF_eq {a b : Int} (h : (isF a && isF b) = true) : bits .and .i64 a b = bothF a b := by
  rw [Bool.and_eq_true] at h; unfold bothF; rw [if_pos h, and_eq h.1 h.2]
theorem eitherF_eq {a b : Int} (h : (isF a && isF b) = true) : bits .or .i64 a b = eitherF a b := by
  rw [Bool.and_eq_true] at h; unfold eitherF; rw [if_pos h, or_eq h.1 h.2]
theorem lackF_eq {a b : Int} (h : (isF a && isF b) = true) : bits .andNot .i64 b a = lackF a b := by
  rw [Bool.and_eq_true] at h; unfold lackF; rw [if_pos h, andNot_eq h.2 h.1]
theorem bothF_non {a b : Int} (h : (isF a && isF b) = false) : bothF a b = 0 := by
  unfold bothF; rw [if_neg]; rintro ⟨h1, h2⟩; rw [h1, h2] at h; cases h
theorem eitherF_non {a b : Int} (h : (isF a && isF b) = false) : eitherF a b = 0 := by
  unfold eitherF; rw [if_neg]; rintro ⟨h1, h2⟩; rw [h1, h2] at h; cases h
theorem lackF_non {a b : Int} (h : (isF a && isF b) = false) : lackF a b = 0 := by
  unfold lackF; rw [if_neg]; rintro ⟨h1, h2⟩; rw [h1, h2] at h; cases h
theorem areFaces_x (a b : Int) (x : Bool) (h : (isF a && isF b) = x) (w : World) :
    Calls Try.prog 52 #[.int .i64 a, .int .i64 b] w fun e w' => e = .returned (.bool x) ∧ w = w' := by
  subst h; exact areFaces_b a b _ _ rfl rfl w
set_option maxHeartbeats 400000 in
theorem implBoth_any (a b : Int) (w : World) :
    Calls Try.prog 69 #[.int .i64 a, .int .i64 b] w fun e w' => e = .returned (.int .i64 (bothF a b)) ∧ w = w' := by
  cases h : (isF a && isF b) with
  | false =>
    have HF := Lib.hid (bothF_non h)
    have HA := Lib.hid (areFaces_x a b _ h)
    clear h
    go_enter Try.func69, Try.ntmps69
    go_wp2_with (go_at_call 52; (with_reducible refine (HA.out _).mono ?_); rintro e w' ⟨rfl, rfl⟩)
    go_ret
    exact ⟨ret_int HF.out.symm, rfl⟩
  | true =>
    have HF := Lib.hid (bothF_eq h)
    have HA := Lib.hid (areFaces_x a b _ h)
    clear h
    go_enter Try.func69, Try.ntmps69
    go_wp2_with (go_at_call 52; (with_reducible refine (HA.out _).mono ?_); rintro e w' ⟨rfl, rfl⟩)
    go_ret
    exact ⟨ret_int HF.out, rfl⟩
set_option maxHeartbeats 400000 in
theorem implLacking_any (a b : Int) (w : World) :
    Calls Try.prog 53 #[.int .i64 a, .int .i64 b] w fun e w' => e = .returned (.int .i64 (lackF a b)) ∧ w = w' := by
  cases h : (isF a && isF b) with
  | false =>
    have HF := Lib.hid (lackF_non h)
    have HA := Lib.hid (areFaces_x a b _ h)
    clear h
    go_enter Try.func53, Try.ntmps53
    go_wp2_with (go_at_call 52; (with_reducible refine (HA.out _).mono ?_); rintro e w' ⟨rfl, rfl⟩)
    go_ret
    exact ⟨ret_int HF.out.symm, rfl⟩
  | true =>
    have HF := Lib.hid (lackF_eq h)
    have HA := Lib.hid (areFaces_x a b _ h)
    clear h
    go_enter Try.func53, Try.ntmps53
    go_wp2_with (go_at_call 52; (with_reducible refine (HA.out _).mono ?_); rintro e w' ⟨rfl, rfl⟩)
    go_ret
    exact ⟨ret_int HF.out, rfl⟩
set_option maxHeartbeats 400000 in
theorem implOffers_any (f want : Int) (w : World) :
    Calls Try.prog 16 #[.int .i64 f, .int .i64 want] w fun e w' => e = .returned (.bool (offersF f want)) ∧ w = w' := by
  cases h : (isF f && isF want) with
  | false =>
    have HF := Lib.hid (show offersF f want = false by unfold offersF; rw [h]; rfl)
    have HA := Lib.hid (areFaces_x f want _ h)
    clear h
    go_enter Try.func16, Try.ntmps16
    go_wp2_with (go_at_call 52; (with_reducible refine (HA.out _).mono ?_); rintro e w' ⟨rfl, rfl⟩)
    go_ret
    exact ⟨ret_bool HF.out.symm, rfl⟩
  | true =>
    have HF := Lib.hid (show offersF f want = (lackF f want == 0) by unfold offersF; rw [h]; rfl)
    have HA := Lib.hid (areFaces_x f want _ h)
    have HL := Lib.hid (implLacking_any f want)
    clear h
    generalize lackF f want = z at *
    go_enter Try.func16, Try.ntmps16
    go_wp2_with (first | (go_at_call 52; (with_reducible refine (HA.out _).mono ?_); rintro e w' ⟨rfl, rfl⟩) | (go_at_call 53; (with_reducible refine (HL.out _).mono ?_); rintro e w' ⟨rfl, rfl⟩))
    go_ret
    exact ⟨ret_bool HF.out.symm, rfl⟩
set_option maxHeartbeats 800000 in
theorem specOffers_any (f want : Int) (w : World) :
    Calls Try.prog 81 #[.int .i64 f, .int .i64 want] w fun e w' => e = .returned (.bool (offersF f want)) ∧ w = w' := by
  cases ha : isF f with
  | false =>
    have HF := Lib.hid (offersF_not (f := f) (want := want) (Or.inl ha))
    have HA := Lib.hid (specIsFace_b f false ha)
    clear ha
    go_enter Try.func81, Try.ntmps81
    go_wp2_with (go_at_call 103; (with_reducible refine (HA.out _).mono ?_); rintro e w' ⟨rfl, rfl⟩)
    go_ret
    exact ⟨ret_bool HF.out.symm, rfl⟩
  | true =>
    cases hb : isF want with
    | false =>
      have HF := Lib.hid (offersF_not (f := f) (want := want) (Or.inr hb))
      have HA := Lib.hid (specIsFace_b f true ha)
      have HB := Lib.hid (specIsFace_b want false hb)
      clear ha hb
      go_enter Try.func81, Try.ntmps81
      go_wp2_with (first | (go_at_call 103; (with_reducible refine (HA.out _).mono ?_); rintro e w' ⟨rfl, rfl⟩) | (go_at_call 103; (with_reducible refine (HB.out _).mono ?_); rintro e w' ⟨rfl, rfl⟩))
      go_ret
      exact ⟨ret_bool HF.out.symm, rfl⟩
    | true =>
      have HA := Lib.hid (specIsFace_b f true ha)
      have HB := Lib.hid (specIsFace_b want true hb)
      have HA1 := Lib.hid ha
      have HB1 := Lib.hid hb
      clear ha hb
      go_enter Try.func81, Try.ntmps81
      go_wp2_with (first | (go_at_call 103; (with_reducible refine (HA.out _).mono ?_); rintro e w' ⟨rfl, rfl⟩) | (go_at_call 103; (with_reducible refine (HB.out _).mono ?_); rintro e w' ⟨rfl, rfl⟩))
      go_loop [5] (fun i => ∃ k : Nat, k ≤ 6 ∧ i = .int .i64 k ∧ ∀ j, j < k → lackP want f j = false) (fun i => 6 - (intOf i).toNat)
      case atStart => exact ⟨0, Nat.zero_le _, rfl, fun j hj => by omega⟩
      case round =>
        obtain ⟨k, hk, rfl, hall⟩ := hrel
        have HALL := Lib.hid hall
        clear hall
        by_cases hlt : k < 6
        · cases hx : hasI want k <;> cases hy : hasI f k
          all_goals
            have HX := Lib.hid (l2Has_b want k _ hx HB1.out hlt)
            have HY := Lib.hid (l2Has_b f k _ hy HA1.out hlt)
            have HP := Lib.hid (show lackP want f k = _ by unfold lackP; rw [hx, hy])
            clear hx hy
            go_wp2_with (first | (go_at_call 116; (with_reducible refine (HX.out _).mono ?_); rintro e w' ⟨rfl, rfl⟩) | (go_at_call 116; (with_reducible refine (HY.out _).mono ?_); rintro e w' ⟨rfl, rfl⟩))
            first
              | (go_ret
                 exact ⟨ret_bool (offersF_no hlt HA1.out HB1.out HP.out).symm, rfl⟩)
              | (go_round
                 case rel =>
                   refine ⟨k + 1, by omega, by go_num, fun j hj => ?_⟩
                   rcases Nat.lt_or_ge j k with h | h
                   · exact HALL.out j h
                   · have : j = k := by omega
                     subst this; exact HP.out
                 case measure => simp [intOf]; omega)
        · have : k = 6 := by omega
          subst this
          have HF := Lib.hid (offersF_yes HA1.out HB1.out HALL.out)
          go_wp2
          go_ret
          exact ⟨ret_bool HF.out.symm, rfl⟩
end Go.Proofs.Ytaihdjdaamglnaa
/- Numbers as texts: the digits of a number (plain). -/
namespace Go.Proofs.Ytaihdjdaamglnaa
set_option linter.unusedVariables false

/-- the digits of n, at most f of them -/
def digs : Nat → Nat → List UInt8
  | 0, _ => []
  | f + 1, n => if n < 10 then [UInt8.ofNat (48 + n)] else digs f (n / 10) ++ [UInt8.ofNat (48 + n % 10)]
/-- a number as a text -/
def numL (n : Int) : List UInt8 := if n < 0 then 45 :: digs 20 n.natAbs else digs 20 n.natAbs

theorem digs_small (f n : Nat) (h : n < 10) : digs (f + 1) n = [UInt8.ofNat (48 + n)] := by simp [digs, h]
theorem digs_big (f n : Nat) (h : 10 ≤ n) : digs (f + 1) n = digs f (n / 10) ++ [UInt8.ofNat (48 + n % 10)] := by
  have : ¬ n < 10 := by omega
  simp [digs, this]
theorem digs_more : ∀ (f g n : Nat), n < 10 ^ (f + 1) → n < 10 ^ (g + 1) → digs (f + 1) n = digs (g + 1) n := by
  intro f
  induction f with
  | zero =>
    intro g n h _
    have h' : n < 10 := by simpa using h
    rw [digs_small _ _ h', digs_small _ _ h']
  | succ f ih =>
    intro g n h h2
    by_cases hn : n < 10
    · rw [digs_small _ _ hn, digs_small _ _ hn]
    · cases g with
      | zero => exfalso; apply hn; simpa using h2
      | succ g =>
        rw [digs_big (f + 1) n (by omega), digs_big (g + 1) n (by omega), ih g (n / 10)]
        · rw [Nat.pow_succ 10 (f + 1)] at h; omega
        · rw [Nat.pow_succ 10 (g + 1)] at h2; omega
theorem digs_len : ∀ (f n : Nat), (digs f n).length ≤ f := by
  intro f
  induction f with
  | zero => intro n; simp [digs]
  | succ f ih =>
    intro n
    by_cases hn : n < 10
    · rw [digs_small _ _ hn]; simp
    · rw [digs_big _ _ (by omega)]; have := ih (n / 10); simp; omega
theorem digs_ne (f n : Nat) : digs (f + 1) n ≠ [] := by
  by_cases hn : n < 10
  · rw [digs_small _ _ hn]; simp
  · rw [digs_big _ _ (by omega)]; simp

/-- what a text says as a number, digit by digit -/
def valL (l : List UInt8) : Int := l.foldl (fun a c => 10 * a + ((c.toNat : Int) - 48)) 0
def digB (c : UInt8) : Bool := decide (48 ≤ (c.toNat : Int) ∧ (c.toNat : Int) ≤ 57)
theorem valL_snoc (l : List UInt8) (c : UInt8) : valL (l ++ [c]) = 10 * valL l + ((c.toNat : Int) - 48) := by simp [valL]
theorem ofNat_dig (n : Nat) (h : n < 10) : ((UInt8.ofNat (48 + n)).toNat : Int) = 48 + n := by
  rw [UInt8.toNat_ofNat']; omega
theorem valL_digs : ∀ (f n : Nat), n < 10 ^ (f + 1) → valL (digs (f + 1) n) = n := by
  intro f
  induction f with
  | zero =>
    intro n h
    have h' : n < 10 := by simpa using h
    have e := ofNat_dig n h'
    rw [digs_small _ _ h']
    simp only [valL, List.foldl_cons, List.foldl_nil, e]; omega
  | succ f ih =>
    intro n h
    by_cases hn : n < 10
    · have e := ofNat_dig n hn
      rw [digs_small _ _ hn]
      simp only [valL, List.foldl_cons, List.foldl_nil, e]; omega
    · have e := ofNat_dig (n % 10) (by omega)
      rw [digs_big (f + 1) n (by omega), valL_snoc, ih (n / 10) (by rw [Nat.pow_succ 10 (f + 1)] at h; omega), e]; omega
theorem digs_dig : ∀ (f n : Nat), (digs f n).all digB = true := by
  intro f
  induction f with
  | zero => intro n; rfl
  | succ f ih =>
    intro n
    by_cases hn : n < 10
    · have e := ofNat_dig n hn
      rw [digs_small _ _ hn]; simp only [List.all_cons, List.all_nil, Bool.and_true, digB, e]; simp; omega
    · have e := ofNat_dig (n % 10) (by omega)
      rw [digs_big _ _ (by omega), List.all_append, ih]
      simp only [List.all_cons, List.all_nil, Bool.and_true, Bool.true_and, digB, e]; simp; omega
theorem rev_ind {α : Type} {P : List α → Prop} (h0 : P []) (hs : ∀ l c, P l → P (l ++ [c])) (l : List α) : P l := by
  rw [← List.reverse_reverse l]
  induction l.reverse with
  | nil => exact h0
  | cons c t ih => rw [List.reverse_cons]; exact hs _ _ ih
theorem all_snoc {l : List UInt8} {c : UInt8} (h : (l ++ [c]).all digB = true) : l.all digB = true ∧ 48 ≤ (c.toNat : Int) ∧ (c.toNat : Int) ≤ 57 := by
  rw [List.all_append, Bool.and_eq_true] at h
  refine ⟨h.1, ?_⟩
  have h2 := h.2
  simpa [digB] using h2
theorem valL_nonneg (l : List UInt8) : l.all digB = true → 0 ≤ valL l := by
  refine rev_ind (P := fun l => l.all digB = true → 0 ≤ valL l) (fun _ => by simp [valL]) (fun l c ih h => ?_) l
  have h1 := ih (all_snoc h).1
  have h2 := (all_snoc h).2
  rw [valL_snoc]; omega
theorem valL_lt (l : List UInt8) : l.all digB = true → (valL l).natAbs < 10 ^ l.length := by
  refine rev_ind (P := fun l => l.all digB = true → (valL l).natAbs < 10 ^ l.length) (fun _ => by simp [valL]) (fun l c ih h => ?_) l
  have h1 := ih (all_snoc h).1
  have h2 := (all_snoc h).2
  have h3 := valL_nonneg l (all_snoc h).1
  rw [valL_snoc, List.length_append, List.length_singleton, Nat.pow_succ]; omega
/-- a first digit that is not 0 makes a value of at least 1 -/
theorem valL_pos (l : List UInt8) : l.all digB = true → l ≠ [] → l.getD 0 0 ≠ 48 → 1 ≤ valL l := by
  refine rev_ind (P := fun l => l.all digB = true → l ≠ [] → l.getD 0 0 ≠ 48 → 1 ≤ valL l) (fun _ h => absurd rfl h) (fun l c ih h _ h0 => ?_) l
  have h2 := (all_snoc h).2
  rw [valL_snoc]
  cases l with
  | nil =>
    have hc : c.toNat ≠ 48 := fun e => h0 (by simp; exact UInt8.toNat_inj.1 e)
    simp only [valL, List.foldl_nil]; omega
  | cons x r =>
    have := ih (all_snoc h).1 (by simp) (by simpa using h0)
    omega
/-- digits without a leading 0 are the digits of their value -/
theorem digs_valL (l : List UInt8) : l.all digB = true → l ≠ [] → (l.length = 1 ∨ l.getD 0 0 ≠ 48) → digs l.length (valL l).natAbs = l := by
  refine rev_ind (P := fun l => l.all digB = true → l ≠ [] → (l.length = 1 ∨ l.getD 0 0 ≠ 48) → digs l.length (valL l).natAbs = l) (fun _ h => absurd rfl h) (fun l c ih h _ h0 => ?_) l
  have h2 := (all_snoc h).2
  have hl := (all_snoc h).1
  have h3 := valL_nonneg l hl
  rw [valL_snoc, List.length_append, List.length_singleton]
  have hc : UInt8.ofNat c.toNat = c := by simp
  cases l with
  | nil =>
    simp only [valL, List.foldl_nil, List.length_nil]
    rw [digs_small 0 _ (by omega)]
    have : 48 + (10 * 0 + ((c.toNat : Int) - 48)).natAbs = c.toNat := by omega
    rw [this, hc]; rfl
  | cons x r =>
    have hx : (x :: r).getD 0 0 ≠ 48 := by
      rcases h0 with h0 | h0
      · simp at h0
      · simpa using h0
    have hp := valL_pos (x :: r) hl (by simp) hx
    have hi := ih hl (by simp) (Or.inr hx)
    rw [digs_big _ _ (by omega)]
    rw [show (10 * valL (x :: r) + ((c.toNat : Int) - 48)).natAbs / 10 = (valL (x :: r)).natAbs from by omega, hi]
    rw [show 48 + (10 * valL (x :: r) + ((c.toNat : Int) - 48)).natAbs % 10 = c.toNat from by omega, hc]
/-- the digits of a number that is not 0 do not begin with a 0 -/
theorem digs_head : ∀ (f n : Nat), 1 ≤ n → n < 10 ^ (f + 1) → (digs (f + 1) n).getD 0 0 ≠ 48 := by
  intro f
  induction f with
  | zero =>
    intro n h h1
    have h' : n < 10 := by simpa using h1
    rw [digs_small _ _ h']
    intro e
    have e2 := ofNat_dig n h'
    have e3 : (UInt8.ofNat (48 + n)) = 48 := by simpa using e
    rw [e3] at e2
    have : ((48 : UInt8).toNat : Int) = 48 := by decide
    omega
  | succ f ih =>
    intro n h h1
    by_cases hn : n < 10
    · rw [digs_small _ _ hn]
      intro e
      have e2 := ofNat_dig n hn
      have e3 : (UInt8.ofNat (48 + n)) = 48 := by simpa using e
      rw [e3] at e2
      have : ((48 : UInt8).toNat : Int) = 48 := by decide
      omega
    · rw [digs_big _ _ (by omega)]
      have := ih (n / 10) (by omega) (by rw [Nat.pow_succ 10 (f + 1)] at h1; omega)
      have hne := digs_ne f (n / 10)
      revert this
      cases hd : digs (f + 1) (n / 10) with
      | nil => exact absurd hd hne
      | cons x r => simp
theorem numL_nat (n : Nat) : numL n = digs 20 n := by simp [numL, show ¬ ((n : Int) < 0) from by omega]

/-- which number from 0 to 999 a text writes, if any -/
def parseL (l : List UInt8) : Option Nat := (List.range 1000).find? fun n : Nat => decide (numL n = l)
theorem valL_numL (n : Nat) (h : n ≤ 999) : valL (numL n) = n := by rw [numL_nat]; exact valL_digs 19 n (Nat.lt_of_le_of_lt h (by decide))
theorem parseL_some {l : List UInt8} {n : Nat} (h : n ≤ 999) (e : numL n = l) : parseL l = some n := by
  unfold parseL
  cases hf : (List.range 1000).find? fun n : Nat => decide (numL n = l) with
  | none =>
    have := List.find?_eq_none.1 hf n (by simp; omega)
    simp [e] at this
  | some m =>
    have h1 := List.find?_some hf
    have h2 := List.mem_of_find?_eq_some hf
    have h1' : numL m = l := by simpa using h1
    have h3 : m < 1000 := by simpa using h2
    have a := valL_numL n h
    have b := valL_numL m (by omega)
    rw [e] at a; rw [h1', a] at b
    have hmn : m = n := by omega
    rw [hmn]
theorem parseL_none {l : List UInt8} (h : ∀ n : Nat, n ≤ 999 → numL n ≠ l) : parseL l = none := by
  unfold parseL
  rw [List.find?_eq_none]
  intro n hn
  have : n < 1000 := by simpa using hn
  simpa using h n (by omega)
theorem parseL_iff {l : List UInt8} {n : Nat} (h : parseL l = some n) : n ≤ 999 ∧ numL n = l := by
  have h1 := List.find?_some h
  have h2 := List.mem_of_find?_eq_some h
  have h3 : n < 1000 := by simpa using h2
  exact ⟨by omega, by simpa using h1⟩
/-- a text that is parsed: its facts -/
theorem numL_len {n : Nat} (h : n ≤ 999) : (numL n).length ≤ 3 := by
  rw [numL_nat, digs_more 19 2 n (Nat.lt_of_le_of_lt h (by decide)) (by simpa using Nat.lt_of_le_of_lt h (by decide))]; exact digs_len _ _
theorem numL_dig (n : Nat) : (numL n).all digB = true := by rw [numL_nat]; exact digs_dig _ _
theorem numL_ne (n : Nat) : numL n ≠ [] := by rw [numL_nat]; exact digs_ne _ _
theorem numL_head {n : Nat} (h : n ≤ 999) (h1 : (numL n).length ≠ 1) : (numL n).getD 0 0 ≠ 48 := by
  have hn : 10 ≤ n := by
    rcases Nat.lt_or_ge n 10 with h' | h'
    · exfalso; apply h1; rw [numL_nat, digs_small _ _ h']; rfl
    · exact h'
  rw [numL_nat]; exact digs_head 19 n (by omega) (Nat.lt_of_le_of_lt h (by decide))
/-- the model's way: the value of the first four, written again -/
theorem parseL_spec (l : List UInt8) : (0 ≤ valL (l.take 4) ∧ valL (l.take 4) ≤ 999 ∧ numL (valL (l.take 4)) = l → parseL l = some (valL (l.take 4)).toNat) ∧
    (¬ (0 ≤ valL (l.take 4) ∧ valL (l.take 4) ≤ 999 ∧ numL (valL (l.take 4)) = l) → parseL l = none) := by
  constructor
  · rintro ⟨h0, h1, h2⟩
    refine parseL_some (by omega) ?_
    rw [show ((valL (l.take 4)).toNat : Int) = valL (l.take 4) from by omega]; exact h2
  · intro h
    refine parseL_none fun n hn e => h ?_
    have hl := numL_len hn
    have hv := valL_numL n hn
    rw [e] at hl hv
    rw [List.take_of_length_le (by omega), hv]
    exact ⟨by omega, by omega, e⟩
theorem parseL_good (l : List UInt8) (hd : l.all digB = true) (hne : l ≠ []) (hz : l.length = 1 ∨ l.getD 0 0 ≠ 48) (hv : valL l ≤ 999) : parseL l = some (valL l).toNat := by
  have h0 := valL_nonneg l hd
  refine parseL_some (by omega) ?_
  rw [numL_nat, show (valL l).toNat = (valL l).natAbs from by omega]
  have hd2 := digs_valL l hd hne hz
  have hlt := valL_lt l hd
  cases hl : l.length with
  | zero => exact absurd (List.eq_nil_of_length_eq_zero hl) hne
  | succ k =>
    rw [hl] at hd2 hlt
    rw [← digs_more k 19 _ hlt (Nat.lt_of_le_of_lt (show (valL l).natAbs ≤ 999 by omega) (by decide)), hd2]
theorem parseL_nil : parseL [] = none := parseL_none fun n _ e => numL_ne n e
theorem parseL_zero (l : List UInt8) (h : l.getD 0 0 = 48) (h1 : 1 < l.length) : parseL l = none := by
  refine parseL_none fun n hn e => ?_
  subst e
  exact numL_head hn (by omega) h
theorem parseL_nodig (l : List UInt8) (k : Nat) (hk : k < l.length) (h : digB (l.getD k 0) = false) : parseL l = none := by
  refine parseL_none fun n _ e => ?_
  subst e
  have := List.all_eq_true.1 (numL_dig n) ((numL n).getD k 0) (by simp only [List.getD_eq_getElem?_getD]; rw [List.getElem?_eq_getElem hk]; simp)
  rw [h] at this; cases this
theorem valL_take (l : List UInt8) (hd : l.all digB = true) (k : Nat) : valL (l.take k) ≤ valL l := by
  rcases Nat.lt_or_ge k l.length with h | h
  · revert k
    refine rev_ind (P := fun l => l.all digB = true → ∀ k, k < l.length → valL (l.take k) ≤ valL l) (fun _ k h => by simp at h) (fun l c ih h k hk => ?_) l hd
    have h2 := (all_snoc h).2
    have hl := (all_snoc h).1
    have h0 := valL_nonneg l hl
    rw [valL_snoc]
    rcases Nat.lt_or_ge k l.length with h3 | h3
    · have := ih hl k h3
      rw [List.take_append_of_le_length (by omega)]; omega
    · have : k = l.length := by simp at hk; omega
      subst this
      rw [List.take_append_of_le_length (by omega), List.take_length]; omega
  · rw [List.take_of_length_le h]; omega
theorem parseL_big (l : List UInt8) (k : Nat) (h : 999 < valL (l.take k)) : parseL l = none := by
  refine parseL_none fun n hn e => ?_
  subst e
  have := valL_take _ (numL_dig n) k
  rw [valL_numL n hn] at this; omega
theorem u8_lt (c : UInt8) : (c.toNat : Int) ≤ 255 := by have := c.toNat_lt; omega
theorem valL_bd (l : List UInt8) : (valL l).natAbs + 23 ≤ 23 * 10 ^ l.length := by
  refine rev_ind (P := fun l => (valL l).natAbs + 23 ≤ 23 * 10 ^ l.length) (by simp [valL]) (fun l c ih => ?_) l
  have := u8_lt c
  rw [valL_snoc, List.length_append, List.length_singleton, Nat.pow_succ]; omega
theorem valL_bd4 (l : List UInt8) (k : Nat) (hk : k ≤ 4) : -230000 ≤ valL (l.take k) ∧ valL (l.take k) ≤ 230000 := by
  have h := valL_bd (l.take k)
  have h1 : (l.take k).length ≤ 4 := by simp; omega
  have h2 : 10 ^ (l.take k).length ≤ 10 ^ 4 := Nat.pow_le_pow_right (by omega) h1
  omega
end Go.Proofs.Ytaihdjdaamglnaa
/- Contracts of the model's FormatNumber and ParseNumber. -/
namespace Go.Proofs.Ytaihdjdaamglnaa
set_option linter.unusedVariables false
open Go.RowKit
theorem conv_one (w : World) (x : Int) (h0 : 0 ≤ x) (h1 : x ≤ 255) :
    (convert 22 9 (.slice (some ⟨w.heap.size, 0, none⟩) 1 1)).run Try.prog (w.alloc (.cells #[.int .u8 x] 5)) = .ok (.string ⟨[UInt8.ofNat x.toNat].toArray⟩) (w.alloc (.cells #[.int .u8 x] 5)) := by
  refine run_convert_bytes_back (w.alloc (.cells #[.int .u8 x] 5)) 22 9 5 ⟨w.heap.size, 0, none⟩ 1 [UInt8.ofNat x.toNat] Try.underlying22 Try.underlying5 Try.underlying9 ?_
  intro j hj
  have : j = 0 := by simpa using hj
  subst this
  simp [Addr.add]; omega
theorem dig_eq {a b : Nat} (h : a = b) : #[UInt8.ofNat a].toList = [UInt8.ofNat b] := by rw [h]
theorem ret_strB {s : ByteArray} {b : List UInt8} (h : s.data.toList = b) : Ending.returned (.string s) = .returned (.string ⟨b.toArray⟩) := by subst h; simp
theorem data_app (a b : ByteArray) : (a ++ b).data.toList = a.data.toList ++ b.data.toList := by rw [ByteArray.data_append]; simp
theorem ret_str {a b : List UInt8} (h : a = b) : Ending.returned (.string ⟨a.toArray⟩) = .returned (.string ⟨b.toArray⟩) := by rw [h]
theorem ret_strA {a : Array UInt8} {b : List UInt8} (h : a.toList = b) : Ending.returned (.string ⟨a⟩) = .returned (.string ⟨b.toArray⟩) := by subst h; simp
end Go.Proofs.Ytaihdjdaamglnaa
/- Lists of texts: what the laws' own helpers do with them. -/
namespace Go.Proofs.Ytaihdjdaamglnaa
set_option linter.unusedVariables false
open Go.RowKit

theorem rowAt_cell {w : World} {a : Option Addr} {n c : Nat} {xs : List Value} (h : RowAt w (.slice a n c) xs) (k : Nat) (hk : k < xs.length) : ∃ b o, a = some ⟨b, o, none⟩ ∧ b < w.heap.size ∧ w.cell? ⟨b, o + k, none⟩ = some (xs[k]'hk) := by
  obtain ⟨a', c', e, hl, h⟩ := h
  injection e with e1 e2 e3
  subst e1
  rcases h with rfl | ⟨b, o, rfl, hlt, hc⟩
  · simp at hk
  · exact ⟨b, o, rfl, hlt, by rw [hc k hk]; exact List.getElem?_eq_getElem hk⟩
theorem rowAt_cap {w : World} {v : Value} {xs : List Value} (h : RowAt w v xs) : ∃ a c, v = .slice a xs.length c ∧ xs.length ≤ maxLen ∧ xs.length ≤ c := by
  obtain ⟨a, c, rfl, hl, _⟩ := h; exact ⟨a, _, rfl, hl, by omega⟩
theorem rowAt_len {w : World} {v : Value} {xs : List Value} (h : RowAt w v xs) : ∃ a c, v = .slice a xs.length c ∧ xs.length ≤ maxLen := by
  obtain ⟨a, c, rfl, hl, _⟩ := h; exact ⟨a, _, rfl, hl⟩
theorem rowAt_cellS {w : World} {b o n c : Nat} {xs : List Value} (h : RowAt w (.slice (some ⟨b, o, none⟩) n c) xs) (k : Nat) (hk : k < xs.length) : w.cell? ⟨b, o + k, none⟩ = some (xs[k]'hk) := by
  obtain ⟨b', o', e, _, h⟩ := rowAt_cell h k hk
  injection e with e
  injection e with e1 e2
  subst e1; subst e2; exact h
theorem rowAt_drewN {w : World} {v : Value} {xs : List Value} (h : RowAt w v xs) (n : Nat) : RowAt (w.drewN n) v xs := h
theorem below_drewN {B : Nat} {a w : World} (h : Below B a w) (n : Nat) : Below B a (w.drewN n) := ⟨h.os, h.tape, h.output, h.size, h.block⟩
theorem getElem_map_strV (l : List (List UInt8)) (k : Nat) (h : k < (l.map strV).length) : (l.map strV)[k] = strV (l[k]'(by simpa using h)) := by simp
theorem take_eq_step {α : Type} [DecidableEq α] (x y : List α) (hl : x.length = y.length) (k : Nat) (hk : k < x.length) (h : x.take k = y.take k) : (x[k] = y[k]'(by omega)) → x.take (k + 1) = y.take (k + 1) := by
  intro e
  rw [List.take_succ_eq_append_getElem hk, List.take_succ_eq_append_getElem (by omega), h, e]
def total : List (List UInt8) → Nat
  | [] => 0
  | x :: r => x.length + total r
theorem total_take_succ (x : List (List UInt8)) (k : Nat) (h : k < x.length) : total (x.take (k + 1)) = total (x.take k) + (x[k]).length := by
  induction x generalizing k with
  | nil => simp at h
  | cons a r ih =>
    cases k with
    | zero => simp [total]
    | succ k =>
      have := ih k (by simpa using h)
      simp only [List.take_succ_cons, total, List.getElem_cons_succ, this]; omega
theorem size_strB (l : List UInt8) : (⟨l.toArray⟩ : ByteArray).size = l.length := by simp [ByteArray.size]
def SzPost (x : List (List UInt8)) (left : Int) (w : World) (e : Ending) (w' : World) : Prop := ∃ r : Int, e = .returned (.int .i64 r) ∧ -1 ≤ r ∧ (0 ≤ r → (x.length : Int) + total x + r = left) ∧ w = w'
theorem string_cells : Try.prog.cellsOf 9 = 1 := by kernel_rfl
theorem string_info : (Try.prog.info? 9).map (fun i => (i.zero, i.size, i.bytes)) = some (some (.string ⟨#[]⟩), 1, 16) := by kernel_rfl
theorem take_set_succ {α : Type} (xs ys : List α) (k : Nat) (h : k < xs.length) (hy : k < ys.length) (ht : xs.take k = ys.take k) : (xs.set k (ys[k])).take (k + 1) = ys.take (k + 1) := by
  rw [List.take_succ_eq_append_getElem (by simpa using h), List.take_succ_eq_append_getElem hy]
  rw [List.take_set_of_le (by omega), ht]; simp
/-- the slice v is a row of the call's own, of texts -/
def Owns (w : World) (B : Nat) (v : Value) (xs : List (List UInt8)) : Prop := w.ownsRow B 9 1 v xs.length (xs.map strV)
theorem ownsRow_below {w w' : World} {B B' : Nat} {e : TypeId} {size n : Nat} {v : Value} {xs : List Value} (h : w.ownsRow B e size v n xs) (hb : Below B' w w') (hB : w.heap.size ≤ B') : w'.ownsRow B e size v n xs :=
  h.kept (row := none) ⟨hb.os, hb.tape, hb.output, hb.size, fun i hi _ => hb.block i (Nat.lt_of_lt_of_le hi hB)⟩ (by cases v.ownBlock <;> simp)
theorem ownsRow_rowAt {w : World} {B : Nat} {e : TypeId} {n : Nat} {v : Value} {xs : List Value} (h : w.ownsRow B e 1 v n xs) (hm : n ≤ maxLen) : RowAt w v xs := by
  have hl : xs.length = n := by simpa using h.1
  rcases h.2 with ⟨rfl, rfl⟩ | ⟨g, cap, cur, rfl, hb, hg, hn, hc, hs, ht⟩
  · have : xs = [] := List.eq_nil_of_length_eq_zero hl
    subst this
    exact ⟨none, 0, rfl, Nat.zero_le _, Or.inl rfl⟩
  · subst hl
    refine ⟨_, _, cap_eq _ hn, hm, Or.inr ⟨g, 0, rfl, (Array.getElem?_eq_some_iff.1 hg).1, fun i hi => ?_⟩⟩
    rw [Nat.zero_add]
    exact World.ownsRow.cellAt h i (by simpa using hi)
/-- the digits of a number, none for 0 -/
def dg0 (m : Nat) : List UInt8 := if m = 0 then [] else digs 20 m
theorem dg0_step (m : Nat) (h0 : 0 < m) (h1 : m ≤ 9223372036854775807) : dg0 m = dg0 (m / 10) ++ [UInt8.ofNat (48 + m % 10)] := by
  have e : dg0 m = digs 20 m := by simp [dg0, show m ≠ 0 from by omega]
  rw [e]
  by_cases h : m < 10
  · have e2 : dg0 (m / 10) = [] := by simp [dg0]; omega
    rw [e2, digs_small 19 m h, show m % 10 = m from by omega]; rfl
  · have e2 : dg0 (m / 10) = digs 20 (m / 10) := by simp [dg0]; omega
    rw [e2, digs_big 19 m (by omega), digs_more 18 19 (m / 10) (by omega) (by omega)]
theorem add48 (x : Nat) : (48 : UInt8) + UInt8.ofNat x = UInt8.ofNat (48 + x) := by rw [UInt8.ofNat_add]; rfl
theorem app_one (a : UInt8) (l : List UInt8) : Value.string (({ data := #[a] } : ByteArray) ++ { data := l.toArray }) = .string { data := (a :: l).toArray } := by
  congr 1
def markL (k : Int) : List UInt8 := 109 :: dg0 k.toNat
theorem dg0_len (m : Nat) : (dg0 m).length ≤ 20 := by
  unfold dg0; split
  · simp
  · exact digs_len 20 m
set_option maxHeartbeats 400000 in
theorem markText_any (k : Int) (w : World) (h0 : 1 ≤ k) (h1 : k ≤ 9223372036854775807) :
    Calls Try.prog 72 #[.int .i64 k] w fun e w' => e = .returned (.string ⟨(markL k).toArray⟩) ∧ Below w.heap.size w w' := by
  go_enter Try.func72, Try.ntmps72
  go_wp2_with fail
  go_loopw [0, 3] (fun kv ov wr => ∃ (m : Nat) (out : List UInt8), kv = .int .i64 m ∧ ov = .string ⟨out.toArray⟩ ∧ (m : Int) ≤ k ∧ dg0 m ++ out = dg0 k.toNat ∧ Below w.heap.size w wr) (fun kv _ _ => (intOf kv).toNat)
  case atStart => exact ⟨k.toNat, [], by rw [show ((k.toNat : Nat) : Int) = k from by omega], rfl, by omega, by simp, Below.refl _ _⟩
  case round =>
    obtain ⟨m, out, rfl, rfl, hm, hout, hb⟩ := hrel
    have HO := Lib.hid hout
    have HB := Lib.hid hb
    have hlen : out.length ≤ 20 := by have h := congrArg List.length hout; have h2 := dg0_len k.toNat; simp at h; omega
    clear hout hb
    by_cases hp : 0 < m
    · have hcv := conv_one wr (48 + (m : Int) % 10) (by omega) (by omega)
      have HS := Lib.hid (dg0_step m hp (by omega))
      go_wp2_with fail
      refine ⟨⟨m / 10, UInt8.ofNat (48 + m % 10) :: out, by go_num, ?_, by omega, ?_, ?_⟩, by simp [intOf]; omega⟩
      · rw [app_one, add48]
      · have h := HO.out; rw [HS.out] at h; rw [← h]; simp
      · exact HB.out.trans (((Below.refl _ wr).alloc (Nat.le_refl _) _).mono HB.out.size)
    · have hm0 : m = 0 := by omega
      have HF := Lib.hid (show out = dg0 k.toNat from by have h := HO.out; subst hm0; simpa [dg0] using h)
      go_wp2_with fail
      go_ret
      exact ⟨ret_strB (by rw [data_app, HF.out]; rfl), HB.out⟩
/-- the marks from k on, n of them -/
def marks (k : Int) (n : Nat) : List (List UInt8) := (List.range n).map fun i : Nat => markL (k + i)
theorem marks_len (k : Int) (n : Nat) : (marks k n).length = n := by simp [marks]
theorem marks_get (k : Int) (n i : Nat) (h : i < n) : (marks k n)[i]'(by rw [marks_len]; exact h) = markL (k + i) := by simp [marks]
theorem markL_len (k : Int) : (markL k).length ≤ 21 := by unfold markL; have := dg0_len k.toNat; simp; omega
theorem grownBy_refl (w : World) (r : Option Nat) : w.grownBy w r := ⟨rfl, rfl, rfl, Nat.le_refl _, fun _ _ _ => rfl⟩
theorem grownBy_trans {a b c : World} {r : Option Nat} (h : a.grownBy b r) (k : b.grownBy c r) : a.grownBy c r :=
  ⟨k.os.trans h.os, k.tape.trans h.tape, k.output.trans h.output, Nat.le_trans h.size k.size, fun i hi hr => (k.block i (Nat.lt_of_lt_of_le hi h.size) hr).trans (h.block i hi hr)⟩
theorem grownBy_below {a b c : World} {B : Nat} {r : Option Nat} (h : a.grownBy b r) (k : Below B b c) (hB : a.heap.size ≤ B) : a.grownBy c r :=
  ⟨k.os.trans h.os, k.tape.trans h.tape, k.output.trans h.output, Nat.le_trans h.size k.size, fun i hi hr => (k.block i (Nat.lt_of_lt_of_le hi hB)).trans (h.block i hi hr)⟩
set_option maxHeartbeats 400000 in
theorem texts_any (v u : Value) (x y : List (List UInt8)) (w : World) (hx : RowAt w v (x.map strV)) (hy : RowAt w u (y.map strV)) :
    Calls Try.prog 22 #[v, u] w fun e w' => e = .returned (.bool (decide (x = y))) ∧ Below w.heap.size w w' := by
  obtain ⟨a, c, rfl, hl⟩ := rowAt_len hx
  obtain ⟨a2, c2, rfl, hl2⟩ := rowAt_len hy
  rw [List.length_map] at *
  have HX := Lib.hid hx
  have HY := Lib.hid hy
  clear hx hy
  unfold maxLen at hl hl2
  by_cases he : x.length = y.length
  · have hb : ((x.length : Int) == y.length) = true := beq_iff_eq.2 (by omega)
    have HE := Lib.hid he
    clear he
    go_enter Try.func22, Try.ntmps22
    go_wp2
    go_loopw [5] (fun i wr => ∃ k : Nat, k ≤ x.length ∧ i = .int .i64 k ∧ x.take k = y.take k ∧ ∃ nq, wr = w.drewN nq) (fun i _ => x.length - (intOf i).toNat)
    case atStart => exact ⟨0, Nat.zero_le _, rfl, rfl, 0, rfl⟩
    case round =>
      obtain ⟨k, hk, rfl, ht, nq, rfl⟩ := hrel
      have HT := Lib.hid ht
      clear ht
      by_cases hlt : k < x.length
      · have hky : k < y.length := by have := HE.out; omega
        obtain ⟨b, o, rfl, _, d1⟩ := rowAt_cell HX.out k (by simpa using hlt)
        obtain ⟨b2, o2, rfl, _, d2⟩ := rowAt_cell HY.out k (by simpa using hky)
        rw [getElem_map_strV] at d1 d2
        unfold strV at d1 d2
        by_cases heq : x[k] = y[k]
        · have hbeq : (x[k] == y[k]) = true := by simpa using heq
          have HN := Lib.hid (take_eq_step x y HE.out k hlt HT.out heq)
          clear heq
          go_wp2
          go_quiet (fail)
          go_wp2
          exact ⟨⟨k + 1, by omega, by go_num, HN.out, _, rfl⟩, by simp [intOf]; omega⟩
        · have hbeq : (x[k] == y[k]) = false := by simpa using heq
          have HN := Lib.hid (show ¬ x = y from fun e => heq (by subst e; rfl))
          clear heq
          go_wp2
          go_quiet (fail)
          go_wp2
          go_ret
          exact ⟨ret_bool (by simp [HN.out]), below_drewN (below_drewN (Below.refl _ _) _) _⟩
      · have HN := Lib.hid (show x = y from by
          have h := HT.out
          rw [List.take_of_length_le (by omega), List.take_of_length_le (by have := HE.out; omega)] at h
          exact h)
        go_wp2
        go_ret
        exact ⟨ret_bool (by simp [HN.out]), below_drewN (Below.refl _ _) _⟩
  · have hb : ((x.length : Int) == y.length) = false := beq_eq_false_iff_ne.2 (by omega)
    have HN := Lib.hid (show ¬ x = y from fun e => he (by rw [e]))
    clear he
    go_enter Try.func22, Try.ntmps22
    go_wp2
    go_ret
    exact ⟨ret_bool (by simp [HN.out]), Below.refl _ _⟩
/-- append of one text to a row of the call's own -/
theorem append_strs {ops : Array Oper} {rest : List Oper} {o : Oper} {a : Act} {Q : Exit → Act → World → Prop} (hgd : o.guard = none) (s x : Operand)
    (ho : o.op = .call { callee := .builtin .append, args := #[s, x], argTypes := #[44, 44] }) (B : Nat) (v : Value) (xs : List (List UInt8)) (y : List UInt8) (w : World) (blk : Nat)
    (hs : a.eval s = v) (hO : Owns w B v xs) (hx : a.eval x = .slice (some ⟨blk, 0, none⟩) 1 1) (hc : w.cell? ⟨blk, 0, none⟩ = some (strV y)) (hl : xs.length ≤ 4194304) (hB : B ≤ w.heap.size)
    (h : ∀ v' w', Owns w' B v' (xs ++ [y]) → w.grownBy w' v.ownBlock → wpList Try.prog ops Q rest (a.put o.dst v') w') : wpList Try.prog ops Q (o :: rest) a w := by
  obtain ⟨i0, hi, hz0, hz1, hz2⟩ := info_parts string_info
  refine wpList_append_own _ hgd s x 44 ho B 9 i0 (.string ⟨#[]⟩) 1 16 Try.underlying44 hi hz0 hz1 hz2 rfl (by decide) v xs.length (xs.map strV) hs hO ⟨blk, 0, none⟩ 1 1 [strV y] hx rfl ?_ ?_ (by unfold maxLen; omega) (by omega) hB ?_
  · intro j u hj
    cases j with
    | zero => simp at hj; subst hj; rw [Addr.add_lit]; exact hc
    | succ j => simp at hj
  · intro u hu; simp at hu; subst hu; rfl
  · intro v' w' h1 h2 _
    refine h v' w' ?_ h2
    unfold Owns; rw [List.map_append, List.length_append]; exact h1
/-- the same; what is not nil is not nil then -/
theorem append_strsN {ops : Array Oper} {rest : List Oper} {o : Oper} {a : Act} {Q : Exit → Act → World → Prop} (hgd : o.guard = none) (s x : Operand)
    (ho : o.op = .call { callee := .builtin .append, args := #[s, x], argTypes := #[44, 44] }) (B : Nat) (v : Value) (xs : List (List UInt8)) (y : List UInt8) (w : World) (blk : Nat)
    (hs : a.eval s = v) (hO : Owns w B v xs) (hx : a.eval x = .slice (some ⟨blk, 0, none⟩) 1 1) (hc : w.cell? ⟨blk, 0, none⟩ = some (strV y)) (hl : xs.length ≤ 4194304) (hB : B ≤ w.heap.size) (hnn : v ≠ .slice none 0 0)
    (h : ∀ v' w', Owns w' B v' (xs ++ [y]) → w.grownBy w' v.ownBlock → v' ≠ .slice none 0 0 → wpList Try.prog ops Q rest (a.put o.dst v') w') : wpList Try.prog ops Q (o :: rest) a w := by
  obtain ⟨i0, hi, hz0, hz1, hz2⟩ := info_parts string_info
  refine wpList_append_own _ hgd s x 44 ho B 9 i0 (.string ⟨#[]⟩) 1 16 Try.underlying44 hi hz0 hz1 hz2 rfl (by decide) v xs.length (xs.map strV) hs hO ⟨blk, 0, none⟩ 1 1 [strV y] hx rfl ?_ ?_ (by unfold maxLen; omega) (by omega) hB ?_
  · intro j u hj
    cases j with
    | zero => simp at hj; subst hj; rw [Addr.add_lit]; exact hc
    | succ j => simp at hj
  · intro u hu; simp at hu; subst hu; rfl
  · intro v' w' h1 h2 h3
    refine h v' w' ?_ h2 (fun e => hnn (h3.1 e).1)
    unfold Owns; rw [List.map_append, List.length_append]; exact h1
theorem owns_new (w : World) : Owns (w.alloc (.cells #[] 9)) w.heap.size (.slice (some ⟨w.heap.size, 0, none⟩) 0 0) [] :=
  World.ownsRow_made w #[] 0 (Nat.le_refl _) (Nat.zero_le _) rfl
theorem cell_new (w : World) (t : TypeId) (y : Value) : (w.alloc (.cells #[y] t)).cell? ⟨w.heap.size, 0, none⟩ = some y :=
  (cell_of_row _ _ 0 _ t (0, 0) (heap_alloc_new w _)).trans rfl
theorem cell_newS (w : World) (t : TypeId) (s : ByteArray) (blk : Nat) (h : blk = w.heap.size) : (w.alloc (.cells #[.string s] t)).cell? ⟨blk, 0, none⟩ = some (strV s.data.toList) := by
  subst h; rw [cell_new]; simp [strV]
theorem owns_alloc {w : World} {B : Nat} {v : Value} {xs : List (List UInt8)} (h : Owns w B v xs) (o : Obj) : Owns (w.alloc o) B v xs := World.ownsRow.alloc h o
theorem owns_below {w w' : World} {B B' : Nat} {v : Value} {xs : List (List UInt8)} (h : Owns w B v xs) (hb : Below B' w w') (hB : w.heap.size ≤ B') : Owns w' B v xs := ownsRow_below h hb hB
/-- what an append left: nothing below B has turned -/
theorem below_append {a w w' : World} {B : Nat} {v : Value} {xs : List (List UInt8)} (hb : Below B a w) (hO : Owns w B v xs) (hg : w.grownBy w' v.ownBlock) (hB : B ≤ w.heap.size) : Below B a w' :=
  hb.grown hg hB (fun k hk => (World.ownsRow.lt hO k hk).1)
/-- a new row of texts -/
def GivesRow (x : List (List UInt8)) (w : World) (e : Ending) (w' : World) : Prop := ∃ v, e = .returned v ∧ Owns w' w.heap.size v x ∧ Below w.heap.size w w'
theorem owns_row {w : World} {B : Nat} {v : Value} {x : List (List UInt8)} (h : Owns w B v x) (hm : x.length ≤ 4194304) : RowAt w v (x.map strV) := ownsRow_rowAt h (by unfold maxLen; omega)
end Go.Proofs.Ytaihdjdaamglnaa
/- Contracts of chapter 2: names of abilities, methods of abilities. -/
namespace Go.Proofs.Ytaihdjdaamglnaa
set_option linter.unusedVariables false
open Go.RowKit
theorem abNI_nat (k : Nat) : abNI (k : Int) = abN k := by unfold abNI; rw [if_neg (by omega)]; simp
/-- the model's list of names -/
def namesV : List Value := [strV (abN 0), strV (abN 1), strV (abN 2), strV (abN 3), strV (abN 4), strV (abN 5)]
def GivesNames (w : World) (e : Ending) (w' : World) : Prop := e = .returned (.slice (some ⟨w.heap.size, 0, none⟩) 6 6) ∧ w' = w.alloc (.cells namesV.toArray 9)
theorem names_cell (w : World) (k : Nat) (hk : k < 6) : (w.alloc (.cells namesV.toArray 9)).cell? ⟨w.heap.size, k, none⟩ = some (strV (abN k)) := by
  rw [cell_of_row _ _ k _ 9 (0, 0) (heap_alloc_new w _)]
  rcases (show k = 0 ∨ k = 1 ∨ k = 2 ∨ k = 3 ∨ k = 4 ∨ k = 5 by omega) with rfl | rfl | rfl | rfl | rfl | rfl <;> rfl
end Go.Proofs.Ytaihdjdaamglnaa
/- Lists of integers: what the laws' own helpers do with them. -/
namespace Go.Proofs.Ytaihdjdaamglnaa
set_option linter.unusedVariables false
open Go.RowKit
theorem take_eq_stepI (x y : List Int) (hl : x.length = y.length) (k : Nat) (hk : k < x.length) (h : x.take k = y.take k) : (x[k] = y[k]) → x.take (k + 1) = y.take (k + 1) := by
  intro e
  rw [List.take_succ_eq_append_getElem hk, List.take_succ_eq_append_getElem (by omega), h, e]
def intV (n : Int) : Value := .int .i64 n
theorem getElem_map_intV (l : List Int) (k : Nat) (h : k < (l.map intV).length) : (l.map intV)[k] = intV (l[k]'(by simpa using h)) := by simp
theorem int_info : (Try.prog.info? 3).map (fun i => (i.zero, i.size, i.bytes)) = some (some (.int .i64 0), 1, 8) := by kernel_rfl
/-- the slice v is a row of the call's own, of integers -/
def OwnsI (w : World) (B : Nat) (v : Value) (xs : List Int) : Prop := w.ownsRow B 3 1 v xs.length (xs.map intV)
theorem ownsI_row {w : World} {B : Nat} {v : Value} {x : List Int} (h : OwnsI w B v x) (hm : x.length ≤ 4194304) : RowAt w v (x.map intV) := ownsRow_rowAt h (by unfold maxLen; omega)
theorem ownsI_new (w : World) : OwnsI (w.alloc (.cells #[] 3)) w.heap.size (.slice (some ⟨w.heap.size, 0, none⟩) 0 0) [] :=
  World.ownsRow_made w #[] 0 (Nat.le_refl _) (Nat.zero_le _) rfl
theorem ownsI_alloc {w : World} {B : Nat} {v : Value} {xs : List Int} (h : OwnsI w B v xs) (o : Obj) : OwnsI (w.alloc o) B v xs := World.ownsRow.alloc h o
theorem ownsI_below {w w' : World} {B B' : Nat} {v : Value} {xs : List Int} (h : OwnsI w B v xs) (hb : Below B' w w') (hB : w.heap.size ≤ B') : OwnsI w' B v xs := ownsRow_below h hb hB
theorem below_appendI {a w w' : World} {B : Nat} {v : Value} {xs : List Int} (hb : Below B a w) (hO : OwnsI w B v xs) (hg : w.grownBy w' v.ownBlock) (hB : B ≤ w.heap.size) : Below B a w' :=
  hb.grown hg hB (fun k hk => (World.ownsRow.lt hO k hk).1)
/-- a new row of integers -/
def GivesRowI (x : List Int) (w : World) (e : Ending) (w' : World) : Prop := ∃ v, e = .returned v ∧ OwnsI w' w.heap.size v x ∧ Below w.heap.size w w'
theorem append_ints {ops : Array Oper} {rest : List Oper} {o : Oper} {a : Act} {Q : Exit → Act → World → Prop} (hgd : o.guard = none) (s x : Operand)
    (ho : o.op = .call { callee := .builtin .append, args := #[s, x], argTypes := #[139, 139] }) (B : Nat) (v : Value) (xs : List Int) (y : Int) (w : World) (blk : Nat)
    (hs : a.eval s = v) (hO : OwnsI w B v xs) (hx : a.eval x = .slice (some ⟨blk, 0, none⟩) 1 1) (hc : w.cell? ⟨blk, 0, none⟩ = some (intV y)) (hl : xs.length ≤ 4194304) (hB : B ≤ w.heap.size)
    (h : ∀ v' w', OwnsI w' B v' (xs ++ [y]) → w.grownBy w' v.ownBlock → wpList Try.prog ops Q rest (a.put o.dst v') w') : wpList Try.prog ops Q (o :: rest) a w := by
  obtain ⟨i0, hi, hz0, hz1, hz2⟩ := info_parts int_info
  refine wpList_append_own _ hgd s x 139 ho B 3 i0 (.int .i64 0) 1 8 Try.underlying139 hi hz0 hz1 hz2 rfl (by decide) v xs.length (xs.map intV) hs hO ⟨blk, 0, none⟩ 1 1 [intV y] hx rfl ?_ ?_ (by unfold maxLen; omega) (by omega) hB ?_
  · intro j u hj
    cases j with
    | zero => simp at hj; subst hj; rw [Addr.add_lit]; exact hc
    | succ j => simp at hj
  · intro u hu; simp at hu; subst hu; rfl
  · intro v' w' h1 h2 _
    refine h v' w' ?_ h2
    unfold OwnsI; rw [List.map_append, List.length_append]; exact h1
/-- the marks from k on, n of them -/
def marksI (k : Int) (n : Nat) : List Int := (List.range n).map fun i : Nat => k + i
theorem marksI_len (k : Int) (n : Nat) : (marksI k n).length = n := by simp [marksI]
theorem marksI_get (k : Int) (n i : Nat) (h : i < n) : (marksI k n)[i]'(by rw [marksI_len]; exact h) = k + i := by simp [marksI]
end Go.Proofs.Ytaihdjdaamglnaa
/- Contracts of chapter 2: the abilities of a face, their number; methods of abilities; what is in a list. -/
namespace Go.Proofs.Ytaihdjdaamglnaa
set_option linter.unusedVariables false
open Go.RowKit
def intsN (l : List Nat) : List Int := l.map fun k => ((k : Nat) : Int)
theorem intsN_len (l : List Nat) : (intsN l).length = l.length := by simp [intsN]
theorem intsN_snoc (l : List Nat) (k : Nat) : intsN (l ++ [k]) = intsN l ++ [(k : Int)] := by simp [intsN]
/-- rows of integers and rows of texts are not the same -/
theorem owns_apart {w : World} {B B' : Nat} {v u : Value} {xs : List Int} {ys : List (List UInt8)} (h : OwnsI w B v xs) (k : Owns w B' u ys) : v.ownBlock = none ∨ v.ownBlock ≠ u.ownBlock := by
  rcases h.2 with ⟨rfl, _⟩ | ⟨g, cap, cur, rfl, _, hg, _⟩
  · exact Or.inl rfl
  · right
    rcases k.2 with ⟨rfl, _⟩ | ⟨g2, cap2, cur2, rfl, _, hg2, _⟩
    · simp [Value.ownBlock]
    · intro e
      simp [Value.ownBlock] at e
      subst e
      rw [hg] at hg2
      injection hg2 with hg2
      injection hg2 with _ h2 _
      exact absurd h2 (by decide)
theorem ownsI_kept {w w' : World} {B B' : Nat} {v u : Value} {xs : List Int} {ys : List (List UInt8)} (h : OwnsI w B v xs) (k : Owns w B' u ys) (hg : w.grownBy w' u.ownBlock) : OwnsI w' B v xs :=
  World.ownsRow.kept h hg (owns_apart h k)
theorem bit_walk {f : Int} (hf : isF f = true) (k : Nat) (hk : k < 6) (b : Bool) (h : hasI f k = b) : (bits .and .i64 f (wrap64 (2 ^ k)) != 0) = b := by
  rw [pow_of k hk, bit_eq hf k hk]; exact h
theorem abilK_yes {f : Int} {k : Nat} (h : hasI f k = true) : intsN (abilK f (k + 1)) = intsN (abilK f k) ++ [(k : Int)] := by rw [abilK_succ, if_pos h, intsN_snoc]
theorem abilK_no {f : Int} {k : Nat} (h : hasI f k = false) : abilK f (k + 1) = abilK f k := by rw [abilK_succ, if_neg (by simp [h]), List.append_nil]
theorem abilL_yes {f : Int} (h : isF f = true) : abilL f = abilK f 6 := if_pos h
theorem abilL_no {f : Int} (h : isF f = false) : abilL f = [] := if_neg (by simp [h])
/-- the methods of an ability, in memory that was just made -/
def GivesMth (k : Nat) (w : World) (e : Ending) (w' : World) : Prop := e = .returned (.slice (some ⟨w.heap.size, 0, none⟩) (mthN k).length (mthN k).length) ∧ w' = w.alloc (.cells ((mthN k).map strV).toArray 9)
theorem mth_row (w : World) (k : Nat) (c : Nat) (hc : (mthN k).length ≤ c := by exact Nat.le_refl _) : RowAt (w.alloc (.cells ((mthN k).map strV).toArray 9)) (.slice (some ⟨w.heap.size, 0, none⟩) (mthN k).length c) ((mthN k).map strV) := by
  refine ⟨_, c - (mthN k).length, by rw [List.length_map, Nat.add_sub_of_le hc], by rw [List.length_map]; have := mthN_len k; unfold maxLen; omega, Or.inr ⟨w.heap.size, 0, rfl, by simp, fun i _ => ?_⟩⟩
  rw [cell_of_row _ _ _ _ 9 (0, 0) (heap_alloc_new w _)]
  simp
def IdxOf (x : List (List UInt8)) (t : List UInt8) (w : World) (e : Ending) (w' : World) : Prop := ∃ i : Int, e = .returned (.int .i64 i) ∧ -1 ≤ i ∧ i ≤ 9223372036854775807 ∧ decide (0 ≤ i) = decide (t ∈ x) ∧ w = w'
end Go.Proofs.Ytaihdjdaamglnaa
/- The library's contracts of strings.Builder, laid at this program's numbers. -/
namespace Go.Proofs.Ytaihdjdaamglnaa
set_option linter.unusedVariables false
open Go.Shelf Go.RowKit
def bRen : Go.Shelf.Ren := ⟨fun | 167 => 118 | 240 => 129 | 276 => 140 | 169 => 86 | n => n, fun | 9 => 9 | 0 => 0 | 72 => 122 | 70 => 120 | 37 => 22 | 127 => 147 | 3 => 3 | 4 => 4 | 5 => 5 | 20 => 20 | 75 => 145 | 80 => 124 | 164 => 205 | n => n, fun | n => n⟩
theorem bLays240 : Go.Proofs.Lays.n240 Try.prog bRen := {
  mixed := by kernel_rfl
  f240 := Try.func129.trans (congrArg some (by kernel_rfl))
  f276 := Try.func140.trans (congrArg some (by kernel_rfl))
  t0 := Try.underlying0
  a0 := Try.isAgg0
  z0 := Try.sizeOf0
  v0 := Try.zeroValue0
  t4 := Try.underlying4
  a4 := Try.isAgg4
  z4 := Try.sizeOf4
  v4 := Try.zeroValue4
  t9 := Try.underlying9
  a9 := Try.isAgg9
  z9 := Try.sizeOf9
  v9 := Try.zeroValue9
  t20 := Try.underlying20
  a20 := Try.isAgg20
  z20 := Try.sizeOf20
  v20 := Try.zeroValue20
  t70 := Try.underlying120
  a70 := Try.isAgg120
  z70 := Try.sizeOf120
  v70 := Try.zeroValue120
  t72 := Try.underlying122
  a72 := Try.isAgg122
  z72 := Try.sizeOf122
  v72 := Try.zeroValue122
  t164 := Try.underlying205
  a164 := Try.isAgg205
  z164 := Try.sizeOf205
  v164 := Try.zeroValue205 }
theorem bLays167 : Go.Proofs.Lays.n167 Try.prog bRen := {
  mixed := by kernel_rfl
  f167 := Try.func118.trans (congrArg some (by kernel_rfl))
  f240 := Try.func129.trans (congrArg some (by kernel_rfl))
  f276 := Try.func140.trans (congrArg some (by kernel_rfl))
  t0 := Try.underlying0
  a0 := Try.isAgg0
  z0 := Try.sizeOf0
  v0 := Try.zeroValue0
  t4 := Try.underlying4
  a4 := Try.isAgg4
  z4 := Try.sizeOf4
  v4 := Try.zeroValue4
  t5 := Try.underlying5
  a5 := Try.isAgg5
  z5 := Try.sizeOf5
  v5 := Try.zeroValue5
  t9 := Try.underlying9
  a9 := Try.isAgg9
  z9 := Try.sizeOf9
  v9 := Try.zeroValue9
  t20 := Try.underlying20
  a20 := Try.isAgg20
  z20 := Try.sizeOf20
  v20 := Try.zeroValue20
  t37 := Try.underlying22
  a37 := Try.isAgg22
  z37 := Try.sizeOf22
  v37 := Try.zeroValue22
  t70 := Try.underlying120
  a70 := Try.isAgg120
  z70 := Try.sizeOf120
  v70 := Try.zeroValue120
  t72 := Try.underlying122
  a72 := Try.isAgg122
  z72 := Try.sizeOf122
  v72 := Try.zeroValue122
  t75 := Try.underlying145
  a75 := Try.isAgg145
  z75 := Try.sizeOf145
  v75 := Try.zeroValue145
  t164 := Try.underlying205
  a164 := Try.isAgg205
  z164 := Try.sizeOf205
  v164 := Try.zeroValue205 }
theorem bLays169 : Go.Proofs.Lays.n169 Try.prog bRen := {
  mixed := by kernel_rfl
  f169 := Try.func86.trans (congrArg some (by kernel_rfl))
  t0 := Try.underlying0
  a0 := Try.isAgg0
  z0 := Try.sizeOf0
  v0 := Try.zeroValue0
  t3 := Try.underlying3
  a3 := Try.isAgg3
  z3 := Try.sizeOf3
  v3 := Try.zeroValue3
  t9 := Try.underlying9
  a9 := Try.isAgg9
  z9 := Try.sizeOf9
  v9 := Try.zeroValue9
  t37 := Try.underlying22
  a37 := Try.isAgg22
  z37 := Try.sizeOf22
  v37 := Try.zeroValue22
  t70 := Try.underlying120
  a70 := Try.isAgg120
  z70 := Try.sizeOf120
  v70 := Try.zeroValue120
  t72 := Try.underlying122
  a72 := Try.isAgg122
  z72 := Try.sizeOf122
  v72 := Try.zeroValue122
  t127 := Try.underlying147
  a127 := Try.isAgg147
  z127 := Try.sizeOf147
  v127 := Try.zeroValue147 }
theorem bExtra : Builder.Extra Try.prog bRen := {
  sizeBuilder := by kernel_rfl
  liesBuilder := by kernel_rfl
  t5 := Try.underlying5
  a5 := Try.isAgg5
  z5 := Try.sizeOf5
  v5 := Try.zeroValue5
  infoByte := by kernel_rfl
  cellsByte := by kernel_rfl
  sizeByte := by kernel_rfl
  neB5 := by decide }
theorem writeByte_k (B b : Nat) (bs : List Value) (c : Int) (w : World) (h : Lib.IsBuilderF 122 5 B b bs w) (hlen : bs.length + 1 ≤ 140737488355328) (hBw : B ≤ w.heap.size) :
    Calls Try.prog 118 #[.pointer (some ⟨b, 0, none⟩), .int .u8 c] w fun e w' => e = .returned .nilIface ∧ (Lib.BuilderAtF 122 5 B b (.pointer (some ⟨b, 0, none⟩)) (bs ++ [.int .u8 c]) w' ∧ Below B w w' ∧ Lib.OthersKept 5 (some b) w w') :=
  Any.Builder_WriteByte_k bLays167 bExtra B b bs c w h hlen hBw
theorem string_k (B b : Nat) (l : List UInt8) (w : World) (h : Lib.IsBuilderF 122 5 B b (Lib.byteCells l) w) (hBw : B ≤ w.heap.size) :
    Calls Try.prog 86 #[.pointer (some ⟨b, 0, none⟩)] w fun e w' => e = .returned (.string ⟨l.toArray⟩) ∧ (Lib.IsBuilderF 122 5 B b (Lib.byteCells l) w' ∧ Below B w w' ∧ Lib.OthersKept 5 (some b) w w') :=
  Any.Builder_String_any_k bLays169 bExtra B b l w h hBw
end Go.Proofs.Ytaihdjdaamglnaa
/- Contracts of the program's FormatNumber. -/
namespace Go.Proofs.Ytaihdjdaamglnaa
set_option linter.unusedVariables false
open Go.RowKit
theorem byteCells_one (x : UInt8) : Lib.byteCells [x] = [.int .u8 (x.toNat : Int)] := rfl
theorem bytes_more {T e : TypeId} {B b : Nat} {p : Value} {bs : List UInt8} {c : Int} {w : World} (h0 : 0 ≤ c) (h1 : c ≤ 255) (h : Lib.BuilderAtF T e B b p (Lib.byteCells bs ++ [.int .u8 c]) w) : Lib.BuilderAtF T e B b p (Lib.byteCells (bs ++ [UInt8.ofNat c.toNat])) w := by
  rw [Lib.byteCells_append, byteCells_one, show ((UInt8.ofNat c.toNat).toNat : Int) = c from by simp; omega]
  exact h
theorem wrap_neg (n : Int) (h : -9223372036854775808 ≤ n) (h' : n < 0) : IntKind.u64.wrap (-IntKind.u64.wrap n) = -n := by
  simp only [IntKind.wrap, IntKind.bits, IntKind.signed]; simp; omega
end Go.Proofs.Ytaihdjdaamglnaa
/- JoinWith, the model's and the program's; the program's writeText and copyText. -/
namespace Go.Proofs.Ytaihdjdaamglnaa
set_option linter.unusedVariables false
open Go.RowKit
/-- the first k texts with sep between them -/
def joinK (x : List (List UInt8)) (sep : List UInt8) : Nat → List UInt8
  | 0 => []
  | k + 1 => joinK x sep k ++ (if 0 < k then sep else []) ++ x.getD k []
def joinL (x : List (List UInt8)) (sep : List UInt8) : List UInt8 := joinK x sep x.length
theorem strEq {s : ByteArray} {l : List UInt8} (h : s.data.toList = l) : Value.string s = .string ⟨l.toArray⟩ := by subst h; simp
theorem joinK_mono (x : List (List UInt8)) (sep : List UInt8) (k m : Nat) (h : k ≤ m) : (joinK x sep k).length ≤ (joinK x sep m).length := by
  induction m with
  | zero => rw [show k = 0 from by omega]; exact Nat.le_refl _
  | succ m ih =>
    rcases Nat.lt_or_ge m k with h1 | h1
    · rw [show k = m + 1 from by omega]; exact Nat.le_refl _
    · have := ih h1; simp only [joinK, List.length_append]; omega
theorem joinK_len (x : List (List UInt8)) (sep : List UInt8) (k : Nat) (h : k ≤ x.length) : (joinK x sep k).length ≤ k * sep.length + total (x.take k) := by
  induction k with
  | zero => simp [joinK]
  | succ k ih =>
    have h1 := ih (by omega)
    have h2 := total_take_succ x k (by omega)
    have h3 : x.getD k [] = x[k] := by simp [List.getD, List.getElem?_eq_getElem (show k < x.length by omega)]
    simp only [joinK, List.length_append, h3, h2, Nat.succ_mul]
    split <;> simp <;> omega
set_option maxHeartbeats 400000 in
theorem writeText_any (B b : Nat) (bs : List UInt8) (s : ByteArray) (w : World) (hI : Lib.IsBuilderF 122 5 B b (Lib.byteCells bs) w) (hl : bs.length + s.size ≤ 140737488355328) (hB : B ≤ w.heap.size) :
    Calls Try.prog 85 #[.pointer (some ⟨b, 0, none⟩), .string s] w fun e w' => e = .returned (.tuple #[]) ∧ Lib.IsBuilderF 122 5 B b (Lib.byteCells (bs ++ s.data.toList)) w' ∧ Below B w w' ∧ Lib.OthersKept 5 (some b) w w' := by
  have HI := Lib.hid hI
  have HB := Lib.hid hB
  clear hI hB
  go_enter Try.func85, Try.ntmps85
  go_wp2_with fail
  go_loopw [4, 7] (fun _ i wr => ∃ k : Nat, k ≤ s.size ∧ i = .int .i64 k ∧ Lib.IsBuilderF 122 5 B b (Lib.byteCells (bs ++ s.data.toList.take k)) wr ∧ Below B w wr ∧ Lib.OthersKept 5 (some b) w wr) (fun _ i _ => s.size - (intOf i).toNat)
  case atStart => exact ⟨0, Nat.zero_le _, rfl, by simpa using HI.out, Below.refl _ _, Lib.OthersKept.refl _ _ _⟩
  case round =>
    obtain ⟨k, hk, rfl, hI, hb, ho⟩ := hrel
    have HI2 := Lib.hid hI
    have HB2 := Lib.hid hb
    have HO2 := Lib.hid ho
    clear hI hb ho
    by_cases hlt : k < s.size
    · have hu := (s[k]).toNat_lt
      have HN := Lib.hid (take_snoc s k hlt)
      go_wp2_with fail
      refine (writeByte_k B b (Lib.byteCells (bs ++ s.data.toList.take k)) _ wr HI2.out (by rw [Lib.byteCells_length]; simp; omega) (Nat.le_trans HB.out HB2.out.size)).mono ?_
      rintro e w1 ⟨rfl, h1, b1, o1⟩
      have H1 := Lib.hid (bytes_more (by omega) (by omega) h1)
      have B1 := Lib.hid (HB2.out.trans b1)
      have O1 := Lib.hid (HO2.out.trans o1)
      clear h1 b1 o1
      go_wp2_with fail
      refine ⟨⟨k + 1, by omega, by go_num, Or.inr ?_, B1.out, O1.out⟩, by simp [intOf]; omega⟩
      have h := H1.out
      rw [HN.out, ← List.append_assoc]
      simpa using h
    · have HN := Lib.hid (show s.data.toList.take k = s.data.toList from List.take_of_length_le (by rw [size_list]; omega))
      go_wp2_with fail
      go_end0
      exact ⟨rfl, by have h := HI2.out; rw [HN.out] at h; exact h, HB2.out, HO2.out⟩
set_option maxHeartbeats 400000 in
theorem copyText_any (s : ByteArray) (w : World) (hl : s.size ≤ 140737488355328) :
    Calls Try.prog 44 #[.string s] w fun e w' => e = .returned (.string s) ∧ Below w.heap.size w w' := by
  have hf := Lib.fresh_isBuilder 122 5 w
  have HW := Lib.hid (writeText_any w.heap.size w.heap.size [] s (w.alloc (.cells #[.pointer none, .slice none 0 0] 122)) (Lib.IsBuilderF.of hf) (by simpa using hl) (by simp))
  clear hf
  go_enter Try.func44, Try.ntmps44
  go_wp2_with fail
  refine HW.out.mono ?_
  rintro e w1 ⟨rfl, h1, b1, o1⟩
  have HS := Lib.hid (string_k w.heap.size w.heap.size ([] ++ s.data.toList) w1 h1 (by have := b1.size; simp at this; omega))
  have B1 := Lib.hid (((Below.refl w.heap.size w).alloc (Nat.le_refl _) _).trans b1)
  clear h1 b1 o1
  go_wp2_with fail
  refine HS.out.mono ?_
  rintro e w2 ⟨rfl, h2, b2, o2⟩
  go_wp2_with fail
  go_ret
  exact ⟨by simp, B1.out.trans b2⟩
end Go.Proofs.Ytaihdjdaamglnaa
/- Contracts of chapter 2: FormatFace. -/
namespace Go.Proofs.Ytaihdjdaamglnaa
set_option linter.unusedVariables false
open Go.RowKit
/-- what FormatFace writes -/
def fmtF (f : Int) : List UInt8 := if f = 0 then [110, 111, 110, 101] else joinL (namesF f) [43]
theorem total_abN (L : List Nat) : total (L.map abN) ≤ 4 * L.length := by
  induction L with
  | nil => simp [total]
  | cons a r ih => have := abN_len a; simp only [List.map_cons, total, List.length_cons]; omega
theorem names_small (L : List Nat) (h : L.length ≤ 6) : (joinL (L.map abN) [43]).length ≤ 100 := by
  have h1 := joinK_len (L.map abN) [43] (L.map abN).length (Nat.le_refl _)
  have h2 := total_abN L
  rw [List.take_length] at h1
  simp only [List.length_map, List.length_cons, List.length_nil] at h1
  unfold joinL
  rw [List.length_map]; omega
theorem fmtF_len (f : Int) : (fmtF f).length ≤ 100 := by
  unfold fmtF; split
  · simp
  · exact names_small _ (abilL_len f)
theorem getElem_intsN (L : List Nat) (j : Nat) (h : j < L.length) : (intsN L)[j]'(by rw [intsN_len]; exact h) = ((L[j] : Nat) : Int) := by simp [intsN]
theorem map_snoc (L : List Nat) (j : Nat) (h : j < L.length) : (L.take (j + 1)).map abN = (L.take j).map abN ++ [abN L[j]] := by
  rw [List.take_succ_eq_append_getElem h, List.map_append]; rfl
theorem joinL_nil (sep : List UInt8) : joinL [] sep = [] := rfl
theorem isF_zero : isF 0 = true := rfl
theorem fmtF_non {f : Int} (h : isF f = false) : fmtF f = [] := by
  unfold fmtF
  rw [if_neg (by rintro rfl; rw [isF_zero] at h; cases h)]
  unfold namesF
  rw [abilL_no h]; rfl
theorem abN_snoc {f : Int} {k : Nat} (h : hasI f k = true) : (abilK f (k + 1)).map abN = (abilK f k).map abN ++ [abN k] := by rw [abilK_succ, if_pos h, List.map_append]; rfl
end Go.Proofs.Ytaihdjdaamglnaa
/- The draws of chapter 2. -/
namespace Go.Proofs.Ytaihdjdaamglnaa
set_option linter.unusedVariables false
open Go.RowKit
def I64 (x : Int) : Prop := -9223372036854775808 ≤ x ∧ x ≤ 9223372036854775807
def GivesInts (w : World) (e : Ending) (w' : World) : Prop := ∃ x y : Int, e = .returned (.tuple #[.int .i64 x, .int .i64 y]) ∧ I64 x ∧ I64 y ∧ Below w.heap.size w w'
set_option maxHeartbeats 400000 in
theorem l2Face_any (b : Nat) (v : Value) (l : List UInt8) (w : World) (hC : Cur w b v l) :
    Calls Try.prog 99 #[.pointer (some ⟨b, 0, none⟩)] w fun e w' => DrawnInt (fun x => 0 ≤ x ∧ x ≤ 63) b v l w e w' := by
  have HC0 := Lib.hid hC
  clear hC
  go_enter Try.func99, Try.ntmps99
  go_wp2_with fail
  refine (l1Below_any b v l _ w HC0.out (by omega) (by omega)).mono ?_
  rintro e w1 ⟨x, rfl, ⟨h0, h1, h2⟩, hg, hC⟩
  have HG1 := Lib.hid (hg)
  have HC1 := Lib.hid hC
  clear hg hC
  have h3 := h2 (by omega)
  clear h2
  go_wp2_with fail
  go_ret
  exact ⟨_, rfl, ⟨by omega, by omega⟩, HG1.out, HC1.out⟩
set_option maxHeartbeats 400000 in
theorem l2Any_any (b : Nat) (v : Value) (l : List UInt8) (w : World) (hC : Cur w b v l) :
    Calls Try.prog 61 #[.pointer (some ⟨b, 0, none⟩)] w fun e w' => DrawnInt I64 b v l w e w' := by
  have HC0 := Lib.hid hC
  clear hC
  go_enter Try.func61, Try.ntmps61
  go_wp2_with fail
  refine (l1Once_any b v l _ w HC0.out (by omega) (by omega)).mono ?_
  rintro e w1 ⟨x, rfl, hg, hC⟩
  have HG1 := Lib.hid (hg)
  have HC1 := Lib.hid hC
  clear hg hC
  cases x
  · go_wp2_with fail
    refine (l2Face_any b v l w1 HC1.out).mono ?_
    rintro e w2 ⟨y, rfl, ⟨h0, h1⟩, hg, hC⟩
    have HG2 := Lib.hid (grown_trans HG1.out hg)
    have HC2 := Lib.hid hC
    clear hg hC
    go_wp2_with fail
    go_ret
    exact ⟨_, rfl, ⟨by omega, by omega⟩, HG2.out, HC2.out⟩
  · go_wp2_with fail
    refine (l1Int_any b v l _ [-1, 64, 65, 1000, 9223372036854775807, -9223372036854775808] _ (cur_alloc HC1.out _) (rowOff_new w1 b HC1.out.lt _ _ _ _ rfl rfl (by decide) (by decide) _)).mono ?_
    rintro e w2 ⟨x, rfl, hx, hg1, hC1⟩
    have HG2 := Lib.hid (grown_trans (grown_alloc HG1.out _) hg1)
    have HC2 := Lib.hid hC1
    have HX := Lib.hid hx
    clear hg1 hC1 hx
    go_wp2_with fail
    go_ret
    refine ⟨_, rfl, ?_, HG2.out, HC2.out⟩
    have hx := HX.out
    simp only [List.mem_cons, List.not_mem_nil, or_false] at hx
    unfold I64
    omega
set_option maxHeartbeats 400000 in
theorem drawCountFace_any (v : Value) (l : List UInt8) (w : World) (hR : RowAt w v (Lib.byteCells l)) :
    Calls Try.prog 27 #[v] w fun e w' => GivesInt I64 w e w' := by
  have HR := Lib.hid hR
  clear hR
  go_enter Try.func27, Try.ntmps27
  go_wp2_with fail
  refine (l1New_any v l w HR.out).mono ?_
  rintro e w1 ⟨b, rfl, hb, hB, hC⟩
  have HB1 := Lib.hid hB
  have HC1 := Lib.hid hC
  clear hB hC
  go_wp2_with fail
  refine (l2Any_any b v l w1 HC1.out).mono ?_
  rintro e w2 ⟨x, rfl, hx, hg, hC⟩
  have HB2 := Lib.hid (below_grown HB1.out hg hb HB1.out.size)
  have HC2 := Lib.hid hC
  clear hg hC
  go_wp2_with fail
  go_ret
  exact ⟨_, rfl, hx, HB2.out⟩
theorem size_appB (a b : ByteArray) : (a ++ b).size = a.size + b.size := ByteArray.size_append
end Go.Proofs.Ytaihdjdaamglnaa
/- One-valued assertions to interface types: where the methods are there, and where one is missing (a panic). -/
namespace Go.Proofs.Ytaihdjdaamglnaa
set_option linter.unusedVariables false
open Go.RowKit
section
variable {P : Program} {t xT asserted E : TypeId} {want : Array (String × TypeId)}
theorem ta_has (hu : P.underlying asserted = some (.interface want)) (h : (P.info? t).map (fun i => (lacking want i.methods).isEmpty) = some true)
    (v : Value) (xT : TypeId) (w : World) : (Instr.typeAssert (.iface t v) xT asserted false).run P w = .ok (.iface t v) w := by
  obtain ⟨i, hi, hl⟩ := Option.map_eq_some_iff.1 h
  simp [Instr.typeAssert, run_underlying hu, typeInfo, hi, missingMethod_none (List.isEmpty_iff.1 hl)]
theorem ta_lacks (hu : P.underlying asserted = some (.interface want)) (h : (P.info? t).map (fun i => (lacking want i.methods).isEmpty) = some false) (hE : P.underlying P.rt.typeAssertionError = some (.pointer E)) :
    ∃ c : Array Value, ∀ (v : Value) (xT : TypeId) (w : World), (Instr.typeAssert (.iface t v) xT asserted false).run P w = .halt (.panic (.iface P.rt.typeAssertionError (.pointer (some ⟨w.heap.size, 0, none⟩)))) (w.alloc (.cells c E)) := by
  obtain ⟨i, hi, hl⟩ := Option.map_eq_some_iff.1 h
  obtain ⟨m, hm⟩ := missingMethod_some (want := want) (got := i.methods) (fun e => by rw [e] at hl; cases hl)
  refine ⟨#[.pointer none, typeHandle P t, typeHandle P asserted, strVal m], fun v xT w => ?_⟩
  simp [Instr.typeAssert, run_underlying hu, typeInfo, hi, hm, runtimePanic, elemOf, run_underlying hE, newVar, newRow, Value.cells, goPanic]

end
theorem cell_set_at {w : World} {b o : Nat} {u : Value} (hb : (w.cell? ⟨b, o, none⟩).isSome = true) : (w.setCell ⟨b, o, none⟩ u).cell? ⟨b, o, none⟩ = some u := by
  obtain ⟨x, hx⟩ := Option.isSome_iff_exists.1 hb
  exact World.cell?_setCell_same w _ _ hx
theorem cell_set_ne {w : World} {b i j : Nat} {u : Value} (h : i ≠ j) : (w.setCell ⟨b, i, none⟩ u).cell? ⟨b, j, none⟩ = w.cell? ⟨b, j, none⟩ := World.cell?_setCell_other (a := ⟨b, i, none⟩) (b := ⟨b, j, none⟩) (h := fun e => h (by injection e)) ..
theorem rtE : ∃ E, Try.prog.underlying Try.prog.rt.typeAssertionError = some (.pointer E) := ⟨210, by kernel_rfl⟩
def Has (I T : TypeId) : Prop := ∀ (v : Value) (xT : TypeId) (w : World), (Instr.typeAssert (.iface T v) xT I false).run Try.prog w = .ok (.iface T v) w
def Fails (I T : TypeId) : Prop := ∃ (c : Array Value) (E : TypeId), ∀ (v : Value) (xT : TypeId) (w : World), (Instr.typeAssert (.iface T v) xT I false).run Try.prog w = .halt (.panic (.iface Try.prog.rt.typeAssertionError (.pointer (some ⟨w.heap.size, 0, none⟩)))) (w.alloc (.cells c E))
theorem fails_of {I T : TypeId} {want : Array (String × TypeId)} (hu : Try.prog.underlying I = some (.interface want)) (h : (Try.prog.info? T).map (fun i => (lacking want i.methods).isEmpty) = some false) : Fails I T := by
  obtain ⟨E, hE⟩ := rtE
  obtain ⟨c, hc⟩ := ta_lacks (t := T) hu h hE
  exact ⟨c, E, hc⟩
def Panics (w : World) (e : Ending) (w' : World) : Prop := ∃ pv, e = .panicked [{ v := .iface Try.prog.rt.typeAssertionError pv, recovered := false }] ∧ Below w.heap.size w w'
end Go.Proofs.Ytaihdjdaamglnaa
/- Slices of structs whose fields are numbers, bools and texts: how they read, and rows of one's own of them. -/
namespace Go.Proofs.Ytaihdjdaamglnaa
set_option linter.unusedVariables false
open Go.RowKit
/-- a slice value reads, in world w, as n elements of k cells each, whose cells are cs -/
def RowsAt (w : World) (v : Value) (k n : Nat) (cs : List Value) : Prop :=
  ∃ a c, v = .slice a n (n + c) ∧ cs.length = n * k ∧ n ≤ maxLen ∧ (n = 0 ∨ ∃ b o, a = some ⟨b, o, none⟩ ∧ b < w.heap.size ∧ ∀ i, i < n * k → w.cell? ⟨b, o + i, none⟩ = cs[i]?)
theorem RowsAt.below {w w' : World} {v : Value} {k n : Nat} {xs : List Value} {B : Nat} (h : RowsAt w v k n xs) (hb : Below B w w') (hB : w.heap.size ≤ B) : RowsAt w' v k n xs := by
  obtain ⟨a, c, rfl, hl, hm, h⟩ := h
  refine ⟨a, c, rfl, hl, hm, h.imp id ?_⟩
  rintro ⟨b, o, rfl, hlt, hc⟩
  exact ⟨b, o, rfl, Nat.lt_of_lt_of_le hlt hb.size, fun i hi => by rw [hb.cell (p := ⟨b, o + i, none⟩) (Nat.lt_of_lt_of_le hlt hB)]; exact hc i hi⟩
theorem rowsAt_drewN {w : World} {v : Value} {k n : Nat} {xs : List Value} (h : RowsAt w v k n xs) (m : Nat) : RowsAt (w.drewN m) v k n xs := h
theorem flat_len {α : Type} (f : α → List Value) (k : Nat) (hk : ∀ x, (f x).length = k) (l : List α) : (l.flatMap f).length = l.length * k := by
  induction l with
  | nil => simp
  | cons d r ih => rw [List.flatMap_cons, List.length_append, ih, hk, List.length_cons, Nat.succ_mul, Nat.add_comm]
theorem flat_get {α : Type} (f : α → List Value) (k : Nat) (hk : ∀ x, (f x).length = k) (l : List α) (i : Nat) (h : i < l.length) (j : Nat) (hj : j < k) : (l.flatMap f)[i * k + j]? = (f l[i])[j]? := by
  induction l generalizing i with
  | nil => simp at h
  | cons d r ih =>
    rw [List.flatMap_cons]
    cases i with
    | zero => rw [Nat.zero_mul, Nat.zero_add, List.getElem?_append_left (by rw [hk]; exact hj)]; rfl
    | succ i =>
      have h2 := ih i (by simpa using h)
      rw [List.getElem?_append_right (by rw [hk, Nat.succ_mul]; omega), hk, show (i + 1) * k + j - k = i * k + j by rw [Nat.succ_mul]; omega]
      exact h2
/-- the slice v reads as the elements l -/
def FlatAt {α : Type} (f : α → List Value) (k : Nat) (w : World) (v : Value) (l : List α) : Prop := RowsAt w v k l.length (l.flatMap f)
theorem FlatAt.below {α : Type} {f : α → List Value} {k : Nat} {w w' : World} {v : Value} {l : List α} {B : Nat} (h : FlatAt f k w v l) (hb : Below B w w') (hB : w.heap.size ≤ B) : FlatAt f k w' v l := RowsAt.below h hb hB
theorem flatAt_len {α : Type} {f : α → List Value} {k : Nat} {w : World} {v : Value} {l : List α} (h : FlatAt f k w v l) : ∃ a c, v = .slice a l.length c ∧ l.length ≤ maxLen := by
  obtain ⟨a, c, rfl, _, hm, _⟩ := h; exact ⟨a, _, rfl, hm⟩
theorem flatAt_cap {α : Type} {f : α → List Value} {k : Nat} {w : World} {v : Value} {l : List α} (h : FlatAt f k w v l) : ∃ a c, v = .slice a l.length c ∧ l.length ≤ maxLen ∧ l.length ≤ c := by
  obtain ⟨a, c, rfl, _, hm, _⟩ := h; exact ⟨a, _, rfl, hm, by omega⟩
theorem flatAt_cell {α : Type} {f : α → List Value} {k : Nat} (hk : ∀ x, (f x).length = k) {w : World} {a : Option Addr} {n c : Nat} {l : List α} (h : FlatAt f k w (.slice a n c) l) (i : Nat) (hi : i < l.length) (h0 : 0 < k) :
    ∃ b o, a = some ⟨b, o, none⟩ ∧ b < w.heap.size ∧ ∀ j, j < k → w.cell? ⟨b, o + i * k + j, none⟩ = (f l[i])[j]? := by
  obtain ⟨a', c', e, hl, hm, h⟩ := h
  injection e with e1 e2 e3
  subst e1
  rcases h with h | ⟨b, o, rfl, hlt, hc⟩
  · omega
  · refine ⟨b, o, rfl, hlt, fun j hj => ?_⟩
    rw [Nat.add_assoc, hc (i * k + j) ?_, flat_get f k hk l i hi j hj]
    have h1 : (i + 1) * k ≤ l.length * k := Nat.mul_le_mul_right k hi
    rw [Nat.succ_mul] at h1; omega
/-- a row of the call's own, of such elements -/
def OwnsF {α : Type} (f : α → List Value) (E k : Nat) (w : World) (B : Nat) (v : Value) (l : List α) : Prop := w.ownsRow B E k v l.length (l.flatMap f)
theorem ownsF_at {α : Type} {f : α → List Value} {E k : Nat} {w : World} {B : Nat} {v : Value} {l : List α} (h : OwnsF f E k w B v l) (hm : l.length ≤ 4194304) : FlatAt f k w v l := by
  have hl := h.1
  rcases h.2 with ⟨rfl, hn⟩ | ⟨g, cap, cur, rfl, hb, hg, hn, hc, hs, ht⟩
  · exact ⟨none, 0, by rw [hn], hl, by unfold maxLen; omega, Or.inl hn⟩
  · refine ⟨_, _, cap_eq _ hn, hl, by unfold maxLen; omega, Or.inr ⟨g, 0, rfl, (Array.getElem?_eq_some_iff.1 hg).1, fun i hi => ?_⟩⟩
    rw [Nat.zero_add]
    exact World.ownsRow.cellAt h i hi
theorem ownsF_new {α : Type} (f : α → List Value) (E k : Nat) (w : World) : OwnsF f E k (w.alloc (.cells #[] E)) w.heap.size (.slice (some ⟨w.heap.size, 0, none⟩) 0 0) [] :=
  World.ownsRow_made w #[] 0 (Nat.le_refl _) (Nat.zero_le _) (by simp)
theorem ownsF_alloc {α : Type} {f : α → List Value} {E k : Nat} {w : World} {B : Nat} {v : Value} {l : List α} (h : OwnsF f E k w B v l) (o : Obj) : OwnsF f E k (w.alloc o) B v l := World.ownsRow.alloc h o
theorem ownsF_below {α : Type} {f : α → List Value} {E k : Nat} {w w' : World} {B B' : Nat} {v : Value} {l : List α} (h : OwnsF f E k w B v l) (hb : Below B' w w') (hB : w.heap.size ≤ B') : OwnsF f E k w' B v l := ownsRow_below h hb hB
theorem below_appendF {α : Type} {f : α → List Value} {E k : Nat} {a w w' : World} {B : Nat} {v : Value} {l : List α} (hb : Below B a w) (hO : OwnsF f E k w B v l) (hg : w.grownBy w' v.ownBlock) (hB : B ≤ w.heap.size) : Below B a w' :=
  hb.grown hg hB (fun j hj => (World.ownsRow.lt hO j hj).1)
/-- a new row of such elements -/
def GivesF {α : Type} (f : α → List Value) (E k : Nat) (l : List α) (w : World) (e : Ending) (w' : World) : Prop := ∃ v, e = .returned v ∧ OwnsF f E k w' w.heap.size v l ∧ Below w.heap.size w w'
/-- append of one element, which lies in a block of its own, to a row of one's own -/
theorem append_flat {α : Type} {f : α → List Value} {E S k bytes : Nat} {z : Value} (hk : ∀ x, (f x).length = k) (h1 : ∀ x, ∀ u ∈ f x, u.oneCell' = true) (hinfo : (Try.prog.info? E).map (fun i => (i.zero, i.size, i.bytes)) = some (some z, k, bytes))
    (hz : z.cells.size = k) (hk0 : 0 < k) (hbytes : bytes ≤ 1024) (hS : Try.prog.underlying S = some (.slice E))
    {ops : Array Oper} {rest : List Oper} {o : Oper} {a : Act} {Q : Exit → Act → World → Prop} (hgd : o.guard = none) (s x : Operand)
    (ho : o.op = .call { callee := .builtin .append, args := #[s, x], argTypes := #[S, S] }) (B : Nat) (v : Value) (l : List α) (y : α) (w : World) (blk : Nat)
    (hs : a.eval s = v) (hO : OwnsF f E k w B v l) (hx : a.eval x = .slice (some ⟨blk, 0, none⟩) 1 1) (hc : ∀ j, j < k → w.cell? ⟨blk, j, none⟩ = (f y)[j]?) (hl : l.length ≤ 4194304) (hB : B ≤ w.heap.size)
    (h : ∀ v' w', OwnsF f E k w' B v' (l ++ [y]) → w.grownBy w' v.ownBlock → wpList Try.prog ops Q rest (a.put o.dst v') w') : wpList Try.prog ops Q (o :: rest) a w := by
  obtain ⟨i0, hi, hz0, hz1, hz2⟩ := info_parts hinfo
  refine wpList_append_own _ hgd s x S ho B E i0 z k bytes hS hi hz0 hz1 hz2 hz hk0 v l.length (l.flatMap f) hs hO ⟨blk, 0, none⟩ 1 1 (f y) hx (by rw [hk, Nat.one_mul]) ?_ ?_ (by unfold maxLen; omega) ?_ hB ?_
  · intro j u hj
    have hj2 : j < k := by have := (List.getElem?_eq_some_iff.1 hj).1; rwa [hk] at this
    rw [Addr.add_lit, Nat.zero_add, hc j hj2]; exact hj
  · exact h1 y
  · have : (l.length + 1) * bytes ≤ 4194305 * 1024 := Nat.mul_le_mul (by omega) hbytes
    omega
  · intro v' w' h2 h3 _
    refine h v' w' ?_ h3
    unfold OwnsF; rw [List.flatMap_append, List.length_append]; simpa using h2
theorem take_set_get {α : Type} (xs ys : List α) (m : Nat) (u : α) (hm : m < xs.length) (hy : ys[m]? = some u) (ht : xs.take m = ys.take m) : (xs.set m u).take (m + 1) = ys.take (m + 1) := by
  obtain ⟨h, rfl⟩ := List.getElem?_eq_some_iff.1 hy
  exact take_set_succ xs ys m hm h ht
/-- what a measure of sizes answers: -1, or what is left -/
def SzF (n : Int) (left : Int) (w : World) (e : Ending) (w' : World) : Prop := ∃ r : Int, e = .returned (.int .i64 r) ∧ -1 ≤ r ∧ (0 ≤ r → n + r = left) ∧ Below w.heap.size w w'
def sumF {α : Type} (sz : α → Nat) : List α → Nat
  | [] => 0
  | x :: r => sz x + sumF sz r
theorem sumF_take_succ {α : Type} (sz : α → Nat) (x : List α) (k : Nat) (h : k < x.length) : sumF sz (x.take (k + 1)) = sumF sz (x.take k) + sz (x[k]) := by
  induction x generalizing k with
  | nil => simp at h
  | cons a r ih =>
    cases k with
    | zero => simp [sumF]
    | succ k =>
      have := ih k (by simpa using h)
      simp only [List.take_succ_cons, sumF, List.getElem_cons_succ, this]; omega
theorem sumF_mem {α : Type} (sz : α → Nat) (x : List α) (a : α) (h : a ∈ x) : sz a ≤ sumF sz x := by
  induction x with
  | nil => simp at h
  | cons b r ih =>
    rcases List.mem_cons.1 h with h | h
    · subst h; simp only [sumF]; omega
    · have := ih h; simp only [sumF]; omega
/-- rows of elements of two types are not the same -/
theorem rows_apart {w : World} {B B' : Nat} {e e' : TypeId} {k k' n m : Nat} {v u : Value} {xs ys : List Value} (h : w.ownsRow B e k v n xs) (h' : w.ownsRow B' e' k' u m ys) (hne : e ≠ e') : v.ownBlock = none ∨ v.ownBlock ≠ u.ownBlock := by
  rcases h.2 with ⟨rfl, _⟩ | ⟨g, cap, cur, rfl, _, hg, _⟩
  · exact Or.inl rfl
  · right
    rcases h'.2 with ⟨rfl, _⟩ | ⟨g2, cap2, cur2, rfl, _, hg2, _⟩
    · simp [Value.ownBlock]
    · intro e
      simp [Value.ownBlock] at e
      subst e
      rw [hg] at hg2
      injection hg2 with hg2
      injection hg2 with _ h2 _
      exact hne h2
/-- a row of texts of one's own is as it was, where a row of other elements has grown -/
theorem owns_keptF {α : Type} {f : α → List Value} {E k : Nat} {w w' : World} {B B' : Nat} {v u : Value} {xs : List (List UInt8)} {l : List α} (h : Owns w B v xs) (h' : OwnsF f E k w B' u l) (hg : w.grownBy w' u.ownBlock) (hne : 9 ≠ E) : Owns w' B v xs :=
  World.ownsRow.kept h hg (rows_apart h h' hne)
theorem ownsF_keptF {α β : Type} {f : α → List Value} {f' : β → List Value} {E E' k k' : Nat} {w w' : World} {B B' : Nat} {v u : Value} {l : List α} {l' : List β} (h : OwnsF f E k w B v l) (h' : OwnsF f' E' k' w B' u l') (hg : w.grownBy w' u.ownBlock) (hne : E ≠ E') : OwnsF f E k w' B v l :=
  World.ownsRow.kept h hg (rows_apart h h' hne)
theorem ownsF_keptS {α : Type} {f : α → List Value} {E k : Nat} {w w' : World} {B B' : Nat} {v u : Value} {l : List α} {xs : List (List UInt8)} (h : OwnsF f E k w B v l) (h' : Owns w B' u xs) (hg : w.grownBy w' u.ownBlock) (hne : E ≠ 9) : OwnsF f E k w' B v l :=
  World.ownsRow.kept h hg (rows_apart h h' hne)
theorem ownsF_base {α : Type} {f : α → List Value} {E k : Nat} {w : World} {B B' : Nat} {v : Value} {l : List α} (h : OwnsF f E k w B v l) (hB : B' ≤ B) : OwnsF f E k w B' v l := by
  refine ⟨h.1, h.2.imp id ?_⟩
  rintro ⟨g, cap, cur, h1, h2, h3⟩
  exact ⟨g, cap, cur, h1, Nat.le_trans hB h2, h3⟩
theorem ownsF_set {α : Type} {f : α → List Value} {E k : Nat} {w : World} {B : Nat} {v : Value} {l : List α} {p : Addr} {u : Value} (h : OwnsF f E k w B v l) (hp : p.block < B) : OwnsF f E k (w.setCell p u) B v l := by
  refine World.ownsRow.kept h (row := some p.block) ⟨rfl, rfl, rfl, by simp, fun i hi hne => Below.heap_setCell w p u i (fun e => hne (by rw [e]))⟩ ?_
  cases hv : v.ownBlock with
  | none => exact Or.inl rfl
  | some g => right; intro e; have h1 := (World.ownsRow.lt h g hv).1; injection e with e; omega
end Go.Proofs.Ytaihdjdaamglnaa
/- Version: what the laws' own helpers do with it. Written by gen/flat.py. -/
namespace Go.Proofs.Ytaihdjdaamglnaa
set_option linter.unusedVariables false
open Go.RowKit
structure VersionD where
  fMajor : Int
  fMinor : Int
deriving DecidableEq
def okVersion (d : VersionD) : Prop := (-9223372036854775808 ≤ d.fMajor ∧ d.fMajor ≤ 9223372036854775807) ∧ (-9223372036854775808 ≤ d.fMinor ∧ d.fMinor ≤ 9223372036854775807)
def vVersion (d : VersionD) : Value := .agg #[.int .i64 d.fMajor, .int .i64 d.fMinor]
def cVersion (d : VersionD) : List Value := [.int .i64 d.fMajor, .int .i64 d.fMinor]
theorem cVersion_len (d : VersionD) : (cVersion d).length = 2 := rfl
theorem cVersion_one (d : VersionD) : ∀ u ∈ cVersion d, u.oneCell' = true := by intro u hu; simp only [cVersion, List.mem_cons, List.not_mem_nil, or_false] at hu; rcases hu with rfl | rfl <;> rfl
def zVersion (d : VersionD) : Nat := 0
theorem infoVersion : (Try.prog.info? 56).map (fun i => (i.zero, i.size, i.bytes)) = some (some (.agg #[.int .i64 0, .int .i64 0]), 2, 16) := by kernel_rfl
def marksVersion (k : Int) (n : Nat) : List VersionD := (List.range n).map fun i : Nat => ⟨k + i * 2, k + i * 2 + 1⟩
theorem marksVersion_len (k : Int) (n : Nat) : (marksVersion k n).length = n := by simp [marksVersion]
theorem marksVersion_get (k : Int) (n i : Nat) (h : i < n) : (marksVersion k n)[i]'(by rw [marksVersion_len]; exact h) = ⟨k + i * 2, k + i * 2 + 1⟩ := by simp [marksVersion]
end Go.Proofs.Ytaihdjdaamglnaa
/- Versions as numbers: the plain side. -/
namespace Go.Proofs.Ytaihdjdaamglnaa
set_option linter.unusedVariables false
open Go.RowKit
instance : Inhabited VersionD := ⟨⟨0, 0⟩⟩
def vnB (n : Int) : Bool := decide (0 ≤ n ∧ n ≤ 99)
def verB (d : VersionD) : Bool := vnB d.fMajor && vnB d.fMinor
/-- -1, 0 or 1: Major first, then Minor -/
def cmpV (a b : VersionD) : Int := if a.fMajor = b.fMajor then Lib.compareInt a.fMinor b.fMinor else Lib.compareInt a.fMajor b.fMajor
def meetsB (a b : VersionD) : Bool := decide (a.fMajor = b.fMajor) && decide (b.fMinor ≤ a.fMinor)
def fmtVer (d : VersionD) : List UInt8 := if verB d = true then numL d.fMajor ++ 46 :: numL d.fMinor else []
def sinceN : Nat → VersionD
  | 0 => ⟨1, 0⟩
  | 1 => ⟨1, 0⟩
  | 2 => ⟨1, 1⟩
  | 3 => ⟨1, 2⟩
  | 4 => ⟨2, 0⟩
  | 5 => ⟨2, 1⟩
  | _ => ⟨0, 0⟩
def sinceI (k : Int) : VersionD := if k < 0 then ⟨0, 0⟩ else sinceN k.toNat
def abB (k : Int) : Bool := decide (0 ≤ k ∧ k < 6)
def sinV (k : Int) : Value := .tuple #[vVersion (sinceI k), .bool (abB k)]
def allowP (v : VersionD) (k : Nat) : Bool := decide (cmpV (sinceN k) v ≤ 0)
def allowF (v : VersionD) : Int := if verB v = true then madeK (allowP v) 6 else 0
/-- the least version that allows the abilities of f below k -/
def leastK (f : Int) : Nat → VersionD
  | 0 => ⟨0, 0⟩
  | k + 1 => if hasI f k = true then sinceN k else leastK f k
def leastV (f : Int) : VersionD := if isF f = true then leastK f 6 else ⟨0, 0⟩
theorem sinceI_out {k : Int} (h : k < 0 ∨ 6 ≤ k) : sinceI k = ⟨0, 0⟩ ∧ abB k = false := by
  refine ⟨?_, decide_eq_false (by omega)⟩
  unfold sinceI
  split
  · rfl
  · obtain ⟨m, hm⟩ : ∃ m, k.toNat = m + 6 := ⟨k.toNat - 6, by omega⟩
    rw [hm]; rfl
theorem sinceI_nat (k : Nat) : sinceI (k : Int) = sinceN k := by unfold sinceI; rw [if_neg (by omega)]; simp
theorem cmpI_self (a : Int) : Lib.compareInt a a = 0 := by unfold Lib.compareInt; rw [if_neg (by omega), if_neg (by omega)]
theorem cmpI_cases (a b : Int) : (a < b ∧ Lib.compareInt a b = -1) ∨ (a = b ∧ Lib.compareInt a b = 0) ∨ (b < a ∧ Lib.compareInt a b = 1) := by
  unfold Lib.compareInt
  rcases Int.lt_trichotomy a b with h | h | h
  · exact Or.inl ⟨h, if_pos h⟩
  · exact Or.inr (Or.inl ⟨h, by rw [if_neg (by omega), if_neg (by omega)]⟩)
  · exact Or.inr (Or.inr ⟨h, by rw [if_neg (by omega), if_pos (by omega)]⟩)
/-- what the order says, in numbers -/
theorem cmpV_cases (a b : VersionD) : ((a.fMajor < b.fMajor ∨ a.fMajor = b.fMajor ∧ a.fMinor < b.fMinor) ∧ cmpV a b = -1) ∨ (a = b ∧ cmpV a b = 0) ∨ ((b.fMajor < a.fMajor ∨ a.fMajor = b.fMajor ∧ b.fMinor < a.fMinor) ∧ cmpV a b = 1) := by
  obtain ⟨a0, a1⟩ := a
  obtain ⟨b0, b1⟩ := b
  unfold cmpV
  simp only
  by_cases h : a0 = b0
  · subst h
    rw [if_pos rfl]
    rcases cmpI_cases a1 b1 with ⟨h1, h2⟩ | ⟨h1, h2⟩ | ⟨h1, h2⟩
    · exact Or.inl ⟨Or.inr ⟨rfl, h1⟩, h2⟩
    · exact Or.inr (Or.inl ⟨by rw [h1], h2⟩)
    · exact Or.inr (Or.inr ⟨Or.inr ⟨rfl, h1⟩, h2⟩)
  · rw [if_neg h]
    rcases cmpI_cases a0 b0 with ⟨h1, h2⟩ | ⟨h1, h2⟩ | ⟨h1, h2⟩
    · exact Or.inl ⟨Or.inl h1, h2⟩
    · exact absurd h1 h
    · exact Or.inr (Or.inr ⟨Or.inl h1, h2⟩)
theorem meetsB_cmp (a b : VersionD) : meetsB a b = (decide (a.fMajor = b.fMajor) && decide (0 ≤ cmpV a b)) := by
  unfold meetsB
  rcases cmpV_cases a b with ⟨h, e⟩ | ⟨h, e⟩ | ⟨h, e⟩ <;> rw [e, Bool.eq_iff_iff] <;> simp only [Bool.and_eq_true, decide_eq_true_eq]
  · omega
  · subst h; simp
  · omega
end Go.Proofs.Ytaihdjdaamglnaa
/- Contracts of chapter 5: IsVersion, CompareVersions, Meets, the program's and the model's. -/
namespace Go.Proofs.Ytaihdjdaamglnaa
set_option linter.unusedVariables false
open Go.RowKit
theorem box1 (w : World) (o) : Below w.heap.size w (w.alloc o) := (Below.refl _ _).alloc (Nat.le_refl _) o
theorem box2 (w : World) (o p) : Below w.heap.size w ((w.alloc o).alloc p) := ((Below.refl _ _).alloc (Nat.le_refl _) o).alloc (by simp) p
set_option maxHeartbeats 400000 in
theorem vn_any (n : Int) (w : World) :
    Calls Try.prog 106 #[.int .i64 n] w fun e w' => e = .returned (.bool (vnB n)) ∧ w = w' := by
  by_cases h0 : n < 0
  · go_enter Try.func106, Try.ntmps106
    go_wp2
    go_ret
    exact ⟨ret_bool (by simp [vnB]; omega), rfl⟩
  · go_enter Try.func106, Try.ntmps106
    go_wp2
    go_ret
    exact ⟨ret_bool (by simp [vnB]; omega), rfl⟩
theorem vn_b (n : Int) (x : Bool) (h : vnB n = x) (w : World) :
    Calls Try.prog 106 #[.int .i64 n] w fun e w' => e = .returned (.bool x) ∧ w = w' := by subst h; exact vn_any n w
set_option maxHeartbeats 800000 in
theorem implIsVer_any (d : VersionD) (w : World) :
    Calls Try.prog 62 #[vVersion d] w fun e w' => e = .returned (.bool (verB d)) ∧ Below w.heap.size w w' := by
  obtain ⟨a, b⟩ := d
  unfold vVersion verB
  simp only
  have HA := Lib.hid (vn_b a)
  have HB := Lib.hid (vn_b b)
  generalize vnB a = x at *
  generalize vnB b = y at *
  have HA := Lib.hid (HA.out x rfl)
  have HB := Lib.hid (HB.out y rfl)
  cases x <;> cases y
  all_goals
    go_enter Try.func62, Try.ntmps62
    go_wp2_with (first | (go_at_call 106; (with_reducible refine (HA.out _).mono ?_); rintro e w' ⟨rfl, rfl⟩) | (go_at_call 106; (with_reducible refine (HB.out _).mono ?_); rintro e w' ⟨rfl, rfl⟩))
    go_ret
    exact ⟨rfl, box1 _ _⟩
theorem implIsVer_b (d : VersionD) (x : Bool) (h : verB d = x) (w : World) :
    Calls Try.prog 62 #[vVersion d] w fun e w' => e = .returned (.bool x) ∧ Below w.heap.size w w' := by subst h; exact implIsVer_any d w
set_option maxHeartbeats 1600000 in
theorem specIsVer_any (d : VersionD) (w : World) :
    Calls Try.prog 101 #[vVersion d] w fun e w' => e = .returned (.bool (verB d)) ∧ Below w.heap.size w w' := by
  obtain ⟨a, b⟩ := d
  unfold vVersion verB
  simp only
  have HR := Lib.hid (show (vnB a && vnB b) = (decide (0 ≤ a) && decide (a ≤ 99) && (decide (0 ≤ b) && decide (b ≤ 99))) by unfold vnB; simp)
  rcases (show a < 0 ∨ 99 < a ∨ (0 ≤ a ∧ a ≤ 99) by omega) with h | h | ⟨h, h1⟩
  · rw [show decide (0 ≤ a) = false from decide_eq_false (by omega)] at HR
    go_enter Try.func101, Try.ntmps101
    go_wp2
    go_ret
    exact ⟨ret_bool (by rw [HR.out]; rfl), box1 _ _⟩
  · rw [show decide (0 ≤ a) = true from decide_eq_true (by omega), show decide (a ≤ 99) = false from decide_eq_false (by omega)] at HR
    have h0 : 0 ≤ a := by omega
    go_enter Try.func101, Try.ntmps101
    go_wp2
    go_ret
    exact ⟨ret_bool (by rw [HR.out]; rfl), box1 _ _⟩
  · rw [decide_eq_true h, decide_eq_true h1] at HR
    rcases (show b < 0 ∨ 99 < b ∨ (0 ≤ b ∧ b ≤ 99) by omega) with h2 | h2 | ⟨h2, h3⟩
    · rw [show decide (0 ≤ b) = false from decide_eq_false (by omega)] at HR
      go_enter Try.func101, Try.ntmps101
      go_wp2
      go_ret
      exact ⟨ret_bool (by rw [HR.out]; rfl), box1 _ _⟩
    · rw [show decide (0 ≤ b) = true from decide_eq_true (by omega), show decide (b ≤ 99) = false from decide_eq_false (by omega)] at HR
      have h4 : 0 ≤ b := by omega
      have h5 : decide (b ≤ 99) = false := decide_eq_false (by omega)
      go_enter Try.func101, Try.ntmps101
      go_wp2
      go_ret
      exact ⟨ret_bool (by rw [HR.out]; first | rfl | (rw [h5]; rfl)), box1 _ _⟩
    · rw [decide_eq_true h2, decide_eq_true h3] at HR
      go_enter Try.func101, Try.ntmps101
      go_wp2
      go_ret
      exact ⟨ret_bool (by rw [HR.out]; rfl), box1 _ _⟩
theorem specIsVer_b (d : VersionD) (x : Bool) (h : verB d = x) (w : World) :
    Calls Try.prog 101 #[vVersion d] w fun e w' => e = .returned (.bool x) ∧ Below w.heap.size w w' := by subst h; exact specIsVer_any d w
set_option maxHeartbeats 400000 in
theorem isNaN_any (x : Int) (w : World) : Calls Try.prog 104 #[.int .i64 x] w fun e w' => e = .returned (.bool false) ∧ w = w' := by
  go_enter Try.func104, Try.ntmps104
  go_wp2
  go_ret
  exact ⟨ret_bool (by simp), rfl⟩
set_option maxHeartbeats 1600000 in
theorem compare_any (x y : Int) (w : World) : Calls Try.prog 60 #[.int .i64 x, .int .i64 y] w fun e w' => e = .returned (.int .i64 (Lib.compareInt x y)) ∧ w = w' := by
  have HX := Lib.hid (isNaN_any x)
  have HY := Lib.hid (isNaN_any y)
  rcases cmpI_cases x y with ⟨h1, h2⟩ | ⟨h1, h2⟩ | ⟨h1, h2⟩
  all_goals
    have HR := Lib.hid h2
    clear h2
    try subst h1
    go_enter Try.func60, Try.ntmps60
    go_wp2_with (first | (go_at_call 104; (with_reducible refine (HX.out _).mono ?_); rintro e w' ⟨rfl, rfl⟩) | (go_at_call 104; (with_reducible refine (HY.out _).mono ?_); rintro e w' ⟨rfl, rfl⟩))
    go_ret
    exact ⟨ret_int HR.out.symm, rfl⟩
theorem compare_b (x y r : Int) (h : Lib.compareInt x y = r) (w : World) : Calls Try.prog 60 #[.int .i64 x, .int .i64 y] w fun e w' => e = .returned (.int .i64 r) ∧ w = w' := by subst h; exact compare_any x y w
set_option maxHeartbeats 1600000 in
theorem implCmp_any (x y : VersionD) (w : World) :
    Calls Try.prog 26 #[vVersion x, vVersion y] w fun e w' => e = .returned (.int .i64 (cmpV x y)) ∧ Below w.heap.size w w' := by
  obtain ⟨a0, a1⟩ := x
  obtain ⟨b0, b1⟩ := y
  unfold vVersion cmpV
  simp only
  rcases cmpI_cases a0 b0 with ⟨h1, h2⟩ | ⟨h1, h2⟩ | ⟨h1, h2⟩
  · have HM := Lib.hid (compare_b a0 b0 _ h2)
    rw [if_neg (by omega), h2]
    clear h1 h2
    go_enter Try.func26, Try.ntmps26
    go_wp2_with (first | (go_at_call 60; (with_reducible refine (HM.out _).mono ?_); rintro e w' ⟨rfl, rfl⟩))
    go_ret
    exact ⟨rfl, box2 _ _ _⟩
  · have HM := Lib.hid (compare_b a0 b0 _ h2)
    have HN := Lib.hid (compare_b a1 b1 _ rfl)
    rw [if_pos h1]
    clear h1 h2
    generalize Lib.compareInt a1 b1 = r at *
    go_enter Try.func26, Try.ntmps26
    go_wp2_with (first | (go_at_call 60; (with_reducible refine (HM.out _).mono ?_); rintro e w' ⟨rfl, rfl⟩) | (go_at_call 60; (with_reducible refine (HN.out _).mono ?_); rintro e w' ⟨rfl, rfl⟩))
    go_ret
    exact ⟨rfl, box2 _ _ _⟩
  · have HM := Lib.hid (compare_b a0 b0 _ h2)
    rw [if_neg (by omega), h2]
    clear h1 h2
    go_enter Try.func26, Try.ntmps26
    go_wp2_with (first | (go_at_call 60; (with_reducible refine (HM.out _).mono ?_); rintro e w' ⟨rfl, rfl⟩))
    go_ret
    exact ⟨rfl, box2 _ _ _⟩
theorem implCmp_b (x y : VersionD) (r : Int) (h : cmpV x y = r) (w : World) :
    Calls Try.prog 26 #[vVersion x, vVersion y] w fun e w' => e = .returned (.int .i64 r) ∧ Below w.heap.size w w' := by subst h; exact implCmp_any x y w
set_option maxHeartbeats 1600000 in
theorem specCmp_any (x y : VersionD) (w : World) :
    Calls Try.prog 102 #[vVersion x, vVersion y] w fun e w' => e = .returned (.int .i64 (cmpV x y)) ∧ Below w.heap.size w w' := by
  obtain ⟨a0, a1⟩ := x
  obtain ⟨b0, b1⟩ := y
  rcases cmpV_cases ⟨a0, a1⟩ ⟨b0, b1⟩ with ⟨h, e⟩ | ⟨h, e⟩ | ⟨h, e⟩
  · rw [e]
    clear e
    unfold vVersion
    simp only at *
    rcases h with h | ⟨h, h2⟩
    · go_enter Try.func102, Try.ntmps102
      go_wp2
      go_ret
      exact ⟨rfl, box2 _ _ _⟩
    · subst h
      go_enter Try.func102, Try.ntmps102
      go_wp2
      go_ret
      exact ⟨rfl, box2 _ _ _⟩
  · rw [e]
    clear e
    injection h with h h2
    subst h h2
    unfold vVersion
    go_enter Try.func102, Try.ntmps102
    go_wp2
    go_ret
    exact ⟨rfl, box2 _ _ _⟩
  · rw [e]
    clear e
    unfold vVersion
    simp only at *
    rcases h with h | ⟨h, h2⟩
    · have h3 : (a0 == b0) = false := by simp; omega
      go_enter Try.func102, Try.ntmps102
      go_wp2
      go_ret
      exact ⟨rfl, box2 _ _ _⟩
    · subst h
      have h3 : (a1 == b1) = false := by simp; omega
      go_enter Try.func102, Try.ntmps102
      go_wp2
      go_ret
      exact ⟨rfl, box2 _ _ _⟩
theorem specCmp_b (x y : VersionD) (r : Int) (h : cmpV x y = r) (w : World) :
    Calls Try.prog 102 #[vVersion x, vVersion y] w fun e w' => e = .returned (.int .i64 r) ∧ Below w.heap.size w w' := by subst h; exact specCmp_any x y w
end Go.Proofs.Ytaihdjdaamglnaa
/- A variable of two numbers in a block of its own: how it reads behind calls and stores. -/
namespace Go.Proofs.Ytaihdjdaamglnaa
set_option linter.unusedVariables false
open Go.RowKit
/-- a variable of two numbers -/
structure Var2 (w : World) (b : Nat) (x y : Int) : Prop where
  lt : b < w.heap.size
  c0 : w.cell? ⟨b, 0, none⟩ = some (.int .i64 x)
  c1 : w.cell? ⟨b, 1, none⟩ = some (.int .i64 y)
  f0 : w.frozen? ⟨b, 0, none⟩ = false
  f1 : w.frozen? ⟨b, 1, none⟩ = false
theorem Var2.below {w w' : World} {b : Nat} {x y : Int} (h : Var2 w b x y) (hb : Below w.heap.size w w') : Var2 w' b x y :=
  ⟨Nat.lt_of_lt_of_le h.lt hb.size, (hb.cell (p := ⟨b, 0, none⟩) h.lt).trans h.c0, (hb.cell (p := ⟨b, 1, none⟩) h.lt).trans h.c1, (hb.frozen (p := ⟨b, 0, none⟩) h.lt).trans h.f0, (hb.frozen (p := ⟨b, 1, none⟩) h.lt).trans h.f1⟩
theorem Var2.alloc {w : World} {b : Nat} {x y : Int} (h : Var2 w b x y) (o : Obj) : Var2 (w.alloc o) b x y := h.below (box1 w o)
theorem Var2.new (w : World) (x y : Int) (t : TypeId) : Var2 (w.alloc (.cells #[.int .i64 x, .int .i64 y] t)) w.heap.size x y := ⟨by simp, by simp, by simp, by simp, by simp⟩
theorem bel_to {w w1 X : World} (h : Below w.heap.size w w1) (hb : Below w1.heap.size w1 X) : Below w.heap.size w X := h.trans (hb.mono h.size)
theorem belDr {B : Nat} {a w : World} (h : Below B a w) : Below B a w.drew := ⟨h.os, h.tape, h.output, h.size, h.block⟩
theorem Var2.drw {w : World} {b : Nat} {x y : Int} (h : Var2 w b x y) : Var2 w.drew b x y := ⟨h.lt, h.c0, h.c1, h.f0, h.f1⟩
theorem set_ne {w : World} {b c i j : Nat} {u : Value} (h : b ≠ c ∨ i ≠ j) : (w.setCell ⟨c, j, none⟩ u).cell? ⟨b, i, none⟩ = w.cell? ⟨b, i, none⟩ :=
  World.cell?_setCell_other (a := ⟨c, j, none⟩) (b := ⟨b, i, none⟩) (h := fun e => by injection e with e1 e2; rcases h with h | h <;> omega) ..
theorem set_at {w : World} {b i : Nat} {u x : Value} (h : w.cell? ⟨b, i, none⟩ = some x) : (w.setCell ⟨b, i, none⟩ u).cell? ⟨b, i, none⟩ = some u := World.cell?_setCell_same' w ⟨b, i, none⟩ u (by rw [h]; rfl)
theorem Var2.set {w : World} {b : Nat} {x y : Int} (h : Var2 w b x y) (x' y' : Int) : Var2 ((w.setCell ⟨b, 0, none⟩ (.int .i64 x')).setCell ⟨b, 1, none⟩ (.int .i64 y')) b x' y' := by
  obtain ⟨h1, h2, h3, h4, h5⟩ := h
  refine ⟨by simpa using h1, ?_, ?_, ?_, ?_⟩
  · rw [set_ne (Or.inr (by decide)), set_at h2]
  · exact set_at ((set_ne (Or.inr (by decide))).trans h3)
  · simpa using h4
  · simpa using h5
theorem Var2.other {w : World} {b c : Nat} {x y : Int} (h : Var2 w b x y) (hne : b ≠ c) (x' y' : Int) : Var2 ((w.setCell ⟨c, 0, none⟩ (.int .i64 x')).setCell ⟨c, 1, none⟩ (.int .i64 y')) b x y := by
  obtain ⟨h1, h2, h3, h4, h5⟩ := h
  refine ⟨by simpa using h1, ?_, ?_, ?_, ?_⟩
  · rw [set_ne (Or.inl hne), set_ne (Or.inl hne)]; exact h2
  · rw [set_ne (Or.inl hne), set_ne (Or.inl hne)]; exact h3
  · simpa using h4
  · simpa using h5
theorem Var2.grown {w w' : World} {b : Nat} {x y : Int} (h : Var2 w b x y) {r : Option Nat} (hg : w.grownBy w' r) (hne : some b ≠ r) : Var2 w' b x y :=
  ⟨Nat.lt_of_lt_of_le h.lt hg.size, (hg.cell_far ⟨b, 0, none⟩ h.lt hne).trans h.c0, (hg.cell_far ⟨b, 1, none⟩ h.lt hne).trans h.c1, (hg.frozen_far ⟨b, 0, none⟩ h.lt hne).trans h.f0, (hg.frozen_far ⟨b, 1, none⟩ h.lt hne).trans h.f1⟩
theorem Var2.set0 {w : World} {b : Nat} {x y : Int} (h : Var2 w b x y) (x' : Int) : Var2 (w.setCell ⟨b, 0, none⟩ (.int .i64 x')) b x' y := by
  obtain ⟨h1, h2, h3, h4, h5⟩ := h
  exact ⟨by simpa using h1, set_at h2, (set_ne (Or.inr (by decide))).trans h3, by simpa using h4, by simpa using h5⟩
theorem Var2.set1 {w : World} {b : Nat} {x y : Int} (h : Var2 w b x y) (y' : Int) : Var2 (w.setCell ⟨b, 1, none⟩ (.int .i64 y')) b x y' := by
  obtain ⟨h1, h2, h3, h4, h5⟩ := h
  exact ⟨by simpa using h1, (set_ne (Or.inr (by decide))).trans h2, set_at h3, by simpa using h4, by simpa using h5⟩
theorem Var2.one {w : World} {b c : Nat} {x y : Int} (h : Var2 w b x y) (hne : b ≠ c) (i : Nat) (u : Value) : Var2 (w.setCell ⟨c, i, none⟩ u) b x y := by
  obtain ⟨h1, h2, h3, h4, h5⟩ := h
  exact ⟨by simpa using h1, (set_ne (Or.inl hne)).trans h2, (set_ne (Or.inl hne)).trans h3, by simpa using h4, by simpa using h5⟩
end Go.Proofs.Ytaihdjdaamglnaa
/- The draws of chapter 5. -/
namespace Go.Proofs.Ytaihdjdaamglnaa
set_option linter.unusedVariables false
open Go.RowKit
def I64p (x : Int) : Prop := -9223372036854775808 ≤ x ∧ x ≤ 9223372036854775807
def okV (d : VersionD) : Prop := I64p d.fMajor ∧ I64p d.fMinor
def DrawnVer (b : Nat) (v : Value) (l : List UInt8) (w : World) (e : Ending) (w' : World) : Prop := ∃ d : VersionD, e = .returned (vVersion d) ∧ okV d ∧ w.grownBy w' (some b) ∧ Cur w' b v l
def GivesVerD (w : World) (e : Ending) (w' : World) : Prop := ∃ d : VersionD, e = .returned (vVersion d) ∧ okV d ∧ Below w.heap.size w w'
def GivesVers (w : World) (e : Ending) (w' : World) : Prop := ∃ d c : VersionD, e = .returned (.tuple #[vVersion d, vVersion c]) ∧ okV d ∧ okV c ∧ Below w.heap.size w w'
theorem okV_of {x y : Int} (h : I64p x) (k : I64p y) : okV ⟨x, y⟩ := ⟨h, k⟩
theorem grown_setN {a w : World} {r : Option Nat} (h : a.grownBy w r) {c : Nat} (hc : a.heap.size ≤ c) (i : Nat) (u : Value) : a.grownBy (w.setCell ⟨c, i, none⟩ u) r :=
  ⟨h.os, h.tape, h.output, by simpa using h.size, fun k hk hne => by
    have := (grown_set (grown_refl w (some c)) i u).block k (Nat.lt_of_lt_of_le hk h.size) (by intro e; injection e with e; omega)
    rw [this]; exact h.block k hk hne⟩
theorem grown_var {a w : World} {r : Option Nat} (h : a.grownBy w r) {c : Nat} (hc : a.heap.size ≤ c) (x y : Int) : a.grownBy ((w.setCell ⟨c, 0, none⟩ (.int .i64 x)).setCell ⟨c, 1, none⟩ (.int .i64 y)) r := grown_setN (grown_setN h hc 0 _) hc 1 _
theorem cur_set {w : World} {b c : Nat} {v : Value} {l : List UInt8} (hC : Cur w b v l) (hb : b < c) (i : Nat) (u : Value) : Cur (w.setCell ⟨c, i, none⟩ u) b v l := hC.far (grown_set (grown_refl w (some c)) i u) hb
theorem cur_var {w : World} {b c : Nat} {v : Value} {l : List UInt8} (hC : Cur w b v l) (hb : b < c) (x y : Int) : Cur ((w.setCell ⟨c, 0, none⟩ (.int .i64 x)).setCell ⟨c, 1, none⟩ (.int .i64 y)) b v l := cur_set (cur_set hC hb 0 _) hb 1 _
set_option maxHeartbeats 400000 in
theorem l5Draw_any (b : Nat) (v : Value) (l : List UInt8) (w : World) (hC : Cur w b v l) :
    Calls Try.prog 121 #[.pointer (some ⟨b, 0, none⟩)] w fun e w' => DrawnVer b v l w e w' := by
  have HL := Lib.hid hC.lt
  have HC0 := Lib.hid (cur_alloc hC (.cells #[.int .i64 0, .int .i64 0] 56))
  have HV0 := Lib.hid (Var2.new w 0 0 56)
  have HG0 := Lib.hid (grown_alloc (grown_refl w (some b)) (.cells #[.int .i64 0, .int .i64 0] 56))
  clear hC
  go_enter Try.func121, Try.ntmps121
  go_wp2_with fail
  refine (l1Below_any b v l _ _ HC0.out (by omega) (by omega)).mono ?_
  rintro e w1 ⟨x, rfl, ⟨h0, h1, h2⟩, hg, hC⟩
  have h3 := h2 (by omega)
  have HG1 := Lib.hid (grown_trans HG0.out hg)
  have HC1 := Lib.hid hC
  have HV1 := Lib.hid (HV0.out.grown hg (by intro e; injection e with e; have := HL.out; omega))
  clear hg hC h2
  go_wp2_with fail
  refine (l1Below_any b v l _ _ HC1.out (by omega) (by omega)).mono ?_
  rintro e w2 ⟨y, rfl, ⟨k0, k1, k2⟩, hg, hC⟩
  have k3 := k2 (by omega)
  have HG2 := Lib.hid (grown_trans HG1.out hg)
  have HC2 := Lib.hid hC
  have HV2 := Lib.hid (HV1.out.grown hg (by intro e; injection e with e; have := HL.out; omega))
  clear hg hC k2
  obtain ⟨hl, c0, c1, f0, f1⟩ := HV2.out
  go_wp2_with fail
  refine bodyPost_ret (v := .agg #[.int .i64 x, .int .i64 y]) (by simp [results, Try.results121, go_sem, c0, c1]) rfl ⟨⟨x, y⟩, rfl, okV_of ⟨by omega, by omega⟩ ⟨by omega, by omega⟩, grown_var HG2.out (Nat.le_refl _) x y, cur_var HC2.out HL.out x y⟩
set_option maxHeartbeats 800000 in
theorem l5Any_any (b : Nat) (v : Value) (l : List UInt8) (w : World) (hC : Cur w b v l) :
    Calls Try.prog 100 #[.pointer (some ⟨b, 0, none⟩)] w fun e w' => DrawnVer b v l w e w' := by
  have HL := Lib.hid hC.lt
  have HC0 := Lib.hid (cur_alloc hC (.cells #[.int .i64 0, .int .i64 0] 56))
  have HV0 := Lib.hid (Var2.new w 0 0 56)
  have HG0 := Lib.hid (grown_alloc (grown_refl w (some b)) (.cells #[.int .i64 0, .int .i64 0] 56))
  clear hC
  go_enter Try.func100, Try.ntmps100
  go_wp2_with fail
  refine (l5Draw_any b v l _ HC0.out).mono ?_
  rintro e w1 ⟨⟨x, y⟩, rfl, hok, hg, hC⟩
  have HW := Lib.hid (show w.heap.size + 1 ≤ w1.heap.size by have := hg.size; simpa using this)
  have HG1 := Lib.hid (grown_alloc (grown_trans HG0.out hg) (.cells #[.int .i64 x, .int .i64 y] 56))
  have HC1 := Lib.hid (cur_alloc hC (.cells #[.int .i64 x, .int .i64 y] 56))
  have HV1 := Lib.hid ((HV0.out.grown hg (by intro e; injection e with e; have := HL.out; omega)).alloc (.cells #[.int .i64 x, .int .i64 y] 56))
  have HU1 := Lib.hid (Var2.new w1 x y 56)
  clear hg hC
  unfold vVersion
  simp only
  go_wp2_with fail
  refine (l1Once_any b v l _ _ HC1.out (by omega) (by omega)).mono ?_
  rintro e w2 ⟨q, rfl, hg, hC⟩
  have HG2 := Lib.hid (grown_trans HG1.out hg)
  have HC2 := Lib.hid hC
  have HV2 := Lib.hid (HV1.out.grown hg (by intro e; injection e with e; have := HL.out; omega))
  have HU2 := Lib.hid (HU1.out.grown hg (by intro e; injection e with e; have := HL.out; have := HW.out; omega))
  clear hg hC HG0 HC0 HV0 HG1 HC1 HV1 HU1
  cases q
  · go_wp2_with fail
    refine (l1Once_any b v l _ _ HC2.out (by omega) (by omega)).mono ?_
    rintro e w3 ⟨q, rfl, hg, hC⟩
    have HG3 := Lib.hid (grown_trans HG2.out hg)
    have HC3 := Lib.hid hC
    have HV3 := Lib.hid (HV2.out.grown hg (by intro e; injection e with e; have := HL.out; omega))
    have HU3 := Lib.hid (HU2.out.grown hg (by intro e; injection e with e; have := HL.out; have := HW.out; omega))
    clear hg hC HG2 HC2 HV2 HU2
    cases q
    · obtain ⟨vl, c0, c1, f0, f1⟩ := HV3.out
      obtain ⟨ul, u0, u1, uf0, uf1⟩ := HU3.out
      go_wp2_with fail
      refine bodyPost_ret (v := .agg #[.int .i64 x, .int .i64 y]) (by simp [results, Try.results100, go_sem, c0, c1]) rfl ⟨⟨x, y⟩, rfl, okV_of hok.1 hok.2, grown_var HG3.out (Nat.le_refl _) x y, cur_var HC3.out HL.out x y⟩
    · go_wp2_with fail
      refine (l1Odd_any b v l _ HC3.out).mono ?_
      rintro e w4 ⟨z3, rfl, ⟨z3a, z3b⟩, hg, hC⟩
      have HG4 := Lib.hid (grown_trans HG3.out hg)
      have HC4 := Lib.hid hC
      have HV4 := Lib.hid (HV3.out.grown hg (by intro e; injection e with e; have := HL.out; omega))
      have HU4 := Lib.hid (HU3.out.grown hg (by intro e; injection e with e; have := HL.out; have := HW.out; omega))
      clear hg hC HG3 HC3 HV3 HU3
      obtain ⟨ul, u0, u1, uf0, uf1⟩ := HU4.out
      have HG5 := Lib.hid (grown_setN HG4.out (show w.heap.size ≤ w1.heap.size by have := HW.out; omega) 0 (.int .i64 z3))
      have HC5 := Lib.hid (cur_set HC4.out (show b < w1.heap.size by have := HL.out; have := HW.out; omega) 0 (.int .i64 z3))
      have HV5 := Lib.hid (HV4.out.one (show w.heap.size ≠ w1.heap.size by have := HW.out; omega) 0 (.int .i64 z3))
      have HU5 := Lib.hid (HU4.out.set0 z3)
      clear HG4 HC4 HV4 HU4
      obtain ⟨vl, c0, c1, f0, f1⟩ := HV5.out
      obtain ⟨ul, u0, u1, uf0, uf1⟩ := HU5.out
      go_wp2_with fail
      refine bodyPost_ret (v := .agg #[.int .i64 z3, .int .i64 y]) (by simp [results, Try.results100, go_sem, c0, c1]) rfl ⟨⟨z3, y⟩, rfl, okV_of ⟨z3a, z3b⟩ hok.2, grown_var HG5.out (Nat.le_refl _) z3 y, cur_var HC5.out HL.out z3 y⟩
  · go_wp2_with fail
    refine (l1Odd_any b v l _ HC2.out).mono ?_
    rintro e w3 ⟨z2, rfl, ⟨z2a, z2b⟩, hg, hC⟩
    have HG3 := Lib.hid (grown_trans HG2.out hg)
    have HC3 := Lib.hid hC
    have HV3 := Lib.hid (HV2.out.grown hg (by intro e; injection e with e; have := HL.out; omega))
    have HU3 := Lib.hid (HU2.out.grown hg (by intro e; injection e with e; have := HL.out; have := HW.out; omega))
    clear hg hC HG2 HC2 HV2 HU2
    obtain ⟨ul, u0, u1, uf0, uf1⟩ := HU3.out
    have HG4 := Lib.hid (grown_setN HG3.out (show w.heap.size ≤ w1.heap.size by have := HW.out; omega) 1 (.int .i64 z2))
    have HC4 := Lib.hid (cur_set HC3.out (show b < w1.heap.size by have := HL.out; have := HW.out; omega) 1 (.int .i64 z2))
    have HV4 := Lib.hid (HV3.out.one (show w.heap.size ≠ w1.heap.size by have := HW.out; omega) 1 (.int .i64 z2))
    have HU4 := Lib.hid (HU3.out.set1 z2)
    clear HG3 HC3 HV3 HU3
    go_wp2_with fail
    refine (l1Once_any b v l _ _ HC4.out (by omega) (by omega)).mono ?_
    rintro e w5 ⟨q, rfl, hg, hC⟩
    have HG5 := Lib.hid (grown_trans HG4.out hg)
    have HC5 := Lib.hid hC
    have HV5 := Lib.hid (HV4.out.grown hg (by intro e; injection e with e; have := HL.out; omega))
    have HU5 := Lib.hid (HU4.out.grown hg (by intro e; injection e with e; have := HL.out; have := HW.out; omega))
    clear hg hC HG4 HC4 HV4 HU4
    cases q
    · obtain ⟨vl, c0, c1, f0, f1⟩ := HV5.out
      obtain ⟨ul, u0, u1, uf0, uf1⟩ := HU5.out
      go_wp2_with fail
      refine bodyPost_ret (v := .agg #[.int .i64 x, .int .i64 z2]) (by simp [results, Try.results100, go_sem, c0, c1]) rfl ⟨⟨x, z2⟩, rfl, okV_of hok.1 ⟨z2a, z2b⟩, grown_var HG5.out (Nat.le_refl _) x z2, cur_var HC5.out HL.out x z2⟩
    · go_wp2_with fail
      refine (l1Odd_any b v l _ HC5.out).mono ?_
      rintro e w6 ⟨z5, rfl, ⟨z5a, z5b⟩, hg, hC⟩
      have HG6 := Lib.hid (grown_trans HG5.out hg)
      have HC6 := Lib.hid hC
      have HV6 := Lib.hid (HV5.out.grown hg (by intro e; injection e with e; have := HL.out; omega))
      have HU6 := Lib.hid (HU5.out.grown hg (by intro e; injection e with e; have := HL.out; have := HW.out; omega))
      clear hg hC HG5 HC5 HV5 HU5
      obtain ⟨ul, u0, u1, uf0, uf1⟩ := HU6.out
      have HG7 := Lib.hid (grown_setN HG6.out (show w.heap.size ≤ w1.heap.size by have := HW.out; omega) 0 (.int .i64 z5))
      have HC7 := Lib.hid (cur_set HC6.out (show b < w1.heap.size by have := HL.out; have := HW.out; omega) 0 (.int .i64 z5))
      have HV7 := Lib.hid (HV6.out.one (show w.heap.size ≠ w1.heap.size by have := HW.out; omega) 0 (.int .i64 z5))
      have HU7 := Lib.hid (HU6.out.set0 z5)
      clear HG6 HC6 HV6 HU6
      obtain ⟨vl, c0, c1, f0, f1⟩ := HV7.out
      obtain ⟨ul, u0, u1, uf0, uf1⟩ := HU7.out
      go_wp2_with fail
      refine bodyPost_ret (v := .agg #[.int .i64 z5, .int .i64 z2]) (by simp [results, Try.results100, go_sem, c0, c1]) rfl ⟨⟨z5, z2⟩, rfl, okV_of ⟨z5a, z5b⟩ ⟨z2a, z2b⟩, grown_var HG7.out (Nat.le_refl _) z5 z2, cur_var HC7.out HL.out z5 z2⟩
end Go.Proofs.Ytaihdjdaamglnaa
/- Rows of structs that hold rows themselves: how they read, and what keeps them. -/
namespace Go.Proofs.Ytaihdjdaamglnaa
set_option linter.unusedVariables false
open Go.RowKit
/-- nothing in the blocks from F on has turned -/
structure Kept (F : Nat) (w w' : World) : Prop where
  size : w.heap.size ≤ w'.heap.size
  block : ∀ k, F ≤ k → k < w.heap.size → w'.heap[k]? = w.heap[k]?
theorem Kept.refl (F : Nat) (w : World) : Kept F w w := ⟨Nat.le_refl _, fun _ _ _ => rfl⟩
theorem Kept.trans {F : Nat} {a b c : World} (h : Kept F a b) (k : Kept F b c) : Kept F a c :=
  ⟨Nat.le_trans h.size k.size, fun i hF hi => (k.block i hF (Nat.lt_of_lt_of_le hi h.size)).trans (h.block i hF hi)⟩
theorem Kept.mono {F F' : Nat} {a b : World} (h : Kept F a b) (hF : F ≤ F') : Kept F' a b := ⟨h.size, fun i h1 hi => h.block i (Nat.le_trans hF h1) hi⟩
theorem kept_below {B F : Nat} {w w' : World} (h : Below B w w') (hB : w.heap.size ≤ B) : Kept F w w' := ⟨h.size, fun i _ hi => h.block i (Nat.lt_of_lt_of_le hi hB)⟩
theorem Kept.thenB {B F : Nat} {a w w' : World} (k : Kept F a w) (h : Below B w w') (hB : w.heap.size ≤ B) : Kept F a w' := k.trans (kept_below h hB)
theorem Kept.alloc {F : Nat} {a w : World} (h : Kept F a w) (o : Obj) : Kept F a (w.alloc o) := h.trans (kept_below ((Below.refl w.heap.size w).alloc (Nat.le_refl _) o) (Nat.le_refl _))
theorem Kept.setCell {F : Nat} {a w : World} (h : Kept F a w) {p : Addr} (hp : p.block < F) (u : Value) : Kept F a (w.setCell p u) :=
  ⟨by simpa using h.size, fun i hF hi => (Below.heap_setCell w p u i (by omega)).trans (h.block i hF hi)⟩
theorem Kept.drew {F : Nat} {a w : World} (h : Kept F a w) : Kept F a w.drew := ⟨h.size, h.block⟩
theorem Kept.drewN {F : Nat} {a w : World} (h : Kept F a w) (n : Nat) : Kept F a (w.drewN n) := ⟨h.size, h.block⟩
theorem Kept.grown {F : Nat} {a w w' : World} {r : Option Nat} (h : Kept F a w) (hg : w.grownBy w' r) (hr : ∀ b, r = some b → b < F) : Kept F a w' :=
  h.trans ⟨hg.size, fun i hF hi => hg.block i hi (fun e => by have := hr i e.symm; omega)⟩
theorem Kept.cell {F : Nat} {w w' : World} (h : Kept F w w') (b o : Nat) (h1 : F ≤ b) (h2 : b < w.heap.size) : w'.cell? ⟨b, o, none⟩ = w.cell? ⟨b, o, none⟩ := World.cell?_of_block (h.block b h1 h2)
/-- what a reading of k cells must bear -/
structure Good {α : Type} (R : Nat → World → List Value → α → Prop) (k : Nat) : Prop where
  len : ∀ {F w cs x}, R F w cs x → cs.length = k
  keep : ∀ {F w w' cs x}, R F w cs x → Kept F w w' → R F w' cs x
  mono : ∀ {F F' w cs x}, R F w cs x → F' ≤ F → R F' w cs x
def rFlat {α : Type} (f : α → List Value) : Nat → World → List Value → α → Prop := fun _ _ cs x => cs = f x
theorem good_flat {α : Type} {f : α → List Value} {k : Nat} (hk : ∀ x, (f x).length = k) : Good (rFlat f) k :=
  ⟨fun h => by rw [h]; exact hk _, fun h _ => h, fun h _ => h⟩
/-- the slice v reads, in world w, as the elements l; what it holds lies in blocks from F on -/
def SliceAt {α : Type} (R : Nat → World → List Value → α → Prop) (k F : Nat) (w : World) (v : Value) (l : List α) : Prop :=
  ∃ a c, v = .slice a l.length (l.length + c) ∧ l.length ≤ maxLen ∧ (l.length = 0 ∨ ∃ b o, a = some ⟨b, o, none⟩ ∧ F ≤ b ∧ b < w.heap.size ∧ ∀ (i : Nat) (h : i < l.length), ∃ cs, R F w cs l[i] ∧ ∀ j, j < k → w.cell? ⟨b, o + i * k + j, none⟩ = cs[j]?)
section
variable {α : Type} {R : Nat → World → List Value → α → Prop} {k : Nat}
theorem SliceAt.keep {F : Nat} {w w' : World} {v : Value} {l : List α} (h : SliceAt R k F w v l) (g : Good R k) (hk : Kept F w w') : SliceAt R k F w' v l := by
  obtain ⟨a, c, rfl, hl, h⟩ := h
  refine ⟨a, c, rfl, hl, h.imp id ?_⟩
  rintro ⟨b, o, rfl, hF, hlt, hc⟩
  refine ⟨b, o, rfl, hF, Nat.lt_of_lt_of_le hlt hk.size, fun i hi => ?_⟩
  obtain ⟨cs, h1, h2⟩ := hc i hi
  exact ⟨cs, g.keep h1 hk, fun j hj => (hk.cell b _ hF hlt).trans (h2 j hj)⟩
theorem SliceAt.below {F B : Nat} {w w' : World} {v : Value} {l : List α} (h : SliceAt R k F w v l) (g : Good R k) (hb : Below B w w') (hB : w.heap.size ≤ B) : SliceAt R k F w' v l := h.keep g (kept_below hb hB)
theorem SliceAt.mono {F F' : Nat} {w : World} {v : Value} {l : List α} (h : SliceAt R k F w v l) (g : Good R k) (hF : F' ≤ F) : SliceAt R k F' w v l := by
  obtain ⟨a, c, rfl, hl, h⟩ := h
  refine ⟨a, c, rfl, hl, h.imp id ?_⟩
  rintro ⟨b, o, rfl, hF2, hlt, hc⟩
  refine ⟨b, o, rfl, Nat.le_trans hF hF2, hlt, fun i hi => ?_⟩
  obtain ⟨cs, h1, h2⟩ := hc i hi
  exact ⟨cs, g.mono h1 hF, h2⟩
theorem sliceAt_len {F : Nat} {w : World} {v : Value} {l : List α} (h : SliceAt R k F w v l) : ∃ a c, v = .slice a l.length c ∧ l.length ≤ maxLen := by
  obtain ⟨a, c, rfl, hl, _⟩ := h; exact ⟨a, _, rfl, hl⟩
theorem sliceAt_cap {F : Nat} {w : World} {v : Value} {l : List α} (h : SliceAt R k F w v l) : ∃ a c, v = .slice a l.length c ∧ l.length ≤ maxLen ∧ l.length ≤ c := by
  obtain ⟨a, c, rfl, hl, _⟩ := h; exact ⟨a, _, rfl, hl, by omega⟩
theorem sliceAt_cell {F : Nat} {w : World} {a : Option Addr} {n c : Nat} {l : List α} (h : SliceAt R k F w (.slice a n c) l) (i : Nat) (hi : i < l.length) :
    ∃ b o cs, a = some ⟨b, o, none⟩ ∧ b < w.heap.size ∧ R F w cs l[i] ∧ ∀ j, j < k → w.cell? ⟨b, o + i * k + j, none⟩ = cs[j]? := by
  obtain ⟨a', c', e, hl, h⟩ := h
  injection e with e1 e2 e3
  subst e1
  rcases h with h | ⟨b, o, rfl, _, hlt, hc⟩
  · omega
  · obtain ⟨cs, h1, h2⟩ := hc i hi
    exact ⟨b, o, cs, rfl, hlt, h1, h2⟩
theorem sliceAt_nil (F : Nat) (w : World) : SliceAt R k F w (.slice none 0 0) ([] : List α) := ⟨none, 0, rfl, Nat.zero_le _, Or.inl rfl⟩
/-- a beginning of a slice -/
theorem sliceAt_take {F : Nat} {w : World} {a : Option Addr} {n c c' : Nat} {l : List α} (h : SliceAt R k F w (.slice a n c) l) (m : Nat) (hm : m ≤ l.length) (hc' : m ≤ c') : SliceAt R k F w (.slice a m c') (l.take m) := by
  obtain ⟨a', c2, e, hl, h⟩ := h
  injection e with e1 e2 e3
  subst e1
  have hlen : (l.take m).length = m := by rw [List.length_take]; omega
  refine ⟨a, c' - m, by rw [hlen, Nat.add_sub_of_le hc'], by omega, ?_⟩
  rcases h with h | ⟨b, o, rfl, hF, hlt, hc⟩
  · exact Or.inl (by omega)
  · refine Or.inr ⟨b, o, rfl, hF, hlt, fun i hi => ?_⟩
    have hi2 : i < l.length := by omega
    obtain ⟨cs, h1, h2⟩ := hc i hi2
    exact ⟨cs, by rw [List.getElem_take]; exact h1, h2⟩
/-- the cells xs hold the elements l, one behind the other -/
def Cells (R : Nat → World → List Value → α → Prop) (k F : Nat) (w : World) (xs : List Value) (l : List α) : Prop := ∀ (i : Nat) (h : i < l.length), ∃ cs, R F w cs l[i] ∧ ∀ j, j < k → xs[i * k + j]? = cs[j]?
theorem Cells.keep {F : Nat} {w w' : World} {xs : List Value} {l : List α} (h : Cells R k F w xs l) (g : Good R k) (hk : Kept F w w') : Cells R k F w' xs l := by
  intro i hi
  obtain ⟨cs, h1, h2⟩ := h i hi
  exact ⟨cs, g.keep h1 hk, h2⟩
theorem Cells.nil (F : Nat) (w : World) (xs : List Value) : Cells R k F w xs ([] : List α) := fun i hi => absurd hi (Nat.not_lt_zero _)
theorem Cells.snoc {F : Nat} {w : World} {xs ys : List Value} {l : List α} {x : α} {cs : List Value} (h : Cells R k F w xs l) (hx : R F w cs x) (h1 : ∀ i, i < l.length * k → ys[i]? = xs[i]?) (h2 : ∀ j, j < k → ys[l.length * k + j]? = cs[j]?) : Cells R k F w ys (l ++ [x]) := by
  intro i hi
  by_cases hlt : i < l.length
  · obtain ⟨cs', e1, e2⟩ := h i hlt
    refine ⟨cs', by rw [List.getElem_append_left hlt]; exact e1, fun j hj => ?_⟩
    rw [h1 _ ?_]
    · exact e2 j hj
    · have h3 : (i + 1) * k ≤ l.length * k := Nat.mul_le_mul_right k hlt
      rw [Nat.succ_mul] at h3; omega
  · have hi2 : i = l.length := by simp at hi; omega
    subst hi2
    exact ⟨cs, by simpa using hx, h2⟩
theorem sliceAt_of_row {F E : Nat} {w : World} {B : Nat} {v : Value} {xs : List Value} {l : List α} (h : w.ownsRow B E k v l.length xs) (hc : Cells R k F w xs l) (hF : F ≤ B) (hm : l.length ≤ 4194304) : SliceAt R k F w v l := by
  have hl := h.1
  rcases h.2 with ⟨rfl, hn⟩ | ⟨g, cap, cur, rfl, hb, hg, hn, hc2, hs, ht⟩
  · exact ⟨none, 0, by rw [hn], by unfold maxLen; omega, Or.inl hn⟩
  · refine ⟨_, _, cap_eq _ hn, by unfold maxLen; omega, Or.inr ⟨g, 0, rfl, by omega, (Array.getElem?_eq_some_iff.1 hg).1, fun i hi => ?_⟩⟩
    obtain ⟨cs, e1, e2⟩ := hc i hi
    refine ⟨cs, e1, fun j hj => ?_⟩
    rw [Nat.zero_add, World.ownsRow.cellAt h (i * k + j) ?_]
    · exact e2 j hj
    · have h3 : (i + 1) * k ≤ l.length * k := Nat.mul_le_mul_right k hi
      rw [Nat.succ_mul] at h3; omega
end
section
variable {α : Type} {f : α → List Value} {k : Nat}
theorem sliceAt_of_flat {w : World} {v : Value} {l : List α} (hk : ∀ x, (f x).length = k) (h : FlatAt f k w v l) : SliceAt (rFlat f) k 0 w v l := by
  obtain ⟨a, c, rfl, hl, hm, h⟩ := h
  refine ⟨a, c, rfl, hm, h.imp id ?_⟩
  rintro ⟨b, o, rfl, hlt, hc⟩
  refine ⟨b, o, rfl, Nat.zero_le _, hlt, fun i hi => ⟨f l[i], rfl, fun j hj => ?_⟩⟩
  rw [Nat.add_assoc, hc (i * k + j) ?_, flat_get f k hk l i hi j hj]
  have h3 : (i + 1) * k ≤ l.length * k := Nat.mul_le_mul_right k hi
  rw [Nat.succ_mul] at h3; omega
theorem flatAt_of_slice {F : Nat} {w : World} {v : Value} {l : List α} (hk : ∀ x, (f x).length = k) (hk0 : 0 < k) (h : SliceAt (rFlat f) k F w v l) : FlatAt f k w v l := by
  obtain ⟨a, c, rfl, hm, h⟩ := h
  refine ⟨a, c, rfl, flat_len f k hk l, hm, h.imp id ?_⟩
  rintro ⟨b, o, rfl, _, hlt, hc⟩
  refine ⟨b, o, rfl, hlt, fun i hi => ?_⟩
  have hq : i / k < l.length := Nat.div_lt_of_lt_mul (by rw [Nat.mul_comm]; exact hi)
  have hr : i % k < k := Nat.mod_lt _ hk0
  obtain ⟨cs, h1, h2⟩ := hc (i / k) hq
  have h3 := h2 (i % k) hr
  have e1 : i / k * k + i % k = i := by rw [Nat.mul_comm]; exact Nat.div_add_mod i k
  rw [show o + i / k * k + i % k = o + i by omega] at h3
  rw [h3, ← e1, flat_get f k hk l (i / k) hq (i % k) hr, h1, e1]
theorem sliceAt_of_owns {E : Nat} {w : World} {B : Nat} {v : Value} {l : List α} (hk : ∀ x, (f x).length = k) (h : OwnsF f E k w B v l) (hm : l.length ≤ 4194304) : SliceAt (rFlat f) k B w v l := by
  refine sliceAt_of_row h (fun i hi => ⟨f l[i], rfl, fun j hj => flat_get f k hk l i hi j hj⟩) (Nat.le_refl _) hm
end
/-- texts as rows of one cell -/
def cStr (s : List UInt8) : List Value := [strV s]
theorem cStr_len (s : List UInt8) : (cStr s).length = 1 := rfl
theorem cStr_map (l : List (List UInt8)) : l.flatMap cStr = l.map strV := by induction l with | nil => rfl | cons a r ih => simp [cStr, ih]
abbrev rStr := rFlat cStr
theorem good_str : Good rStr 1 := good_flat cStr_len
theorem flat_of_row {w : World} {v : Value} {l : List (List UInt8)} (h : RowAt w v (l.map strV)) : FlatAt cStr 1 w v l := by
  obtain ⟨a, c, rfl, hl, h⟩ := h
  rw [List.length_map] at *
  refine ⟨a, c, rfl, by rw [cStr_map, List.length_map, Nat.mul_one], hl, h.imp (fun e => by simpa using congrArg List.length e) ?_⟩
  rintro ⟨b, o, rfl, hlt, hc⟩
  exact ⟨b, o, rfl, hlt, fun i hi => by rw [cStr_map]; exact hc i (by simpa using hi)⟩
theorem row_of_flat {w : World} {v : Value} {l : List (List UInt8)} (h : FlatAt cStr 1 w v l) : RowAt w v (l.map strV) := by
  obtain ⟨a, c, rfl, hl, hm, h⟩ := h
  refine ⟨a, c, by rw [List.length_map], by rw [List.length_map]; exact hm, ?_⟩
  rw [List.length_map]
  refine h.imp (fun e => by rw [List.eq_nil_of_length_eq_zero e]; rfl) ?_
  rintro ⟨b, o, rfl, hlt, hc⟩
  exact ⟨b, o, rfl, hlt, fun i hi => by rw [hc i (by omega), cStr_map]⟩
theorem row_of_slice {F : Nat} {w : World} {v : Value} {l : List (List UInt8)} (h : SliceAt rStr 1 F w v l) : RowAt w v (l.map strV) := row_of_flat (flatAt_of_slice cStr_len (by decide) h)
theorem slice_of_row {w : World} {v : Value} {l : List (List UInt8)} (h : RowAt w v (l.map strV)) : SliceAt rStr 1 0 w v l := sliceAt_of_flat cStr_len (flat_of_row h)
theorem slice_of_owns {w : World} {B : Nat} {v : Value} {l : List (List UInt8)} (h : Owns w B v l) (hm : l.length ≤ 4194304) : SliceAt rStr 1 B w v l :=
  sliceAt_of_owns (E := 9) cStr_len (by unfold OwnsF; rw [cStr_map]; exact h) hm
theorem belS {w X w' : World} (h : Below w.heap.size w X) (hb : Below X.heap.size X w') : Below w.heap.size w w' := h.trans (hb.mono h.size)
theorem bcellR {W w1 : World} (hb : Below W.heap.size W w1) : (∀ b o, b < W.heap.size → w1.cell? ⟨b, o, none⟩ = W.cell? ⟨b, o, none⟩) ∧ (∀ b o, b < W.heap.size → w1.frozen? ⟨b, o, none⟩ = W.frozen? ⟨b, o, none⟩) :=
  ⟨fun b o h => hb.cell (p := ⟨b, o, none⟩) h, fun b o h => hb.frozen (p := ⟨b, o, none⟩) h⟩
/-- a variable in a block of its own, of the cells cs -/
structure Bx (w : World) (b : Nat) (cs : List Value) : Prop where
  lt : b < w.heap.size
  cell : ∀ j (h : j < cs.length), w.cell? ⟨b, j, none⟩ = some (cs[j]'h)
  froz : ∀ j, j < cs.length → w.frozen? ⟨b, j, none⟩ = false
theorem Bx.below {w w' : World} {b : Nat} {cs : List Value} (h : Bx w b cs) (hb : Below w.heap.size w w') : Bx w' b cs :=
  ⟨Nat.lt_of_lt_of_le h.lt hb.size, fun j hj => (hb.cell (p := ⟨b, j, none⟩) h.lt).trans (h.cell j hj), fun j hj => (hb.frozen (p := ⟨b, j, none⟩) h.lt).trans (h.froz j hj)⟩
theorem bx_set_ne {w : World} {b c i j : Nat} {u : Value} (h : b ≠ c ∨ i ≠ j) : (w.setCell ⟨c, j, none⟩ u).cell? ⟨b, i, none⟩ = w.cell? ⟨b, i, none⟩ :=
  World.cell?_setCell_other (a := ⟨c, j, none⟩) (b := ⟨b, i, none⟩) (h := fun e => by injection e with e1 e2; rcases h with h | h <;> omega) ..
theorem Bx.set {w : World} {b : Nat} {cs : List Value} (h : Bx w b cs) (j : Nat) (hj : j < cs.length) (u : Value) : Bx (w.setCell ⟨b, j, none⟩ u) b (cs.set j u) := by
  refine ⟨by simpa using h.lt, fun i hi => ?_, fun i hi => ?_⟩
  · have hi2 : i < cs.length := by rwa [List.length_set] at hi
    by_cases hij : i = j
    · subst hij
      rw [World.cell?_setCell_same' w ⟨b, i, none⟩ u (by rw [h.cell i hi2]; rfl)]; simp
    · rw [bx_set_ne (Or.inr hij), h.cell i hi2, List.getElem_set_ne (by omega)]
  · rw [List.length_set] at hi
    simpa using h.froz i hi
theorem Bx.other {w : World} {b c : Nat} {cs : List Value} (h : Bx w b cs) (hne : b ≠ c) (j : Nat) (u : Value) : Bx (w.setCell ⟨c, j, none⟩ u) b cs :=
  ⟨by simpa using h.lt, fun i hi => (bx_set_ne (Or.inl hne)).trans (h.cell i hi), fun i hi => by simpa using h.froz i hi⟩
theorem Bx.new (w : World) (cs : List Value) (t : TypeId) : Bx (w.alloc (.cells cs.toArray t)) w.heap.size cs :=
  ⟨by simp, fun j hj => by rw [cell_of_row _ _ j _ t (0, 0) (heap_alloc_new w _)]; simp [List.getElem?_eq_getElem hj], fun j hj => by simp⟩
theorem bx_box (w : World) (o : Obj) : Below w.heap.size w (w.alloc o) := (Below.refl _ _).alloc (Nat.le_refl _) o
theorem Bx.alloc {w : World} {b : Nat} {cs : List Value} (h : Bx w b cs) (o : Obj) : Bx (w.alloc o) b cs := h.below (bx_box w o)
theorem bx_start1 (w : World) (c1 : List Value) (t1 : TypeId) : Bx (w.alloc (.cells c1.toArray t1)) w.heap.size c1 ∧ Below w.heap.size w (w.alloc (.cells c1.toArray t1)) := ⟨Bx.new w c1 t1, bx_box w _⟩
theorem bx_start2 (w : World) (c1 c2 : List Value) (t1 t2 : TypeId) : Bx ((w.alloc (.cells c1.toArray t1)).alloc (.cells c2.toArray t2)) w.heap.size c1 ∧ Bx ((w.alloc (.cells c1.toArray t1)).alloc (.cells c2.toArray t2)) (w.heap.size + 1) c2 ∧ Below w.heap.size w ((w.alloc (.cells c1.toArray t1)).alloc (.cells c2.toArray t2)) := by
  have h := Bx.new (w.alloc (.cells c1.toArray t1)) c2 t2
  rw [show (w.alloc (.cells c1.toArray t1)).heap.size = w.heap.size + 1 by simp] at h
  exact ⟨(Bx.new w c1 t1).alloc _, h, belS (bx_box w _) (bx_box _ _)⟩
theorem bx_start3 (w : World) (c1 c2 c3 : List Value) (t1 t2 t3 : TypeId) : Bx (((w.alloc (.cells c1.toArray t1)).alloc (.cells c2.toArray t2)).alloc (.cells c3.toArray t3)) w.heap.size c1 ∧ Bx (((w.alloc (.cells c1.toArray t1)).alloc (.cells c2.toArray t2)).alloc (.cells c3.toArray t3)) (w.heap.size + 1) c2 ∧ Bx (((w.alloc (.cells c1.toArray t1)).alloc (.cells c2.toArray t2)).alloc (.cells c3.toArray t3)) (w.heap.size + 1 + 1) c3 ∧ Below w.heap.size w (((w.alloc (.cells c1.toArray t1)).alloc (.cells c2.toArray t2)).alloc (.cells c3.toArray t3)) := by
  obtain ⟨h1, h2, h3⟩ := bx_start2 w c1 c2 t1 t2
  have h := Bx.new ((w.alloc (.cells c1.toArray t1)).alloc (.cells c2.toArray t2)) c3 t3
  rw [show ((w.alloc (.cells c1.toArray t1)).alloc (.cells c2.toArray t2)).heap.size = w.heap.size + 1 + 1 by simp] at h
  exact ⟨h1.alloc _, h2.alloc _, h, belS h3 (bx_box _ _)⟩
/-- a struct by its value -/
def ValAt {α : Type} (R : Nat → World → List Value → α → Prop) (F : Nat) (w : World) (v : Value) (x : α) : Prop := ∃ cs, v = .agg cs.toArray ∧ R F w cs x
theorem ValAt.keep {α : Type} {R : Nat → World → List Value → α → Prop} {k F : Nat} {w w' : World} {v : Value} {x : α} (h : ValAt R F w v x) (g : Good R k) (hk : Kept F w w') : ValAt R F w' v x := by
  obtain ⟨cs, rfl, h⟩ := h; exact ⟨cs, rfl, g.keep h hk⟩
theorem ValAt.below {α : Type} {R : Nat → World → List Value → α → Prop} {k F B : Nat} {w w' : World} {v : Value} {x : α} (h : ValAt R F w v x) (g : Good R k) (hb : Below B w w') (hB : w.heap.size ≤ B) : ValAt R F w' v x := h.keep g (kept_below hb hB)
/-- a new struct, or a new slice, that reads as x -/
def GivesV {α : Type} (R : Nat → World → List Value → α → Prop) (x : α) (w : World) (e : Ending) (w' : World) : Prop := ∃ cs, e = .returned (.agg cs.toArray) ∧ R w.heap.size w' cs x ∧ Below w.heap.size w w'
def GivesS {α : Type} (R : Nat → World → List Value → α → Prop) (k : Nat) (l : List α) (w : World) (e : Ending) (w' : World) : Prop := ∃ v, e = .returned v ∧ SliceAt R k w.heap.size w' v l ∧ Below w.heap.size w w'
theorem slice_of {α : Type} {f : α → List Value} {E k : Nat} {w : World} {B : Nat} {v : Value} {l : List α} (h : OwnsF f E k w B v l) : ∃ a c, v = .slice a l.length c := by
  rcases h.2 with ⟨rfl, hn⟩ | ⟨g, cap, cur, rfl, _⟩
  · exact ⟨none, 0, by rw [hn]⟩
  · exact ⟨_, _, rfl⟩
theorem sumF_take_le {α : Type} (sz : α → Nat) (x : List α) (m : Nat) : sumF sz (x.take m) ≤ sumF sz x := by
  induction x generalizing m with
  | nil => simp [sumF]
  | cons a r ih => cases m with
    | zero => simp [sumF]
    | succ m => have := ih m; simp only [List.take_succ_cons, sumF]; omega
theorem total_sum (l : List (List UInt8)) : total l = sumF List.length l := by induction l with | nil => rfl | cons a r ih => simp only [total, sumF, ih]
end Go.Proofs.Ytaihdjdaamglnaa
/- What draws leave of variables and rows: the general words. -/
namespace Go.Proofs.Ytaihdjdaamglnaa
set_option linter.unusedVariables false
open Go.RowKit
theorem bx_gr {w w' : World} {c b : Nat} {cs : List Value} (h : Bx w c cs) (hg : w.grownBy w' (some b)) (hne : c ≠ b) : Bx w' c cs :=
  ⟨Nat.lt_of_lt_of_le h.lt hg.size, fun j hj => (World.cell?_of_block (a := ⟨c, j, none⟩) (hg.block c h.lt (fun e => hne (by injection e)))).trans (h.cell j hj), fun j hj => (World.frozen?_of_block (a := ⟨c, j, none⟩) (hg.block c h.lt (fun e => hne (by injection e)))).trans (h.froz j hj)⟩
/-- a box behind an append to a row of one's own -/
theorem bx_own {w w' : World} {c : Nat} {r : Option Nat} {cs : List Value} (h : Bx w c cs) (hg : w.grownBy w' r) (hne : r ≠ some c) : Bx w' c cs :=
  ⟨Nat.lt_of_lt_of_le h.lt hg.size, fun j hj => (World.cell?_of_block (a := ⟨c, j, none⟩) (hg.block c h.lt (fun e => hne e.symm))).trans (h.cell j hj), fun j hj => (World.frozen?_of_block (a := ⟨c, j, none⟩) (hg.block c h.lt (fun e => hne e.symm))).trans (h.froz j hj)⟩
theorem gr_set {a w : World} {b c : Nat} (h : a.grownBy w (some b)) (hc : a.heap.size ≤ c) (o : Nat) (u : Value) : a.grownBy (w.setCell ⟨c, o, none⟩ u) (some b) :=
  ⟨h.os, h.tape, h.output, by simpa [World.setCell] using h.size, fun j hj hne => (Below.heap_setCell w ⟨c, o, none⟩ u j (fun e => by have e2 : j = c := e; omega)).trans (h.block j hj hne)⟩
theorem cur_so {w : World} {b c : Nat} {v : Value} {l : List UInt8} (hC : Cur w b v l) (hb : b < c) (o : Nat) (u : Value) : Cur (w.setCell ⟨c, o, none⟩ u) b v l := hC.far (grown_set (grown_refl w (some c)) o u) hb
theorem gr_own {w w1 w' : World} {b : Nat} {r : Option Nat} (h : w.grownBy w1 (some b)) (hg : w1.grownBy w' r) (hr : ∀ g, r = some g → w.heap.size ≤ g) : w.grownBy w' (some b) :=
  ⟨hg.os.trans h.os, hg.tape.trans h.tape, hg.output.trans h.output, Nat.le_trans h.size hg.size, fun k hk hne => (hg.block k (Nat.lt_of_lt_of_le hk h.size) (fun e => by have := hr k e.symm; omega)).trans (h.block k hk hne)⟩
theorem cur_own {w w' : World} {b : Nat} {r : Option Nat} {v : Value} {l : List UInt8} (hC : Cur w b v l) (hg : w.grownBy w' r) (hr : ∀ g, r = some g → b < g) : Cur w' b v l := by
  cases r with
  | some g => exact hC.far hg (hr g rfl)
  | none => exact hC.far (g := w.heap.size) ⟨hg.os, hg.tape, hg.output, hg.size, fun k hk _ => hg.block k hk (by simp)⟩ hC.lt
theorem ownsF_gr {α : Type} {f : α → List Value} {E k : Nat} {w w' : World} {B b : Nat} {v : Value} {l : List α} (h : OwnsF f E k w B v l) (hg : w.grownBy w' (some b)) (hb : b < B) : OwnsF f E k w' B v l :=
  World.ownsRow.kept h hg (Or.inr fun e => by have := (World.ownsRow.lt h b e).1; omega)
theorem ownsF_so {α : Type} {f : α → List Value} {E k : Nat} {w : World} {B c : Nat} {v : Value} {l : List α} (h : OwnsF f E k w B v l) (hp : v.ownBlock ≠ some c) (o : Nat) (u : Value) : OwnsF f E k (w.setCell ⟨c, o, none⟩ u) B v l :=
  World.ownsRow.kept h (row := some c) ⟨rfl, rfl, rfl, by simp, fun i hi hne => Below.heap_setCell w ⟨c, o, none⟩ u i (fun e => hne (by rw [e]))⟩ (Or.inr hp)
theorem ownsF_drB {α : Type} {f : α → List Value} {E k : Nat} {w : World} {B : Nat} {v : Value} {l : List α} (h : OwnsF f E k w B v l) : OwnsF f E k w.drew B v l := h
theorem ownsF_no {α : Type} (f : α → List Value) (E k : Nat) (w : World) (B : Nat) : OwnsF f E k w B (.slice none 0 0) [] := ⟨by simp, Or.inl ⟨rfl, rfl⟩⟩
theorem ownsF_ne {α : Type} {f : α → List Value} {E k : Nat} {w : World} {B c : Nat} {v : Value} {l : List α} (h : OwnsF f E k w B v l) (hc : c < B) : v.ownBlock ≠ some c := fun e => by have := (World.ownsRow.lt h c e).1; omega
theorem ownsF_lit {α : Type} {f : α → List Value} {E k : Nat} (w : World) (B : Nat) (cs : Array Value) (ys : List α) (hcs : cs.toList = ys.flatMap f) (hk : ∀ x, (f x).length = k) (hm : ys.length ≤ 1000) (hB : B ≤ w.heap.size) :
    OwnsF f E k (w.alloc (.cells cs E)) B (.slice (some ⟨w.heap.size, 0, none⟩) ys.length ys.length) ys := by
  have h := World.ownsRow_lit (base := B) (e := E) (size := k) w cs ys.length hB (by unfold maxLen; omega) (by rw [← Array.length_toList, hcs, flat_len f k hk ys])
  unfold OwnsF
  rw [← hcs]; exact h
theorem past_cellB {b : Nat} (W : World) (o : Obj) (k : Nat) (h : b < W.heap.size) : (W.alloc o).cell? ⟨b, k, none⟩ = W.cell? ⟨b, k, none⟩ := ((Below.refl W.heap.size W).alloc (Nat.le_refl _) o).cell (p := ⟨b, k, none⟩) h
theorem slice_lenB {α : Type} {f : α → List Value} {E k : Nat} {w : World} {B m : Nat} {v : Value} {l : List α} (h : OwnsF f E k w B v l) (hm : l.length = m) : ∃ a c, v = .slice a m c := by
  subst hm; exact slice_of h
/-- append of one element to a row of one's own, at a step of a region that draws -/
theorem step_flat {α : Type} {f : α → List Value} {E S k bytes : Nat} {z : Value} (hk : ∀ x, (f x).length = k) (h1 : ∀ x, ∀ u ∈ f x, u.oneCell' = true) (hinfo : (Try.prog.info? E).map (fun i => (i.zero, i.size, i.bytes)) = some (some z, k, bytes))
    (hz : z.cells.size = k) (hk0 : 0 < k) (hbytes : bytes ≤ 1024) (hS : Try.prog.underlying S = some (.slice E))
    {ops : Array Oper} {o : Oper} {a : Act} {K : Act → World → Prop} {Q : Exit → Act → World → Prop} {Ep : Prop} (hgd : o.guard = none) (s x : Operand)
    (ho : o.op = .call { callee := .builtin .append, args := #[s, x], argTypes := #[S, S] }) (B : Nat) (v : Value) (l : List α) (y : α) (w : World) (blk : Nat)
    (hs : a.eval s = v) (hO : OwnsF f E k w B v l) (hx : a.eval x = .slice (some ⟨blk, 0, none⟩) 1 1) (hc : ∀ j, j < k → w.cell? ⟨blk, j, none⟩ = (f y)[j]?) (hl : l.length ≤ 4194304) (hB : B ≤ w.heap.size)
    (h : ∀ v' w', OwnsF f E k w' B v' (l ++ [y]) → w.grownBy w' v.ownBlock → (∀ c, c < w.heap.size → v.ownBlock ≠ some c → v'.ownBlock ≠ some c) → K (a.put o.dst v') w') : if Region.wanted o (yielded ops a.tmps) = true then Oper.wp Try.prog o a w K Q else Ep := by
  obtain ⟨i0, hi, hz0, hz1, hz2⟩ := info_parts hinfo
  refine step_append_lies w hgd s x S ho B E i0 z k bytes hS hi hz0 hz1 hz2 hz hk0 v l.length (l.flatMap f) hs hO ⟨blk, 0, none⟩ 1 1 (f y) hx (by rw [hk, Nat.one_mul]) ?_ (h1 y) (by decide) (by unfold maxLen; omega) ?_ hB _ rfl ?_
  · intro j u hj
    have hj2 : j < k := by have := (List.getElem?_eq_some_iff.1 hj).1; rwa [hk] at this
    rw [Addr.add_lit, Nat.zero_add, hc j hj2]; exact hj
  · have : (l.length + 1) * bytes ≤ 4194305 * 1024 := Nat.mul_le_mul (by omega) hbytes
    omega
  · intro g cap w' h2 h3 h4 _
    refine h _ w' ?_ h3 ?_
    · unfold OwnsF; rw [List.flatMap_append, List.length_append]; simpa using h2
    · intro c hc hne e
      rcases h4 with h4 | h4
      · rw [h4] at hne; exact hne (by simpa [Value.ownBlock] using e)
      · simp [Value.ownBlock] at e; omega
/-- the same in a region that doesn't draw -/
theorem append_flatN {α : Type} {f : α → List Value} {E S k bytes : Nat} {z : Value} (hk : ∀ x, (f x).length = k) (h1 : ∀ x, ∀ u ∈ f x, u.oneCell' = true) (hinfo : (Try.prog.info? E).map (fun i => (i.zero, i.size, i.bytes)) = some (some z, k, bytes))
    (hz : z.cells.size = k) (hk0 : 0 < k) (hbytes : bytes ≤ 1024) (hS : Try.prog.underlying S = some (.slice E))
    {ops : Array Oper} {rest : List Oper} {o : Oper} {a : Act} {Q : Exit → Act → World → Prop} (hgd : o.guard = none) (s x : Operand)
    (ho : o.op = .call { callee := .builtin .append, args := #[s, x], argTypes := #[S, S] }) (B : Nat) (v : Value) (l : List α) (y : α) (w : World) (blk : Nat)
    (hs : a.eval s = v) (hO : OwnsF f E k w B v l) (hx : a.eval x = .slice (some ⟨blk, 0, none⟩) 1 1) (hc : ∀ j, j < k → w.cell? ⟨blk, j, none⟩ = (f y)[j]?) (hl : l.length ≤ 4194304) (hB : B ≤ w.heap.size)
    (h : ∀ v' w', OwnsF f E k w' B v' (l ++ [y]) → w.grownBy w' v.ownBlock → (∀ c, c < w.heap.size → v.ownBlock ≠ some c → v'.ownBlock ≠ some c) → wpList Try.prog ops Q rest (a.put o.dst v') w') : wpList Try.prog ops Q (o :: rest) a w := by
  obtain ⟨i0, hi, hz0, hz1, hz2⟩ := info_parts hinfo
  refine wpList_plain hgd fun _ hK => wp_append_lies w s x S ho B E i0 z k bytes hS hi hz0 hz1 hz2 hz hk0 v l.length (l.flatMap f) hs hO ⟨blk, 0, none⟩ 1 1 (f y) hx (by rw [hk, Nat.one_mul]) ?_ (h1 y) (by decide) (by unfold maxLen; omega) ?_ hB _ rfl ?_
  · intro j u hj
    have hj2 : j < k := by have := (List.getElem?_eq_some_iff.1 hj).1; rwa [hk] at this
    rw [Addr.add_lit, Nat.zero_add, hc j hj2]; exact hj
  · have : (l.length + 1) * bytes ≤ 4194305 * 1024 := Nat.mul_le_mul (by omega) hbytes
    omega
  · intro g cap w' h2 h3 h4 _
    refine hK _ _ (h _ w' ?_ h3 ?_)
    · unfold OwnsF; rw [List.flatMap_append, List.length_append]; simpa using h2
    · intro c hc hne e
      rcases h4 with h4 | h4
      · rw [h4] at hne; exact hne (by simpa [Value.ownBlock] using e)
      · simp [Value.ownBlock] at e; omega
end Go.Proofs.Ytaihdjdaamglnaa
/- Offers: what the laws' own helpers do with them. -/
namespace Go.Proofs.Ytaihdjdaamglnaa
set_option linter.unusedVariables false
open Go.RowKit
structure OfferD where
  fVersions : List VersionD
  fFace : Int
deriving DecidableEq
def okOffer (d : OfferD) : Prop := (∀ c ∈ d.fVersions, okVersion c) ∧ -9223372036854775808 ≤ d.fFace ∧ d.fFace ≤ 9223372036854775807
def vOffer (d : OfferD) (cv : Value) : Value := .agg #[cv, .int .i64 d.fFace]
def OfferAt (w : World) (v : Value) (d : OfferD) : Prop := ∃ cv, v = vOffer d cv ∧ FlatAt cVersion 2 w cv d.fVersions
def OwnsOffer (w : World) (B : Nat) (v : Value) (d : OfferD) : Prop := ∃ cv, v = vOffer d cv ∧ OwnsF cVersion 56 2 w B cv d.fVersions
def GivesOffer (d : OfferD) (w : World) (e : Ending) (w' : World) : Prop := ∃ v, e = .returned v ∧ OwnsOffer w' w.heap.size v d ∧ Below w.heap.size w w'
theorem OfferAt.below {w w' : World} {v : Value} {d : OfferD} {B : Nat} (h : OfferAt w v d) (hb : Below B w w') (hB : w.heap.size ≤ B) : OfferAt w' v d := by
  obtain ⟨cv, rfl, h⟩ := h; exact ⟨cv, rfl, h.below hb hB⟩
theorem ownsOffer_below {w w' : World} {B B' : Nat} {v : Value} {d : OfferD} (h : OwnsOffer w B v d) (hb : Below B' w w') (hB : w.heap.size ≤ B') : OwnsOffer w' B v d := by
  obtain ⟨cv, rfl, h⟩ := h; exact ⟨cv, rfl, ownsF_below h hb hB⟩
theorem ownsOffer_at {w : World} {B : Nat} {v : Value} {d : OfferD} (h : OwnsOffer w B v d) (hm : d.fVersions.length ≤ 4194304) : OfferAt w v d := by
  obtain ⟨cv, rfl, h⟩ := h; exact ⟨cv, rfl, ownsF_at h hm⟩
theorem box3 (w : World) (o p q) : Below w.heap.size w (((w.alloc o).alloc p).alloc q) := (((Below.refl _ _).alloc (Nat.le_refl _) o).alloc (by simp) p).alloc (by simp; omega) q
def zOffer (d : OfferD) : Nat := d.fVersions.length
end Go.Proofs.Ytaihdjdaamglnaa
/- Offer: how it reads, and what the laws' own helpers do with it. Written by gen/deep.py. -/
namespace Go.Proofs.Ytaihdjdaamglnaa
set_option linter.unusedVariables false
set_option linter.unusedSimpArgs false
open Go.RowKit
def rOffer : Nat → World → List Value → OfferD → Prop := fun F w cs x => ∃ v0, cs = [v0, .int .i64 x.fFace] ∧ SliceAt (rFlat cVersion) 2 F w v0 x.fVersions
theorem goodOffer : Good rOffer 2 := by
  refine ⟨?_, ?_, ?_⟩
  · rintro F w cs x ⟨v0, rfl, h0⟩; rfl
  · rintro F w w' cs x ⟨v0, rfl, h0⟩ hk; exact ⟨v0, rfl, h0.keep (good_flat cVersion_len) hk⟩
  · rintro F F' w cs x ⟨v0, rfl, h0⟩ hF; exact ⟨v0, rfl, h0.mono (good_flat cVersion_len) hF⟩
theorem offerAt_of {F : Nat} {w : World} {cs : List Value} {x : OfferD} (h : rOffer F w cs x) : OfferAt w (.agg cs.toArray) x := by
  obtain ⟨v0, rfl, h0⟩ := h
  exact ⟨v0, rfl, flatAt_of_slice cVersion_len (by decide) h0⟩
theorem ofOfferAt {w : World} {v : Value} {x : OfferD} (h : OfferAt w v x) : ValAt rOffer 0 w v x := by
  obtain ⟨cv, rfl, h⟩ := h
  exact ⟨_, rfl, cv, rfl, sliceAt_of_flat cVersion_len h⟩
theorem infoDOffer : (Try.prog.info? 52).map (fun i => (i.zero, i.size, i.bytes)) = some (some (.agg #[.slice none 0 0, .int .i64 0]), 2, 32) := by kernel_rfl
end Go.Proofs.Ytaihdjdaamglnaa
/- A region that draws its order, in which a condition on the world holds behind every operation but one, and that one waits for all that lean on it. -/
namespace Go.Proofs.Ytaihdjdaamglnaa
open Go
section
variable {P : Program} {ops : Array Oper} {Q : Exit → Act → World → Prop} {md : Region.Mode} {S : World → Prop} {t : Nat}
/-- what has come up has come up behind all that it waits for -/
def ClosedL (md : Region.Mode) (ops : Array Oper) (listed : Array Bool) : Prop :=
  ∀ k o, ops[k]? = some o → k < ops.size → listed.getD k false = true → ∀ e ∈ o.after, Region.binds md e = true → listed.getD e.on false = true
def closedB (md : Region.Mode) (ops : Array Oper) (listed : Array Bool) : Bool :=
  (List.range ops.size).all fun k => !listed.getD k false || match ops[k]? with
    | some o => o.after.all fun e => !Region.binds md e || listed.getD e.on false
    | none => true
/-- t waits for i, by however many steps -/
def reachB (md : Region.Mode) (ops : Array Oper) (i : Nat) : Nat → Nat → Bool
  | 0, _ => false
  | n + 1, t => match ops[t]? with
    | some o => o.after.any fun e => Region.binds md e && (e.on == i || reachB md ops i n e.on)
    | none => false
theorem closed_of {listed : Array Bool} (h : closedB md ops listed = true) : ClosedL md ops listed := by
  intro k o hk hlt hl e he hb
  have h1 := List.all_eq_true.1 h k (List.mem_range.2 hlt)
  simp only [hl, hk, Bool.not_true, Bool.false_or] at h1
  have h2 := Array.all_eq_true_iff_forall_mem.1 h1 e he
  simpa [hb] using h2
theorem closed_set {listed : Array Bool} {j : Nat} (hc : ClosedL md ops listed) (hj : j ∈ Region.ready md ops listed) : ClosedL md ops (listed.setIfInBounds j true) := by
  intro k o hk hlt hl e he hb
  obtain ⟨_, oj, hoj, hall⟩ := mem_ready.1 hj
  by_cases hjk : j = k
  · subst hjk
    rw [hoj] at hk; injection hk with hk; subst hk
    exact getD_set_true (hall e he hb)
  · rw [getD_set_ne false hjk] at hl
    exact getD_set_true (hc k o hk hlt hl e he hb)
theorem reach_listed {listed : Array Bool} (hc : ClosedL md ops listed) (i : Nat) : ∀ n s, reachB md ops i n s = true →
    (∀ o, ops[s]? = some o → ∀ e ∈ o.after, Region.binds md e = true → listed.getD e.on false = true) → listed.getD i false = true := by
  intro n
  induction n with
  | zero => intro s h; cases h
  | succ n ih =>
    intro s h hall
    unfold reachB at h
    split at h
    case h_2 => cases h
    rename_i o ho
    obtain ⟨e, he, h1⟩ := Array.any_eq_true'.1 h
    rw [Bool.and_eq_true, Bool.or_eq_true, beq_iff_eq] at h1
    have h2 := hall o ho e he h1.1
    rcases h1.2 with h3 | h3
    · rw [← h3]; exact h2
    · refine ih e.on h3 fun o' ho' => ?_
      exact hc e.on o' ho' (Array.getElem?_eq_some_iff.1 ho').1 h2
/-- whatever order is picked from here on; S holds behind every operation but t -/
def wpAnyT (P : Program) (md : Region.Mode) (ops : Array Oper) (Q : Exit → Act → World → Prop) (S : World → Prop) (t : Nat) : Nat → Array Bool → Act → World → Prop
  | 0, listed, a, w => Region.ready md ops listed = [] ∧ Q .normal a w
  | fuel + 1, listed, a, w =>
    (Region.ready md ops listed = [] → Q .normal a w) ∧
    ∀ i ∈ Region.ready md ops listed, wpOp P ops Q i (fun a' w' => (i ≠ t → S w') ∧ wpAnyT P md ops Q S t fuel (listed.setIfInBounds i true) a' w') a w
theorem any_of_T : ∀ (fuel : Nat) (listed : Array Bool) (a : Act) (w : World), wpAnyT P md ops Q S t fuel listed a w → wpAny P md ops Q fuel listed a w
  | 0, _, _, _, h => h
  | fuel + 1, _, _, _, h => ⟨h.1, fun i hi => wpOp_mono (fun a' w' h' => any_of_T fuel _ a' w' h'.2) (h.2 i hi)⟩
theorem anyT_first {i n : Nat} {oi : Oper} {v : Value} (hi : ops[i]? = some oi) (hsel : ∀ (j : Nat) (o : Oper) cs b, ops[j]? = some o → o.op ≠ .select cs b)
    (hQ : ∀ c a w, Q (.panic c) (a.put oi.dst v) w → Q (.panic c) a w) (hre : reachB md ops i n t = true) :
    ∀ (fuel : Nat) (listed : Array Bool) (a : Act) (w : World), ClosedL md ops listed →
      (∀ j oj, ops[j]? = some oj → j ≠ i → listed.getD j true = false → (∀ e ∈ oj.after, Region.binds md e = true → e.on ≠ i) → oi.apart ops oj = true) →
      i ∈ Region.ready md ops listed → YieldsIf P ops S oi v a → S w →
      wpAnyT P md ops Q S t fuel (listed.setIfInBounds i true) (a.put oi.dst v) w → wpAnyT P md ops Q S t (fuel + 1) listed a w := by
  intro fuel
  have unl : ∀ listed : Array Bool, i ∈ Region.ready md ops listed → listed.getD i false = false := fun listed hr => by
    have h0 := (mem_ready.1 hr).1
    rcases Nat.lt_or_ge i listed.size with h' | h'
    · simp [h'] at h0 ⊢; exact h0
    · simp [Array.getElem?_eq_none h']
  induction fuel with
  | zero =>
    intro listed a w hc _ hr hy hS H
    refine ⟨fun h => (by rw [h] at hr; cases hr), fun j hj => ?_⟩
    by_cases hji : j = i
    · subst hji; exact hy.wpOp hi hS ⟨fun _ => hS, H⟩
    · have := ready_mono hj hji
      rw [H.1] at this; cases this
  | succ fuel ih =>
    intro listed a w hc hfree hr hy hS H
    refine ⟨fun h => (by rw [h] at hr; cases hr), fun j hj => ?_⟩
    by_cases hji : j = i
    · subst hji; exact hy.wpOp hi hS ⟨fun _ => hS, H⟩
    · obtain ⟨hjun, oj, hoj, hall⟩ := mem_ready.1 hj
      have hjt : j ≠ t := fun e => by
        have := reach_listed hc i n t hre (fun o ho e' he' hb' => by rw [← e, hoj] at ho; injection ho with ho; subst ho; exact hall e' he' hb')
        rw [unl listed hr] at this; cases this
      have hnot : ∀ e ∈ oj.after, Region.binds md e = true → e.on ≠ i := fun e he hb heq => by
        have h1 := hall e he hb
        rw [heq, unl listed hr] at h1; cases h1
      have h2 := wpOp_putIf hoj (hfree j oj hoj hji hjun hnot) (fun cs b => hsel i oi cs b hi) (fun cs b => hsel j oj cs b hoj) hQ hy (H.2 j (ready_mono hj hji))
      refine wpOp_mono (fun a' w' h3 => ⟨fun _ => h3.2.1 hjt, ih (listed.setIfInBounds j true) a' w' (closed_set hc hj) ?_ (ready_mono hr (Ne.symm hji)) h3.1 (h3.2.1 hjt) ?_⟩) h2
      · intro k ok hk hki hun hno
        refine hfree k ok hk hki ?_ hno
        by_cases hjk : j = k
        · subst hjk; exact hjun
        · rw [getD_set_ne true hjk] at hun; exact hun
      · rw [Array.setIfInBounds_comm _ _ hji]; exact h3.2.2
theorem anyT_take {i : Nat} {oi : Oper} {v : Value} {fuel : Nat} {listed : Array Bool} {a : Act} {w : World} (hi : ops[i]? = some oi)
    (hs : Region.noSelect ops = true) (hf : Region.free md ops listed i = true) (hr : (Region.ready md ops listed).contains i = true) (hre : reachB md ops i ops.size t = true) (hc : closedB md ops listed = true)
    (hQ : ∀ c a w, Q (.panic c) (a.put oi.dst v) w → Q (.panic c) a w) (hy : YieldsIf P ops S oi v a) (hS : S w)
    (h : wpAnyT P md ops Q S t fuel (listed.setIfInBounds i true) (a.put oi.dst v) w) : wpAnyT P md ops Q S t (fuel + 1) listed a w :=
  anyT_first hi (Region.noSelect_spec hs) hQ hre fuel listed a w (closed_of hc) (Region.free_spec hi hf) (by simpa using hr) hy hS h
/-- the only one that may come up comes up: behind it S is to be shown anew -/
theorem anyT_only {i : Nat} {o : Oper} {fuel : Nat} {listed : Array Bool} {a : Act} {w : World} (hr : Region.ready md ops listed = [i]) (ho : ops[i]? = some o)
    (h : ∀ K' : Act → World → Prop, Shut (∀ a w, S w → (S w → wpAnyT P md ops Q S t fuel (listed.setIfInBounds i true) a w) → K' a w) → if Region.wanted o (yielded ops a.tmps) = true then Oper.wp P o a w K' Q else K' (a.put o.dst undef) w) :
    wpAnyT P md ops Q S t (fuel + 1) listed a w := by
  refine ⟨fun h0 => (by rw [h0] at hr; cases hr), fun j hj => ?_⟩
  rw [hr] at hj
  obtain rfl : j = i := by simpa using hj
  exact wpOp_step ho (fun K' hK => h K' (fun a w hS hW => hK a w ⟨fun _ => hS, hW hS⟩))
/-- t comes up, the last but for nothing -/
theorem anyT_tail {o : Oper} {fuel : Nat} {listed : Array Bool} {a : Act} {w : World} (hr : Region.ready md ops listed = [t]) (ho : ops[t]? = some o)
    (h : ∀ K' : Act → World → Prop, Shut (∀ a w, wpAnyT P md ops Q S t fuel (listed.setIfInBounds t true) a w → K' a w) → if Region.wanted o (yielded ops a.tmps) = true then Oper.wp P o a w K' Q else K' (a.put o.dst undef) w) :
    wpAnyT P md ops Q S t (fuel + 1) listed a w := by
  refine ⟨fun h0 => (by rw [h0] at hr; cases hr), fun j hj => ?_⟩
  rw [hr] at hj
  obtain rfl : j = t := by simpa using hj
  exact wpOp_step ho (fun K' hK => h K' (fun a w hW => hK a w ⟨fun h => absurd rfl h, hW⟩))
theorem anyT_done {listed : Array Bool} {a : Act} {w : World} (hr : Region.ready md ops listed = []) (h : Q .normal a w) : ∀ fuel, wpAnyT P md ops Q S t fuel listed a w
  | 0 => ⟨hr, h⟩
  | _ + 1 => ⟨fun _ => h, by rw [hr]; simp⟩
theorem region_T {id : Nat} {a : Act} {w : World} (hm : P.follows .mixedOrders = true) (hS : S w.drew)
    (h : S w.drew → wpAnyT P .any ops Q S t ops.size (Array.replicate ops.size false) a w.drew) : (Code.region id ops true).wp P Q a w :=
  wp_region_any hm (any_of_T _ _ _ _ (h hS))
end
end Go.Proofs.Ytaihdjdaamglnaa
/- Contracts of chapter 5: Meets, SinceOf, AllowedFace, GainsOf, the program's and the model's. -/
namespace Go.Proofs.Ytaihdjdaamglnaa
set_option linter.unusedVariables false
open Go.RowKit
set_option maxHeartbeats 1600000 in
theorem implSince_any (k : Int) (w : World) :
    Calls Try.prog 63 #[.int .i64 k] w fun e w' => e = .returned (sinV k) ∧ Below w.heap.size w w' := by
  unfold sinV
  by_cases hk : k < 0 ∨ 6 ≤ k
  · obtain ⟨h1, h2⟩ := sinceI_out hk
    rw [h1, h2]
    rcases hk with hk | hk
    all_goals
      clear h1 h2
      go_enter Try.func63, Try.ntmps63
      go_wp2
      refine bodyPost_ret (v := .tuple #[.agg #[.int .i64 0, .int .i64 0], .bool false]) (by simp [results, Try.results63, go_sem]) rfl ?_
      exact ⟨rfl, box1 _ _⟩
  · rcases (show k = 0 ∨ k = 1 ∨ k = 2 ∨ k = 3 ∨ k = 4 ∨ k = 5 by omega) with rfl | rfl | rfl | rfl | rfl | rfl
    all_goals
      clear hk
      go_enter Try.func63, Try.ntmps63
      go_wp2
      first | exact bodyPost_ret (v := .tuple #[.agg #[.int .i64 1, .int .i64 0], .bool true]) (by simp [results, Try.results63, go_sem]) rfl ⟨rfl, box1 _ _⟩ | exact bodyPost_ret (v := .tuple #[.agg #[.int .i64 1, .int .i64 1], .bool true]) (by simp [results, Try.results63, go_sem]) rfl ⟨rfl, box1 _ _⟩ | exact bodyPost_ret (v := .tuple #[.agg #[.int .i64 1, .int .i64 2], .bool true]) (by simp [results, Try.results63, go_sem]) rfl ⟨rfl, box1 _ _⟩ | exact bodyPost_ret (v := .tuple #[.agg #[.int .i64 2, .int .i64 0], .bool true]) (by simp [results, Try.results63, go_sem]) rfl ⟨rfl, box1 _ _⟩ | exact bodyPost_ret (v := .tuple #[.agg #[.int .i64 2, .int .i64 1], .bool true]) (by simp [results, Try.results63, go_sem]) rfl ⟨rfl, box1 _ _⟩
theorem implSince_nat (k : Nat) (h : k < 6) (w : World) :
    Calls Try.prog 63 #[.int .i64 k] w fun e w' => e = .returned (.tuple #[vVersion (sinceN k), .bool true]) ∧ Below w.heap.size w w' := by
  have := implSince_any k w
  unfold sinV at this; rw [sinceI_nat, show abB (k : Int) = true from decide_eq_true (by omega)] at this; exact this
set_option maxHeartbeats 1600000 in
theorem specSince_any (k : Int) (w : World) :
    Calls Try.prog 108 #[.int .i64 k] w fun e w' => e = .returned (sinV k) ∧ Below w.heap.size w w' := by
  unfold sinV
  by_cases hk : k < 0 ∨ 6 ≤ k
  · obtain ⟨h1, h2⟩ := sinceI_out hk
    rw [h1, h2]
    rcases hk with hk | hk
    · clear h1 h2
      go_enter Try.func108, Try.ntmps108
      go_wp2
      refine bodyPost_ret (v := .tuple #[.agg #[.int .i64 0, .int .i64 0], .bool false]) (by simp [results, Try.results108, go_sem]) rfl ?_
      exact ⟨rfl, box1 _ _⟩
    · have h0 : 0 ≤ k := by omega
      clear h1 h2
      go_enter Try.func108, Try.ntmps108
      go_wp2
      refine bodyPost_ret (v := .tuple #[.agg #[.int .i64 0, .int .i64 0], .bool false]) (by simp [results, Try.results108, go_sem]) rfl ?_
      exact ⟨rfl, box1 _ _⟩
  · rcases (show k = 0 ∨ k = 1 ∨ k = 2 ∨ k = 3 ∨ k = 4 ∨ k = 5 by omega) with rfl | rfl | rfl | rfl | rfl | rfl
    all_goals
      clear hk
      go_enter Try.func108, Try.ntmps108
      go_wp2
      first | exact bodyPost_ret (v := .tuple #[.agg #[.int .i64 1, .int .i64 0], .bool true]) (by simp [results, Try.results108, go_sem]) rfl ⟨rfl, box2 _ _ _⟩ | exact bodyPost_ret (v := .tuple #[.agg #[.int .i64 1, .int .i64 1], .bool true]) (by simp [results, Try.results108, go_sem]) rfl ⟨rfl, box2 _ _ _⟩ | exact bodyPost_ret (v := .tuple #[.agg #[.int .i64 1, .int .i64 2], .bool true]) (by simp [results, Try.results108, go_sem]) rfl ⟨rfl, box2 _ _ _⟩ | exact bodyPost_ret (v := .tuple #[.agg #[.int .i64 2, .int .i64 0], .bool true]) (by simp [results, Try.results108, go_sem]) rfl ⟨rfl, box2 _ _ _⟩ | exact bodyPost_ret (v := .tuple #[.agg #[.int .i64 2, .int .i64 1], .bool true]) (by simp [results, Try.results108, go_sem]) rfl ⟨rfl, box2 _ _ _⟩
theorem specSince_nat (k : Nat) (h : k < 6) (w : World) :
    Calls Try.prog 108 #[.int .i64 k] w fun e w' => e = .returned (.tuple #[vVersion (sinceN k), .bool true]) ∧ Below w.heap.size w w' := by
  have := specSince_any k w
  unfold sinV at this; rw [sinceI_nat, show abB (k : Int) = true from decide_eq_true (by omega)] at this; exact this
end Go.Proofs.Ytaihdjdaamglnaa
/- Offers, plain: which are valid. -/
namespace Go.Proofs.Ytaihdjdaamglnaa
set_option linter.unusedVariables false
open Go.RowKit
/-- the version at i is valid, and greater than the one before -/
def okAtV (l : List VersionD) (i : Nat) : Bool := verB (l.getD i default) && (decide (i = 0) || decide (cmpV (l.getD (i - 1) default) (l.getD i default) < 0))
def okToV (l : List VersionD) (k : Nat) : Bool := (List.range k).all (okAtV l)
def versB (l : List VersionD) : Bool := decide (l.length ≤ 4) && okToV l l.length
def offerB (d : OfferD) : Bool := isF d.fFace && versB d.fVersions
theorem okToV_zero (l : List VersionD) : okToV l 0 = true := rfl
theorem okToV_succ (l : List VersionD) (k : Nat) : okToV l (k + 1) = (okToV l k && okAtV l k) := by simp [okToV, List.range_succ]
theorem okToV_at (l : List VersionD) (k i : Nat) (h : okToV l k = true) (hi : i < k) : okAtV l i = true := by
  unfold okToV at h; rw [List.all_eq_true] at h; exact h i (by rw [List.mem_range]; exact hi)
theorem versB_bad (l : List VersionD) (k : Nat) (hk : k < l.length) (h : okAtV l k = false) : versB l = false := by
  cases hc : versB l with
  | false => rfl
  | true =>
    simp only [versB, Bool.and_eq_true] at hc
    rw [okToV_at l _ k hc.2 hk] at h; exact absurd h (by simp)
theorem versB_long (l : List VersionD) (h : 4 < l.length) : versB l = false := by unfold versB; rw [show decide (l.length ≤ 4) = false by simpa using h]; rfl
theorem versB_end (l : List VersionD) (h : okToV l l.length = true) : versB l = decide (l.length ≤ 4) := by unfold versB; rw [h, Bool.and_true]
theorem versB_len {l : List VersionD} (h : versB l = true) : l.length ≤ 4 := by simp only [versB, Bool.and_eq_true, decide_eq_true_iff] at h; exact h.1
theorem getD_V (l : List VersionD) (i : Nat) (h : i < l.length) : l.getD i default = l[i] := by rw [List.getD_eq_getElem?_getD, List.getElem?_eq_getElem h]; rfl
theorem okAtV_zero (l : List VersionD) (h : 0 < l.length) : okAtV l 0 = verB l[0] := by unfold okAtV; rw [getD_V l 0 h]; simp
theorem okAtV_succ (l : List VersionD) (j : Nat) (h : j + 1 < l.length) : okAtV l (j + 1) = (verB l[j + 1] && decide (cmpV l[j] l[j + 1] < 0)) := by
  unfold okAtV; rw [getD_V l (j + 1) h, show j + 1 - 1 = j by omega, getD_V l j (by omega)]; simp
end Go.Proofs.Ytaihdjdaamglnaa
/- Texts in ascending order, each once: the plain side. -/
namespace Go.Proofs.Ytaihdjdaamglnaa

/-- texts in strictly ascending order -/
def Strict (l : List (List UInt8)) : Prop := l.Pairwise (· < ·)
/-- s is put in front of the first text that is not less, unless it is that text -/
def ins (s : List UInt8) : List (List UInt8) → List (List UInt8)
  | [] => [s]
  | x :: r => if x < s then x :: ins s r else if x = s then x :: r else s :: x :: r
def ascL (x : List (List UInt8)) : List (List UInt8) := x.foldl (fun a y => ins y a) []

theorem strict_unique : ∀ {a b : List (List UInt8)}, Strict a → Strict b → (∀ x, x ∈ a ↔ x ∈ b) → a = b := by
  intro a
  induction a with
  | nil =>
    intro b _ _ h
    cases b with
    | nil => rfl
    | cons y s => exact absurd ((h y).2 (List.mem_cons_self ..)) (by simp)
  | cons x r ih =>
    intro b ha hb h
    cases b with
    | nil => exact absurd ((h x).1 (List.mem_cons_self ..)) (by simp)
    | cons y s =>
      have ha' := List.pairwise_cons.1 ha
      have hb' := List.pairwise_cons.1 hb
      have e : x = y := by
        rcases List.mem_cons.1 ((h x).1 (List.mem_cons_self ..)) with h1 | h1
        · exact h1
        · rcases List.mem_cons.1 ((h y).2 (List.mem_cons_self ..)) with h2 | h2
          · exact h2.symm
          · exact absurd (List.lt_trans (hb'.1 x h1) (ha'.1 y h2)) (List.lt_irrefl _)
      subst e
      congr 1
      refine ih ha'.2 hb'.2 fun z => ⟨fun hz => ?_, fun hz => ?_⟩
      · rcases List.mem_cons.1 ((h z).1 (List.mem_cons_of_mem _ hz)) with h1 | h1
        · subst h1; exact absurd (ha'.1 z hz) (List.lt_irrefl _)
        · exact h1
      · rcases List.mem_cons.1 ((h z).2 (List.mem_cons_of_mem _ hz)) with h1 | h1
        · subst h1; exact absurd (hb'.1 z hz) (List.lt_irrefl _)
        · exact h1
theorem mem_ins (s : List UInt8) : ∀ (l : List (List UInt8)) (z : List UInt8), z ∈ ins s l ↔ z = s ∨ z ∈ l := by
  intro l
  induction l with
  | nil => intro z; simp [ins]
  | cons x r ih =>
    intro z
    unfold ins
    split
    · simp only [List.mem_cons, ih]
      constructor
      · rintro (h | h | h)
        · exact Or.inr (Or.inl h)
        · exact Or.inl h
        · exact Or.inr (Or.inr h)
      · rintro (h | h | h)
        · exact Or.inr (Or.inl h)
        · exact Or.inl h
        · exact Or.inr (Or.inr h)
    · split
      · rename_i h; subst h; simp
      · simp
theorem strict_ins (s : List UInt8) : ∀ (l : List (List UInt8)), Strict l → Strict (ins s l) := by
  intro l
  induction l with
  | nil => intro _; simp [ins, Strict]
  | cons x r ih =>
    intro h
    have h' := List.pairwise_cons.1 h
    unfold ins
    split
    · rename_i hx
      refine List.pairwise_cons.2 ⟨fun z hz => ?_, ih h'.2⟩
      rcases (mem_ins s r z).1 hz with h1 | h1
      · subst h1; exact hx
      · exact h'.1 z h1
    · split
      · exact h
      · rename_i h1 h2
        have hsx : s < x := by
          rcases Decidable.em (s < x) with h3 | h3
          · exact h3
          · exact absurd (List.le_antisymm (List.not_lt.1 h3) (List.not_lt.1 h1)) h2
        refine List.pairwise_cons.2 ⟨fun z hz => ?_, h⟩
        rcases List.mem_cons.1 hz with h3 | h3
        · subst h3; exact hsx
        · exact List.lt_trans hsx (h'.1 z h3)
theorem foldl_ins : ∀ (x a : List (List UInt8)), Strict a → Strict (x.foldl (fun a y => ins y a) a) ∧ ∀ z, z ∈ x.foldl (fun a y => ins y a) a ↔ z ∈ a ∨ z ∈ x := by
  intro x
  induction x with
  | nil => intro a h; exact ⟨h, fun z => by simp⟩
  | cons y r ih =>
    intro a h
    have := ih (ins y a) (strict_ins y a h)
    refine ⟨this.1, fun z => ?_⟩
    rw [List.foldl_cons, this.2 z, mem_ins, List.mem_cons]
    constructor
    · rintro ((h | h) | h)
      · exact Or.inr (Or.inl h)
      · exact Or.inl h
      · exact Or.inr (Or.inr h)
    · rintro (h | h | h)
      · exact Or.inl (Or.inr h)
      · exact Or.inl (Or.inl h)
      · exact Or.inr h
theorem asc_strict (x : List (List UInt8)) : Strict (ascL x) := (foldl_ins x [] List.Pairwise.nil).1
theorem asc_mem (x : List (List UInt8)) (z : List UInt8) : z ∈ ascL x ↔ z ∈ x := by
  have := (foldl_ins x [] List.Pairwise.nil).2 z
  simpa [ascL] using this
theorem asc_eq {x y : List (List UInt8)} (h : Strict y) (hm : ∀ z, z ∈ y ↔ z ∈ x) : y = ascL x :=
  strict_unique h (asc_strict x) fun z => by rw [hm z, asc_mem x z]
theorem asc_idem (x : List (List UInt8)) : ascL (ascL x) = ascL x := (asc_eq (asc_strict x) fun _ => Iff.rfl).symm
theorem ins_len (s : List UInt8) (l : List (List UInt8)) : (ins s l).length ≤ l.length + 1 := by
  induction l with
  | nil => simp [ins]
  | cons x r ih => unfold ins; split <;> (try split) <;> simp <;> omega
theorem foldl_len : ∀ (x a : List (List UInt8)), (x.foldl (fun a y => ins y a) a).length ≤ a.length + x.length := by
  intro x
  induction x with
  | nil => intro a; simp
  | cons y r ih => intro a; have := ih (ins y a); have := ins_len y a; simp only [List.foldl_cons, List.length_cons]; omega
theorem asc_len (x : List (List UInt8)) : (ascL x).length ≤ x.length := by have := foldl_len x []; simpa [ascL] using this

/-- the loop of the model's l1Put -/
theorem ins_below {s : List UInt8} {p : List (List UInt8)} (h : ∀ z ∈ p, z < s) (t : List (List UInt8)) : ins s (p ++ t) = p ++ ins s t := by
  induction p with
  | nil => rfl
  | cons x r ih =>
    have hx := h x (List.mem_cons_self ..)
    simp only [List.cons_append, ins, if_pos hx]
    rw [ih fun z hz => h z (List.mem_cons_of_mem _ hz)]
theorem ins_done {s : List UInt8} {p : List (List UInt8)} (h : ∃ z ∈ p, ¬ z < s) (t : List (List UInt8)) : ins s (p ++ t) = ins s p ++ t := by
  induction p with
  | nil => obtain ⟨z, hz, _⟩ := h; simp at hz
  | cons x r ih =>
    simp only [List.cons_append, ins]
    by_cases hx : x < s
    · obtain ⟨z, hz, hzs⟩ := h
      rcases List.mem_cons.1 hz with h1 | h1
      · subst h1; exact absurd hx hzs
      · rw [if_pos hx, if_pos hx, ih ⟨z, h1, hzs⟩]; rfl
    · rw [if_neg hx, if_neg hx]
      split <;> rfl

/-- what slices.Compact leaves of a sorted list -/
theorem compact_sorted (d : Array (List UInt8)) (hs : ∀ i j, i ≤ j → j < d.size → d[i]! ≤ d[j]!) : ∀ m, m ≤ d.size →
    Strict (Lib.compactUpTo d m) ∧ (∀ z, z ∈ Lib.compactUpTo d m ↔ ∃ i, i < m ∧ d[i]! = z) := by
  intro m
  induction m with
  | zero => intro _; exact ⟨List.Pairwise.nil, fun z => by simp [Lib.compactUpTo]⟩
  | succ m ih =>
    intro hm
    obtain ⟨h1, h2⟩ := ih (by omega)
    rw [Lib.compactUpTo_succ]
    by_cases hk : m = 0 ∨ d[m]! ≠ d[m - 1]!
    · have hk' : Lib.keeps d m = true := by simpa [Lib.keeps] using hk
      rw [if_pos hk']
      constructor
      · refine List.pairwise_append.2 ⟨h1, by simp, fun a ha b hb => ?_⟩
        have hb' : b = d[m]! := by simpa using hb
        subst hb'
        obtain ⟨i, hi, rfl⟩ := (h2 a).1 ha
        have hne : d[m]! ≠ d[m - 1]! := by rcases hk with h | h; · omega
                                           · exact h
        rcases Decidable.em (d[i]! < d[m]!) with h | h
        · exact h
        · exfalso
          have e : d[i]! = d[m]! := List.le_antisymm (hs i m (by omega) (by omega)) (List.not_lt.1 h)
          have h3 := hs i (m - 1) (by omega) (by omega)
          have h4 := hs (m - 1) m (by omega) (by omega)
          rw [e] at h3
          exact hne (List.le_antisymm h3 h4)
      · intro z
        rw [List.mem_append, h2 z]
        constructor
        · rintro (⟨i, hi, e⟩ | h)
          · exact ⟨i, by omega, e⟩
          · exact ⟨m, by omega, by simpa using (show z = d[m]! by simpa using h).symm⟩
        · rintro ⟨i, hi, e⟩
          rcases Nat.lt_or_ge i m with h | h
          · exact Or.inl ⟨i, h, e⟩
          · right; have : i = m := by omega
            subst this; simp [e]
    · have hk' : Lib.keeps d m = false := by simpa [Lib.keeps] using hk
      rw [if_neg (by simp [hk']), List.append_nil]
      refine ⟨h1, fun z => ?_⟩
      rw [h2 z]
      constructor
      · rintro ⟨i, hi, e⟩; exact ⟨i, by omega, e⟩
      · rintro ⟨i, hi, e⟩
        rcases Nat.lt_or_ge i m with h | h
        · exact ⟨i, h, e⟩
        · have : i = m := by omega
          subst this
          have hm0 : i ≠ 0 := fun h => hk (Or.inl h)
          have he : d[i]! = d[i - 1]! := Decidable.byContradiction fun h => hk (Or.inr h)
          exact ⟨i - 1, by omega, by rw [← he]; exact e⟩
def leB (x y : List UInt8) : Bool := decide (x ≤ y)
theorem compact_mergeSort (x : List (List UInt8)) : Lib.compact (x.mergeSort fun a b => decide (a ≤ b)) = ascL x := by
  have hp := List.pairwise_mergeSort (le := fun a b : List UInt8 => decide (a ≤ b)) (fun a b c h1 h2 => by simp at *; exact List.le_trans h1 h2) (fun a b => by simp; exact List.le_total a b) x
  generalize hl : (x.mergeSort fun a b => decide (a ≤ b)) = l at *
  have hmem : ∀ z, z ∈ l ↔ z ∈ x := fun z => by rw [← hl]; exact List.mem_mergeSort
  have hs : ∀ i j, i ≤ j → j < l.toArray.size → l.toArray[i]! ≤ l.toArray[j]! := by
    intro i j hij hj
    have hj' : j < l.length := by simpa using hj
    rw [getElem!_pos _ i (by simp; omega), getElem!_pos _ j (by simpa using hj')]
    simp only [List.getElem_toArray]
    rcases Nat.lt_or_ge i j with h | h
    · have := List.pairwise_iff_getElem.1 hp i j (by omega) hj' h
      simpa using this
    · have : i = j := by omega
      subst this; exact List.le_refl _
  have h := compact_sorted l.toArray hs l.length (by simp)
  refine asc_eq h.1 fun z => ?_
  rw [← hmem z]
  unfold Lib.compact
  rw [h.2 z, List.mem_iff_getElem]
  constructor
  · rintro ⟨i, hi, e⟩; exact ⟨i, hi, by rw [← e, getElem!_pos _ i (by simpa using hi)]; simp⟩
  · rintro ⟨i, hi, e⟩; exact ⟨i, hi, by rw [getElem!_pos _ i (by simpa using hi)]; simpa using e⟩
end Go.Proofs.Ytaihdjdaamglnaa
/- Faces: what the laws of chapter 2 say of the plain side. -/
namespace Go.Proofs.Ytaihdjdaamglnaa
set_option linter.unusedVariables false
open Go.RowKit
theorem offers_iff {f w : Int} (hf : isF f = true) (hw : isF w = true) : offersF f w = true ↔ ∀ j, j < 6 → hasI w j = true → hasI f j = true := by
  unfold offersF lackF
  rw [if_pos ⟨hf, hw⟩, hf, hw]
  simp only [Bool.and_self, Bool.true_and, beq_iff_eq]
  rw [madeK_zero]
  refine ⟨fun h j hj hj2 => ?_, fun h j hj => ?_⟩
  · have := h j hj
    unfold lackP at this
    rw [hj2] at this
    simpa using this
  · unfold lackP
    cases hx : hasI w j with
    | false => rfl
    | true => rw [h j hj hx]; rfl
theorem offers_refl {f : Int} (hf : isF f = true) : offersF f f = true := (offers_iff hf hf).2 fun _ _ h => h
theorem offers_trans {a b c : Int} (ha : isF a = true) (hb : isF b = true) (hc : isF c = true) (h1 : offersF a b = true) (h2 : offersF b c = true) : offersF a c = true :=
  (offers_iff ha hc).2 fun j hj h => (offers_iff ha hb).1 h1 j hj ((offers_iff hb hc).1 h2 j hj h)
theorem zero_offered {a : Int} (ha : isF a = true) : offersF a 0 = true := (offers_iff ha rfl).2 fun j hj h => by
  rcases (show j = 0 ∨ j = 1 ∨ j = 2 ∨ j = 3 ∨ j = 4 ∨ j = 5 by omega) with rfl | rfl | rfl | rfl | rfl | rfl <;> exact absurd h (by decide)
theorem all_offers {a : Int} (ha : isF a = true) : offersF 63 a = true := (offers_iff rfl ha).2 fun j hj h => by
  rcases (show j = 0 ∨ j = 1 ∨ j = 2 ∨ j = 3 ∨ j = 4 ∨ j = 5 by omega) with rfl | rfl | rfl | rfl | rfl | rfl <;> decide
theorem ext_fin : ∀ a b : Fin 64, (∀ j : Fin 6, hasI (a : Nat) j = hasI (b : Nat) j) → a = b := by decide +kernel
theorem face_ext {a b : Int} (ha : isF a = true) (hb : isF b = true) (h : ∀ j, j < 6 → hasI a j = hasI b j) : a = b := by
  obtain ⟨A, rfl⟩ := isF_fin ha; obtain ⟨B, rfl⟩ := isF_fin hb
  rw [ext_fin A B fun j => h j j.isLt]
theorem offers_anti {a b : Int} (ha : isF a = true) (hb : isF b = true) (h1 : offersF a b = true) (h2 : offersF b a = true) : a = b :=
  face_ext ha hb fun j hj => by
    have x := (offers_iff ha hb).1 h1 j hj
    have y := (offers_iff hb ha).1 h2 j hj
    cases hx : hasI a j <;> cases hy : hasI b j <;> simp_all
theorem isF_made (p : Nat → Bool) : isF (madeK p 6) = true := by have := madeK_6 p; exact decide_eq_true (by omega)
theorem hasI_fin : ∀ b0 b1 b2 b3 b4 b5 : Bool, ∀ j : Fin 6, hasI ((((((0 + if b0 then 2 ^ 0 else 0) + if b1 then 2 ^ 1 else 0) + if b2 then 2 ^ 2 else 0) + if b3 then 2 ^ 3 else 0) + if b4 then 2 ^ 4 else 0) + if b5 then 2 ^ 5 else 0) j = [b0, b1, b2, b3, b4, b5].getD j false := by decide +kernel
theorem hasI_made (p : Nat → Bool) (j : Nat) (hj : j < 6) : hasI (madeK p 6) j = p j := by
  have h := hasI_fin (p 0) (p 1) (p 2) (p 3) (p 4) (p 5) ⟨j, hj⟩
  refine Eq.trans h ?_
  rcases (show j = 0 ∨ j = 1 ∨ j = 2 ∨ j = 3 ∨ j = 4 ∨ j = 5 by omega) with rfl | rfl | rfl | rfl | rfl | rfl <;> rfl
theorem both_is {a b : Int} (ha : isF a = true) (hb : isF b = true) : bothF a b = madeK (bothP a b) 6 := if_pos ⟨ha, hb⟩
theorem either_is {a b : Int} (ha : isF a = true) (hb : isF b = true) : eitherF a b = madeK (eitherP a b) 6 := if_pos ⟨ha, hb⟩
theorem lack_is {a b : Int} (ha : isF a = true) (hb : isF b = true) : lackF a b = madeK (lackP b a) 6 := if_pos ⟨ha, hb⟩
theorem isF_both {a b : Int} (ha : isF a = true) (hb : isF b = true) : isF (bothF a b) = true := by rw [both_is ha hb]; exact isF_made _
theorem isF_either {a b : Int} (ha : isF a = true) (hb : isF b = true) : isF (eitherF a b) = true := by rw [either_is ha hb]; exact isF_made _
theorem isF_lack {a b : Int} (ha : isF a = true) (hb : isF b = true) : isF (lackF a b) = true := by rw [lack_is ha hb]; exact isF_made _
theorem bool_iff {a b : Bool} (h : a = true ↔ b = true) : a = b := by cases a <;> cases b <;> simp_all
theorem offers_both {a b f : Int} (ha : isF a = true) (hb : isF b = true) (hf : isF f = true) : offersF (bothF a b) f = (offersF a f && offersF b f) := by
  apply bool_iff
  rw [Bool.and_eq_true, offers_iff (isF_both ha hb) hf, offers_iff ha hf, offers_iff hb hf, both_is ha hb]
  refine ⟨fun h => ⟨fun j hj k => ?_, fun j hj k => ?_⟩, fun h j hj k => ?_⟩
  · have := h j hj k; rw [hasI_made _ _ hj] at this; unfold bothP at this; rw [Bool.and_eq_true] at this; exact this.1
  · have := h j hj k; rw [hasI_made _ _ hj] at this; unfold bothP at this; rw [Bool.and_eq_true] at this; exact this.2
  · rw [hasI_made _ _ hj]; unfold bothP; rw [Bool.and_eq_true]; exact ⟨h.1 j hj k, h.2 j hj k⟩
theorem offers_either {a b f : Int} (ha : isF a = true) (hb : isF b = true) (hf : isF f = true) : offersF f (eitherF a b) = (offersF f a && offersF f b) := by
  apply bool_iff
  rw [Bool.and_eq_true, offers_iff hf (isF_either ha hb), offers_iff hf ha, offers_iff hf hb, either_is ha hb]
  refine ⟨fun h => ⟨fun j hj k => h j hj ?_, fun j hj k => h j hj ?_⟩, fun h j hj k => ?_⟩
  · rw [hasI_made _ _ hj]; unfold eitherP; rw [k]; rfl
  · rw [hasI_made _ _ hj]; unfold eitherP; rw [k, Bool.or_true]
  · rw [hasI_made _ _ hj] at k; unfold eitherP at k; rw [Bool.or_eq_true] at k; rcases k with k | k
    · exact h.1 j hj k
    · exact h.2 j hj k
theorem offers_lack {a b : Int} (ha : isF a = true) (hb : isF b = true) : offersF a b = (lackF a b == 0) := by unfold offersF; rw [ha, hb]; rfl
theorem back_both {a b : Int} (ha : isF a = true) (hb : isF b = true) : eitherF (bothF a b) (lackF b a) = a := by
  refine face_ext (isF_either (isF_both ha hb) (isF_lack hb ha)) ha fun j hj => ?_
  rw [either_is (isF_both ha hb) (isF_lack hb ha), hasI_made _ _ hj]
  unfold eitherP
  rw [both_is ha hb, lack_is hb ha, hasI_made _ _ hj, hasI_made _ _ hj]
  unfold bothP lackP
  cases hasI a j <;> cases hasI b j <;> rfl
theorem both_lack {a b : Int} (ha : isF a = true) (hb : isF b = true) : bothF b (lackF b a) = 0 := by
  rw [both_is hb (isF_lack hb ha), madeK_zero]
  intro j hj
  unfold bothP
  rw [lack_is hb ha, hasI_made _ _ hj]
  unfold lackP
  cases hasI a j <;> cases hasI b j <;> rfl
theorem count_fin : ∀ a b : Fin 64, (abilL (eitherF (a : Nat) (b : Nat))).length + (abilL (bothF (a : Nat) (b : Nat))).length = (abilL (a : Nat)).length + (abilL (b : Nat)).length := by decide +kernel
theorem count_eq {a b : Int} (ha : isF a = true) (hb : isF b = true) : (abilL (eitherF a b)).length + (abilL (bothF a b)).length = (abilL a).length + (abilL b).length := by
  obtain ⟨A, rfl⟩ := isF_fin ha; obtain ⟨B, rfl⟩ := isF_fin hb; exact count_fin A B
theorem under_mem {f x : Int} (h : x ∈ underL f) : offersF f x = true := by
  unfold underL underK at h
  obtain ⟨g, hg, rfl⟩ := List.mem_map.1 h
  exact (List.mem_filter.1 hg).2
theorem under_asc (f : Int) : (underL f).Pairwise (· < ·) := by
  unfold underL underK
  refine List.Pairwise.map _ (R := (· < ·)) (fun a b h => by omega) ?_
  exact List.Pairwise.filter _ List.pairwise_lt_range
theorem under_fin : ∀ a : Fin 64, (underL (a : Nat)).length = 2 ^ (abilL (a : Nat)).length := by decide +kernel
theorem under_len {f : Int} (hf : isF f = true) : (underL f).length = 2 ^ (abilL f).length := by obtain ⟨A, rfl⟩ := isF_fin hf; exact under_fin A
theorem under_no {f : Int} (hf : isF f = false) : underL f = [] := by
  unfold underL underK
  rw [List.map_eq_nil_iff, List.filter_eq_nil_iff]
  intro g _
  unfold offersF; rw [hf]; simp
-- methods
theorem meth_fin : ∀ a : Fin 64, ∀ k : Fin 6, ∀ s ∈ mthN k, decide (s ∈ methsF (a : Nat)) = hasI (a : Nat) k := by decide +kernel
theorem meth_has {a : Int} (ha : isF a = true) {k : Nat} (hk : k < 6) {s : List UInt8} (hs : s ∈ mthN k) : s ∈ methsF a ↔ hasI a k = true := by
  obtain ⟨A, rfl⟩ := isF_fin ha
  have := meth_fin A ⟨k, hk⟩ s hs
  rw [← this]; simp
theorem abOfM_fin : ∀ k : Fin 6, ∀ s ∈ mthN k, abOfM s = (k : Nat) := by decide +kernel
theorem meth_of {b : Int} {s : List UInt8} (h : s ∈ methsF b) : ∃ k, k < 6 ∧ s ∈ mthN k ∧ abOfM s = (k : Nat) := by
  unfold methsF at h
  obtain ⟨k, hk, hs⟩ := List.mem_flatMap.1 h
  have hk6 := abilL_lt b k hk
  exact ⟨k, hk6, hs, abOfM_fin ⟨k, hk6⟩ s hs⟩
theorem pow_fin : ∀ b : Fin 64, ∀ k : Fin 6, hasI (b : Nat) k = true → offersF (b : Nat) (2 ^ (k : Nat)) = true := by decide +kernel
theorem pow_offered {b : Int} (hb : isF b = true) {k : Nat} (hk : k < 6) (h : hasI b k = true) : offersF b (2 ^ k) = true := by
  obtain ⟨B, rfl⟩ := isF_fin hb; exact pow_fin B ⟨k, hk⟩ h
theorem faceM_congr {x y : List (List UInt8)} (h : ∀ s, s ∈ x ↔ s ∈ y) : faceOfM x = faceOfM y := by
  unfold faceOfM
  have : faceM x = faceM y := funext fun k => by
    unfold faceM
    congr 1
    funext s
    exact decide_eq_decide.2 (h s)
  rw [this]
theorem faceM_fin : ∀ a : Fin 64, faceOfM (methsF (a : Nat)) = (a : Nat) := by decide +kernel
theorem mem_asc (x : List (List UInt8)) (s : List UInt8) : s ∈ ascL x ↔ s ∈ x := by
  unfold ascL
  suffices h : ∀ (l acc : List (List UInt8)), s ∈ l.foldl (fun a y => ins y a) acc ↔ s ∈ acc ∨ s ∈ l by simpa using h x []
  intro l
  induction l with
  | nil => intro acc; simp
  | cons y r ih =>
    intro acc
    rw [List.foldl_cons, ih, mem_ins, List.mem_cons]
    constructor
    · rintro ((h | h) | h)
      · exact Or.inr (Or.inl h)
      · exact Or.inl h
      · exact Or.inr (Or.inr h)
    · rintro (h | h | h)
      · exact Or.inl (Or.inr h)
      · exact Or.inl (Or.inl h)
      · exact Or.inr h
theorem faceM_asc {a : Int} (ha : isF a = true) : faceOfM (ascL (methsF a)) = a := by
  rw [faceM_congr (mem_asc _)]
  obtain ⟨A, rfl⟩ := isF_fin ha; exact faceM_fin A
theorem offers_meths {a b : Int} (ha : isF a = true) (hb : isF b = true) : offersF a b = (ascL (methsF b)).all fun s => decide (s ∈ ascL (methsF a)) := by
  apply bool_iff
  rw [offers_iff ha hb, List.all_eq_true]
  refine ⟨fun h s hs => ?_, fun h j hj k => ?_⟩
  · rw [mem_asc] at hs
    obtain ⟨k, hk, hsk, _⟩ := meth_of hs
    rw [decide_eq_true_eq, mem_asc, meth_has ha hk hsk]
    exact h k hk ((meth_has hb hk hsk).1 hs)
  · have hne : ∃ s, s ∈ mthN j := by
      rcases (show j = 0 ∨ j = 1 ∨ j = 2 ∨ j = 3 ∨ j = 4 ∨ j = 5 by omega) with rfl | rfl | rfl | rfl | rfl | rfl <;> exact ⟨_, List.mem_cons_self ..⟩
    obtain ⟨s, hs⟩ := hne
    have h2 := h s ((mem_asc _ _).2 ((meth_has hb hj hs).2 k))
    rw [decide_eq_true_eq, mem_asc] at h2
    exact (meth_has ha hj hs).1 h2
theorem meth_offered {b : Int} (hb : isF b = true) {s : List UInt8} (h : s ∈ ascL (methsF b)) : ∃ k : Nat, k < 6 ∧ abOfM s = k ∧ offersF b (2 ^ k) = true := by
  rw [mem_asc] at h
  obtain ⟨k, hk, hs, he⟩ := meth_of h
  exact ⟨k, hk, he, pow_offered hb hk ((meth_has hb hk hs).1 h)⟩
end Go.Proofs.Ytaihdjdaamglnaa
namespace Go.Proofs.Ytaihdjdaamglnaa
set_option linter.unusedVariables false
open Go.RowKit
theorem cmpV_zero {a b : VersionD} : cmpV a b = 0 ↔ a = b := by
  rcases cmpV_cases a b with ⟨h, e⟩ | ⟨h, e⟩ | ⟨h, e⟩
  · rw [e]; constructor
    · intro h; omega
    · intro h2; subst h2; omega
  · rw [e]; simp [h]
  · rw [e]; constructor
    · intro h; omega
    · intro h2; subst h2; omega
theorem cmpV_lt {a b : VersionD} : cmpV a b < 0 ↔ (a.fMajor < b.fMajor ∨ a.fMajor = b.fMajor ∧ a.fMinor < b.fMinor) := by
  rcases cmpV_cases a b with ⟨h, e⟩ | ⟨h, e⟩ | ⟨h, e⟩ <;> rw [e]
  · simp [h]
  · subst h; simp
  · constructor
    · intro h; omega
    · intro h; omega
theorem cmpV_trans {a b c : VersionD} (h : cmpV a b < 0) (k : cmpV b c < 0) : cmpV a c < 0 := by
  rw [cmpV_lt] at *; omega
theorem cmpV_self (a : VersionD) : cmpV a a = 0 := cmpV_zero.2 rfl
/-- in ascending order -/
def SortedV (l : List VersionD) : Prop := ∀ i j, i < j → j < l.length → cmpV (l.getD i default) (l.getD j default) < 0
theorem sorted_of {l : List VersionD} (h : versB l = true) : SortedV l := by
  have hok : ∀ j, j + 1 < l.length → cmpV (l.getD j default) (l.getD (j + 1) default) < 0 := by
    intro j hj
    simp only [versB, Bool.and_eq_true] at h
    have h2 := okToV_at l _ (j + 1) h.2 hj
    rw [okAtV_succ l j hj, Bool.and_eq_true, decide_eq_true_iff] at h2
    rw [getD_V l j (by omega), getD_V l (j + 1) hj]
    exact h2.2
  intro i j hij
  obtain ⟨d, rfl⟩ : ∃ d, j = i + 1 + d := ⟨j - i - 1, by omega⟩
  clear hij
  induction d with
  | zero => intro hj; exact hok i hj
  | succ d ih => intro hj; exact cmpV_trans (ih (by omega)) (hok (i + 1 + d) (by omega))
def inV (l : List VersionD) (v : VersionD) : Bool := decide (v ∈ l)
theorem inV_of {l : List VersionD} {v : VersionD} {m : Nat} (hs : SortedV l) (hm : m ≤ l.length) (h1 : ∀ t, t < m → cmpV (l.getD t default) v < 0) (h2 : ∀ t, m ≤ t → t < l.length → ¬ cmpV (l.getD t default) v < 0) :
    inV l v = (decide (m < l.length) && decide (cmpV (l.getD m default) v = 0)) := by
  unfold inV
  rw [Bool.eq_iff_iff]
  simp only [Bool.and_eq_true, decide_eq_true_eq]
  constructor
  · intro hv
    obtain ⟨a, ha, rfl⟩ := List.getElem_of_mem hv
    have e0 : cmpV (l.getD a default) l[a] = 0 := by rw [getD_V l a ha]; exact cmpV_self _
    have hma : m ≤ a := by
      refine Nat.le_of_not_lt fun h => ?_
      have := h1 a h; omega
    have ham : a ≤ m := by
      refine Nat.le_of_not_lt fun h => ?_
      have h3 := hs m a h ha
      rw [getD_V l a ha] at h3
      exact h2 m (Nat.le_refl _) (by omega) h3
    have : a = m := by omega
    subst this
    exact ⟨ha, e0⟩
  · rintro ⟨hlt, h3⟩
    rw [getD_V l m hlt, cmpV_zero] at h3
    rw [← h3]; exact List.getElem_mem hlt
def allHaveB (l : List OfferD) (v : VersionD) : Bool := l.all fun x => inV x.fVersions v
def comV : List OfferD → List VersionD
  | [] => []
  | x :: r => x.fVersions.filter (allHaveB (x :: r))
def comF (l : List OfferD) : Int := l.foldl (fun f x => bothF f x.fFace) 63
structure DealD where
  fMajor : Int
  fMinor : Int
  fFace : Int
deriving DecidableEq
def dealOf (l : List OfferD) : Option VersionD → DealD
  | none => ⟨0, 0, 0⟩
  | some v => ⟨v.fMajor, v.fMinor, bothF (comF l) (allowF v)⟩
def dealO (l : List OfferD) : Option VersionD := if l.all offerB = true then (comV l).getLast? else none
def dealV (l : List OfferD) : DealD := dealOf l (dealO l)
def dealB (l : List OfferD) : Bool := (dealO l).isSome
theorem comF_face (l : List OfferD) : isF (comF l) = true := by
  unfold comF
  have : ∀ (f : Int), isF f = true → isF (l.foldl (fun f x => bothF f x.fFace) f) = true := by
    induction l with
    | nil => intro f h; exact h
    | cons x r ih =>
      intro f h
      refine ih _ ?_
      have h6 : 0 ≤ bothF f x.fFace ∧ bothF f x.fFace ≤ 63 := by unfold bothF; split; exact madeK_6 _; omega
      unfold isF; exact decide_eq_true h6
  exact this 63 rfl
end Go.Proofs.Ytaihdjdaamglnaa
