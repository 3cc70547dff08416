/- How a law is closed that answers true and only makes new memory: its arguments read as before. -/
import Derived.Test.YtmoliamenekemabRows
import Derived.WalkKit
import Derived.ProofKit
import Derived.OpenShut
import Derived.Lib.UnsafeStr
namespace Go.Proofs.Ytmoliamenekemab
set_option linter.unusedVariables false
open Go.ChangeShapes Go.WideShapes Go.ChangeAt Go.RowKit Go.WideMaps Go.WideElems
open Go.ChangeMaps (open_string shut_string)

theorem ownK : ownKnob Try.prog.godebug = none := by kernel_rfl
theorem laidK : laidOutB Try.prog = true := by kernel_rfl
def initL : List Char := let c := Char.ofNat; [c 104, c 97, c 114, c 110, c 101, c 115, c 115, c 32, c 101, c 100, c 55, c 49, c 98, c 54, c 50, c 55, c 56, c 51, c 100, c 102, c 48, c 99, c 99, c 51, c 101, c 49, c 101, c 57, c 53, c 97, c 49, c 57, c 99, c 52, c 97, c 57, c 50, c 53, c 53, c 97, c 56, c 55, c 100, c 48, c 57, c 100, c 97, c 51, c 102, c 54, c 102, c 49, c 54, c 57, c 56, c 48, c 100, c 57, c 98, c 56, c 51, c 54, c 51, c 57, c 54, c 57, c 48, c 51, c 57, c 97, c 51, c 50, c 32, c 99, c 117, c 116, c 32, c 97, c 116, c 32, c 108, c 111, c 111, c 112, c 46, c 101, c 120, c 97, c 109, c 112, c 108, c 101, c 47, c 103, c 48, c 51, c 48, c 49, c 54, c 47, c 108, c 97, c 119, c 115, c 46, c 70, c 110, c 68, c 101, c 97, c 108, c 32, c 108, c 111, c 111, c 112, c 46, c 101, c 120, c 97, c 109, c 112, c 108, c 101, c 47, c 103, c 48, c 51, c 48, c 49, c 54, c 47, c 108, c 97, c 119, c 115, c 46, c 70, c 110, c 68, c 101, c 97, c 108, c 83, c 105, c 100, c 101, c 115, c 32, c 108, c 111, c 111, c 112, c 46, c 101, c 120, c 97, c 109, c 112, c 108, c 101, c 47, c 103, c 48, c 51, c 48, c 49, c 54, c 47, c 108, c 97, c 119, c 115, c 46, c 70, c 110, c 68, c 101, c 97, c 108, c 77, c 111, c 114, c 101, c 32, c 108, c 111, c 111, c 112, c 46, c 101, c 120, c 97, c 109, c 112, c 108, c 101, c 47, c 103, c 48, c 51, c 48, c 49, c 54, c 47, c 108, c 97, c 119, c 115, c 46, c 70, c 110, c 69, c 120, c 97, c 99, c 116, c 65, c 115, c 99, c 101, c 110, c 100, c 105, c 110, c 103, c 32, c 108, c 111, c 111, c 112, c 46, c 101, c 120, c 97, c 109, c 112, c 108, c 101, c 47, c 103, c 48, c 51, c 48, c 49, c 54, c 47, c 108, c 97, c 119, c 115, c 46, c 70, c 110, c 83, c 112, c 108, c 105, c 116, c 115, c 32, c 108, c 111, c 111, c 112, c 46, c 101, c 120, c 97, c 109, c 112, c 108, c 101, c 47, c 103, c 48, c 51, c 48, c 49, c 54, c 47, c 108, c 97, c 119, c 115, c 46, c 70, c 110, c 67, c 97, c 108, c 108, c 84, c 101, c 120, c 116]
def initW : List (List Char) := let c := Char.ofNat; [[c 99, c 117, c 116], [c 97, c 116], [c 108, c 111, c 111, c 112, c 46, c 101, c 120, c 97, c 109, c 112, c 108, c 101, c 47, c 103, c 48, c 51, c 48, c 49, c 54, c 47, c 108, c 97, c 119, c 115, c 46, c 70, c 110, c 68, c 101, c 97, c 108], [c 108, c 111, c 111, c 112, c 46, c 101, c 120, c 97, c 109, c 112, c 108, c 101, c 47, c 103, c 48, c 51, c 48, c 49, c 54, c 47, c 108, c 97, c 119, c 115, c 46, c 70, c 110, c 68, c 101, c 97, c 108, c 83, c 105, c 100, c 101, c 115], [c 108, c 111, c 111, c 112, c 46, c 101, c 120, c 97, c 109, c 112, c 108, c 101, c 47, c 103, c 48, c 51, c 48, c 49, c 54, c 47, c 108, c 97, c 119, c 115, c 46, c 70, c 110, c 68, c 101, c 97, c 108, c 77, c 111, c 114, c 101], [c 108, c 111, c 111, c 112, c 46, c 101, c 120, c 97, c 109, c 112, c 108, c 101, c 47, c 103, c 48, c 51, c 48, c 49, c 54, c 47, c 108, c 97, c 119, c 115, c 46, c 70, c 110, c 69, c 120, c 97, c 99, c 116, c 65, c 115, c 99, c 101, c 110, c 100, c 105, c 110, c 103], [c 108, c 111, c 111, c 112, c 46, c 101, c 120, c 97, c 109, c 112, c 108, c 101, c 47, c 103, c 48, c 51, c 48, c 49, c 54, c 47, c 108, c 97, c 119, c 115, c 46, c 70, c 110, c 83, c 112, c 108, c 105, c 116, c 115], [c 108, c 111, c 111, c 112, c 46, c 101, c 120, c 97, c 109, c 112, c 108, c 101, c 47, c 103, c 48, c 51, c 48, c 49, c 54, c 47, c 108, c 97, c 119, c 115, c 46, c 70, c 110, c 67, c 97, c 108, c 108, c 84, c 101, c 120, c 116]]
set_option maxRecDepth 100000 in
theorem initStr : Try.prog.initOrder = String.ofList initL := by kernel_rfl
theorem initSigns : Try.prog.initOrder.toList = initL := by rw [initStr, String.toList_ofList]
set_option maxRecDepth 100000 in
theorem initWords : behindMainWord (wordsSigns initL) = initW := by kernel_rfl
theorem headLifts_g (P : Program) (h : P.initOrder.toList = initL) : P.headLifts = [] := by unfold Program.headLifts; rw [h, initWords]; kernel_rfl
theorem make_g (P : Program) (h : P.initOrder.toList = initL) : P.make = some .cut := by unfold Program.make; rw [h, initWords]; kernel_rfl
theorem liftsFinal_g (P : Program) (h : P.initOrder.toList = initL) : P.liftsFinal = false := by unfold Program.liftsFinal; rw [headLifts_g P h, h, initWords]; kernel_rfl
theorem mayEnter_g (P : Program) (h : P.initOrder.toList = initL) (h1 : P.laysLater = false) (h2 : P.bearsReflect = false) : P.mayEnter = P.doorFits [] := by unfold Program.mayEnter; rw [h, initWords, h1, h2]; kernel_rfl
theorem laysLater_k : Try.prog.laysLater = false := by kernel_rfl
theorem bearsReflect_k : Try.prog.bearsReflect = false := by kernel_rfl
theorem doorFits_k : Try.prog.doorFits [] = true := by kernel_rfl
theorem make_k : Try.prog.make = some .cut := make_g _ initSigns
theorem liftsFinal_k : Try.prog.liftsFinal = false := liftsFinal_g _ initSigns
theorem mayEnter_k : Try.prog.mayEnter = true := (mayEnter_g _ initSigns laysLater_k bearsReflect_k).trans doorFits_k

section
variable {H : Type} {enc : TypeId × Value → H} {P : Program}
theorem trodAll_below (hl : laidOutB P = true) {W W' : World} (hb : Below W.heap.size W W') (sp : Nat → Bool) :
    ∀ {ts : List TypeId} {vs : List Value} {ds : List (DataW H)} {ps : List MemPlace}, (ts.all fun t => P.readableRec t && decide (t < P.types.size)) = true →
      DataW.TrodAll enc P W 0 (fun _ => true) true ts vs ds ps → (∀ x ∈ ps, x.block < W.heap.size) → (∀ x ∈ ps, sp x.block = true) → DataW.TrodAll enc P W' 0 sp true ts vs ds ps
  | [], [], [], _, _, h, _, _ => h
  | [], [], _ :: _, _, _, h, _, _ => h.elim
  | [], _ :: _, _, _, _, h, _, _ => h.elim
  | _ :: _, [], _, _, _, h, _, _ => h.elim
  | _ :: _, _ :: _, [], _, _, h, _, _ => h.elim
  | t :: ts, v :: vs, d :: ds, ps, ht, h, hlt, hsp => by
    obtain ⟨p, q, h1, h2, rfl⟩ := h
    simp only [List.all_cons, Bool.and_eq_true] at ht
    refine ⟨p, q, ?_, trodAll_below hl hb sp ht.2 h2 (fun x hx => hlt x (List.mem_append_right _ hx)) (fun x hx => hsp x (List.mem_append_right _ hx)), rfl⟩
    exact WideElems.Trod_stays hl ht.1.1 (of_decide_eq_true ht.1.2) h1 (fun x hx => hb.same (hlt x (List.mem_append_left _ hx))) (fun x hx => hsp x (List.mem_append_left _ hx))
theorem trodAll_len {W : World} {b : Nat} {sp : Nat → Bool} {hd : Bool} : ∀ {ts : List TypeId} {vs : List Value} {ds : List (DataW H)} {ps : List MemPlace}, DataW.TrodAll enc P W b sp hd ts vs ds ps → ds.length = ts.length
  | [], [], [], _, _ => rfl
  | [], [], _ :: _, _, h => h.elim
  | [], _ :: _, _, _, h => h.elim
  | _ :: _, [], _, _, h => h.elim
  | _ :: _, _ :: _, [], _, h => h.elim
  | _ :: _, _ :: _, _ :: _, _, ⟨_, _, _, h2, _⟩ => by simp [trodAll_len h2]
theorem law_post {f : Func} {s : ChangeSpec} {fresh handsOn again : Bool} {W W' : World} {args : Array Value} {ds gs : List (DataW H)} {before : List MemPlace} {tb : TypeId}
    (hl : laidOutB P = true) (hv : s.vars = []) (hr : f.resultTypes = #[tb]) (htb : P.underlying tb = some .bool)
    (hts : (f.params.toList.all fun t => P.readableRec t && decide (t < P.types.size)) = true)
    (hfn : ∀ ds : List (DataW H), ds.length = f.params.toList.length → s.fn H ds = { results := [.lit (.bool true)], args := ds })
    (hW : DataW.Whole enc P f.params.toList s.vars false W args.toList ds gs before) (hb : Below W.heap.size W W') :
    s.post enc P f false fresh handsOn again W args (.bool true) W' := by
  have hlt : ∀ p ∈ before, p.block < W.heap.size := fun p hp => hW.lt p hp
  have hW0 := hW
  obtain ⟨p, q, hA, hV, rfl, hfz, hnd⟩ := hW
  rw [hv] at hV
  obtain ⟨rfl, rfl⟩ := trodVars_none hV
  have hds := trodAll_len hA
  have e : s.fn H (ds ++ []) = { results := [.lit (.bool true)], args := ds } := by rw [List.append_nil]; exact hfn ds hds
  simp only [List.append_nil] at hlt hW0
  have hargs : ∀ sp : Nat → Bool, (∀ x ∈ p, sp x.block = true) → DataW.TrodAll enc P W' 0 sp true f.params.toList args.toList ds p := fun sp hsp => trodAll_below hl hb sp hts hA hlt hsp
  have hold : ∀ x ∈ p, (fun b => decide (b < W.heap.size)) x.block = true := fun x hx => by simpa using hlt x hx
  have hres : ∀ (b : Nat) (sp : Nat → Bool) (hd : Bool), DataW.TrodAll enc P W' b sp hd f.resultTypes.toList ((Value.bool true).resultList f.resultTypes.size) [.lit (.bool true)] [] := fun b sp hd => by
    rw [hr]; exact trodAll_cons_mk (shut_bool htb _) trodAll_mk0
  have hok : ∀ (j : Nat) (t : TypeId) (r : Value), f.resultTypes[j]? = some t → ((Value.bool true).resultList f.resultTypes.size)[j]? = some r → Value.okWide P W' .any 0 t r := ok_one hr rfl (okWide_bool_mk htb _)
  have R : ∀ (b : Nat) (sp : Nat → Bool) (hd : Bool), DataW.TrodAll enc P W' b sp hd f.resultTypes.toList ((Value.bool true).resultList f.resultTypes.size) (s.fn H (ds ++ [])).results [] := fun b sp hd => by rw [e]; exact hres b sp hd
  have A : ∀ sp : Nat → Bool, (∀ x ∈ p, sp x.block = true) → DataW.TrodAll enc P W' 0 sp true f.params.toList args.toList (s.fn H (ds ++ [])).args p := fun sp hsp => by rw [e]; exact hargs sp hsp
  have V : ∀ sp : Nat → Bool, DataW.TrodVars enc P W' sp s.vars (s.fn H (ds ++ [])).vars [] := fun sp => by rw [e, hv]; exact rfl
  refine ⟨ds, [], p, [], p, [], hW0, R _ _ _, A _ hold, V _, World.keptBut_mono (fun x hx => ⟨hx, ?_⟩) (hb.frame (· ∈ p)), fun _ => ?_⟩
  · simpa using hx
  · refine ⟨hok, _, _, ([] ++ p) ++ [], ⟨[] ++ p, [], trodAll_append (A _ (fun _ _ => rfl)) (R _ _ _), V _, rfl, ?_, ?_⟩, ?_⟩
    · intro b off hp
      have hin : MemPlace.cell b off ∈ p := by simpa using hp
      rw [hb.frozen (hlt _ hin)]
      exact hfz b off (by simpa using hin)
    · intro ha; cases ha
    · intro x hx _; simpa using hx
end

/-- a slice value reads, in world w, as the one-cell values xs -/
def RowAt (w : World) (v : Value) (xs : List Value) : Prop :=
  ∃ a c, v = .slice a xs.length (xs.length + c) ∧ xs.length ≤ maxLen ∧ (xs = [] ∨ ∃ b o, a = some ⟨b, o, none⟩ ∧ b < w.heap.size ∧ ∀ i, i < xs.length → w.cell? ⟨b, o + i, none⟩ = xs[i]?)
/-- the text l as a value -/
def strV (l : List UInt8) : Value := .string ⟨l.toArray⟩
theorem RowAt.below {w w' : World} {v : Value} {xs : List Value} {B : Nat} (h : RowAt w v xs) (hb : Below B w w') (hB : w.heap.size ≤ B) : RowAt w' v xs := by
  obtain ⟨a, c, rfl, hl, h⟩ := h
  refine ⟨a, c, rfl, hl, h.imp id ?_⟩
  rintro ⟨b, o, rfl, hlt, hc⟩
  exact ⟨b, o, rfl, Nat.lt_of_lt_of_le hlt hb.size, fun i hi => by rw [hb.cell (p := ⟨b, o + i, none⟩) (Nat.lt_of_lt_of_le hlt hB)]; exact hc i hi⟩
theorem cap_eq (a : Option Addr) {n c : Nat} (h : n ≤ c) : Value.slice a n c = .slice a n (n + (c - n)) := by rw [Nat.add_sub_of_le h]
theorem open_row {w : World} {a : Addr} {n c : Nat} {xs : List Value} (hn : xs.length = n) (hm : n ≤ maxLen) (hcap : n ≤ c) (hc : ∀ i, i < n → w.cell? (a.add i) = xs[i]?) : RowAt w (.slice (some a) n c) xs := by
  subst hn
  refine ⟨some a, _, cap_eq _ hcap, hm, ?_⟩
  cases xs with
  | nil => exact Or.inl rfl
  | cons x r =>
    right
    obtain ⟨ab, ao, spot⟩ := a
    have h0 := hc 0 (by simp)
    have hspot : spot = none := by
      have : w.cell? ((⟨ab, ao, spot⟩ : Addr).add 0) = some x := by rw [h0]; rfl
      simpa [Addr.add] using World.cell?_spot this
    subst hspot
    refine ⟨ab, ao, rfl, ?_, fun i hi => by have := hc i hi; rwa [Addr.add_lit] at this⟩
    have h1 : w.cell? ⟨ab, ao, none⟩ = some x := by have := h0; rw [Addr.add_lit] at this; simpa using this
    cases hh : w.heap[ab]? with
    | none => simp [World.cell?, hh] at h1
    | some o => exact (Array.getElem?_eq_some_iff.1 hh).1
section
variable {H : Type} {enc : TypeId × Value → H} {P : Program}
theorem open_byteRow {W : World} {base : Nat} {t e : TypeId} {v : Value} {d : DataW H} {p : List MemPlace} (ht : P.underlying t = some (.slice e)) (he : P.underlying e = some (.int .u8)) (hc : P.cellsOf e = 1)
    (hval : Value.okWide P W .any base t v) (h : DataW.Trod enc P W 0 (fun _ => true) true t v d p) :
    ∃ l : List UInt8, RowAt W v (Lib.byteCells l) := by
  obtain ⟨a1, len, cap, rfl⟩ := okWide_slice ht hval
  obtain ⟨fuel, hf⟩ := h
  rcases open_ints ht he hc hf with ⟨hcs, _⟩ | ⟨a, len', cap', zs, hcs, _, hl, hm, hz, _, hcell, hwz⟩
  · simp [Value.cells] at hcs
    obtain ⟨rfl, rfl, rfl⟩ := hcs
    exact ⟨[], none, 0, rfl, Nat.zero_le _, Or.inl rfl⟩
  · simp [Value.cells] at hcs
    obtain ⟨rfl, rfl, rfl⟩ := hcs
    simp only [if_true] at hz
    refine ⟨(zs.take len).map fun n => UInt8.ofNat n.toNat, open_row (by rw [Lib.byteCells_length]; simp; omega) (by omega) (by omega) ?_⟩
    intro i hi
    rw [hcell i (by omega)]
    have hb := range_u8 hwz i
    have e : zs.getD i 0 = zs[i]'(by omega) := by simp [List.getD, List.getElem?_eq_getElem (show i < zs.length by omega)]
    rw [List.getD_eq_getElem?_getD] at e
    rw [e] at hb
    have hlen : i < ((zs.take len).map fun n => UInt8.ofNat n.toNat).length := by simp; omega
    have hg : (Lib.byteCells ((zs.take len).map fun n => UInt8.ofNat n.toNat))[i]? = some (.int .u8 (zs[i]'(by omega))) := by
      have : (Lib.byteCells ((zs.take len).map fun n => UInt8.ofNat n.toNat))[i]? = some (.int .u8 ((((zs.take len).map fun n => UInt8.ofNat n.toNat)[i]'hlen).toNat : Int)) := by
        simp only [Lib.byteCells, List.getElem?_map, List.getElem?_eq_getElem hlen, Option.map_some]
      rw [this]
      simp only [List.getElem_map, List.getElem_take, UInt8.toNat_ofNat']
      congr 2; omega
    rw [hg, List.getD_eq_getElem?_getD, e]
theorem open_strRow {W : World} {base : Nat} {t e : TypeId} {v : Value} {d : DataW H} {p : List MemPlace} (ht : P.underlying t = some (.slice e)) (he : P.underlying e = some .string) (hc : P.cellsOf e = 1)
    (hval : Value.okWide P W .any base t v) (h : DataW.Trod enc P W 0 (fun _ => true) true t v d p) :
    ∃ l : List ByteArray, RowAt W v (l.map Value.string) ∧ ∀ s ∈ l, s.size ≤ maxLen := by
  obtain ⟨a1, len, cap, rfl⟩ := okWide_slice ht hval
  obtain ⟨fuel, hf⟩ := h
  rcases open_strings ht he hc hf with ⟨hcs, _⟩ | ⟨a, len', cap', ss, hcs, _, hl, hm, hz, _, hcell, hws⟩
  · simp [Value.cells] at hcs
    obtain ⟨rfl, rfl, rfl⟩ := hcs
    exact ⟨[], ⟨none, 0, rfl, Nat.zero_le _, Or.inl rfl⟩, by simp⟩
  · simp [Value.cells] at hcs
    obtain ⟨rfl, rfl, rfl⟩ := hcs
    simp only [if_true] at hz
    refine ⟨ss.take len, open_row (by simp; omega) (by omega) (by omega) ?_, fun s hs => hws s (List.mem_of_mem_take hs)⟩
    intro i hi
    rw [hcell i (by omega)]
    simp [hi, List.getElem?_eq_getElem (show i < ss.length by omega)]
theorem open_strRowL {W : World} {base : Nat} {t e : TypeId} {v : Value} {d : DataW H} {p : List MemPlace} (ht : P.underlying t = some (.slice e)) (he : P.underlying e = some .string) (hc : P.cellsOf e = 1)
    (hval : Value.okWide P W .any base t v) (h : DataW.Trod enc P W 0 (fun _ => true) true t v d p) :
    ∃ x : List (List UInt8), RowAt W v (x.map strV) ∧ ∀ s ∈ x, s.length ≤ maxLen := by
  obtain ⟨l, h1, h2⟩ := open_strRow ht he hc hval h
  refine ⟨l.map fun s => s.data.toList, ?_, ?_⟩
  · have e : (l.map fun s => s.data.toList).map strV = l.map Value.string := by
      rw [List.map_map]
      exact List.map_congr_left fun s _ => by simp [strV]
    rw [e]; exact h1
  · intro s hs
    obtain ⟨y, hy, rfl⟩ := List.mem_map.1 hs
    have := h2 y hy
    exact Nat.le_trans (Nat.le_of_eq Array.length_toList) this
end
end Go.Proofs.Ytmoliamenekemab
