/- FnExactCompareInputs: at every two lists of numbers the program's CompareInputs answers as the model's, and changes neither (lists of more than 2^20 numbers are not asked). No condition. -/
import Derived.Test.YtandbnpgccpcoabRows
import Derived.WalkKit
import Derived.ProofKit
import Derived.OpenShut
import Derived.Lib.UnsafeStr
import Derived.WalkSpells
import Derived.WalkLawsBesides
import Derived.Lib.Hide
import Derived.Lib.Bytes
import Derived.Deep.QuietTactic
import Derived.BigQuiet
import Derived.Deep.RegionHeld3
import Derived.OwnWalk
import Derived.Laws.OwnMore
import Derived.StillTailTactics
import Derived.Lib.Small
/- How a law is closed that answers true and only makes new memory: its arguments read as before. -/
namespace Go.Proofs.Ytandbnpgccpcoab
set_option linter.unusedVariables false
open Go.ChangeShapes Go.WideShapes Go.ChangeAt Go.RowKit Go.WideMaps Go.WideElems
open Go.ChangeMaps (open_string shut_string)

theorem ownK : ownKnob Try.prog.godebug = none := by kernel_rfl
theorem laidK : laidOutB Try.prog = true := by kernel_rfl
def initL : List Char := let c := Char.ofNat; [c 104, c 97, c 114, c 110, c 101, c 115, c 115, c 32, c 52, c 51, c 97, c 97, c 52, c 100, c 53, c 102, c 53, c 54, c 101, c 49, c 50, c 102, c 57, c 99, c 97, c 54, c 100, c 56, c 50, c 99, c 56, c 57, c 55, c 52, c 99, c 53, c 49, c 56, c 51, c 100, c 49, c 53, c 55, c 55, c 54, c 52, c 102, c 102, c 53, c 98, c 54, c 54, c 50, c 97, c 53, c 56, c 98, c 56, c 98, c 101, c 102, c 55, c 99, c 100, c 100, c 98, c 53, c 100, c 57, c 49, c 97, c 50, c 32, c 99, c 117, c 116, c 32, c 97, c 116, c 32, c 108, c 111, c 111, c 112, c 46, c 101, c 120, c 97, c 109, c 112, c 108, c 101, c 47, c 103, c 48, c 51, c 48, c 49, c 54, c 47, c 108, c 97, c 119, c 115, c 46, c 70, c 110, c 69, c 120, c 97, c 99, c 116, c 67, c 111, c 109, c 112, c 97, c 114, c 101, c 73, c 110, c 112, c 117, c 116, c 115, c 32, c 108, c 111, c 111, c 112, c 46, c 101, c 120, c 97, c 109, c 112, c 108, c 101, c 47, c 103, c 48, c 51, c 48, c 49, c 54, c 47, c 108, c 97, c 119, c 115, c 46, c 70, c 110, c 69, c 120, c 97, c 99, c 116, c 73, c 115, c 83, c 104, c 97, c 112, c 101, c 115, c 32, c 108, c 111, c 111, c 112, c 46, c 101, c 120, c 97, c 109, c 112, c 108, c 101, c 47, c 103, c 48, c 51, c 48, c 49, c 54, c 47, c 108, c 97, c 119, c 115, c 46, c 70, c 110, c 69, c 120, c 97, c 99, c 116, c 69, c 109, c 112, c 116, c 121, c 83, c 108, c 111, c 116, c 115]
def initW : List (List Char) := let c := Char.ofNat; [[c 99, c 117, c 116], [c 97, c 116], [c 108, c 111, c 111, c 112, c 46, c 101, c 120, c 97, c 109, c 112, c 108, c 101, c 47, c 103, c 48, c 51, c 48, c 49, c 54, c 47, c 108, c 97, c 119, c 115, c 46, c 70, c 110, c 69, c 120, c 97, c 99, c 116, c 67, c 111, c 109, c 112, c 97, c 114, c 101, c 73, c 110, c 112, c 117, c 116, c 115], [c 108, c 111, c 111, c 112, c 46, c 101, c 120, c 97, c 109, c 112, c 108, c 101, c 47, c 103, c 48, c 51, c 48, c 49, c 54, c 47, c 108, c 97, c 119, c 115, c 46, c 70, c 110, c 69, c 120, c 97, c 99, c 116, c 73, c 115, c 83, c 104, c 97, c 112, c 101, c 115], [c 108, c 111, c 111, c 112, c 46, c 101, c 120, c 97, c 109, c 112, c 108, c 101, c 47, c 103, c 48, c 51, c 48, c 49, c 54, c 47, c 108, c 97, c 119, c 115, c 46, c 70, c 110, c 69, c 120, c 97, c 99, c 116, c 69, c 109, c 112, c 116, c 121, c 83, c 108, c 111, c 116, c 115]]
set_option maxRecDepth 100000 in
theorem initStr : Try.prog.initOrder = String.ofList initL := by kernel_rfl
theorem initSigns : Try.prog.initOrder.toList = initL := by rw [initStr, String.toList_ofList]
set_option maxRecDepth 100000 in
theorem initWords : behindMainWord (wordsSigns initL) = initW := by kernel_rfl
theorem headLifts_g (P : Program) (h : P.initOrder.toList = initL) : P.headLifts = [] := by unfold Program.headLifts; rw [h, initWords]; kernel_rfl
theorem make_g (P : Program) (h : P.initOrder.toList = initL) : P.make = some .cut := by unfold Program.make; rw [h, initWords]; kernel_rfl
theorem liftsFinal_g (P : Program) (h : P.initOrder.toList = initL) : P.liftsFinal = false := by unfold Program.liftsFinal; rw [headLifts_g P h, h, initWords]; kernel_rfl
theorem mayEnter_g (P : Program) (h : P.initOrder.toList = initL) (h1 : P.laysLater = false) (h2 : P.bearsReflect = false) : P.mayEnter = P.doorFits [] := by unfold Program.mayEnter; rw [h, initWords, h1, h2]; kernel_rfl
theorem laysLater_k : Try.prog.laysLater = false := by kernel_rfl
theorem bearsReflect_k : Try.prog.bearsReflect = false := by kernel_rfl
theorem doorFits_k : Try.prog.doorFits [] = true := by kernel_rfl
theorem make_k : Try.prog.make = some .cut := make_g _ initSigns
theorem liftsFinal_k : Try.prog.liftsFinal = false := liftsFinal_g _ initSigns
theorem mayEnter_k : Try.prog.mayEnter = true := (mayEnter_g _ initSigns laysLater_k bearsReflect_k).trans doorFits_k

section
variable {H : Type} {enc : TypeId × Value → H} {P : Program}
theorem trodAll_below (hl : laidOutB P = true) {W W' : World} (hb : Below W.heap.size W W') (sp : Nat → Bool) :
    ∀ {ts : List TypeId} {vs : List Value} {ds : List (DataW H)} {ps : List MemPlace}, (ts.all fun t => P.readableRec t && decide (t < P.types.size)) = true →
      DataW.TrodAll enc P W 0 (fun _ => true) true ts vs ds ps → (∀ x ∈ ps, x.block < W.heap.size) → (∀ x ∈ ps, sp x.block = true) → DataW.TrodAll enc P W' 0 sp true ts vs ds ps
  | [], [], [], _, _, h, _, _ => h
  | [], [], _ :: _, _, _, h, _, _ => h.elim
  | [], _ :: _, _, _, _, h, _, _ => h.elim
  | _ :: _, [], _, _, _, h, _, _ => h.elim
  | _ :: _, _ :: _, [], _, _, h, _, _ => h.elim
  | t :: ts, v :: vs, d :: ds, ps, ht, h, hlt, hsp => by
    obtain ⟨p, q, h1, h2, rfl⟩ := h
    simp only [List.all_cons, Bool.and_eq_true] at ht
    refine ⟨p, q, ?_, trodAll_below hl hb sp ht.2 h2 (fun x hx => hlt x (List.mem_append_right _ hx)) (fun x hx => hsp x (List.mem_append_right _ hx)), rfl⟩
    exact WideElems.Trod_stays hl ht.1.1 (of_decide_eq_true ht.1.2) h1 (fun x hx => hb.same (hlt x (List.mem_append_left _ hx))) (fun x hx => hsp x (List.mem_append_left _ hx))
theorem trodAll_len {W : World} {b : Nat} {sp : Nat → Bool} {hd : Bool} : ∀ {ts : List TypeId} {vs : List Value} {ds : List (DataW H)} {ps : List MemPlace}, DataW.TrodAll enc P W b sp hd ts vs ds ps → ds.length = ts.length
  | [], [], [], _, _ => rfl
  | [], [], _ :: _, _, h => h.elim
  | [], _ :: _, _, _, h => h.elim
  | _ :: _, [], _, _, h => h.elim
  | _ :: _, _ :: _, [], _, h => h.elim
  | _ :: _, _ :: _, _ :: _, _, ⟨_, _, _, h2, _⟩ => by simp [trodAll_len h2]
theorem law_post {f : Func} {s : ChangeSpec} {fresh handsOn again : Bool} {W W' : World} {args : Array Value} {ds gs : List (DataW H)} {before : List MemPlace} {tb : TypeId}
    (hl : laidOutB P = true) (hv : s.vars = []) (hr : f.resultTypes = #[tb]) (htb : P.underlying tb = some .bool)
    (hts : (f.params.toList.all fun t => P.readableRec t && decide (t < P.types.size)) = true)
    (hfn : ∀ ds : List (DataW H), ds.length = f.params.toList.length → s.fn H ds = { results := [.lit (.bool true)], args := ds })
    (hW : DataW.Whole enc P f.params.toList s.vars false W args.toList ds gs before) (hb : Below W.heap.size W W') :
    s.post enc P f false fresh handsOn again W args (.bool true) W' := by
  have hlt : ∀ p ∈ before, p.block < W.heap.size := fun p hp => hW.lt p hp
  have hW0 := hW
  obtain ⟨p, q, hA, hV, rfl, hfz, hnd⟩ := hW
  rw [hv] at hV
  obtain ⟨rfl, rfl⟩ := trodVars_none hV
  have hds := trodAll_len hA
  have e : s.fn H (ds ++ []) = { results := [.lit (.bool true)], args := ds } := by rw [List.append_nil]; exact hfn ds hds
  simp only [List.append_nil] at hlt hW0
  have hargs : ∀ sp : Nat → Bool, (∀ x ∈ p, sp x.block = true) → DataW.TrodAll enc P W' 0 sp true f.params.toList args.toList ds p := fun sp hsp => trodAll_below hl hb sp hts hA hlt hsp
  have hold : ∀ x ∈ p, (fun b => decide (b < W.heap.size)) x.block = true := fun x hx => by simpa using hlt x hx
  have hres : ∀ (b : Nat) (sp : Nat → Bool) (hd : Bool), DataW.TrodAll enc P W' b sp hd f.resultTypes.toList ((Value.bool true).resultList f.resultTypes.size) [.lit (.bool true)] [] := fun b sp hd => by
    rw [hr]; exact trodAll_cons_mk (shut_bool htb _) trodAll_mk0
  have hok : ∀ (j : Nat) (t : TypeId) (r : Value), f.resultTypes[j]? = some t → ((Value.bool true).resultList f.resultTypes.size)[j]? = some r → Value.okWide P W' .any 0 t r := ok_one hr rfl (okWide_bool_mk htb _)
  have R : ∀ (b : Nat) (sp : Nat → Bool) (hd : Bool), DataW.TrodAll enc P W' b sp hd f.resultTypes.toList ((Value.bool true).resultList f.resultTypes.size) (s.fn H (ds ++ [])).results [] := fun b sp hd => by rw [e]; exact hres b sp hd
  have A : ∀ sp : Nat → Bool, (∀ x ∈ p, sp x.block = true) → DataW.TrodAll enc P W' 0 sp true f.params.toList args.toList (s.fn H (ds ++ [])).args p := fun sp hsp => by rw [e]; exact hargs sp hsp
  have V : ∀ sp : Nat → Bool, DataW.TrodVars enc P W' sp s.vars (s.fn H (ds ++ [])).vars [] := fun sp => by rw [e, hv]; exact rfl
  refine ⟨ds, [], p, [], p, [], hW0, R _ _ _, A _ hold, V _, World.keptBut_mono (fun x hx => ⟨hx, ?_⟩) (hb.frame (· ∈ p)), fun _ => ?_⟩
  · simpa using hx
  · refine ⟨hok, _, _, ([] ++ p) ++ [], ⟨[] ++ p, [], trodAll_append (A _ (fun _ _ => rfl)) (R _ _ _), V _, rfl, ?_, ?_⟩, ?_⟩
    · intro b off hp
      have hin : MemPlace.cell b off ∈ p := by simpa using hp
      rw [hb.frozen (hlt _ hin)]
      exact hfz b off (by simpa using hin)
    · intro ha; cases ha
    · intro x hx _; simpa using hx
end

/-- a slice value reads, in world w, as the one-cell values xs -/
def RowAt (w : World) (v : Value) (xs : List Value) : Prop :=
  ∃ a c, v = .slice a xs.length (xs.length + c) ∧ xs.length ≤ maxLen ∧ (xs = [] ∨ ∃ b o, a = some ⟨b, o, none⟩ ∧ b < w.heap.size ∧ ∀ i, i < xs.length → w.cell? ⟨b, o + i, none⟩ = xs[i]?)
/-- the text l as a value -/
def strV (l : List UInt8) : Value := .string ⟨l.toArray⟩
theorem RowAt.below {w w' : World} {v : Value} {xs : List Value} {B : Nat} (h : RowAt w v xs) (hb : Below B w w') (hB : w.heap.size ≤ B) : RowAt w' v xs := by
  obtain ⟨a, c, rfl, hl, h⟩ := h
  refine ⟨a, c, rfl, hl, h.imp id ?_⟩
  rintro ⟨b, o, rfl, hlt, hc⟩
  exact ⟨b, o, rfl, Nat.lt_of_lt_of_le hlt hb.size, fun i hi => by rw [hb.cell (p := ⟨b, o + i, none⟩) (Nat.lt_of_lt_of_le hlt hB)]; exact hc i hi⟩
theorem cap_eq (a : Option Addr) {n c : Nat} (h : n ≤ c) : Value.slice a n c = .slice a n (n + (c - n)) := by rw [Nat.add_sub_of_le h]
theorem open_row {w : World} {a : Addr} {n c : Nat} {xs : List Value} (hn : xs.length = n) (hm : n ≤ maxLen) (hcap : n ≤ c) (hc : ∀ i, i < n → w.cell? (a.add i) = xs[i]?) : RowAt w (.slice (some a) n c) xs := by
  subst hn
  refine ⟨some a, _, cap_eq _ hcap, hm, ?_⟩
  cases xs with
  | nil => exact Or.inl rfl
  | cons x r =>
    right
    obtain ⟨ab, ao, spot⟩ := a
    have h0 := hc 0 (by simp)
    have hspot : spot = none := by
      have : w.cell? ((⟨ab, ao, spot⟩ : Addr).add 0) = some x := by rw [h0]; rfl
      simpa [Addr.add] using World.cell?_spot this
    subst hspot
    refine ⟨ab, ao, rfl, ?_, fun i hi => by have := hc i hi; rwa [Addr.add_lit] at this⟩
    have h1 : w.cell? ⟨ab, ao, none⟩ = some x := by have := h0; rw [Addr.add_lit] at this; simpa using this
    cases hh : w.heap[ab]? with
    | none => simp [World.cell?, hh] at h1
    | some o => exact (Array.getElem?_eq_some_iff.1 hh).1
section
variable {H : Type} {enc : TypeId × Value → H} {P : Program}
theorem open_byteRow {W : World} {base : Nat} {t e : TypeId} {v : Value} {d : DataW H} {p : List MemPlace} (ht : P.underlying t = some (.slice e)) (he : P.underlying e = some (.int .u8)) (hc : P.cellsOf e = 1)
    (hval : Value.okWide P W .any base t v) (h : DataW.Trod enc P W 0 (fun _ => true) true t v d p) :
    ∃ l : List UInt8, RowAt W v (Lib.byteCells l) := by
  obtain ⟨a1, len, cap, rfl⟩ := okWide_slice ht hval
  obtain ⟨fuel, hf⟩ := h
  rcases open_ints ht he hc hf with ⟨hcs, _⟩ | ⟨a, len', cap', zs, hcs, _, hl, hm, hz, _, hcell, hwz⟩
  · simp [Value.cells] at hcs
    obtain ⟨rfl, rfl, rfl⟩ := hcs
    exact ⟨[], none, 0, rfl, Nat.zero_le _, Or.inl rfl⟩
  · simp [Value.cells] at hcs
    obtain ⟨rfl, rfl, rfl⟩ := hcs
    simp only [if_true] at hz
    refine ⟨(zs.take len).map fun n => UInt8.ofNat n.toNat, open_row (by rw [Lib.byteCells_length]; simp; omega) (by omega) (by omega) ?_⟩
    intro i hi
    rw [hcell i (by omega)]
    have hb := range_u8 hwz i
    have e : zs.getD i 0 = zs[i]'(by omega) := by simp [List.getD, List.getElem?_eq_getElem (show i < zs.length by omega)]
    rw [List.getD_eq_getElem?_getD] at e
    rw [e] at hb
    have hlen : i < ((zs.take len).map fun n => UInt8.ofNat n.toNat).length := by simp; omega
    have hg : (Lib.byteCells ((zs.take len).map fun n => UInt8.ofNat n.toNat))[i]? = some (.int .u8 (zs[i]'(by omega))) := by
      have : (Lib.byteCells ((zs.take len).map fun n => UInt8.ofNat n.toNat))[i]? = some (.int .u8 ((((zs.take len).map fun n => UInt8.ofNat n.toNat)[i]'hlen).toNat : Int)) := by
        simp only [Lib.byteCells, List.getElem?_map, List.getElem?_eq_getElem hlen, Option.map_some]
      rw [this]
      simp only [List.getElem_map, List.getElem_take, UInt8.toNat_ofNat']
      congr 2; omega
    rw [hg, List.getD_eq_getElem?_getD, e]
theorem open_strRow {W : World} {base : Nat} {t e : TypeId} {v : Value} {d : DataW H} {p : List MemPlace} (ht : P.underlying t = some (.slice e)) (he : P.underlying e = some .string) (hc : P.cellsOf e = 1)
    (hval : Value.okWide P W .any base t v) (h : DataW.Trod enc P W 0 (fun _ => true) true t v d p) :
    ∃ l : List ByteArray, RowAt W v (l.map Value.string) ∧ ∀ s ∈ l, s.size ≤ maxLen := by
  obtain ⟨a1, len, cap, rfl⟩ := okWide_slice ht hval
  obtain ⟨fuel, hf⟩ := h
  rcases open_strings ht he hc hf with ⟨hcs, _⟩ | ⟨a, len', cap', ss, hcs, _, hl, hm, hz, _, hcell, hws⟩
  · simp [Value.cells] at hcs
    obtain ⟨rfl, rfl, rfl⟩ := hcs
    exact ⟨[], ⟨none, 0, rfl, Nat.zero_le _, Or.inl rfl⟩, by simp⟩
  · simp [Value.cells] at hcs
    obtain ⟨rfl, rfl, rfl⟩ := hcs
    simp only [if_true] at hz
    refine ⟨ss.take len, open_row (by simp; omega) (by omega) (by omega) ?_, fun s hs => hws s (List.mem_of_mem_take hs)⟩
    intro i hi
    rw [hcell i (by omega)]
    simp [hi, List.getElem?_eq_getElem (show i < ss.length by omega)]
theorem open_strRowL {W : World} {base : Nat} {t e : TypeId} {v : Value} {d : DataW H} {p : List MemPlace} (ht : P.underlying t = some (.slice e)) (he : P.underlying e = some .string) (hc : P.cellsOf e = 1)
    (hval : Value.okWide P W .any base t v) (h : DataW.Trod enc P W 0 (fun _ => true) true t v d p) :
    ∃ x : List (List UInt8), RowAt W v (x.map strV) ∧ ∀ s ∈ x, s.length ≤ maxLen := by
  obtain ⟨l, h1, h2⟩ := open_strRow ht he hc hval h
  refine ⟨l.map fun s => s.data.toList, ?_, ?_⟩
  · have e : (l.map fun s => s.data.toList).map strV = l.map Value.string := by
      rw [List.map_map]
      exact List.map_congr_left fun s _ => by simp [strV]
    rw [e]; exact h1
  · intro s hs
    obtain ⟨y, hy, rfl⟩ := List.mem_map.1 hs
    have := h2 y hy
    exact Nat.le_trans (Nat.le_of_eq Array.length_toList) this
end
end Go.Proofs.Ytandbnpgccpcoab
/- Contracts of the small functions of chapter 1: letters, digits and names. -/
namespace Go.Proofs.Ytandbnpgccpcoab
set_option linter.unusedVariables false
open Go.RowKit

def isLet (c : Int) : Bool := decide (97 ≤ c ∧ c ≤ 122)
def isDig (c : Int) : Bool := decide (48 ≤ c ∧ c ≤ 57)
def isLetB (c : Int) (first : Bool) : Bool := isLet c || (!first && isDig c)

theorem ret_bool {a b : Bool} (h : a = b) : Ending.returned (.bool a) = .returned (.bool b) := by rw [h]
theorem ret_int {k : IntKind} {a b : Int} (h : a = b) : Ending.returned (.int k a) = .returned (.int k b) := by rw [h]

set_option maxHeartbeats 400000 in
theorem isLetter_any (c : Int) (w : World) :
    Calls Try.prog 103 #[.int .u8 c] w fun e w' => e = .returned (.bool (isLet c)) ∧ w = w' := by
  go_enter Try.func103, Try.ntmps103
  go_wp2
  all_goals
    go_ret
    exact ⟨ret_bool (by simp [isLet]; try omega), rfl⟩
set_option maxHeartbeats 400000 in
theorem isDigit_any (c : Int) (w : World) :
    Calls Try.prog 104 #[.int .u8 c] w fun e w' => e = .returned (.bool (isDig c)) ∧ w = w' := by
  go_enter Try.func104, Try.ntmps104
  go_wp2
  all_goals
    go_ret
    exact ⟨ret_bool (by simp [isDig]; try omega), rfl⟩
set_option maxHeartbeats 400000 in
theorem l1Letter_any (c : Int) (b : Bool) (w : World) :
    Calls Try.prog 100 #[.int .u8 c, .bool b] w fun e w' => e = .returned (.bool (isLetB c b)) ∧ w = w' := by
  cases b
  all_goals
    go_enter Try.func100, Try.ntmps100
    go_wp2
    all_goals
      go_ret
      exact ⟨ret_bool (by rw [Bool.eq_iff_iff]; simp [isLetB, isLet, isDig]; try omega), rfl⟩
/-- a text is a name -/
def nmB (l : List UInt8) : Bool := l.all fun c => isLet c.toNat || isDig c.toNat
theorem nmB_snoc (l : List UInt8) (c : UInt8) : nmB (l ++ [c]) = (nmB l && (isLet c.toNat || isDig c.toNat)) := by simp [nmB]
theorem take_snoc (s : ByteArray) (k : Nat) (h : k < s.size) : s.data.toList.take (k + 1) = s.data.toList.take k ++ [s[k]] := by
  rw [List.take_succ_eq_append_getElem (by simpa using h)]; rfl
def nameB (l : List UInt8) : Bool := decide (0 < l.length) && decide (l.length ≤ 8) && isLet (l.getD 0 0).toNat && nmB l
theorem getD_get (s : ByteArray) (k : Nat) (h : k < s.size) : s.data.toList.getD k 0 = s[k] := by
  simp only [List.getD_eq_getElem?_getD]
  rw [List.getElem?_eq_getElem (by simpa using h)]; rfl
theorem nameB_false_at (s : ByteArray) (k : Nat) (h : k < s.size) (hb : isLetB (s[k]).toNat ((k : Int) == 0) = false) : nameB s.data.toList = false := by
  rw [← getD_get s k h] at hb
  by_cases h0 : k = 0
  · subst h0
    have hb1 : isLet (s.data.toList.getD 0 0).toNat = false := by simpa [isLetB] using hb
    unfold nameB; rw [hb1]; simp
  · have hk : ((k : Int) == 0) = false := by simpa using h0
    rw [hk] at hb
    have : nmB s.data.toList = false := by
      unfold nmB; rw [List.all_eq_false]
      refine ⟨s.data.toList.getD k 0, ?_, ?_⟩
      · simp only [List.getD_eq_getElem?_getD]
        rw [List.getElem?_eq_getElem (by simpa using h)]; simp
      · simpa [isLetB] using hb
    unfold nameB; rw [this]; simp
theorem nmB_next (s : ByteArray) (k : Nat) (h : k < s.size) (b : Bool) (hn : nmB (s.data.toList.take k) = true) (hb : isLetB (s[k]).toNat b = true) : nmB (s.data.toList.take (k + 1)) = true := by
  rw [take_snoc s k h, nmB_snoc, hn]; revert hb; cases b <;> simp [isLetB]; intro h; exact Or.inl h
theorem name_first (s : ByteArray) (k : Nat) (h : k < s.size) (hf : 0 < k → isLet (s.data.toList.getD 0 0).toNat = true) (hb : isLetB (s[k]).toNat ((k : Int) == 0) = true) : isLet (s.data.toList.getD 0 0).toNat = true := by
  by_cases h0 : k = 0
  · subst h0; rw [getD_get s 0 h]; simpa [isLetB] using hb
  · exact hf (by omega)
theorem size_list (s : ByteArray) : s.data.toList.length = s.size := Array.length_toList
theorem nameB_end (s : ByteArray) (k : Nat) (hk : k ≤ s.size) (hlt : ¬ k < s.size) (hn : nmB (s.data.toList.take k) = true) (hf : 0 < k → isLet (s.data.toList.getD 0 0).toNat = true) :
    nameB s.data.toList = (decide (0 < s.size) && decide (s.size ≤ 8)) := by
  have e : k = s.size := by omega
  subst e
  rw [List.take_of_length_le (by rw [size_list]; omega)] at hn
  unfold nameB; rw [hn, size_list]
  by_cases h0 : 0 < s.size
  · rw [hf h0]; simp
  · simp [h0]
set_option maxHeartbeats 400000 in
theorem specIsName_any (s : ByteArray) (w : World) (hs : s.size ≤ maxLen) :
    Calls Try.prog 93 #[.string s] w fun e w' => e = .returned (.bool (nameB s.data.toList)) ∧ w = w' := by
  unfold maxLen at hs
  go_enter Try.func93, Try.ntmps93
  go_wp2
  go_loop [3] (fun i => ∃ k : Nat, k ≤ s.size ∧ i = .int .i64 k ∧ nmB (s.data.toList.take k) = true ∧ (0 < k → isLet (s.data.toList.getD 0 0).toNat = true)) (fun i => s.size - (intOf i).toNat)
  case atStart => exact ⟨0, Nat.zero_le _, rfl, rfl, by simp⟩
  case round =>
    obtain ⟨k, hk, rfl, hn, hf⟩ := hrel
    have HN := Lib.hid hn
    have HF := Lib.hid hf
    clear hn hf
    by_cases hlt : k < s.size
    · by_cases hb : isLetB (s[k]).toNat ((k : Int) == 0) = true
      · have hb' := hb
        go_wp2_with (go_at_call 100; refine (l1Letter_any _ _ _).mono ?_; rintro e w' ⟨rfl, rfl⟩)
        go_round
        case rel => exact ⟨k + 1, by omega, by go_num, nmB_next s k hlt _ HN.out hb', fun _ => name_first s k hlt HF.out hb'⟩
        case measure => simp [intOf]; omega
      · have hb' : isLetB (s[k]).toNat ((k : Int) == 0) = false := by simpa using hb
        clear hb
        go_wp2_with (go_at_call 100; refine (l1Letter_any _ _ _).mono ?_; rintro e w' ⟨rfl, rfl⟩)
        go_ret
        exact ⟨ret_bool (nameB_false_at s k hlt hb').symm, rfl⟩
    · have hend := Lib.hid (nameB_end s k hk hlt HN.out HF.out)
      by_cases h0 : 0 < s.size
      all_goals
        go_wp2
        go_ret
        exact ⟨ret_bool (by rw [hend.out]; simp [h0]; try omega), rfl⟩
theorem nameB_len (s : ByteArray) (h : s.size = 0 ∨ 8 < s.size) : nameB s.data.toList = false := by
  unfold nameB; rw [size_list]
  rcases h with h | h
  · simp [h]
  · simp [show ¬ s.size ≤ 8 from by omega]
theorem nameB_first (s : ByteArray) (h : 0 < s.size) (hb : isLet (s[0]).toNat = false) : nameB s.data.toList = false := by
  rw [← getD_get s 0 h] at hb
  unfold nameB; rw [hb]; simp
theorem nameB_bad (s : ByteArray) (k : Nat) (h : k < s.size) (hb : (isLet (s[k]).toNat || isDig (s[k]).toNat) = false) : nameB s.data.toList = false := by
  apply nameB_false_at s k h
  rw [Bool.or_eq_false_iff] at hb
  simp [isLetB, hb.1, hb.2]
set_option maxHeartbeats 400000 in
theorem implIsName_any (s : ByteArray) (w : World) (hs : s.size ≤ maxLen) :
    Calls Try.prog 101 #[.string s] w fun e w' => e = .returned (.bool (nameB s.data.toList)) ∧ w = w' := by
  by_cases h0 : s.size = 0
  · have hl := Lib.hid (nameB_len s (Or.inl h0))
    have hE : s.toList = [] := by rw [Lib.toList_data]; exact List.eq_nil_of_length_eq_zero (by rw [size_list]; exact h0)
    go_enter Try.func101, Try.ntmps101
    go_wp2
    go_ret
    exact ⟨ret_bool (by rw [hl.out]), rfl⟩
  · have hE : ¬ s.toList = [] := by rw [Lib.toList_data]; intro h; apply h0; rw [← size_list, h]; rfl
    have hE2 : s.toList.isEmpty = false := by simpa using hE
    clear hE
    have hpos : 0 < s.size := by omega
    unfold maxLen at hs
    by_cases h8 : 8 < s.size
    · have hl := Lib.hid (nameB_len s (Or.inr h8))
      clear h0
      go_enter Try.func101, Try.ntmps101
      go_wp2
      go_ret
      exact ⟨ret_bool (by rw [hl.out]), rfl⟩
    · clear h0
      by_cases hb : isLet (s[0]).toNat = true
      · have hb' := Lib.hid hb
        go_enter Try.func101, Try.ntmps101
        go_wp2_with (go_at_call 103; refine (isLetter_any _ _).mono ?_; rintro e w' ⟨rfl, rfl⟩)
        clear hb
        go_loop [3, 19] (fun _ i => ∃ k : Nat, k ≤ s.size ∧ i = .int .i64 k ∧ nmB (s.data.toList.take k) = true) (fun _ i => s.size - (intOf i).toNat)
        case atStart => exact ⟨0, Nat.zero_le _, rfl, rfl⟩
        case round =>
          obtain ⟨k, hk, rfl, hn⟩ := hrel
          have HN := Lib.hid hn
          clear hn
          by_cases hlt : k < s.size
          · by_cases hc : isLet (s[k]).toNat = true
            · go_wp2_with (go_at_call 103; refine (isLetter_any _ _).mono ?_; rintro e w' ⟨rfl, rfl⟩)
              go_round
              case rel => exact ⟨k + 1, by omega, by go_num, nmB_next s k hlt false HN.out (by simp [isLetB, hc])⟩
              case measure => simp [intOf]; omega
            · have hc' : isLet (s[k]).toNat = false := by simpa using hc
              clear hc
              by_cases hd : isDig (s[k]).toNat = true
              · go_wp2_with (first | (go_at_call 103; refine (isLetter_any _ _).mono ?_; rintro e w' ⟨rfl, rfl⟩) | (go_at_call 104; refine (isDigit_any _ _).mono ?_; rintro e w' ⟨rfl, rfl⟩))
                go_round
                case rel => exact ⟨k + 1, by omega, by go_num, nmB_next s k hlt false HN.out (by simp [isLetB, hd])⟩
                case measure => simp [intOf]; omega
              · have hd' : isDig (s[k]).toNat = false := by simpa using hd
                have hl := Lib.hid (nameB_bad s k hlt (by rw [hc', hd']; rfl))
                clear hd
                go_wp2_with (first | (go_at_call 103; refine (isLetter_any _ _).mono ?_; rintro e w' ⟨rfl, rfl⟩) | (go_at_call 104; refine (isDigit_any _ _).mono ?_; rintro e w' ⟨rfl, rfl⟩))
                go_ret
                exact ⟨ret_bool (by rw [hl.out]), rfl⟩
          · have hend := Lib.hid (nameB_end s k hk hlt HN.out (fun _ => by rw [getD_get s 0 hpos]; exact hb'.out))
            go_wp2
            go_ret
            exact ⟨ret_bool (by rw [hend.out]; simp; omega), rfl⟩
      · have hb' : isLet (s[0]).toNat = false := by simpa using hb
        have hl := Lib.hid (nameB_first s hpos hb')
        clear hb
        go_enter Try.func101, Try.ntmps101
        go_wp2_with (go_at_call 103; refine (isLetter_any _ _).mono ?_; rintro e w' ⟨rfl, rfl⟩)
        go_ret
        exact ⟨ret_bool (by rw [hl.out]), rfl⟩
end Go.Proofs.Ytandbnpgccpcoab
/- Numbers as texts: the digits of a number (plain). -/
namespace Go.Proofs.Ytandbnpgccpcoab
set_option linter.unusedVariables false

/-- the digits of n, at most f of them -/
def digs : Nat → Nat → List UInt8
  | 0, _ => []
  | f + 1, n => if n < 10 then [UInt8.ofNat (48 + n)] else digs f (n / 10) ++ [UInt8.ofNat (48 + n % 10)]
/-- a number as a text -/
def numL (n : Int) : List UInt8 := if n < 0 then 45 :: digs 20 n.natAbs else digs 20 n.natAbs

theorem digs_small (f n : Nat) (h : n < 10) : digs (f + 1) n = [UInt8.ofNat (48 + n)] := by simp [digs, h]
theorem digs_big (f n : Nat) (h : 10 ≤ n) : digs (f + 1) n = digs f (n / 10) ++ [UInt8.ofNat (48 + n % 10)] := by
  have : ¬ n < 10 := by omega
  simp [digs, this]
theorem digs_more : ∀ (f g n : Nat), n < 10 ^ (f + 1) → n < 10 ^ (g + 1) → digs (f + 1) n = digs (g + 1) n := by
  intro f
  induction f with
  | zero =>
    intro g n h _
    have h' : n < 10 := by simpa using h
    rw [digs_small _ _ h', digs_small _ _ h']
  | succ f ih =>
    intro g n h h2
    by_cases hn : n < 10
    · rw [digs_small _ _ hn, digs_small _ _ hn]
    · cases g with
      | zero => exfalso; apply hn; simpa using h2
      | succ g =>
        rw [digs_big (f + 1) n (by omega), digs_big (g + 1) n (by omega), ih g (n / 10)]
        · rw [Nat.pow_succ 10 (f + 1)] at h; omega
        · rw [Nat.pow_succ 10 (g + 1)] at h2; omega
theorem digs_len : ∀ (f n : Nat), (digs f n).length ≤ f := by
  intro f
  induction f with
  | zero => intro n; simp [digs]
  | succ f ih =>
    intro n
    by_cases hn : n < 10
    · rw [digs_small _ _ hn]; simp
    · rw [digs_big _ _ (by omega)]; have := ih (n / 10); simp; omega
theorem digs_ne (f n : Nat) : digs (f + 1) n ≠ [] := by
  by_cases hn : n < 10
  · rw [digs_small _ _ hn]; simp
  · rw [digs_big _ _ (by omega)]; simp

/-- what a text says as a number, digit by digit -/
def valL (l : List UInt8) : Int := l.foldl (fun a c => 10 * a + ((c.toNat : Int) - 48)) 0
def digB (c : UInt8) : Bool := decide (48 ≤ (c.toNat : Int) ∧ (c.toNat : Int) ≤ 57)
theorem valL_snoc (l : List UInt8) (c : UInt8) : valL (l ++ [c]) = 10 * valL l + ((c.toNat : Int) - 48) := by simp [valL]
theorem ofNat_dig (n : Nat) (h : n < 10) : ((UInt8.ofNat (48 + n)).toNat : Int) = 48 + n := by
  rw [UInt8.toNat_ofNat']; omega
theorem valL_digs : ∀ (f n : Nat), n < 10 ^ (f + 1) → valL (digs (f + 1) n) = n := by
  intro f
  induction f with
  | zero =>
    intro n h
    have h' : n < 10 := by simpa using h
    have e := ofNat_dig n h'
    rw [digs_small _ _ h']
    simp only [valL, List.foldl_cons, List.foldl_nil, e]; omega
  | succ f ih =>
    intro n h
    by_cases hn : n < 10
    · have e := ofNat_dig n hn
      rw [digs_small _ _ hn]
      simp only [valL, List.foldl_cons, List.foldl_nil, e]; omega
    · have e := ofNat_dig (n % 10) (by omega)
      rw [digs_big (f + 1) n (by omega), valL_snoc, ih (n / 10) (by rw [Nat.pow_succ 10 (f + 1)] at h; omega), e]; omega
theorem digs_dig : ∀ (f n : Nat), (digs f n).all digB = true := by
  intro f
  induction f with
  | zero => intro n; rfl
  | succ f ih =>
    intro n
    by_cases hn : n < 10
    · have e := ofNat_dig n hn
      rw [digs_small _ _ hn]; simp only [List.all_cons, List.all_nil, Bool.and_true, digB, e]; simp; omega
    · have e := ofNat_dig (n % 10) (by omega)
      rw [digs_big _ _ (by omega), List.all_append, ih]
      simp only [List.all_cons, List.all_nil, Bool.and_true, Bool.true_and, digB, e]; simp; omega
theorem rev_ind {α : Type} {P : List α → Prop} (h0 : P []) (hs : ∀ l c, P l → P (l ++ [c])) (l : List α) : P l := by
  rw [← List.reverse_reverse l]
  induction l.reverse with
  | nil => exact h0
  | cons c t ih => rw [List.reverse_cons]; exact hs _ _ ih
theorem all_snoc {l : List UInt8} {c : UInt8} (h : (l ++ [c]).all digB = true) : l.all digB = true ∧ 48 ≤ (c.toNat : Int) ∧ (c.toNat : Int) ≤ 57 := by
  rw [List.all_append, Bool.and_eq_true] at h
  refine ⟨h.1, ?_⟩
  have h2 := h.2
  simpa [digB] using h2
theorem valL_nonneg (l : List UInt8) : l.all digB = true → 0 ≤ valL l := by
  refine rev_ind (P := fun l => l.all digB = true → 0 ≤ valL l) (fun _ => by simp [valL]) (fun l c ih h => ?_) l
  have h1 := ih (all_snoc h).1
  have h2 := (all_snoc h).2
  rw [valL_snoc]; omega
theorem valL_lt (l : List UInt8) : l.all digB = true → (valL l).natAbs < 10 ^ l.length := by
  refine rev_ind (P := fun l => l.all digB = true → (valL l).natAbs < 10 ^ l.length) (fun _ => by simp [valL]) (fun l c ih h => ?_) l
  have h1 := ih (all_snoc h).1
  have h2 := (all_snoc h).2
  have h3 := valL_nonneg l (all_snoc h).1
  rw [valL_snoc, List.length_append, List.length_singleton, Nat.pow_succ]; omega
/-- a first digit that is not 0 makes a value of at least 1 -/
theorem valL_pos (l : List UInt8) : l.all digB = true → l ≠ [] → l.getD 0 0 ≠ 48 → 1 ≤ valL l := by
  refine rev_ind (P := fun l => l.all digB = true → l ≠ [] → l.getD 0 0 ≠ 48 → 1 ≤ valL l) (fun _ h => absurd rfl h) (fun l c ih h _ h0 => ?_) l
  have h2 := (all_snoc h).2
  rw [valL_snoc]
  cases l with
  | nil =>
    have hc : c.toNat ≠ 48 := fun e => h0 (by simp; exact UInt8.toNat_inj.1 e)
    simp only [valL, List.foldl_nil]; omega
  | cons x r =>
    have := ih (all_snoc h).1 (by simp) (by simpa using h0)
    omega
/-- digits without a leading 0 are the digits of their value -/
theorem digs_valL (l : List UInt8) : l.all digB = true → l ≠ [] → (l.length = 1 ∨ l.getD 0 0 ≠ 48) → digs l.length (valL l).natAbs = l := by
  refine rev_ind (P := fun l => l.all digB = true → l ≠ [] → (l.length = 1 ∨ l.getD 0 0 ≠ 48) → digs l.length (valL l).natAbs = l) (fun _ h => absurd rfl h) (fun l c ih h _ h0 => ?_) l
  have h2 := (all_snoc h).2
  have hl := (all_snoc h).1
  have h3 := valL_nonneg l hl
  rw [valL_snoc, List.length_append, List.length_singleton]
  have hc : UInt8.ofNat c.toNat = c := by simp
  cases l with
  | nil =>
    simp only [valL, List.foldl_nil, List.length_nil]
    rw [digs_small 0 _ (by omega)]
    have : 48 + (10 * 0 + ((c.toNat : Int) - 48)).natAbs = c.toNat := by omega
    rw [this, hc]; rfl
  | cons x r =>
    have hx : (x :: r).getD 0 0 ≠ 48 := by
      rcases h0 with h0 | h0
      · simp at h0
      · simpa using h0
    have hp := valL_pos (x :: r) hl (by simp) hx
    have hi := ih hl (by simp) (Or.inr hx)
    rw [digs_big _ _ (by omega)]
    rw [show (10 * valL (x :: r) + ((c.toNat : Int) - 48)).natAbs / 10 = (valL (x :: r)).natAbs from by omega, hi]
    rw [show 48 + (10 * valL (x :: r) + ((c.toNat : Int) - 48)).natAbs % 10 = c.toNat from by omega, hc]
/-- the digits of a number that is not 0 do not begin with a 0 -/
theorem digs_head : ∀ (f n : Nat), 1 ≤ n → n < 10 ^ (f + 1) → (digs (f + 1) n).getD 0 0 ≠ 48 := by
  intro f
  induction f with
  | zero =>
    intro n h h1
    have h' : n < 10 := by simpa using h1
    rw [digs_small _ _ h']
    intro e
    have e2 := ofNat_dig n h'
    have e3 : (UInt8.ofNat (48 + n)) = 48 := by simpa using e
    rw [e3] at e2
    have : ((48 : UInt8).toNat : Int) = 48 := by decide
    omega
  | succ f ih =>
    intro n h h1
    by_cases hn : n < 10
    · rw [digs_small _ _ hn]
      intro e
      have e2 := ofNat_dig n hn
      have e3 : (UInt8.ofNat (48 + n)) = 48 := by simpa using e
      rw [e3] at e2
      have : ((48 : UInt8).toNat : Int) = 48 := by decide
      omega
    · rw [digs_big _ _ (by omega)]
      have := ih (n / 10) (by omega) (by rw [Nat.pow_succ 10 (f + 1)] at h1; omega)
      have hne := digs_ne f (n / 10)
      revert this
      cases hd : digs (f + 1) (n / 10) with
      | nil => exact absurd hd hne
      | cons x r => simp
theorem numL_nat (n : Nat) : numL n = digs 20 n := by simp [numL, show ¬ ((n : Int) < 0) from by omega]

/-- which number from 0 to 999 a text writes, if any -/
def parseL (l : List UInt8) : Option Nat := (List.range 1000).find? fun n : Nat => decide (numL n = l)
theorem valL_numL (n : Nat) (h : n ≤ 999) : valL (numL n) = n := by rw [numL_nat]; exact valL_digs 19 n (Nat.lt_of_le_of_lt h (by decide))
theorem parseL_some {l : List UInt8} {n : Nat} (h : n ≤ 999) (e : numL n = l) : parseL l = some n := by
  unfold parseL
  cases hf : (List.range 1000).find? fun n : Nat => decide (numL n = l) with
  | none =>
    have := List.find?_eq_none.1 hf n (by simp; omega)
    simp [e] at this
  | some m =>
    have h1 := List.find?_some hf
    have h2 := List.mem_of_find?_eq_some hf
    have h1' : numL m = l := by simpa using h1
    have h3 : m < 1000 := by simpa using h2
    have a := valL_numL n h
    have b := valL_numL m (by omega)
    rw [e] at a; rw [h1', a] at b
    have hmn : m = n := by omega
    rw [hmn]
theorem parseL_none {l : List UInt8} (h : ∀ n : Nat, n ≤ 999 → numL n ≠ l) : parseL l = none := by
  unfold parseL
  rw [List.find?_eq_none]
  intro n hn
  have : n < 1000 := by simpa using hn
  simpa using h n (by omega)
theorem parseL_iff {l : List UInt8} {n : Nat} (h : parseL l = some n) : n ≤ 999 ∧ numL n = l := by
  have h1 := List.find?_some h
  have h2 := List.mem_of_find?_eq_some h
  have h3 : n < 1000 := by simpa using h2
  exact ⟨by omega, by simpa using h1⟩
/-- a text that is parsed: its facts -/
theorem numL_len {n : Nat} (h : n ≤ 999) : (numL n).length ≤ 3 := by
  rw [numL_nat, digs_more 19 2 n (Nat.lt_of_le_of_lt h (by decide)) (by simpa using Nat.lt_of_le_of_lt h (by decide))]; exact digs_len _ _
theorem numL_dig (n : Nat) : (numL n).all digB = true := by rw [numL_nat]; exact digs_dig _ _
theorem numL_ne (n : Nat) : numL n ≠ [] := by rw [numL_nat]; exact digs_ne _ _
theorem numL_head {n : Nat} (h : n ≤ 999) (h1 : (numL n).length ≠ 1) : (numL n).getD 0 0 ≠ 48 := by
  have hn : 10 ≤ n := by
    rcases Nat.lt_or_ge n 10 with h' | h'
    · exfalso; apply h1; rw [numL_nat, digs_small _ _ h']; rfl
    · exact h'
  rw [numL_nat]; exact digs_head 19 n (by omega) (Nat.lt_of_le_of_lt h (by decide))
/-- the model's way: the value of the first four, written again -/
theorem parseL_spec (l : List UInt8) : (0 ≤ valL (l.take 4) ∧ valL (l.take 4) ≤ 999 ∧ numL (valL (l.take 4)) = l → parseL l = some (valL (l.take 4)).toNat) ∧
    (¬ (0 ≤ valL (l.take 4) ∧ valL (l.take 4) ≤ 999 ∧ numL (valL (l.take 4)) = l) → parseL l = none) := by
  constructor
  · rintro ⟨h0, h1, h2⟩
    refine parseL_some (by omega) ?_
    rw [show ((valL (l.take 4)).toNat : Int) = valL (l.take 4) from by omega]; exact h2
  · intro h
    refine parseL_none fun n hn e => h ?_
    have hl := numL_len hn
    have hv := valL_numL n hn
    rw [e] at hl hv
    rw [List.take_of_length_le (by omega), hv]
    exact ⟨by omega, by omega, e⟩
theorem parseL_good (l : List UInt8) (hd : l.all digB = true) (hne : l ≠ []) (hz : l.length = 1 ∨ l.getD 0 0 ≠ 48) (hv : valL l ≤ 999) : parseL l = some (valL l).toNat := by
  have h0 := valL_nonneg l hd
  refine parseL_some (by omega) ?_
  rw [numL_nat, show (valL l).toNat = (valL l).natAbs from by omega]
  have hd2 := digs_valL l hd hne hz
  have hlt := valL_lt l hd
  cases hl : l.length with
  | zero => exact absurd (List.eq_nil_of_length_eq_zero hl) hne
  | succ k =>
    rw [hl] at hd2 hlt
    rw [← digs_more k 19 _ hlt (Nat.lt_of_le_of_lt (show (valL l).natAbs ≤ 999 by omega) (by decide)), hd2]
theorem parseL_nil : parseL [] = none := parseL_none fun n _ e => numL_ne n e
theorem parseL_zero (l : List UInt8) (h : l.getD 0 0 = 48) (h1 : 1 < l.length) : parseL l = none := by
  refine parseL_none fun n hn e => ?_
  subst e
  exact numL_head hn (by omega) h
theorem parseL_nodig (l : List UInt8) (k : Nat) (hk : k < l.length) (h : digB (l.getD k 0) = false) : parseL l = none := by
  refine parseL_none fun n _ e => ?_
  subst e
  have := List.all_eq_true.1 (numL_dig n) ((numL n).getD k 0) (by simp only [List.getD_eq_getElem?_getD]; rw [List.getElem?_eq_getElem hk]; simp)
  rw [h] at this; cases this
theorem valL_take (l : List UInt8) (hd : l.all digB = true) (k : Nat) : valL (l.take k) ≤ valL l := by
  rcases Nat.lt_or_ge k l.length with h | h
  · revert k
    refine rev_ind (P := fun l => l.all digB = true → ∀ k, k < l.length → valL (l.take k) ≤ valL l) (fun _ k h => by simp at h) (fun l c ih h k hk => ?_) l hd
    have h2 := (all_snoc h).2
    have hl := (all_snoc h).1
    have h0 := valL_nonneg l hl
    rw [valL_snoc]
    rcases Nat.lt_or_ge k l.length with h3 | h3
    · have := ih hl k h3
      rw [List.take_append_of_le_length (by omega)]; omega
    · have : k = l.length := by simp at hk; omega
      subst this
      rw [List.take_append_of_le_length (by omega), List.take_length]; omega
  · rw [List.take_of_length_le h]; omega
theorem parseL_big (l : List UInt8) (k : Nat) (h : 999 < valL (l.take k)) : parseL l = none := by
  refine parseL_none fun n hn e => ?_
  subst e
  have := valL_take _ (numL_dig n) k
  rw [valL_numL n hn] at this; omega
theorem u8_lt (c : UInt8) : (c.toNat : Int) ≤ 255 := by have := c.toNat_lt; omega
theorem valL_bd (l : List UInt8) : (valL l).natAbs + 23 ≤ 23 * 10 ^ l.length := by
  refine rev_ind (P := fun l => (valL l).natAbs + 23 ≤ 23 * 10 ^ l.length) (by simp [valL]) (fun l c ih => ?_) l
  have := u8_lt c
  rw [valL_snoc, List.length_append, List.length_singleton, Nat.pow_succ]; omega
theorem valL_bd4 (l : List UInt8) (k : Nat) (hk : k ≤ 4) : -230000 ≤ valL (l.take k) ∧ valL (l.take k) ≤ 230000 := by
  have h := valL_bd (l.take k)
  have h1 : (l.take k).length ≤ 4 := by simp; omega
  have h2 : 10 ^ (l.take k).length ≤ 10 ^ 4 := Nat.pow_le_pow_right (by omega) h1
  omega
end Go.Proofs.Ytandbnpgccpcoab
/- Contracts of the model's FormatNumber and ParseNumber. -/
namespace Go.Proofs.Ytandbnpgccpcoab
set_option linter.unusedVariables false
open Go.RowKit
theorem conv_one (w : World) (x : Int) (h0 : 0 ≤ x) (h1 : x ≤ 255) :
    (convert 62 9 (.slice (some ⟨w.heap.size, 0, none⟩) 1 1)).run Try.prog (w.alloc (.cells #[.int .u8 x] 5)) = .ok (.string ⟨[UInt8.ofNat x.toNat].toArray⟩) (w.alloc (.cells #[.int .u8 x] 5)) := by
  refine run_convert_bytes_back (w.alloc (.cells #[.int .u8 x] 5)) 62 9 5 ⟨w.heap.size, 0, none⟩ 1 [UInt8.ofNat x.toNat] Try.underlying62 Try.underlying5 Try.underlying9 ?_
  intro j hj
  have : j = 0 := by simpa using hj
  subst this
  simp [Addr.add]; omega
theorem dig_eq {a b : Nat} (h : a = b) : #[UInt8.ofNat a].toList = [UInt8.ofNat b] := by rw [h]
theorem ret_strB {s : ByteArray} {b : List UInt8} (h : s.data.toList = b) : Ending.returned (.string s) = .returned (.string ⟨b.toArray⟩) := by subst h; simp
theorem data_app (a b : ByteArray) : (a ++ b).data.toList = a.data.toList ++ b.data.toList := by rw [ByteArray.data_append]; simp
theorem ret_str {a b : List UInt8} (h : a = b) : Ending.returned (.string ⟨a.toArray⟩) = .returned (.string ⟨b.toArray⟩) := by rw [h]
theorem ret_strA {a : Array UInt8} {b : List UInt8} (h : a.toList = b) : Ending.returned (.string ⟨a⟩) = .returned (.string ⟨b.toArray⟩) := by subst h; simp
end Go.Proofs.Ytandbnpgccpcoab
/- Lists of texts: what the laws' own helpers do with them. -/
namespace Go.Proofs.Ytandbnpgccpcoab
set_option linter.unusedVariables false
open Go.RowKit

theorem rowAt_cell {w : World} {a : Option Addr} {n c : Nat} {xs : List Value} (h : RowAt w (.slice a n c) xs) (k : Nat) (hk : k < xs.length) : ∃ b o, a = some ⟨b, o, none⟩ ∧ b < w.heap.size ∧ w.cell? ⟨b, o + k, none⟩ = some (xs[k]'hk) := by
  obtain ⟨a', c', e, hl, h⟩ := h
  injection e with e1 e2 e3
  subst e1
  rcases h with rfl | ⟨b, o, rfl, hlt, hc⟩
  · simp at hk
  · exact ⟨b, o, rfl, hlt, by rw [hc k hk]; exact List.getElem?_eq_getElem hk⟩
theorem rowAt_cap {w : World} {v : Value} {xs : List Value} (h : RowAt w v xs) : ∃ a c, v = .slice a xs.length c ∧ xs.length ≤ maxLen ∧ xs.length ≤ c := by
  obtain ⟨a, c, rfl, hl, _⟩ := h; exact ⟨a, _, rfl, hl, by omega⟩
theorem rowAt_len {w : World} {v : Value} {xs : List Value} (h : RowAt w v xs) : ∃ a c, v = .slice a xs.length c ∧ xs.length ≤ maxLen := by
  obtain ⟨a, c, rfl, hl, _⟩ := h; exact ⟨a, _, rfl, hl⟩
theorem rowAt_cellS {w : World} {b o n c : Nat} {xs : List Value} (h : RowAt w (.slice (some ⟨b, o, none⟩) n c) xs) (k : Nat) (hk : k < xs.length) : w.cell? ⟨b, o + k, none⟩ = some (xs[k]'hk) := by
  obtain ⟨b', o', e, _, h⟩ := rowAt_cell h k hk
  injection e with e
  injection e with e1 e2
  subst e1; subst e2; exact h
theorem rowAt_drewN {w : World} {v : Value} {xs : List Value} (h : RowAt w v xs) (n : Nat) : RowAt (w.drewN n) v xs := h
theorem below_drewN {B : Nat} {a w : World} (h : Below B a w) (n : Nat) : Below B a (w.drewN n) := ⟨h.os, h.tape, h.output, h.size, h.block⟩
theorem getElem_map_strV (l : List (List UInt8)) (k : Nat) (h : k < (l.map strV).length) : (l.map strV)[k] = strV (l[k]'(by simpa using h)) := by simp
theorem take_eq_step {α : Type} [DecidableEq α] (x y : List α) (hl : x.length = y.length) (k : Nat) (hk : k < x.length) (h : x.take k = y.take k) : (x[k] = y[k]'(by omega)) → x.take (k + 1) = y.take (k + 1) := by
  intro e
  rw [List.take_succ_eq_append_getElem hk, List.take_succ_eq_append_getElem (by omega), h, e]
set_option maxHeartbeats 400000 in
theorem eqStringS_any (v u : Value) (x y : List (List UInt8)) (w : World) (hx : RowAt w v (x.map strV)) (hy : RowAt w u (y.map strV)) :
    Calls Try.prog 14 #[v, u] w fun e w' => e = .returned (.bool (decide (x = y))) ∧ Below w.heap.size w w' := by
  obtain ⟨a, c, rfl, hl⟩ := rowAt_len hx
  obtain ⟨a2, c2, rfl, hl2⟩ := rowAt_len hy
  rw [List.length_map] at *
  have HX := Lib.hid hx
  have HY := Lib.hid hy
  clear hx hy
  unfold maxLen at hl hl2
  by_cases he : x.length = y.length
  · have hb : ((x.length : Int) == y.length) = true := beq_iff_eq.2 (by omega)
    have HE := Lib.hid he
    clear he
    go_enter Try.func14, Try.ntmps14
    go_wp2
    go_loopw [5] (fun i wr => ∃ k : Nat, k ≤ x.length ∧ i = .int .i64 k ∧ x.take k = y.take k ∧ ∃ nq, wr = w.drewN nq) (fun i _ => x.length - (intOf i).toNat)
    case atStart => exact ⟨0, Nat.zero_le _, rfl, rfl, 0, rfl⟩
    case round =>
      obtain ⟨k, hk, rfl, ht, nq, rfl⟩ := hrel
      have HT := Lib.hid ht
      clear ht
      by_cases hlt : k < x.length
      · have hky : k < y.length := by have := HE.out; omega
        obtain ⟨b, o, rfl, _, d1⟩ := rowAt_cell HX.out k (by simpa using hlt)
        obtain ⟨b2, o2, rfl, _, d2⟩ := rowAt_cell HY.out k (by simpa using hky)
        rw [getElem_map_strV] at d1 d2
        unfold strV at d1 d2
        by_cases heq : x[k] = y[k]
        · have hbeq : (x[k] == y[k]) = true := by simpa using heq
          have HN := Lib.hid (take_eq_step x y HE.out k hlt HT.out heq)
          clear heq
          go_wp2
          go_quiet (fail)
          go_wp2
          exact ⟨⟨k + 1, by omega, by go_num, HN.out, _, rfl⟩, by simp [intOf]; omega⟩
        · have hbeq : (x[k] == y[k]) = false := by simpa using heq
          have HN := Lib.hid (show ¬ x = y from fun e => heq (by subst e; rfl))
          clear heq
          go_wp2
          go_quiet (fail)
          go_wp2
          go_ret
          exact ⟨ret_bool (by simp [HN.out]), below_drewN (below_drewN (Below.refl _ _) _) _⟩
      · have HN := Lib.hid (show x = y from by
          have h := HT.out
          rw [List.take_of_length_le (by omega), List.take_of_length_le (by have := HE.out; omega)] at h
          exact h)
        go_wp2
        go_ret
        exact ⟨ret_bool (by simp [HN.out]), below_drewN (Below.refl _ _) _⟩
  · have hb : ((x.length : Int) == y.length) = false := beq_eq_false_iff_ne.2 (by omega)
    have HN := Lib.hid (show ¬ x = y from fun e => he (by rw [e]))
    clear he
    go_enter Try.func14, Try.ntmps14
    go_wp2
    go_ret
    exact ⟨ret_bool (by simp [HN.out]), Below.refl _ _⟩
def total : List (List UInt8) → Nat
  | [] => 0
  | x :: r => x.length + total r
theorem total_take_succ (x : List (List UInt8)) (k : Nat) (h : k < x.length) : total (x.take (k + 1)) = total (x.take k) + (x[k]).length := by
  induction x generalizing k with
  | nil => simp at h
  | cons a r ih =>
    cases k with
    | zero => simp [total]
    | succ k =>
      have := ih k (by simpa using h)
      simp only [List.take_succ_cons, total, List.getElem_cons_succ, this]; omega
theorem size_strB (l : List UInt8) : (⟨l.toArray⟩ : ByteArray).size = l.length := by simp [ByteArray.size]
def SzPost (x : List (List UInt8)) (left : Int) (w : World) (e : Ending) (w' : World) : Prop := ∃ r : Int, e = .returned (.int .i64 r) ∧ -1 ≤ r ∧ (0 ≤ r → (x.length : Int) + total x + r = left) ∧ w = w'
set_option maxHeartbeats 400000 in
theorem szStringS_any (v : Value) (x : List (List UInt8)) (left : Int) (w : World) (hx : RowAt w v (x.map strV)) (hs : ∀ s ∈ x, s.length ≤ maxLen) (h0 : 0 ≤ left) (h1 : left ≤ 1099511627776) :
    Calls Try.prog 10 #[v, .int .i64 left] w fun e w' => SzPost x left w e w' := by
  obtain ⟨a, c, rfl, hl⟩ := rowAt_len hx
  rw [List.length_map] at *
  have HX := Lib.hid hx
  have HS := Lib.hid hs
  clear hx hs
  unfold maxLen at hl
  by_cases hneg : left - (x.length : Int) < 0
  · go_enter Try.func10, Try.ntmps10
    go_wp2
    go_ret
    exact ⟨-1, rfl, by omega, by omega, rfl⟩
  · go_enter Try.func10, Try.ntmps10
    go_wp2
    go_loop [1, 5] (fun r i => ∃ k : Nat, ∃ z : Int, k ≤ x.length ∧ i = .int .i64 k ∧ r = .int .i64 z ∧ 0 ≤ z ∧ z ≤ left ∧ (x.length : Int) + total (x.take k) + z = left) (fun _ i => x.length - (intOf i).toNat)
    case atStart => exact ⟨0, _, Nat.zero_le _, rfl, rfl, by omega, by omega, by simp [total]; omega⟩
    case round =>
      obtain ⟨k, z, hk, rfl, rfl, hz0, hz1, ht⟩ := hrel
      have HT := Lib.hid ht
      clear ht
      by_cases hlt : k < x.length
      · obtain ⟨b, o, rfl, _, d1⟩ := rowAt_cell HX.out k (by simpa using hlt)
        rw [getElem_map_strV] at d1
        unfold strV at d1
        have hsz := size_strB x[k]
        have hmx : (x[k]).length ≤ maxLen := HS.out _ (List.getElem_mem hlt)
        unfold maxLen at hmx
        have HK := Lib.hid (total_take_succ x k hlt)
        by_cases hn2 : z - ((x[k]).length : Int) < 0
        · go_wp2
          go_ret
          exact ⟨-1, rfl, by omega, by omega, rfl⟩
        · go_wp2
          go_round
          case rel => exact ⟨k + 1, _, by omega, by go_num, rfl, by omega, by omega, by rw [HK.out]; have := HT.out; push_cast; omega⟩
          case measure => simp [intOf]; omega
      · have HN := Lib.hid (show x.take k = x from List.take_of_length_le (by omega))
        go_wp2
        go_ret
        exact ⟨z, rfl, by omega, fun _ => by have := HT.out; rw [HN.out] at this; exact this, rfl⟩
theorem string_cells : Try.prog.cellsOf 9 = 1 := by kernel_rfl
theorem string_info : (Try.prog.info? 9).map (fun i => (i.zero, i.size, i.bytes)) = some (some (.string ⟨#[]⟩), 1, 16) := by kernel_rfl
theorem take_set_succ {α : Type} (xs ys : List α) (k : Nat) (h : k < xs.length) (hy : k < ys.length) (ht : xs.take k = ys.take k) : (xs.set k (ys[k])).take (k + 1) = ys.take (k + 1) := by
  rw [List.take_succ_eq_append_getElem (by simpa using h), List.take_succ_eq_append_getElem hy]
  rw [List.take_set_of_le (by omega), ht]; simp
/-- the slice v is a row of the call's own, of texts -/
def Owns (w : World) (B : Nat) (v : Value) (xs : List (List UInt8)) : Prop := w.ownsRow B 9 1 v xs.length (xs.map strV)
theorem ownsRow_below {w w' : World} {B B' : Nat} {e : TypeId} {size n : Nat} {v : Value} {xs : List Value} (h : w.ownsRow B e size v n xs) (hb : Below B' w w') (hB : w.heap.size ≤ B') : w'.ownsRow B e size v n xs :=
  h.kept (row := none) ⟨hb.os, hb.tape, hb.output, hb.size, fun i hi _ => hb.block i (Nat.lt_of_lt_of_le hi hB)⟩ (by cases v.ownBlock <;> simp)
theorem ownsRow_rowAt {w : World} {B : Nat} {e : TypeId} {n : Nat} {v : Value} {xs : List Value} (h : w.ownsRow B e 1 v n xs) (hm : n ≤ maxLen) : RowAt w v xs := by
  have hl : xs.length = n := by simpa using h.1
  rcases h.2 with ⟨rfl, rfl⟩ | ⟨g, cap, cur, rfl, hb, hg, hn, hc, hs, ht⟩
  · have : xs = [] := List.eq_nil_of_length_eq_zero hl
    subst this
    exact ⟨none, 0, rfl, Nat.zero_le _, Or.inl rfl⟩
  · subst hl
    refine ⟨_, _, cap_eq _ hn, hm, Or.inr ⟨g, 0, rfl, (Array.getElem?_eq_some_iff.1 hg).1, fun i hi => ?_⟩⟩
    rw [Nat.zero_add]
    exact World.ownsRow.cellAt h i (by simpa using hi)
set_option maxRecDepth 100000 in
set_option maxHeartbeats 400000 in
theorem toStringS_any (v : Value) (x : List (List UInt8)) (w : World) (hx : RowAt w v (x.map strV)) (hm : x.length ≤ 2097152) :
    Calls Try.prog 12 #[v] w fun e w' => e = .returned (.slice (some ⟨w.heap.size, 0, none⟩) x.length x.length) ∧ Owns w' w.heap.size (.slice (some ⟨w.heap.size, 0, none⟩) x.length x.length) x ∧ Below w.heap.size w w' := by
  obtain ⟨a, c, rfl, hl⟩ := rowAt_len hx
  rw [List.length_map] at *
  obtain ⟨i0, hi, hz0, hz1, hz2⟩ := info_parts string_info
  have HX := Lib.hid hx
  clear hx
  unfold maxLen at hl
  go_enter Try.func12, Try.ntmps12
  have hb2 : i0.bytes * x.length ≤ 281474976710656 := by rw [hz2]; omega
  have HB2 := Lib.hid hb2
  have HM := Lib.hid (show x.length ≤ maxLen from by unfold maxLen; omega)
  clear hb2
  go_wp2_with (refine wpList_make_full _ rfl (.tmp 6) (.tmp 6) 26 rfl w.heap.size 9 i0 (.string ⟨#[]⟩) 1 Try.underlying26 hi hz0 hz1 .i64 .i64 _ _ x.length rfl rfl rfl rfl HB2.out HM.out (Nat.le_refl _) ?_; intro w1 hown1 hgrow1)
  have HO := Lib.hid (show ∃ xs, w1.ownsRow w.heap.size 9 1 (.slice (some ⟨w.heap.size, 0, none⟩) x.length x.length) x.length xs ∧ xs.take 0 = (x.map strV).take 0 from ⟨_, hown1, rfl⟩)
  have HB := Lib.hid (show Below w.heap.size w w1 from ⟨hgrow1.os, hgrow1.tape, hgrow1.output, hgrow1.size, fun i hi => hgrow1.block i hi (by simp)⟩)
  have hsz := hgrow1.size
  clear hown1 hgrow1 hz0 hz1 hz2 HB2 hi
  go_loopw [4] (fun i wr => ∃ k : Nat, k ≤ x.length ∧ i = .int .i64 k ∧ (∃ xs, wr.ownsRow w.heap.size 9 1 (.slice (some ⟨w.heap.size, 0, none⟩) x.length x.length) x.length xs ∧ xs.take k = (x.map strV).take k) ∧ Below w.heap.size w wr) (fun i _ => x.length - (intOf i).toNat)
  case atStart => exact ⟨0, Nat.zero_le _, rfl, HO.out, HB.out⟩
  case round =>
    obtain ⟨k, hk, rfl, ⟨xs, hown, htake⟩, hb⟩ := hrel
    have HR := Lib.hid (RowAt.below HX.out hb (Nat.le_refl _))
    have HBr := Lib.hid hb
    have HOw := Lib.hid hown
    have HT := Lib.hid htake
    have hxl : xs.length = x.length := by simpa using hown.1
    have HXL := Lib.hid hxl
    clear hb hown htake hxl
    by_cases hlt : k < x.length
    · obtain ⟨b, o, rfl, _, d1⟩ := rowAt_cell HR.out k (by simpa using hlt)
      rw [getElem_map_strV] at d1
      unfold strV at d1
      obtain ⟨u, d2⟩ : ∃ u, wr.cell? ⟨w.heap.size, k, none⟩ = some u := by
        have := World.ownsRow.cellAt HOw.out k (by omega)
        rw [this, List.getElem?_eq_getElem (by have := HXL.out; omega)]
        exact ⟨_, rfl⟩
      have f2 := World.ownsRow.frozenAt HOw.out k
      have HN := Lib.hid (take_set_succ xs (x.map strV) k (by have := HXL.out; omega) (by simpa using hlt) HT.out)
      have HS := Lib.hid (World.ownsRow.stored HOw.out k (strV x[k]))
      go_wp2
      refine ⟨⟨k + 1, by omega, by go_num, ⟨_, HS.out.1, ?_⟩, ?_⟩, by simp [intOf]; omega⟩
      · have := HN.out; rwa [getElem_map_strV] at this
      · exact HBr.out.setCell (Nat.le_refl _) _
    · have HN := Lib.hid (show xs = x.map strV from by
        have h := HT.out
        rw [List.take_of_length_le (by have := HXL.out; omega), List.take_of_length_le (by simp; omega)] at h
        exact h)
      go_wp2
      go_ret
      exact ⟨rfl, by have h := HOw.out; rw [HN.out] at h; exact h, HBr.out⟩
/-- the digits of a number, none for 0 -/
def dg0 (m : Nat) : List UInt8 := if m = 0 then [] else digs 20 m
theorem dg0_step (m : Nat) (h0 : 0 < m) (h1 : m ≤ 9223372036854775807) : dg0 m = dg0 (m / 10) ++ [UInt8.ofNat (48 + m % 10)] := by
  have e : dg0 m = digs 20 m := by simp [dg0, show m ≠ 0 from by omega]
  rw [e]
  by_cases h : m < 10
  · have e2 : dg0 (m / 10) = [] := by simp [dg0]; omega
    rw [e2, digs_small 19 m h, show m % 10 = m from by omega]; rfl
  · have e2 : dg0 (m / 10) = digs 20 (m / 10) := by simp [dg0]; omega
    rw [e2, digs_big 19 m (by omega), digs_more 18 19 (m / 10) (by omega) (by omega)]
theorem add48 (x : Nat) : (48 : UInt8) + UInt8.ofNat x = UInt8.ofNat (48 + x) := by rw [UInt8.ofNat_add]; rfl
theorem app_one (a : UInt8) (l : List UInt8) : Value.string (({ data := #[a] } : ByteArray) ++ { data := l.toArray }) = .string { data := (a :: l).toArray } := by
  congr 1
def markL (k : Int) : List UInt8 := 109 :: dg0 k.toNat
theorem dg0_len (m : Nat) : (dg0 m).length ≤ 20 := by
  unfold dg0; split
  · simp
  · exact digs_len 20 m
set_option maxHeartbeats 400000 in
theorem markText_any (k : Int) (w : World) (h0 : 1 ≤ k) (h1 : k ≤ 9223372036854775807) :
    Calls Try.prog 27 #[.int .i64 k] w fun e w' => e = .returned (.string ⟨(markL k).toArray⟩) ∧ Below w.heap.size w w' := by
  go_enter Try.func27, Try.ntmps27
  go_wp2_with fail
  go_loopw [0, 3] (fun kv ov wr => ∃ (m : Nat) (out : List UInt8), kv = .int .i64 m ∧ ov = .string ⟨out.toArray⟩ ∧ (m : Int) ≤ k ∧ dg0 m ++ out = dg0 k.toNat ∧ Below w.heap.size w wr) (fun kv _ _ => (intOf kv).toNat)
  case atStart => exact ⟨k.toNat, [], by rw [show ((k.toNat : Nat) : Int) = k from by omega], rfl, by omega, by simp, Below.refl _ _⟩
  case round =>
    obtain ⟨m, out, rfl, rfl, hm, hout, hb⟩ := hrel
    have HO := Lib.hid hout
    have HB := Lib.hid hb
    have hlen : out.length ≤ 20 := by have h := congrArg List.length hout; have h2 := dg0_len k.toNat; simp at h; omega
    clear hout hb
    by_cases hp : 0 < m
    · have hcv := conv_one wr (48 + (m : Int) % 10) (by omega) (by omega)
      have HS := Lib.hid (dg0_step m hp (by omega))
      go_wp2_with fail
      refine ⟨⟨m / 10, UInt8.ofNat (48 + m % 10) :: out, by go_num, ?_, by omega, ?_, ?_⟩, by simp [intOf]; omega⟩
      · rw [app_one, add48]
      · have h := HO.out; rw [HS.out] at h; rw [← h]; simp
      · exact HB.out.trans (((Below.refl _ wr).alloc (Nat.le_refl _) _).mono HB.out.size)
    · have hm0 : m = 0 := by omega
      have HF := Lib.hid (show out = dg0 k.toNat from by have h := HO.out; subst hm0; simpa [dg0] using h)
      go_wp2_with fail
      go_ret
      exact ⟨ret_strB (by rw [data_app, HF.out]; rfl), HB.out⟩
/-- the marks from k on, n of them -/
def marks (k : Int) (n : Nat) : List (List UInt8) := (List.range n).map fun i : Nat => markL (k + i)
theorem marks_len (k : Int) (n : Nat) : (marks k n).length = n := by simp [marks]
theorem marks_get (k : Int) (n i : Nat) (h : i < n) : (marks k n)[i]'(by rw [marks_len]; exact h) = markL (k + i) := by simp [marks]
theorem markL_len (k : Int) : (markL k).length ≤ 21 := by unfold markL; have := dg0_len k.toNat; simp; omega
theorem grownBy_refl (w : World) (r : Option Nat) : w.grownBy w r := ⟨rfl, rfl, rfl, Nat.le_refl _, fun _ _ _ => rfl⟩
theorem grownBy_trans {a b c : World} {r : Option Nat} (h : a.grownBy b r) (k : b.grownBy c r) : a.grownBy c r :=
  ⟨k.os.trans h.os, k.tape.trans h.tape, k.output.trans h.output, Nat.le_trans h.size k.size, fun i hi hr => (k.block i (Nat.lt_of_lt_of_le hi h.size) hr).trans (h.block i hi hr)⟩
theorem grownBy_below {a b c : World} {B : Nat} {r : Option Nat} (h : a.grownBy b r) (k : Below B b c) (hB : a.heap.size ≤ B) : a.grownBy c r :=
  ⟨k.os.trans h.os, k.tape.trans h.tape, k.output.trans h.output, Nat.le_trans h.size k.size, fun i hi hr => (k.block i (Nat.lt_of_lt_of_le hi hB)).trans (h.block i hi hr)⟩
/-- append of one text to a row of the call's own -/
theorem append_strs {ops : Array Oper} {rest : List Oper} {o : Oper} {a : Act} {Q : Exit → Act → World → Prop} (hgd : o.guard = none) (s x : Operand)
    (ho : o.op = .call { callee := .builtin .append, args := #[s, x], argTypes := #[26, 26] }) (B : Nat) (v : Value) (xs : List (List UInt8)) (y : List UInt8) (w : World) (blk : Nat)
    (hs : a.eval s = v) (hO : Owns w B v xs) (hx : a.eval x = .slice (some ⟨blk, 0, none⟩) 1 1) (hc : w.cell? ⟨blk, 0, none⟩ = some (strV y)) (hl : xs.length ≤ 4194304) (hB : B ≤ w.heap.size)
    (h : ∀ v' w', Owns w' B v' (xs ++ [y]) → w.grownBy w' v.ownBlock → wpList Try.prog ops Q rest (a.put o.dst v') w') : wpList Try.prog ops Q (o :: rest) a w := by
  obtain ⟨i0, hi, hz0, hz1, hz2⟩ := info_parts string_info
  refine wpList_append_own _ hgd s x 26 ho B 9 i0 (.string ⟨#[]⟩) 1 16 Try.underlying26 hi hz0 hz1 hz2 rfl (by decide) v xs.length (xs.map strV) hs hO ⟨blk, 0, none⟩ 1 1 [strV y] hx rfl ?_ ?_ (by unfold maxLen; omega) (by omega) hB ?_
  · intro j u hj
    cases j with
    | zero => simp at hj; subst hj; rw [Addr.add_lit]; exact hc
    | succ j => simp at hj
  · intro u hu; simp at hu; subst hu; rfl
  · intro v' w' h1 h2 _
    refine h v' w' ?_ h2
    unfold Owns; rw [List.map_append, List.length_append]; exact h1
/-- the same; what is not nil is not nil then -/
theorem append_strsN {ops : Array Oper} {rest : List Oper} {o : Oper} {a : Act} {Q : Exit → Act → World → Prop} (hgd : o.guard = none) (s x : Operand)
    (ho : o.op = .call { callee := .builtin .append, args := #[s, x], argTypes := #[26, 26] }) (B : Nat) (v : Value) (xs : List (List UInt8)) (y : List UInt8) (w : World) (blk : Nat)
    (hs : a.eval s = v) (hO : Owns w B v xs) (hx : a.eval x = .slice (some ⟨blk, 0, none⟩) 1 1) (hc : w.cell? ⟨blk, 0, none⟩ = some (strV y)) (hl : xs.length ≤ 4194304) (hB : B ≤ w.heap.size) (hnn : v ≠ .slice none 0 0)
    (h : ∀ v' w', Owns w' B v' (xs ++ [y]) → w.grownBy w' v.ownBlock → v' ≠ .slice none 0 0 → wpList Try.prog ops Q rest (a.put o.dst v') w') : wpList Try.prog ops Q (o :: rest) a w := by
  obtain ⟨i0, hi, hz0, hz1, hz2⟩ := info_parts string_info
  refine wpList_append_own _ hgd s x 26 ho B 9 i0 (.string ⟨#[]⟩) 1 16 Try.underlying26 hi hz0 hz1 hz2 rfl (by decide) v xs.length (xs.map strV) hs hO ⟨blk, 0, none⟩ 1 1 [strV y] hx rfl ?_ ?_ (by unfold maxLen; omega) (by omega) hB ?_
  · intro j u hj
    cases j with
    | zero => simp at hj; subst hj; rw [Addr.add_lit]; exact hc
    | succ j => simp at hj
  · intro u hu; simp at hu; subst hu; rfl
  · intro v' w' h1 h2 h3
    refine h v' w' ?_ h2 (fun e => hnn (h3.1 e).1)
    unfold Owns; rw [List.map_append, List.length_append]; exact h1
theorem owns_new (w : World) : Owns (w.alloc (.cells #[] 9)) w.heap.size (.slice (some ⟨w.heap.size, 0, none⟩) 0 0) [] :=
  World.ownsRow_made w #[] 0 (Nat.le_refl _) (Nat.zero_le _) rfl
theorem cell_new (w : World) (t : TypeId) (y : Value) : (w.alloc (.cells #[y] t)).cell? ⟨w.heap.size, 0, none⟩ = some y :=
  (cell_of_row _ _ 0 _ t (0, 0) (heap_alloc_new w _)).trans rfl
theorem cell_newS (w : World) (t : TypeId) (s : ByteArray) (blk : Nat) (h : blk = w.heap.size) : (w.alloc (.cells #[.string s] t)).cell? ⟨blk, 0, none⟩ = some (strV s.data.toList) := by
  subst h; rw [cell_new]; simp [strV]
theorem owns_alloc {w : World} {B : Nat} {v : Value} {xs : List (List UInt8)} (h : Owns w B v xs) (o : Obj) : Owns (w.alloc o) B v xs := World.ownsRow.alloc h o
theorem owns_below {w w' : World} {B B' : Nat} {v : Value} {xs : List (List UInt8)} (h : Owns w B v xs) (hb : Below B' w w') (hB : w.heap.size ≤ B') : Owns w' B v xs := ownsRow_below h hb hB
/-- what an append left: nothing below B has turned -/
theorem below_append {a w w' : World} {B : Nat} {v : Value} {xs : List (List UInt8)} (hb : Below B a w) (hO : Owns w B v xs) (hg : w.grownBy w' v.ownBlock) (hB : B ≤ w.heap.size) : Below B a w' :=
  hb.grown hg hB (fun k hk => (World.ownsRow.lt hO k hk).1)
/-- a new row of texts -/
def GivesRow (x : List (List UInt8)) (w : World) (e : Ending) (w' : World) : Prop := ∃ v, e = .returned v ∧ Owns w' w.heap.size v x ∧ Below w.heap.size w w'
theorem owns_row {w : World} {B : Nat} {v : Value} {x : List (List UInt8)} (h : Owns w B v x) (hm : x.length ≤ 4194304) : RowAt w v (x.map strV) := ownsRow_rowAt h (by unfold maxLen; omega)
end Go.Proofs.Ytandbnpgccpcoab
/- Lists of integers: what the laws' own helpers do with them. -/
namespace Go.Proofs.Ytandbnpgccpcoab
set_option linter.unusedVariables false
open Go.RowKit
theorem take_eq_stepI (x y : List Int) (hl : x.length = y.length) (k : Nat) (hk : k < x.length) (h : x.take k = y.take k) : (x[k] = y[k]) → x.take (k + 1) = y.take (k + 1) := by
  intro e
  rw [List.take_succ_eq_append_getElem hk, List.take_succ_eq_append_getElem (by omega), h, e]
def intV (n : Int) : Value := .int .i64 n
theorem getElem_map_intV (l : List Int) (k : Nat) (h : k < (l.map intV).length) : (l.map intV)[k] = intV (l[k]'(by simpa using h)) := by simp
theorem int_info : (Try.prog.info? 3).map (fun i => (i.zero, i.size, i.bytes)) = some (some (.int .i64 0), 1, 8) := by kernel_rfl
set_option maxHeartbeats 400000 in
theorem eqIntS_any (v u : Value) (x y : List Int) (w : World) (hx : RowAt w v (x.map intV)) (hy : RowAt w u (y.map intV)) :
    Calls Try.prog 9 #[v, u] w fun e w' => e = .returned (.bool (decide (x = y))) ∧ Below w.heap.size w w' := by
  obtain ⟨a, c, rfl, hl⟩ := rowAt_len hx
  obtain ⟨a2, c2, rfl, hl2⟩ := rowAt_len hy
  simp only [List.length_map] at *
  have HX := Lib.hid hx
  have HY := Lib.hid hy
  clear hx hy
  unfold maxLen at hl hl2
  by_cases he : x.length = y.length
  · have hb : ((x.length : Int) == y.length) = true := beq_iff_eq.2 (by omega)
    have hbn : ((x.length : Int) != y.length) = false := by rw [bne_eq_false_iff_eq]; omega
    have HE := Lib.hid he
    clear he
    go_enter Try.func9, Try.ntmps9
    go_wp2
    go_loopw [5] (fun i wr => ∃ k : Nat, k ≤ x.length ∧ i = .int .i64 k ∧ x.take k = y.take k ∧ ∃ nq, wr = w.drewN nq) (fun i _ => x.length - (intOf i).toNat)
    case atStart => exact ⟨0, Nat.zero_le _, rfl, rfl, 0, rfl⟩
    case round =>
      obtain ⟨k, hk, rfl, ht, nq, rfl⟩ := hrel
      have HT := Lib.hid ht
      clear ht
      by_cases hlt : k < x.length
      · have hky : k < y.length := by have := HE.out; omega
        obtain ⟨b, o, rfl, _, d1⟩ := rowAt_cell HX.out k (by simpa using hlt)
        obtain ⟨b2, o2, rfl, _, d2⟩ := rowAt_cell HY.out k (by simpa using hky)
        rw [getElem_map_intV] at d1 d2
        unfold intV at d1 d2
        have HS := Lib.hid (take_eq_stepI x y HE.out k hlt HT.out)
        have HD := Lib.hid (show x[k] ≠ y[k] → ¬ x = y from fun h e => h (by subst e; rfl))
        generalize x[k] = p at *
        generalize y[k] = q at *
        by_cases heq : p = q
        · have HN := Lib.hid (HS.out heq)
          subst heq
          have hbeq : (p == p) = true := by simp
          have hbne : (p != p) = false := by simp
          go_wp2
          go_quiet (fail)
          go_wp2
          exact ⟨⟨k + 1, by omega, by go_num, HN.out, _, rfl⟩, by simp [intOf]; omega⟩
        · have hbeq : (p == q) = false := by simpa using heq
          have hbne : (p != q) = true := by simpa using heq
          have HN := Lib.hid (HD.out heq)
          clear heq
          go_wp2
          go_quiet (fail)
          go_wp2
          go_ret
          exact ⟨ret_bool (by simp [HN.out]), below_drewN (below_drewN (Below.refl _ _) _) _⟩
      · have HN := Lib.hid (show x = y from by
          have h := HT.out
          rw [List.take_of_length_le (by omega), List.take_of_length_le (by have := HE.out; omega)] at h
          exact h)
        go_wp2
        go_ret
        exact ⟨ret_bool (by simp [HN.out]), below_drewN (Below.refl _ _) _⟩
  · have hb : ((x.length : Int) == y.length) = false := beq_eq_false_iff_ne.2 (by omega)
    have hbn : ((x.length : Int) != y.length) = true := by rw [bne_iff_ne]; omega
    have HN := Lib.hid (show ¬ x = y from fun e => he (by rw [e]))
    clear he
    go_enter Try.func9, Try.ntmps9
    go_wp2
    go_ret
    exact ⟨ret_bool (by simp [HN.out]), Below.refl _ _⟩
/-- the slice v is a row of the call's own, of integers -/
def OwnsI (w : World) (B : Nat) (v : Value) (xs : List Int) : Prop := w.ownsRow B 3 1 v xs.length (xs.map intV)
theorem ownsI_row {w : World} {B : Nat} {v : Value} {x : List Int} (h : OwnsI w B v x) (hm : x.length ≤ 4194304) : RowAt w v (x.map intV) := ownsRow_rowAt h (by unfold maxLen; omega)
theorem ownsI_new (w : World) : OwnsI (w.alloc (.cells #[] 3)) w.heap.size (.slice (some ⟨w.heap.size, 0, none⟩) 0 0) [] :=
  World.ownsRow_made w #[] 0 (Nat.le_refl _) (Nat.zero_le _) rfl
theorem ownsI_alloc {w : World} {B : Nat} {v : Value} {xs : List Int} (h : OwnsI w B v xs) (o : Obj) : OwnsI (w.alloc o) B v xs := World.ownsRow.alloc h o
theorem ownsI_below {w w' : World} {B B' : Nat} {v : Value} {xs : List Int} (h : OwnsI w B v xs) (hb : Below B' w w') (hB : w.heap.size ≤ B') : OwnsI w' B v xs := ownsRow_below h hb hB
theorem below_appendI {a w w' : World} {B : Nat} {v : Value} {xs : List Int} (hb : Below B a w) (hO : OwnsI w B v xs) (hg : w.grownBy w' v.ownBlock) (hB : B ≤ w.heap.size) : Below B a w' :=
  hb.grown hg hB (fun k hk => (World.ownsRow.lt hO k hk).1)
/-- a new row of integers -/
def GivesRowI (x : List Int) (w : World) (e : Ending) (w' : World) : Prop := ∃ v, e = .returned v ∧ OwnsI w' w.heap.size v x ∧ Below w.heap.size w w'
theorem append_ints {ops : Array Oper} {rest : List Oper} {o : Oper} {a : Act} {Q : Exit → Act → World → Prop} (hgd : o.guard = none) (s x : Operand)
    (ho : o.op = .call { callee := .builtin .append, args := #[s, x], argTypes := #[22, 22] }) (B : Nat) (v : Value) (xs : List Int) (y : Int) (w : World) (blk : Nat)
    (hs : a.eval s = v) (hO : OwnsI w B v xs) (hx : a.eval x = .slice (some ⟨blk, 0, none⟩) 1 1) (hc : w.cell? ⟨blk, 0, none⟩ = some (intV y)) (hl : xs.length ≤ 4194304) (hB : B ≤ w.heap.size)
    (h : ∀ v' w', OwnsI w' B v' (xs ++ [y]) → w.grownBy w' v.ownBlock → wpList Try.prog ops Q rest (a.put o.dst v') w') : wpList Try.prog ops Q (o :: rest) a w := by
  obtain ⟨i0, hi, hz0, hz1, hz2⟩ := info_parts int_info
  refine wpList_append_own _ hgd s x 22 ho B 3 i0 (.int .i64 0) 1 8 Try.underlying22 hi hz0 hz1 hz2 rfl (by decide) v xs.length (xs.map intV) hs hO ⟨blk, 0, none⟩ 1 1 [intV y] hx rfl ?_ ?_ (by unfold maxLen; omega) (by omega) hB ?_
  · intro j u hj
    cases j with
    | zero => simp at hj; subst hj; rw [Addr.add_lit]; exact hc
    | succ j => simp at hj
  · intro u hu; simp at hu; subst hu; rfl
  · intro v' w' h1 h2 _
    refine h v' w' ?_ h2
    unfold OwnsI; rw [List.map_append, List.length_append]; exact h1
/-- the marks from k on, n of them -/
def marksI (k : Int) (n : Nat) : List Int := (List.range n).map fun i : Nat => k + i
theorem marksI_len (k : Int) (n : Nat) : (marksI k n).length = n := by simp [marksI]
theorem marksI_get (k : Int) (n i : Nat) (h : i < n) : (marksI k n)[i]'(by rw [marksI_len]; exact h) = k + i := by simp [marksI]
end Go.Proofs.Ytandbnpgccpcoab
/- Faces as numbers: the plain side. -/
namespace Go.Proofs.Ytandbnpgccpcoab
set_option linter.unusedVariables false
open Go.RowKit

def isF (f : Int) : Bool := decide (0 ≤ f ∧ f ≤ 63)
/-- ability k is in f -/
def hasI (f : Int) (k : Nat) : Bool := decide (f / 2 ^ k % 2 = 1)
/-- the face of the abilities below k for which p holds -/
def madeK (p : Nat → Bool) : Nat → Int
  | 0 => 0
  | k + 1 => madeK p k + if p k then 2 ^ k else 0
def bothP (a b : Int) (k : Nat) : Bool := hasI a k && hasI b k
def eitherP (a b : Int) (k : Nat) : Bool := hasI a k || hasI b k
def lackP (want f : Int) (k : Nat) : Bool := hasI want k && !hasI f k
def bothF (a b : Int) : Int := if isF a = true ∧ isF b = true then madeK (bothP a b) 6 else 0
def eitherF (a b : Int) : Int := if isF a = true ∧ isF b = true then madeK (eitherP a b) 6 else 0
def lackF (f want : Int) : Int := if isF f = true ∧ isF want = true then madeK (lackP want f) 6 else 0
def offersF (f want : Int) : Bool := isF f && isF want && (lackF f want == 0)
/-- the first k from k0 on, among n, for which p holds; -1 -/
def findK (p : Nat → Bool) : Nat → Nat → Int
  | _, 0 => -1
  | k, n + 1 => if p k then k else findK p (k + 1) n
theorem findK_yes {p : Nat → Bool} {k n : Nat} (hk : k < n) (h : p k = true) : findK p k (n - k) = k := by
  obtain ⟨m, rfl⟩ : ∃ m, n = k + (m + 1) := ⟨n - k - 1, by omega⟩
  rw [show k + (m + 1) - k = m + 1 by omega, findK, if_pos h]
theorem findK_no {p : Nat → Bool} {k n : Nat} (hk : k < n) (h : p k = false) : findK p k (n - k) = findK p (k + 1) (n - (k + 1)) := by
  obtain ⟨m, rfl⟩ : ∃ m, n = k + (m + 1) := ⟨n - k - 1, by omega⟩
  rw [show k + (m + 1) - k = m + 1 by omega, findK, if_neg (by simp [h]), show k + (m + 1) - (k + 1) = m by omega]
theorem findK_end {p : Nat → Bool} {n : Nat} : findK p n (n - n) = -1 := by rw [Nat.sub_self]; rfl
theorem isF_yes {f : Int} (h : isF f = true) : 0 ≤ f ∧ f ≤ 63 := of_decide_eq_true h
theorem isF_no {f : Int} (h : isF f = false) : f < 0 ∨ 63 < f := by have := of_decide_eq_false h; omega
theorem isF_fin {f : Int} (h : isF f = true) : ∃ F : Fin 64, f = ((F : Nat) : Int) := by
  have := isF_yes h
  exact ⟨⟨f.toNat, by omega⟩, by simp; omega⟩
theorem and_fin : ∀ a b : Fin 64, bits .and .i64 ((a : Nat) : Int) ((b : Nat) : Int) = madeK (bothP (a : Nat) (b : Nat)) 6 := by decide +kernel
theorem or_fin : ∀ a b : Fin 64, bits .or .i64 ((a : Nat) : Int) ((b : Nat) : Int) = madeK (eitherP (a : Nat) (b : Nat)) 6 := by decide +kernel
theorem andNot_fin : ∀ a b : Fin 64, bits .andNot .i64 ((a : Nat) : Int) ((b : Nat) : Int) = madeK (lackP (a : Nat) (b : Nat)) 6 := by decide +kernel
theorem and_eq {a b : Int} (ha : isF a = true) (hb : isF b = true) : bits .and .i64 a b = madeK (bothP a b) 6 := by
  obtain ⟨A, rfl⟩ := isF_fin ha; obtain ⟨B, rfl⟩ := isF_fin hb; exact and_fin A B
theorem or_eq {a b : Int} (ha : isF a = true) (hb : isF b = true) : bits .or .i64 a b = madeK (eitherP a b) 6 := by
  obtain ⟨A, rfl⟩ := isF_fin ha; obtain ⟨B, rfl⟩ := isF_fin hb; exact or_fin A B
theorem andNot_eq {a b : Int} (ha : isF a = true) (hb : isF b = true) : bits .andNot .i64 a b = madeK (lackP a b) 6 := by
  obtain ⟨A, rfl⟩ := isF_fin ha; obtain ⟨B, rfl⟩ := isF_fin hb; exact andNot_fin A B
theorem bit_fin : ∀ a : Fin 64, ∀ k : Fin 6, (bits .and .i64 ((a : Nat) : Int) (2 ^ (k : Nat)) != 0) = hasI (a : Nat) k := by decide +kernel
theorem bit_eq {a : Int} (ha : isF a = true) (k : Nat) (hk : k < 6) : (bits .and .i64 a (2 ^ k) != 0) = hasI a k := by
  obtain ⟨A, rfl⟩ := isF_fin ha; exact bit_fin A ⟨k, hk⟩
theorem madeK_bd (p : Nat → Bool) : ∀ k, 0 ≤ madeK p k ∧ madeK p k < 2 ^ k := by
  intro k
  induction k with
  | zero => simp [madeK]
  | succ k ih =>
    have h : (2 : Int) ^ (k + 1) = 2 ^ k + 2 ^ k := by rw [Int.pow_succ]; omega
    have h0 : (0 : Int) < 2 ^ k := Int.pow_pos (by decide)
    simp only [madeK]; rw [h]
    generalize (2 : Int) ^ k = q at *
    split <;> omega
theorem madeK_6 (p : Nat → Bool) : 0 ≤ madeK p 6 ∧ madeK p 6 ≤ 63 := by have := madeK_bd p 6; omega
theorem madeK_step (p : Nat → Bool) (k : Nat) (h : k < 6) : 0 ≤ madeK p k ∧ madeK p k ≤ 63 := by
  have h1 := madeK_bd p k
  have h2 : (2 : Int) ^ k ≤ 2 ^ 6 := by
    rcases (show k = 0 ∨ k = 1 ∨ k = 2 ∨ k = 3 ∨ k = 4 ∨ k = 5 by omega) with rfl | rfl | rfl | rfl | rfl | rfl <;> decide
  omega
theorem madeK_zero (p : Nat → Bool) : ∀ k, madeK p k = 0 ↔ ∀ j, j < k → p j = false := by
  intro k
  induction k with
  | zero => simp [madeK]
  | succ k ih =>
    have h0 : (0 : Int) < 2 ^ k := Int.pow_pos (by decide)
    have hb := madeK_bd p k
    simp only [madeK]
    constructor
    · intro h j hj
      have hk : p k = false := by cases hp : p k with
        | false => rfl
        | true => rw [hp, if_pos rfl] at h; omega
      rcases Nat.lt_or_ge j k with hjk | hjk
      · refine ih.1 ?_ j hjk; rw [hk] at h; simpa using h
      · have : j = k := by omega
        subst this; exact hk
    · intro h
      rw [h k (by omega), ih.2 fun j hj => h j (by omega)]; simp
/-- the abilities of a face -/
def abilK (f : Int) (k : Nat) : List Nat := (List.range k).filter (hasI f)
def abilL (f : Int) : List Nat := if isF f = true then abilK f 6 else []
theorem abilK_succ (f : Int) (k : Nat) : abilK f (k + 1) = abilK f k ++ if hasI f k = true then [k] else [] := by
  unfold abilK; rw [List.range_succ, List.filter_append]; simp [List.filter_cons]
theorem abilK_len (f : Int) (k : Nat) : (abilK f k).length ≤ k := by
  have := List.length_filter_le (hasI f) (List.range k); simpa [abilK] using this
theorem abilL_len (f : Int) : (abilL f).length ≤ 6 := by
  unfold abilL
  split
  · exact abilK_len f 6
  · simp
theorem abilL_lt (f : Int) (k : Nat) (h : k ∈ abilL f) : k < 6 := by
  unfold abilL at h; split at h
  · have := List.mem_filter.1 h; simpa using this.1
  · simp at h
/-- the name of an ability -/
def abN : Nat → List UInt8
  | 0 => [114, 117, 110]
  | 1 => [107, 101, 101, 112]
  | 2 => [116, 101, 108, 108]
  | 3 => [104, 101, 97, 114]
  | 4 => [115, 97, 118, 101]
  | 5 => [104, 101, 97, 108]
  | _ => []
def abNI (k : Int) : List UInt8 := if k < 0 then [] else abN k.toNat
theorem abNI_out {k : Int} (h : k < 0 ∨ 6 ≤ k) : abNI k = [] := by
  unfold abNI
  split
  · rfl
  · obtain ⟨m, hm⟩ : ∃ m, k.toNat = m + 6 := ⟨k.toNat - 6, by omega⟩
    rw [hm]; rfl
theorem abN_len (k : Nat) : (abN k).length ≤ 4 := by unfold abN; split <;> simp
/-- the methods of an ability -/
def mthN : Nat → List (List UInt8)
  | 0 => [[83, 116, 97, 114, 116], [83, 116, 111, 112]]
  | 1 => [[71, 101, 116], [80, 117, 116]]
  | 2 => [[84, 101, 108, 108]]
  | 3 => [[72, 101, 97, 114]]
  | 4 => [[76, 111, 97, 100], [83, 97, 118, 101]]
  | 5 => [[72, 101, 97, 108]]
  | _ => []
theorem mthN_len (k : Nat) : (mthN k).length ≤ 2 := by unfold mthN; split <;> simp
theorem mthN_short (k : Nat) : ∀ s ∈ mthN k, s.length ≤ 5 := by unfold mthN; split <;> simp
def abOf (s : List UInt8) : Int := findK (fun k => abN k == s) 0 6
def abOfM (s : List UInt8) : Int := findK (fun k => decide (s ∈ mthN k)) 0 6
/-- the names of a face's abilities; its methods -/
def namesF (f : Int) : List (List UInt8) := (abilL f).map abN
def methsF (f : Int) : List (List UInt8) := (abilL f).flatMap mthN
/-- the face of all abilities whose methods are in l -/
def faceM (l : List (List UInt8)) (k : Nat) : Bool := (mthN k).all fun s => decide (s ∈ l)
def faceOfM (l : List (List UInt8)) : Int := madeK (faceM l) 6
/-- the faces that f offers -/
def underK (f : Int) (k : Nat) : List Int := ((List.range k).filter fun g => offersF f (g : Nat)).map fun g => ((g : Nat) : Int)
def underL (f : Int) : List Int := underK f 64
theorem underK_succ (f : Int) (k : Nat) : underK f (k + 1) = underK f k ++ if offersF f (k : Nat) = true then [(k : Int)] else [] := by
  unfold underK; rw [List.range_succ, List.filter_append, List.map_append]; by_cases h : offersF f (k : Nat) = true <;> simp [h]
theorem underK_len (f : Int) (k : Nat) : (underK f k).length ≤ k := by
  have := List.length_filter_le (fun g => offersF f (g : Nat)) (List.range k); simpa [underK] using this
end Go.Proofs.Ytandbnpgccpcoab
/- Slices of structs whose fields are numbers, bools and texts: how they read, and rows of one's own of them. -/
namespace Go.Proofs.Ytandbnpgccpcoab
set_option linter.unusedVariables false
open Go.RowKit
/-- a slice value reads, in world w, as n elements of k cells each, whose cells are cs -/
def RowsAt (w : World) (v : Value) (k n : Nat) (cs : List Value) : Prop :=
  ∃ a c, v = .slice a n (n + c) ∧ cs.length = n * k ∧ n ≤ maxLen ∧ (n = 0 ∨ ∃ b o, a = some ⟨b, o, none⟩ ∧ b < w.heap.size ∧ ∀ i, i < n * k → w.cell? ⟨b, o + i, none⟩ = cs[i]?)
theorem RowsAt.below {w w' : World} {v : Value} {k n : Nat} {xs : List Value} {B : Nat} (h : RowsAt w v k n xs) (hb : Below B w w') (hB : w.heap.size ≤ B) : RowsAt w' v k n xs := by
  obtain ⟨a, c, rfl, hl, hm, h⟩ := h
  refine ⟨a, c, rfl, hl, hm, h.imp id ?_⟩
  rintro ⟨b, o, rfl, hlt, hc⟩
  exact ⟨b, o, rfl, Nat.lt_of_lt_of_le hlt hb.size, fun i hi => by rw [hb.cell (p := ⟨b, o + i, none⟩) (Nat.lt_of_lt_of_le hlt hB)]; exact hc i hi⟩
theorem rowsAt_drewN {w : World} {v : Value} {k n : Nat} {xs : List Value} (h : RowsAt w v k n xs) (m : Nat) : RowsAt (w.drewN m) v k n xs := h
theorem flat_len {α : Type} (f : α → List Value) (k : Nat) (hk : ∀ x, (f x).length = k) (l : List α) : (l.flatMap f).length = l.length * k := by
  induction l with
  | nil => simp
  | cons d r ih => rw [List.flatMap_cons, List.length_append, ih, hk, List.length_cons, Nat.succ_mul, Nat.add_comm]
theorem flat_get {α : Type} (f : α → List Value) (k : Nat) (hk : ∀ x, (f x).length = k) (l : List α) (i : Nat) (h : i < l.length) (j : Nat) (hj : j < k) : (l.flatMap f)[i * k + j]? = (f l[i])[j]? := by
  induction l generalizing i with
  | nil => simp at h
  | cons d r ih =>
    rw [List.flatMap_cons]
    cases i with
    | zero => rw [Nat.zero_mul, Nat.zero_add, List.getElem?_append_left (by rw [hk]; exact hj)]; rfl
    | succ i =>
      have h2 := ih i (by simpa using h)
      rw [List.getElem?_append_right (by rw [hk, Nat.succ_mul]; omega), hk, show (i + 1) * k + j - k = i * k + j by rw [Nat.succ_mul]; omega]
      exact h2
/-- the slice v reads as the elements l -/
def FlatAt {α : Type} (f : α → List Value) (k : Nat) (w : World) (v : Value) (l : List α) : Prop := RowsAt w v k l.length (l.flatMap f)
theorem FlatAt.below {α : Type} {f : α → List Value} {k : Nat} {w w' : World} {v : Value} {l : List α} {B : Nat} (h : FlatAt f k w v l) (hb : Below B w w') (hB : w.heap.size ≤ B) : FlatAt f k w' v l := RowsAt.below h hb hB
theorem flatAt_len {α : Type} {f : α → List Value} {k : Nat} {w : World} {v : Value} {l : List α} (h : FlatAt f k w v l) : ∃ a c, v = .slice a l.length c ∧ l.length ≤ maxLen := by
  obtain ⟨a, c, rfl, _, hm, _⟩ := h; exact ⟨a, _, rfl, hm⟩
theorem flatAt_cap {α : Type} {f : α → List Value} {k : Nat} {w : World} {v : Value} {l : List α} (h : FlatAt f k w v l) : ∃ a c, v = .slice a l.length c ∧ l.length ≤ maxLen ∧ l.length ≤ c := by
  obtain ⟨a, c, rfl, _, hm, _⟩ := h; exact ⟨a, _, rfl, hm, by omega⟩
theorem flatAt_cell {α : Type} {f : α → List Value} {k : Nat} (hk : ∀ x, (f x).length = k) {w : World} {a : Option Addr} {n c : Nat} {l : List α} (h : FlatAt f k w (.slice a n c) l) (i : Nat) (hi : i < l.length) (h0 : 0 < k) :
    ∃ b o, a = some ⟨b, o, none⟩ ∧ b < w.heap.size ∧ ∀ j, j < k → w.cell? ⟨b, o + i * k + j, none⟩ = (f l[i])[j]? := by
  obtain ⟨a', c', e, hl, hm, h⟩ := h
  injection e with e1 e2 e3
  subst e1
  rcases h with h | ⟨b, o, rfl, hlt, hc⟩
  · omega
  · refine ⟨b, o, rfl, hlt, fun j hj => ?_⟩
    rw [Nat.add_assoc, hc (i * k + j) ?_, flat_get f k hk l i hi j hj]
    have h1 : (i + 1) * k ≤ l.length * k := Nat.mul_le_mul_right k hi
    rw [Nat.succ_mul] at h1; omega
/-- a row of the call's own, of such elements -/
def OwnsF {α : Type} (f : α → List Value) (E k : Nat) (w : World) (B : Nat) (v : Value) (l : List α) : Prop := w.ownsRow B E k v l.length (l.flatMap f)
theorem ownsF_at {α : Type} {f : α → List Value} {E k : Nat} {w : World} {B : Nat} {v : Value} {l : List α} (h : OwnsF f E k w B v l) (hm : l.length ≤ 4194304) : FlatAt f k w v l := by
  have hl := h.1
  rcases h.2 with ⟨rfl, hn⟩ | ⟨g, cap, cur, rfl, hb, hg, hn, hc, hs, ht⟩
  · exact ⟨none, 0, by rw [hn], hl, by unfold maxLen; omega, Or.inl hn⟩
  · refine ⟨_, _, cap_eq _ hn, hl, by unfold maxLen; omega, Or.inr ⟨g, 0, rfl, (Array.getElem?_eq_some_iff.1 hg).1, fun i hi => ?_⟩⟩
    rw [Nat.zero_add]
    exact World.ownsRow.cellAt h i hi
theorem ownsF_new {α : Type} (f : α → List Value) (E k : Nat) (w : World) : OwnsF f E k (w.alloc (.cells #[] E)) w.heap.size (.slice (some ⟨w.heap.size, 0, none⟩) 0 0) [] :=
  World.ownsRow_made w #[] 0 (Nat.le_refl _) (Nat.zero_le _) (by simp)
theorem ownsF_alloc {α : Type} {f : α → List Value} {E k : Nat} {w : World} {B : Nat} {v : Value} {l : List α} (h : OwnsF f E k w B v l) (o : Obj) : OwnsF f E k (w.alloc o) B v l := World.ownsRow.alloc h o
theorem ownsF_below {α : Type} {f : α → List Value} {E k : Nat} {w w' : World} {B B' : Nat} {v : Value} {l : List α} (h : OwnsF f E k w B v l) (hb : Below B' w w') (hB : w.heap.size ≤ B') : OwnsF f E k w' B v l := ownsRow_below h hb hB
theorem below_appendF {α : Type} {f : α → List Value} {E k : Nat} {a w w' : World} {B : Nat} {v : Value} {l : List α} (hb : Below B a w) (hO : OwnsF f E k w B v l) (hg : w.grownBy w' v.ownBlock) (hB : B ≤ w.heap.size) : Below B a w' :=
  hb.grown hg hB (fun j hj => (World.ownsRow.lt hO j hj).1)
/-- a new row of such elements -/
def GivesF {α : Type} (f : α → List Value) (E k : Nat) (l : List α) (w : World) (e : Ending) (w' : World) : Prop := ∃ v, e = .returned v ∧ OwnsF f E k w' w.heap.size v l ∧ Below w.heap.size w w'
/-- append of one element, which lies in a block of its own, to a row of one's own -/
theorem append_flat {α : Type} {f : α → List Value} {E S k bytes : Nat} {z : Value} (hk : ∀ x, (f x).length = k) (h1 : ∀ x, ∀ u ∈ f x, u.oneCell' = true) (hinfo : (Try.prog.info? E).map (fun i => (i.zero, i.size, i.bytes)) = some (some z, k, bytes))
    (hz : z.cells.size = k) (hk0 : 0 < k) (hbytes : bytes ≤ 1024) (hS : Try.prog.underlying S = some (.slice E))
    {ops : Array Oper} {rest : List Oper} {o : Oper} {a : Act} {Q : Exit → Act → World → Prop} (hgd : o.guard = none) (s x : Operand)
    (ho : o.op = .call { callee := .builtin .append, args := #[s, x], argTypes := #[S, S] }) (B : Nat) (v : Value) (l : List α) (y : α) (w : World) (blk : Nat)
    (hs : a.eval s = v) (hO : OwnsF f E k w B v l) (hx : a.eval x = .slice (some ⟨blk, 0, none⟩) 1 1) (hc : ∀ j, j < k → w.cell? ⟨blk, j, none⟩ = (f y)[j]?) (hl : l.length ≤ 4194304) (hB : B ≤ w.heap.size)
    (h : ∀ v' w', OwnsF f E k w' B v' (l ++ [y]) → w.grownBy w' v.ownBlock → wpList Try.prog ops Q rest (a.put o.dst v') w') : wpList Try.prog ops Q (o :: rest) a w := by
  obtain ⟨i0, hi, hz0, hz1, hz2⟩ := info_parts hinfo
  refine wpList_append_own _ hgd s x S ho B E i0 z k bytes hS hi hz0 hz1 hz2 hz hk0 v l.length (l.flatMap f) hs hO ⟨blk, 0, none⟩ 1 1 (f y) hx (by rw [hk, Nat.one_mul]) ?_ ?_ (by unfold maxLen; omega) ?_ hB ?_
  · intro j u hj
    have hj2 : j < k := by have := (List.getElem?_eq_some_iff.1 hj).1; rwa [hk] at this
    rw [Addr.add_lit, Nat.zero_add, hc j hj2]; exact hj
  · exact h1 y
  · have : (l.length + 1) * bytes ≤ 4194305 * 1024 := Nat.mul_le_mul (by omega) hbytes
    omega
  · intro v' w' h2 h3 _
    refine h v' w' ?_ h3
    unfold OwnsF; rw [List.flatMap_append, List.length_append]; simpa using h2
theorem take_set_get {α : Type} (xs ys : List α) (m : Nat) (u : α) (hm : m < xs.length) (hy : ys[m]? = some u) (ht : xs.take m = ys.take m) : (xs.set m u).take (m + 1) = ys.take (m + 1) := by
  obtain ⟨h, rfl⟩ := List.getElem?_eq_some_iff.1 hy
  exact take_set_succ xs ys m hm h ht
/-- what a measure of sizes answers: -1, or what is left -/
def SzF (n : Int) (left : Int) (w : World) (e : Ending) (w' : World) : Prop := ∃ r : Int, e = .returned (.int .i64 r) ∧ -1 ≤ r ∧ (0 ≤ r → n + r = left) ∧ Below w.heap.size w w'
def sumF {α : Type} (sz : α → Nat) : List α → Nat
  | [] => 0
  | x :: r => sz x + sumF sz r
theorem sumF_take_succ {α : Type} (sz : α → Nat) (x : List α) (k : Nat) (h : k < x.length) : sumF sz (x.take (k + 1)) = sumF sz (x.take k) + sz (x[k]) := by
  induction x generalizing k with
  | nil => simp at h
  | cons a r ih =>
    cases k with
    | zero => simp [sumF]
    | succ k =>
      have := ih k (by simpa using h)
      simp only [List.take_succ_cons, sumF, List.getElem_cons_succ, this]; omega
theorem sumF_mem {α : Type} (sz : α → Nat) (x : List α) (a : α) (h : a ∈ x) : sz a ≤ sumF sz x := by
  induction x with
  | nil => simp at h
  | cons b r ih =>
    rcases List.mem_cons.1 h with h | h
    · subst h; simp only [sumF]; omega
    · have := ih h; simp only [sumF]; omega
/-- rows of elements of two types are not the same -/
theorem rows_apart {w : World} {B B' : Nat} {e e' : TypeId} {k k' n m : Nat} {v u : Value} {xs ys : List Value} (h : w.ownsRow B e k v n xs) (h' : w.ownsRow B' e' k' u m ys) (hne : e ≠ e') : v.ownBlock = none ∨ v.ownBlock ≠ u.ownBlock := by
  rcases h.2 with ⟨rfl, _⟩ | ⟨g, cap, cur, rfl, _, hg, _⟩
  · exact Or.inl rfl
  · right
    rcases h'.2 with ⟨rfl, _⟩ | ⟨g2, cap2, cur2, rfl, _, hg2, _⟩
    · simp [Value.ownBlock]
    · intro e
      simp [Value.ownBlock] at e
      subst e
      rw [hg] at hg2
      injection hg2 with hg2
      injection hg2 with _ h2 _
      exact hne h2
/-- a row of texts of one's own is as it was, where a row of other elements has grown -/
theorem owns_keptF {α : Type} {f : α → List Value} {E k : Nat} {w w' : World} {B B' : Nat} {v u : Value} {xs : List (List UInt8)} {l : List α} (h : Owns w B v xs) (h' : OwnsF f E k w B' u l) (hg : w.grownBy w' u.ownBlock) (hne : 9 ≠ E) : Owns w' B v xs :=
  World.ownsRow.kept h hg (rows_apart h h' hne)
theorem ownsF_keptF {α β : Type} {f : α → List Value} {f' : β → List Value} {E E' k k' : Nat} {w w' : World} {B B' : Nat} {v u : Value} {l : List α} {l' : List β} (h : OwnsF f E k w B v l) (h' : OwnsF f' E' k' w B' u l') (hg : w.grownBy w' u.ownBlock) (hne : E ≠ E') : OwnsF f E k w' B v l :=
  World.ownsRow.kept h hg (rows_apart h h' hne)
theorem ownsF_keptS {α : Type} {f : α → List Value} {E k : Nat} {w w' : World} {B B' : Nat} {v u : Value} {l : List α} {xs : List (List UInt8)} (h : OwnsF f E k w B v l) (h' : Owns w B' u xs) (hg : w.grownBy w' u.ownBlock) (hne : E ≠ 9) : OwnsF f E k w' B v l :=
  World.ownsRow.kept h hg (rows_apart h h' hne)
theorem ownsF_base {α : Type} {f : α → List Value} {E k : Nat} {w : World} {B B' : Nat} {v : Value} {l : List α} (h : OwnsF f E k w B v l) (hB : B' ≤ B) : OwnsF f E k w B' v l := by
  refine ⟨h.1, h.2.imp id ?_⟩
  rintro ⟨g, cap, cur, h1, h2, h3⟩
  exact ⟨g, cap, cur, h1, Nat.le_trans hB h2, h3⟩
theorem ownsF_set {α : Type} {f : α → List Value} {E k : Nat} {w : World} {B : Nat} {v : Value} {l : List α} {p : Addr} {u : Value} (h : OwnsF f E k w B v l) (hp : p.block < B) : OwnsF f E k (w.setCell p u) B v l := by
  refine World.ownsRow.kept h (row := some p.block) ⟨rfl, rfl, rfl, by simp, fun i hi hne => Below.heap_setCell w p u i (fun e => hne (by rw [e]))⟩ ?_
  cases hv : v.ownBlock with
  | none => exact Or.inl rfl
  | some g => right; intro e; have h1 := (World.ownsRow.lt h g hv).1; injection e with e; omega
end Go.Proofs.Ytandbnpgccpcoab
/- Version: what the laws' own helpers do with it. Written by gen/flat.py. -/
namespace Go.Proofs.Ytandbnpgccpcoab
set_option linter.unusedVariables false
open Go.RowKit
structure VersionD where
  fMajor : Int
  fMinor : Int
deriving DecidableEq
def okVersion (d : VersionD) : Prop := (-9223372036854775808 ≤ d.fMajor ∧ d.fMajor ≤ 9223372036854775807) ∧ (-9223372036854775808 ≤ d.fMinor ∧ d.fMinor ≤ 9223372036854775807)
def vVersion (d : VersionD) : Value := .agg #[.int .i64 d.fMajor, .int .i64 d.fMinor]
def cVersion (d : VersionD) : List Value := [.int .i64 d.fMajor, .int .i64 d.fMinor]
theorem cVersion_len (d : VersionD) : (cVersion d).length = 2 := rfl
theorem cVersion_one (d : VersionD) : ∀ u ∈ cVersion d, u.oneCell' = true := by intro u hu; simp only [cVersion, List.mem_cons, List.not_mem_nil, or_false] at hu; rcases hu with rfl | rfl <;> rfl
def zVersion (d : VersionD) : Nat := 0
def marksVersion (k : Int) (n : Nat) : List VersionD := (List.range n).map fun i : Nat => ⟨k + i * 2, k + i * 2 + 1⟩
theorem marksVersion_len (k : Int) (n : Nat) : (marksVersion k n).length = n := by simp [marksVersion]
theorem marksVersion_get (k : Int) (n i : Nat) (h : i < n) : (marksVersion k n)[i]'(by rw [marksVersion_len]; exact h) = ⟨k + i * 2, k + i * 2 + 1⟩ := by simp [marksVersion]
end Go.Proofs.Ytandbnpgccpcoab
/- Versions as numbers: the plain side. -/
namespace Go.Proofs.Ytandbnpgccpcoab
set_option linter.unusedVariables false
open Go.RowKit
instance : Inhabited VersionD := ⟨⟨0, 0⟩⟩
def vnB (n : Int) : Bool := decide (0 ≤ n ∧ n ≤ 99)
def verB (d : VersionD) : Bool := vnB d.fMajor && vnB d.fMinor
/-- -1, 0 or 1: Major first, then Minor -/
def cmpV (a b : VersionD) : Int := if a.fMajor = b.fMajor then Lib.compareInt a.fMinor b.fMinor else Lib.compareInt a.fMajor b.fMajor
def meetsB (a b : VersionD) : Bool := decide (a.fMajor = b.fMajor) && decide (b.fMinor ≤ a.fMinor)
def fmtVer (d : VersionD) : List UInt8 := if verB d = true then numL d.fMajor ++ 46 :: numL d.fMinor else []
def sinceN : Nat → VersionD
  | 0 => ⟨1, 0⟩
  | 1 => ⟨1, 0⟩
  | 2 => ⟨1, 1⟩
  | 3 => ⟨1, 2⟩
  | 4 => ⟨2, 0⟩
  | 5 => ⟨2, 1⟩
  | _ => ⟨0, 0⟩
def sinceI (k : Int) : VersionD := if k < 0 then ⟨0, 0⟩ else sinceN k.toNat
def abB (k : Int) : Bool := decide (0 ≤ k ∧ k < 6)
def sinV (k : Int) : Value := .tuple #[vVersion (sinceI k), .bool (abB k)]
def allowP (v : VersionD) (k : Nat) : Bool := decide (cmpV (sinceN k) v ≤ 0)
def allowF (v : VersionD) : Int := if verB v = true then madeK (allowP v) 6 else 0
/-- the least version that allows the abilities of f below k -/
def leastK (f : Int) : Nat → VersionD
  | 0 => ⟨0, 0⟩
  | k + 1 => if hasI f k = true then sinceN k else leastK f k
def leastV (f : Int) : VersionD := if isF f = true then leastK f 6 else ⟨0, 0⟩
theorem sinceI_out {k : Int} (h : k < 0 ∨ 6 ≤ k) : sinceI k = ⟨0, 0⟩ ∧ abB k = false := by
  refine ⟨?_, decide_eq_false (by omega)⟩
  unfold sinceI
  split
  · rfl
  · obtain ⟨m, hm⟩ : ∃ m, k.toNat = m + 6 := ⟨k.toNat - 6, by omega⟩
    rw [hm]; rfl
theorem sinceI_nat (k : Nat) : sinceI (k : Int) = sinceN k := by unfold sinceI; rw [if_neg (by omega)]; simp
theorem cmpI_self (a : Int) : Lib.compareInt a a = 0 := by unfold Lib.compareInt; rw [if_neg (by omega), if_neg (by omega)]
theorem cmpI_cases (a b : Int) : (a < b ∧ Lib.compareInt a b = -1) ∨ (a = b ∧ Lib.compareInt a b = 0) ∨ (b < a ∧ Lib.compareInt a b = 1) := by
  unfold Lib.compareInt
  rcases Int.lt_trichotomy a b with h | h | h
  · exact Or.inl ⟨h, if_pos h⟩
  · exact Or.inr (Or.inl ⟨h, by rw [if_neg (by omega), if_neg (by omega)]⟩)
  · exact Or.inr (Or.inr ⟨h, by rw [if_neg (by omega), if_pos (by omega)]⟩)
/-- what the order says, in numbers -/
theorem cmpV_cases (a b : VersionD) : ((a.fMajor < b.fMajor ∨ a.fMajor = b.fMajor ∧ a.fMinor < b.fMinor) ∧ cmpV a b = -1) ∨ (a = b ∧ cmpV a b = 0) ∨ ((b.fMajor < a.fMajor ∨ a.fMajor = b.fMajor ∧ b.fMinor < a.fMinor) ∧ cmpV a b = 1) := by
  obtain ⟨a0, a1⟩ := a
  obtain ⟨b0, b1⟩ := b
  unfold cmpV
  simp only
  by_cases h : a0 = b0
  · subst h
    rw [if_pos rfl]
    rcases cmpI_cases a1 b1 with ⟨h1, h2⟩ | ⟨h1, h2⟩ | ⟨h1, h2⟩
    · exact Or.inl ⟨Or.inr ⟨rfl, h1⟩, h2⟩
    · exact Or.inr (Or.inl ⟨by rw [h1], h2⟩)
    · exact Or.inr (Or.inr ⟨Or.inr ⟨rfl, h1⟩, h2⟩)
  · rw [if_neg h]
    rcases cmpI_cases a0 b0 with ⟨h1, h2⟩ | ⟨h1, h2⟩ | ⟨h1, h2⟩
    · exact Or.inl ⟨Or.inl h1, h2⟩
    · exact absurd h1 h
    · exact Or.inr (Or.inr ⟨Or.inl h1, h2⟩)
theorem meetsB_cmp (a b : VersionD) : meetsB a b = (decide (a.fMajor = b.fMajor) && decide (0 ≤ cmpV a b)) := by
  unfold meetsB
  rcases cmpV_cases a b with ⟨h, e⟩ | ⟨h, e⟩ | ⟨h, e⟩ <;> rw [e, Bool.eq_iff_iff] <;> simp only [Bool.and_eq_true, decide_eq_true_eq]
  · omega
  · subst h; simp
  · omega
end Go.Proofs.Ytandbnpgccpcoab
/- CompareInputs: both sides, and how the law copies a list of numbers. -/
namespace Go.Proofs.Ytandbnpgccpcoab
set_option linter.unusedVariables false
set_option linter.unusedSimpArgs false
open Go.RowKit
set_option maxHeartbeats 400000 in
theorem toIntS_any (v : Value) (x : List Int) (w : World) (hx : RowAt w v (x.map intV)) (hm : x.length ≤ 2097152) :
    Calls Try.prog 7 #[v] w fun e w' => e = .returned (.slice (some ⟨w.heap.size, 0, none⟩) x.length x.length) ∧ OwnsI w' w.heap.size (.slice (some ⟨w.heap.size, 0, none⟩) x.length x.length) x ∧ Below w.heap.size w w' := by
  obtain ⟨a, c, rfl, hl⟩ := rowAt_len hx
  rw [List.length_map] at *
  obtain ⟨i0, hi, hz0, hz1, hz2⟩ := info_parts int_info
  have HX := Lib.hid hx
  clear hx
  unfold maxLen at hl
  go_enter Try.func7, Try.ntmps7
  have hb2 : i0.bytes * x.length ≤ 281474976710656 := by rw [hz2]; omega
  have HB2 := Lib.hid hb2
  have HM := Lib.hid (show x.length ≤ maxLen from by unfold maxLen; omega)
  clear hb2
  go_wp2_with (refine wpList_make_full _ rfl (.tmp 6) (.tmp 6) 22 rfl w.heap.size 3 i0 (.int .i64 0) 1 Try.underlying22 hi hz0 hz1 .i64 .i64 _ _ x.length rfl rfl rfl rfl HB2.out HM.out (Nat.le_refl _) ?_; intro w1 hown1 hgrow1)
  have HO := Lib.hid (show ∃ xs, w1.ownsRow w.heap.size 3 1 (.slice (some ⟨w.heap.size, 0, none⟩) x.length x.length) x.length xs ∧ xs.take 0 = (x.map intV).take 0 from ⟨_, hown1, rfl⟩)
  have HB := Lib.hid (show Below w.heap.size w w1 from ⟨hgrow1.os, hgrow1.tape, hgrow1.output, hgrow1.size, fun i hi => hgrow1.block i hi (by simp)⟩)
  have hsz := hgrow1.size
  clear hown1 hgrow1 hz0 hz1 hz2 HB2 hi
  go_loopw [4] (fun i wr => ∃ k : Nat, k ≤ x.length ∧ i = .int .i64 k ∧ (∃ xs, wr.ownsRow w.heap.size 3 1 (.slice (some ⟨w.heap.size, 0, none⟩) x.length x.length) x.length xs ∧ xs.take k = (x.map intV).take k) ∧ Below w.heap.size w wr) (fun i _ => x.length - (intOf i).toNat)
  case atStart => exact ⟨0, Nat.zero_le _, rfl, HO.out, HB.out⟩
  case round =>
    obtain ⟨k, hk, rfl, ⟨xs, hown, htake⟩, hb⟩ := hrel
    have HR := Lib.hid (RowAt.below HX.out hb (Nat.le_refl _))
    have HBr := Lib.hid hb
    have HOw := Lib.hid hown
    have HT := Lib.hid htake
    have hxl : xs.length = x.length := by simpa using hown.1
    have HXL := Lib.hid hxl
    clear hb hown htake hxl
    by_cases hlt : k < x.length
    · obtain ⟨b, o, rfl, _, d1⟩ := rowAt_cell HR.out k (by simpa using hlt)
      rw [getElem_map_intV] at d1
      unfold intV at d1
      obtain ⟨u, d2⟩ : ∃ u, wr.cell? ⟨w.heap.size, k, none⟩ = some u := by
        have := World.ownsRow.cellAt HOw.out k (by omega)
        rw [this, List.getElem?_eq_getElem (by have := HXL.out; omega)]
        exact ⟨_, rfl⟩
      have f2 := World.ownsRow.frozenAt HOw.out k
      have HN := Lib.hid (take_set_succ xs (x.map intV) k (by have := HXL.out; omega) (by simpa using hlt) HT.out)
      have HS := Lib.hid (World.ownsRow.stored HOw.out k (intV x[k]))
      go_wp2
      refine ⟨⟨k + 1, by omega, by go_num, ⟨_, HS.out.1, ?_⟩, ?_⟩, by simp [intOf]; omega⟩
      · have := HN.out; rwa [getElem_map_intV] at this
      · exact HBr.out.setCell (Nat.le_refl _) _
    · have HN := Lib.hid (show xs = x.map intV from by
        have h := HT.out
        rw [List.take_of_length_le (by have := HXL.out; omega), List.take_of_length_le (by simp; omega)] at h
        exact h)
      go_wp2
      go_ret
      exact ⟨rfl, by have h := HOw.out; rw [HN.out] at h; exact h, HBr.out⟩

set_option maxHeartbeats 400000 in
theorem isNaNi_any (x : Int) (w : World) : Calls Try.prog 32 #[.int .i64 x] w fun e w' => e = .returned (.bool false) ∧ w = w' := by
  go_enter Try.func32, Try.ntmps32
  go_wp2
  go_ret
  exact ⟨ret_bool (by simp), rfl⟩
set_option maxHeartbeats 1600000 in
theorem cmpInt_any (x y : Int) (w : World) : Calls Try.prog 20 #[.int .i64 x, .int .i64 y] w fun e w' => e = .returned (.int .i64 (Lib.compareInt x y)) ∧ w = w' := by
  have HX := Lib.hid (isNaNi_any x)
  have HY := Lib.hid (isNaNi_any y)
  rcases cmpI_cases x y with ⟨h1, h2⟩ | ⟨h1, h2⟩ | ⟨h1, h2⟩
  all_goals
    have HR := Lib.hid h2
    clear h2
    try subst h1
    go_enter Try.func20, Try.ntmps20
    go_wp2_with (first | (go_at_call 32; (with_reducible refine (HX.out _).mono ?_); rintro e w' ⟨rfl, rfl⟩) | (go_at_call 32; (with_reducible refine (HY.out _).mono ?_); rintro e w' ⟨rfl, rfl⟩))
    go_ret
    exact ⟨ret_int HR.out.symm, rfl⟩
theorem cmpInt_b (x y r : Int) (h : Lib.compareInt x y = r) (w : World) : Calls Try.prog 20 #[.int .i64 x, .int .i64 y] w fun e w' => e = .returned (.int .i64 r) ∧ w = w' := by subst h; exact cmpInt_any x y w
theorem belE1 {B : Nat} {a w : World} (h : Below B a w) (n : Nat) : Below B a (w.drewN n) := ⟨h.os, h.tape, h.output, h.size, h.block⟩
/-- the first difference of two lists of one length -/
def cmpL : List Int → List Int → Int
  | a :: r, b :: s => if a < b then -1 else if b < a then 1 else cmpL r s
  | _, _ => 0
def cmpIn (a b : List Int) : Int := if a.length < b.length then -1 else if b.length < a.length then 1 else cmpL a b
theorem cmpL_drop (a b : List Int) (k : Nat) (ha : k < a.length) (hb : k < b.length) : cmpL (a.drop k) (b.drop k) = if a[k] < b[k] then -1 else if b[k] < a[k] then 1 else cmpL (a.drop (k + 1)) (b.drop (k + 1)) := by
  rw [List.drop_eq_getElem_cons ha, List.drop_eq_getElem_cons hb]; rfl
theorem cmpL_end (a b : List Int) (k : Nat) (ha : a.length ≤ k) : cmpL (a.drop k) (b.drop k) = 0 := by
  rw [List.drop_eq_nil_of_le ha]; cases b.drop k <;> rfl
set_option maxHeartbeats 1600000 in
theorem slCompare_any (v u : Value) (a b : List Int) (w : World) (hx : RowAt w v (a.map intV)) (hy : RowAt w u (b.map intV)) (hl : a.length = b.length) :
    Calls Try.prog 21 #[v, u] w fun e w' => e = .returned (.int .i64 (cmpL a b)) ∧ Below w.heap.size w w' := by
  have HX := Lib.hid hx
  have HY := Lib.hid hy
  obtain ⟨xa, xc, rfl, hxl⟩ := rowAt_len hx
  obtain ⟨ya, yc, rfl, hyl⟩ := rowAt_len hy
  clear hx hy
  simp only [List.length_map] at *
  unfold maxLen at hxl hyl
  have HL := Lib.hid hl
  clear hl
  have H0 := Lib.hid (show cmpL (a.drop 0) (b.drop 0) = cmpL a b from rfl)
  have HS := Lib.hid (cmpL_drop a b)
  have HE := Lib.hid (cmpL_end a b)
  generalize cmpL a b = res at *
  have HCM := Lib.hid (fun x y r h W => cmpInt_b x y r h W)
  go_enter Try.func21, Try.ntmps21
  go_wp2_with fail
  go_loopw [5, 6, 7, 8, 11] (fun _ _ _ _ i wr => ∃ k : Nat, k ≤ a.length ∧ i = .int .i64 k ∧ cmpL (a.drop k) (b.drop k) = res ∧ Below w.heap.size w wr) (fun _ _ _ _ i _ => a.length - (intOf i).toNat)
  case atStart => exact ⟨0, Nat.zero_le _, rfl, H0.out, Below.refl _ _⟩
  case round =>
    obtain ⟨k, hk, rfl, hrk, hb⟩ := hrel
    have HRK := Lib.hid hrk
    have HB := Lib.hid hb
    have HXr := Lib.hid (RowAt.below HX.out hb (Nat.le_refl _))
    have HYr := Lib.hid (RowAt.below HY.out hb (Nat.le_refl _))
    clear hrk hb
    by_cases hlt : k < a.length
    · have hlt2 : k < b.length := by have := HL.out; omega
      obtain ⟨b1, o1, rfl, _, d1⟩ := rowAt_cell HXr.out k (by simpa using hlt)
      obtain ⟨b2, o2, rfl, _, d2⟩ := rowAt_cell HYr.out k (by simpa using hlt2)
      rw [getElem_map_intV] at d1 d2
      unfold intV at d1 d2
      have HST := Lib.hid (HS.out k hlt hlt2)
      generalize a[k] = p at *
      generalize b[k] = q at *
      rcases cmpI_cases p q with ⟨h1, h2⟩ | ⟨h1, h2⟩ | ⟨h1, h2⟩
      · have HR := Lib.hid (show (-1 : Int) = res from by rw [← HRK.out, HST.out, if_pos h1])
        have HQ := Lib.hid (HCM.out p q (-1) h2)
        clear h1 h2 HCM
        go_wp2_with (first | (go_at_call 20; (with_reducible refine (HQ.out _).mono ?_); rintro e w' ⟨rfl, rfl⟩))
        go_ret
        exact ⟨ret_int HR.out, HB.out⟩
      · have HR := Lib.hid (show cmpL (a.drop (k + 1)) (b.drop (k + 1)) = res from by rw [← HRK.out, HST.out, if_neg (by omega), if_neg (by omega)])
        have HQ := Lib.hid (HCM.out p q 0 h2)
        clear h1 h2 HCM
        go_wp2_with (first | (go_at_call 20; (with_reducible refine (HQ.out _).mono ?_); rintro e w' ⟨rfl, rfl⟩))
        go_roundw
        case rel => exact ⟨k + 1, by omega, by go_num, HR.out, HB.out⟩
        case measure => simp [intOf]; omega
      · have HR := Lib.hid (show (1 : Int) = res from by rw [← HRK.out, HST.out, if_neg (by omega), if_pos h1])
        have HQ := Lib.hid (HCM.out p q 1 h2)
        clear h1 h2 HCM
        go_wp2_with (first | (go_at_call 20; (with_reducible refine (HQ.out _).mono ?_); rintro e w' ⟨rfl, rfl⟩))
        go_ret
        exact ⟨ret_int HR.out, HB.out⟩
    · have HR := Lib.hid (show (0 : Int) = res from by rw [← HRK.out, HE.out k (by omega)])
      have hnl : ¬ ((a.length : Int) < (b.length : Int)) := by have := HL.out; omega
      go_wp2_with fail
      go_ret
      exact ⟨ret_int HR.out, HB.out⟩
set_option maxHeartbeats 1600000 in
theorem specCmpIn_any (v u : Value) (a b : List Int) (w : World) (hx : RowAt w v (a.map intV)) (hy : RowAt w u (b.map intV)) :
    Calls Try.prog 6 #[v, u] w fun e w' => e = .returned (.int .i64 (cmpIn a b)) ∧ Below w.heap.size w w' := by
  have HX := Lib.hid hx
  have HY := Lib.hid hy
  obtain ⟨xa, xc, rfl, hxl⟩ := rowAt_len hx
  obtain ⟨ya, yc, rfl, hyl⟩ := rowAt_len hy
  clear hx hy
  simp only [List.length_map] at *
  unfold maxLen at hxl hyl
  by_cases h1 : a.length < b.length
  · have HR := Lib.hid (show (-1 : Int) = cmpIn a b from (if_pos h1).symm)
    go_enter Try.func6, Try.ntmps6
    go_wp2
    go_ret
    exact ⟨ret_int HR.out, Below.refl _ _⟩
  by_cases h2 : b.length < a.length
  · have HR := Lib.hid (show (1 : Int) = cmpIn a b from by unfold cmpIn; rw [if_neg h1, if_pos h2])
    go_enter Try.func6, Try.ntmps6
    go_wp2
    go_ret
    exact ⟨ret_int HR.out, Below.refl _ _⟩
  have HL := Lib.hid (show a.length = b.length by omega)
  have H0 := Lib.hid (show cmpL (a.drop 0) (b.drop 0) = cmpIn a b from by unfold cmpIn; rw [if_neg h1, if_neg h2]; rfl)
  have HS := Lib.hid (cmpL_drop a b)
  have HE := Lib.hid (cmpL_end a b)
  generalize cmpIn a b = res at *
  go_enter Try.func6, Try.ntmps6
  go_wp2_with fail
  go_loopw [5, 20] (fun _ i wr => ∃ k : Nat, k ≤ a.length ∧ i = .int .i64 k ∧ cmpL (a.drop k) (b.drop k) = res ∧ Below w.heap.size w wr) (fun _ i _ => a.length - (intOf i).toNat)
  case atStart => exact ⟨0, Nat.zero_le _, rfl, H0.out, Below.refl _ _⟩
  case round =>
    obtain ⟨k, hk, rfl, hrk, hb⟩ := hrel
    have HRK := Lib.hid hrk
    have HB := Lib.hid hb
    have HXr := Lib.hid (RowAt.below HX.out hb (Nat.le_refl _))
    have HYr := Lib.hid (RowAt.below HY.out hb (Nat.le_refl _))
    clear hrk hb
    by_cases hlt : k < a.length
    · have hlt2 : k < b.length := by have := HL.out; omega
      obtain ⟨b1, o1, rfl, _, d1⟩ := rowAt_cell HXr.out k (by simpa using hlt)
      obtain ⟨b2, o2, rfl, _, d2⟩ := rowAt_cell HYr.out k (by simpa using hlt2)
      rw [getElem_map_intV] at d1 d2
      unfold intV at d1 d2
      have HST := Lib.hid (HS.out k hlt hlt2)
      generalize a[k] = p at *
      generalize b[k] = q at *
      by_cases c1 : p < q
      · have HR := Lib.hid (show (-1 : Int) = res from by rw [← HRK.out, HST.out, if_pos c1])
        go_wp2_with fail
        go_quiet (fail)
        go_wp2_with fail
        go_ret
        exact ⟨ret_int HR.out, belE1 HB.out _⟩
      · by_cases c2 : q < p
        · have HR := Lib.hid (show (1 : Int) = res from by rw [← HRK.out, HST.out, if_neg c1, if_pos c2])
          go_wp2_with fail
          go_quiet (fail)
          go_wp2_with fail
          go_quiet (fail)
          go_wp2_with fail
          go_ret
          exact ⟨ret_int HR.out, belE1 (belE1 HB.out _) _⟩
        · have HR := Lib.hid (show cmpL (a.drop (k + 1)) (b.drop (k + 1)) = res from by rw [← HRK.out, HST.out, if_neg c1, if_neg c2])
          go_wp2_with fail
          go_quiet (fail)
          go_wp2_with fail
          go_quiet (fail)
          go_wp2_with fail
          go_roundw
          case rel => exact ⟨k + 1, by omega, by go_num, HR.out, belE1 HB.out _⟩
          case measure => simp [intOf]; omega
    · have HR := Lib.hid (show (0 : Int) = res from by rw [← HRK.out, HE.out k (by omega)])
      go_wp2_with fail
      go_ret
      exact ⟨ret_int HR.out, HB.out⟩
set_option maxRecDepth 100000 in
set_option maxHeartbeats 1600000 in
theorem implCmpIn_any (v u : Value) (a b : List Int) (w : World) (hx : RowAt w v (a.map intV)) (hy : RowAt w u (b.map intV)) :
    Calls Try.prog 8 #[v, u] w fun e w' => e = .returned (.int .i64 (cmpIn a b)) ∧ Below w.heap.size w w' := by
  have HSL := Lib.hid (fun h => slCompare_any v u a b w hx hy h)
  obtain ⟨xa, xc, rfl, hxl⟩ := rowAt_len hx
  obtain ⟨ya, yc, rfl, hyl⟩ := rowAt_len hy
  clear hx hy
  simp only [List.length_map] at *
  unfold maxLen at hxl hyl
  by_cases he : a.length = b.length
  · have HR := Lib.hid (show cmpL a b = cmpIn a b from by unfold cmpIn; rw [if_neg (by omega), if_neg (by omega)])
    have HS := Lib.hid (HSL.out he)
    rw [HR.out] at HS
    clear HSL HR
    have hbe : ((a.length : Int) != (b.length : Int)) = false := by simp [he]
    have hHE := Lib.hid he
    clear he
    generalize cmpIn a b = res at *
    go_enter Try.func8, Try.ntmps8
    go_wp2_with fail
    refine HS.out.mono ?_
    rintro e w1 ⟨rfl, hb⟩
    have HB := Lib.hid hb
    clear hb
    go_wp2_with fail
    go_ret
    exact ⟨rfl, HB.out⟩
  · have hbe : ((a.length : Int) != (b.length : Int)) = true := by simp; omega
    have HR := Lib.hid (show Lib.compareInt (a.length : Int) (b.length : Int) = cmpIn a b from by
      unfold cmpIn Lib.compareInt
      by_cases h : a.length < b.length
      · rw [if_pos h, if_pos (by omega)]
      · rw [if_neg h, if_neg (by omega), if_pos (by omega), if_pos (by omega)])
    have HC := Lib.hid (fun W => cmpInt_b (a.length : Int) (b.length : Int) _ HR.out W)
    have hHE := Lib.hid he
    clear he HSL
    generalize cmpIn a b = res at *
    go_enter Try.func8, Try.ntmps8
    go_wp2_with (first | (go_at_call 20; (with_reducible refine (HC.out _).mono ?_); rintro e w' ⟨rfl, rfl⟩))
    go_ret
    exact ⟨rfl, Below.refl _ _⟩
end Go.Proofs.Ytandbnpgccpcoab
/- How a law opens a slice of numbers. -/
namespace Go.Proofs.Ytandbnpgccpcoab
set_option linter.unusedVariables false
open Go.ChangeShapes Go.WideShapes Go.ChangeAt Go.RowKit Go.WideMaps Go.WideElems
section
variable {H : Type} {enc : TypeId × Value → H} {P : Program}
theorem open_intRow {W : World} {base : Nat} {t e : TypeId} {v : Value} {d : DataW H} {p : List MemPlace} (ht : P.underlying t = some (.slice e)) (he : P.underlying e = some (.int .i64)) (hc : P.cellsOf e = 1)
    (hval : Value.okWide P W .any base t v) (h : DataW.Trod enc P W 0 (fun _ => true) true t v d p) :
    ∃ l : List Int, RowAt W v (l.map intV) ∧ True := by
  obtain ⟨a1, len, cap, rfl⟩ := okWide_slice ht hval
  obtain ⟨fuel, hf⟩ := h
  rcases open_ints ht he hc hf with ⟨hcs, _⟩ | ⟨a, len', cap', zs, hcs, _, hl, hm, hz, _, hcell, hwz⟩
  · simp [Value.cells] at hcs
    obtain ⟨rfl, rfl, rfl⟩ := hcs
    exact ⟨[], ⟨none, 0, rfl, Nat.zero_le _, Or.inl rfl⟩, trivial⟩
  · simp [Value.cells] at hcs
    obtain ⟨rfl, rfl, rfl⟩ := hcs
    simp only [if_true] at hz
    refine ⟨zs.take len, open_row (by simp; omega) (by omega) (by omega) ?_, trivial⟩
    intro i hi
    rw [hcell i (by omega)]
    simp [intV, hi, List.getElem?_eq_getElem (show i < zs.length by omega)]
end
end Go.Proofs.Ytandbnpgccpcoab
namespace Go.Proofs.Ytandbnpgccpcoab
set_option linter.unusedVariables false
set_option linter.unusedSimpArgs false
open Go.ChangeShapes Go.WideShapes Go.ChangeAt Go.RowKit Go.WideMaps Go.WideElems
open Go.ChangeMaps (open_string shut_string)
theorem belT {a b c : World} (h : Below a.heap.size a b) (k : Below b.heap.size b c) : Below a.heap.size a c := h.trans (k.mono h.size)
theorem eqIntS_t (v u : Value) (x : List Int) (w : World) (hx : RowAt w v (x.map intV)) (hy : RowAt w u (x.map intV)) :
    Calls Try.prog 9 #[v, u] w fun e w' => e = .returned (.bool true) ∧ Below w.heap.size w w' := by
  have h := eqIntS_any v u x x w hx hy
  rw [show decide (x = x) = true by simp] at h
  exact h
set_option maxRecDepth 100000 in
set_option maxHeartbeats 3200000 in
theorem exactCompareInputs_any (v0 : Value) (x0 : List Int) (v1 : Value) (x1 : List Int) (w : World) (a0 : RowAt w v0 (x0.map intV)) (g0 : True) (a1 : RowAt w v1 (x1.map intV)) (g1 : True) :
    Calls Try.prog 3 #[v0, v1] w fun e w' => e = .returned (.bool true) ∧ Below w.heap.size w w' := by
  have A0 := Lib.hid a0
  have A1 := Lib.hid a1
  obtain ⟨xa, xc, rfl, hxl⟩ := rowAt_len a0
  obtain ⟨ya, yc, rfl, hyl⟩ := rowAt_len a1
  clear a0 a1 g0 g1
  simp only [List.length_map] at *
  unfold maxLen at hxl hyl
  by_cases h0 : 1048576 < x0.length
  · go_enter Try.func3, Try.ntmps3
    go_wp2_with fail
    go_ret
    exact ⟨rfl, Below.refl _ _⟩
  by_cases h1 : 1048576 < x1.length
  · go_enter Try.func3, Try.ntmps3
    go_wp2_with fail
    go_ret
    exact ⟨rfl, Below.refl _ _⟩
  have HB0 := Lib.hid (Below.refl w.heap.size w)
  have T0 := Lib.hid (fun W (h : Below w.heap.size w W) => toIntS_any _ x0 W (RowAt.below A0.out h (Nat.le_refl _)) (by omega))
  have T1 := Lib.hid (fun W (h : Below w.heap.size w W) => toIntS_any _ x1 W (RowAt.below A1.out h (Nat.le_refl _)) (by omega))
  have HSP := Lib.hid (fun v u W h k => specCmpIn_any v u x0 x1 W h k)
  have HIM := Lib.hid (fun v u W h k => implCmpIn_any v u x0 x1 W h k)
  have E0 := Lib.hid (fun v u W h k => eqIntS_t v u x0 W h k)
  have E1 := Lib.hid (fun v u W h k => eqIntS_t v u x1 W h k)
  generalize cmpIn x0 x1 = res at *
  go_enter Try.func3, Try.ntmps3
  go_wp2_with fail
  refine (T0.out _ HB0.out).mono ?_
  rintro e w1 ⟨rfl, ho, hb⟩
  have P := Lib.hid (ownsI_row ho (by omega))
  have HB := Lib.hid (belT HB0.out hb)
  clear ho hb
  go_wp2_with fail
  refine (T1.out _ HB.out).mono ?_
  rintro e w2 ⟨rfl, ho, hb⟩
  have Q := Lib.hid (ownsI_row ho (by omega))
  replace P := Lib.hid (RowAt.below P.out hb (Nat.le_refl _))
  replace HB := Lib.hid (belT HB.out hb)
  clear ho hb
  go_wp2_with fail
  refine (HSP.out _ _ _ P.out Q.out).mono ?_
  rintro e w3 ⟨rfl, hb⟩
  replace HB := Lib.hid (belT HB.out hb)
  clear hb P Q
  go_wp2_with fail
  refine (T0.out _ HB.out).mono ?_
  rintro e w4 ⟨rfl, ho, hb⟩
  have P := Lib.hid (ownsI_row ho (by omega))
  replace HB := Lib.hid (belT HB.out hb)
  clear ho hb
  go_wp2_with fail
  refine (T1.out _ HB.out).mono ?_
  rintro e w5 ⟨rfl, ho, hb⟩
  have Q := Lib.hid (ownsI_row ho (by omega))
  replace P := Lib.hid (RowAt.below P.out hb (Nat.le_refl _))
  replace HB := Lib.hid (belT HB.out hb)
  clear ho hb
  go_wp2_with fail
  refine (HIM.out _ _ _ P.out Q.out).mono ?_
  rintro e w6 ⟨rfl, hb⟩
  replace P := Lib.hid (RowAt.below P.out hb (Nat.le_refl _))
  replace Q := Lib.hid (RowAt.below Q.out hb (Nat.le_refl _))
  replace HB := Lib.hid (belT HB.out hb)
  clear hb
  go_wp2_with fail
  refine (T0.out _ HB.out).mono ?_
  rintro e w7 ⟨rfl, ho, hb⟩
  have R := Lib.hid (ownsI_row ho (by omega))
  replace P := Lib.hid (RowAt.below P.out hb (Nat.le_refl _))
  replace Q := Lib.hid (RowAt.below Q.out hb (Nat.le_refl _))
  replace HB := Lib.hid (belT HB.out hb)
  clear ho hb
  go_wp2_with fail
  refine (E0.out _ _ _ P.out R.out).mono ?_
  rintro e w8 ⟨rfl, hb⟩
  replace Q := Lib.hid (RowAt.below Q.out hb (Nat.le_refl _))
  replace HB := Lib.hid (belT HB.out hb)
  clear hb P R
  go_wp2_with fail
  refine (T1.out _ HB.out).mono ?_
  rintro e w9 ⟨rfl, ho, hb⟩
  have R := Lib.hid (ownsI_row ho (by omega))
  replace Q := Lib.hid (RowAt.below Q.out hb (Nat.le_refl _))
  replace HB := Lib.hid (belT HB.out hb)
  clear ho hb
  go_wp2_with fail
  refine (E1.out _ _ _ Q.out R.out).mono ?_
  rintro e w10 ⟨rfl, hb⟩
  replace HB := Lib.hid (belT HB.out hb)
  clear hb
  go_wp2_with fail
  go_ret
  exact ⟨rfl, HB.out⟩
set_option maxRecDepth 100000 in
theorem fnExactCompareInputs_lifted (os : Os) (started : os.Started) (H : Type) (enc : TypeId × Value → H) :
    ReturnsInHanded {} Try.checked os 3 .any (Rows.fnExactCompareInputsSpec.pre6 enc Try.prog Try.f3 Rows.fnExactCompareInputsRow.domain false) (Rows.fnExactCompareInputsSpec.post enc Try.prog Try.f3 false true false false) := by
  refine returnsInHanded_of_change (C := Try.checked) ownK started (by kernel_rfl) Try.func3
    (ChangeSpec.witness6 (enc := enc) (C := Try.checked) false ⟨#[], #[.slice none 0 0, .slice none 0 0], []⟩ 8 (by kernel_rfl) (by kernel_rfl) (by kernel_rfl) (by kernel_rfl)) ?_
  intro W base args ds gs before hval0 hW _ _
  have hval : ∀ (j : Nat) t v, Try.f3.params[j]? = some t → args[j]? = some v → Value.okWide Try.prog W .any base t v := hval0
  have hW' := hW
  obtain ⟨p, q, hA0, _, rfl, _, _⟩ := hW
  have hA : DataW.TrodAll enc Try.prog W 0 (fun _ => true) true Try.f3.params.toList args.toList ds p := hA0
  rw [Try.params3] at hA hval
  obtain ⟨v0, vs0, d0, ds0, p0, q0, hargs, rfl, rfl, h0, r0⟩ := trodAll_cons hA
  obtain ⟨v1, vs1, d1, ds1, p1, q1, rfl, rfl, rfl, h1, r1⟩ := trodAll_cons r0
  obtain ⟨rfl, rfl, rfl⟩ := trodAll_nil r1
  obtain rfl : args = #[v0, v1] := by cases args; simp_all
  obtain ⟨l0, w0, z0⟩ := open_intRow Try.underlying22 Try.underlying3 (by kernel_rfl) (hval 0 22 v0 rfl rfl) h0
  obtain ⟨l1, w1, z1⟩ := open_intRow Try.underlying22 Try.underlying3 (by kernel_rfl) (hval 1 22 v1 rfl rfl) h1
  clear hA0 hval0
  refine (exactCompareInputs_any v0 l0 v1 l1 W w0 z0 w1 z1).mono fun e W1 ⟨he, hb⟩ => ?_
  subst he
  exact ⟨_, rfl, law_post laidK rfl (by kernel_rfl) Try.underlying4 (by kernel_rfl) (fun ds h => by match ds, h with | [_, _], _ => rfl) hW' hb⟩
theorem fnExactCompareInputs_closed : joinedFacts Try.prog 3 Try.f3 Rows.fnExactCompareInputsSpec Rows.fnExactCompareInputsRow = true := by unfold joinedFacts; rw [mayEnter_k, liftsFinal_k, make_k]; kernel_rfl
theorem fnExactCompareInputs_holds : Rows.FnExactCompareInputsSaid :=
  OpenClaim.holds_of_wide 3 Try.f3 rfl rfl rfl rfl rfl rfl rfl ⟨rfl, rfl, rfl, rfl, rfl⟩ rfl rfl rfl rfl rfl (by kernel_rfl) Try.func3 fnExactCompareInputs_closed
    (of_decide_eq_true (by kernel_rfl)) (by unfold Func.isWrapper; first | (rw [if_pos (by decide +kernel)]; kernel_rfl) | (rw [if_neg (by decide +kernel)]; exact ⟨rfl, rfl⟩))
    (fun os started H enc _ => fnExactCompareInputs_lifted os started H enc)
end Go.Proofs.Ytandbnpgccpcoab
