/- What draws leave of variables and rows: the general words. -/
import Derived.Test.YtcpbikilgacdlaaGreatRows
import Derived.WalkKit
import Derived.ProofKit
import Derived.OpenShut
import Derived.Lib.UnsafeStr
import Derived.WalkSpells
import Derived.WalkLawsBesides
import Derived.Lib.Hide
import Derived.Lib.Bytes
import Derived.Deep.QuietTactic
import Derived.BigQuiet
import Derived.Laws.OwnMore
import Derived.Deep.Draws
import Derived.Laws.Rows
import Derived.OwnWalk
import Derived.Deep.OwnRows
import Derived.Deep.RegionHeld3
import Derived.Shelf.Strings.BuilderK
import Derived.Stop.Asserts
import Derived.StillTailTactics
import Derived.Deep.AppendLies
import Derived.Test.YtcpbikilgacdlaaGreatShelf
import Derived.Lib.IndexMore
import Derived.Lib.IndexLaws
import Derived.Lib.SlicesCompact
import Derived.Sort.Walk0
namespace Go.Proofs.YtcpbikilgacdlaaGreat
set_option linter.unusedVariables false
open Go.ChangeShapes Go.WideShapes Go.ChangeAt Go.RowKit Go.WideMaps Go.WideElems
open Go.ChangeMaps (open_string shut_string)
theorem ownK : ownKnob Tryz.prog.godebug = none := by kernel_rfl
theorem laidK : laidOutB Tryz.prog = true := by kernel_rfl
def initL : List Char := let c := Char.ofNat; [c 104, c 97, c 114, c 110, c 101, c 115, c 115, c 32, c 56, c 52, c 51, c 101, c 57, c 99, c 51, c 57, c 55, c 55, c 54, c 52, c 56, c 53, c 53, c 99, c 101, c 50, c 54, c 55, c 50, c 48, c 101, c 102, c 102, c 57, c 57, c 49, c 53, c 56, c 53, c 97, c 99, c 54, c 100, c 57, c 56, c 53, c 49, c 101, c 99, c 53, c 56, c 100, c 98, c 101, c 49, c 51, c 55, c 56, c 50, c 99, c 54, c 55, c 50, c 57, c 99, c 56, c 54, c 102, c 54, c 100, c 100, c 49, c 32, c 99, c 117, c 116, c 32, c 97, c 116, c 32, c 108, c 111, c 111, c 112, c 46, c 101, c 120, c 97, c 109, c 112, c 108, c 101, c 47, c 103, c 48, c 51, c 48, c 49, c 54, c 47, c 108, c 97, c 119, c 115, c 46, c 70, c 110, c 69, c 120, c 97, c 99, c 116, c 67, c 97, c 108, c 108, c 80, c 97, c 114, c 116, c 32, c 108, c 111, c 111, c 112, c 46, c 101, c 120, c 97, c 109, c 112, c 108, c 101, c 47, c 103, c 48, c 51, c 48, c 49, c 54, c 47, c 108, c 97, c 119, c 115, c 46, c 70, c 110, c 69, c 120, c 97, c 99, c 116, c 67, c 97, c 108, c 108, c 80, c 97, c 114, c 116, c 115, c 32, c 108, c 111, c 111, c 112, c 46, c 101, c 120, c 97, c 109, c 112, c 108, c 101, c 47, c 103, c 48, c 51, c 48, c 49, c 54, c 47, c 108, c 97, c 119, c 115, c 46, c 70, c 110, c 69, c 120, c 97, c 99, c 116, c 67, c 97, c 108, c 108, c 67, c 111, c 114, c 101, c 115, c 32, c 108, c 111, c 111, c 112, c 46, c 101, c 120, c 97, c 109, c 112, c 108, c 101, c 47, c 103, c 48, c 51, c 48, c 49, c 54, c 47, c 108, c 97, c 119, c 115, c 46, c 70, c 110, c 80, c 97, c 114, c 116, c 87, c 97, c 110, c 116, c 115, c 32, c 108, c 111, c 111, c 112, c 46, c 101, c 120, c 97, c 109, c 112, c 108, c 101, c 47, c 103, c 48, c 51, c 48, c 49, c 54, c 47, c 108, c 97, c 119, c 115, c 46, c 70, c 110, c 80, c 97, c 114, c 116, c 75, c 101, c 101, c 112, c 115, c 32, c 108, c 111, c 111, c 112, c 46, c 101, c 120, c 97, c 109, c 112, c 108, c 101, c 47, c 103, c 48, c 51, c 48, c 49, c 54, c 47, c 108, c 97, c 119, c 115, c 46, c 70, c 110, c 68, c 111, c 111, c 114, c 32, c 108, c 111, c 111, c 112, c 46, c 101, c 120, c 97, c 109, c 112, c 108, c 101, c 47, c 103, c 48, c 51, c 48, c 49, c 54, c 47, c 108, c 97, c 119, c 115, c 46, c 70, c 110, c 84, c 104, c 114, c 111, c 117, c 103, c 104, c 32, c 108, c 111, c 111, c 112, c 46, c 101, c 120, c 97, c 109, c 112, c 108, c 101, c 47, c 103, c 48, c 51, c 48, c 49, c 54, c 47, c 108, c 97, c 119, c 115, c 46, c 70, c 110, c 82, c 101, c 97, c 100, c 115, c 32, c 108, c 111, c 111, c 112, c 46, c 101, c 120, c 97, c 109, c 112, c 108, c 101, c 47, c 103, c 48, c 51, c 48, c 49, c 54, c 47, c 108, c 97, c 119, c 115, c 46, c 70, c 110, c 67, c 111, c 117, c 110, c 116, c 115, c 32, c 108, c 111, c 111, c 112, c 46, c 101, c 120, c 97, c 109, c 112, c 108, c 101, c 47, c 103, c 48, c 51, c 48, c 49, c 54, c 47, c 108, c 97, c 119, c 115, c 46, c 70, c 110, c 76, c 97, c 122, c 121, c 32, c 108, c 111, c 111, c 112, c 46, c 101, c 120, c 97, c 109, c 112, c 108, c 101, c 47, c 103, c 48, c 51, c 48, c 49, c 54, c 47, c 108, c 97, c 119, c 115, c 46, c 70, c 110, c 84, c 119, c 105, c 99, c 101, c 32, c 108, c 111, c 111, c 112, c 46, c 101, c 120, c 97, c 109, c 112, c 108, c 101, c 47, c 103, c 48, c 51, c 48, c 49, c 54, c 47, c 108, c 97, c 119, c 115, c 46, c 70, c 110, c 72, c 101, c 97, c 114, c 115]
def initW : List (List Char) := let c := Char.ofNat; [[c 99, c 117, c 116], [c 97, c 116], [c 108, c 111, c 111, c 112, c 46, c 101, c 120, c 97, c 109, c 112, c 108, c 101, c 47, c 103, c 48, c 51, c 48, c 49, c 54, c 47, c 108, c 97, c 119, c 115, c 46, c 70, c 110, c 69, c 120, c 97, c 99, c 116, c 67, c 97, c 108, c 108, c 80, c 97, c 114, c 116], [c 108, c 111, c 111, c 112, c 46, c 101, c 120, c 97, c 109, c 112, c 108, c 101, c 47, c 103, c 48, c 51, c 48, c 49, c 54, c 47, c 108, c 97, c 119, c 115, c 46, c 70, c 110, c 69, c 120, c 97, c 99, c 116, c 67, c 97, c 108, c 108, c 80, c 97, c 114, c 116, c 115], [c 108, c 111, c 111, c 112, c 46, c 101, c 120, c 97, c 109, c 112, c 108, c 101, c 47, c 103, c 48, c 51, c 48, c 49, c 54, c 47, c 108, c 97, c 119, c 115, c 46, c 70, c 110, c 69, c 120, c 97, c 99, c 116, c 67, c 97, c 108, c 108, c 67, c 111, c 114, c 101, c 115], [c 108, c 111, c 111, c 112, c 46, c 101, c 120, c 97, c 109, c 112, c 108, c 101, c 47, c 103, c 48, c 51, c 48, c 49, c 54, c 47, c 108, c 97, c 119, c 115, c 46, c 70, c 110, c 80, c 97, c 114, c 116, c 87, c 97, c 110, c 116, c 115], [c 108, c 111, c 111, c 112, c 46, c 101, c 120, c 97, c 109, c 112, c 108, c 101, c 47, c 103, c 48, c 51, c 48, c 49, c 54, c 47, c 108, c 97, c 119, c 115, c 46, c 70, c 110, c 80, c 97, c 114, c 116, c 75, c 101, c 101, c 112, c 115], [c 108, c 111, c 111, c 112, c 46, c 101, c 120, c 97, c 109, c 112, c 108, c 101, c 47, c 103, c 48, c 51, c 48, c 49, c 54, c 47, c 108, c 97, c 119, c 115, c 46, c 70, c 110, c 68, c 111, c 111, c 114], [c 108, c 111, c 111, c 112, c 46, c 101, c 120, c 97, c 109, c 112, c 108, c 101, c 47, c 103, c 48, c 51, c 48, c 49, c 54, c 47, c 108, c 97, c 119, c 115, c 46, c 70, c 110, c 84, c 104, c 114, c 111, c 117, c 103, c 104], [c 108, c 111, c 111, c 112, c 46, c 101, c 120, c 97, c 109, c 112, c 108, c 101, c 47, c 103, c 48, c 51, c 48, c 49, c 54, c 47, c 108, c 97, c 119, c 115, c 46, c 70, c 110, c 82, c 101, c 97, c 100, c 115], [c 108, c 111, c 111, c 112, c 46, c 101, c 120, c 97, c 109, c 112, c 108, c 101, c 47, c 103, c 48, c 51, c 48, c 49, c 54, c 47, c 108, c 97, c 119, c 115, c 46, c 70, c 110, c 67, c 111, c 117, c 110, c 116, c 115], [c 108, c 111, c 111, c 112, c 46, c 101, c 120, c 97, c 109, c 112, c 108, c 101, c 47, c 103, c 48, c 51, c 48, c 49, c 54, c 47, c 108, c 97, c 119, c 115, c 46, c 70, c 110, c 76, c 97, c 122, c 121], [c 108, c 111, c 111, c 112, c 46, c 101, c 120, c 97, c 109, c 112, c 108, c 101, c 47, c 103, c 48, c 51, c 48, c 49, c 54, c 47, c 108, c 97, c 119, c 115, c 46, c 70, c 110, c 84, c 119, c 105, c 99, c 101], [c 108, c 111, c 111, c 112, c 46, c 101, c 120, c 97, c 109, c 112, c 108, c 101, c 47, c 103, c 48, c 51, c 48, c 49, c 54, c 47, c 108, c 97, c 119, c 115, c 46, c 70, c 110, c 72, c 101, c 97, c 114, c 115]]
set_option maxRecDepth 100000 in
theorem initStr : Tryz.prog.initOrder = String.ofList initL := by kernel_rfl
theorem initSigns : Tryz.prog.initOrder.toList = initL := by rw [initStr, String.toList_ofList]
set_option maxRecDepth 100000 in
theorem initWords : behindMainWord (wordsSigns initL) = initW := by kernel_rfl
theorem headLifts_g (P : Program) (h : P.initOrder.toList = initL) : P.headLifts = [] := by unfold Program.headLifts; rw [h, initWords]; kernel_rfl
theorem make_g (P : Program) (h : P.initOrder.toList = initL) : P.make = some .cut := by unfold Program.make; rw [h, initWords]; kernel_rfl
theorem liftsFinal_g (P : Program) (h : P.initOrder.toList = initL) : P.liftsFinal = false := by unfold Program.liftsFinal; rw [headLifts_g P h, h, initWords]; kernel_rfl
theorem mayEnter_g (P : Program) (h : P.initOrder.toList = initL) (h1 : P.laysLater = false) (h2 : P.bearsReflect = false) : P.mayEnter = P.doorFits [] := by unfold Program.mayEnter; rw [h, initWords, h1, h2]; kernel_rfl
theorem laysLater_k : Tryz.prog.laysLater = false := by kernel_rfl
theorem bearsReflect_k : Tryz.prog.bearsReflect = false := by kernel_rfl
theorem doorFits_k : Tryz.prog.doorFits [] = true := by kernel_rfl
theorem make_k : Tryz.prog.make = some .cut := make_g _ initSigns
theorem liftsFinal_k : Tryz.prog.liftsFinal = false := liftsFinal_g _ initSigns
theorem mayEnter_k : Tryz.prog.mayEnter = true := (mayEnter_g _ initSigns laysLater_k bearsReflect_k).trans doorFits_k
section
variable {H : Type} {enc : TypeId × Value → H} {P : Program}
theorem trodAll_below (hl : laidOutB P = true) {W W' : World} (hb : Below W.heap.size W W') (sp : Nat → Bool) :
  ∀ {ts : List TypeId} {vs : List Value} {ds : List (DataW H)} {ps : List MemPlace}, (ts.all fun t => P.readableRec t && decide (t < P.types.size)) = true →
   DataW.TrodAll enc P W 0 (fun _ => true) true ts vs ds ps → (∀ x ∈ ps, x.block < W.heap.size) → (∀ x ∈ ps, sp x.block = true) → DataW.TrodAll enc P W' 0 sp true ts vs ds ps
 | [], [], [], _, _, h, _, _ => h
 | [], [], _ :: _, _, _, h, _, _ => h.elim
 | [], _ :: _, _, _, _, h, _, _ => h.elim
 | _ :: _, [], _, _, _, h, _, _ => h.elim
 | _ :: _, _ :: _, [], _, _, h, _, _ => h.elim
 | t :: ts, v :: vs, d :: ds, ps, ht, h, hlt, hsp => by
  obtain ⟨p, q, h1, h2, rfl⟩ := h
  simp only [List.all_cons, Bool.and_eq_true] at ht
  refine ⟨p, q, ?_, trodAll_below hl hb sp ht.2 h2 (fun x hx => hlt x (List.mem_append_right _ hx)) (fun x hx => hsp x (List.mem_append_right _ hx)), rfl⟩
  exact WideElems.Trod_stays hl ht.1.1 (of_decide_eq_true ht.1.2) h1 (fun x hx => hb.same (hlt x (List.mem_append_left _ hx))) (fun x hx => hsp x (List.mem_append_left _ hx))
theorem trodAll_len {W : World} {b : Nat} {sp : Nat → Bool} {hd : Bool} : ∀ {ts : List TypeId} {vs : List Value} {ds : List (DataW H)} {ps : List MemPlace}, DataW.TrodAll enc P W b sp hd ts vs ds ps → ds.length = ts.length
 | [], [], [], _, _ => rfl
 | [], [], _ :: _, _, h => h.elim
 | [], _ :: _, _, _, h => h.elim
 | _ :: _, [], _, _, h => h.elim
 | _ :: _, _ :: _, [], _, h => h.elim
 | _ :: _, _ :: _, _ :: _, _, ⟨_, _, _, h2, _⟩ => by simp [trodAll_len h2]
theorem law_post {f : Func} {s : ChangeSpec} {fresh handsOn again : Bool} {W W' : World} {args : Array Value} {ds gs : List (DataW H)} {before : List MemPlace} {tb : TypeId}
  (hl : laidOutB P = true) (hv : s.vars = []) (hr : f.resultTypes = #[tb]) (htb : P.underlying tb = some .bool)
  (hts : (f.params.toList.all fun t => P.readableRec t && decide (t < P.types.size)) = true)
  (hfn : ∀ ds : List (DataW H), ds.length = f.params.toList.length → s.fn H ds = { results := [.lit (.bool true)], args := ds })
  (hW : DataW.Whole enc P f.params.toList s.vars false W args.toList ds gs before) (hb : Below W.heap.size W W') :
  s.post enc P f false fresh handsOn again W args (.bool true) W' := by
 have hlt : ∀ p ∈ before, p.block < W.heap.size := fun p hp => hW.lt p hp
 have hW0 := hW
 obtain ⟨p, q, hA, hV, rfl, hfz, hnd⟩ := hW
 rw [hv] at hV
 obtain ⟨rfl, rfl⟩ := trodVars_none hV
 have hds := trodAll_len hA
 have e : s.fn H (ds ++ []) = { results := [.lit (.bool true)], args := ds } := by rw [List.append_nil]; exact hfn ds hds
 simp only [List.append_nil] at hlt hW0
 have hargs : ∀ sp : Nat → Bool, (∀ x ∈ p, sp x.block = true) → DataW.TrodAll enc P W' 0 sp true f.params.toList args.toList ds p := fun sp hsp => trodAll_below hl hb sp hts hA hlt hsp
 have hold : ∀ x ∈ p, (fun b => decide (b < W.heap.size)) x.block = true := fun x hx => by simpa using hlt x hx
 have hres : ∀ (b : Nat) (sp : Nat → Bool) (hd : Bool), DataW.TrodAll enc P W' b sp hd f.resultTypes.toList ((Value.bool true).resultList f.resultTypes.size) [.lit (.bool true)] [] := fun b sp hd => by
  rw [hr]; exact trodAll_cons_mk (shut_bool htb _) trodAll_mk0
 have hok : ∀ (j : Nat) (t : TypeId) (r : Value), f.resultTypes[j]? = some t → ((Value.bool true).resultList f.resultTypes.size)[j]? = some r → Value.okWide P W' .any 0 t r := ok_one hr rfl (okWide_bool_mk htb _)
 have R : ∀ (b : Nat) (sp : Nat → Bool) (hd : Bool), DataW.TrodAll enc P W' b sp hd f.resultTypes.toList ((Value.bool true).resultList f.resultTypes.size) (s.fn H (ds ++ [])).results [] := fun b sp hd => by rw [e]; exact hres b sp hd
 have A : ∀ sp : Nat → Bool, (∀ x ∈ p, sp x.block = true) → DataW.TrodAll enc P W' 0 sp true f.params.toList args.toList (s.fn H (ds ++ [])).args p := fun sp hsp => by rw [e]; exact hargs sp hsp
 have V : ∀ sp : Nat → Bool, DataW.TrodVars enc P W' sp s.vars (s.fn H (ds ++ [])).vars [] := fun sp => by rw [e, hv]; exact rfl
 refine ⟨ds, [], p, [], p, [], hW0, R _ _ _, A _ hold, V _, World.keptBut_mono (fun x hx => ⟨hx, ?_⟩) (hb.frame (· ∈ p)), fun _ => ?_⟩
 ·simpa using hx
 ·refine ⟨hok, _, _, ([] ++ p) ++ [], ⟨[] ++ p, [], trodAll_append (A _ (fun _ _ => rfl)) (R _ _ _), V _, rfl, ?_, ?_⟩, ?_⟩
  ·intro b off hp
   have hin : MemPlace.cell b off ∈ p := by simpa using hp
   rw [hb.frozen (hlt _ hin)]
   exact hfz b off (by simpa using hin)
  ·intro ha; cases ha
  ·intro x hx _; simpa using hx
end
def RowAt (w : World) (v : Value) (xs : List Value) : Prop :=
 ∃ a c, v = .slice a xs.length (xs.length + c) ∧ xs.length ≤ maxLen ∧ (xs = [] ∨ ∃ b o, a = some ⟨b, o, none⟩ ∧ b < w.heap.size ∧ ∀ i, i < xs.length → w.cell? ⟨b, o + i, none⟩ = xs[i]?)
def strV (l : List UInt8) : Value := .string ⟨l.toArray⟩
theorem RowAt.below {w w' : World} {v : Value} {xs : List Value} {B : Nat} (h : RowAt w v xs) (hb : Below B w w') (hB : w.heap.size ≤ B) : RowAt w' v xs := by
 obtain ⟨a, c, rfl, hl, h⟩ := h
 refine ⟨a, c, rfl, hl, h.imp id ?_⟩
 rintro ⟨b, o, rfl, hlt, hc⟩
 exact ⟨b, o, rfl, Nat.lt_of_lt_of_le hlt hb.size, fun i hi => by rw [hb.cell (p := ⟨b, o + i, none⟩) (Nat.lt_of_lt_of_le hlt hB)]; exact hc i hi⟩
theorem cap_eq (a : Option Addr) {n c : Nat} (h : n ≤ c) : Value.slice a n c = .slice a n (n + (c - n)) := by rw [Nat.add_sub_of_le h]
theorem open_row {w : World} {a : Addr} {n c : Nat} {xs : List Value} (hn : xs.length = n) (hm : n ≤ maxLen) (hcap : n ≤ c) (hc : ∀ i, i < n → w.cell? (a.add i) = xs[i]?) : RowAt w (.slice (some a) n c) xs := by
 subst hn
 refine ⟨some a, _, cap_eq _ hcap, hm, ?_⟩
 cases xs with
 | nil => exact Or.inl rfl
 | cons x r =>
  right
  obtain ⟨ab, ao, spot⟩ := a
  have h0 := hc 0 (by simp)
  have hspot : spot = none := by
   have : w.cell? ((⟨ab, ao, spot⟩ : Addr).add 0) = some x := by rw [h0]; rfl
   simpa [Addr.add] using World.cell?_spot this
  subst hspot
  refine ⟨ab, ao, rfl, ?_, fun i hi => by have := hc i hi; rwa [Addr.add_lit] at this⟩
  have h1 : w.cell? ⟨ab, ao, none⟩ = some x := by have := h0; rw [Addr.add_lit] at this; simpa using this
  cases hh : w.heap[ab]? with
  | none => simp [World.cell?, hh] at h1
  | some o => exact (Array.getElem?_eq_some_iff.1 hh).1
section
variable {H : Type} {enc : TypeId × Value → H} {P : Program}
theorem open_byteRow {W : World} {base : Nat} {t e : TypeId} {v : Value} {d : DataW H} {p : List MemPlace} (ht : P.underlying t = some (.slice e)) (he : P.underlying e = some (.int .u8)) (hc : P.cellsOf e = 1)
  (hval : Value.okWide P W .any base t v) (h : DataW.Trod enc P W 0 (fun _ => true) true t v d p) :
  ∃ l : List UInt8, RowAt W v (Lib.byteCells l) := by
 obtain ⟨a1, len, cap, rfl⟩ := okWide_slice ht hval
 obtain ⟨fuel, hf⟩ := h
 rcases open_ints ht he hc hf with ⟨hcs, _⟩ | ⟨a, len', cap', zs, hcs, _, hl, hm, hz, _, hcell, hwz⟩
 ·simp [Value.cells] at hcs
  obtain ⟨rfl, rfl, rfl⟩ := hcs
  exact ⟨[], none, 0, rfl, Nat.zero_le _, Or.inl rfl⟩
 ·simp [Value.cells] at hcs
  obtain ⟨rfl, rfl, rfl⟩ := hcs
  simp only [if_true] at hz
  refine ⟨(zs.take len).map fun n => UInt8.ofNat n.toNat, open_row (by rw [Lib.byteCells_length]; simp; omega) (by omega) (by omega) ?_⟩
  intro i hi
  rw [hcell i (by omega)]
  have hb := range_u8 hwz i
  have e : zs.getD i 0 = zs[i]'(by omega) := by simp [List.getD, List.getElem?_eq_getElem (show i < zs.length by omega)]
  rw [List.getD_eq_getElem?_getD] at e
  rw [e] at hb
  have hlen : i < ((zs.take len).map fun n => UInt8.ofNat n.toNat).length := by simp; omega
  have hg : (Lib.byteCells ((zs.take len).map fun n => UInt8.ofNat n.toNat))[i]? = some (.int .u8 (zs[i]'(by omega))) := by
   have : (Lib.byteCells ((zs.take len).map fun n => UInt8.ofNat n.toNat))[i]? = some (.int .u8 ((((zs.take len).map fun n => UInt8.ofNat n.toNat)[i]'hlen).toNat : Int)) := by
    simp only [Lib.byteCells, List.getElem?_map, List.getElem?_eq_getElem hlen, Option.map_some]
   rw [this]
   simp only [List.getElem_map, List.getElem_take, UInt8.toNat_ofNat']
   congr 2; omega
  rw [hg, List.getD_eq_getElem?_getD, e]
end
end Go.Proofs.YtcpbikilgacdlaaGreat
namespace Go.Proofs.YtcpbikilgacdlaaGreat
set_option linter.unusedVariables false
open Go.RowKit
theorem and255 (n : Int) : bits .and .i64 n 255 = n % 256 := by
 have h255 : (BitVec.ofInt 64 255).toNat = 2 ^ 8 - 1 := by decide
 have key : (BitVec.ofInt 64 n &&& BitVec.ofInt 64 255).toNat = (n % ((2 ^ 64 : Nat) : Int)).toNat % 2 ^ 8 := by
  rw [BitVec.toNat_and, BitVec.toNat_ofInt, h255, Nat.and_two_pow_sub_one_eq_mod]
 show IntKind.i64.wrap ((BitVec.ofInt 64 n &&& BitVec.ofInt 64 255).toNat : Nat) = n % 256
 rw [key, IntKind.wrap_i64]
 omega
def Three (w : World) (b : Nat) (t : TypeId) (x y z : Value) : Prop := w.heap[b]? = some (.cells #[x, y, z] t (0, 0))
theorem Three.lt {w : World} {b : Nat} {t : TypeId} {x y z : Value} (h : Three w b t x y z) : b < w.heap.size := by
 rcases Nat.lt_or_ge b w.heap.size with hlt | hge
 ·exact hlt
 ·unfold Three at h; rw [Array.getElem?_eq_none hge] at h; cases h
theorem Three.cell {w : World} {b : Nat} {t : TypeId} {x y z : Value} (h : Three w b t x y z) : w.cell? ⟨b, 0, none⟩ = some x ∧ w.cell? ⟨b, 1, none⟩ = some y ∧ w.cell? ⟨b, 2, none⟩ = some z := by
 refine ⟨(cell_of_row w b 0 _ t (0, 0) h).trans rfl, (cell_of_row w b 1 _ t (0, 0) h).trans rfl, (cell_of_row w b 2 _ t (0, 0) h).trans rfl⟩
theorem Three.free {w : World} {b : Nat} {t : TypeId} {x y z : Value} (h : Three w b t x y z) (i : Nat) : w.frozen? ⟨b, i, none⟩ = false := by
 unfold Three at h; simp [World.frozen?, h]
theorem Three.set1 {w : World} {b : Nat} {t : TypeId} {x y z : Value} (h : Three w b t x y z) (u : Value) : Three (w.setCell ⟨b, 1, none⟩ u) b t x u z := by
 unfold Three at h ⊢; simp [World.setCell, Array.getElem?_modify, h]
theorem Three.set2 {w : World} {b : Nat} {t : TypeId} {x y z : Value} (h : Three w b t x y z) (u : Value) : Three (w.setCell ⟨b, 2, none⟩ u) b t x y u := by
 unfold Three at h ⊢; simp [World.setCell, Array.getElem?_modify, h]
theorem Three.grown {w w' : World} {b c : Nat} {t : TypeId} {x y z : Value} (h : Three w b t x y z) (hg : w.grownBy w' (some c)) (hne : b ≠ c) : Three w' b t x y z :=
 (hg.block b h.lt (fun e => hne (by injection e))).trans h
theorem grown_refl (w : World) (r : Option Nat) : w.grownBy w r := ⟨rfl, rfl, rfl, Nat.le_refl _, fun _ _ _ => rfl⟩
theorem grown_trans {a b c : World} {r : Option Nat} (h : a.grownBy b r) (k : b.grownBy c r) : a.grownBy c r :=
 ⟨k.os.trans h.os, k.tape.trans h.tape, k.output.trans h.output, Nat.le_trans h.size k.size, fun i hi hr => (k.block i (Nat.lt_of_lt_of_le hi h.size) hr).trans (h.block i hi hr)⟩
theorem grown_drewN {a w : World} {r : Option Nat} (h : a.grownBy w r) (n : Nat) : a.grownBy (w.drewN n) r := ⟨h.os, h.tape, h.output, h.size, h.block⟩
theorem grown_set {a w : World} {g : Nat} (h : a.grownBy w (some g)) (i : Nat) (u : Value) : a.grownBy (w.setCell ⟨g, i, none⟩ u) (some g) :=
 ⟨h.os, h.tape, h.output, by simpa [World.setCell] using h.size, fun j hj hne => (Below.heap_setCell w ⟨g, i, none⟩ u j (by rintro rfl; exact hne rfl)).trans (h.block j hj hne)⟩
theorem grown_alloc {a w : World} {r : Option Nat} (h : a.grownBy w r) (o : Obj) : a.grownBy (w.alloc o) r :=
 ⟨h.os, h.tape, h.output, Nat.le_trans h.size (by simp), fun i hi hne => (Below.heap_alloc w o i (Nat.lt_of_lt_of_le hi h.size)).trans (h.block i hi hne)⟩
theorem grown_below {a w w' : World} {B : Nat} {r : Option Nat} (h : a.grownBy w r) (k : Below B w w') (hB : a.heap.size ≤ B) : a.grownBy w' r :=
 ⟨k.os.trans h.os, k.tape.trans h.tape, k.output.trans h.output, Nat.le_trans h.size k.size, fun i hi hr => (k.block i (Nat.lt_of_lt_of_le hi hB)).trans (h.block i hi hr)⟩
def Cur (w : World) (b : Nat) (v : Value) (l : List UInt8) : Prop :=
 ∃ i : Nat, ∃ h : Int, Three w b 144 v (.int .i64 i) (.int .i64 h) ∧ i ≤ l.length ∧ l.length ≤ maxLen ∧
  ∃ a c, v = .slice a l.length c ∧ (l = [] ∨ ∃ cb o, a = some ⟨cb, o, none⟩ ∧ cb < b ∧ ∀ j, j < l.length → w.cell? ⟨cb, o + j, none⟩ = (Lib.byteCells l)[j]?)
theorem Cur.lt {w : World} {b : Nat} {v : Value} {l : List UInt8} (h : Cur w b v l) : b < w.heap.size := by
 obtain ⟨i, h, hT, _⟩ := h; exact hT.lt
def DrawnInt (Q : Int → Prop) (b : Nat) (v : Value) (l : List UInt8) (w : World) (e : Ending) (w' : World) : Prop := ∃ x : Int, e = .returned (.int .i64 x) ∧ Q x ∧ w.grownBy w' (some b) ∧ Cur w' b v l
def DrawnBool (b : Nat) (v : Value) (l : List UInt8) (w : World) (e : Ending) (w' : World) : Prop := ∃ x : Bool, e = .returned (.bool x) ∧ w.grownBy w' (some b) ∧ Cur w' b v l
theorem Cur.kept {w w' : World} {b : Nat} {v : Value} {l : List UInt8} (hC : Cur w b v l) {i : Nat} {h : Int} (hT : Three w' b 144 v (.int .i64 i) (.int .i64 h)) (hi : i ≤ l.length) (hg : w.grownBy w' (some b)) : Cur w' b v l := by
 obtain ⟨i0, h0, hT0, _, hl, a, c, rfl, hr⟩ := hC
 refine ⟨i, h, hT, hi, hl, a, c, rfl, hr.imp id ?_⟩
 rintro ⟨cb, o, rfl, hlt, hc⟩
 have hb := hT0.lt
 exact ⟨cb, o, rfl, hlt, fun j hj => (World.cell?_of_block (a := ⟨cb, o + j, none⟩) (hg.block cb (by omega) (fun e => by injection e; omega))).trans (hc j hj)⟩
theorem Cur.far {w w' : World} {b g : Nat} {v : Value} {l : List UInt8} (hC : Cur w b v l) (hg : w.grownBy w' (some g)) (hb : b < g) : Cur w' b v l := by
 obtain ⟨i, h, hT, hi, hl, a, c, rfl, hr⟩ := hC
 refine ⟨i, h, hT.grown hg (by omega), hi, hl, a, c, rfl, hr.imp id ?_⟩
 rintro ⟨cb, o, rfl, hlt, hc⟩
 have hb := hT.lt
 exact ⟨cb, o, rfl, hlt, fun j hj => (World.cell?_of_block (a := ⟨cb, o + j, none⟩) (hg.block cb (by omega) (fun e => by injection e; omega))).trans (hc j hj)⟩
theorem Cur.below {w w' : World} {b B : Nat} {v : Value} {l : List UInt8} (hC : Cur w b v l) (hg : Below B w w') (hb : b < B) : Cur w' b v l := by
 obtain ⟨i, h, hT, hi, hl, a, c, rfl, hr⟩ := hC
 refine ⟨i, h, (hg.block b hb).trans hT, hi, hl, a, c, rfl, hr.imp id ?_⟩
 rintro ⟨cb, o, rfl, hlt, hc⟩
 exact ⟨cb, o, rfl, hlt, fun j hj => (hg.cell (p := ⟨cb, o + j, none⟩) (by show cb < B; omega)).trans (hc j hj)⟩
theorem cur_alloc {w : World} {b : Nat} {v : Value} {l : List UInt8} (hC : Cur w b v l) (o : Obj) : Cur (w.alloc o) b v l :=
 hC.below (B := w.heap.size) ((Below.refl _ _).alloc (Nat.le_refl _) _) hC.lt
theorem mod_le (x m : Int) (h0 : 0 ≤ x) (h : 0 < m) : x % m ≤ x := by
 have h1 := Int.ediv_nonneg h0 (show 0 ≤ m by omega)
 have h2 := Int.emod_add_mul_ediv x m
 have h3 := Int.mul_nonneg (show 0 ≤ m by omega) h1
 omega
theorem mod_bd (x m : Int) (h : 0 < m) : 0 ≤ x % m ∧ x % m ≤ m - 1 := ⟨Int.emod_nonneg _ (by omega), by have := Int.emod_lt_of_pos x h; omega⟩
set_option maxHeartbeats 400000 in
theorem l1Byte_end (b : Nat) (a : Option Addr) (n c : Nat) (l : List UInt8) (w : World) (i : Nat) (h : Int) (hT : Three w b 144 (.slice a n c) (.int .i64 i) (.int .i64 h)) (hC : Hid (Cur w b (.slice a n c) l)) (hl : Hid (i ≤ l.length)) (hn : n ≤ 9223372036854775807) (hi : n ≤ i) (hi2 : i ≤ 9223372036854775807) :
  Calls Tryz.prog 138 #[.pointer (some ⟨b, 0, none⟩)] w fun e w' => DrawnInt (fun x => 0 ≤ x ∧ x ≤ 255) b (.slice a n c) l w e w' := by
 obtain ⟨c0, c1, c2⟩ := hT.cell
 have f2 := hT.free 2
 have HT := Lib.hid hT
 clear hT
 go_enter Tryz.func138, Tryz.ntmps138
 go_wp2
 generalize wrap64 (wrap64 (h * 6364136223846793005) + 1442695040888963407) = h'
 go_quiet (fail)
 go_wp2
 go_quiet (fail)
 go_wp2
 go_ret
 have hg := grown_set (grown_refl w (some b)) 2 (.int .i64 h')
 have hg2 := hC.out.kept (HT.out.set2 (.int .i64 h')) hl.out hg
 refine ⟨_, rfl, ?_, grown_drewN (grown_drewN hg _) _, hg2⟩
 rw [and255]; have := mod_bd (bits BinOp.xor IntKind.i64 (h' / 34359738368) (h' / 35184372088832)) 256 (by omega); omega
set_option maxHeartbeats 400000 in
theorem l1Byte_in (b cb o : Nat) (n c : Nat) (l : List UInt8) (i : Nat) (h x0 : Int) (w : World) (hT : Three w b 144 (.slice (some ⟨cb, o, none⟩) n c) (.int .i64 i) (.int .i64 h)) (hC : Hid (Cur w b (.slice (some ⟨cb, o, none⟩) n c) l)) (hl : Hid (i + 1 ≤ l.length))
  (hn : n ≤ 9223372036854775807) (hi : i < n) (hcb : cb ≠ b) (cc : w.cell? ⟨cb, o + i, none⟩ = some (.int .u8 x0)) (hx0 : 0 ≤ x0) (hx1 : x0 ≤ 255) :
  Calls Tryz.prog 138 #[.pointer (some ⟨b, 0, none⟩)] w fun e w' => DrawnInt (fun x => 0 ≤ x ∧ x ≤ 255) b (.slice (some ⟨cb, o, none⟩) n c) l w e w' := by
 obtain ⟨c0, c1, c2⟩ := hT.cell
 have f1 := hT.free 1
 have f2 := hT.free 2
 have HT := Lib.hid hT
 clear hT
 go_enter Tryz.func138, Tryz.ntmps138
 go_wp2
 generalize wrap64 (wrap64 (h * 6364136223846793005) + 1442695040888963407) = h'
 go_quiet (fail)
 go_wp2
 go_quiet (fail)
 go_wp2
 go_quiet (fail)
 go_wp2
 go_ret
 have hg := grown_set (grown_set (grown_refl w (some b)) 2 (.int .i64 h')) 1 (.int .i64 (i + 1 : Nat))
 have hg2 := hC.out.kept ((HT.out.set2 (.int .i64 h')).set1 (.int .i64 (i + 1 : Nat))) hl.out hg
 rw [show ((i : Int) + 1) = ((i + 1 : Nat) : Int) from rfl]
 refine ⟨_, rfl, ?_, ?_, ?_⟩
 ·rw [and255]
  generalize wrap64 _ = y
  have := mod_bd y 256 (by omega)
  omega
 ·exact ⟨hg.os, hg.tape, hg.output, hg.size, hg.block⟩
 ·exact hg2
theorem l1Byte_any (b : Nat) (v : Value) (l : List UInt8) (w : World) (hC : Cur w b v l) :
  Calls Tryz.prog 138 #[.pointer (some ⟨b, 0, none⟩)] w fun e w' => DrawnInt (fun x => 0 ≤ x ∧ x ≤ 255) b v l w e w' := by
 have hC0 := hC
 obtain ⟨i, h, hT, hi, hl, a, c, rfl, hr⟩ := hC
 unfold maxLen at hl
 by_cases hlt : i < l.length
 ·rcases hr with rfl | ⟨cb, o, rfl, hcb, hc⟩
  ·simp at hlt
  ·have hcc := hc i hlt
   have : (Lib.byteCells l)[i]? = some (.int .u8 ((l[i]'hlt).toNat : Int)) := by
    simp only [Lib.byteCells, List.getElem?_map, List.getElem?_eq_getElem hlt, Option.map_some]
   rw [this] at hcc
   have hu := (l[i]'hlt).toNat_lt
   exact l1Byte_in b cb o l.length c l i h _ w hT (Lib.hid hC0) (Lib.hid hlt) (by omega) hlt (by omega) hcc (by omega) (by omega)
 ·exact l1Byte_end b a l.length c l w i h hT (Lib.hid hC0) (Lib.hid hi) (by omega) (by omega) (by omega)
def NewCur (v : Value) (l : List UInt8) (w : World) (e : Ending) (w' : World) : Prop := ∃ b : Nat, e = .returned (.pointer (some ⟨b, 0, none⟩)) ∧ w.heap.size ≤ b ∧ Below w.heap.size w w' ∧ Cur w' b v l
theorem three_new (w : World) (x y z : Value) (t : TypeId) : Three (w.alloc (.cells #[x, y, z] t)) w.heap.size t x y z := by
 unfold Three; exact heap_alloc_new w _
theorem byteCells_get (l : List UInt8) (i : Nat) (h : i < l.length) : (Lib.byteCells l)[i]? = some (.int .u8 ((l[i]'h).toNat : Int)) := by
 simp only [Lib.byteCells, List.getElem?_map, List.getElem?_eq_getElem h, Option.map_some]
theorem new_cur (w : World) (a : Option Addr) (l : List UInt8) (c : Nat) (x : Int) (hl : l.length ≤ maxLen) (hr : l = [] ∨ ∃ cb o, a = some ⟨cb, o, none⟩ ∧ cb < w.heap.size ∧ ∀ j, j < l.length → w.cell? ⟨cb, o + j, none⟩ = (Lib.byteCells l)[j]?) :
  Cur (w.alloc (.cells #[.slice a l.length c, .int .i64 0, .int .i64 x] 144)) w.heap.size (.slice a l.length c) l := by
 refine ⟨0, x, three_new w _ _ _ _, Nat.zero_le _, hl, a, c, rfl, hr.imp id ?_⟩
 rintro ⟨cb, o, rfl, hlt, hc⟩
 exact ⟨cb, o, rfl, hlt, fun j hj => (World.cell?_of_block (a := ⟨cb, o + j, none⟩) (Below.heap_alloc w _ cb hlt)).trans (hc j hj)⟩
set_option maxRecDepth 100000 in
set_option maxHeartbeats 400000 in
theorem l1New_any (v : Value) (l : List UInt8) (w : World) (hR : RowAt w v (Lib.byteCells l)) :
  Calls Tryz.prog 82 #[v] w fun e w' => NewCur v l w e w' := by
 obtain ⟨a, c, rfl, hl, hr⟩ := hR
 generalize (Lib.byteCells l).length + c = c at *
 rw [Lib.byteCells_length] at *
 have hr' : l = [] ∨ ∃ cb o, a = some ⟨cb, o, none⟩ ∧ cb < w.heap.size ∧ ∀ j, j < l.length → w.cell? ⟨cb, o + j, none⟩ = (Lib.byteCells l)[j]? := by
  rcases hr with h | h
  ·left; cases l with | nil => rfl | cons x r => simp [Lib.byteCells] at h
  ·exact Or.inr h
 have HR := Lib.hid hr'
 clear hr hr'
 unfold maxLen at hl
 go_enter Tryz.func82, Tryz.ntmps82
 go_wp2
 go_loop [3, 4] (fun h i => ∃ k : Nat, k ≤ l.length ∧ i = .int .i64 k ∧ ∃ x : Int, h = .int .i64 x) (fun _ i => l.length - (intOf i).toNat)
 case atStart => exact ⟨0, Nat.zero_le _, rfl, _, rfl⟩
 case round =>
  obtain ⟨k, hk, rfl, x, rfl⟩ := hrel
  by_cases hlt : k < l.length
  ·by_cases h4 : k < 4000
   ·rcases HR.out with h | ⟨cb, o, rfl, hcb, hc⟩
    ·subst h; simp at hlt
    ·have hcc := hc k hlt
     rw [byteCells_get l k hlt] at hcc
     have hu := (l[k]'hlt).toNat_lt
     clear hc
     go_wp2
     go_round
     case rel => exact ⟨k + 1, by omega, by go_num, _, rfl⟩
     case measure => simp [intOf]; omega
   ·go_wp2
    go_ret
    exact ⟨_, rfl, Nat.le_refl _, (Below.refl _ _).alloc (Nat.le_refl _) _, new_cur w a l c x hl HR.out⟩
  ·go_wp2
   go_ret
   exact ⟨_, rfl, Nat.le_refl _, (Below.refl _ _).alloc (Nat.le_refl _) _, new_cur w a l c x hl HR.out⟩
set_option maxHeartbeats 400000 in
theorem l1Below_any (b : Nat) (v : Value) (l : List UInt8) (n : Int) (w : World) (hC : Cur w b v l) (h0 : -9223372036854775808 ≤ n) (h1 : n ≤ 9223372036854775807) :
  Calls Tryz.prog 101 #[.pointer (some ⟨b, 0, none⟩), .int .i64 n] w fun e w' => DrawnInt (fun x => 0 ≤ x ∧ x ≤ 16777215 ∧ (0 < n → x < n)) b v l w e w' := by
 have HC := Lib.hid hC
 clear hC
 by_cases hn : n ≤ 0
 ·go_enter Tryz.func101, Tryz.ntmps101
  go_wp2
  go_ret
  exact ⟨_, rfl, ⟨by omega, by omega, by omega⟩, grown_refl _ _, HC.out⟩
 ·by_cases h2 : n ≤ 256
  ·go_enter Tryz.func101, Tryz.ntmps101
   go_wp2_with (go_at_call 138; refine (l1Byte_any b v l _ HC.out).mono ?_; rintro e w1 ⟨x, rfl, ⟨hx0, hx1⟩, hg1, hC1⟩)
   go_ret
   have := mod_bd x n (by omega)
   exact ⟨_, rfl, ⟨by omega, by omega, by omega⟩, hg1, hC1⟩
  ·go_enter Tryz.func101, Tryz.ntmps101
   go_wp2_with fail
   refine (l1Byte_any b v l _ HC.out).mono ?_
   rintro e w1 ⟨x, rfl, ⟨hx0, hx1⟩, hg1, hC1⟩
   have HC1 := Lib.hid hC1
   have HG1 := Lib.hid hg1
   clear hC1 hg1
   go_wp2_with fail
   refine (l1Byte_any b v l _ HC1.out).mono ?_
   rintro e w2 ⟨y, rfl, ⟨hy0, hy1⟩, hg2, hC2⟩
   have HC2 := Lib.hid hC2
   have HG2 := Lib.hid hg2
   clear hC2 hg2
   go_wp2_with fail
   refine (l1Byte_any b v l _ HC2.out).mono ?_
   rintro e w3 ⟨z, rfl, ⟨hz0, hz1⟩, hg3, hC3⟩
   have HC3 := Lib.hid hC3
   have HG3 := Lib.hid hg3
   clear hC3 hg3
   go_wp2_with fail
   go_ret
   have hm := mod_bd (x * 65536 + y * 256 + z) n (by omega)
   have hle : (x * 65536 + y * 256 + z) % n ≤ x * 65536 + y * 256 + z := mod_le _ _ (by omega) (by omega)
   exact ⟨_, rfl, ⟨by omega, by omega, by omega⟩, grown_trans (grown_trans HG1.out HG2.out) HG3.out, HC3.out⟩
set_option maxHeartbeats 400000 in
theorem l1Once_any (b : Nat) (v : Value) (l : List UInt8) (n : Int) (w : World) (hC : Cur w b v l) (h0 : -9223372036854775808 ≤ n) (h1 : n ≤ 9223372036854775807) :
  Calls Tryz.prog 144 #[.pointer (some ⟨b, 0, none⟩), .int .i64 n] w fun e w' => DrawnBool b v l w e w' := by
 have HW := Lib.hid (l1Below_any b v l n w hC h0 h1)
 clear hC h0 h1
 go_enter Tryz.func144, Tryz.ntmps144
 go_wp2_with (go_at_call 101; refine (HW.out).mono ?_; rintro e w1 ⟨x, rfl, ⟨hx0, hx1, hx2⟩, hg1, hC1⟩)
 go_ret
 exact ⟨_, rfl, hg1, hC1⟩
def RowOff (b : Nat) (w : World) (v : Value) (xs : List Value) : Prop :=
 ∃ lb o c, v = .slice (some ⟨lb, o, none⟩) xs.length c ∧ lb ≠ b ∧ lb < w.heap.size ∧ 0 < xs.length ∧ xs.length ≤ maxLen ∧ ∀ j, j < xs.length → w.cell? ⟨lb, o + j, none⟩ = xs[j]?
theorem rowOff_new (w : World) (b : Nat) (hb : b < w.heap.size) (t : TypeId) (xs : List Value) (cs : Array Value) (n : Nat) (hcs : cs = xs.toArray) (hn : n = xs.length) (h0 : 0 < xs.length) (hm : xs.length ≤ maxLen) (c : Nat) : RowOff b (w.alloc (.cells cs t)) (.slice (some ⟨w.heap.size, 0, none⟩) n c) xs := by
 subst hcs; subst hn
 refine ⟨w.heap.size, 0, c, rfl, by omega, by simp, h0, hm, fun j _ => ?_⟩
 rw [cell_of_row _ _ _ _ t (0, 0) (heap_alloc_new w _)]
 simp
def DrawnStr (Q : ByteArray → Prop) (b : Nat) (v : Value) (l : List UInt8) (w : World) (e : Ending) (w' : World) : Prop := ∃ x : ByteArray, e = .returned (.string x) ∧ Q x ∧ w.grownBy w' (some b) ∧ Cur w' b v l
set_option maxHeartbeats 400000 in
theorem l1Int_any (b : Nat) (v : Value) (l : List UInt8) (lv : Value) (zs : List Int) (w : World) (hC : Cur w b v l) (hR : RowOff b w lv (zs.map (Value.int .i64))) :
  Calls Tryz.prog 160 #[.pointer (some ⟨b, 0, none⟩), lv] w fun e w' => DrawnInt (fun x => x ∈ zs) b v l w e w' := by
 obtain ⟨lb, o, c, rfl, hne, hlt, hpos, hm, hc⟩ := hR
 rw [List.length_map] at *
 unfold maxLen at hm
 have HC := Lib.hid hC
 have HR := Lib.hid hc
 clear hC hc
 go_enter Tryz.func160, Tryz.ntmps160
 go_wp2_with fail
 refine (l1Below_any b v l _ _ HC.out (by omega) (by omega)).mono ?_
 rintro e w1 ⟨x, rfl, ⟨hx0, hx1, hx2⟩, hg1, hC1⟩
 obtain ⟨k, rfl⟩ := Int.eq_ofNat_of_zero_le hx0
 have hk : k < zs.length := by have := hx2 (by omega); omega
 have hcell : w1.cell? ⟨lb, o + k, none⟩ = some (.int .i64 (zs[k]'hk)) := by
  rw [World.cell?_of_block (a := ⟨lb, o + k, none⟩) (hg1.block lb hlt (fun e => hne (by injection e)))]
  rw [HR.out k hk]; simp [List.getElem?_eq_getElem hk]
 have HG := Lib.hid hg1
 have HC1 := Lib.hid hC1
 clear hg1 hC1 hx2
 go_wp2_with fail
 go_ret
 exact ⟨_, rfl, List.getElem_mem hk, HG.out, HC1.out⟩
set_option maxHeartbeats 400000 in
theorem l1Str_any (b : Nat) (v : Value) (l : List UInt8) (lv : Value) (zs : List ByteArray) (w : World) (hC : Cur w b v l) (hR : RowOff b w lv (zs.map Value.string)) :
  Calls Tryz.prog 158 #[.pointer (some ⟨b, 0, none⟩), lv] w fun e w' => DrawnStr (fun x => x ∈ zs) b v l w e w' := by
 obtain ⟨lb, o, c, rfl, hne, hlt, hpos, hm, hc⟩ := hR
 rw [List.length_map] at *
 unfold maxLen at hm
 have HC := Lib.hid hC
 have HR := Lib.hid hc
 clear hC hc
 go_enter Tryz.func158, Tryz.ntmps158
 go_wp2_with fail
 refine (l1Below_any b v l _ _ HC.out (by omega) (by omega)).mono ?_
 rintro e w1 ⟨x, rfl, ⟨hx0, hx1, hx2⟩, hg1, hC1⟩
 obtain ⟨k, rfl⟩ := Int.eq_ofNat_of_zero_le hx0
 have hk : k < zs.length := by have := hx2 (by omega); omega
 have hcell : w1.cell? ⟨lb, o + k, none⟩ = some (.string (zs[k]'hk)) := by
  rw [World.cell?_of_block (a := ⟨lb, o + k, none⟩) (hg1.block lb hlt (fun e => hne (by injection e)))]
  rw [HR.out k hk]; simp [List.getElem?_eq_getElem hk]
 have HG := Lib.hid hg1
 have HC1 := Lib.hid hC1
 clear hg1 hC1 hx2
 go_wp2_with fail
 go_ret
 exact ⟨_, rfl, List.getElem_mem hk, HG.out, HC1.out⟩
set_option maxHeartbeats 400000 in
theorem l1Odd_any (b : Nat) (v : Value) (l : List UInt8) (w : World) (hC : Cur w b v l) :
  Calls Tryz.prog 127 #[.pointer (some ⟨b, 0, none⟩)] w fun e w' => DrawnInt (fun x => -9223372036854775808 ≤ x ∧ x ≤ 9223372036854775807) b v l w e w' := by
 have HC := Lib.hid hC
 clear hC
 go_enter Tryz.func127, Tryz.ntmps127
 go_wp2_with fail
 refine (l1Int_any b v l _ [-1, 0, 1, 2, 3, 4, 5, 6, 7, 63, 64, 99, 100, 999, 1000, 9223372036854775807, -9223372036854775808] _ (cur_alloc HC.out _) (rowOff_new w b HC.out.lt _ _ _ _ rfl rfl (by decide) (by decide) _)).mono ?_
 rintro e w1 ⟨x, rfl, hx, hg1, hC1⟩
 have HG := Lib.hid (grown_trans (grown_alloc (grown_refl w (some b)) _) hg1)
 have HC1 := Lib.hid hC1
 have HX := Lib.hid hx
 clear hg1 hC1 hx
 go_wp2_with fail
 go_ret
 refine ⟨_, rfl, ?_, HG.out, HC1.out⟩
 have hx := HX.out
 simp only [List.mem_cons, List.not_mem_nil, or_false] at hx
 omega
def strLe (N : Nat) : Value → Bool
 | .string s => decide (s.size ≤ N)
 | _ => false
def strGet : Value → ByteArray
 | .string s => s
 | _ => ByteArray.empty
theorem strs_of (N : Nat) : ∀ xs : List Value, xs.all (strLe N) = true → xs = (xs.map strGet).map Value.string ∧ ∀ s ∈ xs.map strGet, s.size ≤ N
 | [], _ => ⟨rfl, by simp⟩
 | x :: r, h => by
  simp only [List.all_cons, Bool.and_eq_true] at h
  obtain ⟨h1, h2⟩ := strs_of N r h.2
  cases x <;> simp [strLe] at h
  rename_i s
  refine ⟨by simp only [List.map_cons, strGet]; rw [← h1], ?_⟩
  intro y hy
  simp only [List.map_cons, List.mem_cons, strGet] at hy
  rcases hy with rfl | hy
  ·exact h.1
  ·exact h2 y hy
theorem l1Str_new (b : Nat) (v : Value) (l : List UInt8) (w : World) (cs : Array Value) (t : TypeId) (n c N : Nat) (hC : Cur w b v l) (hn : n = cs.toList.length) (h0 : 0 < cs.toList.length) (hm : cs.toList.length ≤ 1000) (hall : cs.toList.all (strLe N) = true) :
  Calls Tryz.prog 158 #[.pointer (some ⟨b, 0, none⟩), .slice (some ⟨w.heap.size, 0, none⟩) n c] (w.alloc (.cells cs t)) fun e w' => DrawnStr (fun x => x.size ≤ N) b v l w e w' := by
 obtain ⟨h1, h2⟩ := strs_of N cs.toList hall
 have hR : RowOff b (w.alloc (.cells cs t)) (.slice (some ⟨w.heap.size, 0, none⟩) n c) ((cs.toList.map strGet).map Value.string) :=
  rowOff_new w b hC.lt t _ cs n (by rw [← h1]) (by rw [← h1]; exact hn) (by rw [← h1]; exact h0) (by rw [← h1]; unfold maxLen; omega) c
 refine (l1Str_any b v l _ _ _ (cur_alloc hC _) hR).mono ?_
 rintro e w1 ⟨x, rfl, hx, hg1, hC1⟩
 exact ⟨x, rfl, h2 x hx, grown_trans (grown_alloc (grown_refl w (some b)) _) hg1, hC1⟩
set_option maxHeartbeats 400000 in
theorem l1Word_any (b : Nat) (v : Value) (l : List UInt8) (w : World) (hC : Cur w b v l) :
  Calls Tryz.prog 159 #[.pointer (some ⟨b, 0, none⟩)] w fun e w' => DrawnStr (fun x => x.size ≤ 9) b v l w e w' := by
 have HC := Lib.hid hC
 clear hC
 go_enter Tryz.func159, Tryz.ntmps159
 go_wp2_with fail
 refine (l1Str_new b v l w _ _ _ _ 9 HC.out (by rfl) (by decide) (by decide) (by decide)).mono ?_
 rintro e w1 ⟨x, rfl, hx, hg1, hC1⟩
 have HG := Lib.hid hg1
 have HC1 := Lib.hid hC1
 clear hg1 hC1
 go_wp2_with fail
 go_ret
 exact ⟨_, rfl, hx, HG.out, HC1.out⟩
set_option maxHeartbeats 400000 in
theorem big_any (v : Value) (l : List UInt8) (w : World) (hR : RowAt w v (Lib.byteCells l)) :
  Calls Tryz.prog 41 #[v] w fun e w' => e = .returned (.bool (decide (4096 < l.length))) ∧ w = w' := by
 obtain ⟨a, c, rfl, hl, _⟩ := hR
 generalize (Lib.byteCells l).length + c = c at *
 rw [Lib.byteCells_length] at *
 unfold maxLen at hl
 go_enter Tryz.func41, Tryz.ntmps41
 go_wp2
 go_ret
 exact ⟨congrArg (fun b => Ending.returned (.bool b)) (by simp; try omega), rfl⟩
def isF (f : Int) : Bool := decide (0 ≤ f ∧ f ≤ 63)
def hasI (f : Int) (k : Nat) : Bool := decide (f / 2 ^ k % 2 = 1)
def madeK (p : Nat → Bool) : Nat → Int
 | 0 => 0
 | k + 1 => madeK p k + if p k then 2 ^ k else 0
def lackP (want f : Int) (k : Nat) : Bool := hasI want k && !hasI f k
def lackF (f want : Int) : Int := if isF f = true ∧ isF want = true then madeK (lackP want f) 6 else 0
def offersF (f want : Int) : Bool := isF f && isF want && (lackF f want == 0)
def findK (p : Nat → Bool) : Nat → Nat → Int
 | _, 0 => -1
 | k, n + 1 => if p k then k else findK p (k + 1) n
theorem findK_yes {p : Nat → Bool} {k n : Nat} (hk : k < n) (h : p k = true) : findK p k (n - k) = k := by
 obtain ⟨m, rfl⟩ : ∃ m, n = k + (m + 1) := ⟨n - k - 1, by omega⟩
 rw [show k + (m + 1) - k = m + 1 by omega, findK, if_pos h]
theorem findK_no {p : Nat → Bool} {k n : Nat} (hk : k < n) (h : p k = false) : findK p k (n - k) = findK p (k + 1) (n - (k + 1)) := by
 obtain ⟨m, rfl⟩ : ∃ m, n = k + (m + 1) := ⟨n - k - 1, by omega⟩
 rw [show k + (m + 1) - k = m + 1 by omega, findK, if_neg (by simp [h]), show k + (m + 1) - (k + 1) = m by omega]
theorem findK_end {p : Nat → Bool} {n : Nat} : findK p n (n - n) = -1 := by rw [Nat.sub_self]; rfl
theorem isF_yes {f : Int} (h : isF f = true) : 0 ≤ f ∧ f ≤ 63 := of_decide_eq_true h
theorem isF_fin {f : Int} (h : isF f = true) : ∃ F : Fin 64, f = ((F : Nat) : Int) := by
 have := isF_yes h
 exact ⟨⟨f.toNat, by omega⟩, by simp; omega⟩
theorem andNot_fin : ∀ a b : Fin 64, bits .andNot .i64 ((a : Nat) : Int) ((b : Nat) : Int) = madeK (lackP (a : Nat) (b : Nat)) 6 := by decide +kernel
theorem andNot_eq {a b : Int} (ha : isF a = true) (hb : isF b = true) : bits .andNot .i64 a b = madeK (lackP a b) 6 := by
 obtain ⟨A, rfl⟩ := isF_fin ha; obtain ⟨B, rfl⟩ := isF_fin hb; exact andNot_fin A B
theorem madeK_bd (p : Nat → Bool) : ∀ k, 0 ≤ madeK p k ∧ madeK p k < 2 ^ k := by
 intro k
 induction k with
 | zero => simp [madeK]
 | succ k ih =>
  have h : (2 : Int) ^ (k + 1) = 2 ^ k + 2 ^ k := by rw [Int.pow_succ]; omega
  have h0 : (0 : Int) < 2 ^ k := Int.pow_pos (by decide)
  simp only [madeK]; rw [h]
  generalize (2 : Int) ^ k = q at *
  split <;> omega
theorem madeK_zero (p : Nat → Bool) : ∀ k, madeK p k = 0 ↔ ∀ j, j < k → p j = false := by
 intro k
 induction k with
 | zero => simp [madeK]
 | succ k ih =>
  have h0 : (0 : Int) < 2 ^ k := Int.pow_pos (by decide)
  have hb := madeK_bd p k
  simp only [madeK]
  constructor
  ·intro h j hj
   have hk : p k = false := by cases hp : p k with
    | false => rfl
    | true => rw [hp, if_pos rfl] at h; omega
   rcases Nat.lt_or_ge j k with hjk | hjk
   ·refine ih.1 ?_ j hjk; rw [hk] at h; simpa using h
   ·have : j = k := by omega
    subst this; exact hk
  ·intro h
   rw [h k (by omega), ih.2 fun j hj => h j (by omega)]; simp
def mthN : Nat → List (List UInt8)
 | 0 => [[83, 116, 97, 114, 116], [83, 116, 111, 112]]
 | 1 => [[71, 101, 116], [80, 117, 116]]
 | 2 => [[84, 101, 108, 108]]
 | 3 => [[72, 101, 97, 114]]
 | 4 => [[76, 111, 97, 100], [83, 97, 118, 101]]
 | 5 => [[72, 101, 97, 108]]
 | _ => []
theorem mthN_len (k : Nat) : (mthN k).length ≤ 2 := by unfold mthN; split <;> simp
def abOfM (s : List UInt8) : Int := findK (fun k => decide (s ∈ mthN k)) 0 6
def isLet (c : Int) : Bool := decide (97 ≤ c ∧ c ≤ 122)
def isDig (c : Int) : Bool := decide (48 ≤ c ∧ c ≤ 57)
def isLetB (c : Int) (first : Bool) : Bool := isLet c || (!first && isDig c)
theorem ret_bool {a b : Bool} (h : a = b) : Ending.returned (.bool a) = .returned (.bool b) := by rw [h]
theorem ret_int {k : IntKind} {a b : Int} (h : a = b) : Ending.returned (.int k a) = .returned (.int k b) := by rw [h]
set_option maxHeartbeats 400000 in
theorem isLetter_any (c : Int) (w : World) :
  Calls Tryz.prog 132 #[.int .u8 c] w fun e w' => e = .returned (.bool (isLet c)) ∧ w = w' := by
 go_enter Tryz.func132, Tryz.ntmps132
 go_wp2
 all_goals
  go_ret
  exact ⟨ret_bool (by simp [isLet]; try omega), rfl⟩
set_option maxHeartbeats 400000 in
theorem isDigit_any (c : Int) (w : World) :
  Calls Tryz.prog 133 #[.int .u8 c] w fun e w' => e = .returned (.bool (isDig c)) ∧ w = w' := by
 go_enter Tryz.func133, Tryz.ntmps133
 go_wp2
 all_goals
  go_ret
  exact ⟨ret_bool (by simp [isDig]; try omega), rfl⟩
set_option maxHeartbeats 400000 in
theorem l1Letter_any (c : Int) (b : Bool) (w : World) :
  Calls Tryz.prog 147 #[.int .u8 c, .bool b] w fun e w' => e = .returned (.bool (isLetB c b)) ∧ w = w' := by
 cases b
 all_goals
  go_enter Tryz.func147, Tryz.ntmps147
  go_wp2
  all_goals
   go_ret
   exact ⟨ret_bool (by rw [Bool.eq_iff_iff]; simp [isLetB, isLet, isDig]; try omega), rfl⟩
def nmB (l : List UInt8) : Bool := l.all fun c => isLet c.toNat || isDig c.toNat
theorem nmB_snoc (l : List UInt8) (c : UInt8) : nmB (l ++ [c]) = (nmB l && (isLet c.toNat || isDig c.toNat)) := by simp [nmB]
theorem take_snoc (s : ByteArray) (k : Nat) (h : k < s.size) : s.data.toList.take (k + 1) = s.data.toList.take k ++ [s[k]] := by
 rw [List.take_succ_eq_append_getElem (by simpa using h)]; rfl
def nameB (l : List UInt8) : Bool := decide (0 < l.length) && decide (l.length ≤ 8) && isLet (l.getD 0 0).toNat && nmB l
theorem getD_get (s : ByteArray) (k : Nat) (h : k < s.size) : s.data.toList.getD k 0 = s[k] := by
 simp only [List.getD_eq_getElem?_getD]
 rw [List.getElem?_eq_getElem (by simpa using h)]; rfl
theorem nameB_false_at (s : ByteArray) (k : Nat) (h : k < s.size) (hb : isLetB (s[k]).toNat ((k : Int) == 0) = false) : nameB s.data.toList = false := by
 rw [← getD_get s k h] at hb
 by_cases h0 : k = 0
 ·subst h0
  have hb1 : isLet (s.data.toList.getD 0 0).toNat = false := by simpa [isLetB] using hb
  unfold nameB; rw [hb1]; simp
 ·have hk : ((k : Int) == 0) = false := by simpa using h0
  rw [hk] at hb
  have : nmB s.data.toList = false := by
   unfold nmB; rw [List.all_eq_false]
   refine ⟨s.data.toList.getD k 0, ?_, ?_⟩
   ·simp only [List.getD_eq_getElem?_getD]
    rw [List.getElem?_eq_getElem (by simpa using h)]; simp
   ·simpa [isLetB] using hb
  unfold nameB; rw [this]; simp
theorem nmB_next (s : ByteArray) (k : Nat) (h : k < s.size) (b : Bool) (hn : nmB (s.data.toList.take k) = true) (hb : isLetB (s[k]).toNat b = true) : nmB (s.data.toList.take (k + 1)) = true := by
 rw [take_snoc s k h, nmB_snoc, hn]; revert hb; cases b <;> simp [isLetB]; intro h; exact Or.inl h
theorem name_first (s : ByteArray) (k : Nat) (h : k < s.size) (hf : 0 < k → isLet (s.data.toList.getD 0 0).toNat = true) (hb : isLetB (s[k]).toNat ((k : Int) == 0) = true) : isLet (s.data.toList.getD 0 0).toNat = true := by
 by_cases h0 : k = 0
 ·subst h0; rw [getD_get s 0 h]; simpa [isLetB] using hb
 ·exact hf (by omega)
theorem size_list (s : ByteArray) : s.data.toList.length = s.size := Array.length_toList
theorem nameB_end (s : ByteArray) (k : Nat) (hk : k ≤ s.size) (hlt : ¬ k < s.size) (hn : nmB (s.data.toList.take k) = true) (hf : 0 < k → isLet (s.data.toList.getD 0 0).toNat = true) :
  nameB s.data.toList = (decide (0 < s.size) && decide (s.size ≤ 8)) := by
 have e : k = s.size := by omega
 subst e
 rw [List.take_of_length_le (by rw [size_list]; omega)] at hn
 unfold nameB; rw [hn, size_list]
 by_cases h0 : 0 < s.size
 ·rw [hf h0]; simp
 ·simp [h0]
set_option maxHeartbeats 400000 in
theorem specIsName_any (s : ByteArray) (w : World) (hs : s.size ≤ maxLen) :
  Calls Tryz.prog 111 #[.string s] w fun e w' => e = .returned (.bool (nameB s.data.toList)) ∧ w = w' := by
 unfold maxLen at hs
 go_enter Tryz.func111, Tryz.ntmps111
 go_wp2
 go_loop [3] (fun i => ∃ k : Nat, k ≤ s.size ∧ i = .int .i64 k ∧ nmB (s.data.toList.take k) = true ∧ (0 < k → isLet (s.data.toList.getD 0 0).toNat = true)) (fun i => s.size - (intOf i).toNat)
 case atStart => exact ⟨0, Nat.zero_le _, rfl, rfl, by simp⟩
 case round =>
  obtain ⟨k, hk, rfl, hn, hf⟩ := hrel
  have HN := Lib.hid hn
  have HF := Lib.hid hf
  clear hn hf
  by_cases hlt : k < s.size
  ·by_cases hb : isLetB (s[k]).toNat ((k : Int) == 0) = true
   ·have hb' := hb
    go_wp2_with (go_at_call 147; refine (l1Letter_any _ _ _).mono ?_; rintro e w' ⟨rfl, rfl⟩)
    go_round
    case rel => exact ⟨k + 1, by omega, by go_num, nmB_next s k hlt _ HN.out hb', fun _ => name_first s k hlt HF.out hb'⟩
    case measure => simp [intOf]; omega
   ·have hb' : isLetB (s[k]).toNat ((k : Int) == 0) = false := by simpa using hb
    clear hb
    go_wp2_with (go_at_call 147; refine (l1Letter_any _ _ _).mono ?_; rintro e w' ⟨rfl, rfl⟩)
    go_ret
    exact ⟨ret_bool (nameB_false_at s k hlt hb').symm, rfl⟩
  ·have hend := Lib.hid (nameB_end s k hk hlt HN.out HF.out)
   by_cases h0 : 0 < s.size
   all_goals
    go_wp2
    go_ret
    exact ⟨ret_bool (by rw [hend.out]; simp [h0]; try omega), rfl⟩
theorem nameB_len (s : ByteArray) (h : s.size = 0 ∨ 8 < s.size) : nameB s.data.toList = false := by
 unfold nameB; rw [size_list]
 rcases h with h | h
 ·simp [h]
 ·simp [show ¬ s.size ≤ 8 from by omega]
theorem nameB_first (s : ByteArray) (h : 0 < s.size) (hb : isLet (s[0]).toNat = false) : nameB s.data.toList = false := by
 rw [← getD_get s 0 h] at hb
 unfold nameB; rw [hb]; simp
theorem nameB_bad (s : ByteArray) (k : Nat) (h : k < s.size) (hb : (isLet (s[k]).toNat || isDig (s[k]).toNat) = false) : nameB s.data.toList = false := by
 apply nameB_false_at s k h
 rw [Bool.or_eq_false_iff] at hb
 simp [isLetB, hb.1, hb.2]
set_option maxHeartbeats 400000 in
theorem implIsName_any (s : ByteArray) (w : World) (hs : s.size ≤ maxLen) :
  Calls Tryz.prog 90 #[.string s] w fun e w' => e = .returned (.bool (nameB s.data.toList)) ∧ w = w' := by
 by_cases h0 : s.size = 0
 ·have hl := Lib.hid (nameB_len s (Or.inl h0))
  have hE : s.toList = [] := by rw [Lib.toList_data]; exact List.eq_nil_of_length_eq_zero (by rw [size_list]; exact h0)
  go_enter Tryz.func90, Tryz.ntmps90
  go_wp2
  go_ret
  exact ⟨ret_bool (by rw [hl.out]), rfl⟩
 ·have hE : ¬ s.toList = [] := by rw [Lib.toList_data]; intro h; apply h0; rw [← size_list, h]; rfl
  have hE2 : s.toList.isEmpty = false := by simpa using hE
  clear hE
  have hpos : 0 < s.size := by omega
  unfold maxLen at hs
  by_cases h8 : 8 < s.size
  ·have hl := Lib.hid (nameB_len s (Or.inr h8))
   clear h0
   go_enter Tryz.func90, Tryz.ntmps90
   go_wp2
   go_ret
   exact ⟨ret_bool (by rw [hl.out]), rfl⟩
  ·clear h0
   by_cases hb : isLet (s[0]).toNat = true
   ·have hb' := Lib.hid hb
    go_enter Tryz.func90, Tryz.ntmps90
    go_wp2_with (go_at_call 132; refine (isLetter_any _ _).mono ?_; rintro e w' ⟨rfl, rfl⟩)
    clear hb
    go_loop [3, 19] (fun _ i => ∃ k : Nat, k ≤ s.size ∧ i = .int .i64 k ∧ nmB (s.data.toList.take k) = true) (fun _ i => s.size - (intOf i).toNat)
    case atStart => exact ⟨0, Nat.zero_le _, rfl, rfl⟩
    case round =>
     obtain ⟨k, hk, rfl, hn⟩ := hrel
     have HN := Lib.hid hn
     clear hn
     by_cases hlt : k < s.size
     ·by_cases hc : isLet (s[k]).toNat = true
      ·go_wp2_with (go_at_call 132; refine (isLetter_any _ _).mono ?_; rintro e w' ⟨rfl, rfl⟩)
       go_round
       case rel => exact ⟨k + 1, by omega, by go_num, nmB_next s k hlt false HN.out (by simp [isLetB, hc])⟩
       case measure => simp [intOf]; omega
      ·have hc' : isLet (s[k]).toNat = false := by simpa using hc
       clear hc
       by_cases hd : isDig (s[k]).toNat = true
       ·go_wp2_with (first | (go_at_call 132; refine (isLetter_any _ _).mono ?_; rintro e w' ⟨rfl, rfl⟩) | (go_at_call 133; refine (isDigit_any _ _).mono ?_; rintro e w' ⟨rfl, rfl⟩))
        go_round
        case rel => exact ⟨k + 1, by omega, by go_num, nmB_next s k hlt false HN.out (by simp [isLetB, hd])⟩
        case measure => simp [intOf]; omega
       ·have hd' : isDig (s[k]).toNat = false := by simpa using hd
        have hl := Lib.hid (nameB_bad s k hlt (by rw [hc', hd']; rfl))
        clear hd
        go_wp2_with (first | (go_at_call 132; refine (isLetter_any _ _).mono ?_; rintro e w' ⟨rfl, rfl⟩) | (go_at_call 133; refine (isDigit_any _ _).mono ?_; rintro e w' ⟨rfl, rfl⟩))
        go_ret
        exact ⟨ret_bool (by rw [hl.out]), rfl⟩
     ·have hend := Lib.hid (nameB_end s k hk hlt HN.out (fun _ => by rw [getD_get s 0 hpos]; exact hb'.out))
      go_wp2
      go_ret
      exact ⟨ret_bool (by rw [hend.out]; simp; omega), rfl⟩
   ·have hb' : isLet (s[0]).toNat = false := by simpa using hb
    have hl := Lib.hid (nameB_first s hpos hb')
    clear hb
    go_enter Tryz.func90, Tryz.ntmps90
    go_wp2_with (go_at_call 132; refine (isLetter_any _ _).mono ?_; rintro e w' ⟨rfl, rfl⟩)
    go_ret
    exact ⟨ret_bool (by rw [hl.out]), rfl⟩
set_option maxHeartbeats 400000 in
theorem specIsFace_any (f : Int) (w : World) :
  Calls Tryz.prog 112 #[.int .i64 f] w fun e w' => e = .returned (.bool (isF f)) ∧ w = w' := by
 by_cases h0 : f < 0
 ·go_enter Tryz.func112, Tryz.ntmps112
  go_wp2
  go_ret
  exact ⟨ret_bool (by simp [isF]; omega), rfl⟩
 ·go_enter Tryz.func112, Tryz.ntmps112
  go_wp2
  go_ret
  exact ⟨ret_bool (by simp [isF]; omega), rfl⟩
theorem specIsFace_b (f : Int) (x : Bool) (h : isF f = x) (w : World) :
  Calls Tryz.prog 112 #[.int .i64 f] w fun e w' => e = .returned (.bool x) ∧ w = w' := by
 subst h; exact specIsFace_any f w
set_option maxHeartbeats 400000 in
theorem implIsFace_any (f : Int) (w : World) :
  Calls Tryz.prog 137 #[.int .i64 f] w fun e w' => e = .returned (.bool (isF f)) ∧ w = w' := by
 by_cases h0 : f < 0
 ·go_enter Tryz.func137, Tryz.ntmps137
  go_wp2
  go_ret
  exact ⟨ret_bool (by simp [isF]; omega), rfl⟩
 ·go_enter Tryz.func137, Tryz.ntmps137
  go_wp2
  go_ret
  exact ⟨ret_bool (by simp [isF]; omega), rfl⟩
theorem implIsFace_b (f : Int) (x : Bool) (h : isF f = x) (w : World) :
  Calls Tryz.prog 137 #[.int .i64 f] w fun e w' => e = .returned (.bool x) ∧ w = w' := by
 subst h; exact implIsFace_any f w
set_option maxHeartbeats 400000 in
theorem areFaces_b (a b : Int) (x y : Bool) (hx : isF a = x) (hy : isF b = y) (w : World) :
  Calls Tryz.prog 97 #[.int .i64 a, .int .i64 b] w fun e w' => e = .returned (.bool (x && y)) ∧ w = w' := by
 have HA := Lib.hid (implIsFace_b a x hx)
 have HB := Lib.hid (implIsFace_b b y hy)
 clear hx hy
 cases x <;> cases y
 all_goals
  go_enter Tryz.func97, Tryz.ntmps97
  go_wp2_with (first | (go_at_call 137; (with_reducible refine (HA.out _).mono ?_); rintro e w' ⟨rfl, rfl⟩) | (go_at_call 137; (with_reducible refine (HB.out _).mono ?_); rintro e w' ⟨rfl, rfl⟩))
  go_ret
  exact ⟨rfl, rfl⟩
set_option maxHeartbeats 400000 in
theorem l2Has_any (f : Int) (k : Nat) (w : World) (hf : isF f = true) (hk : k < 6) :
  Calls Tryz.prog 113 #[.int .i64 f, .int .i64 k] w fun e w' => e = .returned (.bool (hasI f k)) ∧ w = w' := by
 obtain ⟨h0, h1⟩ := isF_yes hf
 clear hf
 rcases (show k = 0 ∨ k = 1 ∨ k = 2 ∨ k = 3 ∨ k = 4 ∨ k = 5 by omega) with rfl | rfl | rfl | rfl | rfl | rfl
 all_goals
  clear hk
  go_enter Tryz.func113, Tryz.ntmps113
  go_wp2
  go_ret
  exact ⟨ret_bool (by rw [Bool.eq_iff_iff]; simp [hasI]), rfl⟩
theorem l2Has_b (f : Int) (k : Nat) (x : Bool) (h : hasI f k = x) (hf : isF f = true) (hk : k < 6) (w : World) :
  Calls Tryz.prog 113 #[.int .i64 f, .int .i64 k] w fun e w' => e = .returned (.bool x) ∧ w = w' := by
 subst h; exact l2Has_any f k w hf hk
theorem w64 {x : Int} (h0 : -9223372036854775808 ≤ x) (h1 : x ≤ 9223372036854775807) : wrap64 x = x := by unfold wrap64; omega
theorem pow_bd (k : Nat) (hk : k < 6) : (0 : Int) < 2 ^ k ∧ (2 : Int) ^ k ≤ 32 := by
 rcases (show k = 0 ∨ k = 1 ∨ k = 2 ∨ k = 3 ∨ k = 4 ∨ k = 5 by omega) with rfl | rfl | rfl | rfl | rfl | rfl <;> decide
theorem pow_of (k : Nat) (hk : k < 6) : wrap64 (2 ^ k) = 2 ^ k := by have := pow_bd k hk; exact w64 (by omega) (by omega)
theorem offersF_no {f want : Int} {k : Nat} (hk : k < 6) (hf : isF f = true) (hw : isF want = true) (h : lackP want f k = true) : offersF f want = false := by
 unfold offersF lackF
 rw [if_pos ⟨hf, hw⟩, hf, hw]
 have : madeK (lackP want f) 6 ≠ 0 := fun e => by have := (madeK_zero _ 6).1 e k hk; rw [h] at this; cases this
 simp [this]
theorem offersF_yes {f want : Int} (hf : isF f = true) (hw : isF want = true) (h : ∀ j, j < 6 → lackP want f j = false) : offersF f want = true := by
 unfold offersF lackF
 rw [if_pos ⟨hf, hw⟩, hf, hw, (madeK_zero _ 6).2 h]; rfl
theorem offersF_not {f want : Int} (h : isF f = false ∨ isF want = false) : offersF f want = false := by
 unfold offersF; rcases h with h | h <;> rw [h] <;> simp
theorem lackF_eq {a b : Int} (h : (isF a && isF b) = true) : bits .andNot .i64 b a = lackF a b := by
 rw [Bool.and_eq_true] at h; unfold lackF; rw [if_pos h, andNot_eq h.2 h.1]
theorem lackF_non {a b : Int} (h : (isF a && isF b) = false) : lackF a b = 0 := by
 unfold lackF; rw [if_neg]; rintro ⟨h1, h2⟩; rw [h1, h2] at h; cases h
theorem areFaces_x (a b : Int) (x : Bool) (h : (isF a && isF b) = x) (w : World) :
  Calls Tryz.prog 97 #[.int .i64 a, .int .i64 b] w fun e w' => e = .returned (.bool x) ∧ w = w' := by
 subst h; exact areFaces_b a b _ _ rfl rfl w
set_option maxHeartbeats 400000 in
theorem implLacking_any (a b : Int) (w : World) :
  Calls Tryz.prog 98 #[.int .i64 a, .int .i64 b] w fun e w' => e = .returned (.int .i64 (lackF a b)) ∧ w = w' := by
 cases h : (isF a && isF b) with
 | false =>
  have HF := Lib.hid (lackF_non h)
  have HA := Lib.hid (areFaces_x a b _ h)
  clear h
  go_enter Tryz.func98, Tryz.ntmps98
  go_wp2_with (go_at_call 97; (with_reducible refine (HA.out _).mono ?_); rintro e w' ⟨rfl, rfl⟩)
  go_ret
  exact ⟨ret_int HF.out.symm, rfl⟩
 | true =>
  have HF := Lib.hid (lackF_eq h)
  have HA := Lib.hid (areFaces_x a b _ h)
  clear h
  go_enter Tryz.func98, Tryz.ntmps98
  go_wp2_with (go_at_call 97; (with_reducible refine (HA.out _).mono ?_); rintro e w' ⟨rfl, rfl⟩)
  go_ret
  exact ⟨ret_int HF.out, rfl⟩
set_option maxHeartbeats 400000 in
theorem implOffers_any (f want : Int) (w : World) :
  Calls Tryz.prog 47 #[.int .i64 f, .int .i64 want] w fun e w' => e = .returned (.bool (offersF f want)) ∧ w = w' := by
 cases h : (isF f && isF want) with
 | false =>
  have HF := Lib.hid (show offersF f want = false by unfold offersF; rw [h]; rfl)
  have HA := Lib.hid (areFaces_x f want _ h)
  clear h
  go_enter Tryz.func47, Tryz.ntmps47
  go_wp2_with (go_at_call 97; (with_reducible refine (HA.out _).mono ?_); rintro e w' ⟨rfl, rfl⟩)
  go_ret
  exact ⟨ret_bool HF.out.symm, rfl⟩
 | true =>
  have HF := Lib.hid (show offersF f want = (lackF f want == 0) by unfold offersF; rw [h]; rfl)
  have HA := Lib.hid (areFaces_x f want _ h)
  have HL := Lib.hid (implLacking_any f want)
  clear h
  generalize lackF f want = z at *
  go_enter Tryz.func47, Tryz.ntmps47
  go_wp2_with (first | (go_at_call 97; (with_reducible refine (HA.out _).mono ?_); rintro e w' ⟨rfl, rfl⟩) | (go_at_call 98; (with_reducible refine (HL.out _).mono ?_); rintro e w' ⟨rfl, rfl⟩))
  go_ret
  exact ⟨ret_bool HF.out.symm, rfl⟩
set_option maxHeartbeats 800000 in
theorem specOffers_any (f want : Int) (w : World) :
  Calls Tryz.prog 61 #[.int .i64 f, .int .i64 want] w fun e w' => e = .returned (.bool (offersF f want)) ∧ w = w' := by
 cases ha : isF f with
 | false =>
  have HF := Lib.hid (offersF_not (f := f) (want := want) (Or.inl ha))
  have HA := Lib.hid (specIsFace_b f false ha)
  clear ha
  go_enter Tryz.func61, Tryz.ntmps61
  go_wp2_with (go_at_call 112; (with_reducible refine (HA.out _).mono ?_); rintro e w' ⟨rfl, rfl⟩)
  go_ret
  exact ⟨ret_bool HF.out.symm, rfl⟩
 | true =>
  cases hb : isF want with
  | false =>
   have HF := Lib.hid (offersF_not (f := f) (want := want) (Or.inr hb))
   have HA := Lib.hid (specIsFace_b f true ha)
   have HB := Lib.hid (specIsFace_b want false hb)
   clear ha hb
   go_enter Tryz.func61, Tryz.ntmps61
   go_wp2_with (first | (go_at_call 112; (with_reducible refine (HA.out _).mono ?_); rintro e w' ⟨rfl, rfl⟩) | (go_at_call 112; (with_reducible refine (HB.out _).mono ?_); rintro e w' ⟨rfl, rfl⟩))
   go_ret
   exact ⟨ret_bool HF.out.symm, rfl⟩
  | true =>
   have HA := Lib.hid (specIsFace_b f true ha)
   have HB := Lib.hid (specIsFace_b want true hb)
   have HA1 := Lib.hid ha
   have HB1 := Lib.hid hb
   clear ha hb
   go_enter Tryz.func61, Tryz.ntmps61
   go_wp2_with (first | (go_at_call 112; (with_reducible refine (HA.out _).mono ?_); rintro e w' ⟨rfl, rfl⟩) | (go_at_call 112; (with_reducible refine (HB.out _).mono ?_); rintro e w' ⟨rfl, rfl⟩))
   go_loop [5] (fun i => ∃ k : Nat, k ≤ 6 ∧ i = .int .i64 k ∧ ∀ j, j < k → lackP want f j = false) (fun i => 6 - (intOf i).toNat)
   case atStart => exact ⟨0, Nat.zero_le _, rfl, fun j hj => by omega⟩
   case round =>
    obtain ⟨k, hk, rfl, hall⟩ := hrel
    have HALL := Lib.hid hall
    clear hall
    by_cases hlt : k < 6
    ·cases hx : hasI want k <;> cases hy : hasI f k
     all_goals
      have HX := Lib.hid (l2Has_b want k _ hx HB1.out hlt)
      have HY := Lib.hid (l2Has_b f k _ hy HA1.out hlt)
      have HP := Lib.hid (show lackP want f k = _ by unfold lackP; rw [hx, hy])
      clear hx hy
      go_wp2_with (first | (go_at_call 113; (with_reducible refine (HX.out _).mono ?_); rintro e w' ⟨rfl, rfl⟩) | (go_at_call 113; (with_reducible refine (HY.out _).mono ?_); rintro e w' ⟨rfl, rfl⟩))
      first
       |(go_ret
         exact ⟨ret_bool (offersF_no hlt HA1.out HB1.out HP.out).symm, rfl⟩)
       |(go_round
         case rel =>
          refine ⟨k + 1, by omega, by go_num, fun j hj => ?_⟩
          rcases Nat.lt_or_ge j k with h | h
          ·exact HALL.out j h
          ·have : j = k := by omega
           subst this; exact HP.out
         case measure => simp [intOf]; omega)
    ·have : k = 6 := by omega
     subst this
     have HF := Lib.hid (offersF_yes HA1.out HB1.out HALL.out)
     go_wp2
     go_ret
     exact ⟨ret_bool HF.out.symm, rfl⟩
end Go.Proofs.YtcpbikilgacdlaaGreat
namespace Go.Proofs.YtcpbikilgacdlaaGreat
set_option linter.unusedVariables false
def digs : Nat → Nat → List UInt8
 | 0, _ => []
 | f + 1, n => if n < 10 then [UInt8.ofNat (48 + n)] else digs f (n / 10) ++ [UInt8.ofNat (48 + n % 10)]
def numL (n : Int) : List UInt8 := if n < 0 then 45 :: digs 20 n.natAbs else digs 20 n.natAbs
theorem digs_small (f n : Nat) (h : n < 10) : digs (f + 1) n = [UInt8.ofNat (48 + n)] := by simp [digs, h]
theorem digs_big (f n : Nat) (h : 10 ≤ n) : digs (f + 1) n = digs f (n / 10) ++ [UInt8.ofNat (48 + n % 10)] := by
 have : ¬ n < 10 := by omega
 simp [digs, this]
theorem digs_more : ∀ (f g n : Nat), n < 10 ^ (f + 1) → n < 10 ^ (g + 1) → digs (f + 1) n = digs (g + 1) n := by
 intro f
 induction f with
 | zero =>
  intro g n h _
  have h' : n < 10 := by simpa using h
  rw [digs_small _ _ h', digs_small _ _ h']
 | succ f ih =>
  intro g n h h2
  by_cases hn : n < 10
  ·rw [digs_small _ _ hn, digs_small _ _ hn]
  ·cases g with
   | zero => exfalso; apply hn; simpa using h2
   | succ g =>
    rw [digs_big (f + 1) n (by omega), digs_big (g + 1) n (by omega), ih g (n / 10)]
    ·rw [Nat.pow_succ 10 (f + 1)] at h; omega
    ·rw [Nat.pow_succ 10 (g + 1)] at h2; omega
theorem digs_len : ∀ (f n : Nat), (digs f n).length ≤ f := by
 intro f
 induction f with
 | zero => intro n; simp [digs]
 | succ f ih =>
  intro n
  by_cases hn : n < 10
  ·rw [digs_small _ _ hn]; simp
  ·rw [digs_big _ _ (by omega)]; have := ih (n / 10); simp; omega
theorem digs_ne (f n : Nat) : digs (f + 1) n ≠ [] := by
 by_cases hn : n < 10
 ·rw [digs_small _ _ hn]; simp
 ·rw [digs_big _ _ (by omega)]; simp
def valL (l : List UInt8) : Int := l.foldl (fun a c => 10 * a + ((c.toNat : Int) - 48)) 0
def digB (c : UInt8) : Bool := decide (48 ≤ (c.toNat : Int) ∧ (c.toNat : Int) ≤ 57)
theorem valL_snoc (l : List UInt8) (c : UInt8) : valL (l ++ [c]) = 10 * valL l + ((c.toNat : Int) - 48) := by simp [valL]
theorem ofNat_dig (n : Nat) (h : n < 10) : ((UInt8.ofNat (48 + n)).toNat : Int) = 48 + n := by
 rw [UInt8.toNat_ofNat']; omega
theorem valL_digs : ∀ (f n : Nat), n < 10 ^ (f + 1) → valL (digs (f + 1) n) = n := by
 intro f
 induction f with
 | zero =>
  intro n h
  have h' : n < 10 := by simpa using h
  have e := ofNat_dig n h'
  rw [digs_small _ _ h']
  simp only [valL, List.foldl_cons, List.foldl_nil, e]; omega
 | succ f ih =>
  intro n h
  by_cases hn : n < 10
  ·have e := ofNat_dig n hn
   rw [digs_small _ _ hn]
   simp only [valL, List.foldl_cons, List.foldl_nil, e]; omega
  ·have e := ofNat_dig (n % 10) (by omega)
   rw [digs_big (f + 1) n (by omega), valL_snoc, ih (n / 10) (by rw [Nat.pow_succ 10 (f + 1)] at h; omega), e]; omega
theorem digs_dig : ∀ (f n : Nat), (digs f n).all digB = true := by
 intro f
 induction f with
 | zero => intro n; rfl
 | succ f ih =>
  intro n
  by_cases hn : n < 10
  ·have e := ofNat_dig n hn
   rw [digs_small _ _ hn]; simp only [List.all_cons, List.all_nil, Bool.and_true, digB, e]; simp; omega
  ·have e := ofNat_dig (n % 10) (by omega)
   rw [digs_big _ _ (by omega), List.all_append, ih]
   simp only [List.all_cons, List.all_nil, Bool.and_true, Bool.true_and, digB, e]; simp; omega
theorem rev_ind {α : Type} {P : List α → Prop} (h0 : P []) (hs : ∀ l c, P l → P (l ++ [c])) (l : List α) : P l := by
 rw [← List.reverse_reverse l]
 induction l.reverse with
 | nil => exact h0
 | cons c t ih => rw [List.reverse_cons]; exact hs _ _ ih
theorem all_snoc {l : List UInt8} {c : UInt8} (h : (l ++ [c]).all digB = true) : l.all digB = true ∧ 48 ≤ (c.toNat : Int) ∧ (c.toNat : Int) ≤ 57 := by
 rw [List.all_append, Bool.and_eq_true] at h
 refine ⟨h.1, ?_⟩
 have h2 := h.2
 simpa [digB] using h2
theorem valL_nonneg (l : List UInt8) : l.all digB = true → 0 ≤ valL l := by
 refine rev_ind (P := fun l => l.all digB = true → 0 ≤ valL l) (fun _ => by simp [valL]) (fun l c ih h => ?_) l
 have h1 := ih (all_snoc h).1
 have h2 := (all_snoc h).2
 rw [valL_snoc]; omega
theorem valL_lt (l : List UInt8) : l.all digB = true → (valL l).natAbs < 10 ^ l.length := by
 refine rev_ind (P := fun l => l.all digB = true → (valL l).natAbs < 10 ^ l.length) (fun _ => by simp [valL]) (fun l c ih h => ?_) l
 have h1 := ih (all_snoc h).1
 have h2 := (all_snoc h).2
 have h3 := valL_nonneg l (all_snoc h).1
 rw [valL_snoc, List.length_append, List.length_singleton, Nat.pow_succ]; omega
theorem valL_pos (l : List UInt8) : l.all digB = true → l ≠ [] → l.getD 0 0 ≠ 48 → 1 ≤ valL l := by
 refine rev_ind (P := fun l => l.all digB = true → l ≠ [] → l.getD 0 0 ≠ 48 → 1 ≤ valL l) (fun _ h => absurd rfl h) (fun l c ih h _ h0 => ?_) l
 have h2 := (all_snoc h).2
 rw [valL_snoc]
 cases l with
 | nil =>
  have hc : c.toNat ≠ 48 := fun e => h0 (by simp; exact UInt8.toNat_inj.1 e)
  simp only [valL, List.foldl_nil]; omega
 | cons x r =>
  have := ih (all_snoc h).1 (by simp) (by simpa using h0)
  omega
theorem digs_valL (l : List UInt8) : l.all digB = true → l ≠ [] → (l.length = 1 ∨ l.getD 0 0 ≠ 48) → digs l.length (valL l).natAbs = l := by
 refine rev_ind (P := fun l => l.all digB = true → l ≠ [] → (l.length = 1 ∨ l.getD 0 0 ≠ 48) → digs l.length (valL l).natAbs = l) (fun _ h => absurd rfl h) (fun l c ih h _ h0 => ?_) l
 have h2 := (all_snoc h).2
 have hl := (all_snoc h).1
 have h3 := valL_nonneg l hl
 rw [valL_snoc, List.length_append, List.length_singleton]
 have hc : UInt8.ofNat c.toNat = c := by simp
 cases l with
 | nil =>
  simp only [valL, List.foldl_nil, List.length_nil]
  rw [digs_small 0 _ (by omega)]
  have : 48 + (10 * 0 + ((c.toNat : Int) - 48)).natAbs = c.toNat := by omega
  rw [this, hc]; rfl
 | cons x r =>
  have hx : (x :: r).getD 0 0 ≠ 48 := by
   rcases h0 with h0 | h0
   ·simp at h0
   ·simpa using h0
  have hp := valL_pos (x :: r) hl (by simp) hx
  have hi := ih hl (by simp) (Or.inr hx)
  rw [digs_big _ _ (by omega)]
  rw [show (10 * valL (x :: r) + ((c.toNat : Int) - 48)).natAbs / 10 = (valL (x :: r)).natAbs from by omega, hi]
  rw [show 48 + (10 * valL (x :: r) + ((c.toNat : Int) - 48)).natAbs % 10 = c.toNat from by omega, hc]
theorem digs_head : ∀ (f n : Nat), 1 ≤ n → n < 10 ^ (f + 1) → (digs (f + 1) n).getD 0 0 ≠ 48 := by
 intro f
 induction f with
 | zero =>
  intro n h h1
  have h' : n < 10 := by simpa using h1
  rw [digs_small _ _ h']
  intro e
  have e2 := ofNat_dig n h'
  have e3 : (UInt8.ofNat (48 + n)) = 48 := by simpa using e
  rw [e3] at e2
  have : ((48 : UInt8).toNat : Int) = 48 := by decide
  omega
 | succ f ih =>
  intro n h h1
  by_cases hn : n < 10
  ·rw [digs_small _ _ hn]
   intro e
   have e2 := ofNat_dig n hn
   have e3 : (UInt8.ofNat (48 + n)) = 48 := by simpa using e
   rw [e3] at e2
   have : ((48 : UInt8).toNat : Int) = 48 := by decide
   omega
  ·rw [digs_big _ _ (by omega)]
   have := ih (n / 10) (by omega) (by rw [Nat.pow_succ 10 (f + 1)] at h1; omega)
   have hne := digs_ne f (n / 10)
   revert this
   cases hd : digs (f + 1) (n / 10) with
   | nil => exact absurd hd hne
   | cons x r => simp
theorem numL_nat (n : Nat) : numL n = digs 20 n := by simp [numL, show ¬ ((n : Int) < 0) from by omega]
def parseL (l : List UInt8) : Option Nat := (List.range 1000).find? fun n : Nat => decide (numL n = l)
theorem valL_numL (n : Nat) (h : n ≤ 999) : valL (numL n) = n := by rw [numL_nat]; exact valL_digs 19 n (Nat.lt_of_le_of_lt h (by decide))
theorem parseL_some {l : List UInt8} {n : Nat} (h : n ≤ 999) (e : numL n = l) : parseL l = some n := by
 unfold parseL
 cases hf : (List.range 1000).find? fun n : Nat => decide (numL n = l) with
 | none =>
  have := List.find?_eq_none.1 hf n (by simp; omega)
  simp [e] at this
 | some m =>
  have h1 := List.find?_some hf
  have h2 := List.mem_of_find?_eq_some hf
  have h1' : numL m = l := by simpa using h1
  have h3 : m < 1000 := by simpa using h2
  have a := valL_numL n h
  have b := valL_numL m (by omega)
  rw [e] at a; rw [h1', a] at b
  have hmn : m = n := by omega
  rw [hmn]
theorem parseL_none {l : List UInt8} (h : ∀ n : Nat, n ≤ 999 → numL n ≠ l) : parseL l = none := by
 unfold parseL
 rw [List.find?_eq_none]
 intro n hn
 have : n < 1000 := by simpa using hn
 simpa using h n (by omega)
theorem numL_len {n : Nat} (h : n ≤ 999) : (numL n).length ≤ 3 := by
 rw [numL_nat, digs_more 19 2 n (Nat.lt_of_le_of_lt h (by decide)) (by simpa using Nat.lt_of_le_of_lt h (by decide))]; exact digs_len _ _
theorem numL_dig (n : Nat) : (numL n).all digB = true := by rw [numL_nat]; exact digs_dig _ _
theorem numL_ne (n : Nat) : numL n ≠ [] := by rw [numL_nat]; exact digs_ne _ _
theorem numL_head {n : Nat} (h : n ≤ 999) (h1 : (numL n).length ≠ 1) : (numL n).getD 0 0 ≠ 48 := by
 have hn : 10 ≤ n := by
  rcases Nat.lt_or_ge n 10 with h' | h'
  ·exfalso; apply h1; rw [numL_nat, digs_small _ _ h']; rfl
  ·exact h'
 rw [numL_nat]; exact digs_head 19 n (by omega) (Nat.lt_of_le_of_lt h (by decide))
theorem parseL_good (l : List UInt8) (hd : l.all digB = true) (hne : l ≠ []) (hz : l.length = 1 ∨ l.getD 0 0 ≠ 48) (hv : valL l ≤ 999) : parseL l = some (valL l).toNat := by
 have h0 := valL_nonneg l hd
 refine parseL_some (by omega) ?_
 rw [numL_nat, show (valL l).toNat = (valL l).natAbs from by omega]
 have hd2 := digs_valL l hd hne hz
 have hlt := valL_lt l hd
 cases hl : l.length with
 | zero => exact absurd (List.eq_nil_of_length_eq_zero hl) hne
 | succ k =>
  rw [hl] at hd2 hlt
  rw [← digs_more k 19 _ hlt (Nat.lt_of_le_of_lt (show (valL l).natAbs ≤ 999 by omega) (by decide)), hd2]
theorem parseL_nil : parseL [] = none := parseL_none fun n _ e => numL_ne n e
theorem parseL_zero (l : List UInt8) (h : l.getD 0 0 = 48) (h1 : 1 < l.length) : parseL l = none := by
 refine parseL_none fun n hn e => ?_
 subst e
 exact numL_head hn (by omega) h
theorem parseL_nodig (l : List UInt8) (k : Nat) (hk : k < l.length) (h : digB (l.getD k 0) = false) : parseL l = none := by
 refine parseL_none fun n _ e => ?_
 subst e
 have := List.all_eq_true.1 (numL_dig n) ((numL n).getD k 0) (by simp only [List.getD_eq_getElem?_getD]; rw [List.getElem?_eq_getElem hk]; simp)
 rw [h] at this; cases this
theorem valL_take (l : List UInt8) (hd : l.all digB = true) (k : Nat) : valL (l.take k) ≤ valL l := by
 rcases Nat.lt_or_ge k l.length with h | h
 ·revert k
  refine rev_ind (P := fun l => l.all digB = true → ∀ k, k < l.length → valL (l.take k) ≤ valL l) (fun _ k h => by simp at h) (fun l c ih h k hk => ?_) l hd
  have h2 := (all_snoc h).2
  have hl := (all_snoc h).1
  have h0 := valL_nonneg l hl
  rw [valL_snoc]
  rcases Nat.lt_or_ge k l.length with h3 | h3
  ·have := ih hl k h3
   rw [List.take_append_of_le_length (by omega)]; omega
  ·have : k = l.length := by simp at hk; omega
   subst this
   rw [List.take_append_of_le_length (by omega), List.take_length]; omega
 ·rw [List.take_of_length_le h]; omega
theorem parseL_big (l : List UInt8) (k : Nat) (h : 999 < valL (l.take k)) : parseL l = none := by
 refine parseL_none fun n hn e => ?_
 subst e
 have := valL_take _ (numL_dig n) k
 rw [valL_numL n hn] at this; omega
end Go.Proofs.YtcpbikilgacdlaaGreat
namespace Go.Proofs.YtcpbikilgacdlaaGreat
set_option linter.unusedVariables false
open Go.RowKit
theorem conv_one (w : World) (x : Int) (h0 : 0 ≤ x) (h1 : x ≤ 255) :
  (convert 68 9 (.slice (some ⟨w.heap.size, 0, none⟩) 1 1)).run Tryz.prog (w.alloc (.cells #[.int .u8 x] 5)) = .ok (.string ⟨[UInt8.ofNat x.toNat].toArray⟩) (w.alloc (.cells #[.int .u8 x] 5)) := by
 refine run_convert_bytes_back (w.alloc (.cells #[.int .u8 x] 5)) 68 9 5 ⟨w.heap.size, 0, none⟩ 1 [UInt8.ofNat x.toNat] Tryz.underlying68 Tryz.underlying5 Tryz.underlying9 ?_
 intro j hj
 have : j = 0 := by simpa using hj
 subst this
 simp [Addr.add]; omega
theorem dig_eq {a b : Nat} (h : a = b) : #[UInt8.ofNat a].toList = [UInt8.ofNat b] := by rw [h]
theorem ret_strB {s : ByteArray} {b : List UInt8} (h : s.data.toList = b) : Ending.returned (.string s) = .returned (.string ⟨b.toArray⟩) := by subst h; simp
theorem data_app (a b : ByteArray) : (a ++ b).data.toList = a.data.toList ++ b.data.toList := by rw [ByteArray.data_append]; simp
theorem ret_str {a b : List UInt8} (h : a = b) : Ending.returned (.string ⟨a.toArray⟩) = .returned (.string ⟨b.toArray⟩) := by rw [h]
theorem ret_strA {a : Array UInt8} {b : List UInt8} (h : a.toList = b) : Ending.returned (.string ⟨a⟩) = .returned (.string ⟨b.toArray⟩) := by subst h; simp
set_option maxHeartbeats 400000 in
set_option maxRecDepth 100000 in
theorem specFormat_pos (k : Nat) (hk50 : k ≤ 50) : ∀ (n : Int) (w : World), 0 ≤ n → n ≤ 9223372036854775807 → n.natAbs < 10 ^ (k + 1) →
  Calls Tryz.prog 170 #[.int .i64 n] w fun e w' => e = .returned (.string ⟨(digs (k + 1) n.natAbs).toArray⟩) ∧ Below w.heap.size w w' := by
 induction k with
 | zero =>
  intro n w h0 h1 hn
  have hn' : n < 10 := by omega
  have hcv := conv_one w (48 + n % 10) (by omega) (by omega)
  have HD := Lib.hid (digs_small 0 n.natAbs (by omega))
  clear hn h1
  go_enter Tryz.func170, Tryz.ntmps170
  go_wp2_with fail
  go_ret
  exact ⟨ret_strA (by rw [HD.out]; exact dig_eq (by omega)), (Below.refl _ _).alloc (Nat.le_refl _) _⟩
 | succ k ih =>
  intro n w h0 h1 hn
  have hcv := conv_one w (48 + n % 10) (by omega) (by omega)
  by_cases h9 : n ≤ 9
  ·have HD := Lib.hid (digs_small (k + 1) n.natAbs (by omega))
   clear hn h1
   go_enter Tryz.func170, Tryz.ntmps170
   go_wp2_with fail
   go_ret
   exact ⟨ret_strA (by rw [HD.out]; exact dig_eq (by omega)), (Below.refl _ _).alloc (Nat.le_refl _) _⟩
  ·have HD := Lib.hid (digs_big (k + 1) n.natAbs (by omega))
   have hk : (n / 10).natAbs < 10 ^ (k + 1) := by rw [Nat.pow_succ] at hn; omega
   have hlen : (digs (k + 1) (n / 10).natAbs).length ≤ 60 := by have := digs_len (k + 1) (n / 10).natAbs; omega
   have h1' : n / 10 ≤ 9223372036854775807 := by omega
   have IH := Lib.hid (ih (by omega) (n / 10) (w.alloc (.cells #[.int .u8 (48 + n % 10)] 5)) (by omega) h1' hk)
   clear hn hk h1' ih
   go_enter Tryz.func170, Tryz.ntmps170
   go_wp2_with (go_at_call 170; refine (IH.out).mono ?_; rintro e w1 ⟨rfl, hb⟩)
   go_ret
   refine ⟨ret_strB ?_, ?_⟩
   ·rw [HD.out, data_app, show (n / 10).natAbs = n.natAbs / 10 from by omega, show (48 + n % 10).toNat = 48 + n.natAbs % 10 from by omega]
   ·exact ((Below.refl _ _).alloc (Nat.le_refl _) _).trans (hb.mono (by simp))
set_option maxHeartbeats 400000 in
set_option maxRecDepth 100000 in
theorem specFormat_any (n : Int) (w : World) (h0 : -9223372036854775808 ≤ n) (h1 : n ≤ 9223372036854775807) :
  Calls Tryz.prog 170 #[.int .i64 n] w fun e w' => e = .returned (.string ⟨(numL n).toArray⟩) ∧ Below w.heap.size w w' := by
 by_cases hn : 0 ≤ n
 ·have e : numL n = digs (19 + 1) n.natAbs := by simp [numL, show ¬ n < 0 from by omega]
  rw [e]
  exact specFormat_pos 19 (by omega) n w hn h1 (by omega)
 ·by_cases hm : n = -9223372036854775808
  ·subst hm
   have HE := Lib.hid (show numL (-9223372036854775808) = [45, 57, 50, 50, 51, 51, 55, 50, 48, 51, 54, 56, 53, 52, 55, 55, 53, 56, 48, 56] from by decide +kernel)
   clear hn h0 h1
   go_enter Tryz.func170, Tryz.ntmps170
   go_wp2_with fail
   go_ret
   exact ⟨ret_strA (by rw [HE.out]), Below.refl _ _⟩
  ·have HE := Lib.hid (show numL n = 45 :: digs 20 n.natAbs from by simp [numL, show n < 0 from by omega])
   have h2 : -9223372036854775807 ≤ n := by omega
   have hlen : (digs 20 n.natAbs).length ≤ 60 := by have := digs_len 20 n.natAbs; omega
   have IH := Lib.hid (specFormat_pos 19 (by omega) (-n) w (by omega) (by omega) (by omega))
   clear h0 hm
   go_enter Tryz.func170, Tryz.ntmps170
   go_wp2_with (go_at_call 170; refine (IH.out).mono ?_; rintro e w1 ⟨rfl, hb⟩)
   go_ret
   exact ⟨ret_strB (by rw [HE.out, data_app]; simp), hb⟩
theorem rowAt_cell {w : World} {a : Option Addr} {n c : Nat} {xs : List Value} (h : RowAt w (.slice a n c) xs) (k : Nat) (hk : k < xs.length) : ∃ b o, a = some ⟨b, o, none⟩ ∧ b < w.heap.size ∧ w.cell? ⟨b, o + k, none⟩ = some (xs[k]'hk) := by
 obtain ⟨a', c', e, hl, h⟩ := h
 injection e with e1 e2 e3
 subst e1
 rcases h with rfl | ⟨b, o, rfl, hlt, hc⟩
 ·simp at hk
 ·exact ⟨b, o, rfl, hlt, by rw [hc k hk]; exact List.getElem?_eq_getElem hk⟩
theorem rowAt_len {w : World} {v : Value} {xs : List Value} (h : RowAt w v xs) : ∃ a c, v = .slice a xs.length c ∧ xs.length ≤ maxLen := by
 obtain ⟨a, c, rfl, hl, _⟩ := h; exact ⟨a, _, rfl, hl⟩
theorem below_drewN {B : Nat} {a w : World} (h : Below B a w) (n : Nat) : Below B a (w.drewN n) := ⟨h.os, h.tape, h.output, h.size, h.block⟩
theorem getElem_map_strV (l : List (List UInt8)) (k : Nat) (h : k < (l.map strV).length) : (l.map strV)[k] = strV (l[k]'(by simpa using h)) := by simp
def total : List (List UInt8) → Nat
 | [] => 0
 | x :: r => x.length + total r
theorem total_take_succ (x : List (List UInt8)) (k : Nat) (h : k < x.length) : total (x.take (k + 1)) = total (x.take k) + (x[k]).length := by
 induction x generalizing k with
 | nil => simp at h
 | cons a r ih =>
  cases k with
  | zero => simp [total]
  | succ k =>
   have := ih k (by simpa using h)
   simp only [List.take_succ_cons, total, List.getElem_cons_succ, this]; omega
theorem size_strB (l : List UInt8) : (⟨l.toArray⟩ : ByteArray).size = l.length := by simp [ByteArray.size]
theorem string_info : (Tryz.prog.info? 9).map (fun i => (i.zero, i.size, i.bytes)) = some (some (.string ⟨#[]⟩), 1, 16) := by kernel_rfl
def Owns (w : World) (B : Nat) (v : Value) (xs : List (List UInt8)) : Prop := w.ownsRow B 9 1 v xs.length (xs.map strV)
theorem ownsRow_below {w w' : World} {B B' : Nat} {e : TypeId} {size n : Nat} {v : Value} {xs : List Value} (h : w.ownsRow B e size v n xs) (hb : Below B' w w') (hB : w.heap.size ≤ B') : w'.ownsRow B e size v n xs :=
 h.kept (row := none) ⟨hb.os, hb.tape, hb.output, hb.size, fun i hi _ => hb.block i (Nat.lt_of_lt_of_le hi hB)⟩ (by cases v.ownBlock <;> simp)
theorem ownsRow_rowAt {w : World} {B : Nat} {e : TypeId} {n : Nat} {v : Value} {xs : List Value} (h : w.ownsRow B e 1 v n xs) (hm : n ≤ maxLen) : RowAt w v xs := by
 have hl : xs.length = n := by simpa using h.1
 rcases h.2 with ⟨rfl, rfl⟩ | ⟨g, cap, cur, rfl, hb, hg, hn, hc, hs, ht⟩
 ·have : xs = [] := List.eq_nil_of_length_eq_zero hl
  subst this
  exact ⟨none, 0, rfl, Nat.zero_le _, Or.inl rfl⟩
 ·subst hl
  refine ⟨_, _, cap_eq _ hn, hm, Or.inr ⟨g, 0, rfl, (Array.getElem?_eq_some_iff.1 hg).1, fun i hi => ?_⟩⟩
  rw [Nat.zero_add]
  exact World.ownsRow.cellAt h i (by simpa using hi)
theorem grownBy_refl (w : World) (r : Option Nat) : w.grownBy w r := ⟨rfl, rfl, rfl, Nat.le_refl _, fun _ _ _ => rfl⟩
theorem append_strs {ops : Array Oper} {rest : List Oper} {o : Oper} {a : Act} {Q : Exit → Act → World → Prop} (hgd : o.guard = none) (s x : Operand)
  (ho : o.op = .call { callee := .builtin .append, args := #[s, x], argTypes := #[80, 80] }) (B : Nat) (v : Value) (xs : List (List UInt8)) (y : List UInt8) (w : World) (blk : Nat)
  (hs : a.eval s = v) (hO : Owns w B v xs) (hx : a.eval x = .slice (some ⟨blk, 0, none⟩) 1 1) (hc : w.cell? ⟨blk, 0, none⟩ = some (strV y)) (hl : xs.length ≤ 4194304) (hB : B ≤ w.heap.size)
  (h : ∀ v' w', Owns w' B v' (xs ++ [y]) → w.grownBy w' v.ownBlock → wpList Tryz.prog ops Q rest (a.put o.dst v') w') : wpList Tryz.prog ops Q (o :: rest) a w := by
 obtain ⟨i0, hi, hz0, hz1, hz2⟩ := info_parts string_info
 refine wpList_append_own _ hgd s x 80 ho B 9 i0 (.string ⟨#[]⟩) 1 16 Tryz.underlying80 hi hz0 hz1 hz2 rfl (by decide) v xs.length (xs.map strV) hs hO ⟨blk, 0, none⟩ 1 1 [strV y] hx rfl ?_ ?_ (by unfold maxLen; omega) (by omega) hB ?_
 ·intro j u hj
  cases j with
  | zero => simp at hj; subst hj; rw [Addr.add_lit]; exact hc
  | succ j => simp at hj
 ·intro u hu; simp at hu; subst hu; rfl
 ·intro v' w' h1 h2 _
  refine h v' w' ?_ h2
  unfold Owns; rw [List.map_append, List.length_append]; exact h1
theorem owns_new (w : World) : Owns (w.alloc (.cells #[] 9)) w.heap.size (.slice (some ⟨w.heap.size, 0, none⟩) 0 0) [] :=
 World.ownsRow_made w #[] 0 (Nat.le_refl _) (Nat.zero_le _) rfl
theorem cell_new (w : World) (t : TypeId) (y : Value) : (w.alloc (.cells #[y] t)).cell? ⟨w.heap.size, 0, none⟩ = some y :=
 (cell_of_row _ _ 0 _ t (0, 0) (heap_alloc_new w _)).trans rfl
theorem cell_newS (w : World) (t : TypeId) (s : ByteArray) (blk : Nat) (h : blk = w.heap.size) : (w.alloc (.cells #[.string s] t)).cell? ⟨blk, 0, none⟩ = some (strV s.data.toList) := by
 subst h; rw [cell_new]; simp [strV]
theorem owns_alloc {w : World} {B : Nat} {v : Value} {xs : List (List UInt8)} (h : Owns w B v xs) (o : Obj) : Owns (w.alloc o) B v xs := World.ownsRow.alloc h o
theorem owns_below {w w' : World} {B B' : Nat} {v : Value} {xs : List (List UInt8)} (h : Owns w B v xs) (hb : Below B' w w') (hB : w.heap.size ≤ B') : Owns w' B v xs := ownsRow_below h hb hB
theorem below_append {a w w' : World} {B : Nat} {v : Value} {xs : List (List UInt8)} (hb : Below B a w) (hO : Owns w B v xs) (hg : w.grownBy w' v.ownBlock) (hB : B ≤ w.heap.size) : Below B a w' :=
 hb.grown hg hB (fun k hk => (World.ownsRow.lt hO k hk).1)
def GivesRow (x : List (List UInt8)) (w : World) (e : Ending) (w' : World) : Prop := ∃ v, e = .returned v ∧ Owns w' w.heap.size v x ∧ Below w.heap.size w w'
theorem owns_row {w : World} {B : Nat} {v : Value} {x : List (List UInt8)} (h : Owns w B v x) (hm : x.length ≤ 4194304) : RowAt w v (x.map strV) := ownsRow_rowAt h (by unfold maxLen; omega)
def GivesMth (k : Nat) (w : World) (e : Ending) (w' : World) : Prop := e = .returned (.slice (some ⟨w.heap.size, 0, none⟩) (mthN k).length (mthN k).length) ∧ w' = w.alloc (.cells ((mthN k).map strV).toArray 9)
set_option maxHeartbeats 400000 in
theorem implMethods_any (k : Nat) (hk : k < 6) (w : World) :
  Calls Tryz.prog 136 #[.int .i64 k] w fun e w' => GivesMth k w e w' := by
 rcases (show k = 0 ∨ k = 1 ∨ k = 2 ∨ k = 3 ∨ k = 4 ∨ k = 5 by omega) with rfl | rfl | rfl | rfl | rfl | rfl
 all_goals
  clear hk
  go_enter Tryz.func136, Tryz.ntmps136
  go_wp2
  go_ret
  exact ⟨rfl, rfl⟩
set_option maxHeartbeats 400000 in
theorem specMethods_any (k : Nat) (hk : k < 6) (w : World) :
  Calls Tryz.prog 149 #[.int .i64 k] w fun e w' => GivesMth k w e w' := by
 rcases (show k = 0 ∨ k = 1 ∨ k = 2 ∨ k = 3 ∨ k = 4 ∨ k = 5 by omega) with rfl | rfl | rfl | rfl | rfl | rfl
 all_goals
  clear hk
  go_enter Tryz.func149, Tryz.ntmps149
  go_wp2
  go_ret
  exact ⟨rfl, rfl⟩
theorem mth_row (w : World) (k : Nat) (c : Nat) (hc : (mthN k).length ≤ c := by exact Nat.le_refl _) : RowAt (w.alloc (.cells ((mthN k).map strV).toArray 9)) (.slice (some ⟨w.heap.size, 0, none⟩) (mthN k).length c) ((mthN k).map strV) := by
 refine ⟨_, c - (mthN k).length, by rw [List.length_map, Nat.add_sub_of_le hc], by rw [List.length_map]; have := mthN_len k; unfold maxLen; omega, Or.inr ⟨w.heap.size, 0, rfl, by simp, fun i _ => ?_⟩⟩
 rw [cell_of_row _ _ _ _ 9 (0, 0) (heap_alloc_new w _)]
 simp
set_option maxHeartbeats 400000 in
theorem l1HasText_any (v : Value) (x : List (List UInt8)) (t : ByteArray) (w : World) (hR : RowAt w v (x.map strV)) :
  Calls Tryz.prog 148 #[v, .string t] w fun e w' => e = .returned (.bool (decide (t.data.toList ∈ x))) ∧ w = w' := by
 obtain ⟨a, c, rfl, hl⟩ := rowAt_len hR
 rw [List.length_map] at *
 have HR := Lib.hid hR
 clear hR
 unfold maxLen at hl
 go_enter Tryz.func148, Tryz.ntmps148
 go_wp2_with fail
 go_loop [6, 9] (fun _ i => ∃ j : Nat, j ≤ x.length ∧ i = .int .i64 j ∧ t.data.toList ∉ x.take j) (fun _ i => x.length - (intOf i).toNat)
 case atStart => exact ⟨0, Nat.zero_le _, rfl, by simp⟩
 case round =>
  obtain ⟨j, hj, rfl, hni⟩ := hrel
  have HNI := Lib.hid hni
  clear hni
  by_cases hlt : j < x.length
  ·obtain ⟨b, o, rfl, hbw, d1⟩ := rowAt_cell HR.out j (by simpa using hlt)
   rw [getElem_map_strV] at d1
   unfold strV at d1
   by_cases heq : x[j] = t.data.toList
   ·have hbeq : (x[j] == t.toList) = true := by rw [Lib.toList_data, beq_iff_eq]; exact heq
    have HF := Lib.hid (show t.data.toList ∈ x from by rw [← heq]; exact List.getElem_mem hlt)
    clear heq
    go_wp2_with fail
    go_ret
    exact ⟨ret_bool (by simp [HF.out]), rfl⟩
   ·have hbeq : (x[j] == t.toList) = false := by rw [Lib.toList_data, beq_eq_false_iff_ne]; exact heq
    have HF := Lib.hid (show t.data.toList ∉ x.take (j + 1) from by
     rw [List.take_succ_eq_append_getElem hlt, List.mem_append]
     rintro (h | h)
     ·exact HNI.out h
     ·exact heq (List.mem_singleton.1 h).symm)
    clear heq
    go_wp2_with fail
    exact ⟨⟨j + 1, by omega, by go_num, HF.out⟩, by simp [intOf]; omega⟩
  ·have HF := Lib.hid (show t.data.toList ∉ x from by have h := HNI.out; rwa [List.take_of_length_le (by omega)] at h)
   go_wp2_with fail
   go_ret
   exact ⟨ret_bool (by simp [HF.out]), rfl⟩
def IdxOf (x : List (List UInt8)) (t : List UInt8) (w : World) (e : Ending) (w' : World) : Prop := ∃ i : Int, e = .returned (.int .i64 i) ∧ -1 ≤ i ∧ i ≤ 9223372036854775807 ∧ decide (0 ≤ i) = decide (t ∈ x) ∧ w = w'
set_option maxHeartbeats 400000 in
theorem index_any (v : Value) (x : List (List UInt8)) (t : ByteArray) (w : World) (hR : RowAt w v (x.map strV)) :
  Calls Tryz.prog 164 #[v, .string t] w fun e w' => IdxOf x t.data.toList w e w' := by
 obtain ⟨a, c, rfl, hl⟩ := rowAt_len hR
 rw [List.length_map] at *
 have HR := Lib.hid hR
 clear hR
 unfold maxLen at hl
 go_enter Tryz.func164, Tryz.ntmps164
 go_wp2_with fail
 go_loop [5, 8] (fun _ i => ∃ j : Nat, j ≤ x.length ∧ i = .int .i64 j ∧ t.data.toList ∉ x.take j) (fun _ i => x.length - (intOf i).toNat)
 case atStart => exact ⟨0, Nat.zero_le _, rfl, by simp⟩
 case round =>
  obtain ⟨j, hj, rfl, hni⟩ := hrel
  have HNI := Lib.hid hni
  clear hni
  by_cases hlt : j < x.length
  ·obtain ⟨b, o, rfl, hbw, d1⟩ := rowAt_cell HR.out j (by simpa using hlt)
   rw [getElem_map_strV] at d1
   unfold strV at d1
   by_cases heq : x[j] = t.data.toList
   ·have hbeq : (t.toList == x[j]) = true := by rw [Lib.toList_data, beq_iff_eq]; exact heq.symm
    have HF := Lib.hid (show t.data.toList ∈ x from by rw [← heq]; exact List.getElem_mem hlt)
    clear heq
    go_wp2_with fail
    go_ret
    exact ⟨_, rfl, by omega, by omega, by simp [HF.out], rfl⟩
   ·have hbeq : (t.toList == x[j]) = false := by rw [Lib.toList_data, beq_eq_false_iff_ne]; exact fun h => heq h.symm
    have HF := Lib.hid (show t.data.toList ∉ x.take (j + 1) from by
     rw [List.take_succ_eq_append_getElem hlt, List.mem_append]
     rintro (h | h)
     ·exact HNI.out h
     ·exact heq (List.mem_singleton.1 h).symm)
    clear heq
    go_wp2_with fail
    exact ⟨⟨j + 1, by omega, by go_num, HF.out⟩, by simp [intOf]; omega⟩
  ·have HF := Lib.hid (show t.data.toList ∉ x from by have h := HNI.out; rwa [List.take_of_length_le (by omega)] at h)
   go_wp2_with fail
   go_ret
   exact ⟨_, rfl, by omega, by omega, by simp [HF.out], rfl⟩
set_option maxHeartbeats 400000 in
theorem contains_any (v : Value) (x : List (List UInt8)) (t : ByteArray) (w : World) (hR : RowAt w v (x.map strV)) :
  Calls Tryz.prog 135 #[v, .string t] w fun e w' => e = .returned (.bool (decide (t.data.toList ∈ x))) ∧ w = w' := by
 have HR := Lib.hid (index_any v x t w hR)
 clear hR
 go_enter Tryz.func135, Tryz.ntmps135
 go_wp2_with fail
 refine HR.out.mono ?_
 rintro e w1 ⟨i, rfl, h0, h1, hd, rfl⟩
 have HD := Lib.hid hd
 clear hd
 go_wp2_with fail
 go_ret
 exact ⟨ret_bool HD.out, rfl⟩
end Go.Proofs.YtcpbikilgacdlaaGreat
namespace Go.Proofs.YtcpbikilgacdlaaGreat
set_option linter.unusedVariables false
open Go.Shelf Go.RowKit
def bRen : Go.Shelf.Ren := ⟨fun | 167 => 165 | 240 => 174 | 276 => 175 | 169 => 141 | n => n, fun | 9 => 9 | 0 => 0 | 72 => 156 | 70 => 154 | 37 => 68 | 127 => 201 | 3 => 3 | 4 => 4 | 5 => 5 | 20 => 20 | 75 => 199 | 80 => 158 | 164 => 241 | n => n, fun | n => n⟩
theorem bLays167 : Go.Proofs.Lays.n167 Tryz.prog bRen := {
 mixed := by kernel_rfl
 f167 := Tryz.func165.trans (congrArg some (by kernel_rfl))
 f240 := Tryz.func174.trans (congrArg some (by kernel_rfl))
 f276 := Tryz.func175.trans (congrArg some (by kernel_rfl))
 t0 := Tryz.underlying0
 a0 := Tryz.isAgg0
 z0 := Tryz.sizeOf0
 v0 := Tryz.zeroValue0
 t4 := Tryz.underlying4
 a4 := Tryz.isAgg4
 z4 := Tryz.sizeOf4
 v4 := Tryz.zeroValue4
 t5 := Tryz.underlying5
 a5 := Tryz.isAgg5
 z5 := Tryz.sizeOf5
 v5 := Tryz.zeroValue5
 t9 := Tryz.underlying9
 a9 := Tryz.isAgg9
 z9 := Tryz.sizeOf9
 v9 := Tryz.zeroValue9
 t20 := Tryz.underlying20
 a20 := Tryz.isAgg20
 z20 := Tryz.sizeOf20
 v20 := Tryz.zeroValue20
 t37 := Tryz.underlying68
 a37 := Tryz.isAgg68
 z37 := Tryz.sizeOf68
 v37 := Tryz.zeroValue68
 t70 := Tryz.underlying154
 a70 := Tryz.isAgg154
 z70 := Tryz.sizeOf154
 v70 := Tryz.zeroValue154
 t72 := Tryz.underlying156
 a72 := Tryz.isAgg156
 z72 := Tryz.sizeOf156
 v72 := Tryz.zeroValue156
 t75 := Tryz.underlying199
 a75 := Tryz.isAgg199
 z75 := Tryz.sizeOf199
 v75 := Tryz.zeroValue199
 t164 := Tryz.underlying241
 a164 := Tryz.isAgg241
 z164 := Tryz.sizeOf241
 v164 := Tryz.zeroValue241 }
theorem bLays169 : Go.Proofs.Lays.n169 Tryz.prog bRen := {
 mixed := by kernel_rfl
 f169 := Tryz.func141.trans (congrArg some (by kernel_rfl))
 t0 := Tryz.underlying0
 a0 := Tryz.isAgg0
 z0 := Tryz.sizeOf0
 v0 := Tryz.zeroValue0
 t3 := Tryz.underlying3
 a3 := Tryz.isAgg3
 z3 := Tryz.sizeOf3
 v3 := Tryz.zeroValue3
 t9 := Tryz.underlying9
 a9 := Tryz.isAgg9
 z9 := Tryz.sizeOf9
 v9 := Tryz.zeroValue9
 t37 := Tryz.underlying68
 a37 := Tryz.isAgg68
 z37 := Tryz.sizeOf68
 v37 := Tryz.zeroValue68
 t70 := Tryz.underlying154
 a70 := Tryz.isAgg154
 z70 := Tryz.sizeOf154
 v70 := Tryz.zeroValue154
 t72 := Tryz.underlying156
 a72 := Tryz.isAgg156
 z72 := Tryz.sizeOf156
 v72 := Tryz.zeroValue156
 t127 := Tryz.underlying201
 a127 := Tryz.isAgg201
 z127 := Tryz.sizeOf201
 v127 := Tryz.zeroValue201 }
theorem bExtra : Builder.Extra Tryz.prog bRen := {
 sizeBuilder := by kernel_rfl
 liesBuilder := by kernel_rfl
 t5 := Tryz.underlying5
 a5 := Tryz.isAgg5
 z5 := Tryz.sizeOf5
 v5 := Tryz.zeroValue5
 infoByte := by kernel_rfl
 cellsByte := by kernel_rfl
 sizeByte := by kernel_rfl
 neB5 := by decide }
theorem writeByte_k (B b : Nat) (bs : List Value) (c : Int) (w : World) (h : Lib.IsBuilderF 156 5 B b bs w) (hlen : bs.length + 1 ≤ 140737488355328) (hBw : B ≤ w.heap.size) :
  Calls Tryz.prog 165 #[.pointer (some ⟨b, 0, none⟩), .int .u8 c] w fun e w' => e = .returned .nilIface ∧ (Lib.BuilderAtF 156 5 B b (.pointer (some ⟨b, 0, none⟩)) (bs ++ [.int .u8 c]) w' ∧ Below B w w' ∧ Lib.OthersKept 5 (some b) w w') :=
 Any.Builder_WriteByte_k bLays167 bExtra B b bs c w h hlen hBw
theorem string_k (B b : Nat) (l : List UInt8) (w : World) (h : Lib.IsBuilderF 156 5 B b (Lib.byteCells l) w) (hBw : B ≤ w.heap.size) :
  Calls Tryz.prog 141 #[.pointer (some ⟨b, 0, none⟩)] w fun e w' => e = .returned (.string ⟨l.toArray⟩) ∧ (Lib.IsBuilderF 156 5 B b (Lib.byteCells l) w' ∧ Below B w w' ∧ Lib.OthersKept 5 (some b) w w') :=
 Any.Builder_String_any_k bLays169 bExtra B b l w h hBw
end Go.Proofs.YtcpbikilgacdlaaGreat
namespace Go.Proofs.YtcpbikilgacdlaaGreat
set_option linter.unusedVariables false
open Go.RowKit
theorem byteCells_one (x : UInt8) : Lib.byteCells [x] = [.int .u8 (x.toNat : Int)] := rfl
theorem bytes_more {T e : TypeId} {B b : Nat} {p : Value} {bs : List UInt8} {c : Int} {w : World} (h0 : 0 ≤ c) (h1 : c ≤ 255) (h : Lib.BuilderAtF T e B b p (Lib.byteCells bs ++ [.int .u8 c]) w) : Lib.BuilderAtF T e B b p (Lib.byteCells (bs ++ [UInt8.ofNat c.toNat])) w := by
 rw [Lib.byteCells_append, byteCells_one, show ((UInt8.ofNat c.toNat).toNat : Int) = c from by simp; omega]
 exact h
set_option maxHeartbeats 400000 in
theorem writeDigits_any (k : Nat) (hk50 : k ≤ 50) : ∀ (n : Int) (B b : Nat) (bs : List UInt8) (w : World), 0 ≤ n → n ≤ 18446744073709551615 → n.natAbs < 10 ^ (k + 1) →
  Lib.IsBuilderF 156 5 B b (Lib.byteCells bs) w → bs.length ≤ 1000 → B ≤ w.heap.size →
  Calls Tryz.prog 218 #[.pointer (some ⟨b, 0, none⟩), .int .u64 n] w fun e w' => e = .returned (.tuple #[]) ∧ Lib.IsBuilderF 156 5 B b (Lib.byteCells (bs ++ digs (k + 1) n.natAbs)) w' ∧ Below B w w' ∧ Lib.OthersKept 5 (some b) w w' := by
 induction k with
 | zero =>
  intro n B b bs w h0 h1 hn hI hl hB
  have HW := Lib.hid (writeByte_k B b (Lib.byteCells bs) (48 + n % 10) w hI (by rw [Lib.byteCells_length]; omega) hB)
  have h9 : n < 10 := by omega
  have HD := Lib.hid (digs_small 0 n.natAbs (by omega))
  clear hn hI hB
  go_enter Tryz.func218, Tryz.ntmps218
  go_wp2_with (go_at_call 165; refine (HW.out).mono ?_; rintro e w1 ⟨rfl, hb, hlo, hk⟩)
  go_end0
  refine ⟨rfl, Or.inr ?_, hlo, hk⟩
  rw [HD.out]
  have := bytes_more (by omega) (by omega) hb
  rwa [show (48 + n % 10).toNat = 48 + n.natAbs from by omega] at this
 | succ k ih =>
  intro n B b bs w h0 h1 hn hI hl hB
  by_cases h9 : n < 10
  ·have HW := Lib.hid (writeByte_k B b (Lib.byteCells bs) (48 + n % 10) w hI (by rw [Lib.byteCells_length]; omega) hB)
   have HD := Lib.hid (digs_small (k + 1) n.natAbs (by omega))
   clear hn hI hB ih
   go_enter Tryz.func218, Tryz.ntmps218
   go_wp2_with (go_at_call 165; refine (HW.out).mono ?_; rintro e w1 ⟨rfl, hb, hlo, hk⟩)
   go_end0
   refine ⟨rfl, Or.inr ?_, hlo, hk⟩
   rw [HD.out]
   have := bytes_more (by omega) (by omega) hb
   rwa [show (48 + n % 10).toNat = 48 + n.natAbs from by omega] at this
  ·have HD := Lib.hid (digs_big (k + 1) n.natAbs (by omega))
   have hdl := digs_len (k + 1) (n / 10).natAbs
   have IH := Lib.hid (ih (by omega) (n / 10) B b bs w (by omega) (by omega) (by rw [Nat.pow_succ] at hn; omega) hI hl hB)
   clear hn hI ih
   have hB' := Lib.hid hB
   clear hB
   go_enter Tryz.func218, Tryz.ntmps218
   go_wp2_with (go_at_call 218; refine (IH.out).mono ?_; rintro e w1 ⟨rfl, hb, hlo, hk⟩)
   have HW := Lib.hid (writeByte_k B b (Lib.byteCells (bs ++ digs (k + 1) (n / 10).natAbs)) (48 + n % 10) w1 hb (by rw [Lib.byteCells_length]; simp; omega) (Nat.le_trans hB'.out hlo.size))
   go_wp2_with (go_at_call 165; refine (HW.out).mono ?_; rintro e w2 ⟨rfl, hb2, hlo2, hk2⟩)
   go_end0
   refine ⟨rfl, Or.inr ?_, hlo.trans hlo2, hk.trans hk2⟩
   rw [HD.out, ← List.append_assoc]
   have := bytes_more (by omega) (by omega) hb2
   rwa [show (48 + n % 10).toNat = 48 + n.natAbs % 10 from by omega, show (n / 10).natAbs = n.natAbs / 10 from by omega] at this
theorem wrap_neg (n : Int) (h : -9223372036854775808 ≤ n) (h' : n < 0) : IntKind.u64.wrap (-IntKind.u64.wrap n) = -n := by
 simp only [IntKind.wrap, IntKind.bits, IntKind.signed]; simp; omega
set_option maxHeartbeats 400000 in
theorem implFormat_any (n : Int) (w : World) (h0 : -9223372036854775808 ≤ n) (h1 : n ≤ 9223372036854775807) :
  Calls Tryz.prog 214 #[.int .i64 n] w fun e w' => e = .returned (.string ⟨(numL n).toArray⟩) ∧ Below w.heap.size w w' := by
 by_cases hn : 0 ≤ n
 ·have HE := Lib.hid (show numL n = digs (19 + 1) n.natAbs from by simp [numL, show ¬ n < 0 from by omega])
  have hl0 : numL n = numL n := rfl
  have hf := Lib.fresh_isBuilder 156 5 w
  have HW := Lib.hid (writeDigits_any 19 (by omega) n w.heap.size w.heap.size [] (w.alloc (.cells #[.pointer none, .slice none 0 0] 156)) hn (by omega) (by omega) (Lib.IsBuilderF.of hf) (by simp) (by simp))
  clear hl0 hf h0
  go_enter Tryz.func214, Tryz.ntmps214
  go_wp2_with (go_at_call 218; refine (HW.out).mono ?_; rintro e w1 ⟨rfl, hb, hlo, hk⟩)
  have HS := Lib.hid (string_k w.heap.size w.heap.size ([] ++ digs (19 + 1) n.natAbs) w1 hb (by have := hlo.size; simp at this; omega))
  go_wp2_with (go_at_call 141; refine (HS.out).mono ?_; rintro e w2 ⟨rfl, hb2, hlo2, hk2⟩)
  go_ret
  exact ⟨ret_str (by rw [HE.out]; try rfl), (((Below.refl _ _).alloc (Nat.le_refl _) _).trans hlo).trans hlo2⟩
 ·have HE := Lib.hid (show numL n = 45 :: digs (19 + 1) n.natAbs from by simp [numL, show n < 0 from by omega])
  have h2 : n < 0 := by omega
  have hf := Lib.fresh_isBuilder 156 5 w
  have HW := Lib.hid (writeByte_k w.heap.size w.heap.size (Lib.byteCells []) 45 (w.alloc (.cells #[.pointer none, .slice none 0 0] 156)) (Lib.IsBuilderF.of hf) (by simp [Lib.byteCells]) (by simp))
  clear hf hn
  have WN := Lib.hid (wrap_neg n h0 h2)
  go_enter Tryz.func214, Tryz.ntmps214
  go_wp2_with (go_at_call 165; refine (HW.out).mono ?_; rintro e w1 ⟨rfl, hb, hlo, hk⟩)
  have hz : w.heap.size ≤ w1.heap.size := by have := hlo.size; simp at this; omega
  have HZ := Lib.hid hz
  have HV := Lib.hid (writeDigits_any 19 (by omega) (-n) w.heap.size w.heap.size [45] w1 (by omega) (by omega) (by omega) (Or.inr hb) (by simp) hz)
  clear hz hb
  rw [WN.out]
  refine (HV.out).mono ?_
  rintro e w2 ⟨rfl, hb2, hlo2, hk2⟩
  have HS := Lib.hid (string_k w.heap.size w.heap.size ([45] ++ digs (19 + 1) (-n).natAbs) w2 hb2 (by have := hlo2.size; have := HZ.out; omega))
  clear hb2
  go_wp2_with (go_at_call 141; refine (HS.out).mono ?_; rintro e w3 ⟨rfl, hb3, hlo3, hk3⟩)
  go_ret
  exact ⟨ret_str (by rw [HE.out]; try simp), ((((Below.refl _ _).alloc (Nat.le_refl _) _).trans hlo).trans hlo2).trans hlo3⟩
def joinK (x : List (List UInt8)) (sep : List UInt8) : Nat → List UInt8
 | 0 => []
 | k + 1 => joinK x sep k ++ (if 0 < k then sep else []) ++ x.getD k []
def joinL (x : List (List UInt8)) (sep : List UInt8) : List UInt8 := joinK x sep x.length
theorem strEq {s : ByteArray} {l : List UInt8} (h : s.data.toList = l) : Value.string s = .string ⟨l.toArray⟩ := by subst h; simp
theorem joinK_mono (x : List (List UInt8)) (sep : List UInt8) (k m : Nat) (h : k ≤ m) : (joinK x sep k).length ≤ (joinK x sep m).length := by
 induction m with
 | zero => rw [show k = 0 from by omega]; exact Nat.le_refl _
 | succ m ih =>
  rcases Nat.lt_or_ge m k with h1 | h1
  ·rw [show k = m + 1 from by omega]; exact Nat.le_refl _
  ·have := ih h1; simp only [joinK, List.length_append]; omega
theorem joinK_len (x : List (List UInt8)) (sep : List UInt8) (k : Nat) (h : k ≤ x.length) : (joinK x sep k).length ≤ k * sep.length + total (x.take k) := by
 induction k with
 | zero => simp [joinK]
 | succ k ih =>
  have h1 := ih (by omega)
  have h2 := total_take_succ x k (by omega)
  have h3 : x.getD k [] = x[k] := by simp [List.getD, List.getElem?_eq_getElem (show k < x.length by omega)]
  simp only [joinK, List.length_append, h3, h2, Nat.succ_mul]
  split <;> simp <;> omega
set_option maxHeartbeats 400000 in
theorem writeText_any (B b : Nat) (bs : List UInt8) (s : ByteArray) (w : World) (hI : Lib.IsBuilderF 156 5 B b (Lib.byteCells bs) w) (hl : bs.length + s.size ≤ 140737488355328) (hB : B ≤ w.heap.size) :
  Calls Tryz.prog 140 #[.pointer (some ⟨b, 0, none⟩), .string s] w fun e w' => e = .returned (.tuple #[]) ∧ Lib.IsBuilderF 156 5 B b (Lib.byteCells (bs ++ s.data.toList)) w' ∧ Below B w w' ∧ Lib.OthersKept 5 (some b) w w' := by
 have HI := Lib.hid hI
 have HB := Lib.hid hB
 clear hI hB
 go_enter Tryz.func140, Tryz.ntmps140
 go_wp2_with fail
 go_loopw [4, 7] (fun _ i wr => ∃ k : Nat, k ≤ s.size ∧ i = .int .i64 k ∧ Lib.IsBuilderF 156 5 B b (Lib.byteCells (bs ++ s.data.toList.take k)) wr ∧ Below B w wr ∧ Lib.OthersKept 5 (some b) w wr) (fun _ i _ => s.size - (intOf i).toNat)
 case atStart => exact ⟨0, Nat.zero_le _, rfl, by simpa using HI.out, Below.refl _ _, Lib.OthersKept.refl _ _ _⟩
 case round =>
  obtain ⟨k, hk, rfl, hI, hb, ho⟩ := hrel
  have HI2 := Lib.hid hI
  have HB2 := Lib.hid hb
  have HO2 := Lib.hid ho
  clear hI hb ho
  by_cases hlt : k < s.size
  ·have hu := (s[k]).toNat_lt
   have HN := Lib.hid (take_snoc s k hlt)
   go_wp2_with fail
   refine (writeByte_k B b (Lib.byteCells (bs ++ s.data.toList.take k)) _ wr HI2.out (by rw [Lib.byteCells_length]; simp; omega) (Nat.le_trans HB.out HB2.out.size)).mono ?_
   rintro e w1 ⟨rfl, h1, b1, o1⟩
   have H1 := Lib.hid (bytes_more (by omega) (by omega) h1)
   have B1 := Lib.hid (HB2.out.trans b1)
   have O1 := Lib.hid (HO2.out.trans o1)
   clear h1 b1 o1
   go_wp2_with fail
   refine ⟨⟨k + 1, by omega, by go_num, Or.inr ?_, B1.out, O1.out⟩, by simp [intOf]; omega⟩
   have h := H1.out
   rw [HN.out, ← List.append_assoc]
   simpa using h
  ·have HN := Lib.hid (show s.data.toList.take k = s.data.toList from List.take_of_length_le (by rw [size_list]; omega))
   go_wp2_with fail
   go_end0
   exact ⟨rfl, by have h := HI2.out; rw [HN.out] at h; exact h, HB2.out, HO2.out⟩
set_option maxHeartbeats 400000 in
theorem copyText_any (s : ByteArray) (w : World) (hl : s.size ≤ 140737488355328) :
  Calls Tryz.prog 105 #[.string s] w fun e w' => e = .returned (.string s) ∧ Below w.heap.size w w' := by
 have hf := Lib.fresh_isBuilder 156 5 w
 have HW := Lib.hid (writeText_any w.heap.size w.heap.size [] s (w.alloc (.cells #[.pointer none, .slice none 0 0] 156)) (Lib.IsBuilderF.of hf) (by simpa using hl) (by simp))
 clear hf
 go_enter Tryz.func105, Tryz.ntmps105
 go_wp2_with fail
 refine HW.out.mono ?_
 rintro e w1 ⟨rfl, h1, b1, o1⟩
 have HS := Lib.hid (string_k w.heap.size w.heap.size ([] ++ s.data.toList) w1 h1 (by have := b1.size; simp at this; omega))
 have B1 := Lib.hid (((Below.refl w.heap.size w).alloc (Nat.le_refl _) _).trans b1)
 clear h1 b1 o1
 go_wp2_with fail
 refine HS.out.mono ?_
 rintro e w2 ⟨rfl, h2, b2, o2⟩
 go_wp2_with fail
 go_ret
 exact ⟨by simp, B1.out.trans b2⟩
set_option maxHeartbeats 400000 in
theorem specJoin_any (v : Value) (x : List (List UInt8)) (sep : ByteArray) (w : World) (hR : RowAt w v (x.map strV)) (hm : (joinL x sep.data.toList).length ≤ 70368744177664) (hsep : sep.size ≤ 70368744177664) :
  Calls Tryz.prog 171 #[v, .string sep] w fun e w' => e = .returned (.string ⟨(joinL x sep.data.toList).toArray⟩) ∧ Below w.heap.size w w' := by
 obtain ⟨a, c, rfl, hl⟩ := rowAt_len hR
 rw [List.length_map] at *
 have HR := Lib.hid hR
 have HM := Lib.hid (fun k hk => Nat.le_trans (joinK_mono x sep.data.toList k x.length hk) hm)
 clear hR hm
 unfold maxLen at hl
 go_enter Tryz.func171, Tryz.ntmps171
 go_wp2_with fail
 go_loopw [5, 6, 7, 10] (fun sv _ _ i wr => ∃ k : Nat, k ≤ x.length ∧ i = .int .i64 k ∧ sv = .string ⟨(joinK x sep.data.toList k).toArray⟩ ∧ ∃ nq, wr = w.drewN nq) (fun _ _ _ i _ => x.length - (intOf i).toNat)
 case atStart => exact ⟨0, Nat.zero_le _, rfl, rfl, 0, rfl⟩
 case round =>
  obtain ⟨k, hk, rfl, rfl, nq, rfl⟩ := hrel
  have hmk := HM.out k hk
  by_cases hlt : k < x.length
  ·obtain ⟨b, o, rfl, hbw, d1⟩ := rowAt_cell HR.out k (by simpa using hlt)
   rw [getElem_map_strV] at d1
   unfold strV at d1
   have hmk1 := HM.out (k + 1) (by omega)
   have HX := Lib.hid (show x.getD k [] = x[k] by simp [List.getD, List.getElem?_eq_getElem hlt])
   have hxl : (joinK x sep.data.toList k).length + (x[k]).length ≤ 70368744177664 := by
    simp only [joinK, List.length_append, HX.out] at hmk1; omega
   clear hmk1
   by_cases h0 : 0 < k
   ·go_wp2_with fail
    exact ⟨⟨k + 1, by omega, by go_num, strEq (by rw [data_app, data_app]; simp only [joinK, if_pos h0, HX.out]), _, rfl⟩, by simp [intOf]; omega⟩
   ·go_wp2_with fail
    exact ⟨⟨k + 1, by omega, by go_num, strEq (by rw [data_app]; simp only [joinK, if_neg h0, HX.out, List.append_nil]), _, rfl⟩, by simp [intOf]; omega⟩
  ·have HN := Lib.hid (show k = x.length by omega)
   go_wp2_with fail
   go_ret
   exact ⟨ret_str (by rw [HN.out]; rfl), below_drewN (Below.refl _ _) _⟩
set_option maxHeartbeats 800000 in
theorem implJoin_any (v : Value) (x : List (List UInt8)) (sep : ByteArray) (w : World) (hR : RowAt w v (x.map strV)) (hm : (joinL x sep.data.toList).length ≤ 70368744177664) (hsep : sep.size ≤ 70368744177664) :
  Calls Tryz.prog 213 #[v, .string sep] w fun e w' => e = .returned (.string ⟨(joinL x sep.data.toList).toArray⟩) ∧ Below w.heap.size w w' := by
 obtain ⟨a, c, rfl, hl⟩ := rowAt_len hR
 rw [List.length_map] at *
 have HR := Lib.hid hR
 have HM := Lib.hid (fun k hk => Nat.le_trans (joinK_mono x sep.data.toList k x.length hk) hm)
 have HF := Lib.hid (Lib.fresh_isBuilder 156 5 w)
 clear hR hm
 unfold maxLen at hl
 go_enter Tryz.func213, Tryz.ntmps213
 go_wp2_with fail
 go_loopw [6, 7, 10] (fun _ _ i wr => ∃ k : Nat, k ≤ x.length ∧ i = .int .i64 k ∧ Lib.IsBuilderF 156 5 w.heap.size w.heap.size (Lib.byteCells (joinK x sep.data.toList k)) wr ∧ Below w.heap.size w wr) (fun _ _ i _ => x.length - (intOf i).toNat)
 case atStart => exact ⟨0, Nat.zero_le _, rfl, Lib.IsBuilderF.of HF.out, (Below.refl _ _).alloc (Nat.le_refl _) _⟩
 case round =>
  obtain ⟨k, hk, rfl, hI, hb⟩ := hrel
  have HI := Lib.hid hI
  have HB := Lib.hid hb
  have HRr := Lib.hid (RowAt.below HR.out hb (Nat.le_refl _))
  clear hI hb
  have hmk := HM.out k hk
  by_cases hlt : k < x.length
  ·obtain ⟨b, o, rfl, hbw, d1⟩ := rowAt_cell HRr.out k (by simpa using hlt)
   rw [getElem_map_strV] at d1
   unfold strV at d1
   have hmk1 := HM.out (k + 1) (by omega)
   have HX := Lib.hid (show x.getD k [] = x[k] by simp [List.getD, List.getElem?_eq_getElem hlt])
   have hss := size_list sep
   have hxl : (joinK x sep.data.toList k).length + (x[k]).length + (if 0 < k then sep.size else 0) ≤ 70368744177664 := by
    simp only [joinK, List.length_append, HX.out] at hmk1; split <;> rename_i h <;> simp [h] at hmk1 <;> omega
   have HSS := Lib.hid hss
   clear hmk1 hss
   by_cases h0 : 0 < k
   ·simp only [if_pos h0] at hxl
    go_wp2_with fail
    refine (writeText_any w.heap.size w.heap.size _ sep wr HI.out (by omega) HB.out.size).mono ?_
    rintro e w1 ⟨rfl, hI1, hb1, ho1⟩
    have HI1 := Lib.hid hI1
    have HB1 := Lib.hid (HB.out.trans hb1)
    clear hI1 hb1 ho1
    go_wp2_with fail
    refine (writeText_any w.heap.size w.heap.size _ ⟨(x[k]).toArray⟩ w1 HI1.out (by have := HSS.out; simp [size_strB]; omega) HB1.out.size).mono ?_
    rintro e w2 ⟨rfl, hI2, hb2, ho2⟩
    have HI2 := Lib.hid hI2
    have HB2 := Lib.hid (HB1.out.trans hb2)
    clear hI2 hb2 ho2
    go_wp2_with fail
    refine ⟨⟨k + 1, by omega, by go_num, ?_, HB2.out⟩, by simp [intOf]; omega⟩
    have h := HI2.out
    simp only [joinK, if_pos h0, HX.out]
    exact h
   ·simp only [if_neg h0] at hxl
    go_wp2_with fail
    refine (writeText_any w.heap.size w.heap.size _ ⟨(x[k]).toArray⟩ wr HI.out (by simp [size_strB]; omega) HB.out.size).mono ?_
    rintro e w2 ⟨rfl, hI2, hb2, ho2⟩
    have HI2 := Lib.hid hI2
    have HB2 := Lib.hid (HB.out.trans hb2)
    clear hI2 hb2 ho2
    go_wp2_with fail
    refine ⟨⟨k + 1, by omega, by go_num, ?_, HB2.out⟩, by simp [intOf]; omega⟩
    have h := HI2.out
    simp only [joinK, if_neg h0, HX.out, List.append_nil]
    exact h
  ·have HN := Lib.hid (show k = x.length by omega)
   go_wp2_with fail
   refine (string_k w.heap.size w.heap.size _ wr HI.out HB.out.size).mono ?_
   rintro e w2 ⟨rfl, h2, b2, o2⟩
   have HB2 := Lib.hid (HB.out.trans b2)
   clear h2 b2 o2
   go_wp2_with fail
   go_ret
   exact ⟨ret_str (by rw [HN.out]; rfl), HB2.out⟩
def I64 (x : Int) : Prop := -9223372036854775808 ≤ x ∧ x ≤ 9223372036854775807
section
variable {P : Program} {t xT asserted E : TypeId} {want : Array (String × TypeId)}
theorem ta_has (hu : P.underlying asserted = some (.interface want)) (h : (P.info? t).map (fun i => (lacking want i.methods).isEmpty) = some true)
  (v : Value) (xT : TypeId) (w : World) : (Instr.typeAssert (.iface t v) xT asserted false).run P w = .ok (.iface t v) w := by
 obtain ⟨i, hi, hl⟩ := Option.map_eq_some_iff.1 h
 simp [Instr.typeAssert, run_underlying hu, typeInfo, hi, missingMethod_none (List.isEmpty_iff.1 hl)]
theorem ta_lacks (hu : P.underlying asserted = some (.interface want)) (h : (P.info? t).map (fun i => (lacking want i.methods).isEmpty) = some false) (hE : P.underlying P.rt.typeAssertionError = some (.pointer E)) :
  ∃ c : Array Value, ∀ (v : Value) (xT : TypeId) (w : World), (Instr.typeAssert (.iface t v) xT asserted false).run P w = .halt (.panic (.iface P.rt.typeAssertionError (.pointer (some ⟨w.heap.size, 0, none⟩)))) (w.alloc (.cells c E)) := by
 obtain ⟨i, hi, hl⟩ := Option.map_eq_some_iff.1 h
 obtain ⟨m, hm⟩ := missingMethod_some (want := want) (got := i.methods) (fun e => by rw [e] at hl; cases hl)
 refine ⟨#[.pointer none, typeHandle P t, typeHandle P asserted, strVal m], fun v xT w => ?_⟩
 simp [Instr.typeAssert, run_underlying hu, typeInfo, hi, hm, runtimePanic, elemOf, run_underlying hE, newVar, newRow, Value.cells, goPanic]
end
theorem cell_set_at {w : World} {b o : Nat} {u : Value} (hb : (w.cell? ⟨b, o, none⟩).isSome = true) : (w.setCell ⟨b, o, none⟩ u).cell? ⟨b, o, none⟩ = some u := by
 obtain ⟨x, hx⟩ := Option.isSome_iff_exists.1 hb
 exact World.cell?_setCell_same w _ _ hx
theorem cell_set_ne {w : World} {b i j : Nat} {u : Value} (h : i ≠ j) : (w.setCell ⟨b, i, none⟩ u).cell? ⟨b, j, none⟩ = w.cell? ⟨b, j, none⟩ := World.cell?_setCell_other (a := ⟨b, i, none⟩) (b := ⟨b, j, none⟩) (h := fun e => h (by injection e)) ..
theorem rtE : ∃ E, Tryz.prog.underlying Tryz.prog.rt.typeAssertionError = some (.pointer E) := ⟨244, by kernel_rfl⟩
def Has (I T : TypeId) : Prop := ∀ (v : Value) (xT : TypeId) (w : World), (Instr.typeAssert (.iface T v) xT I false).run Tryz.prog w = .ok (.iface T v) w
def Fails (I T : TypeId) : Prop := ∃ (c : Array Value) (E : TypeId), ∀ (v : Value) (xT : TypeId) (w : World), (Instr.typeAssert (.iface T v) xT I false).run Tryz.prog w = .halt (.panic (.iface Tryz.prog.rt.typeAssertionError (.pointer (some ⟨w.heap.size, 0, none⟩)))) (w.alloc (.cells c E))
theorem fails_of {I T : TypeId} {want : Array (String × TypeId)} (hu : Tryz.prog.underlying I = some (.interface want)) (h : (Tryz.prog.info? T).map (fun i => (lacking want i.methods).isEmpty) = some false) : Fails I T := by
 obtain ⟨E, hE⟩ := rtE
 obtain ⟨c, hc⟩ := ta_lacks (t := T) hu h hE
 exact ⟨c, E, hc⟩
def Panics (w : World) (e : Ending) (w' : World) : Prop := ∃ pv, e = .panicked [{ v := .iface Tryz.prog.rt.typeAssertionError pv, recovered := false }] ∧ Below w.heap.size w w'
def RowsAt (w : World) (v : Value) (k n : Nat) (cs : List Value) : Prop :=
 ∃ a c, v = .slice a n (n + c) ∧ cs.length = n * k ∧ n ≤ maxLen ∧ (n = 0 ∨ ∃ b o, a = some ⟨b, o, none⟩ ∧ b < w.heap.size ∧ ∀ i, i < n * k → w.cell? ⟨b, o + i, none⟩ = cs[i]?)
theorem RowsAt.below {w w' : World} {v : Value} {k n : Nat} {xs : List Value} {B : Nat} (h : RowsAt w v k n xs) (hb : Below B w w') (hB : w.heap.size ≤ B) : RowsAt w' v k n xs := by
 obtain ⟨a, c, rfl, hl, hm, h⟩ := h
 refine ⟨a, c, rfl, hl, hm, h.imp id ?_⟩
 rintro ⟨b, o, rfl, hlt, hc⟩
 exact ⟨b, o, rfl, Nat.lt_of_lt_of_le hlt hb.size, fun i hi => by rw [hb.cell (p := ⟨b, o + i, none⟩) (Nat.lt_of_lt_of_le hlt hB)]; exact hc i hi⟩
theorem flat_len {α : Type} (f : α → List Value) (k : Nat) (hk : ∀ x, (f x).length = k) (l : List α) : (l.flatMap f).length = l.length * k := by
 induction l with
 | nil => simp
 | cons d r ih => rw [List.flatMap_cons, List.length_append, ih, hk, List.length_cons, Nat.succ_mul, Nat.add_comm]
theorem flat_get {α : Type} (f : α → List Value) (k : Nat) (hk : ∀ x, (f x).length = k) (l : List α) (i : Nat) (h : i < l.length) (j : Nat) (hj : j < k) : (l.flatMap f)[i * k + j]? = (f l[i])[j]? := by
 induction l generalizing i with
 | nil => simp at h
 | cons d r ih =>
  rw [List.flatMap_cons]
  cases i with
  | zero => rw [Nat.zero_mul, Nat.zero_add, List.getElem?_append_left (by rw [hk]; exact hj)]; rfl
  | succ i =>
   have h2 := ih i (by simpa using h)
   rw [List.getElem?_append_right (by rw [hk, Nat.succ_mul]; omega), hk, show (i + 1) * k + j - k = i * k + j by rw [Nat.succ_mul]; omega]
   exact h2
def FlatAt {α : Type} (f : α → List Value) (k : Nat) (w : World) (v : Value) (l : List α) : Prop := RowsAt w v k l.length (l.flatMap f)
theorem FlatAt.below {α : Type} {f : α → List Value} {k : Nat} {w w' : World} {v : Value} {l : List α} {B : Nat} (h : FlatAt f k w v l) (hb : Below B w w') (hB : w.heap.size ≤ B) : FlatAt f k w' v l := RowsAt.below h hb hB
theorem flatAt_len {α : Type} {f : α → List Value} {k : Nat} {w : World} {v : Value} {l : List α} (h : FlatAt f k w v l) : ∃ a c, v = .slice a l.length c ∧ l.length ≤ maxLen := by
 obtain ⟨a, c, rfl, _, hm, _⟩ := h; exact ⟨a, _, rfl, hm⟩
theorem flatAt_cell {α : Type} {f : α → List Value} {k : Nat} (hk : ∀ x, (f x).length = k) {w : World} {a : Option Addr} {n c : Nat} {l : List α} (h : FlatAt f k w (.slice a n c) l) (i : Nat) (hi : i < l.length) (h0 : 0 < k) :
  ∃ b o, a = some ⟨b, o, none⟩ ∧ b < w.heap.size ∧ ∀ j, j < k → w.cell? ⟨b, o + i * k + j, none⟩ = (f l[i])[j]? := by
 obtain ⟨a', c', e, hl, hm, h⟩ := h
 injection e with e1 e2 e3
 subst e1
 rcases h with h | ⟨b, o, rfl, hlt, hc⟩
 ·omega
 ·refine ⟨b, o, rfl, hlt, fun j hj => ?_⟩
  rw [Nat.add_assoc, hc (i * k + j) ?_, flat_get f k hk l i hi j hj]
  have h1 : (i + 1) * k ≤ l.length * k := Nat.mul_le_mul_right k hi
  rw [Nat.succ_mul] at h1; omega
def OwnsF {α : Type} (f : α → List Value) (E k : Nat) (w : World) (B : Nat) (v : Value) (l : List α) : Prop := w.ownsRow B E k v l.length (l.flatMap f)
theorem ownsF_at {α : Type} {f : α → List Value} {E k : Nat} {w : World} {B : Nat} {v : Value} {l : List α} (h : OwnsF f E k w B v l) (hm : l.length ≤ 4194304) : FlatAt f k w v l := by
 have hl := h.1
 rcases h.2 with ⟨rfl, hn⟩ | ⟨g, cap, cur, rfl, hb, hg, hn, hc, hs, ht⟩
 ·exact ⟨none, 0, by rw [hn], hl, by unfold maxLen; omega, Or.inl hn⟩
 ·refine ⟨_, _, cap_eq _ hn, hl, by unfold maxLen; omega, Or.inr ⟨g, 0, rfl, (Array.getElem?_eq_some_iff.1 hg).1, fun i hi => ?_⟩⟩
  rw [Nat.zero_add]
  exact World.ownsRow.cellAt h i hi
theorem ownsF_new {α : Type} (f : α → List Value) (E k : Nat) (w : World) : OwnsF f E k (w.alloc (.cells #[] E)) w.heap.size (.slice (some ⟨w.heap.size, 0, none⟩) 0 0) [] :=
 World.ownsRow_made w #[] 0 (Nat.le_refl _) (Nat.zero_le _) (by simp)
theorem ownsF_alloc {α : Type} {f : α → List Value} {E k : Nat} {w : World} {B : Nat} {v : Value} {l : List α} (h : OwnsF f E k w B v l) (o : Obj) : OwnsF f E k (w.alloc o) B v l := World.ownsRow.alloc h o
theorem ownsF_below {α : Type} {f : α → List Value} {E k : Nat} {w w' : World} {B B' : Nat} {v : Value} {l : List α} (h : OwnsF f E k w B v l) (hb : Below B' w w') (hB : w.heap.size ≤ B') : OwnsF f E k w' B v l := ownsRow_below h hb hB
theorem below_appendF {α : Type} {f : α → List Value} {E k : Nat} {a w w' : World} {B : Nat} {v : Value} {l : List α} (hb : Below B a w) (hO : OwnsF f E k w B v l) (hg : w.grownBy w' v.ownBlock) (hB : B ≤ w.heap.size) : Below B a w' :=
 hb.grown hg hB (fun j hj => (World.ownsRow.lt hO j hj).1)
def GivesF {α : Type} (f : α → List Value) (E k : Nat) (l : List α) (w : World) (e : Ending) (w' : World) : Prop := ∃ v, e = .returned v ∧ OwnsF f E k w' w.heap.size v l ∧ Below w.heap.size w w'
theorem append_flat {α : Type} {f : α → List Value} {E S k bytes : Nat} {z : Value} (hk : ∀ x, (f x).length = k) (h1 : ∀ x, ∀ u ∈ f x, u.oneCell' = true) (hinfo : (Tryz.prog.info? E).map (fun i => (i.zero, i.size, i.bytes)) = some (some z, k, bytes))
  (hz : z.cells.size = k) (hk0 : 0 < k) (hbytes : bytes ≤ 1024) (hS : Tryz.prog.underlying S = some (.slice E))
  {ops : Array Oper} {rest : List Oper} {o : Oper} {a : Act} {Q : Exit → Act → World → Prop} (hgd : o.guard = none) (s x : Operand)
  (ho : o.op = .call { callee := .builtin .append, args := #[s, x], argTypes := #[S, S] }) (B : Nat) (v : Value) (l : List α) (y : α) (w : World) (blk : Nat)
  (hs : a.eval s = v) (hO : OwnsF f E k w B v l) (hx : a.eval x = .slice (some ⟨blk, 0, none⟩) 1 1) (hc : ∀ j, j < k → w.cell? ⟨blk, j, none⟩ = (f y)[j]?) (hl : l.length ≤ 4194304) (hB : B ≤ w.heap.size)
  (h : ∀ v' w', OwnsF f E k w' B v' (l ++ [y]) → w.grownBy w' v.ownBlock → wpList Tryz.prog ops Q rest (a.put o.dst v') w') : wpList Tryz.prog ops Q (o :: rest) a w := by
 obtain ⟨i0, hi, hz0, hz1, hz2⟩ := info_parts hinfo
 refine wpList_append_own _ hgd s x S ho B E i0 z k bytes hS hi hz0 hz1 hz2 hz hk0 v l.length (l.flatMap f) hs hO ⟨blk, 0, none⟩ 1 1 (f y) hx (by rw [hk, Nat.one_mul]) ?_ ?_ (by unfold maxLen; omega) ?_ hB ?_
 ·intro j u hj
  have hj2 : j < k := by have := (List.getElem?_eq_some_iff.1 hj).1; rwa [hk] at this
  rw [Addr.add_lit, Nat.zero_add, hc j hj2]; exact hj
 ·exact h1 y
 ·have : (l.length + 1) * bytes ≤ 4194305 * 1024 := Nat.mul_le_mul (by omega) hbytes
  omega
 ·intro v' w' h2 h3 _
  refine h v' w' ?_ h3
  unfold OwnsF; rw [List.flatMap_append, List.length_append]; simpa using h2
def sumF {α : Type} (sz : α → Nat) : List α → Nat
 | [] => 0
 | x :: r => sz x + sumF sz r
theorem sumF_mem {α : Type} (sz : α → Nat) (x : List α) (a : α) (h : a ∈ x) : sz a ≤ sumF sz x := by
 induction x with
 | nil => simp at h
 | cons b r ih =>
  rcases List.mem_cons.1 h with h | h
  ·subst h; simp only [sumF]; omega
  ·have := ih h; simp only [sumF]; omega
theorem rows_apart {w : World} {B B' : Nat} {e e' : TypeId} {k k' n m : Nat} {v u : Value} {xs ys : List Value} (h : w.ownsRow B e k v n xs) (h' : w.ownsRow B' e' k' u m ys) (hne : e ≠ e') : v.ownBlock = none ∨ v.ownBlock ≠ u.ownBlock := by
 rcases h.2 with ⟨rfl, _⟩ | ⟨g, cap, cur, rfl, _, hg, _⟩
 ·exact Or.inl rfl
 ·right
  rcases h'.2 with ⟨rfl, _⟩ | ⟨g2, cap2, cur2, rfl, _, hg2, _⟩
  ·simp [Value.ownBlock]
  ·intro e
   simp [Value.ownBlock] at e
   subst e
   rw [hg] at hg2
   injection hg2 with hg2
   injection hg2 with _ h2 _
   exact hne h2
theorem owns_keptF {α : Type} {f : α → List Value} {E k : Nat} {w w' : World} {B B' : Nat} {v u : Value} {xs : List (List UInt8)} {l : List α} (h : Owns w B v xs) (h' : OwnsF f E k w B' u l) (hg : w.grownBy w' u.ownBlock) (hne : 9 ≠ E) : Owns w' B v xs :=
 World.ownsRow.kept h hg (rows_apart h h' hne)
theorem ownsF_keptF {α β : Type} {f : α → List Value} {f' : β → List Value} {E E' k k' : Nat} {w w' : World} {B B' : Nat} {v u : Value} {l : List α} {l' : List β} (h : OwnsF f E k w B v l) (h' : OwnsF f' E' k' w B' u l') (hg : w.grownBy w' u.ownBlock) (hne : E ≠ E') : OwnsF f E k w' B v l :=
 World.ownsRow.kept h hg (rows_apart h h' hne)
theorem ownsF_base {α : Type} {f : α → List Value} {E k : Nat} {w : World} {B B' : Nat} {v : Value} {l : List α} (h : OwnsF f E k w B v l) (hB : B' ≤ B) : OwnsF f E k w B' v l := by
 refine ⟨h.1, h.2.imp id ?_⟩
 rintro ⟨g, cap, cur, h1, h2, h3⟩
 exact ⟨g, cap, cur, h1, Nat.le_trans hB h2, h3⟩
theorem ownsF_set {α : Type} {f : α → List Value} {E k : Nat} {w : World} {B : Nat} {v : Value} {l : List α} {p : Addr} {u : Value} (h : OwnsF f E k w B v l) (hp : p.block < B) : OwnsF f E k (w.setCell p u) B v l := by
 refine World.ownsRow.kept h (row := some p.block) ⟨rfl, rfl, rfl, by simp, fun i hi hne => Below.heap_setCell w p u i (fun e => hne (by rw [e]))⟩ ?_
 cases hv : v.ownBlock with
 | none => exact Or.inl rfl
 | some g => right; intro e; have h1 := (World.ownsRow.lt h g hv).1; injection e with e; omega
structure CellD where
 fKey : List UInt8
 fValue : Int
deriving DecidableEq
def cCell (d : CellD) : List Value := [.string ⟨d.fKey.toArray⟩, .int .i64 d.fValue]
theorem cCell_len (d : CellD) : (cCell d).length = 2 := rfl
theorem cCell_one (d : CellD) : ∀ u ∈ cCell d, u.oneCell' = true := by intro u hu; simp only [cCell, List.mem_cons, List.not_mem_nil, or_false] at hu; rcases hu with rfl | rfl <;> rfl
def zCell (d : CellD) : Nat := d.fKey.length
theorem infoCell : (Tryz.prog.info? 139).map (fun i => (i.zero, i.size, i.bytes)) = some (some (.agg #[.string ⟨#[]⟩, .int .i64 0]), 2, 24) := by kernel_rfl
structure CoreD where
 fKind : List UInt8
 fOn : Bool
 fBroken : Bool
 fCells : List CellD
 fCount : Int
deriving DecidableEq
def vCore (d : CoreD) (cv : Value) : Value := .agg #[.string ⟨d.fKind.toArray⟩, .bool d.fOn, .bool d.fBroken, cv, .int .i64 d.fCount]
def CoreAt (w : World) (v : Value) (d : CoreD) : Prop := ∃ cv, v = vCore d cv ∧ FlatAt cCell 2 w cv d.fCells
def OwnsCore (w : World) (B : Nat) (v : Value) (d : CoreD) : Prop := ∃ cv, v = vCore d cv ∧ OwnsF cCell 139 2 w B cv d.fCells
def GivesCore (d : CoreD) (w : World) (e : Ending) (w' : World) : Prop := ∃ v, e = .returned v ∧ OwnsCore w' w.heap.size v d ∧ Below w.heap.size w w'
theorem CoreAt.below {w w' : World} {v : Value} {d : CoreD} {B : Nat} (h : CoreAt w v d) (hb : Below B w w') (hB : w.heap.size ≤ B) : CoreAt w' v d := by
 obtain ⟨cv, rfl, h⟩ := h; exact ⟨cv, rfl, h.below hb hB⟩
theorem bcell {W w1 : World} (hb : Below W.heap.size W w1) : (∀ b o, b < W.heap.size → w1.cell? ⟨b, o, none⟩ = W.cell? ⟨b, o, none⟩) ∧ (∀ b o, b < W.heap.size → w1.frozen? ⟨b, o, none⟩ = W.frozen? ⟨b, o, none⟩) :=
 ⟨fun b o h => hb.cell (p := ⟨b, o, none⟩) h, fun b o h => hb.frozen (p := ⟨b, o, none⟩) h⟩
def zCore (d : CoreD) : Nat := d.fKind.length + (d.fCells.length + sumF zCell d.fCells)
structure Kept (F : Nat) (w w' : World) : Prop where
 size : w.heap.size ≤ w'.heap.size
 block : ∀ k, F ≤ k → k < w.heap.size → w'.heap[k]? = w.heap[k]?
theorem Kept.refl (F : Nat) (w : World) : Kept F w w := ⟨Nat.le_refl _, fun _ _ _ => rfl⟩
theorem Kept.trans {F : Nat} {a b c : World} (h : Kept F a b) (k : Kept F b c) : Kept F a c :=
 ⟨Nat.le_trans h.size k.size, fun i hF hi => (k.block i hF (Nat.lt_of_lt_of_le hi h.size)).trans (h.block i hF hi)⟩
theorem Kept.mono {F F' : Nat} {a b : World} (h : Kept F a b) (hF : F ≤ F') : Kept F' a b := ⟨h.size, fun i h1 hi => h.block i (Nat.le_trans hF h1) hi⟩
theorem kept_below {B F : Nat} {w w' : World} (h : Below B w w') (hB : w.heap.size ≤ B) : Kept F w w' := ⟨h.size, fun i _ hi => h.block i (Nat.lt_of_lt_of_le hi hB)⟩
theorem Kept.alloc {F : Nat} {a w : World} (h : Kept F a w) (o : Obj) : Kept F a (w.alloc o) := h.trans (kept_below ((Below.refl w.heap.size w).alloc (Nat.le_refl _) o) (Nat.le_refl _))
theorem Kept.setCell {F : Nat} {a w : World} (h : Kept F a w) {p : Addr} (hp : p.block < F) (u : Value) : Kept F a (w.setCell p u) :=
 ⟨by simpa using h.size, fun i hF hi => (Below.heap_setCell w p u i (by omega)).trans (h.block i hF hi)⟩
theorem Kept.drew {F : Nat} {a w : World} (h : Kept F a w) : Kept F a w.drew := ⟨h.size, h.block⟩
theorem Kept.drewN {F : Nat} {a w : World} (h : Kept F a w) (n : Nat) : Kept F a (w.drewN n) := ⟨h.size, h.block⟩
theorem Kept.grown {F : Nat} {a w w' : World} {r : Option Nat} (h : Kept F a w) (hg : w.grownBy w' r) (hr : ∀ b, r = some b → b < F) : Kept F a w' :=
 h.trans ⟨hg.size, fun i hF hi => hg.block i hi (fun e => by have := hr i e.symm; omega)⟩
theorem Kept.cell {F : Nat} {w w' : World} (h : Kept F w w') (b o : Nat) (h1 : F ≤ b) (h2 : b < w.heap.size) : w'.cell? ⟨b, o, none⟩ = w.cell? ⟨b, o, none⟩ := World.cell?_of_block (h.block b h1 h2)
structure Good {α : Type} (R : Nat → World → List Value → α → Prop) (k : Nat) : Prop where
 len : ∀ {F w cs x}, R F w cs x → cs.length = k
 keep : ∀ {F w w' cs x}, R F w cs x → Kept F w w' → R F w' cs x
 mono : ∀ {F F' w cs x}, R F w cs x → F' ≤ F → R F' w cs x
def rFlat {α : Type} (f : α → List Value) : Nat → World → List Value → α → Prop := fun _ _ cs x => cs = f x
theorem good_flat {α : Type} {f : α → List Value} {k : Nat} (hk : ∀ x, (f x).length = k) : Good (rFlat f) k :=
 ⟨fun h => by rw [h]; exact hk _, fun h _ => h, fun h _ => h⟩
def SliceAt {α : Type} (R : Nat → World → List Value → α → Prop) (k F : Nat) (w : World) (v : Value) (l : List α) : Prop :=
 ∃ a c, v = .slice a l.length (l.length + c) ∧ l.length ≤ maxLen ∧ (l.length = 0 ∨ ∃ b o, a = some ⟨b, o, none⟩ ∧ F ≤ b ∧ b < w.heap.size ∧ ∀ (i : Nat) (h : i < l.length), ∃ cs, R F w cs l[i] ∧ ∀ j, j < k → w.cell? ⟨b, o + i * k + j, none⟩ = cs[j]?)
section
variable {α : Type} {R : Nat → World → List Value → α → Prop} {k : Nat}
theorem SliceAt.keep {F : Nat} {w w' : World} {v : Value} {l : List α} (h : SliceAt R k F w v l) (g : Good R k) (hk : Kept F w w') : SliceAt R k F w' v l := by
 obtain ⟨a, c, rfl, hl, h⟩ := h
 refine ⟨a, c, rfl, hl, h.imp id ?_⟩
 rintro ⟨b, o, rfl, hF, hlt, hc⟩
 refine ⟨b, o, rfl, hF, Nat.lt_of_lt_of_le hlt hk.size, fun i hi => ?_⟩
 obtain ⟨cs, h1, h2⟩ := hc i hi
 exact ⟨cs, g.keep h1 hk, fun j hj => (hk.cell b _ hF hlt).trans (h2 j hj)⟩
theorem SliceAt.below {F B : Nat} {w w' : World} {v : Value} {l : List α} (h : SliceAt R k F w v l) (g : Good R k) (hb : Below B w w') (hB : w.heap.size ≤ B) : SliceAt R k F w' v l := h.keep g (kept_below hb hB)
theorem SliceAt.mono {F F' : Nat} {w : World} {v : Value} {l : List α} (h : SliceAt R k F w v l) (g : Good R k) (hF : F' ≤ F) : SliceAt R k F' w v l := by
 obtain ⟨a, c, rfl, hl, h⟩ := h
 refine ⟨a, c, rfl, hl, h.imp id ?_⟩
 rintro ⟨b, o, rfl, hF2, hlt, hc⟩
 refine ⟨b, o, rfl, Nat.le_trans hF hF2, hlt, fun i hi => ?_⟩
 obtain ⟨cs, h1, h2⟩ := hc i hi
 exact ⟨cs, g.mono h1 hF, h2⟩
theorem sliceAt_len {F : Nat} {w : World} {v : Value} {l : List α} (h : SliceAt R k F w v l) : ∃ a c, v = .slice a l.length c ∧ l.length ≤ maxLen := by
 obtain ⟨a, c, rfl, hl, _⟩ := h; exact ⟨a, _, rfl, hl⟩
theorem sliceAt_cap {F : Nat} {w : World} {v : Value} {l : List α} (h : SliceAt R k F w v l) : ∃ a c, v = .slice a l.length c ∧ l.length ≤ maxLen ∧ l.length ≤ c := by
 obtain ⟨a, c, rfl, hl, _⟩ := h; exact ⟨a, _, rfl, hl, by omega⟩
theorem sliceAt_cell {F : Nat} {w : World} {a : Option Addr} {n c : Nat} {l : List α} (h : SliceAt R k F w (.slice a n c) l) (i : Nat) (hi : i < l.length) :
  ∃ b o cs, a = some ⟨b, o, none⟩ ∧ b < w.heap.size ∧ R F w cs l[i] ∧ ∀ j, j < k → w.cell? ⟨b, o + i * k + j, none⟩ = cs[j]? := by
 obtain ⟨a', c', e, hl, h⟩ := h
 injection e with e1 e2 e3
 subst e1
 rcases h with h | ⟨b, o, rfl, _, hlt, hc⟩
 ·omega
 ·obtain ⟨cs, h1, h2⟩ := hc i hi
  exact ⟨b, o, cs, rfl, hlt, h1, h2⟩
theorem sliceAt_take {F : Nat} {w : World} {a : Option Addr} {n c c' : Nat} {l : List α} (h : SliceAt R k F w (.slice a n c) l) (m : Nat) (hm : m ≤ l.length) (hc' : m ≤ c') : SliceAt R k F w (.slice a m c') (l.take m) := by
 obtain ⟨a', c2, e, hl, h⟩ := h
 injection e with e1 e2 e3
 subst e1
 have hlen : (l.take m).length = m := by rw [List.length_take]; omega
 refine ⟨a, c' - m, by rw [hlen, Nat.add_sub_of_le hc'], by omega, ?_⟩
 rcases h with h | ⟨b, o, rfl, hF, hlt, hc⟩
 ·exact Or.inl (by omega)
 ·refine Or.inr ⟨b, o, rfl, hF, hlt, fun i hi => ?_⟩
  have hi2 : i < l.length := by omega
  obtain ⟨cs, h1, h2⟩ := hc i hi2
  exact ⟨cs, by rw [List.getElem_take]; exact h1, h2⟩
def Cells (R : Nat → World → List Value → α → Prop) (k F : Nat) (w : World) (xs : List Value) (l : List α) : Prop := ∀ (i : Nat) (h : i < l.length), ∃ cs, R F w cs l[i] ∧ ∀ j, j < k → xs[i * k + j]? = cs[j]?
theorem Cells.keep {F : Nat} {w w' : World} {xs : List Value} {l : List α} (h : Cells R k F w xs l) (g : Good R k) (hk : Kept F w w') : Cells R k F w' xs l := by
 intro i hi
 obtain ⟨cs, h1, h2⟩ := h i hi
 exact ⟨cs, g.keep h1 hk, h2⟩
theorem Cells.nil (F : Nat) (w : World) (xs : List Value) : Cells R k F w xs ([] : List α) := fun i hi => absurd hi (Nat.not_lt_zero _)
theorem sliceAt_of_row {F E : Nat} {w : World} {B : Nat} {v : Value} {xs : List Value} {l : List α} (h : w.ownsRow B E k v l.length xs) (hc : Cells R k F w xs l) (hF : F ≤ B) (hm : l.length ≤ 4194304) : SliceAt R k F w v l := by
 have hl := h.1
 rcases h.2 with ⟨rfl, hn⟩ | ⟨g, cap, cur, rfl, hb, hg, hn, hc2, hs, ht⟩
 ·exact ⟨none, 0, by rw [hn], by unfold maxLen; omega, Or.inl hn⟩
 ·refine ⟨_, _, cap_eq _ hn, by unfold maxLen; omega, Or.inr ⟨g, 0, rfl, by omega, (Array.getElem?_eq_some_iff.1 hg).1, fun i hi => ?_⟩⟩
  obtain ⟨cs, e1, e2⟩ := hc i hi
  refine ⟨cs, e1, fun j hj => ?_⟩
  rw [Nat.zero_add, World.ownsRow.cellAt h (i * k + j) ?_]
  ·exact e2 j hj
  ·have h3 : (i + 1) * k ≤ l.length * k := Nat.mul_le_mul_right k hi
   rw [Nat.succ_mul] at h3; omega
end
section
variable {α : Type} {f : α → List Value} {k : Nat}
theorem flatAt_of_slice {F : Nat} {w : World} {v : Value} {l : List α} (hk : ∀ x, (f x).length = k) (hk0 : 0 < k) (h : SliceAt (rFlat f) k F w v l) : FlatAt f k w v l := by
 obtain ⟨a, c, rfl, hm, h⟩ := h
 refine ⟨a, c, rfl, flat_len f k hk l, hm, h.imp id ?_⟩
 rintro ⟨b, o, rfl, _, hlt, hc⟩
 refine ⟨b, o, rfl, hlt, fun i hi => ?_⟩
 have hq : i / k < l.length := Nat.div_lt_of_lt_mul (by rw [Nat.mul_comm]; exact hi)
 have hr : i % k < k := Nat.mod_lt _ hk0
 obtain ⟨cs, h1, h2⟩ := hc (i / k) hq
 have h3 := h2 (i % k) hr
 have e1 : i / k * k + i % k = i := by rw [Nat.mul_comm]; exact Nat.div_add_mod i k
 rw [show o + i / k * k + i % k = o + i by omega] at h3
 rw [h3, ← e1, flat_get f k hk l (i / k) hq (i % k) hr, h1, e1]
theorem sliceAt_of_owns {E : Nat} {w : World} {B : Nat} {v : Value} {l : List α} (hk : ∀ x, (f x).length = k) (h : OwnsF f E k w B v l) (hm : l.length ≤ 4194304) : SliceAt (rFlat f) k B w v l := by
 refine sliceAt_of_row h (fun i hi => ⟨f l[i], rfl, fun j hj => flat_get f k hk l i hi j hj⟩) (Nat.le_refl _) hm
end
theorem belS {w X w' : World} (h : Below w.heap.size w X) (hb : Below X.heap.size X w') : Below w.heap.size w w' := h.trans (hb.mono h.size)
structure Bx (w : World) (b : Nat) (cs : List Value) : Prop where
 lt : b < w.heap.size
 cell : ∀ j (h : j < cs.length), w.cell? ⟨b, j, none⟩ = some (cs[j]'h)
 froz : ∀ j, j < cs.length → w.frozen? ⟨b, j, none⟩ = false
theorem Bx.below {w w' : World} {b : Nat} {cs : List Value} (h : Bx w b cs) (hb : Below w.heap.size w w') : Bx w' b cs :=
 ⟨Nat.lt_of_lt_of_le h.lt hb.size, fun j hj => (hb.cell (p := ⟨b, j, none⟩) h.lt).trans (h.cell j hj), fun j hj => (hb.frozen (p := ⟨b, j, none⟩) h.lt).trans (h.froz j hj)⟩
theorem bx_set_ne {w : World} {b c i j : Nat} {u : Value} (h : b ≠ c ∨ i ≠ j) : (w.setCell ⟨c, j, none⟩ u).cell? ⟨b, i, none⟩ = w.cell? ⟨b, i, none⟩ :=
 World.cell?_setCell_other (a := ⟨c, j, none⟩) (b := ⟨b, i, none⟩) (h := fun e => by injection e with e1 e2; rcases h with h | h <;> omega) ..
theorem Bx.set {w : World} {b : Nat} {cs : List Value} (h : Bx w b cs) (j : Nat) (hj : j < cs.length) (u : Value) : Bx (w.setCell ⟨b, j, none⟩ u) b (cs.set j u) := by
 refine ⟨by simpa using h.lt, fun i hi => ?_, fun i hi => ?_⟩
 ·have hi2 : i < cs.length := by rwa [List.length_set] at hi
  by_cases hij : i = j
  ·subst hij
   rw [World.cell?_setCell_same' w ⟨b, i, none⟩ u (by rw [h.cell i hi2]; rfl)]; simp
  ·rw [bx_set_ne (Or.inr hij), h.cell i hi2, List.getElem_set_ne (by omega)]
 ·rw [List.length_set] at hi
  simpa using h.froz i hi
theorem Bx.other {w : World} {b c : Nat} {cs : List Value} (h : Bx w b cs) (hne : b ≠ c) (j : Nat) (u : Value) : Bx (w.setCell ⟨c, j, none⟩ u) b cs :=
 ⟨by simpa using h.lt, fun i hi => (bx_set_ne (Or.inl hne)).trans (h.cell i hi), fun i hi => by simpa using h.froz i hi⟩
theorem Bx.new (w : World) (cs : List Value) (t : TypeId) : Bx (w.alloc (.cells cs.toArray t)) w.heap.size cs :=
 ⟨by simp, fun j hj => by rw [cell_of_row _ _ j _ t (0, 0) (heap_alloc_new w _)]; simp [List.getElem?_eq_getElem hj], fun j hj => by simp⟩
theorem bx_box (w : World) (o : Obj) : Below w.heap.size w (w.alloc o) := (Below.refl _ _).alloc (Nat.le_refl _) o
theorem Bx.alloc {w : World} {b : Nat} {cs : List Value} (h : Bx w b cs) (o : Obj) : Bx (w.alloc o) b cs := h.below (bx_box w o)
theorem bx_start1 (w : World) (c1 : List Value) (t1 : TypeId) : Bx (w.alloc (.cells c1.toArray t1)) w.heap.size c1 ∧ Below w.heap.size w (w.alloc (.cells c1.toArray t1)) := ⟨Bx.new w c1 t1, bx_box w _⟩
theorem bx_start2 (w : World) (c1 c2 : List Value) (t1 t2 : TypeId) : Bx ((w.alloc (.cells c1.toArray t1)).alloc (.cells c2.toArray t2)) w.heap.size c1 ∧ Bx ((w.alloc (.cells c1.toArray t1)).alloc (.cells c2.toArray t2)) (w.heap.size + 1) c2 ∧ Below w.heap.size w ((w.alloc (.cells c1.toArray t1)).alloc (.cells c2.toArray t2)) := by
 have h := Bx.new (w.alloc (.cells c1.toArray t1)) c2 t2
 rw [show (w.alloc (.cells c1.toArray t1)).heap.size = w.heap.size + 1 by simp] at h
 exact ⟨(Bx.new w c1 t1).alloc _, h, belS (bx_box w _) (bx_box _ _)⟩
theorem bx_start3 (w : World) (c1 c2 c3 : List Value) (t1 t2 t3 : TypeId) : Bx (((w.alloc (.cells c1.toArray t1)).alloc (.cells c2.toArray t2)).alloc (.cells c3.toArray t3)) w.heap.size c1 ∧ Bx (((w.alloc (.cells c1.toArray t1)).alloc (.cells c2.toArray t2)).alloc (.cells c3.toArray t3)) (w.heap.size + 1) c2 ∧ Bx (((w.alloc (.cells c1.toArray t1)).alloc (.cells c2.toArray t2)).alloc (.cells c3.toArray t3)) (w.heap.size + 1 + 1) c3 ∧ Below w.heap.size w (((w.alloc (.cells c1.toArray t1)).alloc (.cells c2.toArray t2)).alloc (.cells c3.toArray t3)) := by
 obtain ⟨h1, h2, h3⟩ := bx_start2 w c1 c2 t1 t2
 have h := Bx.new ((w.alloc (.cells c1.toArray t1)).alloc (.cells c2.toArray t2)) c3 t3
 rw [show ((w.alloc (.cells c1.toArray t1)).alloc (.cells c2.toArray t2)).heap.size = w.heap.size + 1 + 1 by simp] at h
 exact ⟨h1.alloc _, h2.alloc _, h, belS h3 (bx_box _ _)⟩
def ValAt {α : Type} (R : Nat → World → List Value → α → Prop) (F : Nat) (w : World) (v : Value) (x : α) : Prop := ∃ cs, v = .agg cs.toArray ∧ R F w cs x
theorem ValAt.keep {α : Type} {R : Nat → World → List Value → α → Prop} {k F : Nat} {w w' : World} {v : Value} {x : α} (h : ValAt R F w v x) (g : Good R k) (hk : Kept F w w') : ValAt R F w' v x := by
 obtain ⟨cs, rfl, h⟩ := h; exact ⟨cs, rfl, g.keep h hk⟩
theorem ValAt.below {α : Type} {R : Nat → World → List Value → α → Prop} {k F B : Nat} {w w' : World} {v : Value} {x : α} (h : ValAt R F w v x) (g : Good R k) (hb : Below B w w') (hB : w.heap.size ≤ B) : ValAt R F w' v x := h.keep g (kept_below hb hB)
theorem slice_of {α : Type} {f : α → List Value} {E k : Nat} {w : World} {B : Nat} {v : Value} {l : List α} (h : OwnsF f E k w B v l) : ∃ a c, v = .slice a l.length c := by
 rcases h.2 with ⟨rfl, hn⟩ | ⟨g, cap, cur, rfl, _⟩
 ·exact ⟨none, 0, by rw [hn]⟩
 ·exact ⟨_, _, rfl⟩
instance : Inhabited CellD := ⟨⟨[], 0⟩⟩
def numB (n : Int) : Bool := decide (0 ≤ n) && decide (n ≤ 999)
def okAt (l : List CellD) (i : Nat) : Bool := nameB (l.getD i default).fKey && numB (l.getD i default).fValue && (decide (i = 0) || Op.bytesLess (l.getD (i - 1) default).fKey (l.getD i default).fKey)
def okTo (l : List CellD) (k : Nat) : Bool := (List.range k).all (okAt l)
def cellsB (l : List CellD) : Bool := decide (l.length ≤ 4) && okTo l l.length
theorem okTo_succ (l : List CellD) (k : Nat) : okTo l (k + 1) = (okTo l k && okAt l k) := by simp [okTo, List.range_succ]
theorem okTo_at (l : List CellD) (k i : Nat) (h : okTo l k = true) (hi : i < k) : okAt l i = true := by
 unfold okTo at h; rw [List.all_eq_true] at h; exact h i (by rw [List.mem_range]; exact hi)
theorem cellsB_bad (l : List CellD) (k : Nat) (hk : k < l.length) (h : okAt l k = false) : cellsB l = false := by
 cases hc : cellsB l with
 | false => rfl
 | true =>
  simp only [cellsB, Bool.and_eq_true] at hc
  rw [okTo_at l _ k hc.2 hk] at h; exact absurd h (by simp)
theorem cellsB_long (l : List CellD) (h : 4 < l.length) : cellsB l = false := by unfold cellsB; rw [show decide (l.length ≤ 4) = false by simpa using h]; rfl
theorem cellsB_end (l : List CellD) (h : okTo l l.length = true) : cellsB l = decide (l.length ≤ 4) := by unfold cellsB; rw [h, Bool.and_true]
theorem cellsB_len {l : List CellD} (h : cellsB l = true) : l.length ≤ 4 := by simp only [cellsB, Bool.and_eq_true, decide_eq_true_iff] at h; exact h.1
theorem cellsB_mem {l : List CellD} (h : cellsB l = true) : ∀ d ∈ l, nameB d.fKey = true ∧ numB d.fValue = true := by
 intro d hd
 obtain ⟨i, hi, rfl⟩ := List.mem_iff_getElem.1 hd
 simp only [cellsB, Bool.and_eq_true] at h
 have := okTo_at l _ i h.2 hi
 simp only [okAt, Bool.and_eq_true] at this
 rw [List.getD_eq_getElem?_getD, List.getElem?_eq_getElem hi] at this
 exact this.1
theorem getD_at (l : List CellD) (i : Nat) (h : i < l.length) : l.getD i default = l[i] := by rw [List.getD_eq_getElem?_getD, List.getElem?_eq_getElem h]; rfl
theorem okAt_of (l : List CellD) (i : Nat) (h : i < l.length) (x y z : Bool) (hx : nameB (l[i]).fKey = x) (hy : numB (l[i]).fValue = y) (hz : (decide (i = 0) || Op.bytesLess (l.getD (i - 1) default).fKey (l[i]).fKey) = z) : okAt l i = (x && y && z) := by
 unfold okAt; rw [getD_at l i h, hx, hy, hz]
theorem cell_info : (Tryz.prog.info? 139).map (fun i => (i.zero, i.size, i.bytes)) = some (some (.agg #[.string ⟨#[]⟩, .int .i64 0]), 2, 24) := by kernel_rfl
theorem cell_newC (w : World) (y : CellD) (blk : Nat) (h : blk = w.heap.size) : ∀ j, j < 2 → (w.alloc (.cells #[.string ⟨y.fKey.toArray⟩, .int .i64 y.fValue] 139)).cell? ⟨blk, j, none⟩ = (cCell y)[j]? := by
 subst h
 intro j hj
 rw [cell_of_row _ _ _ _ 139 (0, 0) (heap_alloc_new w _)]
 simp [cCell]
end Go.Proofs.YtcpbikilgacdlaaGreat
namespace Go.Proofs.YtcpbikilgacdlaaGreat
set_option linter.unusedVariables false
set_option linter.unusedSimpArgs false
open Go.RowKit
theorem step_cells {ops : Array Oper} {o : Oper} {a : Act} {K : Act → World → Prop} {Q : Exit → Act → World → Prop} {E : Prop} (hgd : o.guard = none) (s x : Operand)
  (ho : o.op = .call { callee := .builtin .append, args := #[s, x], argTypes := #[32, 32] }) (B : Nat) (v : Value) (l : List CellD) (y : CellD) (w : World) (blk : Nat)
  (hs : a.eval s = v) (hO : OwnsF cCell 139 2 w B v l) (hx : a.eval x = .slice (some ⟨blk, 0, none⟩) 1 1) (hc : ∀ j, j < 2 → w.cell? ⟨blk, j, none⟩ = (cCell y)[j]?) (hl : l.length ≤ 4194304) (hB : B ≤ w.heap.size)
  (h : ∀ v' w', OwnsF cCell 139 2 w' B v' (l ++ [y]) → w.grownBy w' v.ownBlock → K (a.put o.dst v') w') : if Region.wanted o (yielded ops a.tmps) = true then Oper.wp Tryz.prog o a w K Q else E := by
 obtain ⟨i0, hi, hz0, hz1, hz2⟩ := info_parts cell_info
 refine step_append_lies w hgd s x 32 ho B 139 i0 _ 2 24 Tryz.underlying32 hi hz0 hz1 hz2 rfl (by decide) v l.length (l.flatMap cCell) hs hO ⟨blk, 0, none⟩ 1 1 (cCell y) hx rfl ?_ (cCell_one y) (by decide) (by unfold maxLen; omega) (by omega) hB _ rfl ?_
 ·intro j u hj
  have hj2 : j < 2 := (List.getElem?_eq_some_iff.1 hj).1
  rw [Addr.add_lit, Nat.zero_add, hc j hj2]; exact hj
 ·intro g cap w' h1 h2 _ _
  refine h _ w' ?_ h2
  unfold OwnsF; rw [List.flatMap_append, List.length_append]; simpa using h1
theorem ownsF_drew {α : Type} {f : α → List Value} {E k : Nat} {w : World} {B : Nat} {v : Value} {l : List α} (h : OwnsF f E k w B v l) : OwnsF f E k w.drew B v l := h
set_option maxRecDepth 100000 in
set_option maxHeartbeats 3200000 in
theorem copyCore_c (v : Value) (d : CoreD) (w : World) (hx : CoreAt w v d) (hm : d.fCells.length ≤ 2097152) (hs : ∀ c ∈ d.fCells, c.fKey.length ≤ 1048576) (hk : d.fKind.length ≤ 1048576) :
  Calls Tryz.prog 77 #[v] w fun e w' => GivesCore d w e w' := by
 obtain ⟨cv, rfl, hx⟩ := hx
 obtain ⟨i0, hi, hz0, hz1, hz2⟩ := info_parts cell_info
 obtain ⟨kd, on, br, l, cnt⟩ := d
 unfold vCore
 simp only at *
 obtain ⟨a, c, rfl, hl⟩ := flatAt_len hx
 have HX := Lib.hid hx
 have HS := Lib.hid hs
 clear hx hs
 unfold maxLen at hl
 have HB0 := Lib.hid (show ∀ o1 o2, Below w.heap.size w ((w.alloc o1).alloc o2) from fun o1 o2 => ((Below.refl _ _).alloc (Nat.le_refl _) _).alloc (by simp) _)
 have HKD := Lib.hid (fun W => copyText_any ⟨kd.toArray⟩ W (by rw [← size_list]; simp; omega))
 have hb2 : i0.bytes * l.length ≤ 281474976710656 := by rw [hz2]; omega
 have HB2 := Lib.hid hb2
 have HM := Lib.hid (show l.length ≤ maxLen from by unfold maxLen; omega)
 clear hb2
 go_enter Tryz.func77, Tryz.ntmps77
 go_wp2_with (refine wpList_make_own _ rfl _ _ 32 rfl (w.heap.size + 1 + 1) 139 i0 _ 2 Tryz.underlying32 hi hz0 hz1 .i64 .i64 _ l.length rfl rfl rfl HB2.out HM.out (by simp) ?_; intro w1 hown1 hgrow1; have q0 : w1.cell? ⟨w.heap.size, 0, none⟩ = some (.string ⟨kd.toArray⟩) := hgrow1.cell (a := ⟨w.heap.size, 0, none⟩) (by simp [go_sem]) (by simp); have q1 : w1.cell? ⟨w.heap.size, 1, none⟩ = some (.bool on) := hgrow1.cell (a := ⟨w.heap.size, 1, none⟩) (by simp [go_sem]) (by simp); have q2 : w1.cell? ⟨w.heap.size, 2, none⟩ = some (.bool br) := hgrow1.cell (a := ⟨w.heap.size, 2, none⟩) (by simp [go_sem]) (by simp); have q3 : w1.cell? ⟨w.heap.size, 3, none⟩ = some (.slice a l.length c) := hgrow1.cell (a := ⟨w.heap.size, 3, none⟩) (by simp [go_sem]) (by simp); have q4 : w1.cell? ⟨w.heap.size, 4, none⟩ = some (.int .i64 cnt) := hgrow1.cell (a := ⟨w.heap.size, 4, none⟩) (by simp [go_sem]) (by simp); have r0 : w1.cell? ⟨w.heap.size + 1, 0, none⟩ = some (.string ⟨#[]⟩) := hgrow1.cell (a := ⟨w.heap.size + 1, 0, none⟩) (by simp [go_sem]) (by simp); have r1 : w1.cell? ⟨w.heap.size + 1, 1, none⟩ = some (.bool false) := hgrow1.cell (a := ⟨w.heap.size + 1, 1, none⟩) (by simp [go_sem]) (by simp); have r2 : w1.cell? ⟨w.heap.size + 1, 2, none⟩ = some (.bool false) := hgrow1.cell (a := ⟨w.heap.size + 1, 2, none⟩) (by simp [go_sem]) (by simp); have r3 : w1.cell? ⟨w.heap.size + 1, 3, none⟩ = some (.slice none 0 0) := hgrow1.cell (a := ⟨w.heap.size + 1, 3, none⟩) (by simp [go_sem]) (by simp); have r4 : w1.cell? ⟨w.heap.size + 1, 4, none⟩ = some (.int .i64 0) := hgrow1.cell (a := ⟨w.heap.size + 1, 4, none⟩) (by simp [go_sem]) (by simp))
 have HO0 := Lib.hid (show OwnsF cCell 139 2 w1 (w.heap.size + 1 + 1) (.slice (some ⟨w.heap.size + 1 + 1, 0, none⟩) 0 l.length) (l.take 0) from by simpa [OwnsF] using hown1)
 have HW1 := Lib.hid (show Below w.heap.size w w1 from (HB0.out _ _).trans ⟨hgrow1.os, hgrow1.tape, hgrow1.output, hgrow1.size, fun i hi => hgrow1.block i (by simp; omega) (by simp)⟩)
 have HS1 := Lib.hid (show w.heap.size + 1 + 1 ≤ w1.heap.size from by simpa using hgrow1.size)
 have HQ := Lib.hid (And.intro q0 (And.intro q1 (And.intro q2 (And.intro q3 q4))))
 have HR := Lib.hid (And.intro r0 (And.intro r1 (And.intro r2 (And.intro r3 r4))))
 have HZ := Lib.hid (show ∀ i o, i < w.heap.size + 1 + 1 → w.heap.size ≤ i → w1.frozen? ⟨i, o, none⟩ = false from fun i o h1 h2 => by
  rw [World.frozen?_of_block (a := ⟨i, o, none⟩) (hgrow1.block i (by simpa using h1) (by simp))]
  rcases (show i = w.heap.size ∨ i = w.heap.size + 1 by omega) with rfl | rfl <;> simp [go_sem])
 clear hown1 hgrow1 hz0 hz1 hz2 HB2 hi r0 r1 r2 r3 r4
 go_loopw [3, 5, 13] (fun u _ i wr => ∃ k : Nat, k ≤ l.length ∧ i = .int .i64 k ∧ OwnsF cCell 139 2 wr (w.heap.size + 1 + 1) u (l.take k) ∧ Below (w.heap.size + 1 + 1) w1 wr) (fun _ _ i _ => l.length - (intOf i).toNat)
 case atStart => exact ⟨0, Nat.zero_le _, rfl, HO0.out, Below.refl _ _⟩
 case round =>
  obtain ⟨k, hk2, rfl, hO, hb⟩ := hrel
  have HO := Lib.hid hO
  have HB := Lib.hid hb
  have HBw := Lib.hid (show Below w.heap.size w wr from HW1.out.trans (hb.mono (by omega)))
  have HXr := Lib.hid (FlatAt.below HX.out HBw.out (Nat.le_refl _))
  have HLT := Lib.hid (show ∀ g, u3.ownBlock = some g → g < wr.heap.size from fun g h => (World.ownsRow.lt hO g h).2)
  have HSZ := Lib.hid (Nat.le_trans HS1.out hb.size)
  clear hO hb
  by_cases hlt : k < l.length
  ·obtain ⟨b, o, rfl, hbl, hd⟩ := flatAt_cell cCell_len HXr.out k hlt (by decide)
   have d0 := hd 0 (by decide)
   have d1 := hd 1 (by decide)
   clear hd
   have HSN := Lib.hid (show l.take (k + 1) = l.take k ++ [l[k]] from by rw [List.take_succ_eq_append_getElem hlt])
   have hks := HS.out l[k] (List.getElem_mem hlt)
   generalize l[k] = p at *
   obtain ⟨a0, a1⟩ := p
   simp only [cCell, List.getElem?_cons_zero, List.getElem?_cons_succ, Nat.add_zero] at d0 d1 hks
   have HCT := Lib.hid (fun W => copyText_any ⟨a0.toArray⟩ W (by rw [← size_list]; simp; omega))
   clear hks
   go_wp2_with fail
   go_region_held3 (fun w' => w'.cell? ⟨wr.heap.size, 0, none⟩ = some (.string ⟨a0.toArray⟩) ∧ w'.cell? ⟨wr.heap.size, 1, none⟩ = some (.int .i64 a1))
    (first
     | go_keep
     |(rw [hb1.cell (p := ⟨wr.heap.size, 0, none⟩) (by simp), hb1.cell (p := ⟨wr.heap.size, 1, none⟩) (by simp)]; assumption)
     |(rw [hg1.cell_far ⟨wr.heap.size, 0, none⟩ (by have := hb1.size; simp at *; omega) (by intro e; have := HLT.out _ e.symm; simp at this), hg1.cell_far ⟨wr.heap.size, 1, none⟩ (by have := hb1.size; simp at *; omega) (by intro e; have := HLT.out _ e.symm; simp at this)]; assumption))
    (first
     |(go_at_call 105; (with_reducible refine (HCT.out _).mono ?_); rintro e w2 ⟨rfl, hb1⟩)
     |(refine step_cells rfl _ _ rfl (w.heap.size + 1 + 1) u3 (l.take k) ⟨a0, a1⟩ _ w2.heap.size rfl (ownsF_alloc (ownsF_below (ownsF_drew (ownsF_alloc HO.out _)) hb1 (Nat.le_refl _)) _) rfl (cell_newC w2 ⟨a0, a1⟩ _ rfl) ?_ ?_ ?_; (simp; omega); (have h1 := hb1.size; have h2 := HSZ.out; simp at h1; simp; omega); intro v' w4 hO4 hg1))
   have HA := Lib.hid (((Below.refl wr.heap.size wr).alloc (Nat.le_refl _) (.cells #[.string ⟨a0.toArray⟩, .int .i64 a1] 139)).drew)
   have HA1 := Lib.hid ((HA.out.trans (hb1.mono HA.out.size)).alloc (HA.out.trans (hb1.mono HA.out.size)).size (.cells #[.string ⟨a0.toArray⟩, .int .i64 a1] 139))
   have HA2 := Lib.hid (HB.out.trans (HA1.out.mono (HSZ.out)))
   have HA3 := Lib.hid (below_appendF HA2.out (ownsF_alloc (ownsF_below (ownsF_drew (ownsF_alloc HO.out _)) hb1 (Nat.le_refl _)) _) hg1 (Nat.le_trans HS1.out HA2.out.size))
   have HO4 := Lib.hid hO4
   rename_i hheld
   clear hb1 hg1 hO4 hheld
   go_wp2_with fail
   exact ⟨⟨k + 1, by omega, by go_num, by rw [HSN.out]; exact HO4.out, HA3.out⟩, by simp [intOf]; omega⟩
  ·have HOl := Lib.hid (show OwnsF cCell 139 2 wr (w.heap.size + 1 + 1) u3 l from by have h := HO.out; rw [List.take_of_length_le (by omega)] at h; exact h)
   obtain ⟨ua, uc, rfl⟩ : ∃ ua uc, u3 = .slice ua l.length uc := by
    rcases HOl.out.2 with ⟨rfl, hn⟩ | ⟨g, cap, cur, rfl, _⟩
    ·exact ⟨none, 0, by rw [hn]⟩
    ·exact ⟨_, _, rfl⟩
   obtain ⟨q0, q1, q2, q3, q4⟩ := HQ.out
   obtain ⟨r0, r1, r2, r3, r4⟩ := HR.out
   replace q0 := (HB.out.cell (p := ⟨w.heap.size, 0, none⟩) (by simp; omega)).trans q0
   replace q1 := (HB.out.cell (p := ⟨w.heap.size, 1, none⟩) (by simp; omega)).trans q1
   replace q2 := (HB.out.cell (p := ⟨w.heap.size, 2, none⟩) (by simp; omega)).trans q2
   replace q3 := (HB.out.cell (p := ⟨w.heap.size, 3, none⟩) (by simp; omega)).trans q3
   replace q4 := (HB.out.cell (p := ⟨w.heap.size, 4, none⟩) (by simp; omega)).trans q4
   replace r0 := (HB.out.cell (p := ⟨w.heap.size + 1, 0, none⟩) (by simp)).trans r0
   replace r1 := (HB.out.cell (p := ⟨w.heap.size + 1, 1, none⟩) (by simp)).trans r1
   replace r2 := (HB.out.cell (p := ⟨w.heap.size + 1, 2, none⟩) (by simp)).trans r2
   replace r3 := (HB.out.cell (p := ⟨w.heap.size + 1, 3, none⟩) (by simp)).trans r3
   replace r4 := (HB.out.cell (p := ⟨w.heap.size + 1, 4, none⟩) (by simp)).trans r4
   have z0 : ∀ o, wr.frozen? ⟨w.heap.size, o, none⟩ = false := fun o => (HB.out.frozen (p := ⟨w.heap.size, o, none⟩) (by simp; omega)).trans (HZ.out _ o (by omega) (by omega))
   have z1 : ∀ o, wr.frozen? ⟨w.heap.size + 1, o, none⟩ = false := fun o => (HB.out.frozen (p := ⟨w.heap.size + 1, o, none⟩) (by simp)).trans (HZ.out _ o (by omega) (by omega))
   have hsz := HSZ.out
   have hl0 : w.heap.size < wr.heap.size := by omega
   have hl1 : w.heap.size + 1 < wr.heap.size := by omega
   go_wp2_with fail
   refine (HKD.out _).mono ?_
   rintro e w5 ⟨rfl, hb5⟩
   have HB5 := Lib.hid hb5
   obtain ⟨hcc, hff⟩ := bcell hb5
   clear hb5
   go_wp2_with fail
   refine bodyPost_ret (v := .agg #[.string ⟨kd.toArray⟩, .bool on, .bool br, .slice ua l.length uc, .int .i64 cnt]) (by simp [results, Tryz.results77, go_sem, cell_set_at, cell_set_ne, hcc, q0, q1, q2, q3, q4, r0, r1, r2, r3, r4, hl0, hl1]) rfl ?_
   refine ⟨_, rfl, ⟨_, rfl, ?_⟩, ?_⟩
   ·refine ownsF_base (B := w.heap.size + 1 + 1) ?_ (by omega)
    repeat (with_reducible refine ownsF_set ?_ (by simp; try omega))
    exact ownsF_below HOl.out HB5.out (Nat.le_refl _)
   ·repeat (with_reducible refine Below.setCell ?_ (by simp; try omega) _)
    exact HBw.out.trans (HB5.out.mono (by omega))
end Go.Proofs.YtcpbikilgacdlaaGreat
namespace Go.Proofs.YtcpbikilgacdlaaGreat
set_option linter.unusedVariables false
open Go.RowKit
set_option maxHeartbeats 800000 in
theorem implAbilityOfMethod_any (s : ByteArray) (w : World) :
  Calls Tryz.prog 96 #[.string s] w fun e w' => e = .returned (.int .i64 (abOfM s.data.toList)) ∧ Below w.heap.size w w' := by
 go_enter Tryz.func96, Tryz.ntmps96
 go_wp2_with fail
 go_loopw [3, 4] (fun _ i wr => ∃ k : Nat, k ≤ 6 ∧ i = .int .i64 k ∧ findK (fun k => decide (s.data.toList ∈ mthN k)) k (6 - k) = abOfM s.data.toList ∧ Below w.heap.size w wr) (fun _ i _ => 6 - (intOf i).toNat)
 case atStart => exact ⟨0, Nat.zero_le _, rfl, rfl, Below.refl _ _⟩
 case round =>
  obtain ⟨k, hk, rfl, hf, hb⟩ := hrel
  have HF := Lib.hid hf
  have HB := Lib.hid hb
  clear hf hb
  by_cases hlt : k < 6
  ·go_wp2_with fail
   refine (implMethods_any k hlt wr).mono ?_
   rintro e w1 ⟨rfl, rfl⟩
   have HC := Lib.hid (contains_any _ (mthN k) s _ (mth_row wr k (mthN k).length))
   have HB1 := Lib.hid (HB.out.alloc HB.out.size (.cells ((mthN k).map strV).toArray 9))
   cases hx : decide (s.data.toList ∈ mthN k) with
   | true =>
    rw [hx] at HC
    have HR := Lib.hid (show (k : Int) = abOfM s.data.toList from by rw [← HF.out]; exact (findK_yes hlt hx).symm)
    clear hx
    go_wp2_with fail
    refine HC.out.mono ?_
    rintro e w2 ⟨rfl, rfl⟩
    go_wp2_with fail
    go_ret
    exact ⟨ret_int HR.out, HB1.out⟩
   | false =>
    rw [hx] at HC
    have HR := Lib.hid (show findK (fun k => decide (s.data.toList ∈ mthN k)) (k + 1) (6 - (k + 1)) = abOfM s.data.toList from by rw [← HF.out]; exact (findK_no hlt hx).symm)
    clear hx
    go_wp2_with fail
    refine HC.out.mono ?_
    rintro e w2 ⟨rfl, rfl⟩
    go_wp2_with fail
    exact ⟨⟨k + 1, by omega, by go_num, HR.out, HB1.out⟩, by simp [intOf]; omega⟩
  ·have HR := Lib.hid (show (-1 : Int) = abOfM s.data.toList from by rw [← HF.out, show k = 6 by omega]; exact findK_end.symm)
   go_wp2_with fail
   go_ret
   exact ⟨ret_int HR.out, HB.out⟩
set_option maxHeartbeats 800000 in
theorem specAbilityOfMethod_any (s : ByteArray) (w : World) :
  Calls Tryz.prog 114 #[.string s] w fun e w' => e = .returned (.int .i64 (abOfM s.data.toList)) ∧ Below w.heap.size w w' := by
 go_enter Tryz.func114, Tryz.ntmps114
 go_wp2_with fail
 go_loopw [3] (fun i wr => ∃ k : Nat, k ≤ 6 ∧ i = .int .i64 k ∧ findK (fun k => decide (s.data.toList ∈ mthN k)) k (6 - k) = abOfM s.data.toList ∧ Below w.heap.size w wr) (fun i _ => 6 - (intOf i).toNat)
 case atStart => exact ⟨0, Nat.zero_le _, rfl, rfl, Below.refl _ _⟩
 case round =>
  obtain ⟨k, hk, rfl, hf, hb⟩ := hrel
  have HF := Lib.hid hf
  have HB := Lib.hid hb
  clear hf hb
  by_cases hlt : k < 6
  ·go_wp2_with fail
   refine (specMethods_any k hlt wr).mono ?_
   rintro e w1 ⟨rfl, rfl⟩
   have HC := Lib.hid (l1HasText_any _ (mthN k) s _ (mth_row wr k (mthN k).length))
   have HB1 := Lib.hid (HB.out.alloc HB.out.size (.cells ((mthN k).map strV).toArray 9))
   cases hx : decide (s.data.toList ∈ mthN k) with
   | true =>
    rw [hx] at HC
    have HR := Lib.hid (show (k : Int) = abOfM s.data.toList from by rw [← HF.out]; exact (findK_yes hlt hx).symm)
    clear hx
    go_wp2_with fail
    refine HC.out.mono ?_
    rintro e w2 ⟨rfl, rfl⟩
    go_wp2_with fail
    go_ret
    exact ⟨ret_int HR.out, HB1.out⟩
   | false =>
    rw [hx] at HC
    have HR := Lib.hid (show findK (fun k => decide (s.data.toList ∈ mthN k)) (k + 1) (6 - (k + 1)) = abOfM s.data.toList from by rw [← HF.out]; exact (findK_no hlt hx).symm)
    clear hx
    go_wp2_with fail
    refine HC.out.mono ?_
    rintro e w2 ⟨rfl, rfl⟩
    go_wp2_with fail
    exact ⟨⟨k + 1, by omega, by go_num, HR.out, HB1.out⟩, by simp [intOf]; omega⟩
  ·have HR := Lib.hid (show (-1 : Int) = abOfM s.data.toList from by rw [← HF.out, show k = 6 by omega]; exact findK_end.symm)
   go_wp2_with fail
   go_ret
   exact ⟨ret_int HR.out, HB.out⟩
def kindN : Nat → List UInt8
 | 0 => [115, 116, 111, 110, 101]
 | 1 => [108, 97, 109, 112]
 | 2 => [115, 104, 101, 108, 102]
 | 3 => [109, 101, 116, 101, 114]
 | 4 => [100, 114, 97, 119, 101, 114]
 | 5 => [104, 111, 114, 110]
 | 6 => [118, 97, 117, 108, 116]
 | 7 => [114, 111, 98, 111, 116]
 | _ => []
def kfN : Nat → Int
 | 0 => 0
 | 1 => 1
 | 2 => 2
 | 3 => 5
 | 4 => 3
 | 5 => 9
 | 6 => 19
 | 7 => 63
 | _ => 0
def kindI (s : List UInt8) : Int := findK (fun k => kindN k == s) 0 8
def kfI (i : Int) : Int := if i < 0 then 0 else kfN i.toNat
def kfV (i : Int) : Value := .tuple #[.int .i64 (kfI i), .bool (decide (0 ≤ i))]
theorem kfV_yes {i : Int} {k : Nat} (h : (k : Int) = i) : Value.tuple #[.int .i64 (kfN k), .bool true] = kfV i := by
 subst h; unfold kfV kfI; rw [if_neg (by omega)]; simp
theorem kfV_no {i : Int} (h : (-1 : Int) = i) : Value.tuple #[.int .i64 0, .bool false] = kfV i := by subst h; rfl
theorem kinds_cell (w : World) (k : Nat) (hk : k < 8) : (w.alloc (.cells #[.string ⟨#[115, 116, 111, 110, 101]⟩, .string ⟨#[108, 97, 109, 112]⟩, .string ⟨#[115, 104, 101, 108, 102]⟩, .string ⟨#[109, 101, 116, 101, 114]⟩, .string ⟨#[100, 114, 97, 119, 101, 114]⟩, .string ⟨#[104, 111, 114, 110]⟩, .string ⟨#[118, 97, 117, 108, 116]⟩, .string ⟨#[114, 111, 98, 111, 116]⟩] 9)).cell? ⟨w.heap.size, k, none⟩ = some (.string ⟨(kindN k).toArray⟩) := by
 rw [cell_of_row _ _ k _ 9 (0, 0) (heap_alloc_new w _)]
 rcases (show k = 0 ∨ k = 1 ∨ k = 2 ∨ k = 3 ∨ k = 4 ∨ k = 5 ∨ k = 6 ∨ k = 7 by omega) with rfl | rfl | rfl | rfl | rfl | rfl | rfl | rfl <;> rfl
set_option maxHeartbeats 800000 in
theorem specKind_any (s : ByteArray) (w : World) :
  Calls Tryz.prog 120 #[.string s] w fun e w' => e = .returned (kfV (kindI s.data.toList)) ∧ Below w.heap.size w w' := by
 have HD := Lib.hid (kinds_cell w)
 go_enter Tryz.func120, Tryz.ntmps120
 go_wp2_with fail
 go_loop [4, 5, 8] (fun _ _ i => ∃ k : Nat, k ≤ 8 ∧ i = .int .i64 k ∧ findK (fun k => kindN k == s.data.toList) k (8 - k) = kindI s.data.toList) (fun _ _ i => 8 - (intOf i).toNat)
 case atStart => exact ⟨0, Nat.zero_le _, rfl, rfl⟩
 case round =>
  obtain ⟨k, hk, rfl, hf⟩ := hrel
  have HF := Lib.hid hf
  clear hf
  by_cases hlt : k < 8
  ·have d1 := HD.out k hlt
   cases heq : (kindN k == s.data.toList) with
   | true =>
    have HR := Lib.hid (show (k : Int) = kindI s.data.toList from by rw [← HF.out]; exact (findK_yes hlt heq).symm)
    have hbeq : (kindN k == s.toList) = true := by rw [Lib.toList_data]; exact heq
    clear heq
    go_wp2_with fail
    go_ret2
    rcases (show k = 0 ∨ k = 1 ∨ k = 2 ∨ k = 3 ∨ k = 4 ∨ k = 5 ∨ k = 6 ∨ k = 7 by omega) with rfl | rfl | rfl | rfl | rfl | rfl | rfl | rfl <;> exact ⟨congrArg Ending.returned (kfV_yes HR.out), ((Below.refl _ _).alloc (Nat.le_refl _) _).alloc (by simp) _⟩
   | false =>
    have HR := Lib.hid (show findK (fun k => kindN k == s.data.toList) (k + 1) (8 - (k + 1)) = kindI s.data.toList from by rw [← HF.out]; exact (findK_no hlt heq).symm)
    have hbeq : (kindN k == s.toList) = false := by rw [Lib.toList_data]; exact heq
    clear heq
    go_wp2_with fail
    exact ⟨⟨k + 1, by omega, by go_num, HR.out⟩, by simp [intOf]; omega⟩
  ·have HR := Lib.hid (show (-1 : Int) = kindI s.data.toList from by rw [← HF.out, show k = 8 by omega]; exact findK_end.symm)
   go_wp2_with fail
   go_ret2
   exact ⟨congrArg Ending.returned (kfV_no HR.out), (Below.refl _ _).alloc (Nat.le_refl _) _⟩
def wantI (k : Int) : Int := if k < 0 then 0 else 2 ^ k.toNat
def wantF (m : List UInt8) : Int := wantI (abOfM m)
theorem findK_bd (p : Nat → Bool) : ∀ n k : Nat, findK p k n = -1 ∨ ∃ j : Nat, findK p k n = j ∧ j < k + n ∧ p j = true := by
 intro n
 induction n with
 | zero => intro k; exact Or.inl rfl
 | succ n ih =>
  intro k
  unfold findK
  split
  ·rename_i h; exact Or.inr ⟨k, rfl, by omega, h⟩
  ·rcases ih (k + 1) with h | ⟨j, h1, h2, h3⟩
   ·exact Or.inl h
   ·exact Or.inr ⟨j, h1, by omega, h3⟩
theorem abOfM_bd (m : List UInt8) : abOfM m = -1 ∨ ∃ j : Nat, abOfM m = j ∧ j < 6 := by
 rcases findK_bd (fun k => decide (m ∈ mthN k)) 6 0 with h | ⟨j, h1, h2, _⟩
 ·exact Or.inl h
 ·exact Or.inr ⟨j, h1, by omega⟩
set_option maxHeartbeats 800000 in
theorem specWant_any (s : ByteArray) (w : World) :
  Calls Tryz.prog 63 #[.string s] w fun e w' => e = .returned (.int .i64 (wantF s.data.toList)) ∧ Below w.heap.size w w' := by
 have HA := Lib.hid (specAbilityOfMethod_any s)
 have hb := abOfM_bd s.data.toList
 unfold wantF
 generalize abOfM s.data.toList = k at *
 rcases hb with rfl | ⟨j, rfl, hj⟩
 ·go_enter Tryz.func63, Tryz.ntmps63
  go_wp2_with fail
  refine (HA.out w).mono ?_
  rintro e w1 ⟨rfl, hb⟩
  go_wp2_with fail
  go_ret
  exact ⟨rfl, hb⟩
 ·have HP := Lib.hid (show wrap64 (2 ^ j) = wantI (j : Nat) by unfold wantI; rw [if_neg (by omega), pow_of j hj]; simp)
  go_enter Tryz.func63, Tryz.ntmps63
  go_wp2_with fail
  refine (HA.out w).mono ?_
  rintro e w1 ⟨rfl, hb⟩
  go_wp2_with fail
  go_ret
  exact ⟨ret_int HP.out, hb⟩
theorem bytes_eq (s : ByteArray) (l : List UInt8) : s.toList = l ↔ s = ⟨l.toArray⟩ := by
 rw [Lib.toList_data]
 constructor
 ·intro h; subst h; simp
 ·intro h; subst h; simp
theorem kindI_none (l : List UInt8) (h : ∀ k, k < 8 → kindN k ≠ l) : kindI l = -1 := by
 have : ∀ n k, k + n ≤ 8 → findK (fun k => kindN k == l) k n = -1 := by
  intro n
  induction n with
  | zero => intro k _; rfl
  | succ n ih =>
   intro k hk
   unfold findK
   rw [if_neg (by simpa using h k (by omega)), ih (k + 1) (by omega)]
 exact this 8 0 (by omega)
set_option maxHeartbeats 800000 in
theorem implKind_any (s : ByteArray) (w : World) :
  Calls Tryz.prog 99 #[.string s] w fun e w' => e = .returned (kfV (kindI s.data.toList)) ∧ w = w' := by
 by_cases h0 : s.toList = [115, 116, 111, 110, 101]
 ·rw [bytes_eq] at h0
  subst h0
  go_enter Tryz.func99, Tryz.ntmps99
  go_wp2
  go_ret2
  exact ⟨rfl, rfl⟩
 by_cases h1 : s.toList = [108, 97, 109, 112]
 ·rw [bytes_eq] at h1
  subst h1
  clear h0
  go_enter Tryz.func99, Tryz.ntmps99
  go_wp2
  go_ret2
  exact ⟨rfl, rfl⟩
 by_cases h2 : s.toList = [115, 104, 101, 108, 102]
 ·rw [bytes_eq] at h2
  subst h2
  clear h0 h1
  go_enter Tryz.func99, Tryz.ntmps99
  go_wp2
  go_ret2
  exact ⟨rfl, rfl⟩
 by_cases h3 : s.toList = [109, 101, 116, 101, 114]
 ·rw [bytes_eq] at h3
  subst h3
  clear h0 h1 h2
  go_enter Tryz.func99, Tryz.ntmps99
  go_wp2
  go_ret2
  exact ⟨rfl, rfl⟩
 by_cases h4 : s.toList = [100, 114, 97, 119, 101, 114]
 ·rw [bytes_eq] at h4
  subst h4
  clear h0 h1 h2 h3
  go_enter Tryz.func99, Tryz.ntmps99
  go_wp2
  go_ret2
  exact ⟨rfl, rfl⟩
 by_cases h5 : s.toList = [104, 111, 114, 110]
 ·rw [bytes_eq] at h5
  subst h5
  clear h0 h1 h2 h3 h4
  go_enter Tryz.func99, Tryz.ntmps99
  go_wp2
  go_ret2
  exact ⟨rfl, rfl⟩
 by_cases h6 : s.toList = [118, 97, 117, 108, 116]
 ·rw [bytes_eq] at h6
  subst h6
  clear h0 h1 h2 h3 h4 h5
  go_enter Tryz.func99, Tryz.ntmps99
  go_wp2
  go_ret2
  exact ⟨rfl, rfl⟩
 by_cases h7 : s.toList = [114, 111, 98, 111, 116]
 ·rw [bytes_eq] at h7
  subst h7
  clear h0 h1 h2 h3 h4 h5 h6
  go_enter Tryz.func99, Tryz.ntmps99
  go_wp2
  go_ret2
  exact ⟨rfl, rfl⟩
 have b0 : (s.toList == [115, 116, 111, 110, 101]) = false := by simpa using h0
 have b1 : (s.toList == [108, 97, 109, 112]) = false := by simpa using h1
 have b2 : (s.toList == [115, 104, 101, 108, 102]) = false := by simpa using h2
 have b3 : (s.toList == [109, 101, 116, 101, 114]) = false := by simpa using h3
 have b4 : (s.toList == [100, 114, 97, 119, 101, 114]) = false := by simpa using h4
 have b5 : (s.toList == [104, 111, 114, 110]) = false := by simpa using h5
 have b6 : (s.toList == [118, 97, 117, 108, 116]) = false := by simpa using h6
 have b7 : (s.toList == [114, 111, 98, 111, 116]) = false := by simpa using h7
 have HK := Lib.hid (show kindI s.data.toList = -1 from kindI_none _ (by
  rw [Lib.toList_data] at h0 h1 h2 h3 h4 h5 h6 h7
  intro k hk e
  rcases (show k = 0 ∨ k = 1 ∨ k = 2 ∨ k = 3 ∨ k = 4 ∨ k = 5 ∨ k = 6 ∨ k = 7 by omega) with rfl | rfl | rfl | rfl | rfl | rfl | rfl | rfl
  ·exact h0 e.symm
  ·exact h1 e.symm
  ·exact h2 e.symm
  ·exact h3 e.symm
  ·exact h4 e.symm
  ·exact h5 e.symm
  ·exact h6 e.symm
  ·exact h7 e.symm))
 clear h0 h1 h2 h3 h4 h5 h6 h7
 go_enter Tryz.func99, Tryz.ntmps99
 go_wp2
 go_ret2
 exact ⟨congrArg Ending.returned (kfV_no HK.out.symm), rfl⟩
theorem kindI_bd (l : List UInt8) : kindI l = -1 ∨ ∃ j : Nat, kindI l = j ∧ j < 8 ∧ kindN j = l := by
 rcases findK_bd (fun k => kindN k == l) 8 0 with h | ⟨j, h1, h2, h3⟩
 ·exact Or.inl h
 ·exact Or.inr ⟨j, h1, by omega, by simpa using h3⟩
theorem kfN_face (j : Nat) : isF (kfN j) = true := by unfold kfN; split <;> rfl
theorem kfI_face (i : Int) : isF (kfI i) = true := by unfold kfI; split; rfl; exact kfN_face _
def kindOff (l : List UInt8) (want : Int) : Bool := decide (0 ≤ kindI l) && offersF (kfI (kindI l)) want
set_option maxHeartbeats 800000 in
theorem kindOffers_any (s : ByteArray) (want : Int) (w : World) :
  Calls Tryz.prog 131 #[.string s, .int .i64 want] w fun e w' => e = .returned (.bool (kindOff s.data.toList want)) ∧ w = w' := by
 have HK := Lib.hid (implKind_any s)
 have HO := Lib.hid (implOffers_any (kfI (kindI s.data.toList)) want)
 unfold kindOff
 unfold kfV at HK
 generalize kfI (kindI s.data.toList) = f at *
 generalize decide (0 ≤ kindI s.data.toList) = b at *
 cases b
 ·go_enter Tryz.func131, Tryz.ntmps131
  go_wp2_with fail
  refine (HK.out _).mono ?_
  rintro e w1 ⟨rfl, rfl⟩
  go_wp2_with fail
  go_ret
  exact ⟨rfl, rfl⟩
 ·go_enter Tryz.func131, Tryz.ntmps131
  go_wp2_with fail
  refine (HK.out _).mono ?_
  rintro e w1 ⟨rfl, rfl⟩
  go_wp2_with fail
  refine (HO.out _).mono ?_
  rintro e w1 ⟨rfl, rfl⟩
  go_wp2_with fail
  go_ret
  exact ⟨rfl, rfl⟩
theorem kindOffers_b (l : List UInt8) (want : Int) (x : Bool) (h : kindOff l want = x) (w : World) :
  Calls Tryz.prog 131 #[.string ⟨l.toArray⟩, .int .i64 want] w fun e w' => e = .returned (.bool x) ∧ w = w' := by
 subst h; exact kindOffers_any ⟨l.toArray⟩ want w
set_option maxHeartbeats 400000 in
theorem isNumber_any (n : Int) (w : World) :
  Calls Tryz.prog 92 #[.int .i64 n] w fun e w' => e = .returned (.bool (numB n)) ∧ w = w' := by
 by_cases h0 : n < 0
 ·go_enter Tryz.func92, Tryz.ntmps92
  go_wp2
  go_ret
  exact ⟨ret_bool (by simp [numB]; omega), rfl⟩
 ·go_enter Tryz.func92, Tryz.ntmps92
  go_wp2
  go_ret
  exact ⟨ret_bool (by simp [numB]; omega), rfl⟩
theorem isNumber_b (n : Int) (x : Bool) (h : numB n = x) (w : World) :
  Calls Tryz.prog 92 #[.int .i64 n] w fun e w' => e = .returned (.bool x) ∧ w = w' := by
 subst h; exact isNumber_any n w
theorem implIsName_b (l : List UInt8) (x : Bool) (h : nameB l = x) (hs : l.length ≤ maxLen) (w : World) :
  Calls Tryz.prog 90 #[.string ⟨l.toArray⟩] w fun e w' => e = .returned (.bool x) ∧ w = w' := by
 subst h; have := implIsName_any ⟨l.toArray⟩ w (by rw [← size_list]; simpa using hs); simpa using this
theorem specIsName_b (l : List UInt8) (x : Bool) (h : nameB l = x) (hs : l.length ≤ maxLen) (w : World) :
  Calls Tryz.prog 111 #[.string ⟨l.toArray⟩] w fun e w' => e = .returned (.bool x) ∧ w = w' := by
 subst h; have := specIsName_any ⟨l.toArray⟩ w (by rw [← size_list]; simpa using hs); simpa using this
set_option maxRecDepth 100000 in
set_option maxHeartbeats 1600000 in
theorem implIsCells_any (v : Value) (l : List CellD) (w : World) (hx : FlatAt cCell 2 w v l) (hs : ∀ d ∈ l, d.fKey.length ≤ maxLen) :
  Calls Tryz.prog 130 #[v] w fun e w' => e = .returned (.bool (cellsB l)) ∧ Below w.heap.size w w' := by
 obtain ⟨a, c, rfl, hl⟩ := flatAt_len hx
 have HX := Lib.hid hx
 have HS := Lib.hid hs
 clear hx hs
 unfold maxLen at hl
 by_cases h4 : 4 < l.length
 ·have HN := Lib.hid (cellsB_long l h4)
  go_enter Tryz.func130, Tryz.ntmps130
  go_wp2_with fail
  go_ret
  exact ⟨ret_bool HN.out.symm, Below.refl _ _⟩
 ·have HL := Lib.hid (show decide (l.length ≤ 4) = true by simp; omega)
  go_enter Tryz.func130, Tryz.ntmps130
  go_wp2_with fail
  go_loopw [3, 4, 10] (fun _ _ i wr => ∃ k : Nat, k ≤ l.length ∧ i = .int .i64 k ∧ okTo l k = true ∧ Below w.heap.size w wr) (fun _ _ i _ => l.length - (intOf i).toNat)
  case atStart => exact ⟨0, Nat.zero_le _, rfl, rfl, Below.refl _ _⟩
  case round =>
   obtain ⟨k, hk, rfl, hok, hb⟩ := hrel
   have HO := Lib.hid hok
   have HB := Lib.hid hb
   have HXr := Lib.hid (FlatAt.below HX.out hb (Nat.le_refl _))
   clear hok hb
   by_cases hlt : k < l.length
   ·obtain ⟨b, o, rfl, hbl, hd⟩ := flatAt_cell cCell_len HXr.out k hlt (by decide)
    have d0 := hd 0 (by decide)
    have d1 := hd 1 (by decide)
    clear hd
    have HA := Lib.hid (okAt_of l k hlt)
    have HBAD := Lib.hid (fun h => cellsB_bad l k hlt h)
    have HNX := Lib.hid (show okAt l k = true → okTo l (k + 1) = true from fun h => by rw [okTo_succ, HO.out, h]; rfl)
    have HNM := Lib.hid (implIsName_b (l[k]).fKey)
    have hlen := HS.out (l[k]) (List.getElem_mem hlt)
    have HNU := Lib.hid (isNumber_b (l[k]).fValue)
    have HBB := Lib.hid (show ∀ o1, Below w.heap.size w (wr.alloc o1) from fun o1 => HB.out.alloc HB.out.size _)
    cases hx : nameB (l[k]).fKey with
    | false =>
     have HR := Lib.hid (HBAD.out (by rw [HA.out _ _ _ hx rfl rfl]; rfl))
     have HN := Lib.hid (HNM.out _ hx hlen)
     clear hx
     generalize l[k] = p at *
     obtain ⟨a0, a1⟩ := p
     simp only [cCell, List.getElem?_cons_zero, List.getElem?_cons_succ, Nat.add_zero] at d0 d1
     go_wp2_with fail
     refine (HN.out _).mono ?_
     rintro e w1 ⟨rfl, rfl⟩
     go_wp2_with fail
     go_ret
     exact ⟨ret_bool HR.out.symm, HBB.out _⟩
    | true => 
     cases hy : numB (l[k]).fValue with
     | false =>
      have HR := Lib.hid (HBAD.out (by rw [HA.out _ _ _ hx hy rfl]; rfl))
      have HN := Lib.hid (HNM.out _ hx hlen)
      have HN2 := Lib.hid (HNU.out _ hy)
      clear hx hy
      generalize l[k] = p at *
      obtain ⟨a0, a1⟩ := p
      simp only [cCell, List.getElem?_cons_zero, List.getElem?_cons_succ, Nat.add_zero] at d0 d1
      go_wp2_with fail
      refine (HN.out _).mono ?_
      rintro e w1 ⟨rfl, rfl⟩
      go_wp2_with fail
      refine (HN2.out _).mono ?_
      rintro e w1 ⟨rfl, rfl⟩
      go_wp2_with fail
      go_ret
      exact ⟨ret_bool HR.out.symm, HBB.out _⟩
     | true =>
      have HN := Lib.hid (HNM.out _ hx hlen)
      have HN2 := Lib.hid (HNU.out _ hy)
      by_cases h0 : 0 < k
      ·have hk1 : k - 1 < l.length := by omega
       obtain ⟨b', o', e', _, hd'⟩ := flatAt_cell cCell_len HXr.out (k - 1) hk1 (by decide)
       injection e' with e'
       injection e' with e1 e2
       subst e1 e2
       have q0 := hd' 0 (by decide)
       clear hd'
       have hg0 : (0 : Int) < (k : Int) := by omega
       have hk2 : (0 : Int) ≤ (k : Int) - 1 := by omega
       have hk3 : (k : Int) - 1 < (l.length : Int) := by omega
       cases hz : Op.bytesLess (l.getD (k - 1) default).fKey (l[k]).fKey with
       | false =>
        have HR := Lib.hid (HBAD.out (by rw [HA.out _ _ _ hx hy rfl, hz]; simp; omega))
        rw [getD_at l (k - 1) hk1] at hz
        clear hx hy
        generalize l[k] = p at *
        generalize l[k - 1] = q at *
        obtain ⟨a0, a1⟩ := p
        obtain ⟨b0, b1⟩ := q
        simp only [cCell, List.getElem?_cons_zero, List.getElem?_cons_succ, Nat.add_zero] at d0 d1 q0 hz
        go_wp2_with fail
        refine (HN.out _).mono ?_
        rintro e w1 ⟨rfl, rfl⟩
        go_wp2_with fail
        refine (HN2.out _).mono ?_
        rintro e w1 ⟨rfl, rfl⟩
        go_wp2_with fail
        go_quiet (fail)
        go_wp2_with fail
        go_ret
        exact ⟨ret_bool HR.out.symm, below_drewN (HBB.out _) _⟩
       | true =>
        have HR := Lib.hid (HNX.out (by rw [HA.out _ _ _ hx hy rfl, hz]; simp))
        rw [getD_at l (k - 1) hk1] at hz
        clear hx hy
        generalize l[k] = p at *
        generalize l[k - 1] = q at *
        obtain ⟨a0, a1⟩ := p
        obtain ⟨b0, b1⟩ := q
        simp only [cCell, List.getElem?_cons_zero, List.getElem?_cons_succ, Nat.add_zero] at d0 d1 q0 hz
        go_wp2_with fail
        refine (HN.out _).mono ?_
        rintro e w1 ⟨rfl, rfl⟩
        go_wp2_with fail
        refine (HN2.out _).mono ?_
        rintro e w1 ⟨rfl, rfl⟩
        go_wp2_with fail
        go_quiet (fail)
        go_wp2_with fail
        exact ⟨⟨k + 1, by omega, by go_num, HR.out, below_drewN (HBB.out _) _⟩, by simp [intOf]; omega⟩
      ·have HR := Lib.hid (HNX.out (by rw [HA.out _ _ _ hx hy rfl, show decide (k = 0) = true by simp; omega]; rfl))
       have hg0 : (k : Int) ≤ 0 := by omega
       clear hx hy
       generalize l[k] = p at *
       obtain ⟨a0, a1⟩ := p
       simp only [cCell, List.getElem?_cons_zero, List.getElem?_cons_succ, Nat.add_zero] at d0 d1
       go_wp2_with fail
       refine (HN.out _).mono ?_
       rintro e w1 ⟨rfl, rfl⟩
       go_wp2_with fail
       refine (HN2.out _).mono ?_
       rintro e w1 ⟨rfl, rfl⟩
       go_wp2_with fail
       go_quiet (fail)
       go_wp2_with fail
       exact ⟨⟨k + 1, by omega, by go_num, HR.out, below_drewN (HBB.out _) _⟩, by simp [intOf]; omega⟩
   ·have HN := Lib.hid (show cellsB l = true from by
     have h := HO.out
     rw [show k = l.length by omega] at h
     rw [cellsB_end l h, HL.out])
    go_wp2_with fail
    go_ret
    exact ⟨ret_bool HN.out.symm, HB.out⟩
theorem specIsName_q (l : List UInt8) (x : Bool) (h : nameB l = x) (hs : l.length ≤ maxLen) (w : World) :
  Calls Tryz.prog 111 #[.string ⟨l.toArray⟩] w fun e w' => e = .returned (.bool x) ∧ w' = w := (specIsName_b l x h hs w).mono fun _ _ ⟨h1, h2⟩ => ⟨h1, h2.symm⟩
set_option maxRecDepth 100000 in
set_option maxHeartbeats 1600000 in
theorem specIsCells_any (v : Value) (l : List CellD) (w : World) (hx : FlatAt cCell 2 w v l) (hs : ∀ d ∈ l, d.fKey.length ≤ maxLen) :
  Calls Tryz.prog 139 #[v] w fun e w' => e = .returned (.bool (cellsB l)) ∧ Below w.heap.size w w' := by
 obtain ⟨a, c, rfl, hl⟩ := flatAt_len hx
 have HX := Lib.hid hx
 have HS := Lib.hid hs
 clear hx hs
 unfold maxLen at hl
 go_enter Tryz.func139, Tryz.ntmps139
 go_wp2_with fail
 go_loopw [3, 4, 7] (fun _ _ i wr => ∃ k : Nat, k ≤ l.length ∧ i = .int .i64 k ∧ okTo l k = true ∧ Below w.heap.size w wr) (fun _ _ i _ => l.length - (intOf i).toNat)
 case atStart => exact ⟨0, Nat.zero_le _, rfl, rfl, Below.refl _ _⟩
 case round =>
  obtain ⟨k, hk, rfl, hok, hb⟩ := hrel
  have HO := Lib.hid hok
  have HB := Lib.hid hb
  have HXr := Lib.hid (FlatAt.below HX.out hb (Nat.le_refl _))
  clear hok hb
  by_cases hlt : k < l.length
  ·obtain ⟨b, o, rfl, hbl, hd⟩ := flatAt_cell cCell_len HXr.out k hlt (by decide)
   have d0 := hd 0 (by decide)
   have d1 := hd 1 (by decide)
   clear hd
   have HA := Lib.hid (okAt_of l k hlt)
   have HBAD := Lib.hid (fun h => cellsB_bad l k hlt h)
   have HNX := Lib.hid (show okAt l k = true → okTo l (k + 1) = true from fun h => by rw [okTo_succ, HO.out, h]; rfl)
   have HNM := Lib.hid (specIsName_q (l[k]).fKey)
   have hlen := HS.out (l[k]) (List.getElem_mem hlt)
   have HBB := Lib.hid (show ∀ o1, Below w.heap.size w (wr.alloc o1) from fun o1 => HB.out.alloc HB.out.size _)
   cases hx : nameB (l[k]).fKey with
   | false =>
    have HR := Lib.hid (HBAD.out (by rw [HA.out _ _ _ hx rfl rfl]; rfl))
    have HN := Lib.hid (HNM.out _ hx hlen)
    clear hx
    generalize l[k] = p at *
    obtain ⟨a0, a1⟩ := p
    simp only [cCell, List.getElem?_cons_zero, List.getElem?_cons_succ, Nat.add_zero] at d0 d1
    go_wp2_with fail
    go_quiet ((go_at_call 111; exact Calls.quiet_of_same (HN.out _)))
    go_wp2_with fail
    go_ret
    exact ⟨ret_bool HR.out.symm, below_drewN (HBB.out _) _⟩
   | true =>
    have HN := Lib.hid (HNM.out _ hx hlen)
    by_cases hv : (l[k]).fValue < 0
    ·have HR := Lib.hid (HBAD.out (by rw [HA.out _ _ _ hx (show numB _ = false by simp [numB]; omega) rfl]; rfl))
     clear hx
     generalize l[k] = p at *
     obtain ⟨a0, a1⟩ := p
     simp only [cCell, List.getElem?_cons_zero, List.getElem?_cons_succ, Nat.add_zero] at d0 d1 hv
     go_wp2_with fail
     go_quiet ((go_at_call 111; exact Calls.quiet_of_same (HN.out _)))
     go_wp2_with fail
     go_ret
     exact ⟨ret_bool HR.out.symm, below_drewN (HBB.out _) _⟩
    ·by_cases hv2 : 999 < (l[k]).fValue
     ·have HR := Lib.hid (HBAD.out (by rw [HA.out _ _ _ hx (show numB _ = false by simp [numB]; omega) rfl]; rfl))
      clear hx
      generalize l[k] = p at *
      obtain ⟨a0, a1⟩ := p
      simp only [cCell, List.getElem?_cons_zero, List.getElem?_cons_succ, Nat.add_zero] at d0 d1 hv hv2
      have hvd : decide (a1 < 0) = false := by simpa using hv
      go_wp2_with fail
      go_quiet ((go_at_call 111; exact Calls.quiet_of_same (HN.out _)))
      go_wp2_with fail
      go_ret
      exact ⟨ret_bool HR.out.symm, below_drewN (HBB.out _) _⟩
     ·have hy : numB (l[k]).fValue = true := by simp [numB]; omega
      by_cases h0 : 0 < k
      ·have hk1 : k - 1 < l.length := by omega
       obtain ⟨b', o', e', _, hd'⟩ := flatAt_cell cCell_len HXr.out (k - 1) hk1 (by decide)
       injection e' with e'
       injection e' with e1 e2
       subst e1 e2
       have q0 := hd' 0 (by decide)
       clear hd'
       have hg0 : (0 : Int) < (k : Int) := by omega
       have hk2 : (0 : Int) ≤ (k : Int) - 1 := by omega
       have hk3 : (k : Int) - 1 < (l.length : Int) := by omega
       cases hz : Op.bytesLess (l.getD (k - 1) default).fKey (l[k]).fKey with
       | false =>
        have HR := Lib.hid (HBAD.out (by rw [HA.out _ _ _ hx hy rfl, hz]; simp; omega))
        rw [getD_at l (k - 1) hk1] at hz
        clear hx hy
        generalize l[k] = p at *
        generalize l[k - 1] = q at *
        obtain ⟨a0, a1⟩ := p
        obtain ⟨b0, b1⟩ := q
        simp only [cCell, List.getElem?_cons_zero, List.getElem?_cons_succ, Nat.add_zero] at d0 d1 q0 hz hv hv2
        have hvd : decide (a1 < 0) = false := by simpa using hv
        have hvd2 : decide (999 < a1) = false := by simpa using hv2
        go_wp2_with fail
        go_quiet ((go_at_call 111; exact Calls.quiet_of_same (HN.out _)))
        go_wp2_with fail
        go_ret
        exact ⟨ret_bool HR.out.symm, below_drewN (HBB.out _) _⟩
       | true =>
        have HR := Lib.hid (HNX.out (by rw [HA.out _ _ _ hx hy rfl, hz]; simp))
        rw [getD_at l (k - 1) hk1] at hz
        clear hx hy
        generalize l[k] = p at *
        generalize l[k - 1] = q at *
        obtain ⟨a0, a1⟩ := p
        obtain ⟨b0, b1⟩ := q
        simp only [cCell, List.getElem?_cons_zero, List.getElem?_cons_succ, Nat.add_zero] at d0 d1 q0 hz hv hv2
        have hvd : decide (a1 < 0) = false := by simpa using hv
        have hvd2 : decide (999 < a1) = false := by simpa using hv2
        go_wp2_with fail
        go_quiet ((go_at_call 111; exact Calls.quiet_of_same (HN.out _)))
        go_wp2_with fail
        exact ⟨⟨k + 1, by omega, by go_num, HR.out, below_drewN (HBB.out _) _⟩, by simp [intOf]; omega⟩
      ·have HR := Lib.hid (HNX.out (by rw [HA.out _ _ _ hx hy rfl, show decide (k = 0) = true by simp; omega]; rfl))
       have hg0 : decide ((0 : Int) < (k : Int)) = false := by simp; omega
       clear hx hy
       generalize l[k] = p at *
       obtain ⟨a0, a1⟩ := p
       simp only [cCell, List.getElem?_cons_zero, List.getElem?_cons_succ, Nat.add_zero] at d0 d1 hv hv2
       have hvd : decide (a1 < 0) = false := by simpa using hv
       have hvd2 : decide (999 < a1) = false := by simpa using hv2
       go_wp2_with fail
       go_quiet ((go_at_call 111; exact Calls.quiet_of_same (HN.out _)))
       go_wp2_with fail
       exact ⟨⟨k + 1, by omega, by go_num, HR.out, below_drewN (HBB.out _) _⟩, by simp [intOf]; omega⟩
  ·have HN := Lib.hid (show cellsB l = decide (l.length ≤ 4) from by
    have h := HO.out
    rw [show k = l.length by omega] at h
    exact cellsB_end l h)
   by_cases h4 : l.length ≤ 4
   ·rw [show decide (l.length ≤ 4) = true by simpa using h4] at HN
    go_wp2_with fail
    go_ret
    exact ⟨ret_bool (by rw [HN.out]; simp; omega), HB.out⟩
   ·rw [show decide (l.length ≤ 4) = false by simpa using h4] at HN
    go_wp2_with fail
    go_ret
    exact ⟨ret_bool (by rw [HN.out]; simp; omega), HB.out⟩
theorem off_fin : ∀ a : Fin 64, ∀ k : Fin 6, offersF ((a : Nat) : Int) (2 ^ (k : Nat)) = hasI ((a : Nat) : Int) (k : Nat) := by decide +kernel
theorem off_has {f : Int} (hf : isF f = true) (k : Nat) (hk : k < 6) : offersF f (2 ^ k) = hasI f k := by
 obtain ⟨a, rfl⟩ := isF_fin hf
 exact off_fin a ⟨k, hk⟩
def coreF (d : CoreD) : Int := kfI (kindI d.fKind)
def coreB (d : CoreD) : Bool := decide (0 ≤ kindI d.fKind) && cellsB d.fCells && (decide (d.fCells.length = 0) || hasI (coreF d) 1) && (!(d.fOn || d.fBroken) || hasI (coreF d) 0) && numB d.fCount && !(d.fOn && d.fBroken)
theorem kindOff_has (l : List UInt8) (h : decide (0 ≤ kindI l) = true) (k : Nat) (hk : k < 6) : kindOff l (2 ^ k) = hasI (kfI (kindI l)) k := by
 unfold kindOff; rw [h, Bool.true_and, off_has (kfI_face _) k hk]
theorem implKind_b (l : List UInt8) (x : Bool) (h : decide (0 ≤ kindI l) = x) (w : World) :
  Calls Tryz.prog 99 #[.string ⟨l.toArray⟩] w fun e w' => e = .returned (.tuple #[.int .i64 (kfI (kindI l)), .bool x]) ∧ w = w' := by
 subst h; exact implKind_any ⟨l.toArray⟩ w
theorem specKind_b (l : List UInt8) (x : Bool) (h : decide (0 ≤ kindI l) = x) (w : World) :
  Calls Tryz.prog 120 #[.string ⟨l.toArray⟩] w fun e w' => e = .returned (.tuple #[.int .i64 (kfI (kindI l)), .bool x]) ∧ Below w.heap.size w w' := by
 subst h; exact specKind_any ⟨l.toArray⟩ w
set_option maxRecDepth 100000 in
set_option maxHeartbeats 6400000 in
theorem implIsCore_any (v : Value) (d : CoreD) (w : World) (hx : CoreAt w v d) (hs : ∀ c ∈ d.fCells, c.fKey.length ≤ maxLen) :
  Calls Tryz.prog 85 #[v] w fun e w' => e = .returned (.bool (coreB d)) ∧ Below w.heap.size w w' := by
 obtain ⟨cv, rfl, hx⟩ := hx
 have HKD := Lib.hid (implKind_b d.fKind)
 have HOF := Lib.hid (kindOff_has d.fKind)
 have HKO := Lib.hid (kindOffers_b d.fKind)
 have HNU := Lib.hid (isNumber_b d.fCount)
 have HR := Lib.hid (show coreB d = (decide (0 ≤ kindI d.fKind) && cellsB d.fCells && (decide (d.fCells.length = 0) || hasI (kfI (kindI d.fKind)) 1) && (!(d.fOn || d.fBroken) || hasI (kfI (kindI d.fKind)) 0) && numB d.fCount && !(d.fOn && d.fBroken)) from rfl)
 generalize coreB d = res at *
 obtain ⟨kd, on, br, l, cnt⟩ := d
 unfold vCore
 simp only at *
 obtain ⟨a, c, rfl, hl⟩ := flatAt_len hx
 unfold maxLen at hl
 have HB0 := Lib.hid (show ∀ o, Below w.heap.size w (w.alloc o) from fun o => (Below.refl w.heap.size w).alloc (Nat.le_refl _) o)
 have HIC := Lib.hid (fun o => implIsCells_any _ l (w.alloc o) (hx.below (HB0.out o) (Nat.le_refl _)) hs)
 clear hx hs
 have HF := Lib.hid (show decide (0 ≤ kindI kd) = true → (∀ w, Calls Tryz.prog 131 #[.string ⟨kd.toArray⟩, .int .i64 2] w fun e w' => e = .returned (.bool (hasI (kfI (kindI kd)) 1)) ∧ w = w') ∧ ∀ w, Calls Tryz.prog 131 #[.string ⟨kd.toArray⟩, .int .i64 1] w fun e w' => e = .returned (.bool (hasI (kfI (kindI kd)) 0)) ∧ w = w' from fun h => ⟨HKO.out 2 _ (HOF.out h 1 (by decide)), HKO.out 1 _ (HOF.out h 0 (by decide))⟩)
 generalize hasI (kfI (kindI kd)) 1 = h1 at *
 generalize hasI (kfI (kindI kd)) 0 = h0 at *
 generalize numB cnt = nb at *
 have HNB := Lib.hid (HNU.out _ rfl)
 cases hk : decide (0 ≤ kindI kd) with
 | false =>
  have HK := Lib.hid (HKD.out _ hk)
  rw [hk] at HR
  clear hk HNU HKD HKO HOF HF
  go_enter Tryz.func85, Tryz.ntmps85
  go_wp2_with fail
  refine (HK.out _).mono ?_
  rintro e w1 ⟨rfl, rfl⟩
  go_wp2_with fail
  go_ret
  exact ⟨ret_bool HR.out.symm, HB0.out _⟩
 | true =>
  have HK := Lib.hid (HKD.out _ hk)
  have HK2 := Lib.hid (HF.out hk).1
  have HK1 := Lib.hid (HF.out hk).2
  rw [hk] at HR
  clear hk HNU HKD HKO HOF HF
  generalize cellsB l = cb at *
  go_enter Tryz.func85, Tryz.ntmps85
  go_wp2_with fail
  refine (HK.out _).mono ?_
  rintro e w1 ⟨rfl, rfl⟩
  go_wp2_with fail
  refine (HIC.out _).mono ?_
  rintro e w1 ⟨rfl, hb⟩
  have HB := Lib.hid ((HB0.out _).trans (hb.mono (HB0.out _).size))
  obtain ⟨hcc, _⟩ := bcell hb
  simp at hcc
  clear hb
  cases cb with
  | false =>
   go_wp2_with fail
   go_ret
   exact ⟨ret_bool (by rw [HR.out]; rfl), HB.out⟩
  | true =>
   by_cases hn : 0 < l.length
   ·have hg : decide ((0 : Int) < (l.length : Int)) = true := decide_eq_true (by omega)
    rw [show decide (l.length = 0) = false from decide_eq_false (by omega)] at HR
    cases h1 with
    | false =>
     go_wp2_with (first | (go_at_call 131; (with_reducible refine (HK2.out _).mono ?_); rintro e w' ⟨rfl, rfl⟩))
     go_ret
     exact ⟨ret_bool (by rw [HR.out]; rfl), HB.out⟩
    | true =>
     cases on <;> cases br <;> cases h0 <;> cases nb
     all_goals
      go_wp2_with (first | (go_at_call 131; (with_reducible refine (HK2.out _).mono ?_); rintro e w' ⟨rfl, rfl⟩) | (go_at_call 131; (with_reducible refine (HK1.out _).mono ?_); rintro e w' ⟨rfl, rfl⟩) | (go_at_call 92; (with_reducible refine (HNB.out _).mono ?_); rintro e w' ⟨rfl, rfl⟩))
      go_ret
      exact ⟨ret_bool (by rw [HR.out]; rfl), HB.out⟩
   ·have hg : decide ((0 : Int) < (l.length : Int)) = false := decide_eq_false (by omega)
    rw [show decide (l.length = 0) = true from decide_eq_true (by omega)] at HR
    have hg2 : (l.length : Int) ≤ 0 := by omega
    clear hn
    cases on <;> cases br <;> cases h0 <;> cases nb
    all_goals
     go_wp2_with (first | (go_at_call 131; (with_reducible refine (HK1.out _).mono ?_); rintro e w' ⟨rfl, rfl⟩) | (go_at_call 92; (with_reducible refine (HNB.out _).mono ?_); rintro e w' ⟨rfl, rfl⟩))
     go_ret
     exact ⟨ret_bool (by rw [HR.out]; rfl), HB.out⟩
def splitF (sep : List UInt8) : Nat → List UInt8 → List (List UInt8)
 | 0, l => [l]
 | f + 1, l => if Lib.index l sep < 0 then [l] else l.take (Lib.index l sep).toNat :: splitF sep f (l.drop ((Lib.index l sep).toNat + sep.length))
def splitL (l sep : List UInt8) : List (List UInt8) := if sep = [] then [l] else splitF sep (l.length + 1) l
theorem splitF_none {sep l : List UInt8} (f : Nat) (h : Lib.index l sep < 0) : splitF sep f l = [l] := by
 cases f with
 | zero => rfl
 | succ f => simp [splitF, h]
theorem splitF_some {sep l : List UInt8} (f i : Nat) (h : Lib.index l sep = i) : splitF sep (f + 1) l = l.take i :: splitF sep f (l.drop (i + sep.length)) := by
 have : ¬ (i : Int) < 0 := by omega
 simp [splitF, h, this]
theorem owns_one (w : World) (B : Nat) (s : ByteArray) (h : B ≤ w.heap.size) : Owns (w.alloc (.cells #[.string s] 9)) B (.slice (some ⟨w.heap.size, 0, none⟩) 1 1) [s.data.toList] :=
 ⟨rfl, .inr ⟨w.heap.size, 1, #[.string s], rfl, h, heap_alloc_new w _, Nat.le_refl _, by decide, rfl, by simp [strV]⟩⟩
def strLen : Value → Nat
 | .string t => t.size
 | _ => 0
def CutInv (l sep t : List UInt8) (acc : List (List UInt8)) : Prop := ∃ f, acc ++ splitF sep f t = splitL l sep ∧ t.length < f
theorem cut_start (l sep : List UInt8) (h : sep ≠ []) : CutInv l sep l [] := ⟨l.length + 1, by simp [splitL, h], by omega⟩
theorem cut_next {l sep t : List UInt8} {acc : List (List UInt8)} (h : CutInv l sep t acc) (i : Nat) (hi : Lib.index t sep = i) (h0 : 0 < sep.length) (hr : i + sep.length ≤ t.length) : CutInv l sep (t.drop (i + sep.length)) (acc ++ [t.take i]) := by
 obtain ⟨f, h1, h2⟩ := h
 cases f with
 | zero => omega
 | succ f =>
  rw [splitF_some f i hi] at h1
  exact ⟨f, by rw [← h1]; simp, by simp; omega⟩
theorem cut_end {l sep t : List UInt8} {acc : List (List UInt8)} (h : CutInv l sep t acc) (hi : Lib.index t sep < 0) : acc ++ [t] = splitL l sep := by
 obtain ⟨f, h1, h2⟩ := h
 rw [← h1, splitF_none f hi]
set_option maxRecDepth 100000 in
set_option maxHeartbeats 800000 in
theorem implSplit_empty (s sep : ByteArray) (w : World) (hs : s.size ≤ 1048576) (h0 : sep.size = 0) :
  Calls Tryz.prog 215 #[.string s, .string sep] w fun e w' => GivesRow (splitL s.data.toList sep.data.toList) w e w' := by
 have hl : sep.data.toList = [] := List.eq_nil_of_length_eq_zero (by rw [size_list]; exact h0)
 have hE : sep.toList = [] := by rw [Lib.toList_data, hl]
 have HL := Lib.hid (show splitL s.data.toList sep.data.toList = [s.data.toList] by simp [splitL, hl])
 clear h0 hl
 go_enter Tryz.func215, Tryz.ntmps215
 go_wp2_with fail
 refine (copyText_any s w (by omega)).mono ?_
 rintro e w1 ⟨rfl, hb⟩
 go_wp2_with fail
 go_ret
 refine ⟨_, rfl, ?_, hb.alloc hb.size _⟩
 rw [HL.out]
 exact owns_one w1 w.heap.size s hb.size
set_option maxRecDepth 100000 in
set_option maxHeartbeats 800000 in
theorem implSplit_some (s sep : ByteArray) (m : Int) (w : World) (hm : w.cell? ⟨0, 0, none⟩ = some (.int .i64 m)) (hs : s.size ≤ 1048576) (h0 : 0 < sep.size) (hsep : sep.size ≤ 1048576) :
  Calls Tryz.prog 215 #[.string s, .string sep] w fun e w' => GivesRow (splitL s.data.toList sep.data.toList) w e w' := by
 have hne : sep.data.toList ≠ [] := by intro h; rw [← size_list, h] at h0; simp at h0
 have hE : sep.toList.isEmpty = false := by rw [Lib.toList_data]; cases hh : sep.data.toList with | nil => exact absurd hh hne | cons a b => rfl
 have HO := Lib.hid (owns_new w)
 have HS := Lib.hid (cut_start s.data.toList sep.data.toList hne)
 have HL2 := Lib.hid (size_list sep)
 have HM := Lib.hid hm
 have HG := Lib.hid (World.block_lt_of_cell? w _ hm)
 clear hne hm
 go_enter Tryz.func215, Tryz.ntmps215
 go_wp2_with fail
 go_loopw [0, 5, 6] (fun sv ov _ wr => ∃ (t : ByteArray) (acc : List (List UInt8)), sv = .string t ∧ CutInv s.data.toList sep.data.toList t.data.toList acc ∧ acc.length + t.size ≤ s.size ∧ Owns wr w.heap.size ov acc ∧ Below w.heap.size w wr) (fun sv _ _ _ => strLen sv)
 case atStart => exact ⟨s, [], rfl, HS.out, by simp, HO.out, (Below.refl _ _).alloc (Nat.le_refl _) _⟩
 case round =>
  obtain ⟨t, acc, rfl, hinv, hsz, hO, hb⟩ := hrel
  have HI := Lib.hid hinv
  have HO2 := Lib.hid hO
  have HB := Lib.hid hb
  have hmr := (hb.cell (p := ⟨0, 0, none⟩) HG.out).trans HM.out
  have HMr := Lib.hid hmr
  clear hinv hO hb hmr
  go_wp2_with fail
  refine (Tryz.strings_Index t sep m wr (by omega) HMr.out).mono ?_
  rintro e w1 ⟨rfl, rfl⟩
  have HT := Lib.hid (size_list t)
  have hge := Lib.index_ge t.data.toList sep.data.toList
  have hroom := Lib.index_room t.data.toList sep.data.toList
  rw [HL2.out, HT.out] at hroom
  generalize hix : Lib.index t.data.toList sep.data.toList = ix at *
  have HIX := Lib.hid hix
  clear hix
  by_cases hneg : ix < 0
  ·have HC := Lib.hid (cut_end HI.out (by rw [HIX.out]; exact hneg))
   clear hroom
   go_wp2_with fail
   refine (copyText_any t _ (by omega)).mono ?_
   rintro e w2 ⟨rfl, hb2⟩
   have HB2 := Lib.hid (HB.out.trans (hb2.mono HB.out.size))
   have HO3 := Lib.hid (owns_below HO2.out hb2 (Nat.le_refl _))
   clear hb2
   go_wp2_with (at_builtin; refine append_strs rfl _ _ rfl w.heap.size _ acc t.data.toList _ w2.heap.size rfl (owns_alloc HO3.out _) rfl (cell_newS _ _ _ _ rfl) (by omega) (by have := HB2.out.size; simp; omega) ?_; intro v' w3 hO1 hg1)
   go_ret
   exact ⟨v', rfl, by have := HC.out; rw [← this]; exact hO1, below_append (HB2.out.alloc HB2.out.size _) (owns_alloc HO3.out _) hg1 (by have := HB2.out.size; simp; omega)⟩
  ·obtain ⟨i, rfl⟩ := Int.eq_ofNat_of_zero_le (show 0 ≤ ix by omega)
   have hr : i + sep.size ≤ t.size := by have := hroom (by omega); omega
   have HC := Lib.hid (cut_next HI.out i HIX.out (by rw [HL2.out]; exact h0) (by rw [HL2.out, HT.out]; exact hr))
   clear hroom hneg hge
   go_wp2_with fail
   refine (copyText_any _ _ (by rw [← size_list, Lib.extract_data]; simp; omega)).mono ?_
   rintro e w2 ⟨rfl, hb2⟩
   have HB2 := Lib.hid (HB.out.trans (hb2.mono HB.out.size))
   have HO3 := Lib.hid (owns_below HO2.out hb2 (Nat.le_refl _))
   clear hb2
   go_wp2_with (at_builtin; refine append_strs rfl _ _ rfl w.heap.size _ acc (t.data.toList.take i) _ w2.heap.size rfl (owns_alloc HO3.out _) rfl (by rw [cell_newS _ _ _ _ rfl, Lib.extract_data]; simp) (by omega) (by have := HB2.out.size; simp; omega) ?_; intro v' w3 hO1 hg1)
   refine ⟨⟨t.extract (i + sep.size) t.size, acc ++ [t.data.toList.take i], rfl, ?_, ?_, hO1, below_append (HB2.out.alloc HB2.out.size _) (owns_alloc HO3.out _) hg1 (by have := HB2.out.size; simp; omega)⟩, ?_⟩
   ·rw [Lib.extract_to_end]; have := HC.out; rwa [HL2.out] at this
   ·rw [← size_list (t.extract _ _), Lib.extract_to_end]; have := HT.out; simp; omega
   ·simp only [strLen]; rw [← size_list (t.extract _ _), Lib.extract_to_end]; have := HT.out; simp; omega
theorem implSplit_any (s sep : ByteArray) (m : Int) (w : World) (hm : w.cell? ⟨0, 0, none⟩ = some (.int .i64 m)) (hs : s.size ≤ 1048576) (hsep : sep.size ≤ 1048576) :
  Calls Tryz.prog 215 #[.string s, .string sep] w fun e w' => GivesRow (splitL s.data.toList sep.data.toList) w e w' := by
 by_cases h0 : sep.size = 0
 ·exact implSplit_empty s sep w hs h0
 ·exact implSplit_some s sep m w hm hs (by omega) hsep
theorem splitF_len (sep : List UInt8) (h0 : 0 < sep.length) : ∀ (f : Nat) (l : List UInt8), (splitF sep f l).length ≤ l.length + 1 := by
 intro f
 induction f with
 | zero => intro l; simp [splitF]
 | succ f ih =>
  intro l
  by_cases h : Lib.index l sep < 0
  ·rw [splitF_none _ h]; simp
  ·obtain ⟨i, hi⟩ := Int.eq_ofNat_of_zero_le (show 0 ≤ Lib.index l sep by omega)
   have hr := Lib.index_room l sep (by omega)
   rw [splitF_some f i hi]
   have := ih (l.drop (i + sep.length))
   rw [List.length_drop] at this
   simp only [List.length_cons]; omega
theorem splitL_len (l sep : List UInt8) : (splitL l sep).length ≤ l.length + 1 := by
 unfold splitL
 split
 ·simp
 ·rename_i h
  exact splitF_len sep (by cases sep with | nil => exact absurd rfl h | cons a b => simp) _ _
theorem joinL_cons (a : List UInt8) (x : List (List UInt8)) (sep : List UInt8) (hx : x ≠ []) : joinL (a :: x) sep = a ++ sep ++ joinL x sep := by
 have key : ∀ k, k < x.length → joinK (a :: x) sep (k + 2) = a ++ sep ++ joinK x sep (k + 1) := by
  intro k
  induction k with
  | zero => intro _; simp [joinK]
  | succ k ih =>
   intro hk
   have h := ih (by omega)
   have e1 : joinK (a :: x) sep (k + 1 + 2) = joinK (a :: x) sep (k + 2) ++ sep ++ x.getD (k + 1) [] := by simp [joinK]
   have e2 : joinK x sep (k + 1 + 1) = joinK x sep (k + 1) ++ sep ++ x.getD (k + 1) [] := by simp [joinK]
   rw [e1, h, e2]; simp
 cases x with
 | nil => exact absurd rfl hx
 | cons b r =>
  have := key r.length (by simp)
  unfold joinL
  simpa using this
theorem joinL_one (a sep : List UInt8) : joinL [a] sep = a := by simp [joinL, joinK]
theorem splitF_ne (sep : List UInt8) (f : Nat) (l : List UInt8) : splitF sep f l ≠ [] := by
 cases f with
 | zero => simp [splitF]
 | succ f => unfold splitF; split <;> simp
theorem index_take (l sep : List UInt8) (i : Nat) (h : Lib.index l sep = i) : l.take i ++ sep ++ l.drop (i + sep.length) = l := by
 rcases Lib.index_spec l sep with ⟨h1, _⟩ | ⟨j, h1, h2, h3, _⟩
 ·omega
 ·have : j = i := by omega
  subst this
  unfold Lib.occAt at h3
  obtain ⟨t, ht⟩ := List.isPrefixOf_iff_prefix.1 h3
  have e : l.drop (j + sep.length) = t := by rw [← List.drop_drop, ← ht]; simp
  rw [e, List.append_assoc, ht, List.take_append_drop]
theorem join_split (sep : List UInt8) : ∀ (f : Nat) (l : List UInt8), joinL (splitF sep f l) sep = l := by
 intro f
 induction f with
 | zero => intro l; simp [splitF, joinL_one]
 | succ f ih =>
  intro l
  by_cases h : Lib.index l sep < 0
  ·rw [splitF_none _ h, joinL_one]
  ·obtain ⟨i, hi⟩ := Int.eq_ofNat_of_zero_le (show 0 ≤ Lib.index l sep by omega)
   rw [splitF_some f i hi, joinL_cons _ _ _ (splitF_ne sep f _), ih, index_take l sep i hi]
theorem join_splitL (l sep : List UInt8) : joinL (splitL l sep) sep = l := by
 unfold splitL
 split
 ·rw [joinL_one]
 ·exact join_split sep _ l
theorem joinL_two (a b : List UInt8) (c : UInt8) : joinL [a, b] [c] = a ++ c :: b := by rw [joinL_cons a [b] [c] (by simp), joinL_one]; simp
theorem cut_len (l sep : List UInt8) : (Lib.cut l sep).1.length ≤ l.length ∧ (Lib.cut l sep).2.1.length ≤ l.length := by
 unfold Lib.cut
 split
 ·exact ⟨by simp; omega, by simp⟩
 ·exact ⟨Nat.le_refl _, by simp⟩
theorem joinK_part (x : List (List UInt8)) (sep : List UInt8) : ∀ (m k : Nat), k < m → m ≤ x.length → (x.getD k []).length ≤ (joinK x sep m).length := by
 intro m
 induction m with
 | zero => intro k h; omega
 | succ m ih =>
  intro k hk hm
  simp only [joinK, List.length_append]
  rcases Nat.lt_or_ge k m with h | h
  ·have := ih k h (by omega); omega
  ·rw [show k = m by omega]; omega
theorem split_part (l : List UInt8) (c : UInt8) (p : List UInt8) (h : p ∈ splitL l [c]) : p.length ≤ l.length := by
 obtain ⟨k, hk, rfl⟩ := List.mem_iff_getElem.1 h
 have := joinK_part (splitL l [c]) [c] (splitL l [c]).length k hk (Nat.le_refl _)
 rw [show joinK (splitL l [c]) [c] (splitL l [c]).length = l from join_splitL l [c]] at this
 rw [List.getD_eq_getElem?_getD, List.getElem?_eq_getElem hk] at this
 exact this
theorem dataL (l : List UInt8) : (⟨l.toArray⟩ : ByteArray).data.toList = l := by simp
def pnum (l : List UInt8) : Int := ((parseL l).getD 0 : Nat)
def pok (l : List UInt8) : Bool := (parseL l).isSome
theorem pnum_some {l : List UInt8} {n : Nat} (h : parseL l = some n) : pnum l = n ∧ pok l = true := by simp [pnum, pok, h]
theorem pnum_none {l : List UInt8} (h : parseL l = none) : pnum l = 0 ∧ pok l = false := by simp [pnum, pok, h]
theorem ret_pair {a b : Int} {c d : Bool} (h : a = b) (h2 : c = d) : Ending.returned (.tuple #[.int .i64 a, .bool c]) = .returned (.tuple #[.int .i64 b, .bool d]) := by rw [h, h2]
theorem valL_next (s : ByteArray) (k : Nat) (h : k < s.size) : valL (s.data.toList.take (k + 1)) = 10 * valL (s.data.toList.take k) + (s[k].toNat : Int) - 48 := by
 rw [take_snoc s k h, valL_snoc]; omega
theorem digB_isDig (c : UInt8) : isDig c.toNat = digB c := by simp [isDig, digB]
theorem all_next (s : ByteArray) (k : Nat) (h : k < s.size) (ha : (s.data.toList.take k).all digB = true) (hd : isDig (s[k]).toNat = true) : (s.data.toList.take (k + 1)).all digB = true := by
 rw [take_snoc s k h, List.all_append, ha, digB_isDig] at *; simpa using hd
theorem nodig_at (s : ByteArray) (k : Nat) (h : k < s.size) (hd : isDig (s[k]).toNat = false) : parseL s.data.toList = none :=
 parseL_nodig _ k (by rw [size_list]; exact h) (by rw [getD_get s k h, ← digB_isDig]; exact hd)
theorem first48 (s : ByteArray) (h : 0 < s.size) (hz : (s[0].toNat : Int) = 48) : s.data.toList.getD 0 0 = 48 := by
 rw [getD_get s 0 h]; exact UInt8.toNat_inj.1 (by show s[0].toNat = 48; omega)
theorem notfirst48 (s : ByteArray) (h : 0 < s.size) (hz : ¬ (s[0].toNat : Int) = 48) : s.data.toList.getD 0 0 ≠ 48 := by
 rw [getD_get s 0 h]; intro e; apply hz; rw [e]; rfl
theorem wrap_dig (x : Int) (h0 : 48 ≤ x) (h1 : x ≤ 255) : IntKind.u8.wrap (x - 48) = x - 48 := by
 simp only [IntKind.wrap, IntKind.bits, IntKind.signed]; simp; omega
def looped (s : ByteArray) (w : World) : Prop := Calls Tryz.prog 217 #[.string s] w fun e w' => e = .returned (.tuple #[.int .i64 (pnum s.data.toList), .bool (pok s.data.toList)]) ∧ w = w'
set_option maxHeartbeats 800000 in
theorem implParse_loop (s : ByteArray) (w : World) (hs : s.size ≤ maxLen) (hE : s.toList.isEmpty = false) (hpos : 0 < s.size)
  (hg : ((s[0].toNat : Int) == 48) = false ∨ (((s[0].toNat : Int) == 48) = true ∧ ¬ 1 < s.size)) (HZ : Hid (s.data.toList.length = 1 ∨ s.data.toList.getD 0 0 ≠ 48)) : looped s w := by
 unfold looped
 unfold maxLen at hs
 have HNE := Lib.hid (show s.data.toList ≠ [] from by intro h; rw [← size_list, h] at hpos; simp at hpos)
 rcases hg with hz1 | ⟨hz1, h1⟩
 all_goals
  go_enter Tryz.func217, Tryz.ntmps217
  go_wp2
  go_loop [4, 5, 20] (fun n _ i => ∃ k : Nat, k ≤ s.size ∧ i = .int .i64 k ∧ n = .int .i64 (valL (s.data.toList.take k)) ∧ (s.data.toList.take k).all digB = true ∧ 0 ≤ valL (s.data.toList.take k) ∧ valL (s.data.toList.take k) ≤ 999) (fun _ _ i => s.size - (intOf i).toNat)
  case atStart => exact ⟨0, Nat.zero_le _, rfl, rfl, rfl, by simp [valL], by simp [valL]⟩
  case round =>
   obtain ⟨k, hk, rfl, rfl, ha, hb1, hb2⟩ := hrel
   have HA := Lib.hid ha
   clear ha
   by_cases hlt : k < s.size
   ·by_cases hd : isDig (s[k]).toNat = true
    ·have HA2 := Lib.hid (all_next s k hlt HA.out hd)
     have HN := Lib.hid (valL_next s k hlt)
     obtain ⟨hd1, hd2⟩ : 48 ≤ (s[k].toNat : Int) ∧ (s[k].toNat : Int) ≤ 57 := by simpa [isDig] using hd
     have hw := wrap_dig _ hd1 (by omega)
     by_cases hbig : 999 < 10 * valL (s.data.toList.take k) + ((s[k].toNat : Int) - 48)
     ·have HQ := Lib.hid (pnum_none (parseL_big s.data.toList (k + 1) (by rw [HN.out]; omega)))
      go_wp2_with (go_at_call 133; refine (isDigit_any _ _).mono ?_; rintro e w' ⟨rfl, rfl⟩)
      go_ret2
      exact ⟨ret_pair HQ.out.1.symm HQ.out.2.symm, rfl⟩
     ·go_wp2_with (go_at_call 133; refine (isDigit_any _ _).mono ?_; rintro e w' ⟨rfl, rfl⟩)
      go_round
      case rel => exact ⟨k + 1, by omega, by go_num, by rw [HN.out]; go_num, HA2.out, by rw [HN.out]; omega, by rw [HN.out]; omega⟩
      case measure => simp [intOf]; omega
    ·have hd' : isDig (s[k]).toNat = false := by simpa using hd
     have HQ := Lib.hid (pnum_none (nodig_at s k hlt hd'))
     clear hd
     go_wp2_with (go_at_call 133; refine (isDigit_any _ _).mono ?_; rintro e w' ⟨rfl, rfl⟩)
     go_ret2
     exact ⟨ret_pair HQ.out.1.symm HQ.out.2.symm, rfl⟩
   ·have HK := Lib.hid (show s.data.toList.take k = s.data.toList from List.take_of_length_le (by rw [size_list]; omega))
    have HQ := Lib.hid (pnum_some (parseL_good s.data.toList (by rw [← HK.out]; exact HA.out) HNE.out HZ.out (by rw [← HK.out]; exact hb2)))
    have HV := Lib.hid (show ((valL s.data.toList).toNat : Int) = valL (s.data.toList.take k) from by rw [HK.out] at hb1 ⊢; omega)
    go_wp2
    go_ret2
    exact ⟨ret_pair (by rw [HQ.out.1, HV.out]) HQ.out.2.symm, rfl⟩
set_option maxHeartbeats 400000 in
theorem implParse_any (s : ByteArray) (w : World) (hs : s.size ≤ maxLen) :
  Calls Tryz.prog 217 #[.string s] w fun e w' => e = .returned (.tuple #[.int .i64 (pnum s.data.toList), .bool (pok s.data.toList)]) ∧ w = w' := by
 by_cases h0 : s.size = 0
 ·have hl : s.data.toList = [] := List.eq_nil_of_length_eq_zero (by rw [size_list]; exact h0)
  have HQ := Lib.hid (pnum_none (show parseL s.data.toList = none from by rw [hl]; exact parseL_nil))
  have hE : s.toList = [] := by rw [Lib.toList_data, hl]
  clear hl h0
  go_enter Tryz.func217, Tryz.ntmps217
  go_wp2
  go_ret2
  exact ⟨ret_pair HQ.out.1.symm HQ.out.2.symm, rfl⟩
 ·have hE : s.toList.isEmpty = false := by rw [Lib.toList_data]; cases hh : s.data.toList with | nil => exfalso; apply h0; rw [← size_list, hh]; rfl | cons a b => rfl
  have hpos : 0 < s.size := by omega
  clear h0
  by_cases hz : (s[0].toNat : Int) = 48
  ·have hz1 : ((s[0].toNat : Int) == 48) = true := by simpa using hz
   by_cases h1 : 1 < s.size
   ·have HQ := Lib.hid (pnum_none (parseL_zero s.data.toList (first48 s hpos hz) (by rw [size_list]; exact h1)))
    unfold maxLen at hs
    clear hz
    go_enter Tryz.func217, Tryz.ntmps217
    go_wp2
    go_ret2
    exact ⟨ret_pair HQ.out.1.symm HQ.out.2.symm, rfl⟩
   ·exact implParse_loop s w hs hE hpos (Or.inr ⟨hz1, h1⟩) (Lib.hid (Or.inl (by rw [size_list]; omega)))
  ·exact implParse_loop s w hs hE hpos (Or.inl (by simpa using hz)) (Lib.hid (Or.inr (notfirst48 s hpos hz)))
def cellT (d : CellD) : List UInt8 := d.fKey ++ 61 :: numL d.fValue
def fmtC (l : List CellD) : List UInt8 := if cellsB l = true then (if l = [] then [45] else joinL (l.map cellT) [44]) else []
theorem numB_nat {n : Int} (h : numB n = true) : ∃ k : Nat, n = k ∧ k ≤ 999 := by
 simp only [numB, Bool.and_eq_true, decide_eq_true_iff] at h
 exact ⟨n.toNat, by omega, by omega⟩
def rdC (t : List UInt8) : CellD := ⟨(Lib.cut t [61]).1, pnum (Lib.cut t [61]).2.1⟩
def rdCs (s : List UInt8) : List CellD := if s = [45] then [] else (splitL s [44]).map rdC
def prsB (s : List UInt8) : Bool := cellsB (rdCs s) && decide (fmtC (rdCs s) = s)
def prsC (s : List UInt8) : List CellD := if prsB s = true then rdCs s else []
theorem prsC_yes {s : List UInt8} (h : prsB s = true) : prsC s = rdCs s := if_pos h
theorem prsC_no {s : List UInt8} (h : prsB s = false) : prsC s = [] := if_neg (by simp [h])
theorem prsC_fmt {s : List UInt8} (h : prsB s = true) : cellsB (prsC s) = true ∧ fmtC (prsC s) = s := by
 rw [prsC_yes h]
 simp only [prsB, Bool.and_eq_true, decide_eq_true_iff] at h; exact h
structure ReplyD where
 fCode : Int
 fValue : Int
 fText : List UInt8
 fWant : Int
 fHad : Int
deriving DecidableEq
def vReply (d : ReplyD) : Value := .agg #[.int .i64 d.fCode, .int .i64 d.fValue, .string ⟨d.fText.toArray⟩, .int .i64 d.fWant, .int .i64 d.fHad]
structure CallD where
 fMethod : List UInt8
 fKey : List UInt8
 fValue : Int
 fText : List UInt8
deriving DecidableEq
def vCall (d : CallD) : Value := .agg #[.string ⟨d.fMethod.toArray⟩, .string ⟨d.fKey.toArray⟩, .int .i64 d.fValue, .string ⟨d.fText.toArray⟩]
def cCall (d : CallD) : List Value := [.string ⟨d.fMethod.toArray⟩, .string ⟨d.fKey.toArray⟩, .int .i64 d.fValue, .string ⟨d.fText.toArray⟩]
theorem cCall_len (d : CallD) : (cCall d).length = 4 := rfl
theorem cCall_one (d : CallD) : ∀ u ∈ cCall d, u.oneCell' = true := by intro u hu; simp only [cCall, List.mem_cons, List.not_mem_nil, or_false] at hu; rcases hu with rfl | rfl | rfl | rfl <;> rfl
theorem infoCall : (Tryz.prog.info? 43).map (fun i => (i.zero, i.size, i.bytes)) = some (some (.agg #[.string ⟨#[]⟩, .string ⟨#[]⟩, .int .i64 0, .string ⟨#[]⟩]), 4, 56) := by kernel_rfl
theorem bytes_lt2 (a b : List UInt8) : Op.bytesLess a b = decide (a < b) := Proofs.bytesLess_eq a b
def plc : List CellD → List UInt8 → Nat
 | [], _ => 0
 | c :: r, k => if c.fKey < k then plc r k + 1 else 0
def fnd : List CellD → List UInt8 → Bool
 | [], _ => false
 | c :: r, k => if c.fKey < k then fnd r k else decide (c.fKey = k)
def valAt : List CellD → List UInt8 → Int
 | [], _ => 0
 | c :: r, k => if c.fKey < k then valAt r k else c.fValue
def putC : List CellD → List UInt8 → Int → List CellD
 | [], k, v => [⟨k, v⟩]
 | c :: r, k, v => if c.fKey < k then c :: putC r k v else if c.fKey = k then ⟨k, v⟩ :: r else ⟨k, v⟩ :: c :: r
theorem plc_le (l : List CellD) (k : List UInt8) : plc l k ≤ l.length := by
 induction l with
 | nil => exact Nat.le_refl _
 | cons c r ih => unfold plc; split <;> simp <;> omega
theorem plc_below (l : List CellD) (k : List UInt8) : ∀ i (h : i < l.length), i < plc l k → (l[i]).fKey < k := by
 induction l with
 | nil => intro i h; simp at h
 | cons c r ih =>
  intro i h hi
  unfold plc at hi
  split at hi
  ·cases i with
   | zero => assumption
   | succ i => exact ih i (by simpa using h) (by omega)
  ·omega
theorem plc_at (l : List CellD) (k : List UInt8) (h : plc l k < l.length) : ¬ (l[plc l k]).fKey < k := by
 induction l with
 | nil => simp at h
 | cons c r ih =>
  by_cases hc : c.fKey < k
  ·have e : plc (c :: r) k = plc r k + 1 := if_pos hc
   have h2 : plc r k < r.length := by rw [e] at h; simpa using h
   have := ih h2
   simp only [e, List.getElem_cons_succ]; exact this
  ·have e : plc (c :: r) k = 0 := if_neg hc
   simp only [e, List.getElem_cons_zero]; exact hc
theorem plc_eq (l : List CellD) (k : List UInt8) (m : Nat) (hm : m ≤ l.length) (h1 : ∀ i (h : i < l.length), i < m → (l[i]).fKey < k) (h2 : ∀ h : m < l.length, ¬ (l[m]).fKey < k) : plc l k = m := by
 rcases Nat.lt_trichotomy (plc l k) m with h | h | h
 ·exact absurd (h1 _ (by omega) h) (plc_at l k (by omega))
 ·exact h
 ·have := plc_le l k
  exact absurd (plc_below l k m (by omega) h) (h2 (by omega))
theorem fnd_at (l : List CellD) (k : List UInt8) (h : plc l k < l.length) : fnd l k = decide ((l[plc l k]).fKey = k) ∧ valAt l k = (l[plc l k]).fValue := by
 induction l with
 | nil => simp at h
 | cons c r ih =>
  by_cases hc : c.fKey < k
  ·have e : plc (c :: r) k = plc r k + 1 := if_pos hc
   have h2 : plc r k < r.length := by rw [e] at h; simpa using h
   have := ih h2
   unfold fnd valAt
   rw [if_pos hc, if_pos hc]
   simp only [e, List.getElem_cons_succ]; exact this
  ·have e : plc (c :: r) k = 0 := if_neg hc
   unfold fnd valAt
   rw [if_neg hc, if_neg hc]
   simp only [e, List.getElem_cons_zero]; exact ⟨trivial, trivial⟩
theorem fnd_end (l : List CellD) (k : List UInt8) (h : plc l k = l.length) : fnd l k = false := by
 induction l with
 | nil => rfl
 | cons c r ih =>
  by_cases hc : c.fKey < k
  ·have e : plc (c :: r) k = plc r k + 1 := if_pos hc
   unfold fnd; rw [if_pos hc]; exact ih (by rw [e] at h; simpa using h)
  ·have e : plc (c :: r) k = 0 := if_neg hc
   rw [e] at h; simp at h
theorem fnd_lt {l : List CellD} {k : List UInt8} (h : fnd l k = true) : plc l k < l.length := by
 rcases Nat.lt_or_ge (plc l k) l.length with h1 | h1
 ·exact h1
 ·rw [fnd_end l k (by have := plc_le l k; omega)] at h; exact absurd h (by simp)
theorem putC_found (l : List CellD) (k : List UInt8) (v : Int) (h : fnd l k = true) : putC l k v = l.set (plc l k) ⟨k, v⟩ := by
 induction l with
 | nil => simp [fnd] at h
 | cons c r ih =>
  unfold fnd at h
  unfold putC plc
  by_cases hc : c.fKey < k
  ·rw [if_pos hc] at h ⊢
   rw [if_pos hc, List.set_cons_succ, ih h]
  ·rw [if_neg hc] at h ⊢
   rw [if_neg hc, if_pos (by simpa using h), List.set_cons_zero]
theorem putC_new (l : List CellD) (k : List UInt8) (v : Int) (h : fnd l k = false) : putC l k v = l.take (plc l k) ++ ⟨k, v⟩ :: l.drop (plc l k) := by
 induction l with
 | nil => rfl
 | cons c r ih =>
  unfold fnd at h
  unfold putC plc
  by_cases hc : c.fKey < k
  ·rw [if_pos hc] at h ⊢
   rw [if_pos hc, List.take_succ_cons, List.drop_succ_cons, ih h]; rfl
  ·rw [if_neg hc] at h ⊢
   rw [if_neg hc, if_neg (by simpa using h)]; rfl
theorem putC_len (l : List CellD) (k : List UInt8) (v : Int) : (putC l k v).length = if fnd l k = true then l.length else l.length + 1 := by
 cases h : fnd l k with
 | true => rw [putC_found l k v h]; simp
 | false => rw [putC_new l k v h]; have := plc_le l k; simp; omega
def SortC (l : List CellD) : Prop := l.Pairwise (fun a b => a.fKey < b.fKey)
theorem key_trans {a b c : List UInt8} (h : a < b) (k : b < c) : a < c := List.lt_trans h k
theorem key_irr (a : List UInt8) : ¬ a < a := List.lt_irrefl a
theorem key_tri {a b : List UInt8} (h : ¬ a < b) (hn : a ≠ b) : b < a := by
 rcases List.le_total a b with h1 | h1
 ·exact absurd (List.le_antisymm h1 (List.not_lt.1 h)) hn
 ·exact List.not_le.1 fun h2 => hn (List.le_antisymm h2 h1)
theorem sortC_of (l : List CellD) (h : ∀ i (h : i + 1 < l.length), (l[i]).fKey < (l[i + 1]).fKey) : SortC l := by
 unfold SortC
 rw [List.pairwise_iff_getElem]
 intro i j hi hj hij
 induction j with
 | zero => omega
 | succ j ih =>
  rcases Nat.lt_or_ge i j with h1 | h1
  ·exact key_trans (ih (by omega) h1) (h j hj)
  ·have : i = j := by omega
   subst this; exact h i hj
theorem cellsB_sort {l : List CellD} (h : cellsB l = true) : SortC l := by
 refine sortC_of l fun i hi => ?_
 simp only [cellsB, Bool.and_eq_true] at h
 have := okTo_at l _ (i + 1) h.2 hi
 simp only [okAt, Bool.and_eq_true, Bool.or_eq_true, Nat.add_one_sub_one] at this
 have := this.2
 rw [getD_at l (i + 1) hi, getD_at l i (by omega), bytes_lt2] at this
 simpa using this
theorem cellsB_of {l : List CellD} (h1 : l.length ≤ 4) (h2 : ∀ d ∈ l, nameB d.fKey = true ∧ numB d.fValue = true) (h3 : SortC l) : cellsB l = true := by
 unfold cellsB
 rw [Bool.and_eq_true]
 refine ⟨by simpa using h1, ?_⟩
 unfold okTo
 rw [List.all_eq_true]
 intro i hi
 rw [List.mem_range] at hi
 have hm := h2 (l[i]) (List.getElem_mem hi)
 rw [okAt_of l i hi true true true hm.1 hm.2 ?_]
 ·rfl
 ·cases i with
  | zero => rfl
  | succ i =>
   simp only [Nat.add_one_sub_one, Bool.or_eq_true]
   right
   rw [getD_at l i (by omega), bytes_lt2, decide_eq_true_iff]
   exact (List.pairwise_iff_getElem.1 h3) i (i + 1) (by omega) hi (by omega)
theorem putC_mem {l : List CellD} {k : List UInt8} {v : Int} {d : CellD} (h : d ∈ putC l k v) : d = ⟨k, v⟩ ∨ d ∈ l := by
 induction l with
 | nil => left; simpa [putC] using h
 | cons c r ih =>
  unfold putC at h
  split at h
  ·rcases List.mem_cons.1 h with h | h
   ·right; rw [h]; exact List.mem_cons_self
   ·exact (ih h).imp id (List.mem_cons_of_mem _)
  ·split at h
   ·rcases List.mem_cons.1 h with h | h
    ·exact Or.inl h
    ·exact Or.inr (List.mem_cons_of_mem _ h)
   ·rcases List.mem_cons.1 h with h | h
    ·exact Or.inl h
    ·exact Or.inr h
theorem putC_sort {l : List CellD} (k : List UInt8) (v : Int) (h : SortC l) : SortC (putC l k v) := by
 induction l with
 | nil => simp [putC, SortC]
 | cons c r ih =>
  have hc := List.pairwise_cons.1 h
  unfold putC
  split
  ·rename_i hl
   refine List.pairwise_cons.2 ⟨fun d hd => ?_, ih hc.2⟩
   rcases putC_mem hd with rfl | hd
   ·exact hl
   ·exact hc.1 d hd
  ·rename_i hl
   split
   ·rename_i he
    refine List.pairwise_cons.2 ⟨fun d hd => ?_, hc.2⟩
    rw [← he]; exact hc.1 d hd
   ·rename_i he
    have hk := key_tri hl he
    refine List.pairwise_cons.2 ⟨fun d hd => ?_, h⟩
    rcases List.mem_cons.1 hd with rfl | hd
    ·exact hk
    ·exact key_trans hk (hc.1 d hd)
theorem putC_cells {l : List CellD} {k : List UInt8} {v : Int} (h : cellsB l = true) (hk : nameB k = true) (hv : numB v = true) (hl : fnd l k = true ∨ l.length < 4) : cellsB (putC l k v) = true := by
 refine cellsB_of ?_ ?_ (putC_sort k v (cellsB_sort h))
 ·rw [putC_len]; have := cellsB_len h; split
  ·exact this
  ·rcases hl with hl | hl
   ·contradiction
   ·omega
 ·intro d hd
  rcases putC_mem hd with rfl | hd
  ·exact ⟨hk, hv⟩
  ·exact cellsB_mem h d hd
theorem sort_after {l : List CellD} (h : SortC l) (k : List UInt8) (i : Nat) (hi : i < l.length) (hp : plc l k < i) : k < (l[i]).fKey := by
 have h1 := plc_at l k (by omega)
 have h2 := (List.pairwise_iff_getElem.1 h) (plc l k) i (by omega) hi hp
 by_cases he : (l[plc l k]).fKey = k
 ·rw [← he]; exact h2
 ·exact key_trans (key_tri h1 he) h2
def upI (n : Int) : Int := if n < 999 then n + 1 else n
theorem upI_num {n : Int} (h : numB n = true) : numB (upI n) = true := by
 simp only [numB, Bool.and_eq_true, decide_eq_true_iff] at h ⊢
 unfold upI; split <;> omega
def rC (c : Int) : ReplyD := ⟨c, 0, [], 0, 0⟩
def rV (v : Int) : ReplyD := ⟨0, v, [], 0, 0⟩
def rT (t : List UInt8) : ReplyD := ⟨0, 0, t, 0, 0⟩
def idleI (d : CoreD) : Int := if d.fBroken = true then 3 else if (!d.fOn && hasI (coreF d) 0) = true then 2 else 0
def startD (d : CoreD) : CoreD × ReplyD :=
 if d.fBroken = true then (d, rC 3) else if d.fOn = true then ({ d with fOn := false, fBroken := true }, rC 3) else ({ d with fOn := true, fCount := upI d.fCount }, rC 0)
def stopD (d : CoreD) : CoreD × ReplyD :=
 if d.fBroken = true then (d, rC 3) else if d.fOn = true then ({ d with fOn := false }, rC 0) else (d, rC 2)
def getD1 (d : CoreD) (k : List UInt8) : CoreD × ReplyD :=
 if idleI d = 0 then (if fnd d.fCells k = true then (d, rV (valAt d.fCells k)) else (d, rC 4)) else (d, rC (idleI d))
def putD (d : CoreD) (k : List UInt8) (v : Int) : CoreD × ReplyD :=
 if idleI d = 0 then
  (if fnd d.fCells k = true ∨ d.fCells.length < 4 then ({ d with fCells := putC d.fCells k v, fCount := upI d.fCount }, rV (putC d.fCells k v).length) else (d, rC 5))
 else (d, rC (idleI d))
def tellD (d : CoreD) : CoreD × ReplyD := (d, rV d.fCount)
def hearD (d : CoreD) (v : Int) : CoreD × ReplyD :=
 if d.fBroken = true then (d, rC 3) else ({ d with fOn := if v = 0 then false else if v = 1 then true else d.fOn, fCount := upI d.fCount }, rV (upI d.fCount))
def loadD (d : CoreD) (t : List UInt8) : CoreD × ReplyD :=
 if d.fBroken = true then (d, rC 3) else if prsB t = true then ({ d with fCells := prsC t }, rV (prsC t).length) else (d, rC 6)
def saveD (d : CoreD) : CoreD × ReplyD := if d.fBroken = true then (d, rC 3) else (d, rT (fmtC d.fCells))
def healD (d : CoreD) : CoreD × ReplyD := ({ d with fOn := false, fBroken := false }, rC 0)
def mthD (d : CoreD) (x : CallD) : CoreD × ReplyD :=
 if x.fMethod = [83, 116, 97, 114, 116] then startD d
 else if x.fMethod = [83, 116, 111, 112] then stopD d
 else if x.fMethod = [71, 101, 116] then getD1 d x.fKey
 else if x.fMethod = [80, 117, 116] then putD d x.fKey x.fValue
 else if x.fMethod = [84, 101, 108, 108] then tellD d
 else if x.fMethod = [72, 101, 97, 114] then hearD d x.fValue
 else if x.fMethod = [76, 111, 97, 100] then loadD d x.fText
 else if x.fMethod = [83, 97, 118, 101] then saveD d
 else healD d
end Go.Proofs.YtcpbikilgacdlaaGreat
namespace Go.Proofs.YtcpbikilgacdlaaGreat
set_option linter.unusedVariables false
set_option linter.unusedSimpArgs false
open Go.RowKit
def atK (l : List CellD) (k : List UInt8) : Int := findK (fun i => (l.getD i default).fKey == k) 0 l.length
set_option maxHeartbeats 1600000 in
theorem l3At_any (v : Value) (l : List CellD) (key : List UInt8) (w : World) (hx : FlatAt cCell 2 w v l) :
  Calls Tryz.prog 168 #[v, .string ⟨key.toArray⟩] w fun e w' => e = .returned (.int .i64 (atK l key)) ∧ Below w.heap.size w w' := by
 obtain ⟨a, c, rfl, hl⟩ := flatAt_len hx
 have HX := Lib.hid hx
 clear hx
 unfold maxLen at hl
 have HA := Lib.hid (show atK l key = findK (fun i => (l.getD i default).fKey == key) 0 (l.length - 0) from rfl)
 generalize atK l key = res at *
 go_enter Tryz.func168, Tryz.ntmps168
 go_wp2_with fail
 go_loopw [5, 6, 9] (fun _ _ i wr => ∃ k : Nat, k ≤ l.length ∧ i = .int .i64 k ∧ findK (fun i => (l.getD i default).fKey == key) k (l.length - k) = res ∧ Below w.heap.size w wr) (fun _ _ i _ => l.length - (intOf i).toNat)
 case atStart => exact ⟨0, Nat.zero_le _, rfl, HA.out.symm, Below.refl _ _⟩
 case round =>
  obtain ⟨k, hk, rfl, hok, hb⟩ := hrel
  have HO := Lib.hid hok
  have HB := Lib.hid hb
  have HXr := Lib.hid (FlatAt.below HX.out hb (Nat.le_refl _))
  clear hok hb
  by_cases hlt : k < l.length
  ·obtain ⟨b, o, rfl, hbl, hd⟩ := flatAt_cell cCell_len HXr.out k hlt (by decide)
   have d0 := hd 0 (by decide)
   have d1 := hd 1 (by decide)
   clear hd
   have HBB := Lib.hid (show ∀ o1, Below w.heap.size w (wr.alloc o1) from fun o1 => HB.out.alloc HB.out.size _)
   cases heq : ((l[k]).fKey == key) with
   | true =>
    have HR := Lib.hid (show (k : Int) = res from by rw [← HO.out]; exact (findK_yes hlt (by rw [getD_at l k hlt]; exact heq)).symm)
    generalize l[k] = p at *
    obtain ⟨a0, a1⟩ := p
    simp only [cCell, List.getElem?_cons_zero, List.getElem?_cons_succ, Nat.add_zero] at d0 d1
    go_wp2_with fail
    go_ret
    exact ⟨ret_int HR.out, HBB.out _⟩
   | false =>
    have HR := Lib.hid (show findK (fun i => (l.getD i default).fKey == key) (k + 1) (l.length - (k + 1)) = res from by rw [← HO.out]; exact (findK_no hlt (by rw [getD_at l k hlt]; exact heq)).symm)
    generalize l[k] = p at *
    obtain ⟨a0, a1⟩ := p
    simp only [cCell, List.getElem?_cons_zero, List.getElem?_cons_succ, Nat.add_zero] at d0 d1
    go_wp2_with fail
    exact ⟨⟨k + 1, by omega, by go_num, HR.out, HBB.out _⟩, by simp [intOf]; omega⟩
  ·have HR := Lib.hid (show (-1 : Int) = res from by rw [← HO.out, show k = l.length by omega]; exact findK_end.symm)
   go_wp2_with fail
   go_ret
   exact ⟨ret_int HR.out, HB.out⟩
end Go.Proofs.YtcpbikilgacdlaaGreat
namespace Go.Proofs.YtcpbikilgacdlaaGreat
set_option linter.unusedVariables false
open Go.RowKit
theorem step_strs {ops : Array Oper} {o : Oper} {a : Act} {K : Act → World → Prop} {Q : Exit → Act → World → Prop} {E : Prop} (hgd : o.guard = none) (s x : Operand)
  (ho : o.op = .call { callee := .builtin .append, args := #[s, x], argTypes := #[80, 80] }) (B : Nat) (v : Value) (xs : List (List UInt8)) (y : List UInt8) (w : World) (blk : Nat)
  (hs : a.eval s = v) (hO : Owns w B v xs) (hx : a.eval x = .slice (some ⟨blk, 0, none⟩) 1 1) (hc : w.cell? ⟨blk, 0, none⟩ = some (strV y)) (hl : xs.length ≤ 4194304) (hB : B ≤ w.heap.size)
  (h : ∀ v' w', Owns w' B v' (xs ++ [y]) → w.grownBy w' v.ownBlock → K (a.put o.dst v') w') : if Region.wanted o (yielded ops a.tmps) = true then Oper.wp Tryz.prog o a w K Q else E := by
 obtain ⟨i0, hi, hz0, hz1, hz2⟩ := info_parts string_info
 refine step_append_lies w hgd s x 80 ho B 9 i0 (.string ⟨#[]⟩) 1 16 Tryz.underlying80 hi hz0 hz1 hz2 rfl (by decide) v xs.length (xs.map strV) hs hO ⟨blk, 0, none⟩ 1 1 [strV y] hx rfl ?_ ?_ (by decide) (by unfold maxLen; omega) (by omega) hB _ rfl ?_
 ·intro j u hj
  cases j with
  | zero => simp at hj; subst hj; rw [Addr.add_lit]; exact hc
  | succ j => simp at hj
 ·intro u hu; simp at hu; subst hu; rfl
 ·intro g cap w' h1 h2 _ _
  refine h _ w' ?_ h2
  unfold Owns; rw [List.map_append, List.length_append]; exact h1
theorem owns_drew {w : World} {B : Nat} {v : Value} {xs : List (List UInt8)} (h : Owns w B v xs) : Owns w.drew B v xs := h
theorem below_drew {B : Nat} {a w : World} (h : Below B a w) : Below B a w.drew := ⟨h.os, h.tape, h.output, h.size, h.block⟩
theorem row_lit2 (w : World) (a b : List UInt8) (c : Nat) (hc : 2 ≤ c := by decide) : RowAt (w.alloc (.cells #[.string ⟨a.toArray⟩, .string ⟨b.toArray⟩] 9)) (.slice (some ⟨w.heap.size, 0, none⟩) 2 c) ([a, b].map strV) := by
 refine ⟨_, _, cap_eq _ hc, by unfold maxLen; simp, Or.inr ⟨w.heap.size, 0, rfl, by simp, fun i hi => ?_⟩⟩
 rw [cell_of_row _ _ _ _ 9 (0, 0) (heap_alloc_new w _)]
 simp [strV]
theorem nameB_len8 {l : List UInt8} (h : nameB l = true) : l.length ≤ 8 := by simp only [nameB, Bool.and_eq_true, decide_eq_true_iff] at h; exact h.1.1.2
theorem cellT_len {d : CellD} (h : nameB d.fKey = true) (h2 : numB d.fValue = true) : (cellT d).length ≤ 12 := by
 obtain ⟨k, e, hk⟩ := numB_nat h2
 have h1 := nameB_len8 h
 have h3 := numL_len hk
 unfold cellT; rw [e]; simp; omega
theorem fmt_small (l : List CellD) (h : ∀ d ∈ l, nameB d.fKey = true ∧ numB d.fValue = true) (hl : l.length ≤ 4) : (joinL (l.map cellT) [44]).length ≤ 100 := by
 have h1 := joinK_len (l.map cellT) [44] (l.map cellT).length (Nat.le_refl _)
 rw [List.take_length, List.length_map] at h1
 have h2 : total (l.map cellT) ≤ 12 * l.length := by
  clear h1 hl
  induction l with
  | nil => simp [total]
  | cons a r ih =>
   have := ih fun d hd => h d (List.mem_cons_of_mem _ hd)
   have h3 := cellT_len (h a List.mem_cons_self).1 (h a List.mem_cons_self).2
   simp only [List.map_cons, total, List.length_cons]; omega
 unfold joinL; simp only [List.length_map, List.length_cons, List.length_nil] at *; omega
theorem map_cellT_snoc (l : List CellD) (k : Nat) (h : k < l.length) : (l.take (k + 1)).map cellT = (l.take k).map cellT ++ [cellT l[k]] := by
 rw [List.take_succ_eq_append_getElem h, List.map_append]; rfl
set_option maxRecDepth 100000 in
set_option maxHeartbeats 1600000 in
theorem implFormatCells_any (v : Value) (l : List CellD) (w : World) (hx : FlatAt cCell 2 w v l) (hs : ∀ d ∈ l, d.fKey.length ≤ maxLen) :
  Calls Tryz.prog 211 #[v] w fun e w' => e = .returned (.string ⟨(fmtC l).toArray⟩) ∧ Below w.heap.size w w' := by
 have HC := Lib.hid (implIsCells_any v l w hx hs)
 obtain ⟨a, c, rfl, hl⟩ := flatAt_len hx
 have HX := Lib.hid hx
 clear hx hs
 unfold maxLen at hl
 cases hc : cellsB l with
 | false =>
  have HF := Lib.hid (show fmtC l = [] by unfold fmtC; rw [hc]; rfl)
  rw [hc] at HC
  clear hc
  go_enter Tryz.func211, Tryz.ntmps211
  go_wp2_with fail
  refine HC.out.mono ?_
  rintro e w1 ⟨rfl, hb⟩
  go_wp2_with fail
  go_ret
  exact ⟨ret_str (by rw [HF.out]), hb⟩
 | true =>
  have hm := cellsB_mem hc
  have hl4 := cellsB_len hc
  by_cases h0 : l = []
  ·subst h0
   have HF := Lib.hid (show fmtC [] = [45] by rfl)
   rw [hc] at HC
   clear hc
   go_enter Tryz.func211, Tryz.ntmps211
   go_wp2_with fail
   refine HC.out.mono ?_
   rintro e w1 ⟨rfl, hb⟩
   go_wp2_with fail
   go_ret
   exact ⟨ret_str (by rw [HF.out]), hb⟩
  ·have hpos : 0 < l.length := List.length_pos_iff.2 h0
   have hne : ((l.length : Int) == 0) = false := by rw [beq_eq_false_iff_ne]; omega
   have HF := Lib.hid (show fmtC l = joinL (l.map cellT) [44] by unfold fmtC; rw [if_pos hc, if_neg h0])
   have HSM := Lib.hid (fmt_small l hm hl4)
   have HM := Lib.hid hm
   rw [hc] at HC
   clear hc h0 hm
   go_enter Tryz.func211, Tryz.ntmps211
   go_wp2_with fail
   refine HC.out.mono ?_
   rintro e w1 ⟨rfl, hb⟩
   have HB := Lib.hid hb
   have HX1 := Lib.hid (FlatAt.below HX.out hb (Nat.le_refl _))
   clear hb
   have HO := Lib.hid (owns_new w1)
   have HS1 := Lib.hid HB.out.size
   go_wp2_with fail
   go_loopw [3, 5, 15] (fun ov _ i wr => ∃ k : Nat, k ≤ l.length ∧ i = .int .i64 k ∧ Owns wr w1.heap.size ov ((l.take k).map cellT) ∧ Below w.heap.size w wr ∧ Below w1.heap.size w1 wr) (fun _ _ i _ => l.length - (intOf i).toNat)
   case atStart => exact ⟨0, Nat.zero_le _, rfl, HO.out, HB.out.alloc HB.out.size _, (Below.refl _ _).alloc (Nat.le_refl _) _⟩
   case round =>
    obtain ⟨k, hk, rfl, hO, hb, hb1⟩ := hrel
    have HO2 := Lib.hid hO
    have HB2 := Lib.hid hb
    have HB3 := Lib.hid hb1
    have HXr := Lib.hid (FlatAt.below HX1.out hb1 (Nat.le_refl _))
    clear hO hb hb1
    by_cases hlt : k < l.length
    ·obtain ⟨b, o, rfl, hbl, hd⟩ := flatAt_cell cCell_len HXr.out k hlt (by decide)
     have d0 := hd 0 (by decide)
     have d1 := hd 1 (by decide)
     clear hd
     have HSN := Lib.hid (map_cellT_snoc l k hlt)
     have hmm := HM.out l[k] (List.getElem_mem hlt)
     obtain ⟨z, hz, hz9⟩ := numB_nat hmm.2
     have HN8 := Lib.hid (nameB_len8 hmm.1)
     have HZ3 := Lib.hid (numL_len hz9)
     have HCT := Lib.hid (show joinL [(l[k]).fKey, numL z] [61] = cellT l[k] by rw [joinL_two]; unfold cellT; rw [hz])
     have HFM := Lib.hid (fun w0 => implFormat_any z w0 (by omega) (by omega))
     clear hmm
     generalize l[k] = p at *
     obtain ⟨a0, a1⟩ := p
     simp only [cCell, List.getElem?_cons_zero, List.getElem?_cons_succ, Nat.add_zero] at d0 d1 hz
     subst hz
     have HJ := Lib.hid (fun (w0 : World) (n0 : Nat) (h : n0 = w0.heap.size) => implJoin_any (.slice (some ⟨n0, 0, none⟩) 2 2) [a0, numL z] ⟨#[61]⟩ _ (by subst h; exact row_lit2 w0 a0 (numL z) 2) (by have := HN8.out; have := HZ3.out; simp only at *; rw [joinL_two]; simp; omega) (by decide))
     rw [HCT.out] at HJ
     have HLT := Lib.hid (show ∀ g, u3.ownBlock = some g → g < wr.heap.size from fun g h => (World.ownsRow.lt HO2.out g h).2)
     go_wp2_with fail
     go_region_held3 (fun w' => w'.cell? ⟨wr.heap.size, 0, none⟩ = some (.string ⟨a0.toArray⟩) ∧ w'.cell? ⟨wr.heap.size, 1, none⟩ = some (.int .i64 z))
      (first
       | go_keep
       |(rw [hb1.cell (p := ⟨wr.heap.size, 0, none⟩) (by simp), hb1.cell (p := ⟨wr.heap.size, 1, none⟩) (by simp)]; assumption)
       |(rw [hb2.cell (p := ⟨wr.heap.size, 0, none⟩) (by have := hb1.size; simp at this; simp; omega), hb2.cell (p := ⟨wr.heap.size, 1, none⟩) (by have := hb1.size; simp at this; simp; omega)]; assumption)
       |(rw [hg1.cell_far ⟨wr.heap.size, 0, none⟩ (by have := hb1.size; have := hb2.size; simp at *; omega) (by intro e; have := HLT.out _ e.symm; simp at this), hg1.cell_far ⟨wr.heap.size, 1, none⟩ (by have := hb1.size; have := hb2.size; simp at *; omega) (by intro e; have := HLT.out _ e.symm; simp at this)]; assumption))
      (first
       |(go_at_call 214; refine (HFM.out _).mono ?_; rintro e w2 ⟨rfl, hb1⟩)
       |(go_at_call 213; refine (HJ.out _ _ rfl).mono ?_; rintro e w3 ⟨rfl, hb2⟩)
       |(refine step_strs rfl _ _ rfl w1.heap.size u3 ((l.take k).map cellT) (cellT ⟨a0, z⟩) _ w3.heap.size rfl (owns_alloc (owns_below (owns_alloc (owns_below (owns_drew (owns_alloc HO2.out _)) hb1 (Nat.le_refl _)) _) hb2 (Nat.le_refl _)) _) rfl (cell_new _ _ _) ?_ ?_ ?_; (simp; omega); (have h1 := hb1.size; have h2 := hb2.size; have h3 := HB3.out.size; simp at h1 h2 h3; simp; omega); intro v' w4 hO4 hg1))
     have HA := Lib.hid (below_drew ((Below.refl wr.heap.size wr).alloc (Nat.le_refl _) (.cells #[.string ⟨a0.toArray⟩, .int .i64 z] 139)))
     have HA1 := Lib.hid ((HA.out.trans (hb1.mono HA.out.size)).alloc (HA.out.trans (hb1.mono HA.out.size)).size (.cells #[.string ⟨a0.toArray⟩, .string ⟨(numL z).toArray⟩] 9))
     have HA2 := Lib.hid ((HA1.out.trans (hb2.mono HA1.out.size)).alloc (HA1.out.trans (hb2.mono HA1.out.size)).size (.cells #[.string ⟨(cellT ⟨a0, z⟩).toArray⟩] 9))
     have HA3 := Lib.hid (below_append (HB3.out.trans (HA2.out.mono HB3.out.size)) (owns_alloc (owns_below (owns_alloc (owns_below (owns_drew (owns_alloc HO2.out _)) hb1 (Nat.le_refl _)) _) hb2 (Nat.le_refl _)) _) hg1 (HB3.out.trans (HA2.out.mono HB3.out.size)).size)
     have HO4' := Lib.hid hO4
     rename_i hheld
     clear hb1 hb2 hg1 hO4 hheld
     go_wp2_with fail
     exact ⟨⟨k + 1, by omega, by go_num, by rw [HSN.out]; exact HO4'.out, HB.out.trans (HA3.out.mono HS1.out), HA3.out⟩, by simp [intOf]; omega⟩
    ·have HN := Lib.hid (show (l.take k).map cellT = l.map cellT from by rw [List.take_of_length_le (by omega)])
     have HJ := Lib.hid (implJoin_any u3 (l.map cellT) ⟨#[44]⟩ wr (by rw [← HN.out]; exact owns_row HO2.out (by simp; omega)) (by have := HSM.out; simp only at *; omega) (by decide))
     go_wp2_with fail
     refine HJ.out.mono ?_
     rintro e w2 ⟨rfl, hb⟩
     go_wp2_with fail
     go_ret
     exact ⟨ret_str HF.out.symm, HB2.out.trans (hb.mono HB2.out.size)⟩
theorem append_cell {ops : Array Oper} {rest : List Oper} {o : Oper} {a : Act} {Q : Exit → Act → World → Prop} (hgd : o.guard = none) (s x : Operand)
  (ho : o.op = .call { callee := .builtin .append, args := #[s, x], argTypes := #[32, 32] }) (B : Nat) (v : Value) (l : List CellD) (y : CellD) (w : World) (blk : Nat)
  (hs : a.eval s = v) (hO : OwnsF cCell 139 2 w B v l) (hx : a.eval x = .slice (some ⟨blk, 0, none⟩) 1 1) (hc : ∀ j, j < 2 → w.cell? ⟨blk, j, none⟩ = (cCell y)[j]?) (hl : l.length ≤ 4194304) (hB : B ≤ w.heap.size)
  (h : ∀ v' w', OwnsF cCell 139 2 w' B v' (l ++ [y]) → w.grownBy w' v.ownBlock → wpList Tryz.prog ops Q rest (a.put o.dst v') w') : wpList Tryz.prog ops Q (o :: rest) a w :=
 append_flat cCell_len cCell_one cell_info rfl (by decide) (by decide) Tryz.underlying32 hgd s x ho B v l y w blk hs hO hx hc hl hB h
theorem map_rdC_snoc (l : List (List UInt8)) (k : Nat) (h : k < l.length) : (l.take (k + 1)).map rdC = (l.take k).map rdC ++ [rdC l[k]] := by
 rw [List.take_succ_eq_append_getElem h, List.map_append]; rfl
set_option maxRecDepth 100000 in
set_option maxHeartbeats 1600000 in
theorem implReadCells_any (s : ByteArray) (m : Int) (w : World) (hm : w.cell? ⟨0, 0, none⟩ = some (.int .i64 m)) (hs : s.size ≤ 1048576) :
  Calls Tryz.prog 212 #[.string s] w fun e w' => GivesF cCell 139 2 (rdCs s.data.toList) w e w' := by
 have HG := Lib.hid (World.block_lt_of_cell? w _ hm)
 have HM := Lib.hid hm
 have HO := Lib.hid (ownsF_new cCell 139 2 w)
 clear hm
 by_cases hd : s.data.toList = [45]
 ·have hb : (s.toList == [45]) = true := by rw [Lib.toList_data, hd]; rfl
  have HR := Lib.hid (show rdCs s.data.toList = [] from if_pos hd)
  clear hd
  go_enter Tryz.func212, Tryz.ntmps212
  go_wp2_with fail
  go_ret
  exact ⟨_, rfl, by rw [HR.out]; exact HO.out, (Below.refl _ _).alloc (Nat.le_refl _) _⟩
 ·have hb : (s.toList == [45]) = false := by rw [Lib.toList_data]; simpa using hd
  have HR := Lib.hid (show rdCs s.data.toList = (splitL s.data.toList [44]).map rdC from if_neg hd)
  have HA := Lib.hid (show ∀ o, Below w.heap.size w (w.alloc o) from fun o => (Below.refl w.heap.size w).alloc (Nat.le_refl _) o)
  have HSP := Lib.hid (fun o => implSplit_any s ⟨#[44]⟩ m (w.alloc o) (((HA.out o).cell (p := ⟨0, 0, none⟩) HG.out).trans HM.out) hs (by decide))
  have hxl : (splitL s.data.toList [44]).length ≤ 1048577 := by have := splitL_len s.data.toList [44]; rw [size_list] at this; omega
  have HP := Lib.hid (fun p (hp : p ∈ splitL s.data.toList [44]) => show p.length ≤ 1048576 from by have := split_part _ _ p hp; rw [size_list] at this; omega)
  clear hd
  rw [show (⟨#[44]⟩ : ByteArray).data.toList = [44] from rfl] at HSP
  generalize splitL s.data.toList [44] = x at *
  go_enter Tryz.func212, Tryz.ntmps212
  go_wp2_with fail
  refine (HSP.out _).mono ?_
  rintro e w1 ⟨u, rfl, ho, hb1⟩
  have HO1 := Lib.hid (ownsF_below HO.out hb1 (Nat.le_refl _))
  have HB := Lib.hid ((HA.out _).trans (hb1.mono (HA.out _).size))
  have HX := Lib.hid (show Owns w1 (w.heap.size + 1) u x from by simpa using ho)
  obtain ⟨a, c, rfl, _⟩ := rowAt_len (owns_row ho (by omega))
  rw [List.length_map] at *
  clear ho hb1
  go_wp2_with fail
  go_loopw [3, 5, 6, 7, 8, 9, 10, 18] (fun ov _ _ _ _ _ _ i wr => ∃ k : Nat, k ≤ x.length ∧ i = .int .i64 k ∧ OwnsF cCell 139 2 wr w.heap.size ov ((x.take k).map rdC) ∧ Below w.heap.size w wr ∧ Owns wr (w.heap.size + 1) (.slice a x.length c) x) (fun _ _ _ _ _ _ _ i _ => x.length - (intOf i).toNat)
  case atStart => exact ⟨0, Nat.zero_le _, rfl, HO1.out, HB.out, HX.out⟩
  case round =>
   obtain ⟨k, hk, rfl, hO, hb, hX⟩ := hrel
   have HO2 := Lib.hid hO
   have HB2 := Lib.hid hb
   have HXr := Lib.hid hX
   clear hO hb hX
   by_cases hlt : k < x.length
   ·obtain ⟨b, o, rfl, hbl, d1⟩ := rowAt_cell (owns_row HXr.out (by omega)) k (by simpa using hlt)
    rw [getElem_map_strV] at d1
    unfold strV at d1
    have HSN := Lib.hid (map_rdC_snoc x k hlt)
    have hp := HP.out x[k] (List.getElem_mem hlt)
    have HMr := Lib.hid ((HB2.out.cell (p := ⟨0, 0, none⟩) HG.out).trans HM.out)
    generalize x[k] = p at *
    have hcl := cut_len p [61]
    have HCT := Lib.hid (Tryz.strings_Cut ⟨p.toArray⟩ ⟨#[61]⟩ m wr (by rw [size_strB]; omega) HMr.out)
    rw [dataL, show (⟨#[61]⟩ : ByteArray).data.toList = [61] from rfl] at HCT
    have HRD := Lib.hid (show rdC p = ⟨(Lib.cut p [61]).1, pnum (Lib.cut p [61]).2.1⟩ from rfl)
    generalize Lib.cut p [61] = t at *
    obtain ⟨t1, t2, t3⟩ := t
    simp only at HCT HRD hcl
    have HPN := Lib.hid (fun w0 => implParse_any ⟨t2.toArray⟩ w0 (by rw [size_strB]; unfold maxLen; omega))
    simp only at HPN
    have HCP := Lib.hid (fun w0 => copyText_any ⟨t1.toArray⟩ w0 (by rw [size_strB]; omega))
    go_wp2_with fail
    refine HCT.out.mono ?_
    rintro e w2 ⟨rfl, nd, rfl⟩
    go_wp2_with fail
    refine (HPN.out _).mono ?_
    rintro e w2 ⟨rfl, rfl⟩
    go_wp2_with fail
    refine (HCP.out _).mono ?_
    rintro e w3 ⟨rfl, hb3⟩
    have HB3 := Lib.hid ((below_drewN HB2.out nd).trans (hb3.mono HB2.out.size))
    have HB4 := Lib.hid (HB3.out.alloc HB3.out.size (.cells #[.string ⟨t1.toArray⟩, .int .i64 (pnum t2)] 139))
    have HX4 := Lib.hid (owns_alloc (owns_below (show Owns (wr.drewN nd) (w.heap.size + 1) _ x from HXr.out) hb3 (Nat.le_refl _)) (.cells #[.string ⟨t1.toArray⟩, .int .i64 (pnum t2)] 139))
    have HO3 := Lib.hid (show OwnsF cCell 139 2 w3 w.heap.size u3 _ from ownsF_below (show OwnsF cCell 139 2 (wr.drewN nd) w.heap.size u3 _ from HO2.out) hb3 (Nat.le_refl _))
    clear hb3
    go_wp2_with (at_builtin; refine append_cell rfl _ _ rfl w.heap.size _ ((x.take k).map rdC) ⟨t1, pnum t2⟩ _ w3.heap.size rfl (ownsF_alloc HO3.out _) rfl (cell_newC w3 ⟨t1, pnum t2⟩ _ rfl) (by simp; omega) (by have := HB3.out.size; simp; omega) ?_; intro v' w4 hO4 hg4)
    have HB5 := Lib.hid (below_appendF HB4.out (ownsF_alloc HO3.out _) hg4 HB4.out.size)
    refine ⟨⟨k + 1, by omega, by go_num, by rw [HSN.out, HRD.out]; exact hO4, HB5.out, owns_keptF HX4.out (ownsF_alloc HO3.out _) hg4 (by decide)⟩, by simp [intOf]; omega⟩
   ·have HN := Lib.hid (show (x.take k).map rdC = x.map rdC from by rw [List.take_of_length_le (by omega)])
    go_wp2_with fail
    go_ret
    exact ⟨_, rfl, by rw [HR.out, ← HN.out]; exact HO2.out, HB2.out⟩
end Go.Proofs.YtcpbikilgacdlaaGreat
namespace Go.Proofs.YtcpbikilgacdlaaGreat
set_option linter.unusedVariables false
set_option linter.unusedSimpArgs false
open Go.RowKit
def outTo (l : List CellD) (k : List UInt8) (v : Int) (i : Nat) : List CellD :=
 if plc l k < i then l.take (plc l k) ++ ⟨k, v⟩ :: (l.take i).drop (if fnd l k = true then plc l k + 1 else plc l k) else l.take i
theorem outTo_low (l : List CellD) (k : List UInt8) (v : Int) (i : Nat) (hi : i < l.length) (h : i < plc l k) : outTo l k v (i + 1) = outTo l k v i ++ [l[i]] := by
 unfold outTo
 rw [if_neg (by omega), if_neg (by omega), List.take_succ_eq_append_getElem hi]
theorem outTo_high (l : List CellD) (k : List UInt8) (v : Int) (i : Nat) (hi : i < l.length) (h : plc l k < i) : outTo l k v (i + 1) = outTo l k v i ++ [l[i]] := by
 unfold outTo
 rw [if_pos (by omega), if_pos h, List.take_succ_eq_append_getElem hi, List.drop_append_of_le_length (by rw [List.length_take]; split <;> omega)]
 simp
theorem outTo_at (l : List CellD) (k : List UInt8) (v : Int) (hi : plc l k < l.length) : outTo l k v (plc l k + 1) = outTo l k v (plc l k) ++ ⟨k, v⟩ :: (if (l[plc l k]).fKey = k then [] else [l[plc l k]]) := by
 have hf := (fnd_at l k hi).1
 unfold outTo
 rw [if_pos (Nat.lt_succ_self (plc l k)), if_neg (Nat.lt_irrefl (plc l k)), List.take_succ_eq_append_getElem hi]
 congr 2
 have hl : (l.take (plc l k)).length = plc l k := by rw [List.length_take]; omega
 by_cases he : (l[plc l k]).fKey = k
 ·rw [if_pos he, if_pos (by rw [hf]; simpa using he)]
  rw [List.drop_eq_nil_of_le (by simp [hl]; omega)]
 ·rw [if_neg he, if_neg (by rw [hf]; simpa using he)]
  conv => lhs; arg 1; rw [← hl]
  rw [List.drop_left]
theorem outTo_end (l : List CellD) (k : List UInt8) (v : Int) (hi : plc l k < l.length) : outTo l k v l.length = putC l k v := by
 unfold outTo
 rw [if_pos hi, List.take_length]
 cases hf : fnd l k with
 | true => rw [putC_found l k v hf, if_pos rfl, List.set_eq_take_append_cons_drop, if_pos hi]
 | false => rw [putC_new l k v hf, if_neg (by simp)]
theorem outTo_last (l : List CellD) (k : List UInt8) (v : Int) (hi : plc l k = l.length) : outTo l k v l.length ++ [⟨k, v⟩] = putC l k v := by
 unfold outTo
 rw [if_neg (by omega), putC_new l k v (fnd_end l k hi), hi, List.drop_length]
theorem outTo_len (l : List CellD) (k : List UInt8) (v : Int) (i : Nat) (hi : i ≤ l.length) : (outTo l k v i).length ≤ i + 1 := by
 unfold outTo
 have := plc_le l k
 split
 ·simp; split <;> omega
 ·simp; omega
set_option maxRecDepth 100000 in
set_option maxHeartbeats 3200000 in
theorem l3Put_any (vv : Value) (l : List CellD) (key : List UInt8) (v : Int) (w : World) (hx : FlatAt cCell 2 w vv l) (hm : l.length ≤ 1000) (hs : SortC l) :
  Calls Tryz.prog 169 #[vv, .string ⟨key.toArray⟩, .int .i64 v] w fun e w' => ∃ u, e = .returned u ∧ OwnsF cCell 139 2 w' w.heap.size u (putC l key v) ∧ Below w.heap.size w w' := by
 obtain ⟨a, c, rfl, hl⟩ := flatAt_len hx
 have HX := Lib.hid hx
 clear hx
 unfold maxLen at hl
 have HSA := Lib.hid (fun i h1 h2 => sort_after hs key i h1 h2)
 have HLO := Lib.hid (outTo_low l key v)
 have HHI := Lib.hid (outTo_high l key v)
 have HAT := Lib.hid (outTo_at l key v)
 have HEN := Lib.hid (outTo_end l key v)
 have HLA := Lib.hid (outTo_last l key v)
 have HLN := Lib.hid (outTo_len l key v)
 have HPB := Lib.hid (plc_below l key)
 have HPA := Lib.hid (plc_at l key)
 have hple := plc_le l key
 have H0 := Lib.hid (show outTo l key v 0 = [] from by unfold outTo; rw [if_neg (by omega)]; rfl)
 generalize putC l key v = res at *
 generalize hq : plc l key = q at *
 clear hq hs
 have HO0 := Lib.hid (show OwnsF cCell 139 2 (w.alloc (.cells #[] 139)) w.heap.size (.slice (some ⟨w.heap.size, 0, none⟩) 0 0) (outTo l key v 0) from by rw [H0.out]; exact ownsF_new cCell 139 2 w)
 go_enter Tryz.func169, Tryz.ntmps169
 go_wp2_with fail
 go_loopw [7, 8, 10, 14] (fun u dn _ i wr => ∃ k : Nat, k ≤ l.length ∧ i = .int .i64 k ∧ dn = .bool (decide (q < k)) ∧ OwnsF cCell 139 2 wr w.heap.size u (outTo l key v k) ∧ Below w.heap.size w wr) (fun _ _ _ i _ => l.length - (intOf i).toNat)
 case atStart => exact ⟨0, Nat.zero_le _, rfl, by simp, HO0.out, (Below.refl _ _).alloc (Nat.le_refl _) _⟩
 case round =>
  obtain ⟨k, hk, rfl, rfl, hO, hb⟩ := hrel
  have HO := Lib.hid hO
  have HB := Lib.hid hb
  have HXr := Lib.hid (FlatAt.below HX.out hb (Nat.le_refl _))
  have hLk := HLN.out k hk
  clear hO hb
  by_cases hlt : k < l.length
  ·obtain ⟨b, o, rfl, hbl, hd⟩ := flatAt_cell cCell_len HXr.out k hlt (by decide)
   have d0 := hd 0 (by decide)
   have d1 := hd 1 (by decide)
   clear hd
   rcases Nat.lt_trichotomy k q with hkq | hkq | hkq
   ·have hg : decide (q < k) = false := decide_eq_false (by omega)
    have hg2 : decide (q < k + 1) = false := decide_eq_false (by omega)
    have HN := Lib.hid (HLO.out k hlt hkq)
    have hlt2 := HPB.out k hlt hkq
    have hx1 : Op.bytesLess (l[k]).fKey key = true := by rw [bytes_lt2]; simpa using hlt2
    have hx2 : ((l[k]).fKey != key) = true := by simp only [bne_iff_ne, ne_eq]; intro e; rw [e] at hlt2; exact key_irr _ hlt2
    have hx3 : ((l[k]).fKey == key) = false := by simpa using hx2
    clear hlt2
    generalize l[k] = p at *
    obtain ⟨a0, a1⟩ := p
    simp only [cCell, List.getElem?_cons_zero, List.getElem?_cons_succ, Nat.add_zero] at d0 d1
    rw [hg]
    go_wp2_with (at_builtin; refine append_cell rfl _ _ rfl w.heap.size _ (outTo l key v k) ⟨a0, a1⟩ _ (wr.heap.size + 1) (by rfl) (ownsF_alloc (ownsF_alloc HO.out _) _) (by rfl) (cell_newC (wr.alloc _) ⟨a0, a1⟩ _ (by simp)) (by omega) (by have := HB.out.size; simp; omega) ?_; intro v' w' ho hgr)
    have HA := Lib.hid (below_appendF (((HB.out.alloc HB.out.size _).alloc (by have := HB.out.size; simp; omega) _)) (ownsF_alloc (ownsF_alloc HO.out _) _) hgr (by have := HB.out.size; simp; omega))
    refine ⟨⟨k + 1, by omega, by go_num, by rw [hg2], by rw [HN.out]; exact ho, HA.out⟩, by simp [intOf]; omega⟩
   ·have hg : decide (q < k) = false := decide_eq_false (by omega)
    have hg2 : decide (q < k + 1) = true := decide_eq_true (by omega)
    have HN := Lib.hid (show outTo l key v (k + 1) = outTo l key v k ++ ⟨key, v⟩ :: (if (l[k]).fKey = key then [] else [l[k]]) from by have h := HAT.out (by omega); simp only [← hkq] at h; exact h)
    have hx1 : Op.bytesLess (l[k]).fKey key = false := by rw [bytes_lt2]; have h := HPA.out (by omega); simp only [← hkq] at h; simpa using h
    have HKQ := Lib.hid hkq
    clear hkq
    cases hx3 : ((l[k]).fKey == key) with
    | true =>
     have HN1 := Lib.hid (show outTo l key v (k + 1) = outTo l key v k ++ [⟨key, v⟩] from by rw [HN.out, if_pos (by simpa using hx3)])
     clear HN HAT
     generalize l[k] = p at *
     obtain ⟨a0, a1⟩ := p
     simp only [cCell, List.getElem?_cons_zero, List.getElem?_cons_succ, Nat.add_zero] at d0 d1
     rw [hg]
     go_wp2_with (at_builtin; refine append_cell rfl (.tmp 26) (.tmp 30) rfl w.heap.size _ (outTo l key v k) ⟨key, v⟩ _ (wr.heap.size + 1) (by rfl) (ownsF_alloc (ownsF_alloc HO.out _) _) (by rfl) (cell_newC (wr.alloc _) ⟨key, v⟩ _ (by simp)) (by omega) (by have := HB.out.size; simp; omega) ?_; intro v' w' ho hgr; have b0 : w'.cell? ⟨wr.heap.size, 0, none⟩ = some (.string ⟨a0.toArray⟩) := (hgr.cell_far ⟨wr.heap.size, 0, none⟩ (by simp; try omega) (fun e => by have := (World.ownsRow.lt HO.out _ e.symm).2; simp at this)).trans (by simp [go_sem]); have b1 : w'.cell? ⟨wr.heap.size, 1, none⟩ = some (.int .i64 a1) := (hgr.cell_far ⟨wr.heap.size, 1, none⟩ (by simp; try omega) (fun e => by have := (World.ownsRow.lt HO.out _ e.symm).2; simp at this)).trans (by simp [go_sem]))
     have HA := Lib.hid (below_appendF (((HB.out.alloc HB.out.size _).alloc (by have := HB.out.size; simp; omega) _)) (ownsF_alloc (ownsF_alloc HO.out _) _) hgr (by have := HB.out.size; simp; omega))
     refine ⟨⟨k + 1, by omega, by go_num, by rw [hg2], by rw [HN1.out]; exact ho, HA.out⟩, by simp [intOf]; omega⟩
    | false =>
     have HN1 := Lib.hid (show outTo l key v (k + 1) = (outTo l key v k ++ [⟨key, v⟩]) ++ [l[k]] from by rw [HN.out, if_neg (by simpa using hx3)]; simp)
     clear HN HAT
     generalize l[k] = p at *
     obtain ⟨a0, a1⟩ := p
     simp only [cCell, List.getElem?_cons_zero, List.getElem?_cons_succ, Nat.add_zero] at d0 d1
     rw [hg]
     go_wp2_with (first | (at_builtin; refine append_cell rfl (.tmp 26) (.tmp 30) rfl w.heap.size _ (outTo l key v k) ⟨key, v⟩ _ (wr.heap.size + 1) (by rfl) (ownsF_alloc (ownsF_alloc HO.out _) _) (by rfl) (cell_newC (wr.alloc _) ⟨key, v⟩ _ (by simp)) (by omega) (by have := HB.out.size; simp; omega) ?_; intro v' w' ho hgr; have b0 : w'.cell? ⟨wr.heap.size, 0, none⟩ = some (.string ⟨a0.toArray⟩) := (hgr.cell_far ⟨wr.heap.size, 0, none⟩ (by simp; try omega) (fun e => by have := (World.ownsRow.lt HO.out _ e.symm).2; simp at this)).trans (by simp [go_sem]); have b1 : w'.cell? ⟨wr.heap.size, 1, none⟩ = some (.int .i64 a1) := (hgr.cell_far ⟨wr.heap.size, 1, none⟩ (by simp; try omega) (fun e => by have := (World.ownsRow.lt HO.out _ e.symm).2; simp at this)).trans (by simp [go_sem])) | (at_builtin; refine append_cell rfl (.tmp 36) (.tmp 38) rfl w.heap.size _ (outTo l key v k ++ [⟨key, v⟩]) ⟨a0, a1⟩ _ w'.heap.size (by rfl) (ownsF_alloc ho _) (by rfl) (cell_newC w' ⟨a0, a1⟩ _ rfl) (by simp; omega) (by have := HB.out.size; have := hgr.size; simp at *; omega) ?_; intro v2 w2 ho2 hgr2))
     have HA := Lib.hid (below_appendF (((HB.out.alloc HB.out.size _).alloc (by have := HB.out.size; simp; omega) _)) (ownsF_alloc (ownsF_alloc HO.out _) _) hgr (by have := HB.out.size; simp; omega))
     have HA2 := Lib.hid (below_appendF (HA.out.alloc HA.out.size _) (ownsF_alloc ho _) hgr2 (by have := HA.out.size; simp; omega))
     refine ⟨⟨k + 1, by omega, by go_num, by rw [hg2], by rw [HN1.out]; exact ho2, HA2.out⟩, by simp [intOf]; omega⟩
   ·have hg : decide (q < k) = true := decide_eq_true (by omega)
    have hg2 : decide (q < k + 1) = true := decide_eq_true (by omega)
    have HN := Lib.hid (HHI.out k hlt hkq)
    have hlt2 := HSA.out k hlt hkq
    have hx3 : ((l[k]).fKey == key) = false := by simp only [beq_eq_false_iff_ne, ne_eq]; intro e; rw [e] at hlt2; exact key_irr _ hlt2
    clear hlt2
    generalize l[k] = p at *
    obtain ⟨a0, a1⟩ := p
    simp only [cCell, List.getElem?_cons_zero, List.getElem?_cons_succ, Nat.add_zero] at d0 d1
    rw [hg]
    go_wp2_with (at_builtin; refine append_cell rfl _ _ rfl w.heap.size _ (outTo l key v k) ⟨a0, a1⟩ _ (wr.heap.size + 1) (by rfl) (ownsF_alloc (ownsF_alloc HO.out _) _) (by rfl) (cell_newC (wr.alloc _) ⟨a0, a1⟩ _ (by simp)) (by omega) (by have := HB.out.size; simp; omega) ?_; intro v' w' ho hgr)
    have HA := Lib.hid (below_appendF (((HB.out.alloc HB.out.size _).alloc (by have := HB.out.size; simp; omega) _)) (ownsF_alloc (ownsF_alloc HO.out _) _) hgr (by have := HB.out.size; simp; omega))
    refine ⟨⟨k + 1, by omega, by go_num, by rw [hg2], by rw [HN.out]; exact ho, HA.out⟩, by simp [intOf]; omega⟩
  ·have hkl : k = l.length := by omega
   by_cases hql : q < l.length
   ·have hg : decide (q < k) = true := decide_eq_true (by omega)
    have HR := Lib.hid (show outTo l key v k = res from by rw [hkl]; exact HEN.out hql)
    rw [hg]
    go_wp2_with fail
    go_ret
    exact ⟨_, rfl, by rw [← HR.out]; exact HO.out, HB.out⟩
   ·have hg : decide (q < k) = false := decide_eq_false (by omega)
    have HR := Lib.hid (show outTo l key v k ++ [⟨key, v⟩] = res from by rw [hkl]; exact HLA.out (by omega))
    rw [hg]
    go_wp2_with (at_builtin; refine append_cell rfl _ _ rfl w.heap.size _ (outTo l key v k) ⟨key, v⟩ _ wr.heap.size (by rfl) (ownsF_alloc HO.out _) (by rfl) (cell_newC wr ⟨key, v⟩ _ rfl) (by omega) (by have := HB.out.size; simp; omega) ?_; intro v' w' ho hgr)
    go_ret
    exact ⟨_, rfl, by rw [← HR.out]; exact ho, below_appendF (HB.out.alloc HB.out.size _) (ownsF_alloc HO.out _) hgr (by have := HB.out.size; simp; omega)⟩
set_option maxHeartbeats 800000 in
theorem l3Key_any (b : Nat) (v : Value) (l : List UInt8) (w : World) (hC : Cur w b v l) :
  Calls Tryz.prog 162 #[.pointer (some ⟨b, 0, none⟩)] w fun e w' => DrawnStr (fun x => x.size ≤ 9) b v l w e w' := by
 have HC := Lib.hid hC
 clear hC
 go_enter Tryz.func162, Tryz.ntmps162
 go_wp2_with fail
 refine (l1Str_new b v l w _ _ _ _ 9 HC.out (by rfl) (by decide) (by decide) (by decide)).mono ?_
 rintro e w1 ⟨x, rfl, hx, hg1, hC1⟩
 have HG := Lib.hid hg1
 have HC1 := Lib.hid hC1
 clear hg1 hC1
 go_wp2_with fail
 go_ret
 exact ⟨_, rfl, hx, HG.out, HC1.out⟩
set_option maxHeartbeats 800000 in
theorem l3Kind_any (b : Nat) (v : Value) (l : List UInt8) (w : World) (hC : Cur w b v l) :
  Calls Tryz.prog 166 #[.pointer (some ⟨b, 0, none⟩)] w fun e w' => DrawnStr (fun x => x.size ≤ 9) b v l w e w' := by
 have HC0 := Lib.hid hC
 clear hC
 go_enter Tryz.func166, Tryz.ntmps166
 go_wp2_with fail
 refine (l1Once_any b v l _ w HC0.out (by omega) (by omega)).mono ?_
 rintro e w1 ⟨x, rfl, hg, hC⟩
 have HG1 := Lib.hid (hg)
 have HC1 := Lib.hid hC
 clear hg hC
 cases x
 ·go_wp2_with fail
  refine (l1Str_new b v l w1 _ _ _ _ 9 HC1.out (by rfl) (by decide) (by decide) (by decide)).mono ?_
  rintro e w2 ⟨x, rfl, hx, hg1, hC1⟩
  have HG := Lib.hid (grown_trans HG1.out hg1)
  have HC2 := Lib.hid hC1
  clear hg1 hC1
  go_wp2_with fail
  go_ret
  exact ⟨_, rfl, hx, HG.out, HC2.out⟩
 ·go_wp2_with fail
  refine (l1Str_new b v l w1 _ _ _ _ 9 HC1.out (by rfl) (by decide) (by decide) (by decide)).mono ?_
  rintro e w2 ⟨x, rfl, hx, hg1, hC1⟩
  have HG := Lib.hid (grown_trans HG1.out hg1)
  have HC2 := Lib.hid hC1
  clear hg1 hC1
  go_wp2_with fail
  go_ret
  exact ⟨_, rfl, hx, HG.out, HC2.out⟩
def SmallC (x : List CellD) : Prop := x.length ≤ 6 ∧ ∀ c ∈ x, c.fKey.length ≤ 9 ∧ I64 c.fValue
def DrawnCells (b : Nat) (v : Value) (l : List UInt8) (w : World) (e : Ending) (w' : World) : Prop := ∃ u x, e = .returned u ∧ OwnsF cCell 139 2 w' w.heap.size u x ∧ SmallC x ∧ w.grownBy w' (some b) ∧ Cur w' b v l
theorem ownsF_grownC {α : Type} {f : α → List Value} {E k : Nat} {w w' : World} {B b : Nat} {v : Value} {l : List α} (h : OwnsF f E k w B v l) (hg : w.grownBy w' (some b)) (hb : b < B) : OwnsF f E k w' B v l :=
 World.ownsRow.kept h hg (Or.inr fun e => by have := (World.ownsRow.lt h b e).1; omega)
theorem smallC_put {x : List CellD} {k : List UInt8} {n : Int} (h : SmallC x) (hl : x.length ≤ 5) (hk : k.length ≤ 9) (hn : I64 n) : SmallC (putC x k n) := by
 refine ⟨by rw [putC_len]; split <;> omega, fun c hc => ?_⟩
 rcases putC_mem hc with rfl | hc
 ·exact ⟨hk, hn⟩
 ·exact h.2 c hc
set_option maxRecDepth 100000 in
set_option maxHeartbeats 3200000 in
theorem l3Cells_any (b : Nat) (v : Value) (l : List UInt8) (w : World) (hC : Cur w b v l) :
  Calls Tryz.prog 167 #[.pointer (some ⟨b, 0, none⟩)] w fun e w' => DrawnCells b v l w e w' := by
 have hbl := hC.lt
 have HC := Lib.hid (cur_alloc hC (.cells #[] 139))
 have HO := Lib.hid (ownsF_new cCell 139 2 w)
 have HG0 := Lib.hid (grown_alloc (grown_refl w (some b)) (.cells #[] 139))
 clear hC
 go_enter Tryz.func167, Tryz.ntmps167
 go_wp2_with fail
 refine (l1Below_any b v l _ _ HC.out (by omega) (by omega)).mono ?_
 rintro e w1 ⟨x, rfl, ⟨h0, h1, h6⟩, hg1, hC1⟩
 have h6' : x < 6 := h6 (by omega)
 have HO1 := Lib.hid (ownsF_grownC HO.out hg1 hbl)
 have HG1 := Lib.hid (grown_trans HG0.out hg1)
 have HC1 := Lib.hid hC1
 clear hg1 hC1 h6 h1
 go_wp2_with fail
 go_loopw [3, 4] (fun lv nv wr => ∃ (n : Int) (u : Value) (y : List CellD), lv = u ∧ nv = .int .i64 n ∧ 0 ≤ n ∧ (y.length : Int) + n ≤ 5 ∧ OwnsF cCell 139 2 wr w.heap.size u y ∧ SortC y ∧ SmallC y ∧ w.grownBy wr (some b) ∧ Cur wr b v l) (fun _ nv _ => (intOf nv).toNat)
 case atStart => exact ⟨x, _, [], rfl, rfl, by omega, by simp; omega, HO1.out, List.Pairwise.nil, ⟨by simp, by simp⟩, HG1.out, HC1.out⟩
 case round =>
  obtain ⟨n, u, y, rfl, rfl, hn0, hn6, hO, hS, hM, hg, hC⟩ := hrel
  have HO := Lib.hid hO
  have HS := Lib.hid hS
  have HM := Lib.hid hM
  have HG := Lib.hid hg
  have HC2 := Lib.hid hC
  clear hO hS hM hg hC
  by_cases hp : 0 < n
  ·go_wp2_with fail
   refine (l3Key_any b v l _ HC2.out).mono ?_
   rintro e w2 ⟨z, rfl, hz, hg2, hC2⟩
   obtain ⟨⟨zl⟩⟩ := z
   have hzl : zl.length ≤ 9 := hz
   have HG3 := Lib.hid (grown_trans HG.out hg2)
   have HC3 := Lib.hid hC2
   have HO3 := Lib.hid (ownsF_grownC HO.out hg2 hbl)
   clear hg2 hC2 hz
   have HAT := Lib.hid (l3At_any _ y zl w2 (ownsF_at HO3.out (by omega)))
   generalize hat : atK y zl = at0 at *
   obtain ⟨ua, uc, rfl⟩ := slice_of HO3.out
   go_wp2_with fail
   refine HAT.out.mono ?_
   rintro e w3 ⟨rfl, hb⟩
   have HG4 := Lib.hid (grown_below HG3.out hb HG3.out.size)
   have HC4 := Lib.hid (HC3.out.below hb HC3.out.lt)
   have HO4 := Lib.hid (ownsF_below HO3.out hb (Nat.le_refl _))
   clear hb hat HAT
   have HPUT := Lib.hid (fun n W (h : OwnsF cCell 139 2 W w.heap.size (.slice ua y.length uc) y) => l3Put_any _ y zl n W (ownsF_at h (by omega)) (by omega) HS.out)
   by_cases hq : (0 ≤ at0 ∨ y.length < 4)
   ·have hgo : (decide (0 ≤ at0) || decide ((y.length : Int) < 4)) = true := by simp only [Bool.or_eq_true, decide_eq_true_eq]; omega
    by_cases ha : 0 ≤ at0
    ·clear hgo hq
     go_wp2_with fail
     refine (l1Below_any b v l _ _ HC4.out (by omega) (by omega)).mono ?_
     rintro e w4 ⟨t, rfl, ⟨t0, t1, _⟩, hg5, hC5⟩
     have HG5 := Lib.hid (grown_trans HG4.out hg5)
     have HC5 := Lib.hid hC5
     have HO5 := Lib.hid (ownsF_grownC HO4.out hg5 hbl)
     clear hg5 hC5
     go_wp2_with fail
     refine (HPUT.out t _ HO5.out).mono ?_
     rintro e w5 ⟨u2, rfl, ho, hb⟩
     have HG6 := Lib.hid (grown_below HG5.out hb HG5.out.size)
     have HC6 := Lib.hid (HC5.out.below hb HC5.out.lt)
     have HO6 := Lib.hid (ownsF_base ho HG5.out.size)
     clear hb ho
     go_wp2_with fail
     exact ⟨⟨n - 1, _, _, rfl, rfl, by omega, by rw [putC_len]; split <;> push_cast <;> omega, HO6.out, putC_sort _ _ HS.out, smallC_put HM.out (by omega) hzl ⟨by omega, by omega⟩, HG6.out, HC6.out⟩, by simp [intOf]; omega⟩
    ·have hlt : (y.length : Int) < 4 := by omega
     clear hgo hq
     go_wp2_with fail
     refine (l1Below_any b v l _ _ HC4.out (by omega) (by omega)).mono ?_
     rintro e w4 ⟨t, rfl, ⟨t0, t1, _⟩, hg5, hC5⟩
     have HG5 := Lib.hid (grown_trans HG4.out hg5)
     have HC5 := Lib.hid hC5
     have HO5 := Lib.hid (ownsF_grownC HO4.out hg5 hbl)
     clear hg5 hC5
     go_wp2_with fail
     refine (HPUT.out t _ HO5.out).mono ?_
     rintro e w5 ⟨u2, rfl, ho, hb⟩
     have HG6 := Lib.hid (grown_below HG5.out hb HG5.out.size)
     have HC6 := Lib.hid (HC5.out.below hb HC5.out.lt)
     have HO6 := Lib.hid (ownsF_base ho HG5.out.size)
     clear hb ho
     go_wp2_with fail
     exact ⟨⟨n - 1, _, _, rfl, rfl, by omega, by rw [putC_len]; split <;> push_cast <;> omega, HO6.out, putC_sort _ _ HS.out, smallC_put HM.out (by omega) hzl ⟨by omega, by omega⟩, HG6.out, HC6.out⟩, by simp [intOf]; omega⟩
   ·have ha : ¬ (0 ≤ at0) := by omega
    have hlt : ¬ ((y.length : Int) < 4) := by omega
    clear hq
    go_wp2_with fail
    exact ⟨⟨n - 1, _, _, rfl, rfl, by omega, by omega, HO4.out, HS.out, HM.out, HG4.out, HC4.out⟩, by simp [intOf]; omega⟩
  ·go_wp2_with fail
   go_ret
   exact ⟨_, _, rfl, HO.out, HM.out, HG.out, HC2.out⟩
end Go.Proofs.YtcpbikilgacdlaaGreat
namespace Go.Proofs.YtcpbikilgacdlaaGreat
set_option linter.unusedVariables false
open Go.RowKit
theorem bx_gr {w w' : World} {c b : Nat} {cs : List Value} (h : Bx w c cs) (hg : w.grownBy w' (some b)) (hne : c ≠ b) : Bx w' c cs :=
 ⟨Nat.lt_of_lt_of_le h.lt hg.size, fun j hj => (World.cell?_of_block (a := ⟨c, j, none⟩) (hg.block c h.lt (fun e => hne (by injection e)))).trans (h.cell j hj), fun j hj => (World.frozen?_of_block (a := ⟨c, j, none⟩) (hg.block c h.lt (fun e => hne (by injection e)))).trans (h.froz j hj)⟩
theorem bx_own {w w' : World} {c : Nat} {r : Option Nat} {cs : List Value} (h : Bx w c cs) (hg : w.grownBy w' r) (hne : r ≠ some c) : Bx w' c cs :=
 ⟨Nat.lt_of_lt_of_le h.lt hg.size, fun j hj => (World.cell?_of_block (a := ⟨c, j, none⟩) (hg.block c h.lt (fun e => hne e.symm))).trans (h.cell j hj), fun j hj => (World.frozen?_of_block (a := ⟨c, j, none⟩) (hg.block c h.lt (fun e => hne e.symm))).trans (h.froz j hj)⟩
theorem cur_own {w w' : World} {b : Nat} {r : Option Nat} {v : Value} {l : List UInt8} (hC : Cur w b v l) (hg : w.grownBy w' r) (hr : ∀ g, r = some g → b < g) : Cur w' b v l := by
 cases r with
 | some g => exact hC.far hg (hr g rfl)
 | none => exact hC.far (g := w.heap.size) ⟨hg.os, hg.tape, hg.output, hg.size, fun k hk _ => hg.block k hk (by simp)⟩ hC.lt
theorem ownsF_no {α : Type} (f : α → List Value) (E k : Nat) (w : World) (B : Nat) : OwnsF f E k w B (.slice none 0 0) [] := ⟨by simp, Or.inl ⟨rfl, rfl⟩⟩
theorem append_flatN {α : Type} {f : α → List Value} {E S k bytes : Nat} {z : Value} (hk : ∀ x, (f x).length = k) (h1 : ∀ x, ∀ u ∈ f x, u.oneCell' = true) (hinfo : (Tryz.prog.info? E).map (fun i => (i.zero, i.size, i.bytes)) = some (some z, k, bytes))
  (hz : z.cells.size = k) (hk0 : 0 < k) (hbytes : bytes ≤ 1024) (hS : Tryz.prog.underlying S = some (.slice E))
  {ops : Array Oper} {rest : List Oper} {o : Oper} {a : Act} {Q : Exit → Act → World → Prop} (hgd : o.guard = none) (s x : Operand)
  (ho : o.op = .call { callee := .builtin .append, args := #[s, x], argTypes := #[S, S] }) (B : Nat) (v : Value) (l : List α) (y : α) (w : World) (blk : Nat)
  (hs : a.eval s = v) (hO : OwnsF f E k w B v l) (hx : a.eval x = .slice (some ⟨blk, 0, none⟩) 1 1) (hc : ∀ j, j < k → w.cell? ⟨blk, j, none⟩ = (f y)[j]?) (hl : l.length ≤ 4194304) (hB : B ≤ w.heap.size)
  (h : ∀ v' w', OwnsF f E k w' B v' (l ++ [y]) → w.grownBy w' v.ownBlock → (∀ c, c < w.heap.size → v.ownBlock ≠ some c → v'.ownBlock ≠ some c) → wpList Tryz.prog ops Q rest (a.put o.dst v') w') : wpList Tryz.prog ops Q (o :: rest) a w := by
 obtain ⟨i0, hi, hz0, hz1, hz2⟩ := info_parts hinfo
 refine wpList_plain hgd fun _ hK => wp_append_lies w s x S ho B E i0 z k bytes hS hi hz0 hz1 hz2 hz hk0 v l.length (l.flatMap f) hs hO ⟨blk, 0, none⟩ 1 1 (f y) hx (by rw [hk, Nat.one_mul]) ?_ (h1 y) (by decide) (by unfold maxLen; omega) ?_ hB _ rfl ?_
 ·intro j u hj
  have hj2 : j < k := by have := (List.getElem?_eq_some_iff.1 hj).1; rwa [hk] at this
  rw [Addr.add_lit, Nat.zero_add, hc j hj2]; exact hj
 ·have : (l.length + 1) * bytes ≤ 4194305 * 1024 := Nat.mul_le_mul (by omega) hbytes
  omega
 ·intro g cap w' h2 h3 h4 _
  refine hK _ _ (h _ w' ?_ h3 ?_)
  ·unfold OwnsF; rw [List.flatMap_append, List.length_append]; simpa using h2
  ·intro c hc hne e
   rcases h4 with h4 | h4
   ·rw [h4] at hne; exact hne (by simpa [Value.ownBlock] using e)
   ·simp [Value.ownBlock] at e; omega
end Go.Proofs.YtcpbikilgacdlaaGreat
