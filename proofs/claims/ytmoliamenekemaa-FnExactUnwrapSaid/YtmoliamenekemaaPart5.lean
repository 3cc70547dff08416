/- Contracts of chapter 4: IsPart, both sides. -/
import Derived.Test.YtmoliamenekemaaPart1
import Derived.Test.YtmoliamenekemaaCore4
namespace Go.Proofs.Ytmoliamenekemaa
set_option linter.unusedVariables false
set_option linter.unusedSimpArgs false
open Go.RowKit
def countedB (n : List UInt8) : Bool := n == [99, 111, 117, 110, 116, 115] || n == [104, 101, 97, 114, 115]
def cntB (y : LayerD) : Bool := if countedB y.fName = true then numB y.fCount else y.fCount == 0
def layOk (x : PartD) (i : Nat) : Bool := decide (0 ≤ layI (x.fLayers.getD i default).fName) && offersF (faceN x i) (needI (layI (x.fLayers.getD i default).fName)) && cntB (x.fLayers.getD i default)
def layTo (x : PartD) (k : Nat) : Bool := (List.range k).all (layOk x)
def partB (x : PartD) : Bool := coreB x.fCore && decide (x.fLayers.length ≤ 3) && layTo x x.fLayers.length
theorem layTo_succ (x : PartD) (k : Nat) : layTo x (k + 1) = (layTo x k && layOk x k) := by simp [layTo, List.range_succ, List.all_append]
theorem partB_bad {x : PartD} {k : Nat} (hk : k < x.fLayers.length) (h : layOk x k = false) : partB x = false := by
  have : layTo x x.fLayers.length = false := by
    unfold layTo
    rw [List.all_eq_false]
    exact ⟨k, List.mem_range.2 hk, by simp [h]⟩
  simp [partB, this]
theorem layOk_of (x : PartD) (i : Nat) (h : i < x.fLayers.length) (y : LayerD) (hy : x.fLayers[i] = y) : layOk x i = (decide (0 ≤ layI y.fName) && offersF (faceN x i) (needI (layI y.fName)) && cntB y) := by
  unfold layOk
  rw [List.getD_eq_getElem?_getD, List.getElem?_eq_getElem h, Option.getD_some, hy]
theorem faceN_take (c : CoreD) (l : List LayerD) (i : Nat) (h : i ≤ l.length) : faceP ⟨c, l.take i⟩ = faceN ⟨c, l⟩ i := by
  unfold faceP
  rw [show (⟨c, l.take i⟩ : PartD).fLayers.length = i by simp; omega]
  cases i with
  | zero => rfl
  | succ i =>
    unfold faceN
    simp only [List.getD_eq_getElem?_getD]
    rw [List.getElem?_take_of_lt (by omega)]
set_option maxRecDepth 100000 in
set_option maxHeartbeats 1600000 in
theorem insideOf_c (k : ByteArray) (on br : Bool) (ca sa : Option Addr) (cn cc sn sc : Nat) (ct : Int) (i : Nat) (w : World) (hi : i ≤ sc) (hs : i ≤ maxLen) :
    Calls Try.prog 44 #[.agg #[.string k, .bool on, .bool br, .slice ca cn cc, .int .i64 ct, .slice sa sn sc], .int .i64 i] w fun e w' => e = .returned (.agg #[.string k, .bool on, .bool br, .slice ca cn cc, .int .i64 ct, .slice sa i sc]) ∧ Below w.heap.size w w' := by
  unfold maxLen at hs
  go_enter Try.func44, Try.ntmps44
  go_wp2_with fail
  go_region
  all_goals (try go_wp2_with fail)
  all_goals
    refine bodyPost_ret (v := .agg #[.string k, .bool on, .bool br, .slice ca cn cc, .int .i64 ct, .slice sa i sc]) (by simp [results, Try.results44, go_sem]) rfl ⟨rfl, ?_⟩
    repeat (first | with_reducible exact Below.refl _ _ | with_reducible refine Below.alloc ?_ (by simp; try omega) _ | with_reducible refine Below.drew ?_ | with_reducible refine belD ?_)
set_option maxHeartbeats 1600000 in
theorem isLayerCount_c (n : List UInt8) (c : Int) (w : World) :
    Calls Try.prog 45 #[.agg #[.string ⟨n.toArray⟩, .int .i64 c]] w fun e w' => e = .returned (.bool (cntB ⟨n, c⟩)) ∧ Below w.heap.size w w' := by
  have HN := Lib.hid (isNumber_any c)
  by_cases h0 : n = [99, 111, 117, 110, 116, 115]
  · subst h0
    have HR := Lib.hid (show cntB ⟨[99, 111, 117, 110, 116, 115], c⟩ = numB c from rfl)
    generalize numB c = b at *
    go_enter Try.func45, Try.ntmps45
    go_wp2_with (first | (go_at_call 73; (with_reducible refine (HN.out _).mono ?_); rintro e w' ⟨rfl, rfl⟩))
    go_ret
    exact ⟨ret_bool HR.out.symm, part_box w _⟩
  · by_cases h1 : n = [104, 101, 97, 114, 115]
    · subst h1
      have HR := Lib.hid (show cntB ⟨[104, 101, 97, 114, 115], c⟩ = numB c from rfl)
      generalize numB c = b at *
      clear h0
      go_enter Try.func45, Try.ntmps45
      go_wp2_with (first | (go_at_call 73; (with_reducible refine (HN.out _).mono ?_); rintro e w' ⟨rfl, rfl⟩))
      go_ret
      exact ⟨ret_bool HR.out.symm, part_box w _⟩
    · have HR := Lib.hid (show cntB ⟨n, c⟩ = (c == 0) by unfold cntB countedB; simp [h0, h1])
      have g0 : (n == [99, 111, 117, 110, 116, 115]) = false := by simp [h0]
      have g1 : (n == [104, 101, 97, 114, 115]) = false := by simp [h1]
      clear h0 h1
      go_enter Try.func45, Try.ntmps45
      go_wp2_with (first | (go_at_call 73; (with_reducible refine (HN.out _).mono ?_); rintro e w' ⟨rfl, rfl⟩))
      go_ret
      exact ⟨ret_bool HR.out.symm, part_box w _⟩
end Go.Proofs.Ytmoliamenekemaa
