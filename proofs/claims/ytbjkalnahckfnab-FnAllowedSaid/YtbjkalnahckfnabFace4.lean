/- Contracts of chapter 2: the abilities of a face, their number; methods of abilities; what is in a list. -/
import Derived.Test.YtbjkalnahckfnabFace3
import Derived.Test.YtbjkalnahckfnabInt
namespace Go.Proofs.Ytbjkalnahckfnab
set_option linter.unusedVariables false
open Go.RowKit
def intsN (l : List Nat) : List Int := l.map fun k => ((k : Nat) : Int)
theorem intsN_len (l : List Nat) : (intsN l).length = l.length := by simp [intsN]
theorem intsN_snoc (l : List Nat) (k : Nat) : intsN (l ++ [k]) = intsN l ++ [(k : Int)] := by simp [intsN]
/-- rows of integers and rows of texts are not the same -/
theorem owns_apart {w : World} {B B' : Nat} {v u : Value} {xs : List Int} {ys : List (List UInt8)} (h : OwnsI w B v xs) (k : Owns w B' u ys) : v.ownBlock = none ∨ v.ownBlock ≠ u.ownBlock := by
  rcases h.2 with ⟨rfl, _⟩ | ⟨g, cap, cur, rfl, _, hg, _⟩
  · exact Or.inl rfl
  · right
    rcases k.2 with ⟨rfl, _⟩ | ⟨g2, cap2, cur2, rfl, _, hg2, _⟩
    · simp [Value.ownBlock]
    · intro e
      simp [Value.ownBlock] at e
      subst e
      rw [hg] at hg2
      injection hg2 with hg2
      injection hg2 with _ h2 _
      exact absurd h2 (by decide)
theorem ownsI_kept {w w' : World} {B B' : Nat} {v u : Value} {xs : List Int} {ys : List (List UInt8)} (h : OwnsI w B v xs) (k : Owns w B' u ys) (hg : w.grownBy w' u.ownBlock) : OwnsI w' B v xs :=
  World.ownsRow.kept h hg (owns_apart h k)
theorem bit_walk {f : Int} (hf : isF f = true) (k : Nat) (hk : k < 6) (b : Bool) (h : hasI f k = b) : (bits .and .i64 f (wrap64 (2 ^ k)) != 0) = b := by
  rw [pow_of k hk, bit_eq hf k hk]; exact h
theorem abilK_yes {f : Int} {k : Nat} (h : hasI f k = true) : intsN (abilK f (k + 1)) = intsN (abilK f k) ++ [(k : Int)] := by rw [abilK_succ, if_pos h, intsN_snoc]
theorem abilK_no {f : Int} {k : Nat} (h : hasI f k = false) : abilK f (k + 1) = abilK f k := by rw [abilK_succ, if_neg (by simp [h]), List.append_nil]
theorem abilL_yes {f : Int} (h : isF f = true) : abilL f = abilK f 6 := if_pos h
theorem abilL_no {f : Int} (h : isF f = false) : abilL f = [] := if_neg (by simp [h])
set_option maxHeartbeats 800000 in
theorem abilitiesOf_any (f : Int) (w : World) :
    Calls Try.prog 41 #[.int .i64 f] w fun e w' => GivesRowI (intsN (abilL f)) w e w' := by
  cases hf : isF f with
  | false =>
    have HN := Lib.hid (show intsN (abilL f) = [] by rw [abilL_no hf]; rfl)
    have HI := Lib.hid (implIsFace_b f false hf)
    have HO := Lib.hid (ownsI_new w)
    clear hf
    go_enter Try.func41, Try.ntmps41
    go_wp2_with (go_at_call 32; (with_reducible refine (HI.out _).mono ?_); rintro e w' ⟨rfl, rfl⟩)
    go_ret
    exact ⟨_, rfl, by rw [HN.out]; exact HO.out, (Below.refl _ _).alloc (Nat.le_refl _) _⟩
  | true =>
    have HN := Lib.hid (abilL_yes hf)
    have HI := Lib.hid (implIsFace_b f true hf)
    have HF := Lib.hid hf
    have HO := Lib.hid (ownsI_new w)
    clear hf
    go_enter Try.func41, Try.ntmps41
    go_wp2_with (go_at_call 32; (with_reducible refine (HI.out _).mono ?_); rintro e w' ⟨rfl, rfl⟩)
    go_loopw [3, 4, 10] (fun ov _ i wr => ∃ k : Nat, k ≤ 6 ∧ i = .int .i64 k ∧ OwnsI wr w.heap.size ov (intsN (abilK f k)) ∧ Below w.heap.size w wr) (fun _ _ i _ => 6 - (intOf i).toNat)
    case atStart => exact ⟨0, Nat.zero_le _, rfl, HO.out, (Below.refl _ _).alloc (Nat.le_refl _) _⟩
    case round =>
      obtain ⟨k, hk, rfl, hO, hb⟩ := hrel
      have HO2 := Lib.hid hO
      have HB := Lib.hid hb
      clear hO hb
      by_cases hlt : k < 6
      · have hlen : (intsN (abilK f k)).length ≤ 6 := by have := abilK_len f k; rw [intsN_len]; omega
        cases hx : hasI f k with
        | true =>
          have hbit := bit_walk HF.out k hlt true hx
          have HS := Lib.hid (abilK_yes hx)
          clear hx
          go_wp2_with (at_builtin; (refine append_ints rfl _ _ rfl w.heap.size _ (intsN (abilK f k)) (k : Int) _ wr.heap.size (by rfl) (ownsI_alloc HO2.out _) rfl (cell_new _ _ _) (by omega) (by have := HB.out.size; simp; omega) ?_; intro v' w3 hO1 hg1))
          exact ⟨⟨k + 1, by omega, by go_num, by rw [HS.out]; exact hO1, below_appendI (HB.out.alloc HB.out.size _) (ownsI_alloc HO2.out _) hg1 (by have := HB.out.size; simp; omega)⟩, by simp [intOf]; omega⟩
        | false =>
          have hbit := bit_walk HF.out k hlt false hx
          have HS := Lib.hid (abilK_no hx)
          clear hx
          go_wp2_with fail
          exact ⟨⟨k + 1, by omega, by go_num, by rw [HS.out]; exact HO2.out, HB.out⟩, by simp [intOf]; omega⟩
      · have HK := Lib.hid (show k = 6 by omega)
        go_wp2_with fail
        go_ret
        exact ⟨_, rfl, by rw [HN.out, ← HK.out]; exact HO2.out, HB.out⟩
/-- the methods of an ability, in memory that was just made -/
def GivesMth (k : Nat) (w : World) (e : Ending) (w' : World) : Prop := e = .returned (.slice (some ⟨w.heap.size, 0, none⟩) (mthN k).length (mthN k).length) ∧ w' = w.alloc (.cells ((mthN k).map strV).toArray 9)
theorem mth_row (w : World) (k : Nat) (c : Nat) : RowAt (w.alloc (.cells ((mthN k).map strV).toArray 9)) (.slice (some ⟨w.heap.size, 0, none⟩) (mthN k).length c) ((mthN k).map strV) := by
  refine ⟨_, c, by rw [List.length_map], by rw [List.length_map]; have := mthN_len k; unfold maxLen; omega, Or.inr ⟨w.heap.size, 0, rfl, by simp, fun i _ => ?_⟩⟩
  rw [cell_of_row _ _ _ _ 9 (0, 0) (heap_alloc_new w _)]
  simp
def IdxOf (x : List (List UInt8)) (t : List UInt8) (w : World) (e : Ending) (w' : World) : Prop := ∃ i : Int, e = .returned (.int .i64 i) ∧ -1 ≤ i ∧ i ≤ 9223372036854775807 ∧ decide (0 ≤ i) = decide (t ∈ x) ∧ w = w'
end Go.Proofs.Ytbjkalnahckfnab
