/- Contracts of chapter 3, the model's: KindFace, WantOf. -/
import Derived.Test.YtmoliamenekemaaFace5
namespace Go.Proofs.Ytmoliamenekemaa
set_option linter.unusedVariables false
open Go.RowKit
def kindN : Nat → List UInt8
  | 0 => [115, 116, 111, 110, 101]
  | 1 => [108, 97, 109, 112]
  | 2 => [115, 104, 101, 108, 102]
  | 3 => [109, 101, 116, 101, 114]
  | 4 => [100, 114, 97, 119, 101, 114]
  | 5 => [104, 111, 114, 110]
  | 6 => [118, 97, 117, 108, 116]
  | 7 => [114, 111, 98, 111, 116]
  | _ => []
def kfN : Nat → Int
  | 0 => 0
  | 1 => 1
  | 2 => 2
  | 3 => 5
  | 4 => 3
  | 5 => 9
  | 6 => 19
  | 7 => 63
  | _ => 0
/-- the number of a kind; -1 -/
def kindI (s : List UInt8) : Int := findK (fun k => kindN k == s) 0 8
def kfI (i : Int) : Int := if i < 0 then 0 else kfN i.toNat
def kfV (i : Int) : Value := .tuple #[.int .i64 (kfI i), .bool (decide (0 ≤ i))]
theorem kfV_yes {i : Int} {k : Nat} (h : (k : Int) = i) : Value.tuple #[.int .i64 (kfN k), .bool true] = kfV i := by
  subst h; unfold kfV kfI; rw [if_neg (by omega)]; simp
theorem kfV_no {i : Int} (h : (-1 : Int) = i) : Value.tuple #[.int .i64 0, .bool false] = kfV i := by subst h; rfl
theorem kinds_cell (w : World) (k : Nat) (hk : k < 8) : (w.alloc (.cells #[.string ⟨#[115, 116, 111, 110, 101]⟩, .string ⟨#[108, 97, 109, 112]⟩, .string ⟨#[115, 104, 101, 108, 102]⟩, .string ⟨#[109, 101, 116, 101, 114]⟩, .string ⟨#[100, 114, 97, 119, 101, 114]⟩, .string ⟨#[104, 111, 114, 110]⟩, .string ⟨#[118, 97, 117, 108, 116]⟩, .string ⟨#[114, 111, 98, 111, 116]⟩] 9)).cell? ⟨w.heap.size, k, none⟩ = some (.string ⟨(kindN k).toArray⟩) := by
  rw [cell_of_row _ _ k _ 9 (0, 0) (heap_alloc_new w _)]
  rcases (show k = 0 ∨ k = 1 ∨ k = 2 ∨ k = 3 ∨ k = 4 ∨ k = 5 ∨ k = 6 ∨ k = 7 by omega) with rfl | rfl | rfl | rfl | rfl | rfl | rfl | rfl <;> rfl
set_option maxHeartbeats 800000 in
theorem specKind_any (s : ByteArray) (w : World) :
    Calls Try.prog 64 #[.string s] w fun e w' => e = .returned (kfV (kindI s.data.toList)) ∧ Below w.heap.size w w' := by
  have HD := Lib.hid (kinds_cell w)
  go_enter Try.func64, Try.ntmps64
  go_wp2_with fail
  go_loop [4, 5, 8] (fun _ _ i => ∃ k : Nat, k ≤ 8 ∧ i = .int .i64 k ∧ findK (fun k => kindN k == s.data.toList) k (8 - k) = kindI s.data.toList) (fun _ _ i => 8 - (intOf i).toNat)
  case atStart => exact ⟨0, Nat.zero_le _, rfl, rfl⟩
  case round =>
    obtain ⟨k, hk, rfl, hf⟩ := hrel
    have HF := Lib.hid hf
    clear hf
    by_cases hlt : k < 8
    · have d1 := HD.out k hlt
      cases heq : (kindN k == s.data.toList) with
      | true =>
        have HR := Lib.hid (show (k : Int) = kindI s.data.toList from by rw [← HF.out]; exact (findK_yes hlt heq).symm)
        have hbeq : (kindN k == s.toList) = true := by rw [Lib.toList_data]; exact heq
        clear heq
        go_wp2_with fail
        go_ret2
        rcases (show k = 0 ∨ k = 1 ∨ k = 2 ∨ k = 3 ∨ k = 4 ∨ k = 5 ∨ k = 6 ∨ k = 7 by omega) with rfl | rfl | rfl | rfl | rfl | rfl | rfl | rfl <;> exact ⟨congrArg Ending.returned (kfV_yes HR.out), ((Below.refl _ _).alloc (Nat.le_refl _) _).alloc (by simp) _⟩
      | false =>
        have HR := Lib.hid (show findK (fun k => kindN k == s.data.toList) (k + 1) (8 - (k + 1)) = kindI s.data.toList from by rw [← HF.out]; exact (findK_no hlt heq).symm)
        have hbeq : (kindN k == s.toList) = false := by rw [Lib.toList_data]; exact heq
        clear heq
        go_wp2_with fail
        exact ⟨⟨k + 1, by omega, by go_num, HR.out⟩, by simp [intOf]; omega⟩
    · have HR := Lib.hid (show (-1 : Int) = kindI s.data.toList from by rw [← HF.out, show k = 8 by omega]; exact findK_end.symm)
      go_wp2_with fail
      go_ret2
      exact ⟨congrArg Ending.returned (kfV_no HR.out), (Below.refl _ _).alloc (Nat.le_refl _) _⟩
/-- what a call with that method wants -/
def wantI (k : Int) : Int := if k < 0 then 0 else 2 ^ k.toNat
def wantF (m : List UInt8) : Int := wantI (abOfM m)
theorem findK_bd (p : Nat → Bool) : ∀ n k : Nat, findK p k n = -1 ∨ ∃ j : Nat, findK p k n = j ∧ j < k + n ∧ p j = true := by
  intro n
  induction n with
  | zero => intro k; exact Or.inl rfl
  | succ n ih =>
    intro k
    unfold findK
    split
    · rename_i h; exact Or.inr ⟨k, rfl, by omega, h⟩
    · rcases ih (k + 1) with h | ⟨j, h1, h2, h3⟩
      · exact Or.inl h
      · exact Or.inr ⟨j, h1, by omega, h3⟩
theorem abOfM_bd (m : List UInt8) : abOfM m = -1 ∨ ∃ j : Nat, abOfM m = j ∧ j < 6 := by
  rcases findK_bd (fun k => decide (m ∈ mthN k)) 6 0 with h | ⟨j, h1, h2, _⟩
  · exact Or.inl h
  · exact Or.inr ⟨j, h1, by omega⟩
end Go.Proofs.Ytmoliamenekemaa
