/- Contracts of chapter 4: LayerNeeds, LayerGives, the program's and the model's. Written by gen/ch4lay.py. -/
import Derived.Test.YtmoliamenekemaaCore2
namespace Go.Proofs.Ytmoliamenekemaa
set_option linter.unusedVariables false
open Go.RowKit
def layN : Nat → List UInt8
  | 0 => [112, 108, 97, 105, 110]
  | 1 => [114, 117, 110, 115]
  | 2 => [107, 101, 101, 112, 115]
  | 3 => [99, 111, 117, 110, 116, 115]
  | 4 => [108, 97, 122, 121]
  | 5 => [114, 101, 97, 100, 115]
  | 6 => [104, 101, 97, 114, 115]
  | 7 => [104, 101, 97, 108, 115]
  | 8 => [116, 119, 105, 99, 101]
  | _ => []
def needN : Nat → Int
  | 0 => 0
  | 1 => 1
  | 2 => 2
  | 3 => 2
  | 4 => 3
  | 5 => 2
  | 6 => 1
  | 7 => 1
  | 8 => 4
  | _ => 0
def giveN : Nat → Int
  | 0 => 0
  | 1 => 1
  | 2 => 2
  | 3 => 6
  | 4 => 3
  | 5 => 2
  | 6 => 9
  | 7 => 33
  | 8 => 4
  | _ => 0
/-- the number of an adapter; -1 -/
def layI (s : List UInt8) : Int := findK (fun k => layN k == s) 0 9
def needI (i : Int) : Int := if i < 0 then 0 else needN i.toNat
def giveI (i : Int) : Int := if i < 0 then 0 else giveN i.toNat
def ndV (i : Int) : Value := .tuple #[.int .i64 (needI i), .bool (decide (0 ≤ i))]
def gvV (i : Int) : Value := .tuple #[.int .i64 (giveI i), .bool (decide (0 ≤ i))]
def l4V (i : Int) : Value := .tuple #[.int .i64 (needI i), .int .i64 (giveI i), .bool (decide (0 ≤ i))]
theorem l4V_yes {i : Int} {k : Nat} (h : (k : Int) = i) : Value.tuple #[.int .i64 (needN k), .int .i64 (giveN k), .bool true] = l4V i := by
  subst h; unfold l4V needI giveI; rw [if_neg (by omega), if_neg (by omega)]; simp
theorem l4V_no {i : Int} (h : (-1 : Int) = i) : Value.tuple #[.int .i64 0, .int .i64 0, .bool false] = l4V i := by subst h; rfl
theorem layI_none (l : List UInt8) (h : ∀ k, k < 9 → layN k ≠ l) : layI l = -1 := by
  have : ∀ n k, k + n ≤ 9 → findK (fun k => layN k == l) k n = -1 := by
    intro n
    induction n with
    | zero => intro k _; rfl
    | succ n ih =>
      intro k hk
      unfold findK
      rw [if_neg (by simpa using h k (by omega)), ih (k + 1) (by omega)]
  exact this 9 0 (by omega)
theorem layI_bd (l : List UInt8) : layI l = -1 ∨ ∃ j : Nat, layI l = j ∧ j < 9 ∧ layN j = l := by
  rcases findK_bd (fun k => layN k == l) 9 0 with h | ⟨j, h1, h2, h3⟩
  · exact Or.inl h
  · exact Or.inr ⟨j, h1, by omega, by simpa using h3⟩
theorem needN_face (j : Nat) : isF (needN j) = true := by unfold needN; split <;> rfl
theorem giveN_face (j : Nat) : isF (giveN j) = true := by unfold giveN; split <;> rfl
theorem needI_face (i : Int) : isF (needI i) = true := by unfold needI; split; rfl; exact needN_face _
theorem giveI_face (i : Int) : isF (giveI i) = true := by unfold giveI; split; rfl; exact giveN_face _
set_option maxHeartbeats 800000 in
theorem implLayerNeeds_any (s : ByteArray) (w : World) :
    Calls Try.prog 41 #[.string s] w fun e w' => e = .returned (ndV (layI s.data.toList)) ∧ w = w' := by
  by_cases h0 : s.toList = [112, 108, 97, 105, 110]
  · rw [bytes_eq] at h0
    subst h0
    go_enter Try.func41, Try.ntmps41
    go_wp2
    go_ret2
    exact ⟨rfl, rfl⟩
  by_cases h1 : s.toList = [114, 117, 110, 115]
  · rw [bytes_eq] at h1
    subst h1
    clear h0
    go_enter Try.func41, Try.ntmps41
    go_wp2
    go_ret2
    exact ⟨rfl, rfl⟩
  by_cases h2 : s.toList = [107, 101, 101, 112, 115]
  · rw [bytes_eq] at h2
    subst h2
    clear h0 h1
    go_enter Try.func41, Try.ntmps41
    go_wp2
    go_ret2
    exact ⟨rfl, rfl⟩
  by_cases h3 : s.toList = [99, 111, 117, 110, 116, 115]
  · rw [bytes_eq] at h3
    subst h3
    clear h0 h1 h2
    go_enter Try.func41, Try.ntmps41
    go_wp2
    go_ret2
    exact ⟨rfl, rfl⟩
  by_cases h4 : s.toList = [108, 97, 122, 121]
  · rw [bytes_eq] at h4
    subst h4
    clear h0 h1 h2 h3
    go_enter Try.func41, Try.ntmps41
    go_wp2
    go_ret2
    exact ⟨rfl, rfl⟩
  by_cases h5 : s.toList = [114, 101, 97, 100, 115]
  · rw [bytes_eq] at h5
    subst h5
    clear h0 h1 h2 h3 h4
    go_enter Try.func41, Try.ntmps41
    go_wp2
    go_ret2
    exact ⟨rfl, rfl⟩
  by_cases h6 : s.toList = [104, 101, 97, 114, 115]
  · rw [bytes_eq] at h6
    subst h6
    clear h0 h1 h2 h3 h4 h5
    go_enter Try.func41, Try.ntmps41
    go_wp2
    go_ret2
    exact ⟨rfl, rfl⟩
  by_cases h7 : s.toList = [104, 101, 97, 108, 115]
  · rw [bytes_eq] at h7
    subst h7
    clear h0 h1 h2 h3 h4 h5 h6
    go_enter Try.func41, Try.ntmps41
    go_wp2
    go_ret2
    exact ⟨rfl, rfl⟩
  by_cases h8 : s.toList = [116, 119, 105, 99, 101]
  · rw [bytes_eq] at h8
    subst h8
    clear h0 h1 h2 h3 h4 h5 h6 h7
    go_enter Try.func41, Try.ntmps41
    go_wp2
    go_ret2
    exact ⟨rfl, rfl⟩
  have b0 : (s.toList == [112, 108, 97, 105, 110]) = false := by simpa using h0
  have b1 : (s.toList == [114, 117, 110, 115]) = false := by simpa using h1
  have b2 : (s.toList == [107, 101, 101, 112, 115]) = false := by simpa using h2
  have b3 : (s.toList == [99, 111, 117, 110, 116, 115]) = false := by simpa using h3
  have b4 : (s.toList == [108, 97, 122, 121]) = false := by simpa using h4
  have b5 : (s.toList == [114, 101, 97, 100, 115]) = false := by simpa using h5
  have b6 : (s.toList == [104, 101, 97, 114, 115]) = false := by simpa using h6
  have b7 : (s.toList == [104, 101, 97, 108, 115]) = false := by simpa using h7
  have b8 : (s.toList == [116, 119, 105, 99, 101]) = false := by simpa using h8
  have HN : layI s.data.toList = -1 := by
    rw [Lib.toList_data] at h0 h1 h2 h3 h4 h5 h6 h7 h8
    refine layI_none _ ?_
    intro k hk e
    rcases (show k = 0 ∨ k = 1 ∨ k = 2 ∨ k = 3 ∨ k = 4 ∨ k = 5 ∨ k = 6 ∨ k = 7 ∨ k = 8 by omega) with rfl | rfl | rfl | rfl | rfl | rfl | rfl | rfl | rfl
    · exact h0 e.symm
    · exact h1 e.symm
    · exact h2 e.symm
    · exact h3 e.symm
    · exact h4 e.symm
    · exact h5 e.symm
    · exact h6 e.symm
    · exact h7 e.symm
    · exact h8 e.symm
  have HK := Lib.hid (show ndV (layI s.data.toList) = .tuple #[.int .i64 0, .bool false] by rw [HN]; rfl)
  clear h0 h1 h2 h3 h4 h5 h6 h7 h8 HN
  go_enter Try.func41, Try.ntmps41
  go_wp2
  go_ret2
  exact ⟨congrArg Ending.returned HK.out.symm, rfl⟩
set_option maxHeartbeats 800000 in
theorem implLayerGives_any (s : ByteArray) (w : World) :
    Calls Try.prog 76 #[.string s] w fun e w' => e = .returned (gvV (layI s.data.toList)) ∧ w = w' := by
  by_cases h0 : s.toList = [112, 108, 97, 105, 110]
  · rw [bytes_eq] at h0
    subst h0
    go_enter Try.func76, Try.ntmps76
    go_wp2
    go_ret2
    exact ⟨rfl, rfl⟩
  by_cases h1 : s.toList = [114, 117, 110, 115]
  · rw [bytes_eq] at h1
    subst h1
    clear h0
    go_enter Try.func76, Try.ntmps76
    go_wp2
    go_ret2
    exact ⟨rfl, rfl⟩
  by_cases h2 : s.toList = [107, 101, 101, 112, 115]
  · rw [bytes_eq] at h2
    subst h2
    clear h0 h1
    go_enter Try.func76, Try.ntmps76
    go_wp2
    go_ret2
    exact ⟨rfl, rfl⟩
  by_cases h3 : s.toList = [99, 111, 117, 110, 116, 115]
  · rw [bytes_eq] at h3
    subst h3
    clear h0 h1 h2
    go_enter Try.func76, Try.ntmps76
    go_wp2
    go_ret2
    exact ⟨rfl, rfl⟩
  by_cases h4 : s.toList = [108, 97, 122, 121]
  · rw [bytes_eq] at h4
    subst h4
    clear h0 h1 h2 h3
    go_enter Try.func76, Try.ntmps76
    go_wp2
    go_ret2
    exact ⟨rfl, rfl⟩
  by_cases h5 : s.toList = [114, 101, 97, 100, 115]
  · rw [bytes_eq] at h5
    subst h5
    clear h0 h1 h2 h3 h4
    go_enter Try.func76, Try.ntmps76
    go_wp2
    go_ret2
    exact ⟨rfl, rfl⟩
  by_cases h6 : s.toList = [104, 101, 97, 114, 115]
  · rw [bytes_eq] at h6
    subst h6
    clear h0 h1 h2 h3 h4 h5
    go_enter Try.func76, Try.ntmps76
    go_wp2
    go_ret2
    exact ⟨rfl, rfl⟩
  by_cases h7 : s.toList = [104, 101, 97, 108, 115]
  · rw [bytes_eq] at h7
    subst h7
    clear h0 h1 h2 h3 h4 h5 h6
    go_enter Try.func76, Try.ntmps76
    go_wp2
    go_ret2
    exact ⟨rfl, rfl⟩
  by_cases h8 : s.toList = [116, 119, 105, 99, 101]
  · rw [bytes_eq] at h8
    subst h8
    clear h0 h1 h2 h3 h4 h5 h6 h7
    go_enter Try.func76, Try.ntmps76
    go_wp2
    go_ret2
    exact ⟨rfl, rfl⟩
  have b0 : (s.toList == [112, 108, 97, 105, 110]) = false := by simpa using h0
  have b1 : (s.toList == [114, 117, 110, 115]) = false := by simpa using h1
  have b2 : (s.toList == [107, 101, 101, 112, 115]) = false := by simpa using h2
  have b3 : (s.toList == [99, 111, 117, 110, 116, 115]) = false := by simpa using h3
  have b4 : (s.toList == [108, 97, 122, 121]) = false := by simpa using h4
  have b5 : (s.toList == [114, 101, 97, 100, 115]) = false := by simpa using h5
  have b6 : (s.toList == [104, 101, 97, 114, 115]) = false := by simpa using h6
  have b7 : (s.toList == [104, 101, 97, 108, 115]) = false := by simpa using h7
  have b8 : (s.toList == [116, 119, 105, 99, 101]) = false := by simpa using h8
  have HN : layI s.data.toList = -1 := by
    rw [Lib.toList_data] at h0 h1 h2 h3 h4 h5 h6 h7 h8
    refine layI_none _ ?_
    intro k hk e
    rcases (show k = 0 ∨ k = 1 ∨ k = 2 ∨ k = 3 ∨ k = 4 ∨ k = 5 ∨ k = 6 ∨ k = 7 ∨ k = 8 by omega) with rfl | rfl | rfl | rfl | rfl | rfl | rfl | rfl | rfl
    · exact h0 e.symm
    · exact h1 e.symm
    · exact h2 e.symm
    · exact h3 e.symm
    · exact h4 e.symm
    · exact h5 e.symm
    · exact h6 e.symm
    · exact h7 e.symm
    · exact h8 e.symm
  have HK := Lib.hid (show gvV (layI s.data.toList) = .tuple #[.int .i64 0, .bool false] by rw [HN]; rfl)
  clear h0 h1 h2 h3 h4 h5 h6 h7 h8 HN
  go_enter Try.func76, Try.ntmps76
  go_wp2
  go_ret2
  exact ⟨congrArg Ending.returned HK.out.symm, rfl⟩
theorem lays_cell (w : World) (k : Nat) (hk : k < 9) : (w.alloc (.cells #[.string ⟨#[112, 108, 97, 105, 110]⟩, .string ⟨#[114, 117, 110, 115]⟩, .string ⟨#[107, 101, 101, 112, 115]⟩, .string ⟨#[99, 111, 117, 110, 116, 115]⟩, .string ⟨#[108, 97, 122, 121]⟩, .string ⟨#[114, 101, 97, 100, 115]⟩, .string ⟨#[104, 101, 97, 114, 115]⟩, .string ⟨#[104, 101, 97, 108, 115]⟩, .string ⟨#[116, 119, 105, 99, 101]⟩] 9)).cell? ⟨w.heap.size, k, none⟩ = some (.string ⟨(layN k).toArray⟩) := by
  rw [cell_of_row _ _ k _ 9 (0, 0) (heap_alloc_new w _)]
  rcases (show k = 0 ∨ k = 1 ∨ k = 2 ∨ k = 3 ∨ k = 4 ∨ k = 5 ∨ k = 6 ∨ k = 7 ∨ k = 8 by omega) with rfl | rfl | rfl | rfl | rfl | rfl | rfl | rfl | rfl <;> rfl
set_option maxHeartbeats 1600000 in
theorem l4Row_any (s : ByteArray) (w : World) :
    Calls Try.prog 59 #[.string s] w fun e w' => e = .returned (l4V (layI s.data.toList)) ∧ Below w.heap.size w w' := by
  have HD := Lib.hid (lays_cell w)
  go_enter Try.func59, Try.ntmps59
  go_wp2_with fail
  go_loop [6, 7, 11] (fun _ _ i => ∃ k : Nat, k ≤ 9 ∧ i = .int .i64 k ∧ findK (fun k => layN k == s.data.toList) k (9 - k) = layI s.data.toList) (fun _ _ i => 9 - (intOf i).toNat)
  case atStart => exact ⟨0, Nat.zero_le _, rfl, rfl⟩
  case round =>
    obtain ⟨k, hk, rfl, hf⟩ := hrel
    have HF := Lib.hid hf
    clear hf
    by_cases hlt : k < 9
    · have d1 := HD.out k hlt
      cases heq : (layN k == s.data.toList) with
      | true =>
        have HR := Lib.hid (show (k : Int) = layI s.data.toList from by rw [← HF.out]; exact (findK_yes hlt heq).symm)
        have hbeq : (layN k == s.toList) = true := by rw [Lib.toList_data]; exact heq
        clear heq
        go_wp2_with fail
        rcases (show k = 0 ∨ k = 1 ∨ k = 2 ∨ k = 3 ∨ k = 4 ∨ k = 5 ∨ k = 6 ∨ k = 7 ∨ k = 8 by omega) with rfl | rfl | rfl | rfl | rfl | rfl | rfl | rfl | rfl
        all_goals go_region
        all_goals (try go_wp2_with fail)
        all_goals
          go_ret3
          exact ⟨congrArg Ending.returned (l4V_yes HR.out), by repeat (first | exact Below.refl _ _ | refine Below.alloc ?_ (by simp; try omega) _ | refine Below.drew ?_)⟩
      | false =>
        have HR := Lib.hid (show findK (fun k => layN k == s.data.toList) (k + 1) (9 - (k + 1)) = layI s.data.toList from by rw [← HF.out]; exact (findK_no hlt heq).symm)
        have hbeq : (layN k == s.toList) = false := by rw [Lib.toList_data]; exact heq
        clear heq
        go_wp2_with fail
        exact ⟨⟨k + 1, by omega, by go_num, HR.out⟩, by simp [intOf]; omega⟩
    · have HR := Lib.hid (show (-1 : Int) = layI s.data.toList from by rw [← HF.out, show k = 9 by omega]; exact findK_end.symm)
      go_wp2_with fail
      go_ret3
      exact ⟨congrArg Ending.returned (l4V_no HR.out), by repeat (first | exact Below.refl _ _ | refine Below.alloc ?_ (by simp; try omega) _)⟩
set_option maxHeartbeats 800000 in
theorem specLayerNeeds_any (s : ByteArray) (w : World) :
    Calls Try.prog 35 #[.string s] w fun e w' => e = .returned (ndV (layI s.data.toList)) ∧ Below w.heap.size w w' := by
  have HR := Lib.hid (l4Row_any s)
  unfold l4V at HR
  unfold ndV
  generalize needI (layI s.data.toList) = n at *
  generalize giveI (layI s.data.toList) = g at *
  generalize decide (0 ≤ layI s.data.toList) = b at *
  go_enter Try.func35, Try.ntmps35
  go_wp2_with fail
  refine (HR.out w).mono ?_
  rintro e w1 ⟨rfl, hb⟩
  go_wp2_with fail
  go_ret2
  exact ⟨rfl, hb⟩
end Go.Proofs.Ytmoliamenekemaa
