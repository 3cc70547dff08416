/- Contracts of chapter 3: the program's KindFace, kindOffers. -/
import Derived.Test.YtmoliamenekemaaCore1
import Derived.Test.YtmoliamenekemaaFace2
namespace Go.Proofs.Ytmoliamenekemaa
set_option linter.unusedVariables false
open Go.RowKit
theorem bytes_eq (s : ByteArray) (l : List UInt8) : s.toList = l ↔ s = ⟨l.toArray⟩ := by
  rw [Lib.toList_data]
  constructor
  · intro h; subst h; simp
  · intro h; subst h; simp
theorem kindI_none (l : List UInt8) (h : ∀ k, k < 8 → kindN k ≠ l) : kindI l = -1 := by
  have : ∀ n k, k + n ≤ 8 → findK (fun k => kindN k == l) k n = -1 := by
    intro n
    induction n with
    | zero => intro k _; rfl
    | succ n ih =>
      intro k hk
      unfold findK
      rw [if_neg (by simpa using h k (by omega)), ih (k + 1) (by omega)]
  exact this 8 0 (by omega)
set_option maxHeartbeats 800000 in
theorem implKind_any (s : ByteArray) (w : World) :
    Calls Try.prog 70 #[.string s] w fun e w' => e = .returned (kfV (kindI s.data.toList)) ∧ w = w' := by
  by_cases h0 : s.toList = [115, 116, 111, 110, 101]
  · rw [bytes_eq] at h0
    subst h0
    go_enter Try.func70, Try.ntmps70
    go_wp2
    go_ret2
    exact ⟨rfl, rfl⟩
  by_cases h1 : s.toList = [108, 97, 109, 112]
  · rw [bytes_eq] at h1
    subst h1
    clear h0
    go_enter Try.func70, Try.ntmps70
    go_wp2
    go_ret2
    exact ⟨rfl, rfl⟩
  by_cases h2 : s.toList = [115, 104, 101, 108, 102]
  · rw [bytes_eq] at h2
    subst h2
    clear h0 h1
    go_enter Try.func70, Try.ntmps70
    go_wp2
    go_ret2
    exact ⟨rfl, rfl⟩
  by_cases h3 : s.toList = [109, 101, 116, 101, 114]
  · rw [bytes_eq] at h3
    subst h3
    clear h0 h1 h2
    go_enter Try.func70, Try.ntmps70
    go_wp2
    go_ret2
    exact ⟨rfl, rfl⟩
  by_cases h4 : s.toList = [100, 114, 97, 119, 101, 114]
  · rw [bytes_eq] at h4
    subst h4
    clear h0 h1 h2 h3
    go_enter Try.func70, Try.ntmps70
    go_wp2
    go_ret2
    exact ⟨rfl, rfl⟩
  by_cases h5 : s.toList = [104, 111, 114, 110]
  · rw [bytes_eq] at h5
    subst h5
    clear h0 h1 h2 h3 h4
    go_enter Try.func70, Try.ntmps70
    go_wp2
    go_ret2
    exact ⟨rfl, rfl⟩
  by_cases h6 : s.toList = [118, 97, 117, 108, 116]
  · rw [bytes_eq] at h6
    subst h6
    clear h0 h1 h2 h3 h4 h5
    go_enter Try.func70, Try.ntmps70
    go_wp2
    go_ret2
    exact ⟨rfl, rfl⟩
  by_cases h7 : s.toList = [114, 111, 98, 111, 116]
  · rw [bytes_eq] at h7
    subst h7
    clear h0 h1 h2 h3 h4 h5 h6
    go_enter Try.func70, Try.ntmps70
    go_wp2
    go_ret2
    exact ⟨rfl, rfl⟩
  have b0 : (s.toList == [115, 116, 111, 110, 101]) = false := by simpa using h0
  have b1 : (s.toList == [108, 97, 109, 112]) = false := by simpa using h1
  have b2 : (s.toList == [115, 104, 101, 108, 102]) = false := by simpa using h2
  have b3 : (s.toList == [109, 101, 116, 101, 114]) = false := by simpa using h3
  have b4 : (s.toList == [100, 114, 97, 119, 101, 114]) = false := by simpa using h4
  have b5 : (s.toList == [104, 111, 114, 110]) = false := by simpa using h5
  have b6 : (s.toList == [118, 97, 117, 108, 116]) = false := by simpa using h6
  have b7 : (s.toList == [114, 111, 98, 111, 116]) = false := by simpa using h7
  have HK := Lib.hid (show kindI s.data.toList = -1 from kindI_none _ (by
    rw [Lib.toList_data] at h0 h1 h2 h3 h4 h5 h6 h7
    intro k hk e
    rcases (show k = 0 ∨ k = 1 ∨ k = 2 ∨ k = 3 ∨ k = 4 ∨ k = 5 ∨ k = 6 ∨ k = 7 by omega) with rfl | rfl | rfl | rfl | rfl | rfl | rfl | rfl
    · exact h0 e.symm
    · exact h1 e.symm
    · exact h2 e.symm
    · exact h3 e.symm
    · exact h4 e.symm
    · exact h5 e.symm
    · exact h6 e.symm
    · exact h7 e.symm))
  clear h0 h1 h2 h3 h4 h5 h6 h7
  go_enter Try.func70, Try.ntmps70
  go_wp2
  go_ret2
  exact ⟨congrArg Ending.returned (kfV_no HK.out.symm), rfl⟩
theorem kindI_bd (l : List UInt8) : kindI l = -1 ∨ ∃ j : Nat, kindI l = j ∧ j < 8 ∧ kindN j = l := by
  rcases findK_bd (fun k => kindN k == l) 8 0 with h | ⟨j, h1, h2, h3⟩
  · exact Or.inl h
  · exact Or.inr ⟨j, h1, by omega, by simpa using h3⟩
theorem kfN_face (j : Nat) : isF (kfN j) = true := by unfold kfN; split <;> rfl
theorem kfI_face (i : Int) : isF (kfI i) = true := by unfold kfI; split; rfl; exact kfN_face _
/-- the kind's face offers what is wanted -/
def kindOff (l : List UInt8) (want : Int) : Bool := decide (0 ≤ kindI l) && offersF (kfI (kindI l)) want
set_option maxHeartbeats 800000 in
theorem kindOffers_any (s : ByteArray) (want : Int) (w : World) :
    Calls Try.prog 72 #[.string s, .int .i64 want] w fun e w' => e = .returned (.bool (kindOff s.data.toList want)) ∧ w = w' := by
  have HK := Lib.hid (implKind_any s)
  have HO := Lib.hid (implOffers_any (kfI (kindI s.data.toList)) want)
  unfold kindOff
  unfold kfV at HK
  generalize kfI (kindI s.data.toList) = f at *
  generalize decide (0 ≤ kindI s.data.toList) = b at *
  cases b
  · go_enter Try.func72, Try.ntmps72
    go_wp2_with fail
    refine (HK.out _).mono ?_
    rintro e w1 ⟨rfl, rfl⟩
    go_wp2_with fail
    go_ret
    exact ⟨rfl, rfl⟩
  · go_enter Try.func72, Try.ntmps72
    go_wp2_with fail
    refine (HK.out _).mono ?_
    rintro e w1 ⟨rfl, rfl⟩
    go_wp2_with fail
    refine (HO.out _).mono ?_
    rintro e w1 ⟨rfl, rfl⟩
    go_wp2_with fail
    go_ret
    exact ⟨rfl, rfl⟩
theorem kindOffers_b (l : List UInt8) (want : Int) (x : Bool) (h : kindOff l want = x) (w : World) :
    Calls Try.prog 72 #[.string ⟨l.toArray⟩, .int .i64 want] w fun e w' => e = .returned (.bool x) ∧ w = w' := by
  subst h; exact kindOffers_any ⟨l.toArray⟩ want w
end Go.Proofs.Ytmoliamenekemaa
