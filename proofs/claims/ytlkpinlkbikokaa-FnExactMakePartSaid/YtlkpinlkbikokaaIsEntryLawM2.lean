/- What partOf hands out, by kind. -/
import Derived.Test.YtlkpinlkbikokaaIsEntryLawM1
import Derived.Test.YtlkpinlkbikokaaIsEntryLawM0
import Derived.Deep.AppendLies
import Derived.Stop.Asserts
import Derived.Shelf.Strings.BuilderK
import Derived.Test.YtlkpinlkbikokaaRows
/- Contracts of chapter 2: both, either, lacking, offers. -/
namespace Go.Proofs.Ytlkpinlkbikokaa
set_option linter.unusedVariables false
open Go.RowKit
theorem selB_0 : ∀ x y : Bool, selB 0 x y = (x && y) := by decide
theorem selB_1 : ∀ x y : Bool, selB 1 x y = (x || y) := by decide
theorem selB_2 : ∀ x y : Bool, selB 2 x y = (x && !y) := by decide
theorem madeF_0 (a b : Int) : madeF 0 a b = bothF a b := by
  unfold madeF bothF; rw [show (fun k => selB 0 (hasI a k) (hasI b k)) = bothP a b from funext fun k => selB_0 _ _]
theorem madeF_1 (a b : Int) : madeF 1 a b = eitherF a b := by
  unfold madeF eitherF; rw [show (fun k => selB 1 (hasI a k) (hasI b k)) = eitherP a b from funext fun k => selB_1 _ _]
theorem madeF_2 (f want : Int) : madeF 2 want f = lackF f want := by
  unfold madeF lackF
  rw [show (fun k => selB 2 (hasI want k) (hasI f k)) = lackP want f from funext fun k => selB_2 _ _]
  by_cases h : isF f = true ∧ isF want = true
  · rw [if_pos h, if_pos ⟨h.2, h.1⟩]
  · rw [if_neg h, if_neg (fun h2 => h ⟨h2.2, h2.1⟩)]
theorem bothF_bd (a b : Int) : 0 ≤ bothF a b ∧ bothF a b ≤ 63 := by unfold bothF; split; exact madeK_6 _; omega
theorem eitherF_bd (a b : Int) : 0 ≤ eitherF a b ∧ eitherF a b ≤ 63 := by unfold eitherF; split; exact madeK_6 _; omega
theorem lackF_bd (a b : Int) : 0 ≤ lackF a b ∧ lackF a b ≤ 63 := by unfold lackF; split; exact madeK_6 _; omega
theorem offersF_no {f want : Int} {k : Nat} (hk : k < 6) (hf : isF f = true) (hw : isF want = true) (h : lackP want f k = true) : offersF f want = false := by
  unfold offersF lackF
  rw [if_pos ⟨hf, hw⟩, hf, hw]
  have : madeK (lackP want f) 6 ≠ 0 := fun e => by have := (madeK_zero _ 6).1 e k hk; rw [h] at this; cases this
  simp [this]
theorem offersF_yes {f want : Int} (hf : isF f = true) (hw : isF want = true) (h : ∀ j, j < 6 → lackP want f j = false) : offersF f want = true := by
  unfold offersF lackF
  rw [if_pos ⟨hf, hw⟩, hf, hw, (madeK_zero _ 6).2 h]; rfl
theorem offersF_not {f want : Int} (h : isF f = false ∨ isF want = false) : offersF f want = false := by
  unfold offersF; rcases h with h | h <;> rw [h] <;> simp
theorem bothF_eq {a b : Int} (h : (isF a && isF b) = true) : bits .and .i64 a b = bothF a b := by
  rw [Bool.and_eq_true] at h; unfold bothF; rw [if_pos h, and_eq h.1 h.2]
theorem eitherF_eq {a b : Int} (h : (isF a && isF b) = true) : bits .or .i64 a b = eitherF a b := by
  rw [Bool.and_eq_true] at h; unfold eitherF; rw [if_pos h, or_eq h.1 h.2]
theorem lackF_eq {a b : Int} (h : (isF a && isF b) = true) : bits .andNot .i64 b a = lackF a b := by
  rw [Bool.and_eq_true] at h; unfold lackF; rw [if_pos h, andNot_eq h.2 h.1]
theorem bothF_non {a b : Int} (h : (isF a && isF b) = false) : bothF a b = 0 := by
  unfold bothF; rw [if_neg]; rintro ⟨h1, h2⟩; rw [h1, h2] at h; cases h
theorem eitherF_non {a b : Int} (h : (isF a && isF b) = false) : eitherF a b = 0 := by
  unfold eitherF; rw [if_neg]; rintro ⟨h1, h2⟩; rw [h1, h2] at h; cases h
theorem lackF_non {a b : Int} (h : (isF a && isF b) = false) : lackF a b = 0 := by
  unfold lackF; rw [if_neg]; rintro ⟨h1, h2⟩; rw [h1, h2] at h; cases h
theorem areFaces_x (a b : Int) (x : Bool) (h : (isF a && isF b) = x) (w : World) :
    Calls Try.prog 111 #[.int .i64 a, .int .i64 b] w fun e w' => e = .returned (.bool x) ∧ w = w' := by
  subst h; exact areFaces_b a b _ _ rfl rfl w
set_option maxHeartbeats 400000 in
theorem implLacking_any (a b : Int) (w : World) :
    Calls Try.prog 112 #[.int .i64 a, .int .i64 b] w fun e w' => e = .returned (.int .i64 (lackF a b)) ∧ w = w' := by
  cases h : (isF a && isF b) with
  | false =>
    have HF := Lib.hid (lackF_non h)
    have HA := Lib.hid (areFaces_x a b _ h)
    clear h
    go_enter Try.func112, Try.ntmps112
    go_wp2_with (go_at_call 111; (with_reducible refine (HA.out _).mono ?_); rintro e w' ⟨rfl, rfl⟩)
    go_ret
    exact ⟨ret_int HF.out.symm, rfl⟩
  | true =>
    have HF := Lib.hid (lackF_eq h)
    have HA := Lib.hid (areFaces_x a b _ h)
    clear h
    go_enter Try.func112, Try.ntmps112
    go_wp2_with (go_at_call 111; (with_reducible refine (HA.out _).mono ?_); rintro e w' ⟨rfl, rfl⟩)
    go_ret
    exact ⟨ret_int HF.out, rfl⟩
set_option maxHeartbeats 400000 in
theorem implOffers_any (f want : Int) (w : World) :
    Calls Try.prog 83 #[.int .i64 f, .int .i64 want] w fun e w' => e = .returned (.bool (offersF f want)) ∧ w = w' := by
  cases h : (isF f && isF want) with
  | false =>
    have HF := Lib.hid (show offersF f want = false by unfold offersF; rw [h]; rfl)
    have HA := Lib.hid (areFaces_x f want _ h)
    clear h
    go_enter Try.func83, Try.ntmps83
    go_wp2_with (go_at_call 111; (with_reducible refine (HA.out _).mono ?_); rintro e w' ⟨rfl, rfl⟩)
    go_ret
    exact ⟨ret_bool HF.out.symm, rfl⟩
  | true =>
    have HF := Lib.hid (show offersF f want = (lackF f want == 0) by unfold offersF; rw [h]; rfl)
    have HA := Lib.hid (areFaces_x f want _ h)
    have HL := Lib.hid (implLacking_any f want)
    clear h
    generalize lackF f want = z at *
    go_enter Try.func83, Try.ntmps83
    go_wp2_with (first | (go_at_call 111; (with_reducible refine (HA.out _).mono ?_); rintro e w' ⟨rfl, rfl⟩) | (go_at_call 112; (with_reducible refine (HL.out _).mono ?_); rintro e w' ⟨rfl, rfl⟩))
    go_ret
    exact ⟨ret_bool HF.out.symm, rfl⟩
set_option maxHeartbeats 800000 in
theorem specOffers_any (f want : Int) (w : World) :
    Calls Try.prog 39 #[.int .i64 f, .int .i64 want] w fun e w' => e = .returned (.bool (offersF f want)) ∧ w = w' := by
  cases ha : isF f with
  | false =>
    have HF := Lib.hid (offersF_not (f := f) (want := want) (Or.inl ha))
    have HA := Lib.hid (specIsFace_b f false ha)
    clear ha
    go_enter Try.func39, Try.ntmps39
    go_wp2_with (go_at_call 77; (with_reducible refine (HA.out _).mono ?_); rintro e w' ⟨rfl, rfl⟩)
    go_ret
    exact ⟨ret_bool HF.out.symm, rfl⟩
  | true =>
    cases hb : isF want with
    | false =>
      have HF := Lib.hid (offersF_not (f := f) (want := want) (Or.inr hb))
      have HA := Lib.hid (specIsFace_b f true ha)
      have HB := Lib.hid (specIsFace_b want false hb)
      clear ha hb
      go_enter Try.func39, Try.ntmps39
      go_wp2_with (first | (go_at_call 77; (with_reducible refine (HA.out _).mono ?_); rintro e w' ⟨rfl, rfl⟩) | (go_at_call 77; (with_reducible refine (HB.out _).mono ?_); rintro e w' ⟨rfl, rfl⟩))
      go_ret
      exact ⟨ret_bool HF.out.symm, rfl⟩
    | true =>
      have HA := Lib.hid (specIsFace_b f true ha)
      have HB := Lib.hid (specIsFace_b want true hb)
      have HA1 := Lib.hid ha
      have HB1 := Lib.hid hb
      clear ha hb
      go_enter Try.func39, Try.ntmps39
      go_wp2_with (first | (go_at_call 77; (with_reducible refine (HA.out _).mono ?_); rintro e w' ⟨rfl, rfl⟩) | (go_at_call 77; (with_reducible refine (HB.out _).mono ?_); rintro e w' ⟨rfl, rfl⟩))
      go_loop [5] (fun i => ∃ k : Nat, k ≤ 6 ∧ i = .int .i64 k ∧ ∀ j, j < k → lackP want f j = false) (fun i => 6 - (intOf i).toNat)
      case atStart => exact ⟨0, Nat.zero_le _, rfl, fun j hj => by omega⟩
      case round =>
        obtain ⟨k, hk, rfl, hall⟩ := hrel
        have HALL := Lib.hid hall
        clear hall
        by_cases hlt : k < 6
        · cases hx : hasI want k <;> cases hy : hasI f k
          all_goals
            have HX := Lib.hid (l2Has_b want k _ hx HB1.out hlt)
            have HY := Lib.hid (l2Has_b f k _ hy HA1.out hlt)
            have HP := Lib.hid (show lackP want f k = _ by unfold lackP; rw [hx, hy])
            clear hx hy
            go_wp2_with (first | (go_at_call 78; (with_reducible refine (HX.out _).mono ?_); rintro e w' ⟨rfl, rfl⟩) | (go_at_call 78; (with_reducible refine (HY.out _).mono ?_); rintro e w' ⟨rfl, rfl⟩))
            first
              | (go_ret
                 exact ⟨ret_bool (offersF_no hlt HA1.out HB1.out HP.out).symm, rfl⟩)
              | (go_round
                 case rel =>
                   refine ⟨k + 1, by omega, by go_num, fun j hj => ?_⟩
                   rcases Nat.lt_or_ge j k with h | h
                   · exact HALL.out j h
                   · have : j = k := by omega
                     subst this; exact HP.out
                 case measure => simp [intOf]; omega)
        · have : k = 6 := by omega
          subst this
          have HF := Lib.hid (offersF_yes HA1.out HB1.out HALL.out)
          go_wp2
          go_ret
          exact ⟨ret_bool HF.out.symm, rfl⟩
end Go.Proofs.Ytlkpinlkbikokaa
/- Contracts of chapter 2: AbilityOfMethod, FaceOfMethods, FacesUnder. -/
namespace Go.Proofs.Ytlkpinlkbikokaa
set_option linter.unusedVariables false
open Go.RowKit
theorem rowAt_alloc {w : World} {v : Value} {xs : List Value} (h : RowAt w v xs) (o : Obj) : RowAt (w.alloc o) v xs := h.below ((Below.refl w.heap.size w).alloc (Nat.le_refl _) o) (Nat.le_refl _)
theorem sum_pow' (z : Int) (k : Nat) (hk : k < 6) (h0 : 0 ≤ z) (h1 : z ≤ 63) : Value.int .i64 (wrap64 (z + wrap64 (2 ^ k))) = .int .i64 (z + 2 ^ k) := congrArg _ (sum_pow z k hk h0 h1)
end Go.Proofs.Ytlkpinlkbikokaa
/- Contracts of chapter 3, the model's: KindFace, WantOf. -/
namespace Go.Proofs.Ytlkpinlkbikokaa
set_option linter.unusedVariables false
open Go.RowKit
def kindN : Nat → List UInt8
  | 0 => [115, 116, 111, 110, 101]
  | 1 => [108, 97, 109, 112]
  | 2 => [115, 104, 101, 108, 102]
  | 3 => [109, 101, 116, 101, 114]
  | 4 => [100, 114, 97, 119, 101, 114]
  | 5 => [104, 111, 114, 110]
  | 6 => [118, 97, 117, 108, 116]
  | 7 => [114, 111, 98, 111, 116]
  | _ => []
def kfN : Nat → Int
  | 0 => 0
  | 1 => 1
  | 2 => 2
  | 3 => 5
  | 4 => 3
  | 5 => 9
  | 6 => 19
  | 7 => 63
  | _ => 0
/-- the number of a kind; -1 -/
def kindI (s : List UInt8) : Int := findK (fun k => kindN k == s) 0 8
def kfI (i : Int) : Int := if i < 0 then 0 else kfN i.toNat
def kfV (i : Int) : Value := .tuple #[.int .i64 (kfI i), .bool (decide (0 ≤ i))]
theorem kfV_yes {i : Int} {k : Nat} (h : (k : Int) = i) : Value.tuple #[.int .i64 (kfN k), .bool true] = kfV i := by
  subst h; unfold kfV kfI; rw [if_neg (by omega)]; simp
theorem kfV_no {i : Int} (h : (-1 : Int) = i) : Value.tuple #[.int .i64 0, .bool false] = kfV i := by subst h; rfl
theorem kinds_cell (w : World) (k : Nat) (hk : k < 8) : (w.alloc (.cells #[.string ⟨#[115, 116, 111, 110, 101]⟩, .string ⟨#[108, 97, 109, 112]⟩, .string ⟨#[115, 104, 101, 108, 102]⟩, .string ⟨#[109, 101, 116, 101, 114]⟩, .string ⟨#[100, 114, 97, 119, 101, 114]⟩, .string ⟨#[104, 111, 114, 110]⟩, .string ⟨#[118, 97, 117, 108, 116]⟩, .string ⟨#[114, 111, 98, 111, 116]⟩] 9)).cell? ⟨w.heap.size, k, none⟩ = some (.string ⟨(kindN k).toArray⟩) := by
  rw [cell_of_row _ _ k _ 9 (0, 0) (heap_alloc_new w _)]
  rcases (show k = 0 ∨ k = 1 ∨ k = 2 ∨ k = 3 ∨ k = 4 ∨ k = 5 ∨ k = 6 ∨ k = 7 by omega) with rfl | rfl | rfl | rfl | rfl | rfl | rfl | rfl <;> rfl
set_option maxHeartbeats 800000 in
theorem specKind_any (s : ByteArray) (w : World) :
    Calls Try.prog 105 #[.string s] w fun e w' => e = .returned (kfV (kindI s.data.toList)) ∧ Below w.heap.size w w' := by
  have HD := Lib.hid (kinds_cell w)
  go_enter Try.func105, Try.ntmps105
  go_wp2_with fail
  go_loop [4, 5, 8] (fun _ _ i => ∃ k : Nat, k ≤ 8 ∧ i = .int .i64 k ∧ findK (fun k => kindN k == s.data.toList) k (8 - k) = kindI s.data.toList) (fun _ _ i => 8 - (intOf i).toNat)
  case atStart => exact ⟨0, Nat.zero_le _, rfl, rfl⟩
  case round =>
    obtain ⟨k, hk, rfl, hf⟩ := hrel
    have HF := Lib.hid hf
    clear hf
    by_cases hlt : k < 8
    · have d1 := HD.out k hlt
      cases heq : (kindN k == s.data.toList) with
      | true =>
        have HR := Lib.hid (show (k : Int) = kindI s.data.toList from by rw [← HF.out]; exact (findK_yes hlt heq).symm)
        have hbeq : (kindN k == s.toList) = true := by rw [Lib.toList_data]; exact heq
        clear heq
        go_wp2_with fail
        go_ret2
        rcases (show k = 0 ∨ k = 1 ∨ k = 2 ∨ k = 3 ∨ k = 4 ∨ k = 5 ∨ k = 6 ∨ k = 7 by omega) with rfl | rfl | rfl | rfl | rfl | rfl | rfl | rfl <;> exact ⟨congrArg Ending.returned (kfV_yes HR.out), ((Below.refl _ _).alloc (Nat.le_refl _) _).alloc (by simp) _⟩
      | false =>
        have HR := Lib.hid (show findK (fun k => kindN k == s.data.toList) (k + 1) (8 - (k + 1)) = kindI s.data.toList from by rw [← HF.out]; exact (findK_no hlt heq).symm)
        have hbeq : (kindN k == s.toList) = false := by rw [Lib.toList_data]; exact heq
        clear heq
        go_wp2_with fail
        exact ⟨⟨k + 1, by omega, by go_num, HR.out⟩, by simp [intOf]; omega⟩
    · have HR := Lib.hid (show (-1 : Int) = kindI s.data.toList from by rw [← HF.out, show k = 8 by omega]; exact findK_end.symm)
      go_wp2_with fail
      go_ret2
      exact ⟨congrArg Ending.returned (kfV_no HR.out), (Below.refl _ _).alloc (Nat.le_refl _) _⟩
/-- what a call with that method wants -/
def wantI (k : Int) : Int := if k < 0 then 0 else 2 ^ k.toNat
def wantF (m : List UInt8) : Int := wantI (abOfM m)
theorem findK_bd (p : Nat → Bool) : ∀ n k : Nat, findK p k n = -1 ∨ ∃ j : Nat, findK p k n = j ∧ j < k + n ∧ p j = true := by
  intro n
  induction n with
  | zero => intro k; exact Or.inl rfl
  | succ n ih =>
    intro k
    unfold findK
    split
    · rename_i h; exact Or.inr ⟨k, rfl, by omega, h⟩
    · rcases ih (k + 1) with h | ⟨j, h1, h2, h3⟩
      · exact Or.inl h
      · exact Or.inr ⟨j, h1, by omega, h3⟩
theorem abOfM_bd (m : List UInt8) : abOfM m = -1 ∨ ∃ j : Nat, abOfM m = j ∧ j < 6 := by
  rcases findK_bd (fun k => decide (m ∈ mthN k)) 6 0 with h | ⟨j, h1, h2, _⟩
  · exact Or.inl h
  · exact Or.inr ⟨j, h1, by omega⟩
end Go.Proofs.Ytlkpinlkbikokaa
/- Contracts of chapter 3: the program's KindFace, kindOffers. -/
namespace Go.Proofs.Ytlkpinlkbikokaa
set_option linter.unusedVariables false
open Go.RowKit
theorem bytes_eq (s : ByteArray) (l : List UInt8) : s.toList = l ↔ s = ⟨l.toArray⟩ := by
  rw [Lib.toList_data]
  constructor
  · intro h; subst h; simp
  · intro h; subst h; simp
theorem kindI_none (l : List UInt8) (h : ∀ k, k < 8 → kindN k ≠ l) : kindI l = -1 := by
  have : ∀ n k, k + n ≤ 8 → findK (fun k => kindN k == l) k n = -1 := by
    intro n
    induction n with
    | zero => intro k _; rfl
    | succ n ih =>
      intro k hk
      unfold findK
      rw [if_neg (by simpa using h k (by omega)), ih (k + 1) (by omega)]
  exact this 8 0 (by omega)
set_option maxHeartbeats 800000 in
theorem implKind_any (s : ByteArray) (w : World) :
    Calls Try.prog 95 #[.string s] w fun e w' => e = .returned (kfV (kindI s.data.toList)) ∧ w = w' := by
  by_cases h0 : s.toList = [115, 116, 111, 110, 101]
  · rw [bytes_eq] at h0
    subst h0
    go_enter Try.func95, Try.ntmps95
    go_wp2
    go_ret2
    exact ⟨rfl, rfl⟩
  by_cases h1 : s.toList = [108, 97, 109, 112]
  · rw [bytes_eq] at h1
    subst h1
    clear h0
    go_enter Try.func95, Try.ntmps95
    go_wp2
    go_ret2
    exact ⟨rfl, rfl⟩
  by_cases h2 : s.toList = [115, 104, 101, 108, 102]
  · rw [bytes_eq] at h2
    subst h2
    clear h0 h1
    go_enter Try.func95, Try.ntmps95
    go_wp2
    go_ret2
    exact ⟨rfl, rfl⟩
  by_cases h3 : s.toList = [109, 101, 116, 101, 114]
  · rw [bytes_eq] at h3
    subst h3
    clear h0 h1 h2
    go_enter Try.func95, Try.ntmps95
    go_wp2
    go_ret2
    exact ⟨rfl, rfl⟩
  by_cases h4 : s.toList = [100, 114, 97, 119, 101, 114]
  · rw [bytes_eq] at h4
    subst h4
    clear h0 h1 h2 h3
    go_enter Try.func95, Try.ntmps95
    go_wp2
    go_ret2
    exact ⟨rfl, rfl⟩
  by_cases h5 : s.toList = [104, 111, 114, 110]
  · rw [bytes_eq] at h5
    subst h5
    clear h0 h1 h2 h3 h4
    go_enter Try.func95, Try.ntmps95
    go_wp2
    go_ret2
    exact ⟨rfl, rfl⟩
  by_cases h6 : s.toList = [118, 97, 117, 108, 116]
  · rw [bytes_eq] at h6
    subst h6
    clear h0 h1 h2 h3 h4 h5
    go_enter Try.func95, Try.ntmps95
    go_wp2
    go_ret2
    exact ⟨rfl, rfl⟩
  by_cases h7 : s.toList = [114, 111, 98, 111, 116]
  · rw [bytes_eq] at h7
    subst h7
    clear h0 h1 h2 h3 h4 h5 h6
    go_enter Try.func95, Try.ntmps95
    go_wp2
    go_ret2
    exact ⟨rfl, rfl⟩
  have b0 : (s.toList == [115, 116, 111, 110, 101]) = false := by simpa using h0
  have b1 : (s.toList == [108, 97, 109, 112]) = false := by simpa using h1
  have b2 : (s.toList == [115, 104, 101, 108, 102]) = false := by simpa using h2
  have b3 : (s.toList == [109, 101, 116, 101, 114]) = false := by simpa using h3
  have b4 : (s.toList == [100, 114, 97, 119, 101, 114]) = false := by simpa using h4
  have b5 : (s.toList == [104, 111, 114, 110]) = false := by simpa using h5
  have b6 : (s.toList == [118, 97, 117, 108, 116]) = false := by simpa using h6
  have b7 : (s.toList == [114, 111, 98, 111, 116]) = false := by simpa using h7
  have HK := Lib.hid (show kindI s.data.toList = -1 from kindI_none _ (by
    rw [Lib.toList_data] at h0 h1 h2 h3 h4 h5 h6 h7
    intro k hk e
    rcases (show k = 0 ∨ k = 1 ∨ k = 2 ∨ k = 3 ∨ k = 4 ∨ k = 5 ∨ k = 6 ∨ k = 7 by omega) with rfl | rfl | rfl | rfl | rfl | rfl | rfl | rfl
    · exact h0 e.symm
    · exact h1 e.symm
    · exact h2 e.symm
    · exact h3 e.symm
    · exact h4 e.symm
    · exact h5 e.symm
    · exact h6 e.symm
    · exact h7 e.symm))
  clear h0 h1 h2 h3 h4 h5 h6 h7
  go_enter Try.func95, Try.ntmps95
  go_wp2
  go_ret2
  exact ⟨congrArg Ending.returned (kfV_no HK.out.symm), rfl⟩
theorem kindI_bd (l : List UInt8) : kindI l = -1 ∨ ∃ j : Nat, kindI l = j ∧ j < 8 ∧ kindN j = l := by
  rcases findK_bd (fun k => kindN k == l) 8 0 with h | ⟨j, h1, h2, h3⟩
  · exact Or.inl h
  · exact Or.inr ⟨j, h1, by omega, by simpa using h3⟩
theorem kfN_face (j : Nat) : isF (kfN j) = true := by unfold kfN; split <;> rfl
theorem kfI_face (i : Int) : isF (kfI i) = true := by unfold kfI; split; rfl; exact kfN_face _
/-- the kind's face offers what is wanted -/
def kindOff (l : List UInt8) (want : Int) : Bool := decide (0 ≤ kindI l) && offersF (kfI (kindI l)) want
set_option maxHeartbeats 800000 in
theorem kindOffers_any (s : ByteArray) (want : Int) (w : World) :
    Calls Try.prog 109 #[.string s, .int .i64 want] w fun e w' => e = .returned (.bool (kindOff s.data.toList want)) ∧ w = w' := by
  have HK := Lib.hid (implKind_any s)
  have HO := Lib.hid (implOffers_any (kfI (kindI s.data.toList)) want)
  unfold kindOff
  unfold kfV at HK
  generalize kfI (kindI s.data.toList) = f at *
  generalize decide (0 ≤ kindI s.data.toList) = b at *
  cases b
  · go_enter Try.func109, Try.ntmps109
    go_wp2_with fail
    refine (HK.out _).mono ?_
    rintro e w1 ⟨rfl, rfl⟩
    go_wp2_with fail
    go_ret
    exact ⟨rfl, rfl⟩
  · go_enter Try.func109, Try.ntmps109
    go_wp2_with fail
    refine (HK.out _).mono ?_
    rintro e w1 ⟨rfl, rfl⟩
    go_wp2_with fail
    refine (HO.out _).mono ?_
    rintro e w1 ⟨rfl, rfl⟩
    go_wp2_with fail
    go_ret
    exact ⟨rfl, rfl⟩
theorem kindOffers_b (l : List UInt8) (want : Int) (x : Bool) (h : kindOff l want = x) (w : World) :
    Calls Try.prog 109 #[.string ⟨l.toArray⟩, .int .i64 want] w fun e w' => e = .returned (.bool x) ∧ w = w' := by
  subst h; exact kindOffers_any ⟨l.toArray⟩ want w
end Go.Proofs.Ytlkpinlkbikokaa
/- Contracts of chapter 4: LayerNeeds, LayerGives, the program's and the model's. Written by gen/ch4lay.py. -/
namespace Go.Proofs.Ytlkpinlkbikokaa
set_option linter.unusedVariables false
open Go.RowKit
def layN : Nat → List UInt8
  | 0 => [112, 108, 97, 105, 110]
  | 1 => [114, 117, 110, 115]
  | 2 => [107, 101, 101, 112, 115]
  | 3 => [99, 111, 117, 110, 116, 115]
  | 4 => [108, 97, 122, 121]
  | 5 => [114, 101, 97, 100, 115]
  | 6 => [104, 101, 97, 114, 115]
  | 7 => [104, 101, 97, 108, 115]
  | 8 => [116, 119, 105, 99, 101]
  | _ => []
def needN : Nat → Int
  | 0 => 0
  | 1 => 1
  | 2 => 2
  | 3 => 2
  | 4 => 3
  | 5 => 2
  | 6 => 1
  | 7 => 1
  | 8 => 4
  | _ => 0
def giveN : Nat → Int
  | 0 => 0
  | 1 => 1
  | 2 => 2
  | 3 => 6
  | 4 => 3
  | 5 => 2
  | 6 => 9
  | 7 => 33
  | 8 => 4
  | _ => 0
/-- the number of an adapter; -1 -/
def layI (s : List UInt8) : Int := findK (fun k => layN k == s) 0 9
def needI (i : Int) : Int := if i < 0 then 0 else needN i.toNat
def giveI (i : Int) : Int := if i < 0 then 0 else giveN i.toNat
def ndV (i : Int) : Value := .tuple #[.int .i64 (needI i), .bool (decide (0 ≤ i))]
def gvV (i : Int) : Value := .tuple #[.int .i64 (giveI i), .bool (decide (0 ≤ i))]
def l4V (i : Int) : Value := .tuple #[.int .i64 (needI i), .int .i64 (giveI i), .bool (decide (0 ≤ i))]
theorem l4V_yes {i : Int} {k : Nat} (h : (k : Int) = i) : Value.tuple #[.int .i64 (needN k), .int .i64 (giveN k), .bool true] = l4V i := by
  subst h; unfold l4V needI giveI; rw [if_neg (by omega), if_neg (by omega)]; simp
theorem l4V_no {i : Int} (h : (-1 : Int) = i) : Value.tuple #[.int .i64 0, .int .i64 0, .bool false] = l4V i := by subst h; rfl
theorem layI_none (l : List UInt8) (h : ∀ k, k < 9 → layN k ≠ l) : layI l = -1 := by
  have : ∀ n k, k + n ≤ 9 → findK (fun k => layN k == l) k n = -1 := by
    intro n
    induction n with
    | zero => intro k _; rfl
    | succ n ih =>
      intro k hk
      unfold findK
      rw [if_neg (by simpa using h k (by omega)), ih (k + 1) (by omega)]
  exact this 9 0 (by omega)
theorem layI_bd (l : List UInt8) : layI l = -1 ∨ ∃ j : Nat, layI l = j ∧ j < 9 ∧ layN j = l := by
  rcases findK_bd (fun k => layN k == l) 9 0 with h | ⟨j, h1, h2, h3⟩
  · exact Or.inl h
  · exact Or.inr ⟨j, h1, by omega, by simpa using h3⟩
theorem needN_face (j : Nat) : isF (needN j) = true := by unfold needN; split <;> rfl
theorem giveN_face (j : Nat) : isF (giveN j) = true := by unfold giveN; split <;> rfl
theorem needI_face (i : Int) : isF (needI i) = true := by unfold needI; split; rfl; exact needN_face _
theorem giveI_face (i : Int) : isF (giveI i) = true := by unfold giveI; split; rfl; exact giveN_face _
set_option maxHeartbeats 800000 in
theorem implLayerNeeds_any (s : ByteArray) (w : World) :
    Calls Try.prog 44 #[.string s] w fun e w' => e = .returned (ndV (layI s.data.toList)) ∧ w = w' := by
  by_cases h0 : s.toList = [112, 108, 97, 105, 110]
  · rw [bytes_eq] at h0
    subst h0
    go_enter Try.func44, Try.ntmps44
    go_wp2
    go_ret2
    exact ⟨rfl, rfl⟩
  by_cases h1 : s.toList = [114, 117, 110, 115]
  · rw [bytes_eq] at h1
    subst h1
    clear h0
    go_enter Try.func44, Try.ntmps44
    go_wp2
    go_ret2
    exact ⟨rfl, rfl⟩
  by_cases h2 : s.toList = [107, 101, 101, 112, 115]
  · rw [bytes_eq] at h2
    subst h2
    clear h0 h1
    go_enter Try.func44, Try.ntmps44
    go_wp2
    go_ret2
    exact ⟨rfl, rfl⟩
  by_cases h3 : s.toList = [99, 111, 117, 110, 116, 115]
  · rw [bytes_eq] at h3
    subst h3
    clear h0 h1 h2
    go_enter Try.func44, Try.ntmps44
    go_wp2
    go_ret2
    exact ⟨rfl, rfl⟩
  by_cases h4 : s.toList = [108, 97, 122, 121]
  · rw [bytes_eq] at h4
    subst h4
    clear h0 h1 h2 h3
    go_enter Try.func44, Try.ntmps44
    go_wp2
    go_ret2
    exact ⟨rfl, rfl⟩
  by_cases h5 : s.toList = [114, 101, 97, 100, 115]
  · rw [bytes_eq] at h5
    subst h5
    clear h0 h1 h2 h3 h4
    go_enter Try.func44, Try.ntmps44
    go_wp2
    go_ret2
    exact ⟨rfl, rfl⟩
  by_cases h6 : s.toList = [104, 101, 97, 114, 115]
  · rw [bytes_eq] at h6
    subst h6
    clear h0 h1 h2 h3 h4 h5
    go_enter Try.func44, Try.ntmps44
    go_wp2
    go_ret2
    exact ⟨rfl, rfl⟩
  by_cases h7 : s.toList = [104, 101, 97, 108, 115]
  · rw [bytes_eq] at h7
    subst h7
    clear h0 h1 h2 h3 h4 h5 h6
    go_enter Try.func44, Try.ntmps44
    go_wp2
    go_ret2
    exact ⟨rfl, rfl⟩
  by_cases h8 : s.toList = [116, 119, 105, 99, 101]
  · rw [bytes_eq] at h8
    subst h8
    clear h0 h1 h2 h3 h4 h5 h6 h7
    go_enter Try.func44, Try.ntmps44
    go_wp2
    go_ret2
    exact ⟨rfl, rfl⟩
  have b0 : (s.toList == [112, 108, 97, 105, 110]) = false := by simpa using h0
  have b1 : (s.toList == [114, 117, 110, 115]) = false := by simpa using h1
  have b2 : (s.toList == [107, 101, 101, 112, 115]) = false := by simpa using h2
  have b3 : (s.toList == [99, 111, 117, 110, 116, 115]) = false := by simpa using h3
  have b4 : (s.toList == [108, 97, 122, 121]) = false := by simpa using h4
  have b5 : (s.toList == [114, 101, 97, 100, 115]) = false := by simpa using h5
  have b6 : (s.toList == [104, 101, 97, 114, 115]) = false := by simpa using h6
  have b7 : (s.toList == [104, 101, 97, 108, 115]) = false := by simpa using h7
  have b8 : (s.toList == [116, 119, 105, 99, 101]) = false := by simpa using h8
  have HN : layI s.data.toList = -1 := by
    rw [Lib.toList_data] at h0 h1 h2 h3 h4 h5 h6 h7 h8
    refine layI_none _ ?_
    intro k hk e
    rcases (show k = 0 ∨ k = 1 ∨ k = 2 ∨ k = 3 ∨ k = 4 ∨ k = 5 ∨ k = 6 ∨ k = 7 ∨ k = 8 by omega) with rfl | rfl | rfl | rfl | rfl | rfl | rfl | rfl | rfl
    · exact h0 e.symm
    · exact h1 e.symm
    · exact h2 e.symm
    · exact h3 e.symm
    · exact h4 e.symm
    · exact h5 e.symm
    · exact h6 e.symm
    · exact h7 e.symm
    · exact h8 e.symm
  have HK := Lib.hid (show ndV (layI s.data.toList) = .tuple #[.int .i64 0, .bool false] by rw [HN]; rfl)
  clear h0 h1 h2 h3 h4 h5 h6 h7 h8 HN
  go_enter Try.func44, Try.ntmps44
  go_wp2
  go_ret2
  exact ⟨congrArg Ending.returned HK.out.symm, rfl⟩
set_option maxHeartbeats 800000 in
theorem implLayerGives_any (s : ByteArray) (w : World) :
    Calls Try.prog 96 #[.string s] w fun e w' => e = .returned (gvV (layI s.data.toList)) ∧ w = w' := by
  by_cases h0 : s.toList = [112, 108, 97, 105, 110]
  · rw [bytes_eq] at h0
    subst h0
    go_enter Try.func96, Try.ntmps96
    go_wp2
    go_ret2
    exact ⟨rfl, rfl⟩
  by_cases h1 : s.toList = [114, 117, 110, 115]
  · rw [bytes_eq] at h1
    subst h1
    clear h0
    go_enter Try.func96, Try.ntmps96
    go_wp2
    go_ret2
    exact ⟨rfl, rfl⟩
  by_cases h2 : s.toList = [107, 101, 101, 112, 115]
  · rw [bytes_eq] at h2
    subst h2
    clear h0 h1
    go_enter Try.func96, Try.ntmps96
    go_wp2
    go_ret2
    exact ⟨rfl, rfl⟩
  by_cases h3 : s.toList = [99, 111, 117, 110, 116, 115]
  · rw [bytes_eq] at h3
    subst h3
    clear h0 h1 h2
    go_enter Try.func96, Try.ntmps96
    go_wp2
    go_ret2
    exact ⟨rfl, rfl⟩
  by_cases h4 : s.toList = [108, 97, 122, 121]
  · rw [bytes_eq] at h4
    subst h4
    clear h0 h1 h2 h3
    go_enter Try.func96, Try.ntmps96
    go_wp2
    go_ret2
    exact ⟨rfl, rfl⟩
  by_cases h5 : s.toList = [114, 101, 97, 100, 115]
  · rw [bytes_eq] at h5
    subst h5
    clear h0 h1 h2 h3 h4
    go_enter Try.func96, Try.ntmps96
    go_wp2
    go_ret2
    exact ⟨rfl, rfl⟩
  by_cases h6 : s.toList = [104, 101, 97, 114, 115]
  · rw [bytes_eq] at h6
    subst h6
    clear h0 h1 h2 h3 h4 h5
    go_enter Try.func96, Try.ntmps96
    go_wp2
    go_ret2
    exact ⟨rfl, rfl⟩
  by_cases h7 : s.toList = [104, 101, 97, 108, 115]
  · rw [bytes_eq] at h7
    subst h7
    clear h0 h1 h2 h3 h4 h5 h6
    go_enter Try.func96, Try.ntmps96
    go_wp2
    go_ret2
    exact ⟨rfl, rfl⟩
  by_cases h8 : s.toList = [116, 119, 105, 99, 101]
  · rw [bytes_eq] at h8
    subst h8
    clear h0 h1 h2 h3 h4 h5 h6 h7
    go_enter Try.func96, Try.ntmps96
    go_wp2
    go_ret2
    exact ⟨rfl, rfl⟩
  have b0 : (s.toList == [112, 108, 97, 105, 110]) = false := by simpa using h0
  have b1 : (s.toList == [114, 117, 110, 115]) = false := by simpa using h1
  have b2 : (s.toList == [107, 101, 101, 112, 115]) = false := by simpa using h2
  have b3 : (s.toList == [99, 111, 117, 110, 116, 115]) = false := by simpa using h3
  have b4 : (s.toList == [108, 97, 122, 121]) = false := by simpa using h4
  have b5 : (s.toList == [114, 101, 97, 100, 115]) = false := by simpa using h5
  have b6 : (s.toList == [104, 101, 97, 114, 115]) = false := by simpa using h6
  have b7 : (s.toList == [104, 101, 97, 108, 115]) = false := by simpa using h7
  have b8 : (s.toList == [116, 119, 105, 99, 101]) = false := by simpa using h8
  have HN : layI s.data.toList = -1 := by
    rw [Lib.toList_data] at h0 h1 h2 h3 h4 h5 h6 h7 h8
    refine layI_none _ ?_
    intro k hk e
    rcases (show k = 0 ∨ k = 1 ∨ k = 2 ∨ k = 3 ∨ k = 4 ∨ k = 5 ∨ k = 6 ∨ k = 7 ∨ k = 8 by omega) with rfl | rfl | rfl | rfl | rfl | rfl | rfl | rfl | rfl
    · exact h0 e.symm
    · exact h1 e.symm
    · exact h2 e.symm
    · exact h3 e.symm
    · exact h4 e.symm
    · exact h5 e.symm
    · exact h6 e.symm
    · exact h7 e.symm
    · exact h8 e.symm
  have HK := Lib.hid (show gvV (layI s.data.toList) = .tuple #[.int .i64 0, .bool false] by rw [HN]; rfl)
  clear h0 h1 h2 h3 h4 h5 h6 h7 h8 HN
  go_enter Try.func96, Try.ntmps96
  go_wp2
  go_ret2
  exact ⟨congrArg Ending.returned HK.out.symm, rfl⟩
theorem lays_cell (w : World) (k : Nat) (hk : k < 9) : (w.alloc (.cells #[.string ⟨#[112, 108, 97, 105, 110]⟩, .string ⟨#[114, 117, 110, 115]⟩, .string ⟨#[107, 101, 101, 112, 115]⟩, .string ⟨#[99, 111, 117, 110, 116, 115]⟩, .string ⟨#[108, 97, 122, 121]⟩, .string ⟨#[114, 101, 97, 100, 115]⟩, .string ⟨#[104, 101, 97, 114, 115]⟩, .string ⟨#[104, 101, 97, 108, 115]⟩, .string ⟨#[116, 119, 105, 99, 101]⟩] 9)).cell? ⟨w.heap.size, k, none⟩ = some (.string ⟨(layN k).toArray⟩) := by
  rw [cell_of_row _ _ k _ 9 (0, 0) (heap_alloc_new w _)]
  rcases (show k = 0 ∨ k = 1 ∨ k = 2 ∨ k = 3 ∨ k = 4 ∨ k = 5 ∨ k = 6 ∨ k = 7 ∨ k = 8 by omega) with rfl | rfl | rfl | rfl | rfl | rfl | rfl | rfl | rfl <;> rfl
set_option maxHeartbeats 1600000 in
theorem l4Row_any (s : ByteArray) (w : World) :
    Calls Try.prog 37 #[.string s] w fun e w' => e = .returned (l4V (layI s.data.toList)) ∧ Below w.heap.size w w' := by
  have HD := Lib.hid (lays_cell w)
  go_enter Try.func37, Try.ntmps37
  go_wp2_with fail
  go_loop [6, 7, 11] (fun _ _ i => ∃ k : Nat, k ≤ 9 ∧ i = .int .i64 k ∧ findK (fun k => layN k == s.data.toList) k (9 - k) = layI s.data.toList) (fun _ _ i => 9 - (intOf i).toNat)
  case atStart => exact ⟨0, Nat.zero_le _, rfl, rfl⟩
  case round =>
    obtain ⟨k, hk, rfl, hf⟩ := hrel
    have HF := Lib.hid hf
    clear hf
    by_cases hlt : k < 9
    · have d1 := HD.out k hlt
      cases heq : (layN k == s.data.toList) with
      | true =>
        have HR := Lib.hid (show (k : Int) = layI s.data.toList from by rw [← HF.out]; exact (findK_yes hlt heq).symm)
        have hbeq : (layN k == s.toList) = true := by rw [Lib.toList_data]; exact heq
        clear heq
        go_wp2_with fail
        rcases (show k = 0 ∨ k = 1 ∨ k = 2 ∨ k = 3 ∨ k = 4 ∨ k = 5 ∨ k = 6 ∨ k = 7 ∨ k = 8 by omega) with rfl | rfl | rfl | rfl | rfl | rfl | rfl | rfl | rfl
        all_goals go_region
        all_goals (try go_wp2_with fail)
        all_goals
          go_ret3
          exact ⟨congrArg Ending.returned (l4V_yes HR.out), by repeat (first | exact Below.refl _ _ | refine Below.alloc ?_ (by simp; try omega) _ | refine Below.drew ?_)⟩
      | false =>
        have HR := Lib.hid (show findK (fun k => layN k == s.data.toList) (k + 1) (9 - (k + 1)) = layI s.data.toList from by rw [← HF.out]; exact (findK_no hlt heq).symm)
        have hbeq : (layN k == s.toList) = false := by rw [Lib.toList_data]; exact heq
        clear heq
        go_wp2_with fail
        exact ⟨⟨k + 1, by omega, by go_num, HR.out⟩, by simp [intOf]; omega⟩
    · have HR := Lib.hid (show (-1 : Int) = layI s.data.toList from by rw [← HF.out, show k = 9 by omega]; exact findK_end.symm)
      go_wp2_with fail
      go_ret3
      exact ⟨congrArg Ending.returned (l4V_no HR.out), by repeat (first | exact Below.refl _ _ | refine Below.alloc ?_ (by simp; try omega) _)⟩
set_option maxHeartbeats 800000 in
theorem specLayerNeeds_any (s : ByteArray) (w : World) :
    Calls Try.prog 75 #[.string s] w fun e w' => e = .returned (ndV (layI s.data.toList)) ∧ Below w.heap.size w w' := by
  have HR := Lib.hid (l4Row_any s)
  unfold l4V at HR
  unfold ndV
  generalize needI (layI s.data.toList) = n at *
  generalize giveI (layI s.data.toList) = g at *
  generalize decide (0 ≤ layI s.data.toList) = b at *
  go_enter Try.func75, Try.ntmps75
  go_wp2_with fail
  refine (HR.out w).mono ?_
  rintro e w1 ⟨rfl, hb⟩
  go_wp2_with fail
  go_ret2
  exact ⟨rfl, hb⟩
end Go.Proofs.Ytlkpinlkbikokaa
/- Contracts of chapter 4: FaceOf, both sides. -/
namespace Go.Proofs.Ytlkpinlkbikokaa
set_option linter.unusedVariables false
set_option linter.unusedSimpArgs false
open Go.RowKit
instance : Inhabited LayerD := ⟨⟨[], 0⟩⟩
/-- the face of a part with its first n layers alone -/
def faceN (x : PartD) : Nat → Int
  | 0 => kfI (kindI x.fCore.fKind)
  | n + 1 => giveI (layI (x.fLayers.getD n default).fName)
def faceP (x : PartD) : Int := faceN x x.fLayers.length
theorem kfV_is (i : Int) : kfV i = .tuple #[.int .i64 (kfI i), .bool (decide (0 ≤ i))] := rfl
theorem gvV_is (i : Int) : gvV i = .tuple #[.int .i64 (giveI i), .bool (decide (0 ≤ i))] := rfl
theorem l4V_is (i : Int) : l4V i = .tuple #[.int .i64 (needI i), .int .i64 (giveI i), .bool (decide (0 ≤ i))] := rfl
theorem part_box (w : World) (o : Obj) : Below w.heap.size w (w.alloc o) := (Below.refl _ _).alloc (Nat.le_refl _) o
set_option maxRecDepth 100000 in
set_option maxHeartbeats 1600000 in
theorem implFaceOf_any (v : Value) (x : PartD) (w : World) (hx : ValAt rPart 0 w v x) :
    Calls Try.prog 57 #[v] w fun e w' => e = .returned (.int .i64 (faceP x)) ∧ Below w.heap.size w w' := by
  obtain ⟨_, rfl, hx⟩ := hx
  obtain ⟨⟨a0, a1, a2, a3, a4⟩, ls⟩ := x
  obtain ⟨v3, v5, rfl, h3, h5⟩ := hx
  simp only at h3 h5
  obtain ⟨ra, rc, rfl, _⟩ := sliceAt_len h3
  obtain ⟨sa, sc, rfl, hl⟩ := sliceAt_len h5
  unfold maxLen at hl
  have HK := Lib.hid (implKind_any ⟨a0.toArray⟩)
  simp only [kfV_is, List.toList_toArray] at HK
  clear h3
  cases ls with
  | nil =>
    have HF := Lib.hid (show faceP ⟨⟨a0, a1, a2, a3, a4⟩, []⟩ = kfI (kindI a0) from rfl)
    rw [HF.out]
    generalize kfI (kindI a0) = f at *
    generalize decide (0 ≤ kindI a0) = b at *
    clear h5
    go_enter Try.func57, Try.ntmps57
    go_wp2_with (first | (go_at_call 95; (with_reducible refine (HK.out _).mono ?_); rintro e w' ⟨rfl, rfl⟩))
    go_ret
    exact ⟨rfl, part_box w _⟩
  | cons y r =>
    obtain ⟨b, o, cs, rfl, hbw, hat, hd⟩ := sliceAt_cell h5 r.length (by simp)
    have HY := Lib.hid (show faceP ⟨⟨a0, a1, a2, a3, a4⟩, y :: r⟩ = giveI (layI ((y :: r)[r.length]'(by simp)).fName) from by
      unfold faceP faceN
      rw [show (y :: r).length = r.length + 1 from rfl]
      simp only
      rw [List.getD_eq_getElem?_getD, List.getElem?_eq_getElem (by simp)]; rfl)
    rw [HY.out]
    have HG := Lib.hid (implLayerGives_any ⟨((y :: r)[r.length]'(by simp)).fName.toArray⟩)
    generalize (y :: r)[r.length]'(by simp) = z at *
    obtain ⟨z0, z1⟩ := z
    simp only [rFlat, cLayer] at hat
    subst hat
    simp only [gvV_is, List.toList_toArray] at HG
    have d0 := hd 0 (by decide)
    simp only [List.getElem?_cons_zero, Nat.add_zero] at d0
    have hn : (y :: r).length = r.length + 1 := rfl
    rw [hn] at *
    have hl2 : r.length + 1 ≤ 9223372036854775807 := hl
    generalize giveI (layI z0) = f at *
    generalize decide (0 ≤ layI z0) = g at *
    generalize r.length = n at *
    clear hd h5 hn HK
    go_enter Try.func57, Try.ntmps57
    go_wp2_with (first | (go_at_call 96; (with_reducible refine (HG.out _).mono ?_); rintro e w' ⟨rfl, rfl⟩))
    go_ret
    exact ⟨rfl, part_box w _⟩
set_option maxRecDepth 100000 in
set_option maxHeartbeats 1600000 in
theorem l4Face_any (v : Value) (x : PartD) (n : Nat) (w : World) (hx : ValAt rPart 0 w v x) (hn : n ≤ x.fLayers.length) :
    Calls Try.prog 76 #[v, .int .i64 n] w fun e w' => e = .returned (.int .i64 (faceN x n)) ∧ Below w.heap.size w w' := by
  obtain ⟨_, rfl, hx⟩ := hx
  obtain ⟨⟨a0, a1, a2, a3, a4⟩, ls⟩ := x
  obtain ⟨v3, v5, rfl, h3, h5⟩ := hx
  simp only at h3 h5 hn
  obtain ⟨ra, rc, rfl, _⟩ := sliceAt_len h3
  obtain ⟨sa, sc, rfl, hl⟩ := sliceAt_len h5
  unfold maxLen at hl
  have HK := Lib.hid (specKind_any ⟨a0.toArray⟩)
  simp only [kfV_is, List.toList_toArray] at HK
  clear h3
  cases n with
  | zero =>
    have HF := Lib.hid (show faceN ⟨⟨a0, a1, a2, a3, a4⟩, ls⟩ 0 = kfI (kindI a0) from rfl)
    rw [HF.out]
    generalize kfI (kindI a0) = f at *
    generalize decide (0 ≤ kindI a0) = b at *
    clear h5 hn
    go_enter Try.func76, Try.ntmps76
    go_wp2_with fail
    refine (HK.out _).mono ?_
    rintro e w1 ⟨rfl, hb⟩
    have HB := Lib.hid (belS (part_box w _) hb)
    clear hb
    go_wp2_with fail
    go_ret
    exact ⟨rfl, HB.out⟩
  | succ n =>
    have hn2 : n < ls.length := hn
    obtain ⟨b, o, cs, rfl, hbw, hat, hd⟩ := sliceAt_cell h5 n hn2
    have HY := Lib.hid (show faceN ⟨⟨a0, a1, a2, a3, a4⟩, ls⟩ (n + 1) = giveI (layI (ls[n]).fName) from by
      unfold faceN
      simp only
      rw [List.getD_eq_getElem?_getD, List.getElem?_eq_getElem hn2]; rfl)
    rw [HY.out]
    have HG := Lib.hid (l4Row_any ⟨(ls[n]).fName.toArray⟩)
    generalize ls[n] = z at *
    obtain ⟨z0, z1⟩ := z
    simp only [rFlat, cLayer] at hat
    subst hat
    simp only [l4V_is, List.toList_toArray] at HG
    have d0 := hd 0 (by decide)
    simp only [List.getElem?_cons_zero, Nat.add_zero] at d0
    have hl2 : ls.length ≤ 9223372036854775807 := hl
    have hn3 : (n : Int) < (ls.length : Int) := by omega
    generalize giveI (layI z0) = f at *
    generalize needI (layI z0) = f2 at *
    generalize decide (0 ≤ layI z0) = g at *
    clear hd h5 hn HK
    go_enter Try.func76, Try.ntmps76
    go_wp2_with fail
    refine (HG.out _).mono ?_
    rintro e w1 ⟨rfl, hb⟩
    have HB := Lib.hid (belS (part_box w _) hb)
    clear hb
    go_wp2_with fail
    go_ret
    exact ⟨rfl, HB.out⟩
set_option maxRecDepth 100000 in
set_option maxHeartbeats 1600000 in
theorem specFaceOf_any (v : Value) (x : PartD) (w : World) (hx : ValAt rPart 0 w v x) :
    Calls Try.prog 40 #[v] w fun e w' => e = .returned (.int .i64 (faceP x)) ∧ Below w.heap.size w w' := by
  obtain ⟨_, rfl, hx⟩ := hx
  have HX := Lib.hid (fun o => goodPart.keep hx (kept_below (part_box w o) (Nat.le_refl _)))
  have HF := Lib.hid (fun o => l4Face_any _ x x.fLayers.length (w.alloc o) ⟨_, rfl, HX.out o⟩ (Nat.le_refl _))
  have HP := Lib.hid (show faceP x = faceN x x.fLayers.length from rfl)
  rw [HP.out]
  obtain ⟨⟨a0, a1, a2, a3, a4⟩, ls⟩ := x
  obtain ⟨v3, v5, rfl, h3, h5⟩ := hx
  simp only at h3 h5 HF
  obtain ⟨ra, rc, rfl, _⟩ := sliceAt_len h3
  obtain ⟨sa, sc, rfl, hl⟩ := sliceAt_len h5
  unfold maxLen at hl
  clear h3 h5 HX
  generalize faceN ⟨⟨a0, a1, a2, a3, a4⟩, ls⟩ ls.length = f at *
  go_enter Try.func40, Try.ntmps40
  go_wp2_with fail
  refine (HF.out _).mono ?_
  rintro e w1 ⟨rfl, hb⟩
  have HB := Lib.hid (belS (part_box w _) hb)
  clear hb
  go_wp2_with fail
  go_ret
  exact ⟨rfl, HB.out⟩
end Go.Proofs.Ytlkpinlkbikokaa
/- Cells, plain: which lists are cells. -/
namespace Go.Proofs.Ytlkpinlkbikokaa
set_option linter.unusedVariables false
open Go.RowKit
instance : Inhabited CellD := ⟨⟨[], 0⟩⟩
def numB (n : Int) : Bool := decide (0 ≤ n) && decide (n ≤ 999)
def okAt (l : List CellD) (i : Nat) : Bool := nameB (l.getD i default).fKey && numB (l.getD i default).fValue && (decide (i = 0) || Op.bytesLess (l.getD (i - 1) default).fKey (l.getD i default).fKey)
def okTo (l : List CellD) (k : Nat) : Bool := (List.range k).all (okAt l)
def cellsB (l : List CellD) : Bool := decide (l.length ≤ 4) && okTo l l.length
theorem okTo_zero (l : List CellD) : okTo l 0 = true := rfl
theorem okTo_succ (l : List CellD) (k : Nat) : okTo l (k + 1) = (okTo l k && okAt l k) := by simp [okTo, List.range_succ]
theorem okTo_le (l : List CellD) (k m : Nat) (h : k ≤ m) (hm : okTo l m = true) : okTo l k = true := by
  unfold okTo at *
  rw [List.all_eq_true] at *
  intro i hi
  exact hm i (by rw [List.mem_range] at *; omega)
theorem okTo_at (l : List CellD) (k i : Nat) (h : okTo l k = true) (hi : i < k) : okAt l i = true := by
  unfold okTo at h; rw [List.all_eq_true] at h; exact h i (by rw [List.mem_range]; exact hi)
theorem cellsB_bad (l : List CellD) (k : Nat) (hk : k < l.length) (h : okAt l k = false) : cellsB l = false := by
  cases hc : cellsB l with
  | false => rfl
  | true =>
    simp only [cellsB, Bool.and_eq_true] at hc
    rw [okTo_at l _ k hc.2 hk] at h; exact absurd h (by simp)
theorem cellsB_long (l : List CellD) (h : 4 < l.length) : cellsB l = false := by unfold cellsB; rw [show decide (l.length ≤ 4) = false by simpa using h]; rfl
theorem cellsB_end (l : List CellD) (h : okTo l l.length = true) : cellsB l = decide (l.length ≤ 4) := by unfold cellsB; rw [h, Bool.and_true]
theorem cellsB_len {l : List CellD} (h : cellsB l = true) : l.length ≤ 4 := by simp only [cellsB, Bool.and_eq_true, decide_eq_true_iff] at h; exact h.1
theorem cellsB_mem {l : List CellD} (h : cellsB l = true) : ∀ d ∈ l, nameB d.fKey = true ∧ numB d.fValue = true := by
  intro d hd
  obtain ⟨i, hi, rfl⟩ := List.mem_iff_getElem.1 hd
  simp only [cellsB, Bool.and_eq_true] at h
  have := okTo_at l _ i h.2 hi
  simp only [okAt, Bool.and_eq_true] at this
  rw [List.getD_eq_getElem?_getD, List.getElem?_eq_getElem hi] at this
  exact this.1
theorem getD_at (l : List CellD) (i : Nat) (h : i < l.length) : l.getD i default = l[i] := by rw [List.getD_eq_getElem?_getD, List.getElem?_eq_getElem h]; rfl
theorem okAt_of (l : List CellD) (i : Nat) (h : i < l.length) (x y z : Bool) (hx : nameB (l[i]).fKey = x) (hy : numB (l[i]).fValue = y) (hz : (decide (i = 0) || Op.bytesLess (l.getD (i - 1) default).fKey (l[i]).fKey) = z) : okAt l i = (x && y && z) := by
  unfold okAt; rw [getD_at l i h, hx, hy, hz]
/-- a cell as a text -/
theorem cell_info : (Try.prog.info? 146).map (fun i => (i.zero, i.size, i.bytes)) = some (some (.agg #[.string ⟨#[]⟩, .int .i64 0]), 2, 24) := by kernel_rfl
theorem cell_newC (w : World) (y : CellD) (blk : Nat) (h : blk = w.heap.size) : ∀ j, j < 2 → (w.alloc (.cells #[.string ⟨y.fKey.toArray⟩, .int .i64 y.fValue] 146)).cell? ⟨blk, j, none⟩ = (cCell y)[j]? := by
  subst h
  intro j hj
  rw [cell_of_row _ _ _ _ 146 (0, 0) (heap_alloc_new w _)]
  simp [cCell]
end Go.Proofs.Ytlkpinlkbikokaa
/- Contracts of chapter 3: isNumber, IsCells, the program's and the model's. -/
namespace Go.Proofs.Ytlkpinlkbikokaa
set_option linter.unusedVariables false
open Go.RowKit
set_option maxHeartbeats 400000 in
theorem isNumber_any (n : Int) (w : World) :
    Calls Try.prog 110 #[.int .i64 n] w fun e w' => e = .returned (.bool (numB n)) ∧ w = w' := by
  by_cases h0 : n < 0
  · go_enter Try.func110, Try.ntmps110
    go_wp2
    go_ret
    exact ⟨ret_bool (by simp [numB]; omega), rfl⟩
  · go_enter Try.func110, Try.ntmps110
    go_wp2
    go_ret
    exact ⟨ret_bool (by simp [numB]; omega), rfl⟩
theorem isNumber_b (n : Int) (x : Bool) (h : numB n = x) (w : World) :
    Calls Try.prog 110 #[.int .i64 n] w fun e w' => e = .returned (.bool x) ∧ w = w' := by
  subst h; exact isNumber_any n w
theorem implIsName_b (l : List UInt8) (x : Bool) (h : nameB l = x) (hs : l.length ≤ maxLen) (w : World) :
    Calls Try.prog 100 #[.string ⟨l.toArray⟩] w fun e w' => e = .returned (.bool x) ∧ w = w' := by
  subst h; have := implIsName_any ⟨l.toArray⟩ w (by rw [← size_list]; simpa using hs); simpa using this
theorem specIsName_b (l : List UInt8) (x : Bool) (h : nameB l = x) (hs : l.length ≤ maxLen) (w : World) :
    Calls Try.prog 60 #[.string ⟨l.toArray⟩] w fun e w' => e = .returned (.bool x) ∧ w = w' := by
  subst h; have := specIsName_any ⟨l.toArray⟩ w (by rw [← size_list]; simpa using hs); simpa using this
set_option maxRecDepth 100000 in
set_option maxHeartbeats 1600000 in
theorem implIsCells_any (v : Value) (l : List CellD) (w : World) (hx : FlatAt cCell 2 w v l) (hs : ∀ d ∈ l, d.fKey.length ≤ maxLen) :
    Calls Try.prog 108 #[v] w fun e w' => e = .returned (.bool (cellsB l)) ∧ Below w.heap.size w w' := by
  obtain ⟨a, c, rfl, hl⟩ := flatAt_len hx
  have HX := Lib.hid hx
  have HS := Lib.hid hs
  clear hx hs
  unfold maxLen at hl
  by_cases h4 : 4 < l.length
  · have HN := Lib.hid (cellsB_long l h4)
    go_enter Try.func108, Try.ntmps108
    go_wp2_with fail
    go_ret
    exact ⟨ret_bool HN.out.symm, Below.refl _ _⟩
  · have HL := Lib.hid (show decide (l.length ≤ 4) = true by simp; omega)
    go_enter Try.func108, Try.ntmps108
    go_wp2_with fail
    go_loopw [3, 4, 10] (fun _ _ i wr => ∃ k : Nat, k ≤ l.length ∧ i = .int .i64 k ∧ okTo l k = true ∧ Below w.heap.size w wr) (fun _ _ i _ => l.length - (intOf i).toNat)
    case atStart => exact ⟨0, Nat.zero_le _, rfl, rfl, Below.refl _ _⟩
    case round =>
      obtain ⟨k, hk, rfl, hok, hb⟩ := hrel
      have HO := Lib.hid hok
      have HB := Lib.hid hb
      have HXr := Lib.hid (FlatAt.below HX.out hb (Nat.le_refl _))
      clear hok hb
      by_cases hlt : k < l.length
      · obtain ⟨b, o, rfl, hbl, hd⟩ := flatAt_cell cCell_len HXr.out k hlt (by decide)
        have d0 := hd 0 (by decide)
        have d1 := hd 1 (by decide)
        clear hd
        have HA := Lib.hid (okAt_of l k hlt)
        have HBAD := Lib.hid (fun h => cellsB_bad l k hlt h)
        have HNX := Lib.hid (show okAt l k = true → okTo l (k + 1) = true from fun h => by rw [okTo_succ, HO.out, h]; rfl)
        have HNM := Lib.hid (implIsName_b (l[k]).fKey)
        have hlen := HS.out (l[k]) (List.getElem_mem hlt)
        have HNU := Lib.hid (isNumber_b (l[k]).fValue)
        have HBB := Lib.hid (show ∀ o1, Below w.heap.size w (wr.alloc o1) from fun o1 => HB.out.alloc HB.out.size _)
        cases hx : nameB (l[k]).fKey with
        | false =>
          have HR := Lib.hid (HBAD.out (by rw [HA.out _ _ _ hx rfl rfl]; rfl))
          have HN := Lib.hid (HNM.out _ hx hlen)
          clear hx
          generalize l[k] = p at *
          obtain ⟨a0, a1⟩ := p
          simp only [cCell, List.getElem?_cons_zero, List.getElem?_cons_succ, Nat.add_zero] at d0 d1
          go_wp2_with fail
          refine (HN.out _).mono ?_
          rintro e w1 ⟨rfl, rfl⟩
          go_wp2_with fail
          go_ret
          exact ⟨ret_bool HR.out.symm, HBB.out _⟩
        | true => 
          cases hy : numB (l[k]).fValue with
          | false =>
            have HR := Lib.hid (HBAD.out (by rw [HA.out _ _ _ hx hy rfl]; rfl))
            have HN := Lib.hid (HNM.out _ hx hlen)
            have HN2 := Lib.hid (HNU.out _ hy)
            clear hx hy
            generalize l[k] = p at *
            obtain ⟨a0, a1⟩ := p
            simp only [cCell, List.getElem?_cons_zero, List.getElem?_cons_succ, Nat.add_zero] at d0 d1
            go_wp2_with fail
            refine (HN.out _).mono ?_
            rintro e w1 ⟨rfl, rfl⟩
            go_wp2_with fail
            refine (HN2.out _).mono ?_
            rintro e w1 ⟨rfl, rfl⟩
            go_wp2_with fail
            go_ret
            exact ⟨ret_bool HR.out.symm, HBB.out _⟩
          | true =>
            have HN := Lib.hid (HNM.out _ hx hlen)
            have HN2 := Lib.hid (HNU.out _ hy)
            by_cases h0 : 0 < k
            · have hk1 : k - 1 < l.length := by omega
              obtain ⟨b', o', e', _, hd'⟩ := flatAt_cell cCell_len HXr.out (k - 1) hk1 (by decide)
              injection e' with e'
              injection e' with e1 e2
              subst e1 e2
              have q0 := hd' 0 (by decide)
              clear hd'
              have hg0 : (0 : Int) < (k : Int) := by omega
              have hk2 : (0 : Int) ≤ (k : Int) - 1 := by omega
              have hk3 : (k : Int) - 1 < (l.length : Int) := by omega
              cases hz : Op.bytesLess (l.getD (k - 1) default).fKey (l[k]).fKey with
              | false =>
                have HR := Lib.hid (HBAD.out (by rw [HA.out _ _ _ hx hy rfl, hz]; simp; omega))
                rw [getD_at l (k - 1) hk1] at hz
                clear hx hy
                generalize l[k] = p at *
                generalize l[k - 1] = q at *
                obtain ⟨a0, a1⟩ := p
                obtain ⟨b0, b1⟩ := q
                simp only [cCell, List.getElem?_cons_zero, List.getElem?_cons_succ, Nat.add_zero] at d0 d1 q0 hz
                go_wp2_with fail
                refine (HN.out _).mono ?_
                rintro e w1 ⟨rfl, rfl⟩
                go_wp2_with fail
                refine (HN2.out _).mono ?_
                rintro e w1 ⟨rfl, rfl⟩
                go_wp2_with fail
                go_quiet (fail)
                go_wp2_with fail
                go_ret
                exact ⟨ret_bool HR.out.symm, below_drewN (HBB.out _) _⟩
              | true =>
                have HR := Lib.hid (HNX.out (by rw [HA.out _ _ _ hx hy rfl, hz]; simp))
                rw [getD_at l (k - 1) hk1] at hz
                clear hx hy
                generalize l[k] = p at *
                generalize l[k - 1] = q at *
                obtain ⟨a0, a1⟩ := p
                obtain ⟨b0, b1⟩ := q
                simp only [cCell, List.getElem?_cons_zero, List.getElem?_cons_succ, Nat.add_zero] at d0 d1 q0 hz
                go_wp2_with fail
                refine (HN.out _).mono ?_
                rintro e w1 ⟨rfl, rfl⟩
                go_wp2_with fail
                refine (HN2.out _).mono ?_
                rintro e w1 ⟨rfl, rfl⟩
                go_wp2_with fail
                go_quiet (fail)
                go_wp2_with fail
                exact ⟨⟨k + 1, by omega, by go_num, HR.out, below_drewN (HBB.out _) _⟩, by simp [intOf]; omega⟩
            · have HR := Lib.hid (HNX.out (by rw [HA.out _ _ _ hx hy rfl, show decide (k = 0) = true by simp; omega]; rfl))
              have hg0 : (k : Int) ≤ 0 := by omega
              clear hx hy
              generalize l[k] = p at *
              obtain ⟨a0, a1⟩ := p
              simp only [cCell, List.getElem?_cons_zero, List.getElem?_cons_succ, Nat.add_zero] at d0 d1
              go_wp2_with fail
              refine (HN.out _).mono ?_
              rintro e w1 ⟨rfl, rfl⟩
              go_wp2_with fail
              refine (HN2.out _).mono ?_
              rintro e w1 ⟨rfl, rfl⟩
              go_wp2_with fail
              go_quiet (fail)
              go_wp2_with fail
              exact ⟨⟨k + 1, by omega, by go_num, HR.out, below_drewN (HBB.out _) _⟩, by simp [intOf]; omega⟩
      · have HN := Lib.hid (show cellsB l = true from by
          have h := HO.out
          rw [show k = l.length by omega] at h
          rw [cellsB_end l h, HL.out])
        go_wp2_with fail
        go_ret
        exact ⟨ret_bool HN.out.symm, HB.out⟩
end Go.Proofs.Ytlkpinlkbikokaa
/- Contracts of chapter 3: the model's IsCells. -/
namespace Go.Proofs.Ytlkpinlkbikokaa
set_option linter.unusedVariables false
open Go.RowKit
theorem specIsName_q (l : List UInt8) (x : Bool) (h : nameB l = x) (hs : l.length ≤ maxLen) (w : World) :
    Calls Try.prog 60 #[.string ⟨l.toArray⟩] w fun e w' => e = .returned (.bool x) ∧ w' = w := (specIsName_b l x h hs w).mono fun _ _ ⟨h1, h2⟩ => ⟨h1, h2.symm⟩
set_option maxRecDepth 100000 in
set_option maxHeartbeats 1600000 in
theorem specIsCells_any (v : Value) (l : List CellD) (w : World) (hx : FlatAt cCell 2 w v l) (hs : ∀ d ∈ l, d.fKey.length ≤ maxLen) :
    Calls Try.prog 106 #[v] w fun e w' => e = .returned (.bool (cellsB l)) ∧ Below w.heap.size w w' := by
  obtain ⟨a, c, rfl, hl⟩ := flatAt_len hx
  have HX := Lib.hid hx
  have HS := Lib.hid hs
  clear hx hs
  unfold maxLen at hl
  go_enter Try.func106, Try.ntmps106
  go_wp2_with fail
  go_loopw [3, 4, 7] (fun _ _ i wr => ∃ k : Nat, k ≤ l.length ∧ i = .int .i64 k ∧ okTo l k = true ∧ Below w.heap.size w wr) (fun _ _ i _ => l.length - (intOf i).toNat)
  case atStart => exact ⟨0, Nat.zero_le _, rfl, rfl, Below.refl _ _⟩
  case round =>
    obtain ⟨k, hk, rfl, hok, hb⟩ := hrel
    have HO := Lib.hid hok
    have HB := Lib.hid hb
    have HXr := Lib.hid (FlatAt.below HX.out hb (Nat.le_refl _))
    clear hok hb
    by_cases hlt : k < l.length
    · obtain ⟨b, o, rfl, hbl, hd⟩ := flatAt_cell cCell_len HXr.out k hlt (by decide)
      have d0 := hd 0 (by decide)
      have d1 := hd 1 (by decide)
      clear hd
      have HA := Lib.hid (okAt_of l k hlt)
      have HBAD := Lib.hid (fun h => cellsB_bad l k hlt h)
      have HNX := Lib.hid (show okAt l k = true → okTo l (k + 1) = true from fun h => by rw [okTo_succ, HO.out, h]; rfl)
      have HNM := Lib.hid (specIsName_q (l[k]).fKey)
      have hlen := HS.out (l[k]) (List.getElem_mem hlt)
      have HBB := Lib.hid (show ∀ o1, Below w.heap.size w (wr.alloc o1) from fun o1 => HB.out.alloc HB.out.size _)
      cases hx : nameB (l[k]).fKey with
      | false =>
        have HR := Lib.hid (HBAD.out (by rw [HA.out _ _ _ hx rfl rfl]; rfl))
        have HN := Lib.hid (HNM.out _ hx hlen)
        clear hx
        generalize l[k] = p at *
        obtain ⟨a0, a1⟩ := p
        simp only [cCell, List.getElem?_cons_zero, List.getElem?_cons_succ, Nat.add_zero] at d0 d1
        go_wp2_with fail
        go_quiet ((go_at_call 60; exact Calls.quiet_of_same (HN.out _)))
        go_wp2_with fail
        go_ret
        exact ⟨ret_bool HR.out.symm, below_drewN (HBB.out _) _⟩
      | true =>
        have HN := Lib.hid (HNM.out _ hx hlen)
        by_cases hv : (l[k]).fValue < 0
        · have HR := Lib.hid (HBAD.out (by rw [HA.out _ _ _ hx (show numB _ = false by simp [numB]; omega) rfl]; rfl))
          clear hx
          generalize l[k] = p at *
          obtain ⟨a0, a1⟩ := p
          simp only [cCell, List.getElem?_cons_zero, List.getElem?_cons_succ, Nat.add_zero] at d0 d1 hv
          go_wp2_with fail
          go_quiet ((go_at_call 60; exact Calls.quiet_of_same (HN.out _)))
          go_wp2_with fail
          go_ret
          exact ⟨ret_bool HR.out.symm, below_drewN (HBB.out _) _⟩
        · by_cases hv2 : 999 < (l[k]).fValue
          · have HR := Lib.hid (HBAD.out (by rw [HA.out _ _ _ hx (show numB _ = false by simp [numB]; omega) rfl]; rfl))
            clear hx
            generalize l[k] = p at *
            obtain ⟨a0, a1⟩ := p
            simp only [cCell, List.getElem?_cons_zero, List.getElem?_cons_succ, Nat.add_zero] at d0 d1 hv hv2
            have hvd : decide (a1 < 0) = false := by simpa using hv
            go_wp2_with fail
            go_quiet ((go_at_call 60; exact Calls.quiet_of_same (HN.out _)))
            go_wp2_with fail
            go_ret
            exact ⟨ret_bool HR.out.symm, below_drewN (HBB.out _) _⟩
          · have hy : numB (l[k]).fValue = true := by simp [numB]; omega
            by_cases h0 : 0 < k
            · have hk1 : k - 1 < l.length := by omega
              obtain ⟨b', o', e', _, hd'⟩ := flatAt_cell cCell_len HXr.out (k - 1) hk1 (by decide)
              injection e' with e'
              injection e' with e1 e2
              subst e1 e2
              have q0 := hd' 0 (by decide)
              clear hd'
              have hg0 : (0 : Int) < (k : Int) := by omega
              have hk2 : (0 : Int) ≤ (k : Int) - 1 := by omega
              have hk3 : (k : Int) - 1 < (l.length : Int) := by omega
              cases hz : Op.bytesLess (l.getD (k - 1) default).fKey (l[k]).fKey with
              | false =>
                have HR := Lib.hid (HBAD.out (by rw [HA.out _ _ _ hx hy rfl, hz]; simp; omega))
                rw [getD_at l (k - 1) hk1] at hz
                clear hx hy
                generalize l[k] = p at *
                generalize l[k - 1] = q at *
                obtain ⟨a0, a1⟩ := p
                obtain ⟨b0, b1⟩ := q
                simp only [cCell, List.getElem?_cons_zero, List.getElem?_cons_succ, Nat.add_zero] at d0 d1 q0 hz hv hv2
                have hvd : decide (a1 < 0) = false := by simpa using hv
                have hvd2 : decide (999 < a1) = false := by simpa using hv2
                go_wp2_with fail
                go_quiet ((go_at_call 60; exact Calls.quiet_of_same (HN.out _)))
                go_wp2_with fail
                go_ret
                exact ⟨ret_bool HR.out.symm, below_drewN (HBB.out _) _⟩
              | true =>
                have HR := Lib.hid (HNX.out (by rw [HA.out _ _ _ hx hy rfl, hz]; simp))
                rw [getD_at l (k - 1) hk1] at hz
                clear hx hy
                generalize l[k] = p at *
                generalize l[k - 1] = q at *
                obtain ⟨a0, a1⟩ := p
                obtain ⟨b0, b1⟩ := q
                simp only [cCell, List.getElem?_cons_zero, List.getElem?_cons_succ, Nat.add_zero] at d0 d1 q0 hz hv hv2
                have hvd : decide (a1 < 0) = false := by simpa using hv
                have hvd2 : decide (999 < a1) = false := by simpa using hv2
                go_wp2_with fail
                go_quiet ((go_at_call 60; exact Calls.quiet_of_same (HN.out _)))
                go_wp2_with fail
                exact ⟨⟨k + 1, by omega, by go_num, HR.out, below_drewN (HBB.out _) _⟩, by simp [intOf]; omega⟩
            · have HR := Lib.hid (HNX.out (by rw [HA.out _ _ _ hx hy rfl, show decide (k = 0) = true by simp; omega]; rfl))
              have hg0 : decide ((0 : Int) < (k : Int)) = false := by simp; omega
              clear hx hy
              generalize l[k] = p at *
              obtain ⟨a0, a1⟩ := p
              simp only [cCell, List.getElem?_cons_zero, List.getElem?_cons_succ, Nat.add_zero] at d0 d1 hv hv2
              have hvd : decide (a1 < 0) = false := by simpa using hv
              have hvd2 : decide (999 < a1) = false := by simpa using hv2
              go_wp2_with fail
              go_quiet ((go_at_call 60; exact Calls.quiet_of_same (HN.out _)))
              go_wp2_with fail
              exact ⟨⟨k + 1, by omega, by go_num, HR.out, below_drewN (HBB.out _) _⟩, by simp [intOf]; omega⟩
    · have HN := Lib.hid (show cellsB l = decide (l.length ≤ 4) from by
        have h := HO.out
        rw [show k = l.length by omega] at h
        exact cellsB_end l h)
      by_cases h4 : l.length ≤ 4
      · rw [show decide (l.length ≤ 4) = true by simpa using h4] at HN
        go_wp2_with fail
        go_ret
        exact ⟨ret_bool (by rw [HN.out]; simp; omega), HB.out⟩
      · rw [show decide (l.length ≤ 4) = false by simpa using h4] at HN
        go_wp2_with fail
        go_ret
        exact ⟨ret_bool (by rw [HN.out]; simp; omega), HB.out⟩
end Go.Proofs.Ytlkpinlkbikokaa
/- Contracts of chapter 3: IsCore, the program's and the model's. -/
namespace Go.Proofs.Ytlkpinlkbikokaa
set_option linter.unusedVariables false
open Go.RowKit
theorem off_fin : ∀ a : Fin 64, ∀ k : Fin 6, offersF ((a : Nat) : Int) (2 ^ (k : Nat)) = hasI ((a : Nat) : Int) (k : Nat) := by decide +kernel
theorem off_has {f : Int} (hf : isF f = true) (k : Nat) (hk : k < 6) : offersF f (2 ^ k) = hasI f k := by
  obtain ⟨a, rfl⟩ := isF_fin hf
  exact off_fin a ⟨k, hk⟩
/-- the kind, or -1, of a core; its face -/
def coreF (d : CoreD) : Int := kfI (kindI d.fKind)
def coreB (d : CoreD) : Bool := decide (0 ≤ kindI d.fKind) && cellsB d.fCells && (decide (d.fCells.length = 0) || hasI (coreF d) 1) && (!(d.fOn || d.fBroken) || hasI (coreF d) 0) && numB d.fCount && !(d.fOn && d.fBroken)
theorem kindOff_has (l : List UInt8) (h : decide (0 ≤ kindI l) = true) (k : Nat) (hk : k < 6) : kindOff l (2 ^ k) = hasI (kfI (kindI l)) k := by
  unfold kindOff; rw [h, Bool.true_and, off_has (kfI_face _) k hk]
theorem implKind_b (l : List UInt8) (x : Bool) (h : decide (0 ≤ kindI l) = x) (w : World) :
    Calls Try.prog 95 #[.string ⟨l.toArray⟩] w fun e w' => e = .returned (.tuple #[.int .i64 (kfI (kindI l)), .bool x]) ∧ w = w' := by
  subst h; exact implKind_any ⟨l.toArray⟩ w
theorem specKind_b (l : List UInt8) (x : Bool) (h : decide (0 ≤ kindI l) = x) (w : World) :
    Calls Try.prog 105 #[.string ⟨l.toArray⟩] w fun e w' => e = .returned (.tuple #[.int .i64 (kfI (kindI l)), .bool x]) ∧ Below w.heap.size w w' := by
  subst h; exact specKind_any ⟨l.toArray⟩ w
set_option maxRecDepth 100000 in
set_option maxHeartbeats 6400000 in
theorem implIsCore_any (v : Value) (d : CoreD) (w : World) (hx : CoreAt w v d) (hs : ∀ c ∈ d.fCells, c.fKey.length ≤ maxLen) :
    Calls Try.prog 82 #[v] w fun e w' => e = .returned (.bool (coreB d)) ∧ Below w.heap.size w w' := by
  obtain ⟨cv, rfl, hx⟩ := hx
  have HKD := Lib.hid (implKind_b d.fKind)
  have HOF := Lib.hid (kindOff_has d.fKind)
  have HKO := Lib.hid (kindOffers_b d.fKind)
  have HNU := Lib.hid (isNumber_b d.fCount)
  have HR := Lib.hid (show coreB d = (decide (0 ≤ kindI d.fKind) && cellsB d.fCells && (decide (d.fCells.length = 0) || hasI (kfI (kindI d.fKind)) 1) && (!(d.fOn || d.fBroken) || hasI (kfI (kindI d.fKind)) 0) && numB d.fCount && !(d.fOn && d.fBroken)) from rfl)
  generalize coreB d = res at *
  obtain ⟨kd, on, br, l, cnt⟩ := d
  unfold vCore
  simp only at *
  obtain ⟨a, c, rfl, hl⟩ := flatAt_len hx
  unfold maxLen at hl
  have HB0 := Lib.hid (show ∀ o, Below w.heap.size w (w.alloc o) from fun o => (Below.refl w.heap.size w).alloc (Nat.le_refl _) o)
  have HIC := Lib.hid (fun o => implIsCells_any _ l (w.alloc o) (hx.below (HB0.out o) (Nat.le_refl _)) hs)
  clear hx hs
  have HF := Lib.hid (show decide (0 ≤ kindI kd) = true → (∀ w, Calls Try.prog 109 #[.string ⟨kd.toArray⟩, .int .i64 2] w fun e w' => e = .returned (.bool (hasI (kfI (kindI kd)) 1)) ∧ w = w') ∧ ∀ w, Calls Try.prog 109 #[.string ⟨kd.toArray⟩, .int .i64 1] w fun e w' => e = .returned (.bool (hasI (kfI (kindI kd)) 0)) ∧ w = w' from fun h => ⟨HKO.out 2 _ (HOF.out h 1 (by decide)), HKO.out 1 _ (HOF.out h 0 (by decide))⟩)
  generalize hasI (kfI (kindI kd)) 1 = h1 at *
  generalize hasI (kfI (kindI kd)) 0 = h0 at *
  generalize numB cnt = nb at *
  have HNB := Lib.hid (HNU.out _ rfl)
  cases hk : decide (0 ≤ kindI kd) with
  | false =>
    have HK := Lib.hid (HKD.out _ hk)
    rw [hk] at HR
    clear hk HNU HKD HKO HOF HF
    go_enter Try.func82, Try.ntmps82
    go_wp2_with fail
    refine (HK.out _).mono ?_
    rintro e w1 ⟨rfl, rfl⟩
    go_wp2_with fail
    go_ret
    exact ⟨ret_bool HR.out.symm, HB0.out _⟩
  | true =>
    have HK := Lib.hid (HKD.out _ hk)
    have HK2 := Lib.hid (HF.out hk).1
    have HK1 := Lib.hid (HF.out hk).2
    rw [hk] at HR
    clear hk HNU HKD HKO HOF HF
    generalize cellsB l = cb at *
    go_enter Try.func82, Try.ntmps82
    go_wp2_with fail
    refine (HK.out _).mono ?_
    rintro e w1 ⟨rfl, rfl⟩
    go_wp2_with fail
    refine (HIC.out _).mono ?_
    rintro e w1 ⟨rfl, hb⟩
    have HB := Lib.hid ((HB0.out _).trans (hb.mono (HB0.out _).size))
    obtain ⟨hcc, _⟩ := bcell hb
    simp at hcc
    clear hb
    cases cb with
    | false =>
      go_wp2_with fail
      go_ret
      exact ⟨ret_bool (by rw [HR.out]; rfl), HB.out⟩
    | true =>
      by_cases hn : 0 < l.length
      · have hg : decide ((0 : Int) < (l.length : Int)) = true := decide_eq_true (by omega)
        rw [show decide (l.length = 0) = false from decide_eq_false (by omega)] at HR
        cases h1 with
        | false =>
          go_wp2_with (first | (go_at_call 109; (with_reducible refine (HK2.out _).mono ?_); rintro e w' ⟨rfl, rfl⟩))
          go_ret
          exact ⟨ret_bool (by rw [HR.out]; rfl), HB.out⟩
        | true =>
          cases on <;> cases br <;> cases h0 <;> cases nb
          all_goals
            go_wp2_with (first | (go_at_call 109; (with_reducible refine (HK2.out _).mono ?_); rintro e w' ⟨rfl, rfl⟩) | (go_at_call 109; (with_reducible refine (HK1.out _).mono ?_); rintro e w' ⟨rfl, rfl⟩) | (go_at_call 110; (with_reducible refine (HNB.out _).mono ?_); rintro e w' ⟨rfl, rfl⟩))
            go_ret
            exact ⟨ret_bool (by rw [HR.out]; rfl), HB.out⟩
      · have hg : decide ((0 : Int) < (l.length : Int)) = false := decide_eq_false (by omega)
        rw [show decide (l.length = 0) = true from decide_eq_true (by omega)] at HR
        have hg2 : (l.length : Int) ≤ 0 := by omega
        clear hn
        cases on <;> cases br <;> cases h0 <;> cases nb
        all_goals
          go_wp2_with (first | (go_at_call 109; (with_reducible refine (HK1.out _).mono ?_); rintro e w' ⟨rfl, rfl⟩) | (go_at_call 110; (with_reducible refine (HNB.out _).mono ?_); rintro e w' ⟨rfl, rfl⟩))
          go_ret
          exact ⟨ret_bool (by rw [HR.out]; rfl), HB.out⟩
end Go.Proofs.Ytlkpinlkbikokaa
/- Contracts of chapter 3: the model's IsCore. -/
namespace Go.Proofs.Ytlkpinlkbikokaa
set_option linter.unusedVariables false
open Go.RowKit
theorem l2Has_0 (f : Int) (x : Bool) (h : hasI f 0 = x) (hf : isF f = true) (w : World) :
    Calls Try.prog 78 #[.int .i64 f, .int .i64 0] w fun e w' => e = .returned (.bool x) ∧ w = w' := l2Has_b f 0 x h hf (by decide) w
theorem l2Has_1 (f : Int) (x : Bool) (h : hasI f 1 = x) (hf : isF f = true) (w : World) :
    Calls Try.prog 78 #[.int .i64 f, .int .i64 1] w fun e w' => e = .returned (.bool x) ∧ w = w' := l2Has_b f 1 x h hf (by decide) w
set_option maxRecDepth 100000 in
set_option maxHeartbeats 6400000 in
theorem specIsCore_any (v : Value) (d : CoreD) (w : World) (hx : CoreAt w v d) (hs : ∀ c ∈ d.fCells, c.fKey.length ≤ maxLen) :
    Calls Try.prog 74 #[v] w fun e w' => e = .returned (.bool (coreB d)) ∧ Below w.heap.size w w' := by
  obtain ⟨cv, rfl, hx⟩ := hx
  have HKD := Lib.hid (specKind_b d.fKind)
  have HH0 := Lib.hid (l2Has_0 (kfI (kindI d.fKind)) _ rfl (kfI_face _))
  have HH1 := Lib.hid (l2Has_1 (kfI (kindI d.fKind)) _ rfl (kfI_face _))
  have HR := Lib.hid (show coreB d = (decide (0 ≤ kindI d.fKind) && cellsB d.fCells && (decide (d.fCells.length = 0) || hasI (kfI (kindI d.fKind)) 1) && (!(d.fOn || d.fBroken) || hasI (kfI (kindI d.fKind)) 0) && numB d.fCount && !(d.fOn && d.fBroken)) from rfl)
  generalize coreB d = res at *
  obtain ⟨kd, on, br, l, cnt⟩ := d
  unfold vCore
  simp only at *
  obtain ⟨a, c, rfl, hl⟩ := flatAt_len hx
  unfold maxLen at hl
  have HB0 := Lib.hid (show ∀ o, Below w.heap.size w (w.alloc o) from fun o => (Below.refl w.heap.size w).alloc (Nat.le_refl _) o)
  have HIC := Lib.hid (fun w0 hb => specIsCells_any _ l w0 (hx.below hb (Nat.le_refl _)) hs)
  clear hx hs
  have HK := Lib.hid (HKD.out _ rfl)
  generalize hasI (kfI (kindI kd)) 1 = h1 at *
  generalize hasI (kfI (kindI kd)) 0 = h0 at *
  generalize kfI (kindI kd) = f at *
  generalize decide (0 ≤ kindI kd) = kk at *
  generalize cellsB l = cb at *
  have HN0 := Lib.hid (show cnt < 0 → numB cnt = false from fun h => by simp [numB]; omega)
  have HN1 := Lib.hid (show 999 < cnt → numB cnt = false from fun h => by simp [numB]; omega)
  have HN2 := Lib.hid (show 0 ≤ cnt → cnt ≤ 999 → numB cnt = true from fun h h2 => by simp [numB]; omega)
  generalize numB cnt = nb at *
  clear HKD
  go_enter Try.func74, Try.ntmps74
  go_wp2_with fail
  refine (HK.out _).mono ?_
  rintro e w1 ⟨rfl, hb⟩
  have HB1 := Lib.hid ((HB0.out _).trans (hb.mono (HB0.out _).size))
  obtain ⟨hcc, _⟩ := bcell hb
  simp at hcc
  have hc0 := hcc w.heap.size 0 (by omega)
  have hc1 := hcc w.heap.size 1 (by omega)
  have hc2 := hcc w.heap.size 2 (by omega)
  have hc3 := hcc w.heap.size 3 (by omega)
  have hc4 := hcc w.heap.size 4 (by omega)
  simp at hc0 hc1 hc2 hc3 hc4
  have HLT := Lib.hid (show w.heap.size < w1.heap.size from by have := hb.size; simp at this; omega)
  clear hb hcc
  cases kk with
  | false =>
    go_wp2_with (first | (go_at_call 78; (with_reducible refine (HH0.out _).mono ?_); rintro e w' ⟨rfl, rfl⟩))
    go_ret
    exact ⟨ret_bool (by rw [HR.out]; rfl), HB1.out⟩
  | true =>
    go_wp2_with (first | (go_at_call 78; (with_reducible refine (HH0.out _).mono ?_); rintro e w' ⟨rfl, rfl⟩))
    refine (HIC.out _ HB1.out).mono ?_
    rintro e w2 ⟨rfl, hb⟩
    have HB := Lib.hid (HB1.out.trans (hb.mono HB1.out.size))
    have c0 := (hb.cell (p := ⟨w.heap.size, 0, none⟩) HLT.out).trans hc0
    have c1 := (hb.cell (p := ⟨w.heap.size, 1, none⟩) HLT.out).trans hc1
    have c2 := (hb.cell (p := ⟨w.heap.size, 2, none⟩) HLT.out).trans hc2
    have c3 := (hb.cell (p := ⟨w.heap.size, 3, none⟩) HLT.out).trans hc3
    have c4 := (hb.cell (p := ⟨w.heap.size, 4, none⟩) HLT.out).trans hc4
    clear hb hc0 hc1 hc2 hc3 hc4
    cases cb with
    | false =>
      go_wp2_with fail
      go_ret
      exact ⟨ret_bool (by rw [HR.out]; rfl), HB.out⟩
    | true =>
      by_cases hn : 0 < l.length
      · have hg : decide ((0 : Int) < (l.length : Int)) = true := decide_eq_true (by omega)
        rw [show decide (l.length = 0) = false from decide_eq_false (by omega)] at HR
        cases h1 with
        | false =>
          go_wp2_with (first | (go_at_call 78; (with_reducible refine (HH1.out _).mono ?_); rintro e w' ⟨rfl, rfl⟩))
          go_ret
          exact ⟨ret_bool (by rw [HR.out]; rfl), HB.out⟩
        | true =>
          by_cases hv : cnt < 0
          · rw [HN0.out hv] at HR
            go_wp2_with (first | (go_at_call 78; (with_reducible refine (HH1.out _).mono ?_); rintro e w' ⟨rfl, rfl⟩))
            go_ret
            exact ⟨ret_bool (by rw [HR.out]; cases on <;> cases br <;> cases h0 <;> rfl), HB.out⟩
          · by_cases hv2 : 999 < cnt
            · rw [HN1.out hv2] at HR
              go_wp2_with (first | (go_at_call 78; (with_reducible refine (HH1.out _).mono ?_); rintro e w' ⟨rfl, rfl⟩))
              go_ret
              exact ⟨ret_bool (by rw [HR.out]; cases on <;> cases br <;> cases h0 <;> rfl), HB.out⟩
            · rw [HN2.out (by omega) (by omega)] at HR
              cases on <;> cases br <;> cases h0
              all_goals
                go_wp2_with (first | (go_at_call 78; (with_reducible refine (HH1.out _).mono ?_); rintro e w' ⟨rfl, rfl⟩))
                go_ret
                exact ⟨ret_bool (by rw [HR.out]; rfl), HB.out⟩
      · have hg : decide ((0 : Int) < (l.length : Int)) = false := decide_eq_false (by omega)
        rw [show decide (l.length = 0) = true from decide_eq_true (by omega)] at HR
        have hg2 : (l.length : Int) ≤ 0 := by omega
        clear hn
        by_cases hv : cnt < 0
        · rw [HN0.out hv] at HR
          go_wp2_with fail
          go_ret
          exact ⟨ret_bool (by rw [HR.out]; cases on <;> cases br <;> cases h0 <;> rfl), HB.out⟩
        · by_cases hv2 : 999 < cnt
          · rw [HN1.out hv2] at HR
            go_wp2_with fail
            go_ret
            exact ⟨ret_bool (by rw [HR.out]; cases on <;> cases br <;> cases h0 <;> rfl), HB.out⟩
          · rw [HN2.out (by omega) (by omega)] at HR
            cases on <;> cases br <;> cases h0
            all_goals
              go_wp2_with fail
              go_ret
              exact ⟨ret_bool (by rw [HR.out]; rfl), HB.out⟩
end Go.Proofs.Ytlkpinlkbikokaa
/- Contracts of chapter 4: IsPart, both sides. -/
namespace Go.Proofs.Ytlkpinlkbikokaa
set_option linter.unusedVariables false
set_option linter.unusedSimpArgs false
open Go.RowKit
def countedB (n : List UInt8) : Bool := n == [99, 111, 117, 110, 116, 115] || n == [104, 101, 97, 114, 115]
def cntB (y : LayerD) : Bool := if countedB y.fName = true then numB y.fCount else y.fCount == 0
def layOk (x : PartD) (i : Nat) : Bool := decide (0 ≤ layI (x.fLayers.getD i default).fName) && offersF (faceN x i) (needI (layI (x.fLayers.getD i default).fName)) && cntB (x.fLayers.getD i default)
def layTo (x : PartD) (k : Nat) : Bool := (List.range k).all (layOk x)
def partB (x : PartD) : Bool := coreB x.fCore && decide (x.fLayers.length ≤ 3) && layTo x x.fLayers.length
theorem layTo_succ (x : PartD) (k : Nat) : layTo x (k + 1) = (layTo x k && layOk x k) := by simp [layTo, List.range_succ, List.all_append]
theorem partB_bad {x : PartD} {k : Nat} (hk : k < x.fLayers.length) (h : layOk x k = false) : partB x = false := by
  have : layTo x x.fLayers.length = false := by
    unfold layTo
    rw [List.all_eq_false]
    exact ⟨k, List.mem_range.2 hk, by simp [h]⟩
  simp [partB, this]
theorem layOk_of (x : PartD) (i : Nat) (h : i < x.fLayers.length) (y : LayerD) (hy : x.fLayers[i] = y) : layOk x i = (decide (0 ≤ layI y.fName) && offersF (faceN x i) (needI (layI y.fName)) && cntB y) := by
  unfold layOk
  rw [List.getD_eq_getElem?_getD, List.getElem?_eq_getElem h, Option.getD_some, hy]
theorem faceN_take (c : CoreD) (l : List LayerD) (i : Nat) (h : i ≤ l.length) : faceP ⟨c, l.take i⟩ = faceN ⟨c, l⟩ i := by
  unfold faceP
  rw [show (⟨c, l.take i⟩ : PartD).fLayers.length = i by simp; omega]
  cases i with
  | zero => rfl
  | succ i =>
    unfold faceN
    simp only [List.getD_eq_getElem?_getD]
    rw [List.getElem?_take_of_lt (by omega)]
set_option maxRecDepth 100000 in
set_option maxHeartbeats 1600000 in
theorem insideOf_c (k : ByteArray) (on br : Bool) (ca sa : Option Addr) (cn cc sn sc : Nat) (ct : Int) (i : Nat) (w : World) (hi : i ≤ sc) (hs : i ≤ maxLen) :
    Calls Try.prog 84 #[.agg #[.string k, .bool on, .bool br, .slice ca cn cc, .int .i64 ct, .slice sa sn sc], .int .i64 i] w fun e w' => e = .returned (.agg #[.string k, .bool on, .bool br, .slice ca cn cc, .int .i64 ct, .slice sa i sc]) ∧ Below w.heap.size w w' := by
  unfold maxLen at hs
  go_enter Try.func84, Try.ntmps84
  go_wp2_with fail
  go_region
  all_goals (try go_wp2_with fail)
  all_goals
    refine bodyPost_ret (v := .agg #[.string k, .bool on, .bool br, .slice ca cn cc, .int .i64 ct, .slice sa i sc]) (by simp [results, Try.results84, go_sem]) rfl ⟨rfl, ?_⟩
    repeat (first | with_reducible exact Below.refl _ _ | with_reducible refine Below.alloc ?_ (by simp; try omega) _ | with_reducible refine Below.drew ?_ | with_reducible refine belD ?_)
set_option maxHeartbeats 1600000 in
theorem isLayerCount_c (n : List UInt8) (c : Int) (w : World) :
    Calls Try.prog 85 #[.agg #[.string ⟨n.toArray⟩, .int .i64 c]] w fun e w' => e = .returned (.bool (cntB ⟨n, c⟩)) ∧ Below w.heap.size w w' := by
  have HN := Lib.hid (isNumber_any c)
  by_cases h0 : n = [99, 111, 117, 110, 116, 115]
  · subst h0
    have HR := Lib.hid (show cntB ⟨[99, 111, 117, 110, 116, 115], c⟩ = numB c from rfl)
    generalize numB c = b at *
    go_enter Try.func85, Try.ntmps85
    go_wp2_with (first | (go_at_call 110; (with_reducible refine (HN.out _).mono ?_); rintro e w' ⟨rfl, rfl⟩))
    go_ret
    exact ⟨ret_bool HR.out.symm, part_box w _⟩
  · by_cases h1 : n = [104, 101, 97, 114, 115]
    · subst h1
      have HR := Lib.hid (show cntB ⟨[104, 101, 97, 114, 115], c⟩ = numB c from rfl)
      generalize numB c = b at *
      clear h0
      go_enter Try.func85, Try.ntmps85
      go_wp2_with (first | (go_at_call 110; (with_reducible refine (HN.out _).mono ?_); rintro e w' ⟨rfl, rfl⟩))
      go_ret
      exact ⟨ret_bool HR.out.symm, part_box w _⟩
    · have HR := Lib.hid (show cntB ⟨n, c⟩ = (c == 0) by unfold cntB countedB; simp [h0, h1])
      have g0 : (n == [99, 111, 117, 110, 116, 115]) = false := by simp [h0]
      have g1 : (n == [104, 101, 97, 114, 115]) = false := by simp [h1]
      clear h0 h1
      go_enter Try.func85, Try.ntmps85
      go_wp2_with (first | (go_at_call 110; (with_reducible refine (HN.out _).mono ?_); rintro e w' ⟨rfl, rfl⟩))
      go_ret
      exact ⟨ret_bool HR.out.symm, part_box w _⟩
end Go.Proofs.Ytlkpinlkbikokaa
/- Contracts of chapter 4: IsPart, the program's. -/
namespace Go.Proofs.Ytlkpinlkbikokaa
set_option linter.unusedVariables false
set_option linter.unusedSimpArgs false
open Go.RowKit
set_option maxRecDepth 100000 in
set_option maxHeartbeats 3200000 in
theorem implIsPart_any (v : Value) (x : PartD) (w : World) (hx : ValAt rPart 0 w v x) (hs : ∀ c ∈ x.fCore.fCells, c.fKey.length ≤ maxLen) :
    Calls Try.prog 45 #[v] w fun e w' => e = .returned (.bool (partB x)) ∧ Below w.heap.size w w' := by
  obtain ⟨_, rfl, hx⟩ := hx
  have HX := Lib.hid hx
  have HBAD := Lib.hid (fun k => partB_bad (x := x) (k := k))
  have HOK := Lib.hid (fun i h y hy => layOk_of x i h y hy)
  have HSU := Lib.hid (layTo_succ x)
  have HFN := Lib.hid (faceN_take x.fCore x.fLayers)
  have HP := Lib.hid (show partB x = (coreB x.fCore && decide (x.fLayers.length ≤ 3) && layTo x x.fLayers.length) from rfl)
  obtain ⟨xc, ls⟩ := x
  obtain ⟨v3, v5, rfl, h3, h5⟩ := hx
  have HC := Lib.hid (fun W (hb : Below w.heap.size w W) => implIsCore_any (vCore xc v3) xc W ⟨v3, rfl, FlatAt.below (flatAt_of_slice cCell_len (by decide) h3) hb (Nat.le_refl _)⟩ hs)
  obtain ⟨a0, a1, a2, a3, a4⟩ := xc
  unfold vCore at HC
  simp only at h3 h5 HX HC HP HFN HBAD HOK
  obtain ⟨ra, rc, rfl, _⟩ := sliceAt_len h3
  obtain ⟨sa, sc, rfl, hl, hcap⟩ := sliceAt_cap h5
  have H5 := Lib.hid h5
  have H3 := Lib.hid h3
  unfold maxLen at hl
  have HB0 := Lib.hid (show ∀ o, Below w.heap.size w (w.alloc o) from fun o => part_box w o)
  have HS0 := Lib.hid (Bx.new w [.string ⟨a0.toArray⟩, .bool a1, .bool a2, .slice ra a3.length rc, .int .i64 a4, .slice sa ls.length sc] 34)
  clear h3 h5
  have HPB := Lib.hid (show partB ⟨⟨a0, a1, a2, a3, a4⟩, ls⟩ = partB ⟨⟨a0, a1, a2, a3, a4⟩, ls⟩ from rfl)
  generalize partB ⟨⟨a0, a1, a2, a3, a4⟩, ls⟩ = pb at *
  have HCB := Lib.hid (show coreB ⟨a0, a1, a2, a3, a4⟩ = coreB ⟨a0, a1, a2, a3, a4⟩ from rfl)
  generalize coreB ⟨a0, a1, a2, a3, a4⟩ = cb at *
  clear HPB HCB HX
  cases cb with
  | false =>
    have HR := Lib.hid (show pb = false by rw [HP.out]; rfl)
    go_enter Try.func45, Try.ntmps45
    go_wp2_with fail
    refine (HC.out _ (HB0.out _)).mono ?_
    rintro e w1 ⟨rfl, hb⟩
    have HB := Lib.hid (belS (HB0.out _) hb)
    clear hb
    go_wp2_with fail
    go_ret
    exact ⟨ret_bool HR.out.symm, HB.out⟩
  | true =>
    by_cases h3 : 3 < ls.length
    · have HR := Lib.hid (show pb = false by rw [HP.out, show decide (ls.length ≤ 3) = false by simpa using h3]; rfl)
      go_enter Try.func45, Try.ntmps45
      go_wp2_with fail
      refine (HC.out _ (HB0.out _)).mono ?_
      rintro e w1 ⟨rfl, hb⟩
      have HB := Lib.hid (belS (HB0.out _) hb)
      have BX := Lib.hid (HS0.out.below hb)
      clear hb
      have e0 := BX.out.cell 0 (by simp)
      have e1 := BX.out.cell 1 (by simp)
      have e2 := BX.out.cell 2 (by simp)
      have e3 := BX.out.cell 3 (by simp)
      have e4 := BX.out.cell 4 (by simp)
      have e5 := BX.out.cell 5 (by simp)
      simp only [List.getElem_cons_zero, List.getElem_cons_succ] at e0 e1 e2 e3 e4 e5
      go_wp2_with fail
      go_ret
      exact ⟨ret_bool HR.out.symm, HB.out⟩
    · have HR := Lib.hid (show pb = layTo ⟨⟨a0, a1, a2, a3, a4⟩, ls⟩ ls.length by rw [HP.out, show decide (ls.length ≤ 3) = true by simpa using h3]; simp)
      go_enter Try.func45, Try.ntmps45
      go_wp2_with fail
      refine (HC.out _ (HB0.out _)).mono ?_
      rintro e w1 ⟨rfl, hb⟩
      have HB := Lib.hid (belS (HB0.out _) hb)
      have BX := Lib.hid (HS0.out.below hb)
      clear hb
      have e0 := BX.out.cell 0 (by simp)
      have e1 := BX.out.cell 1 (by simp)
      have e2 := BX.out.cell 2 (by simp)
      have e3 := BX.out.cell 3 (by simp)
      have e4 := BX.out.cell 4 (by simp)
      have e5 := BX.out.cell 5 (by simp)
      simp only [List.getElem_cons_zero, List.getElem_cons_succ] at e0 e1 e2 e3 e4 e5
      go_wp2_with fail
      clear e0 e1 e2 e3 e4 e5
      go_loopw [3, 4, 20] (fun _ _ i wr => ∃ k : Nat, k ≤ ls.length ∧ i = .int .i64 k ∧ layTo ⟨⟨a0, a1, a2, a3, a4⟩, ls⟩ k = true ∧ Below w.heap.size w wr ∧ Bx wr w.heap.size [.string ⟨a0.toArray⟩, .bool a1, .bool a2, .slice ra a3.length rc, .int .i64 a4, .slice sa ls.length sc]) (fun _ _ i _ => ls.length - (intOf i).toNat)
      case atStart => exact ⟨0, Nat.zero_le _, rfl, rfl, HB.out, BX.out⟩
      case round =>
        obtain ⟨k, hk, rfl, ht, hbr, hbx⟩ := hrel
        have HT := Lib.hid ht
        have HBr := Lib.hid hbr
        have BXr := Lib.hid hbx
        have HXr := Lib.hid (SliceAt.below H5.out (good_flat cLayer_len) hbr (Nat.le_refl _))
        clear ht hbr hbx
        by_cases hlt : k < ls.length
        · obtain ⟨b, o, cs, rfl, hbw, hat, hd⟩ := sliceAt_cell HXr.out k hlt
          have HLO := Lib.hid (HOK.out k hlt _ rfl)
          have HBD := Lib.hid (fun h => HBAD.out k hlt h)
          have HNX := Lib.hid (show layOk ⟨⟨a0, a1, a2, a3, a4⟩, ls⟩ k = true → layTo ⟨⟨a0, a1, a2, a3, a4⟩, ls⟩ (k + 1) = true from fun h => by rw [HSU.out, HT.out, h]; rfl)
          have HTK := Lib.hid (HFN.out k (Nat.le_of_lt hlt))
          have HFO := Lib.hid (fun W hW => implFaceOf_any (.agg #[.string ⟨a0.toArray⟩, .bool a1, .bool a2, .slice ra a3.length rc, .int .i64 a4, .slice (some ⟨b, o, none⟩) k sc]) ⟨⟨a0, a1, a2, a3, a4⟩, ls.take k⟩ W ⟨_, rfl, _, _, rfl, SliceAt.below H3.out (good_flat cCell_len) hW (Nat.le_refl _), sliceAt_take (SliceAt.below H5.out (good_flat cLayer_len) hW (Nat.le_refl _)) k (Nat.le_of_lt hlt) (by omega)⟩)
          rw [HTK.out] at HFO
          generalize ls[k] = z at *
          obtain ⟨z0, z1⟩ := z
          simp only [rFlat, cLayer] at hat HLO
          subst hat
          have d0 := hd 0 (by decide)
          have d1 := hd 1 (by decide)
          simp only [List.getElem?_cons_zero, List.getElem?_cons_succ, Nat.add_zero] at d0 d1
          have HLN := Lib.hid (implLayerNeeds_any ⟨z0.toArray⟩)
          simp only [ndV, List.toList_toArray] at HLN
          have HIO := Lib.hid (fun W => insideOf_c ⟨a0.toArray⟩ a1 a2 ra (some ⟨b, o, none⟩) a3.length rc ls.length sc a4 k W (by omega) (by unfold maxLen; omega))
          have HOF := Lib.hid (implOffers_any (faceN ⟨⟨a0, a1, a2, a3, a4⟩, ls⟩ k) (needI (layI z0)))
          have HIL := Lib.hid (isLayerCount_c z0 z1)
          have hkc : (k : Int) < (ls.length : Int) := by omega
          generalize layOk ⟨⟨a0, a1, a2, a3, a4⟩, ls⟩ k = lo at *
          generalize faceN ⟨⟨a0, a1, a2, a3, a4⟩, ls⟩ k = fc at *
          generalize needI (layI z0) = nd at *
          generalize offersF fc nd = ob at *
          generalize cntB ⟨z0, z1⟩ = cn at *
          generalize hge : decide (0 ≤ layI z0) = q at *
          clear hd hge HXr HTK
          have HW0 := Lib.hid (part_box wr (.cells #[.string ⟨z0.toArray⟩, .int .i64 z1] 80))
          have BL := Lib.hid (Bx.new wr [.string ⟨z0.toArray⟩, .int .i64 z1] 80)
          have BX1 := Lib.hid (BXr.out.alloc (.cells #[.string ⟨z0.toArray⟩, .int .i64 z1] 80))
          have HB1 := Lib.hid (belS HBr.out HW0.out)
          have e0 := BX1.out.cell 0 (by simp)
          have e1 := BX1.out.cell 1 (by simp)
          have e2 := BX1.out.cell 2 (by simp)
          have e3 := BX1.out.cell 3 (by simp)
          have e4 := BX1.out.cell 4 (by simp)
          have e5 := BX1.out.cell 5 (by simp)
          simp only [List.getElem_cons_zero, List.getElem_cons_succ] at e0 e1 e2 e3 e4 e5
          cases q with
          | false =>
            have HR2 := Lib.hid (show pb = false from HBD.out (by rw [HLO.out]; rfl))
            go_wp2_with (first | (go_at_call 44; (with_reducible refine (HLN.out _).mono ?_); rintro e w' ⟨rfl, rfl⟩))
            go_ret
            exact ⟨ret_bool HR2.out.symm, HB1.out⟩
          | true =>
            go_wp2_with (first | (go_at_call 44; (with_reducible refine (HLN.out _).mono ?_); rintro e w' ⟨rfl, rfl⟩))
            refine (HIO.out _).mono ?_
            rintro e w2 ⟨rfl, hb⟩
            have HB2 := Lib.hid (belS HB1.out hb)
            have BL2 := Lib.hid (BL.out.below hb)
            have BX2 := Lib.hid (BX1.out.below hb)
            clear hb
            clear e0 e1 e2 e3 e4 e5
            go_wp2_with fail
            refine (HFO.out _ HB2.out).mono ?_
            rintro e w3 ⟨rfl, hb⟩
            have HB3 := Lib.hid (belS HB2.out hb)
            have BL3 := Lib.hid (BL2.out.below hb)
            have BX3 := Lib.hid (BX2.out.below hb)
            clear hb
            have g0 := BL3.out.cell 0 (by simp)
            have g1 := BL3.out.cell 1 (by simp)
            simp only [List.getElem_cons_zero, List.getElem_cons_succ] at g0 g1
            cases ob with
            | false =>
              have HR2 := Lib.hid (show pb = false from HBD.out (by rw [HLO.out]; rfl))
              go_wp2_with (first | (go_at_call 83; (with_reducible refine (HOF.out _).mono ?_); rintro e w' ⟨rfl, rfl⟩))
              go_ret
              exact ⟨ret_bool HR2.out.symm, HB3.out⟩
            | true =>
              go_wp2_with (first | (go_at_call 83; (with_reducible refine (HOF.out _).mono ?_); rintro e w' ⟨rfl, rfl⟩))
              refine (HIL.out _).mono ?_
              rintro e w4 ⟨rfl, hb⟩
              have HB4 := Lib.hid (belS HB3.out hb)
              have BX4 := Lib.hid (BX3.out.below hb)
              clear hb g0 g1
              cases cn with
              | false =>
                have HR2 := Lib.hid (show pb = false from HBD.out (by rw [HLO.out]; rfl))
                go_wp2_with fail
                go_ret
                exact ⟨ret_bool HR2.out.symm, HB4.out⟩
              | true =>
                have HR2 := Lib.hid (HNX.out (by rw [HLO.out]; rfl))
                go_wp2_with fail
                exact ⟨⟨k + 1, by omega, by go_num, HR2.out, HB4.out, BX4.out⟩, by simp [intOf]; omega⟩
        · have HR2 := Lib.hid (show pb = true by rw [HR.out]; have h := HT.out; rwa [show k = ls.length by omega] at h)
          go_wp2
          go_ret
          exact ⟨ret_bool HR2.out.symm, HBr.out⟩
end Go.Proofs.Ytlkpinlkbikokaa
/- Parts whose rows are one's own. -/
namespace Go.Proofs.Ytlkpinlkbikokaa
set_option linter.unusedVariables false
set_option linter.unusedSimpArgs false
open Go.RowKit
theorem Bx.grown {w w' : World} {b : Nat} {cs : List Value} {r : Option Nat} (h : Bx w b cs) (hg : w.grownBy w' r) (hr : r ≠ some b) : Bx w' b cs :=
  ⟨Nat.lt_of_lt_of_le h.lt hg.size, fun j hj => (World.cell?_of_block (hg.block b h.lt (fun e => hr e.symm))).trans (h.cell j hj), fun j hj => (World.frozen?_of_block (hg.block b h.lt (fun e => hr e.symm))).trans (h.froz j hj)⟩
theorem Bx.belowK {w w' : World} {b B : Nat} {cs : List Value} (h : Bx w b cs) (hb : Below B w w') (hB : b < B) : Bx w' b cs :=
  ⟨Nat.lt_of_lt_of_le h.lt hb.size, fun j hj => (World.cell?_of_block (hb.block b hB)).trans (h.cell j hj), fun j hj => (World.frozen?_of_block (hb.block b hB)).trans (h.froz j hj)⟩
/-- six cells stored, one behind the other -/
theorem Bx.put6 {w : World} {b : Nat} {c0 c1 c2 c3 c4 c5 : Value} (h : Bx w b [c0, c1, c2, c3, c4, c5]) (u0 u1 u2 u3 u4 u5 : Value) :
    Bx ((((((w.setCell ⟨b, 0, none⟩ u0).setCell ⟨b, 1, none⟩ u1).setCell ⟨b, 2, none⟩ u2).setCell ⟨b, 3, none⟩ u3).setCell ⟨b, 4, none⟩ u4).setCell ⟨b, 5, none⟩ u5) b [u0, u1, u2, u3, u4, u5] :=
  ((((((h.set 0 (by simp) u0).set 1 (by simp) u1).set 2 (by simp) u2).set 3 (by simp) u3).set 4 (by simp) u4).set 5 (by simp) u5)
theorem below_put6 {B : Nat} {a w : World} (h : Below B a w) (b : Nat) (hb : B ≤ b) (u0 u1 u2 u3 u4 u5 : Value) :
    Below B a ((((((w.setCell ⟨b, 0, none⟩ u0).setCell ⟨b, 1, none⟩ u1).setCell ⟨b, 2, none⟩ u2).setCell ⟨b, 3, none⟩ u3).setCell ⟨b, 4, none⟩ u4).setCell ⟨b, 5, none⟩ u5) :=
  ((((((h.setCell (p := ⟨b, 0, none⟩) hb u0).setCell (p := ⟨b, 1, none⟩) hb u1).setCell (p := ⟨b, 2, none⟩) hb u2).setCell (p := ⟨b, 3, none⟩) hb u3).setCell (p := ⟨b, 4, none⟩) hb u4).setCell (p := ⟨b, 5, none⟩) hb u5)
theorem ownsF_put6 {α : Type} {f : α → List Value} {E k : Nat} {w : World} {B : Nat} {v : Value} {l : List α} (h : OwnsF f E k w B v l) (b : Nat) (hb : b < B) (u0 u1 u2 u3 u4 u5 : Value) :
    OwnsF f E k ((((((w.setCell ⟨b, 0, none⟩ u0).setCell ⟨b, 1, none⟩ u1).setCell ⟨b, 2, none⟩ u2).setCell ⟨b, 3, none⟩ u3).setCell ⟨b, 4, none⟩ u4).setCell ⟨b, 5, none⟩ u5) B v l :=
  ownsF_set (ownsF_set (ownsF_set (ownsF_set (ownsF_set (ownsF_set h hb) hb) hb) hb) hb) hb
theorem Bx.dr {w : World} {b : Nat} {cs : List Value} (h : Bx w b cs) : Bx w.drew b cs := ⟨h.lt, h.cell, h.froz⟩
/-- a part in cells, whose rows are one's own and lie in blocks from B on -/
def oPart (w : World) (B : Nat) (cs : List Value) (x : PartD) : Prop := ∃ v3 v5, cs = [.string ⟨x.fCore.fKind.toArray⟩, .bool x.fCore.fOn, .bool x.fCore.fBroken, v3, .int .i64 x.fCore.fCount, v5] ∧ OwnsF cCell 146 2 w B v3 x.fCore.fCells ∧ OwnsF cLayer 80 2 w B v5 x.fLayers
/-- sizes that no copy outgrows -/
structure SmallP (x : PartD) : Prop where
  z : zPart x ≤ 1048576
  kind : x.fCore.fKind.length ≤ 1048576
  cells : x.fCore.fCells.length ≤ 2097152
  keys : ∀ c ∈ x.fCore.fCells, c.fKey.length ≤ 1048576
  lays : x.fLayers.length ≤ 2097152
  names : ∀ y ∈ x.fLayers, y.fName.length ≤ 1048576
theorem smallP_of {x : PartD} (h : zPart x ≤ 1048576) : SmallP x := by
  unfold zPart zCore at h
  refine ⟨by unfold zPart zCore; exact h, by omega, by omega, fun c hc => ?_, by omega, fun y hy => ?_⟩
  · have := sumF_mem zCell x.fCore.fCells c hc
    have h2 : c.fKey.length ≤ zCell c := by unfold zCell; omega
    omega
  · have := sumF_mem zLayer x.fLayers y hy
    have h2 : y.fName.length ≤ zLayer y := by unfold zLayer; omega
    omega
def GivesOP (x : PartD) (w : World) (e : Ending) (w' : World) : Prop := ∃ cs, e = .returned (.agg cs.toArray) ∧ oPart w' w.heap.size cs x ∧ Below w.heap.size w w'
theorem oPart_r {w : World} {B : Nat} {cs : List Value} {x : PartD} (h : oPart w B cs x) (hs : SmallP x) : rPart B w cs x := by
  obtain ⟨v3, v5, rfl, h3, h5⟩ := h
  exact ⟨v3, v5, rfl, sliceAt_of_owns cCell_len h3 (Nat.le_trans hs.cells (by decide)), sliceAt_of_owns cLayer_len h5 (Nat.le_trans hs.lays (by decide))⟩
theorem oPart_below {w w' : World} {B B' : Nat} {cs : List Value} {x : PartD} (h : oPart w B cs x) (hb : Below B' w w') (hB : w.heap.size ≤ B') : oPart w' B cs x := by
  obtain ⟨v3, v5, rfl, h3, h5⟩ := h
  exact ⟨v3, v5, rfl, ownsF_below h3 hb hB, ownsF_below h5 hb hB⟩
theorem oPart_base {w : World} {B B' : Nat} {cs : List Value} {x : PartD} (h : oPart w B cs x) (hB : B' ≤ B) : oPart w B' cs x := by
  obtain ⟨v3, v5, rfl, h3, h5⟩ := h
  exact ⟨v3, v5, rfl, ownsF_base h3 hB, ownsF_base h5 hB⟩
theorem oPart_set {w : World} {B : Nat} {cs : List Value} {x : PartD} {p : Addr} {u : Value} (h : oPart w B cs x) (hp : p.block < B) : oPart (w.setCell p u) B cs x := by
  obtain ⟨v3, v5, rfl, h3, h5⟩ := h
  exact ⟨v3, v5, rfl, ownsF_set h3 hp, ownsF_set h5 hp⟩
theorem oPart_drew {w : World} {B : Nat} {cs : List Value} {x : PartD} (h : oPart w B cs x) : oPart w.drew B cs x := h
theorem infoLay : (Try.prog.info? 80).map (fun i => (i.zero, i.size, i.bytes)) = some (some (.agg #[.string ⟨#[]⟩, .int .i64 0]), 2, 24) := by kernel_rfl
/-- append of one layer to a row of one's own, at a step of a region that draws -/
theorem step_lays {ops : Array Oper} {o : Oper} {a : Act} {K : Act → World → Prop} {Q : Exit → Act → World → Prop} {E : Prop} (hgd : o.guard = none) (s x : Operand)
    (ho : o.op = .call { callee := .builtin .append, args := #[s, x], argTypes := #[32, 32] }) (B : Nat) (v : Value) (l : List LayerD) (y : LayerD) (w : World) (blk : Nat)
    (hs : a.eval s = v) (hO : OwnsF cLayer 80 2 w B v l) (hx : a.eval x = .slice (some ⟨blk, 0, none⟩) 1 1) (hc : ∀ j, j < 2 → w.cell? ⟨blk, j, none⟩ = (cLayer y)[j]?) (hl : l.length ≤ 4194304) (hB : B ≤ w.heap.size)
    (h : ∀ v' w', OwnsF cLayer 80 2 w' B v' (l ++ [y]) → w.grownBy w' v.ownBlock → K (a.put o.dst v') w') : if Region.wanted o (yielded ops a.tmps) = true then Oper.wp Try.prog o a w K Q else E := by
  obtain ⟨i0, hi, hz0, hz1, hz2⟩ := info_parts infoLay
  refine step_append_lies w hgd s x 32 ho B 80 i0 _ 2 24 Try.underlying32 hi hz0 hz1 hz2 rfl (by decide) v l.length (l.flatMap cLayer) hs hO ⟨blk, 0, none⟩ 1 1 (cLayer y) hx rfl ?_ (cLayer_one y) (by decide) (by unfold maxLen; omega) (by omega) hB _ rfl ?_
  · intro j u hj
    have hj2 : j < 2 := (List.getElem?_eq_some_iff.1 hj).1
    rw [Addr.add_lit, Nat.zero_add, hc j hj2]; exact hj
  · intro g cap w' h1 h2 _ _
    refine h _ w' ?_ h2
    unfold OwnsF; rw [List.flatMap_append, List.length_append]; simpa using h1
theorem cell_newL (w : World) (y : LayerD) (blk : Nat) (h : blk = w.heap.size) : ∀ j, j < 2 → (w.alloc (.cells #[.string ⟨y.fName.toArray⟩, .int .i64 y.fCount] 80)).cell? ⟨blk, j, none⟩ = (cLayer y)[j]? := by
  intro j hj
  subst h
  rw [cell_of_row _ _ _ _ 80 (0, 0) (heap_alloc_new w _)]
  rcases (show j = 0 ∨ j = 1 by omega) with rfl | rfl <;> rfl
end Go.Proofs.Ytlkpinlkbikokaa
/- One-valued assertions to interface types: where the methods are there, and where one is missing (a panic). -/
namespace Go.Proofs.Ytlkpinlkbikokaa
set_option linter.unusedVariables false
open Go.RowKit
section
variable {P : Program} {t xT asserted E : TypeId} {want : Array (String × TypeId)}
theorem ta_has (hu : P.underlying asserted = some (.interface want)) (h : (P.info? t).map (fun i => (lacking want i.methods).isEmpty) = some true)
    (v : Value) (xT : TypeId) (w : World) : (Instr.typeAssert (.iface t v) xT asserted false).run P w = .ok (.iface t v) w := by
  obtain ⟨i, hi, hl⟩ := Option.map_eq_some_iff.1 h
  simp [Instr.typeAssert, run_underlying hu, typeInfo, hi, missingMethod_none (List.isEmpty_iff.1 hl)]
theorem ta_lacks (hu : P.underlying asserted = some (.interface want)) (h : (P.info? t).map (fun i => (lacking want i.methods).isEmpty) = some false) (hE : P.underlying P.rt.typeAssertionError = some (.pointer E)) :
    ∃ c : Array Value, ∀ (v : Value) (xT : TypeId) (w : World), (Instr.typeAssert (.iface t v) xT asserted false).run P w = .halt (.panic (.iface P.rt.typeAssertionError (.pointer (some ⟨w.heap.size, 0, none⟩)))) (w.alloc (.cells c E)) := by
  obtain ⟨i, hi, hl⟩ := Option.map_eq_some_iff.1 h
  obtain ⟨m, hm⟩ := missingMethod_some (want := want) (got := i.methods) (fun e => by rw [e] at hl; cases hl)
  refine ⟨#[.pointer none, typeHandle P t, typeHandle P asserted, strVal m], fun v xT w => ?_⟩
  simp [Instr.typeAssert, run_underlying hu, typeInfo, hi, hm, runtimePanic, elemOf, run_underlying hE, newVar, newRow, Value.cells, goPanic]

end
theorem cell_set_at {w : World} {b o : Nat} {u : Value} (hb : (w.cell? ⟨b, o, none⟩).isSome = true) : (w.setCell ⟨b, o, none⟩ u).cell? ⟨b, o, none⟩ = some u := by
  obtain ⟨x, hx⟩ := Option.isSome_iff_exists.1 hb
  exact World.cell?_setCell_same w _ _ hx
theorem cell_set_ne {w : World} {b i j : Nat} {u : Value} (h : i ≠ j) : (w.setCell ⟨b, i, none⟩ u).cell? ⟨b, j, none⟩ = w.cell? ⟨b, j, none⟩ := World.cell?_setCell_other (a := ⟨b, i, none⟩) (b := ⟨b, j, none⟩) (h := fun e => h (by injection e)) ..
theorem rtE : ∃ E, Try.prog.underlying Try.prog.rt.typeAssertionError = some (.pointer E) := ⟨210, by kernel_rfl⟩
def Has (I T : TypeId) : Prop := ∀ (v : Value) (xT : TypeId) (w : World), (Instr.typeAssert (.iface T v) xT I false).run Try.prog w = .ok (.iface T v) w
def Fails (I T : TypeId) : Prop := ∃ (c : Array Value) (E : TypeId), ∀ (v : Value) (xT : TypeId) (w : World), (Instr.typeAssert (.iface T v) xT I false).run Try.prog w = .halt (.panic (.iface Try.prog.rt.typeAssertionError (.pointer (some ⟨w.heap.size, 0, none⟩)))) (w.alloc (.cells c E))
theorem fails_of {I T : TypeId} {want : Array (String × TypeId)} (hu : Try.prog.underlying I = some (.interface want)) (h : (Try.prog.info? T).map (fun i => (lacking want i.methods).isEmpty) = some false) : Fails I T := by
  obtain ⟨E, hE⟩ := rtE
  obtain ⟨c, hc⟩ := ta_lacks (t := T) hu h hE
  exact ⟨c, E, hc⟩
def Panics (w : World) (e : Ending) (w' : World) : Prop := ∃ pv, e = .panicked [{ v := .iface Try.prog.rt.typeAssertionError pv, recovered := false }] ∧ Below w.heap.size w w'
end Go.Proofs.Ytlkpinlkbikokaa
/- The library's contracts of strings.Builder, laid at this program's numbers. -/
namespace Go.Proofs.Ytlkpinlkbikokaa
set_option linter.unusedVariables false
open Go.Shelf Go.RowKit
def bRen : Go.Shelf.Ren := ⟨fun | 167 => 113 | 240 => 120 | 276 => 121 | 169 => 87 | n => n, fun | 9 => 9 | 0 => 0 | 72 => 128 | 70 => 125 | 37 => 126 | 127 => 156 | 3 => 3 | 4 => 4 | 5 => 5 | 20 => 20 | 75 => 154 | 80 => 130 | 164 => 207 | n => n, fun | n => n⟩
theorem bLays240 : Go.Proofs.Lays.n240 Try.prog bRen := {
  mixed := by kernel_rfl
  f240 := Try.func120.trans (congrArg some (by kernel_rfl))
  f276 := Try.func121.trans (congrArg some (by kernel_rfl))
  t0 := Try.underlying0
  a0 := Try.isAgg0
  z0 := Try.sizeOf0
  v0 := Try.zeroValue0
  t4 := Try.underlying4
  a4 := Try.isAgg4
  z4 := Try.sizeOf4
  v4 := Try.zeroValue4
  t9 := Try.underlying9
  a9 := Try.isAgg9
  z9 := Try.sizeOf9
  v9 := Try.zeroValue9
  t20 := Try.underlying20
  a20 := Try.isAgg20
  z20 := Try.sizeOf20
  v20 := Try.zeroValue20
  t70 := Try.underlying125
  a70 := Try.isAgg125
  z70 := Try.sizeOf125
  v70 := Try.zeroValue125
  t72 := Try.underlying128
  a72 := Try.isAgg128
  z72 := Try.sizeOf128
  v72 := Try.zeroValue128
  t164 := Try.underlying207
  a164 := Try.isAgg207
  z164 := Try.sizeOf207
  v164 := Try.zeroValue207 }
theorem bLays167 : Go.Proofs.Lays.n167 Try.prog bRen := {
  mixed := by kernel_rfl
  f167 := Try.func113.trans (congrArg some (by kernel_rfl))
  f240 := Try.func120.trans (congrArg some (by kernel_rfl))
  f276 := Try.func121.trans (congrArg some (by kernel_rfl))
  t0 := Try.underlying0
  a0 := Try.isAgg0
  z0 := Try.sizeOf0
  v0 := Try.zeroValue0
  t4 := Try.underlying4
  a4 := Try.isAgg4
  z4 := Try.sizeOf4
  v4 := Try.zeroValue4
  t5 := Try.underlying5
  a5 := Try.isAgg5
  z5 := Try.sizeOf5
  v5 := Try.zeroValue5
  t9 := Try.underlying9
  a9 := Try.isAgg9
  z9 := Try.sizeOf9
  v9 := Try.zeroValue9
  t20 := Try.underlying20
  a20 := Try.isAgg20
  z20 := Try.sizeOf20
  v20 := Try.zeroValue20
  t37 := Try.underlying126
  a37 := Try.isAgg126
  z37 := Try.sizeOf126
  v37 := Try.zeroValue126
  t70 := Try.underlying125
  a70 := Try.isAgg125
  z70 := Try.sizeOf125
  v70 := Try.zeroValue125
  t72 := Try.underlying128
  a72 := Try.isAgg128
  z72 := Try.sizeOf128
  v72 := Try.zeroValue128
  t75 := Try.underlying154
  a75 := Try.isAgg154
  z75 := Try.sizeOf154
  v75 := Try.zeroValue154
  t164 := Try.underlying207
  a164 := Try.isAgg207
  z164 := Try.sizeOf207
  v164 := Try.zeroValue207 }
theorem bLays169 : Go.Proofs.Lays.n169 Try.prog bRen := {
  mixed := by kernel_rfl
  f169 := Try.func87.trans (congrArg some (by kernel_rfl))
  t0 := Try.underlying0
  a0 := Try.isAgg0
  z0 := Try.sizeOf0
  v0 := Try.zeroValue0
  t3 := Try.underlying3
  a3 := Try.isAgg3
  z3 := Try.sizeOf3
  v3 := Try.zeroValue3
  t9 := Try.underlying9
  a9 := Try.isAgg9
  z9 := Try.sizeOf9
  v9 := Try.zeroValue9
  t37 := Try.underlying126
  a37 := Try.isAgg126
  z37 := Try.sizeOf126
  v37 := Try.zeroValue126
  t70 := Try.underlying125
  a70 := Try.isAgg125
  z70 := Try.sizeOf125
  v70 := Try.zeroValue125
  t72 := Try.underlying128
  a72 := Try.isAgg128
  z72 := Try.sizeOf128
  v72 := Try.zeroValue128
  t127 := Try.underlying156
  a127 := Try.isAgg156
  z127 := Try.sizeOf156
  v127 := Try.zeroValue156 }
theorem bExtra : Builder.Extra Try.prog bRen := {
  sizeBuilder := by kernel_rfl
  liesBuilder := by kernel_rfl
  t5 := Try.underlying5
  a5 := Try.isAgg5
  z5 := Try.sizeOf5
  v5 := Try.zeroValue5
  infoByte := by kernel_rfl
  cellsByte := by kernel_rfl
  sizeByte := by kernel_rfl
  neB5 := by decide }
theorem writeByte_k (B b : Nat) (bs : List Value) (c : Int) (w : World) (h : Lib.IsBuilderF 128 5 B b bs w) (hlen : bs.length + 1 ≤ 140737488355328) (hBw : B ≤ w.heap.size) :
    Calls Try.prog 113 #[.pointer (some ⟨b, 0, none⟩), .int .u8 c] w fun e w' => e = .returned .nilIface ∧ (Lib.BuilderAtF 128 5 B b (.pointer (some ⟨b, 0, none⟩)) (bs ++ [.int .u8 c]) w' ∧ Below B w w' ∧ Lib.OthersKept 5 (some b) w w') :=
  Any.Builder_WriteByte_k bLays167 bExtra B b bs c w h hlen hBw
theorem string_k (B b : Nat) (l : List UInt8) (w : World) (h : Lib.IsBuilderF 128 5 B b (Lib.byteCells l) w) (hBw : B ≤ w.heap.size) :
    Calls Try.prog 87 #[.pointer (some ⟨b, 0, none⟩)] w fun e w' => e = .returned (.string ⟨l.toArray⟩) ∧ (Lib.IsBuilderF 128 5 B b (Lib.byteCells l) w' ∧ Below B w w' ∧ Lib.OthersKept 5 (some b) w w') :=
  Any.Builder_String_any_k bLays169 bExtra B b l w h hBw
end Go.Proofs.Ytlkpinlkbikokaa
/- Contracts of the program's FormatNumber. -/
namespace Go.Proofs.Ytlkpinlkbikokaa
set_option linter.unusedVariables false
open Go.RowKit
theorem byteCells_one (x : UInt8) : Lib.byteCells [x] = [.int .u8 (x.toNat : Int)] := rfl
theorem bytes_more {T e : TypeId} {B b : Nat} {p : Value} {bs : List UInt8} {c : Int} {w : World} (h0 : 0 ≤ c) (h1 : c ≤ 255) (h : Lib.BuilderAtF T e B b p (Lib.byteCells bs ++ [.int .u8 c]) w) : Lib.BuilderAtF T e B b p (Lib.byteCells (bs ++ [UInt8.ofNat c.toNat])) w := by
  rw [Lib.byteCells_append, byteCells_one, show ((UInt8.ofNat c.toNat).toNat : Int) = c from by simp; omega]
  exact h
theorem wrap_neg (n : Int) (h : -9223372036854775808 ≤ n) (h' : n < 0) : IntKind.u64.wrap (-IntKind.u64.wrap n) = -n := by
  simp only [IntKind.wrap, IntKind.bits, IntKind.signed]; simp; omega
end Go.Proofs.Ytlkpinlkbikokaa
/- JoinWith, the model's and the program's; the program's writeText and copyText. -/
namespace Go.Proofs.Ytlkpinlkbikokaa
set_option linter.unusedVariables false
open Go.RowKit
/-- the first k texts with sep between them -/
def joinK (x : List (List UInt8)) (sep : List UInt8) : Nat → List UInt8
  | 0 => []
  | k + 1 => joinK x sep k ++ (if 0 < k then sep else []) ++ x.getD k []
def joinL (x : List (List UInt8)) (sep : List UInt8) : List UInt8 := joinK x sep x.length
theorem strEq {s : ByteArray} {l : List UInt8} (h : s.data.toList = l) : Value.string s = .string ⟨l.toArray⟩ := by subst h; simp
theorem joinK_mono (x : List (List UInt8)) (sep : List UInt8) (k m : Nat) (h : k ≤ m) : (joinK x sep k).length ≤ (joinK x sep m).length := by
  induction m with
  | zero => rw [show k = 0 from by omega]; exact Nat.le_refl _
  | succ m ih =>
    rcases Nat.lt_or_ge m k with h1 | h1
    · rw [show k = m + 1 from by omega]; exact Nat.le_refl _
    · have := ih h1; simp only [joinK, List.length_append]; omega
theorem joinK_len (x : List (List UInt8)) (sep : List UInt8) (k : Nat) (h : k ≤ x.length) : (joinK x sep k).length ≤ k * sep.length + total (x.take k) := by
  induction k with
  | zero => simp [joinK]
  | succ k ih =>
    have h1 := ih (by omega)
    have h2 := total_take_succ x k (by omega)
    have h3 : x.getD k [] = x[k] := by simp [List.getD, List.getElem?_eq_getElem (show k < x.length by omega)]
    simp only [joinK, List.length_append, h3, h2, Nat.succ_mul]
    split <;> simp <;> omega
set_option maxHeartbeats 400000 in
theorem writeText_any (B b : Nat) (bs : List UInt8) (s : ByteArray) (w : World) (hI : Lib.IsBuilderF 128 5 B b (Lib.byteCells bs) w) (hl : bs.length + s.size ≤ 140737488355328) (hB : B ≤ w.heap.size) :
    Calls Try.prog 86 #[.pointer (some ⟨b, 0, none⟩), .string s] w fun e w' => e = .returned (.tuple #[]) ∧ Lib.IsBuilderF 128 5 B b (Lib.byteCells (bs ++ s.data.toList)) w' ∧ Below B w w' ∧ Lib.OthersKept 5 (some b) w w' := by
  have HI := Lib.hid hI
  have HB := Lib.hid hB
  clear hI hB
  go_enter Try.func86, Try.ntmps86
  go_wp2_with fail
  go_loopw [4, 7] (fun _ i wr => ∃ k : Nat, k ≤ s.size ∧ i = .int .i64 k ∧ Lib.IsBuilderF 128 5 B b (Lib.byteCells (bs ++ s.data.toList.take k)) wr ∧ Below B w wr ∧ Lib.OthersKept 5 (some b) w wr) (fun _ i _ => s.size - (intOf i).toNat)
  case atStart => exact ⟨0, Nat.zero_le _, rfl, by simpa using HI.out, Below.refl _ _, Lib.OthersKept.refl _ _ _⟩
  case round =>
    obtain ⟨k, hk, rfl, hI, hb, ho⟩ := hrel
    have HI2 := Lib.hid hI
    have HB2 := Lib.hid hb
    have HO2 := Lib.hid ho
    clear hI hb ho
    by_cases hlt : k < s.size
    · have hu := (s[k]).toNat_lt
      have HN := Lib.hid (take_snoc s k hlt)
      go_wp2_with fail
      refine (writeByte_k B b (Lib.byteCells (bs ++ s.data.toList.take k)) _ wr HI2.out (by rw [Lib.byteCells_length]; simp; omega) (Nat.le_trans HB.out HB2.out.size)).mono ?_
      rintro e w1 ⟨rfl, h1, b1, o1⟩
      have H1 := Lib.hid (bytes_more (by omega) (by omega) h1)
      have B1 := Lib.hid (HB2.out.trans b1)
      have O1 := Lib.hid (HO2.out.trans o1)
      clear h1 b1 o1
      go_wp2_with fail
      refine ⟨⟨k + 1, by omega, by go_num, Or.inr ?_, B1.out, O1.out⟩, by simp [intOf]; omega⟩
      have h := H1.out
      rw [HN.out, ← List.append_assoc]
      simpa using h
    · have HN := Lib.hid (show s.data.toList.take k = s.data.toList from List.take_of_length_le (by rw [size_list]; omega))
      go_wp2_with fail
      go_end0
      exact ⟨rfl, by have h := HI2.out; rw [HN.out] at h; exact h, HB2.out, HO2.out⟩
set_option maxHeartbeats 400000 in
theorem copyText_any (s : ByteArray) (w : World) (hl : s.size ≤ 140737488355328) :
    Calls Try.prog 46 #[.string s] w fun e w' => e = .returned (.string s) ∧ Below w.heap.size w w' := by
  have hf := Lib.fresh_isBuilder 128 5 w
  have HW := Lib.hid (writeText_any w.heap.size w.heap.size [] s (w.alloc (.cells #[.pointer none, .slice none 0 0] 128)) (Lib.IsBuilderF.of hf) (by simpa using hl) (by simp))
  clear hf
  go_enter Try.func46, Try.ntmps46
  go_wp2_with fail
  refine HW.out.mono ?_
  rintro e w1 ⟨rfl, h1, b1, o1⟩
  have HS := Lib.hid (string_k w.heap.size w.heap.size ([] ++ s.data.toList) w1 h1 (by have := b1.size; simp at this; omega))
  have B1 := Lib.hid (((Below.refl w.heap.size w).alloc (Nat.le_refl _) _).trans b1)
  clear h1 b1 o1
  go_wp2_with fail
  refine HS.out.mono ?_
  rintro e w2 ⟨rfl, h2, b2, o2⟩
  go_wp2_with fail
  go_ret
  exact ⟨by simp, B1.out.trans b2⟩
end Go.Proofs.Ytlkpinlkbikokaa
/- copyCore: new cells, new texts. -/
namespace Go.Proofs.Ytlkpinlkbikokaa
set_option linter.unusedVariables false
set_option linter.unusedSimpArgs false
open Go.RowKit
/-- append of one cell to a row of one's own, at a step of a region that draws -/
theorem step_cells {ops : Array Oper} {o : Oper} {a : Act} {K : Act → World → Prop} {Q : Exit → Act → World → Prop} {E : Prop} (hgd : o.guard = none) (s x : Operand)
    (ho : o.op = .call { callee := .builtin .append, args := #[s, x], argTypes := #[29, 29] }) (B : Nat) (v : Value) (l : List CellD) (y : CellD) (w : World) (blk : Nat)
    (hs : a.eval s = v) (hO : OwnsF cCell 146 2 w B v l) (hx : a.eval x = .slice (some ⟨blk, 0, none⟩) 1 1) (hc : ∀ j, j < 2 → w.cell? ⟨blk, j, none⟩ = (cCell y)[j]?) (hl : l.length ≤ 4194304) (hB : B ≤ w.heap.size)
    (h : ∀ v' w', OwnsF cCell 146 2 w' B v' (l ++ [y]) → w.grownBy w' v.ownBlock → K (a.put o.dst v') w') : if Region.wanted o (yielded ops a.tmps) = true then Oper.wp Try.prog o a w K Q else E := by
  obtain ⟨i0, hi, hz0, hz1, hz2⟩ := info_parts cell_info
  refine step_append_lies w hgd s x 29 ho B 146 i0 _ 2 24 Try.underlying29 hi hz0 hz1 hz2 rfl (by decide) v l.length (l.flatMap cCell) hs hO ⟨blk, 0, none⟩ 1 1 (cCell y) hx rfl ?_ (cCell_one y) (by decide) (by unfold maxLen; omega) (by omega) hB _ rfl ?_
  · intro j u hj
    have hj2 : j < 2 := (List.getElem?_eq_some_iff.1 hj).1
    rw [Addr.add_lit, Nat.zero_add, hc j hj2]; exact hj
  · intro g cap w' h1 h2 _ _
    refine h _ w' ?_ h2
    unfold OwnsF; rw [List.flatMap_append, List.length_append]; simpa using h1
theorem ownsF_drew {α : Type} {f : α → List Value} {E k : Nat} {w : World} {B : Nat} {v : Value} {l : List α} (h : OwnsF f E k w B v l) : OwnsF f E k w.drew B v l := h
set_option maxRecDepth 100000 in
set_option maxHeartbeats 3200000 in
theorem copyCore_c (v : Value) (d : CoreD) (w : World) (hx : CoreAt w v d) (hm : d.fCells.length ≤ 2097152) (hs : ∀ c ∈ d.fCells, c.fKey.length ≤ 1048576) (hk : d.fKind.length ≤ 1048576) :
    Calls Try.prog 81 #[v] w fun e w' => GivesCore d w e w' := by
  obtain ⟨cv, rfl, hx⟩ := hx
  obtain ⟨i0, hi, hz0, hz1, hz2⟩ := info_parts cell_info
  obtain ⟨kd, on, br, l, cnt⟩ := d
  unfold vCore
  simp only at *
  obtain ⟨a, c, rfl, hl⟩ := flatAt_len hx
  have HX := Lib.hid hx
  have HS := Lib.hid hs
  clear hx hs
  unfold maxLen at hl
  have HB0 := Lib.hid (show ∀ o1 o2, Below w.heap.size w ((w.alloc o1).alloc o2) from fun o1 o2 => ((Below.refl _ _).alloc (Nat.le_refl _) _).alloc (by simp) _)
  have HKD := Lib.hid (fun W => copyText_any ⟨kd.toArray⟩ W (by rw [← size_list]; simp; omega))
  have hb2 : i0.bytes * l.length ≤ 281474976710656 := by rw [hz2]; omega
  have HB2 := Lib.hid hb2
  have HM := Lib.hid (show l.length ≤ maxLen from by unfold maxLen; omega)
  clear hb2
  go_enter Try.func81, Try.ntmps81
  go_wp2_with (refine wpList_make_own _ rfl _ _ 29 rfl (w.heap.size + 1 + 1) 146 i0 _ 2 Try.underlying29 hi hz0 hz1 .i64 .i64 _ l.length rfl rfl rfl HB2.out HM.out (by simp) ?_; intro w1 hown1 hgrow1; have q0 : w1.cell? ⟨w.heap.size, 0, none⟩ = some (.string ⟨kd.toArray⟩) := hgrow1.cell (a := ⟨w.heap.size, 0, none⟩) (by simp [go_sem]) (by simp); have q1 : w1.cell? ⟨w.heap.size, 1, none⟩ = some (.bool on) := hgrow1.cell (a := ⟨w.heap.size, 1, none⟩) (by simp [go_sem]) (by simp); have q2 : w1.cell? ⟨w.heap.size, 2, none⟩ = some (.bool br) := hgrow1.cell (a := ⟨w.heap.size, 2, none⟩) (by simp [go_sem]) (by simp); have q3 : w1.cell? ⟨w.heap.size, 3, none⟩ = some (.slice a l.length c) := hgrow1.cell (a := ⟨w.heap.size, 3, none⟩) (by simp [go_sem]) (by simp); have q4 : w1.cell? ⟨w.heap.size, 4, none⟩ = some (.int .i64 cnt) := hgrow1.cell (a := ⟨w.heap.size, 4, none⟩) (by simp [go_sem]) (by simp); have r0 : w1.cell? ⟨w.heap.size + 1, 0, none⟩ = some (.string ⟨#[]⟩) := hgrow1.cell (a := ⟨w.heap.size + 1, 0, none⟩) (by simp [go_sem]) (by simp); have r1 : w1.cell? ⟨w.heap.size + 1, 1, none⟩ = some (.bool false) := hgrow1.cell (a := ⟨w.heap.size + 1, 1, none⟩) (by simp [go_sem]) (by simp); have r2 : w1.cell? ⟨w.heap.size + 1, 2, none⟩ = some (.bool false) := hgrow1.cell (a := ⟨w.heap.size + 1, 2, none⟩) (by simp [go_sem]) (by simp); have r3 : w1.cell? ⟨w.heap.size + 1, 3, none⟩ = some (.slice none 0 0) := hgrow1.cell (a := ⟨w.heap.size + 1, 3, none⟩) (by simp [go_sem]) (by simp); have r4 : w1.cell? ⟨w.heap.size + 1, 4, none⟩ = some (.int .i64 0) := hgrow1.cell (a := ⟨w.heap.size + 1, 4, none⟩) (by simp [go_sem]) (by simp))
  have HO0 := Lib.hid (show OwnsF cCell 146 2 w1 (w.heap.size + 1 + 1) (.slice (some ⟨w.heap.size + 1 + 1, 0, none⟩) 0 l.length) (l.take 0) from by simpa [OwnsF] using hown1)
  have HW1 := Lib.hid (show Below w.heap.size w w1 from (HB0.out _ _).trans ⟨hgrow1.os, hgrow1.tape, hgrow1.output, hgrow1.size, fun i hi => hgrow1.block i (by simp; omega) (by simp)⟩)
  have HS1 := Lib.hid (show w.heap.size + 1 + 1 ≤ w1.heap.size from by simpa using hgrow1.size)
  have HQ := Lib.hid (And.intro q0 (And.intro q1 (And.intro q2 (And.intro q3 q4))))
  have HR := Lib.hid (And.intro r0 (And.intro r1 (And.intro r2 (And.intro r3 r4))))
  have HZ := Lib.hid (show ∀ i o, i < w.heap.size + 1 + 1 → w.heap.size ≤ i → w1.frozen? ⟨i, o, none⟩ = false from fun i o h1 h2 => by
    rw [World.frozen?_of_block (a := ⟨i, o, none⟩) (hgrow1.block i (by simpa using h1) (by simp))]
    rcases (show i = w.heap.size ∨ i = w.heap.size + 1 by omega) with rfl | rfl <;> simp [go_sem])
  clear hown1 hgrow1 hz0 hz1 hz2 HB2 hi r0 r1 r2 r3 r4
  go_loopw [3, 5, 13] (fun u _ i wr => ∃ k : Nat, k ≤ l.length ∧ i = .int .i64 k ∧ OwnsF cCell 146 2 wr (w.heap.size + 1 + 1) u (l.take k) ∧ Below (w.heap.size + 1 + 1) w1 wr) (fun _ _ i _ => l.length - (intOf i).toNat)
  case atStart => exact ⟨0, Nat.zero_le _, rfl, HO0.out, Below.refl _ _⟩
  case round =>
    obtain ⟨k, hk2, rfl, hO, hb⟩ := hrel
    have HO := Lib.hid hO
    have HB := Lib.hid hb
    have HBw := Lib.hid (show Below w.heap.size w wr from HW1.out.trans (hb.mono (by omega)))
    have HXr := Lib.hid (FlatAt.below HX.out HBw.out (Nat.le_refl _))
    have HLT := Lib.hid (show ∀ g, u3.ownBlock = some g → g < wr.heap.size from fun g h => (World.ownsRow.lt hO g h).2)
    have HSZ := Lib.hid (Nat.le_trans HS1.out hb.size)
    clear hO hb
    by_cases hlt : k < l.length
    · obtain ⟨b, o, rfl, hbl, hd⟩ := flatAt_cell cCell_len HXr.out k hlt (by decide)
      have d0 := hd 0 (by decide)
      have d1 := hd 1 (by decide)
      clear hd
      have HSN := Lib.hid (show l.take (k + 1) = l.take k ++ [l[k]] from by rw [List.take_succ_eq_append_getElem hlt])
      have hks := HS.out l[k] (List.getElem_mem hlt)
      generalize l[k] = p at *
      obtain ⟨a0, a1⟩ := p
      simp only [cCell, List.getElem?_cons_zero, List.getElem?_cons_succ, Nat.add_zero] at d0 d1 hks
      have HCT := Lib.hid (fun W => copyText_any ⟨a0.toArray⟩ W (by rw [← size_list]; simp; omega))
      clear hks
      go_wp2_with fail
      go_region_held3 (fun w' => w'.cell? ⟨wr.heap.size, 0, none⟩ = some (.string ⟨a0.toArray⟩) ∧ w'.cell? ⟨wr.heap.size, 1, none⟩ = some (.int .i64 a1))
        (first
          | go_keep
          | (rw [hb1.cell (p := ⟨wr.heap.size, 0, none⟩) (by simp), hb1.cell (p := ⟨wr.heap.size, 1, none⟩) (by simp)]; assumption)
          | (rw [hg1.cell_far ⟨wr.heap.size, 0, none⟩ (by have := hb1.size; simp at *; omega) (by intro e; have := HLT.out _ e.symm; simp at this), hg1.cell_far ⟨wr.heap.size, 1, none⟩ (by have := hb1.size; simp at *; omega) (by intro e; have := HLT.out _ e.symm; simp at this)]; assumption))
        (first
          | (go_at_call 46; (with_reducible refine (HCT.out _).mono ?_); rintro e w2 ⟨rfl, hb1⟩)
          | (refine step_cells rfl _ _ rfl (w.heap.size + 1 + 1) u3 (l.take k) ⟨a0, a1⟩ _ w2.heap.size rfl (ownsF_alloc (ownsF_below (ownsF_drew (ownsF_alloc HO.out _)) hb1 (Nat.le_refl _)) _) rfl (cell_newC w2 ⟨a0, a1⟩ _ rfl) ?_ ?_ ?_; (simp; omega); (have h1 := hb1.size; have h2 := HSZ.out; simp at h1; simp; omega); intro v' w4 hO4 hg1))
      have HA := Lib.hid (((Below.refl wr.heap.size wr).alloc (Nat.le_refl _) (.cells #[.string ⟨a0.toArray⟩, .int .i64 a1] 146)).drew)
      have HA1 := Lib.hid ((HA.out.trans (hb1.mono HA.out.size)).alloc (HA.out.trans (hb1.mono HA.out.size)).size (.cells #[.string ⟨a0.toArray⟩, .int .i64 a1] 146))
      have HA2 := Lib.hid (HB.out.trans (HA1.out.mono (HSZ.out)))
      have HA3 := Lib.hid (below_appendF HA2.out (ownsF_alloc (ownsF_below (ownsF_drew (ownsF_alloc HO.out _)) hb1 (Nat.le_refl _)) _) hg1 (Nat.le_trans HS1.out HA2.out.size))
      have HO4 := Lib.hid hO4
      rename_i hheld
      clear hb1 hg1 hO4 hheld
      go_wp2_with fail
      exact ⟨⟨k + 1, by omega, by go_num, by rw [HSN.out]; exact HO4.out, HA3.out⟩, by simp [intOf]; omega⟩
    · have HOl := Lib.hid (show OwnsF cCell 146 2 wr (w.heap.size + 1 + 1) u3 l from by have h := HO.out; rw [List.take_of_length_le (by omega)] at h; exact h)
      obtain ⟨ua, uc, rfl⟩ : ∃ ua uc, u3 = .slice ua l.length uc := by
        rcases HOl.out.2 with ⟨rfl, hn⟩ | ⟨g, cap, cur, rfl, _⟩
        · exact ⟨none, 0, by rw [hn]⟩
        · exact ⟨_, _, rfl⟩
      obtain ⟨q0, q1, q2, q3, q4⟩ := HQ.out
      obtain ⟨r0, r1, r2, r3, r4⟩ := HR.out
      replace q0 := (HB.out.cell (p := ⟨w.heap.size, 0, none⟩) (by simp; omega)).trans q0
      replace q1 := (HB.out.cell (p := ⟨w.heap.size, 1, none⟩) (by simp; omega)).trans q1
      replace q2 := (HB.out.cell (p := ⟨w.heap.size, 2, none⟩) (by simp; omega)).trans q2
      replace q3 := (HB.out.cell (p := ⟨w.heap.size, 3, none⟩) (by simp; omega)).trans q3
      replace q4 := (HB.out.cell (p := ⟨w.heap.size, 4, none⟩) (by simp; omega)).trans q4
      replace r0 := (HB.out.cell (p := ⟨w.heap.size + 1, 0, none⟩) (by simp)).trans r0
      replace r1 := (HB.out.cell (p := ⟨w.heap.size + 1, 1, none⟩) (by simp)).trans r1
      replace r2 := (HB.out.cell (p := ⟨w.heap.size + 1, 2, none⟩) (by simp)).trans r2
      replace r3 := (HB.out.cell (p := ⟨w.heap.size + 1, 3, none⟩) (by simp)).trans r3
      replace r4 := (HB.out.cell (p := ⟨w.heap.size + 1, 4, none⟩) (by simp)).trans r4
      have z0 : ∀ o, wr.frozen? ⟨w.heap.size, o, none⟩ = false := fun o => (HB.out.frozen (p := ⟨w.heap.size, o, none⟩) (by simp; omega)).trans (HZ.out _ o (by omega) (by omega))
      have z1 : ∀ o, wr.frozen? ⟨w.heap.size + 1, o, none⟩ = false := fun o => (HB.out.frozen (p := ⟨w.heap.size + 1, o, none⟩) (by simp)).trans (HZ.out _ o (by omega) (by omega))
      have hsz := HSZ.out
      have hl0 : w.heap.size < wr.heap.size := by omega
      have hl1 : w.heap.size + 1 < wr.heap.size := by omega
      go_wp2_with fail
      refine (HKD.out _).mono ?_
      rintro e w5 ⟨rfl, hb5⟩
      have HB5 := Lib.hid hb5
      obtain ⟨hcc, hff⟩ := bcell hb5
      clear hb5
      go_wp2_with fail
      refine bodyPost_ret (v := .agg #[.string ⟨kd.toArray⟩, .bool on, .bool br, .slice ua l.length uc, .int .i64 cnt]) (by simp [results, Try.results81, go_sem, cell_set_at, cell_set_ne, hcc, q0, q1, q2, q3, q4, r0, r1, r2, r3, r4, hl0, hl1]) rfl ?_
      refine ⟨_, rfl, ⟨_, rfl, ?_⟩, ?_⟩
      · refine ownsF_base (B := w.heap.size + 1 + 1) ?_ (by omega)
        repeat (with_reducible refine ownsF_set ?_ (by simp; try omega))
        exact ownsF_below HOl.out HB5.out (Nat.le_refl _)
      · repeat (with_reducible refine Below.setCell ?_ (by simp; try omega) _)
        exact HBw.out.trans (HB5.out.mono (by omega))
end Go.Proofs.Ytlkpinlkbikokaa
/- copyPart: a part copied, its rows new. -/
namespace Go.Proofs.Ytlkpinlkbikokaa
set_option linter.unusedVariables false
set_option linter.unusedSimpArgs false
open Go.RowKit
set_option maxRecDepth 100000 in
set_option maxHeartbeats 3200000 in
theorem copyPart_c (v : Value) (x : PartD) (w : World) (hx : ValAt rPart 0 w v x) (hs : SmallP x) :
    Calls Try.prog 43 #[v] w fun e w' => GivesOP x w e w' := by
  obtain ⟨_, rfl, hx⟩ := hx
  obtain ⟨i0, hi, hz0, hz1, hz2⟩ := info_parts infoLay
  obtain ⟨xc, l⟩ := x
  obtain ⟨v3, v5, rfl, h3, h5⟩ := hx
  have HCC := Lib.hid (fun W (hb : Below w.heap.size w W) => copyCore_c (vCore xc v3) xc W ⟨v3, rfl, FlatAt.below (flatAt_of_slice cCell_len (by decide) h3) hb (Nat.le_refl _)⟩ hs.cells hs.keys hs.kind)
  unfold GivesCore OwnsCore at HCC
  have HS := Lib.hid hs.names
  have hm := hs.lays
  simp only at h3 h5 HS hm
  obtain ⟨ra, rc, rfl, _⟩ := sliceAt_len h3
  obtain ⟨sa, sc, rfl, hl⟩ := sliceAt_len h5
  have H5 := Lib.hid h5
  obtain ⟨kd, on, br, cl, cnt⟩ := xc
  unfold vCore at HCC
  simp only at HCC h3 ⊢
  clear h3 h5 hs
  unfold maxLen at hl
  have hb2 : i0.bytes * l.length ≤ 281474976710656 := by rw [hz2]; omega
  have HB2 := Lib.hid hb2
  have HM := Lib.hid (show l.length ≤ maxLen from by unfold maxLen; omega)
  clear hb2
  have BS := Lib.hid (bx_start2 w [.string ⟨kd.toArray⟩, .bool on, .bool br, .slice ra cl.length rc, .int .i64 cnt, .slice sa l.length sc] [.string ⟨#[]⟩, .bool false, .bool false, .slice none 0 0, .int .i64 0, .slice none 0 0] 34 34)
  go_enter Try.func43, Try.ntmps43
  go_wp2_with (refine wpList_make_own _ rfl _ _ 32 rfl (w.heap.size + 1 + 1) 80 i0 _ 2 Try.underlying32 hi hz0 hz1 .i64 .i64 _ l.length rfl rfl rfl HB2.out HM.out (by simp) ?_; intro w1 hown1 hgrow1; have BP := Lib.hid (BS.out.1.grown hgrow1 (by simp)); have BR := Lib.hid (BS.out.2.1.grown hgrow1 (by simp)); have e5 := BP.out.cell 5 (by simp); simp only [List.getElem_cons_zero, List.getElem_cons_succ] at e5)
  have HO0 := Lib.hid (show OwnsF cLayer 80 2 w1 (w.heap.size + 1 + 1) (.slice (some ⟨w.heap.size + 1 + 1, 0, none⟩) 0 l.length) (l.take 0) from by simpa [OwnsF] using hown1)
  have HW1 := Lib.hid (show Below w.heap.size w w1 from BS.out.2.2.trans ⟨hgrow1.os, hgrow1.tape, hgrow1.output, hgrow1.size, fun i hi => hgrow1.block i (by simp; omega) (by simp)⟩)
  have HS1 := Lib.hid (show w.heap.size + 1 + 1 ≤ w1.heap.size from by simpa using hgrow1.size)
  clear hown1 hgrow1 hz0 hz1 hz2 HB2 hi e5
  go_loopw [3, 5, 13] (fun u _ i wr => ∃ k : Nat, k ≤ l.length ∧ i = .int .i64 k ∧ OwnsF cLayer 80 2 wr (w.heap.size + 1 + 1) u (l.take k) ∧ Below (w.heap.size + 1 + 1) w1 wr) (fun _ _ i _ => l.length - (intOf i).toNat)
  case atStart => exact ⟨0, Nat.zero_le _, rfl, HO0.out, Below.refl _ _⟩
  case round =>
    obtain ⟨k, hk2, rfl, hO, hb⟩ := hrel
    have HO := Lib.hid hO
    have HB := Lib.hid hb
    have HBw := Lib.hid (show Below w.heap.size w wr from HW1.out.trans (hb.mono (by omega)))
    have HXr := Lib.hid (SliceAt.below H5.out (good_flat cLayer_len) HBw.out (Nat.le_refl _))
    have HLT := Lib.hid (show ∀ g, u3.ownBlock = some g → g < wr.heap.size from fun g h => (World.ownsRow.lt hO g h).2)
    have HSZ := Lib.hid (Nat.le_trans HS1.out hb.size)
    clear hO hb
    by_cases hlt : k < l.length
    · obtain ⟨b, o, cs, rfl, hbl, hat, hd⟩ := sliceAt_cell HXr.out k hlt
      have HSN := Lib.hid (show l.take (k + 1) = l.take k ++ [l[k]] from by rw [List.take_succ_eq_append_getElem hlt])
      have hks := HS.out l[k] (List.getElem_mem hlt)
      generalize l[k] = p at *
      obtain ⟨a0, a1⟩ := p
      simp only [rFlat, cLayer] at hat
      subst hat
      have d0 := hd 0 (by decide)
      have d1 := hd 1 (by decide)
      simp only [List.getElem?_cons_zero, List.getElem?_cons_succ, Nat.add_zero] at d0 d1 hks
      have HCT := Lib.hid (fun W => copyText_any ⟨a0.toArray⟩ W (by rw [← size_list]; simp; omega))
      clear hks hd
      go_wp2_with fail
      go_region_held3 (fun w' => w'.cell? ⟨wr.heap.size, 0, none⟩ = some (.string ⟨a0.toArray⟩) ∧ w'.cell? ⟨wr.heap.size, 1, none⟩ = some (.int .i64 a1))
        (first
          | go_keep
          | (rw [hb1.cell (p := ⟨wr.heap.size, 0, none⟩) (by simp), hb1.cell (p := ⟨wr.heap.size, 1, none⟩) (by simp)]; assumption)
          | (rw [hg1.cell_far ⟨wr.heap.size, 0, none⟩ (by have := hb1.size; simp at *; omega) (by intro e; have := HLT.out _ e.symm; simp at this), hg1.cell_far ⟨wr.heap.size, 1, none⟩ (by have := hb1.size; simp at *; omega) (by intro e; have := HLT.out _ e.symm; simp at this)]; assumption))
        (first
          | (go_at_call 46; (with_reducible refine (HCT.out _).mono ?_); rintro e w2 ⟨rfl, hb1⟩)
          | (refine step_lays rfl _ _ rfl (w.heap.size + 1 + 1) u3 (l.take k) ⟨a0, a1⟩ _ w2.heap.size rfl (ownsF_alloc (ownsF_below (ownsF_drew (ownsF_alloc HO.out _)) hb1 (Nat.le_refl _)) _) rfl (cell_newL w2 ⟨a0, a1⟩ _ rfl) ?_ ?_ ?_; (simp; omega); (have h1 := hb1.size; have h2 := HSZ.out; simp at h1; simp; omega); intro v' w4 hO4 hg1))
      have HA := Lib.hid (((Below.refl wr.heap.size wr).alloc (Nat.le_refl _) (.cells #[.string ⟨a0.toArray⟩, .int .i64 a1] 80)).drew)
      have HA1 := Lib.hid ((HA.out.trans (hb1.mono HA.out.size)).alloc (HA.out.trans (hb1.mono HA.out.size)).size (.cells #[.string ⟨a0.toArray⟩, .int .i64 a1] 80))
      have HA2 := Lib.hid (HB.out.trans (HA1.out.mono (HSZ.out)))
      have HA3 := Lib.hid (below_appendF HA2.out (ownsF_alloc (ownsF_below (ownsF_drew (ownsF_alloc HO.out _)) hb1 (Nat.le_refl _)) _) hg1 (Nat.le_trans HS1.out HA2.out.size))
      have HO4 := Lib.hid hO4
      rename_i hheld
      clear hb1 hg1 hO4 hheld
      go_wp2_with fail
      exact ⟨⟨k + 1, by omega, by go_num, by rw [HSN.out]; exact HO4.out, HA3.out⟩, by simp [intOf]; omega⟩
    · have HOl := Lib.hid (show OwnsF cLayer 80 2 wr (w.heap.size + 1 + 1) u3 l from by have h := HO.out; rw [List.take_of_length_le (by omega)] at h; exact h)
      obtain ⟨ua, uc, rfl⟩ := slice_of HOl.out
      have hsz := HSZ.out
      have BP2 := Lib.hid (BP.out.belowK HB.out (by omega))
      have BR2 := Lib.hid (BR.out.belowK HB.out (by omega))
      have q0 := BP2.out.cell 0 (by simp)
      have q1 := BP2.out.cell 1 (by simp)
      have q2 := BP2.out.cell 2 (by simp)
      have q3 := BP2.out.cell 3 (by simp)
      have q4 := BP2.out.cell 4 (by simp)
      have q5 := BP2.out.cell 5 (by simp)
      simp only [List.getElem_cons_zero, List.getElem_cons_succ] at q0 q1 q2 q3 q4 q5
      go_wp2_with fail
      refine (HCC.out _ HBw.out).mono ?_
      rintro e w5 ⟨_, rfl, ⟨cv, rfl, ho5⟩, hb5⟩
      obtain ⟨ga, gc, rfl⟩ := slice_of ho5
      have HB5 := Lib.hid hb5
      have HO5 := Lib.hid ho5
      have BR3 := Lib.hid (BR2.out.below hb5)
      clear hb5 ho5 q0 q1 q2 q3 q4 q5
      have r0 := BR3.out.cell 0 (by simp)
      have r1 := BR3.out.cell 1 (by simp)
      have r2 := BR3.out.cell 2 (by simp)
      have r3 := BR3.out.cell 3 (by simp)
      have r4 := BR3.out.cell 4 (by simp)
      have r5 := BR3.out.cell 5 (by simp)
      simp only [List.getElem_cons_zero, List.getElem_cons_succ] at r0 r1 r2 r3 r4 r5
      have z0 := BR3.out.froz 0 (by simp)
      have z1 := BR3.out.froz 1 (by simp)
      have z2 := BR3.out.froz 2 (by simp)
      have z3 := BR3.out.froz 3 (by simp)
      have z4 := BR3.out.froz 4 (by simp)
      have z5 := BR3.out.froz 5 (by simp)
      go_wp2_with fail
      clear r0 r1 r2 r3 r4 r5 z0 z1 z2 z3 z4 z5
      have BR4 := Lib.hid (BR3.out.put6 (.string ⟨kd.toArray⟩) (.bool on) (.bool br) (.slice ga cl.length gc) (.int .i64 cnt) (.slice ua l.length uc))
      have HB6 := Lib.hid (below_put6 (HBw.out.trans (HB5.out.mono HBw.out.size)) (w.heap.size + 1) (by omega) (.string ⟨kd.toArray⟩) (.bool on) (.bool br) (.slice ga cl.length gc) (.int .i64 cnt) (.slice ua l.length uc))
      have OC := Lib.hid (ownsF_put6 HO5.out (w.heap.size + 1) (by omega) (.string ⟨kd.toArray⟩) (.bool on) (.bool br) (.slice ga cl.length gc) (.int .i64 cnt) (.slice ua l.length uc))
      have OL := Lib.hid (ownsF_put6 (ownsF_below HOl.out HB5.out (Nat.le_refl _)) (w.heap.size + 1) (by omega) (.string ⟨kd.toArray⟩) (.bool on) (.bool br) (.slice ga cl.length gc) (.int .i64 cnt) (.slice ua l.length uc))
      generalize ((((((w5.setCell ⟨w.heap.size + 1, 0, none⟩ (.string ⟨kd.toArray⟩)).setCell ⟨w.heap.size + 1, 1, none⟩ (.bool on)).setCell ⟨w.heap.size + 1, 2, none⟩ (.bool br)).setCell ⟨w.heap.size + 1, 3, none⟩ (.slice ga cl.length gc)).setCell ⟨w.heap.size + 1, 4, none⟩ (.int .i64 cnt)).setCell ⟨w.heap.size + 1, 5, none⟩ (.slice ua l.length uc)) = WE at *
      have r0 := BR4.out.cell 0 (by simp)
      have r1 := BR4.out.cell 1 (by simp)
      have r2 := BR4.out.cell 2 (by simp)
      have r3 := BR4.out.cell 3 (by simp)
      have r4 := BR4.out.cell 4 (by simp)
      have r5 := BR4.out.cell 5 (by simp)
      simp only [List.getElem_cons_zero, List.getElem_cons_succ] at r0 r1 r2 r3 r4 r5
      exact bodyPost_ret (v := .agg #[.string ⟨kd.toArray⟩, .bool on, .bool br, .slice ga cl.length gc, .int .i64 cnt, .slice ua l.length uc]) (by simp [results, Try.results43, go_sem, r0, r1, r2, r3, r4, r5]) rfl ⟨_, rfl, ⟨_, _, rfl, ownsF_base OC.out (by omega), ownsF_base OL.out (by omega)⟩, HB6.out⟩
end Go.Proofs.Ytlkpinlkbikokaa
namespace Go.Proofs.Ytlkpinlkbikokaa
set_option linter.unusedVariables false
set_option linter.unusedSimpArgs false
open Go.RowKit
def ptrs (b n : Nat) : Value := .agg (Array.replicate n (.pointer (some ⟨b, 0, none⟩)))
def partV (b : Nat) : Nat → Value
  | 0 => .iface 204 (.agg #[.pointer (some ⟨b, 0, none⟩)])
  | 1 => .iface 185 (.agg #[.pointer (some ⟨b, 0, none⟩), .pointer (some ⟨b, 0, none⟩)])
  | 2 => .iface 188 (.agg #[.pointer (some ⟨b, 0, none⟩), .pointer (some ⟨b, 0, none⟩)])
  | 3 => .iface 191 (.agg #[.pointer (some ⟨b, 0, none⟩), .pointer (some ⟨b, 0, none⟩), .pointer (some ⟨b, 0, none⟩)])
  | 4 => .iface 193 (.agg #[.pointer (some ⟨b, 0, none⟩), .pointer (some ⟨b, 0, none⟩), .pointer (some ⟨b, 0, none⟩)])
  | 5 => .iface 196 (.agg #[.pointer (some ⟨b, 0, none⟩), .pointer (some ⟨b, 0, none⟩), .pointer (some ⟨b, 0, none⟩)])
  | 6 => .iface 199 (.agg #[.pointer (some ⟨b, 0, none⟩), .pointer (some ⟨b, 0, none⟩), .pointer (some ⟨b, 0, none⟩), .pointer (some ⟨b, 0, none⟩)])
  | _ => .iface 202 (.agg #[.pointer (some ⟨b, 0, none⟩), .pointer (some ⟨b, 0, none⟩), .pointer (some ⟨b, 0, none⟩), .pointer (some ⟨b, 0, none⟩), .pointer (some ⟨b, 0, none⟩), .pointer (some ⟨b, 0, none⟩), .pointer (some ⟨b, 0, none⟩)])
set_option maxRecDepth 100000 in
set_option maxHeartbeats 1600000 in
theorem partOf_k (j : Nat) (hj : j < 8) (b : Nat) (w : World) (h : w.cell? ⟨b, 0, none⟩ = some (.string ⟨(kindN j).toArray⟩)) :
    Calls Try.prog 90 #[.pointer (some ⟨b, 0, none⟩)] w fun e w' => e = .returned (partV b j) ∧ Below w.heap.size w w' := by
  have hl0 := World.block_lt_of_cell? w _ h
  simp only at hl0
  have hn0 : ¬ b = w.heap.size := by omega
  rcases (show j = 0 ∨ j = 1 ∨ j = 2 ∨ j = 3 ∨ j = 4 ∨ j = 5 ∨ j = 6 ∨ j = 7 by omega) with rfl | rfl | rfl | rfl | rfl | rfl | rfl | rfl
  all_goals
    simp only [kindN] at h
    unfold partV
    go_enter Try.func90, Try.ntmps90
    go_wp2_with fail
    go_ret
    exact ⟨rfl, (Below.refl _ _).alloc (Nat.le_refl _) _⟩
end Go.Proofs.Ytlkpinlkbikokaa
