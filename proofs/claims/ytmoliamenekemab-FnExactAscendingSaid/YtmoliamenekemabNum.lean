/- Numbers as texts: the digits of a number (plain). -/
namespace Go.Proofs.Ytmoliamenekemab
set_option linter.unusedVariables false

/-- the digits of n, at most f of them -/
def digs : Nat → Nat → List UInt8
  | 0, _ => []
  | f + 1, n => if n < 10 then [UInt8.ofNat (48 + n)] else digs f (n / 10) ++ [UInt8.ofNat (48 + n % 10)]
/-- a number as a text -/
def numL (n : Int) : List UInt8 := if n < 0 then 45 :: digs 20 n.natAbs else digs 20 n.natAbs

theorem digs_small (f n : Nat) (h : n < 10) : digs (f + 1) n = [UInt8.ofNat (48 + n)] := by simp [digs, h]
theorem digs_big (f n : Nat) (h : 10 ≤ n) : digs (f + 1) n = digs f (n / 10) ++ [UInt8.ofNat (48 + n % 10)] := by
  have : ¬ n < 10 := by omega
  simp [digs, this]
theorem digs_more : ∀ (f g n : Nat), n < 10 ^ (f + 1) → n < 10 ^ (g + 1) → digs (f + 1) n = digs (g + 1) n := by
  intro f
  induction f with
  | zero =>
    intro g n h _
    have h' : n < 10 := by simpa using h
    rw [digs_small _ _ h', digs_small _ _ h']
  | succ f ih =>
    intro g n h h2
    by_cases hn : n < 10
    · rw [digs_small _ _ hn, digs_small _ _ hn]
    · cases g with
      | zero => exfalso; apply hn; simpa using h2
      | succ g =>
        rw [digs_big (f + 1) n (by omega), digs_big (g + 1) n (by omega), ih g (n / 10)]
        · rw [Nat.pow_succ 10 (f + 1)] at h; omega
        · rw [Nat.pow_succ 10 (g + 1)] at h2; omega
theorem digs_len : ∀ (f n : Nat), (digs f n).length ≤ f := by
  intro f
  induction f with
  | zero => intro n; simp [digs]
  | succ f ih =>
    intro n
    by_cases hn : n < 10
    · rw [digs_small _ _ hn]; simp
    · rw [digs_big _ _ (by omega)]; have := ih (n / 10); simp; omega
theorem digs_ne (f n : Nat) : digs (f + 1) n ≠ [] := by
  by_cases hn : n < 10
  · rw [digs_small _ _ hn]; simp
  · rw [digs_big _ _ (by omega)]; simp

/-- what a text says as a number, digit by digit -/
def valL (l : List UInt8) : Int := l.foldl (fun a c => 10 * a + ((c.toNat : Int) - 48)) 0
def digB (c : UInt8) : Bool := decide (48 ≤ (c.toNat : Int) ∧ (c.toNat : Int) ≤ 57)
theorem valL_snoc (l : List UInt8) (c : UInt8) : valL (l ++ [c]) = 10 * valL l + ((c.toNat : Int) - 48) := by simp [valL]
theorem ofNat_dig (n : Nat) (h : n < 10) : ((UInt8.ofNat (48 + n)).toNat : Int) = 48 + n := by
  rw [UInt8.toNat_ofNat']; omega
theorem valL_digs : ∀ (f n : Nat), n < 10 ^ (f + 1) → valL (digs (f + 1) n) = n := by
  intro f
  induction f with
  | zero =>
    intro n h
    have h' : n < 10 := by simpa using h
    have e := ofNat_dig n h'
    rw [digs_small _ _ h']
    simp only [valL, List.foldl_cons, List.foldl_nil, e]; omega
  | succ f ih =>
    intro n h
    by_cases hn : n < 10
    · have e := ofNat_dig n hn
      rw [digs_small _ _ hn]
      simp only [valL, List.foldl_cons, List.foldl_nil, e]; omega
    · have e := ofNat_dig (n % 10) (by omega)
      rw [digs_big (f + 1) n (by omega), valL_snoc, ih (n / 10) (by rw [Nat.pow_succ 10 (f + 1)] at h; omega), e]; omega
theorem digs_dig : ∀ (f n : Nat), (digs f n).all digB = true := by
  intro f
  induction f with
  | zero => intro n; rfl
  | succ f ih =>
    intro n
    by_cases hn : n < 10
    · have e := ofNat_dig n hn
      rw [digs_small _ _ hn]; simp only [List.all_cons, List.all_nil, Bool.and_true, digB, e]; simp; omega
    · have e := ofNat_dig (n % 10) (by omega)
      rw [digs_big _ _ (by omega), List.all_append, ih]
      simp only [List.all_cons, List.all_nil, Bool.and_true, Bool.true_and, digB, e]; simp; omega
theorem rev_ind {α : Type} {P : List α → Prop} (h0 : P []) (hs : ∀ l c, P l → P (l ++ [c])) (l : List α) : P l := by
  rw [← List.reverse_reverse l]
  induction l.reverse with
  | nil => exact h0
  | cons c t ih => rw [List.reverse_cons]; exact hs _ _ ih
theorem all_snoc {l : List UInt8} {c : UInt8} (h : (l ++ [c]).all digB = true) : l.all digB = true ∧ 48 ≤ (c.toNat : Int) ∧ (c.toNat : Int) ≤ 57 := by
  rw [List.all_append, Bool.and_eq_true] at h
  refine ⟨h.1, ?_⟩
  have h2 := h.2
  simpa [digB] using h2
theorem valL_nonneg (l : List UInt8) : l.all digB = true → 0 ≤ valL l := by
  refine rev_ind (P := fun l => l.all digB = true → 0 ≤ valL l) (fun _ => by simp [valL]) (fun l c ih h => ?_) l
  have h1 := ih (all_snoc h).1
  have h2 := (all_snoc h).2
  rw [valL_snoc]; omega
theorem valL_lt (l : List UInt8) : l.all digB = true → (valL l).natAbs < 10 ^ l.length := by
  refine rev_ind (P := fun l => l.all digB = true → (valL l).natAbs < 10 ^ l.length) (fun _ => by simp [valL]) (fun l c ih h => ?_) l
  have h1 := ih (all_snoc h).1
  have h2 := (all_snoc h).2
  have h3 := valL_nonneg l (all_snoc h).1
  rw [valL_snoc, List.length_append, List.length_singleton, Nat.pow_succ]; omega
/-- a first digit that is not 0 makes a value of at least 1 -/
theorem valL_pos (l : List UInt8) : l.all digB = true → l ≠ [] → l.getD 0 0 ≠ 48 → 1 ≤ valL l := by
  refine rev_ind (P := fun l => l.all digB = true → l ≠ [] → l.getD 0 0 ≠ 48 → 1 ≤ valL l) (fun _ h => absurd rfl h) (fun l c ih h _ h0 => ?_) l
  have h2 := (all_snoc h).2
  rw [valL_snoc]
  cases l with
  | nil =>
    have hc : c.toNat ≠ 48 := fun e => h0 (by simp; exact UInt8.toNat_inj.1 e)
    simp only [valL, List.foldl_nil]; omega
  | cons x r =>
    have := ih (all_snoc h).1 (by simp) (by simpa using h0)
    omega
/-- digits without a leading 0 are the digits of their value -/
theorem digs_valL (l : List UInt8) : l.all digB = true → l ≠ [] → (l.length = 1 ∨ l.getD 0 0 ≠ 48) → digs l.length (valL l).natAbs = l := by
  refine rev_ind (P := fun l => l.all digB = true → l ≠ [] → (l.length = 1 ∨ l.getD 0 0 ≠ 48) → digs l.length (valL l).natAbs = l) (fun _ h => absurd rfl h) (fun l c ih h _ h0 => ?_) l
  have h2 := (all_snoc h).2
  have hl := (all_snoc h).1
  have h3 := valL_nonneg l hl
  rw [valL_snoc, List.length_append, List.length_singleton]
  have hc : UInt8.ofNat c.toNat = c := by simp
  cases l with
  | nil =>
    simp only [valL, List.foldl_nil, List.length_nil]
    rw [digs_small 0 _ (by omega)]
    have : 48 + (10 * 0 + ((c.toNat : Int) - 48)).natAbs = c.toNat := by omega
    rw [this, hc]; rfl
  | cons x r =>
    have hx : (x :: r).getD 0 0 ≠ 48 := by
      rcases h0 with h0 | h0
      · simp at h0
      · simpa using h0
    have hp := valL_pos (x :: r) hl (by simp) hx
    have hi := ih hl (by simp) (Or.inr hx)
    rw [digs_big _ _ (by omega)]
    rw [show (10 * valL (x :: r) + ((c.toNat : Int) - 48)).natAbs / 10 = (valL (x :: r)).natAbs from by omega, hi]
    rw [show 48 + (10 * valL (x :: r) + ((c.toNat : Int) - 48)).natAbs % 10 = c.toNat from by omega, hc]
/-- the digits of a number that is not 0 do not begin with a 0 -/
theorem digs_head : ∀ (f n : Nat), 1 ≤ n → n < 10 ^ (f + 1) → (digs (f + 1) n).getD 0 0 ≠ 48 := by
  intro f
  induction f with
  | zero =>
    intro n h h1
    have h' : n < 10 := by simpa using h1
    rw [digs_small _ _ h']
    intro e
    have e2 := ofNat_dig n h'
    have e3 : (UInt8.ofNat (48 + n)) = 48 := by simpa using e
    rw [e3] at e2
    have : ((48 : UInt8).toNat : Int) = 48 := by decide
    omega
  | succ f ih =>
    intro n h h1
    by_cases hn : n < 10
    · rw [digs_small _ _ hn]
      intro e
      have e2 := ofNat_dig n hn
      have e3 : (UInt8.ofNat (48 + n)) = 48 := by simpa using e
      rw [e3] at e2
      have : ((48 : UInt8).toNat : Int) = 48 := by decide
      omega
    · rw [digs_big _ _ (by omega)]
      have := ih (n / 10) (by omega) (by rw [Nat.pow_succ 10 (f + 1)] at h1; omega)
      have hne := digs_ne f (n / 10)
      revert this
      cases hd : digs (f + 1) (n / 10) with
      | nil => exact absurd hd hne
      | cons x r => simp
theorem numL_nat (n : Nat) : numL n = digs 20 n := by simp [numL, show ¬ ((n : Int) < 0) from by omega]

/-- which number from 0 to 999 a text writes, if any -/
def parseL (l : List UInt8) : Option Nat := (List.range 1000).find? fun n : Nat => decide (numL n = l)
theorem valL_numL (n : Nat) (h : n ≤ 999) : valL (numL n) = n := by rw [numL_nat]; exact valL_digs 19 n (Nat.lt_of_le_of_lt h (by decide))
theorem parseL_some {l : List UInt8} {n : Nat} (h : n ≤ 999) (e : numL n = l) : parseL l = some n := by
  unfold parseL
  cases hf : (List.range 1000).find? fun n : Nat => decide (numL n = l) with
  | none =>
    have := List.find?_eq_none.1 hf n (by simp; omega)
    simp [e] at this
  | some m =>
    have h1 := List.find?_some hf
    have h2 := List.mem_of_find?_eq_some hf
    have h1' : numL m = l := by simpa using h1
    have h3 : m < 1000 := by simpa using h2
    have a := valL_numL n h
    have b := valL_numL m (by omega)
    rw [e] at a; rw [h1', a] at b
    have hmn : m = n := by omega
    rw [hmn]
theorem parseL_none {l : List UInt8} (h : ∀ n : Nat, n ≤ 999 → numL n ≠ l) : parseL l = none := by
  unfold parseL
  rw [List.find?_eq_none]
  intro n hn
  have : n < 1000 := by simpa using hn
  simpa using h n (by omega)
theorem parseL_iff {l : List UInt8} {n : Nat} (h : parseL l = some n) : n ≤ 999 ∧ numL n = l := by
  have h1 := List.find?_some h
  have h2 := List.mem_of_find?_eq_some h
  have h3 : n < 1000 := by simpa using h2
  exact ⟨by omega, by simpa using h1⟩
/-- a text that is parsed: its facts -/
theorem numL_len {n : Nat} (h : n ≤ 999) : (numL n).length ≤ 3 := by
  rw [numL_nat, digs_more 19 2 n (Nat.lt_of_le_of_lt h (by decide)) (by simpa using Nat.lt_of_le_of_lt h (by decide))]; exact digs_len _ _
theorem numL_dig (n : Nat) : (numL n).all digB = true := by rw [numL_nat]; exact digs_dig _ _
theorem numL_ne (n : Nat) : numL n ≠ [] := by rw [numL_nat]; exact digs_ne _ _
theorem numL_head {n : Nat} (h : n ≤ 999) (h1 : (numL n).length ≠ 1) : (numL n).getD 0 0 ≠ 48 := by
  have hn : 10 ≤ n := by
    rcases Nat.lt_or_ge n 10 with h' | h'
    · exfalso; apply h1; rw [numL_nat, digs_small _ _ h']; rfl
    · exact h'
  rw [numL_nat]; exact digs_head 19 n (by omega) (Nat.lt_of_le_of_lt h (by decide))
/-- the model's way: the value of the first four, written again -/
theorem parseL_spec (l : List UInt8) : (0 ≤ valL (l.take 4) ∧ valL (l.take 4) ≤ 999 ∧ numL (valL (l.take 4)) = l → parseL l = some (valL (l.take 4)).toNat) ∧
    (¬ (0 ≤ valL (l.take 4) ∧ valL (l.take 4) ≤ 999 ∧ numL (valL (l.take 4)) = l) → parseL l = none) := by
  constructor
  · rintro ⟨h0, h1, h2⟩
    refine parseL_some (by omega) ?_
    rw [show ((valL (l.take 4)).toNat : Int) = valL (l.take 4) from by omega]; exact h2
  · intro h
    refine parseL_none fun n hn e => h ?_
    have hl := numL_len hn
    have hv := valL_numL n hn
    rw [e] at hl hv
    rw [List.take_of_length_le (by omega), hv]
    exact ⟨by omega, by omega, e⟩
theorem parseL_good (l : List UInt8) (hd : l.all digB = true) (hne : l ≠ []) (hz : l.length = 1 ∨ l.getD 0 0 ≠ 48) (hv : valL l ≤ 999) : parseL l = some (valL l).toNat := by
  have h0 := valL_nonneg l hd
  refine parseL_some (by omega) ?_
  rw [numL_nat, show (valL l).toNat = (valL l).natAbs from by omega]
  have hd2 := digs_valL l hd hne hz
  have hlt := valL_lt l hd
  cases hl : l.length with
  | zero => exact absurd (List.eq_nil_of_length_eq_zero hl) hne
  | succ k =>
    rw [hl] at hd2 hlt
    rw [← digs_more k 19 _ hlt (Nat.lt_of_le_of_lt (show (valL l).natAbs ≤ 999 by omega) (by decide)), hd2]
theorem parseL_nil : parseL [] = none := parseL_none fun n _ e => numL_ne n e
theorem parseL_zero (l : List UInt8) (h : l.getD 0 0 = 48) (h1 : 1 < l.length) : parseL l = none := by
  refine parseL_none fun n hn e => ?_
  subst e
  exact numL_head hn (by omega) h
theorem parseL_nodig (l : List UInt8) (k : Nat) (hk : k < l.length) (h : digB (l.getD k 0) = false) : parseL l = none := by
  refine parseL_none fun n _ e => ?_
  subst e
  have := List.all_eq_true.1 (numL_dig n) ((numL n).getD k 0) (by simp only [List.getD_eq_getElem?_getD]; rw [List.getElem?_eq_getElem hk]; simp)
  rw [h] at this; cases this
theorem valL_take (l : List UInt8) (hd : l.all digB = true) (k : Nat) : valL (l.take k) ≤ valL l := by
  rcases Nat.lt_or_ge k l.length with h | h
  · revert k
    refine rev_ind (P := fun l => l.all digB = true → ∀ k, k < l.length → valL (l.take k) ≤ valL l) (fun _ k h => by simp at h) (fun l c ih h k hk => ?_) l hd
    have h2 := (all_snoc h).2
    have hl := (all_snoc h).1
    have h0 := valL_nonneg l hl
    rw [valL_snoc]
    rcases Nat.lt_or_ge k l.length with h3 | h3
    · have := ih hl k h3
      rw [List.take_append_of_le_length (by omega)]; omega
    · have : k = l.length := by simp at hk; omega
      subst this
      rw [List.take_append_of_le_length (by omega), List.take_length]; omega
  · rw [List.take_of_length_le h]; omega
theorem parseL_big (l : List UInt8) (k : Nat) (h : 999 < valL (l.take k)) : parseL l = none := by
  refine parseL_none fun n hn e => ?_
  subst e
  have := valL_take _ (numL_dig n) k
  rw [valL_numL n hn] at this; omega
theorem u8_lt (c : UInt8) : (c.toNat : Int) ≤ 255 := by have := c.toNat_lt; omega
theorem valL_bd (l : List UInt8) : (valL l).natAbs + 23 ≤ 23 * 10 ^ l.length := by
  refine rev_ind (P := fun l => (valL l).natAbs + 23 ≤ 23 * 10 ^ l.length) (by simp [valL]) (fun l c ih => ?_) l
  have := u8_lt c
  rw [valL_snoc, List.length_append, List.length_singleton, Nat.pow_succ]; omega
theorem valL_bd4 (l : List UInt8) (k : Nat) (hk : k ≤ 4) : -230000 ≤ valL (l.take k) ∧ valL (l.take k) ≤ 230000 := by
  have h := valL_bd (l.take k)
  have h1 : (l.take k).length ≤ 4 := by simp; omega
  have h2 : 10 ^ (l.take k).length ≤ 10 ^ 4 := Nat.pow_le_pow_right (by omega) h1
  omega
end Go.Proofs.Ytmoliamenekemab
