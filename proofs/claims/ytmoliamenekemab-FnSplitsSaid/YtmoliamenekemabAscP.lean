/- Texts in ascending order, each once: the plain side. -/
import Derived.Lib.SlicesCompact
namespace Go.Proofs.Ytmoliamenekemab

/-- texts in strictly ascending order -/
def Strict (l : List (List UInt8)) : Prop := l.Pairwise (· < ·)
/-- s is put in front of the first text that is not less, unless it is that text -/
def ins (s : List UInt8) : List (List UInt8) → List (List UInt8)
  | [] => [s]
  | x :: r => if x < s then x :: ins s r else if x = s then x :: r else s :: x :: r
def ascL (x : List (List UInt8)) : List (List UInt8) := x.foldl (fun a y => ins y a) []

theorem strict_unique : ∀ {a b : List (List UInt8)}, Strict a → Strict b → (∀ x, x ∈ a ↔ x ∈ b) → a = b := by
  intro a
  induction a with
  | nil =>
    intro b _ _ h
    cases b with
    | nil => rfl
    | cons y s => exact absurd ((h y).2 (List.mem_cons_self ..)) (by simp)
  | cons x r ih =>
    intro b ha hb h
    cases b with
    | nil => exact absurd ((h x).1 (List.mem_cons_self ..)) (by simp)
    | cons y s =>
      have ha' := List.pairwise_cons.1 ha
      have hb' := List.pairwise_cons.1 hb
      have e : x = y := by
        rcases List.mem_cons.1 ((h x).1 (List.mem_cons_self ..)) with h1 | h1
        · exact h1
        · rcases List.mem_cons.1 ((h y).2 (List.mem_cons_self ..)) with h2 | h2
          · exact h2.symm
          · exact absurd (List.lt_trans (hb'.1 x h1) (ha'.1 y h2)) (List.lt_irrefl _)
      subst e
      congr 1
      refine ih ha'.2 hb'.2 fun z => ⟨fun hz => ?_, fun hz => ?_⟩
      · rcases List.mem_cons.1 ((h z).1 (List.mem_cons_of_mem _ hz)) with h1 | h1
        · subst h1; exact absurd (ha'.1 z hz) (List.lt_irrefl _)
        · exact h1
      · rcases List.mem_cons.1 ((h z).2 (List.mem_cons_of_mem _ hz)) with h1 | h1
        · subst h1; exact absurd (hb'.1 z hz) (List.lt_irrefl _)
        · exact h1
theorem mem_ins (s : List UInt8) : ∀ (l : List (List UInt8)) (z : List UInt8), z ∈ ins s l ↔ z = s ∨ z ∈ l := by
  intro l
  induction l with
  | nil => intro z; simp [ins]
  | cons x r ih =>
    intro z
    unfold ins
    split
    · simp only [List.mem_cons, ih]
      constructor
      · rintro (h | h | h)
        · exact Or.inr (Or.inl h)
        · exact Or.inl h
        · exact Or.inr (Or.inr h)
      · rintro (h | h | h)
        · exact Or.inr (Or.inl h)
        · exact Or.inl h
        · exact Or.inr (Or.inr h)
    · split
      · rename_i h; subst h; simp
      · simp
theorem strict_ins (s : List UInt8) : ∀ (l : List (List UInt8)), Strict l → Strict (ins s l) := by
  intro l
  induction l with
  | nil => intro _; simp [ins, Strict]
  | cons x r ih =>
    intro h
    have h' := List.pairwise_cons.1 h
    unfold ins
    split
    · rename_i hx
      refine List.pairwise_cons.2 ⟨fun z hz => ?_, ih h'.2⟩
      rcases (mem_ins s r z).1 hz with h1 | h1
      · subst h1; exact hx
      · exact h'.1 z h1
    · split
      · exact h
      · rename_i h1 h2
        have hsx : s < x := by
          rcases Decidable.em (s < x) with h3 | h3
          · exact h3
          · exact absurd (List.le_antisymm (List.not_lt.1 h3) (List.not_lt.1 h1)) h2
        refine List.pairwise_cons.2 ⟨fun z hz => ?_, h⟩
        rcases List.mem_cons.1 hz with h3 | h3
        · subst h3; exact hsx
        · exact List.lt_trans hsx (h'.1 z h3)
theorem foldl_ins : ∀ (x a : List (List UInt8)), Strict a → Strict (x.foldl (fun a y => ins y a) a) ∧ ∀ z, z ∈ x.foldl (fun a y => ins y a) a ↔ z ∈ a ∨ z ∈ x := by
  intro x
  induction x with
  | nil => intro a h; exact ⟨h, fun z => by simp⟩
  | cons y r ih =>
    intro a h
    have := ih (ins y a) (strict_ins y a h)
    refine ⟨this.1, fun z => ?_⟩
    rw [List.foldl_cons, this.2 z, mem_ins, List.mem_cons]
    constructor
    · rintro ((h | h) | h)
      · exact Or.inr (Or.inl h)
      · exact Or.inl h
      · exact Or.inr (Or.inr h)
    · rintro (h | h | h)
      · exact Or.inl (Or.inr h)
      · exact Or.inl (Or.inl h)
      · exact Or.inr h
theorem asc_strict (x : List (List UInt8)) : Strict (ascL x) := (foldl_ins x [] List.Pairwise.nil).1
theorem asc_mem (x : List (List UInt8)) (z : List UInt8) : z ∈ ascL x ↔ z ∈ x := by
  have := (foldl_ins x [] List.Pairwise.nil).2 z
  simpa [ascL] using this
theorem asc_eq {x y : List (List UInt8)} (h : Strict y) (hm : ∀ z, z ∈ y ↔ z ∈ x) : y = ascL x :=
  strict_unique h (asc_strict x) fun z => by rw [hm z, asc_mem x z]
theorem asc_idem (x : List (List UInt8)) : ascL (ascL x) = ascL x := (asc_eq (asc_strict x) fun _ => Iff.rfl).symm
theorem ins_len (s : List UInt8) (l : List (List UInt8)) : (ins s l).length ≤ l.length + 1 := by
  induction l with
  | nil => simp [ins]
  | cons x r ih => unfold ins; split <;> (try split) <;> simp <;> omega
theorem foldl_len : ∀ (x a : List (List UInt8)), (x.foldl (fun a y => ins y a) a).length ≤ a.length + x.length := by
  intro x
  induction x with
  | nil => intro a; simp
  | cons y r ih => intro a; have := ih (ins y a); have := ins_len y a; simp only [List.foldl_cons, List.length_cons]; omega
theorem asc_len (x : List (List UInt8)) : (ascL x).length ≤ x.length := by have := foldl_len x []; simpa [ascL] using this

/-- the loop of the model's l1Put -/
theorem ins_below {s : List UInt8} {p : List (List UInt8)} (h : ∀ z ∈ p, z < s) (t : List (List UInt8)) : ins s (p ++ t) = p ++ ins s t := by
  induction p with
  | nil => rfl
  | cons x r ih =>
    have hx := h x (List.mem_cons_self ..)
    simp only [List.cons_append, ins, if_pos hx]
    rw [ih fun z hz => h z (List.mem_cons_of_mem _ hz)]
theorem ins_done {s : List UInt8} {p : List (List UInt8)} (h : ∃ z ∈ p, ¬ z < s) (t : List (List UInt8)) : ins s (p ++ t) = ins s p ++ t := by
  induction p with
  | nil => obtain ⟨z, hz, _⟩ := h; simp at hz
  | cons x r ih =>
    simp only [List.cons_append, ins]
    by_cases hx : x < s
    · obtain ⟨z, hz, hzs⟩ := h
      rcases List.mem_cons.1 hz with h1 | h1
      · subst h1; exact absurd hx hzs
      · rw [if_pos hx, if_pos hx, ih ⟨z, h1, hzs⟩]; rfl
    · rw [if_neg hx, if_neg hx]
      split <;> rfl

/-- what slices.Compact leaves of a sorted list -/
theorem compact_sorted (d : Array (List UInt8)) (hs : ∀ i j, i ≤ j → j < d.size → d[i]! ≤ d[j]!) : ∀ m, m ≤ d.size →
    Strict (Lib.compactUpTo d m) ∧ (∀ z, z ∈ Lib.compactUpTo d m ↔ ∃ i, i < m ∧ d[i]! = z) := by
  intro m
  induction m with
  | zero => intro _; exact ⟨List.Pairwise.nil, fun z => by simp [Lib.compactUpTo]⟩
  | succ m ih =>
    intro hm
    obtain ⟨h1, h2⟩ := ih (by omega)
    rw [Lib.compactUpTo_succ]
    by_cases hk : m = 0 ∨ d[m]! ≠ d[m - 1]!
    · have hk' : Lib.keeps d m = true := by simpa [Lib.keeps] using hk
      rw [if_pos hk']
      constructor
      · refine List.pairwise_append.2 ⟨h1, by simp, fun a ha b hb => ?_⟩
        have hb' : b = d[m]! := by simpa using hb
        subst hb'
        obtain ⟨i, hi, rfl⟩ := (h2 a).1 ha
        have hne : d[m]! ≠ d[m - 1]! := by rcases hk with h | h; · omega
                                           · exact h
        rcases Decidable.em (d[i]! < d[m]!) with h | h
        · exact h
        · exfalso
          have e : d[i]! = d[m]! := List.le_antisymm (hs i m (by omega) (by omega)) (List.not_lt.1 h)
          have h3 := hs i (m - 1) (by omega) (by omega)
          have h4 := hs (m - 1) m (by omega) (by omega)
          rw [e] at h3
          exact hne (List.le_antisymm h3 h4)
      · intro z
        rw [List.mem_append, h2 z]
        constructor
        · rintro (⟨i, hi, e⟩ | h)
          · exact ⟨i, by omega, e⟩
          · exact ⟨m, by omega, by simpa using (show z = d[m]! by simpa using h).symm⟩
        · rintro ⟨i, hi, e⟩
          rcases Nat.lt_or_ge i m with h | h
          · exact Or.inl ⟨i, h, e⟩
          · right; have : i = m := by omega
            subst this; simp [e]
    · have hk' : Lib.keeps d m = false := by simpa [Lib.keeps] using hk
      rw [if_neg (by simp [hk']), List.append_nil]
      refine ⟨h1, fun z => ?_⟩
      rw [h2 z]
      constructor
      · rintro ⟨i, hi, e⟩; exact ⟨i, by omega, e⟩
      · rintro ⟨i, hi, e⟩
        rcases Nat.lt_or_ge i m with h | h
        · exact ⟨i, h, e⟩
        · have : i = m := by omega
          subst this
          have hm0 : i ≠ 0 := fun h => hk (Or.inl h)
          have he : d[i]! = d[i - 1]! := Decidable.byContradiction fun h => hk (Or.inr h)
          exact ⟨i - 1, by omega, by rw [← he]; exact e⟩
def leB (x y : List UInt8) : Bool := decide (x ≤ y)
theorem compact_mergeSort (x : List (List UInt8)) : Lib.compact (x.mergeSort fun a b => decide (a ≤ b)) = ascL x := by
  have hp := List.pairwise_mergeSort (le := fun a b : List UInt8 => decide (a ≤ b)) (fun a b c h1 h2 => by simp at *; exact List.le_trans h1 h2) (fun a b => by simp; exact List.le_total a b) x
  generalize hl : (x.mergeSort fun a b => decide (a ≤ b)) = l at *
  have hmem : ∀ z, z ∈ l ↔ z ∈ x := fun z => by rw [← hl]; exact List.mem_mergeSort
  have hs : ∀ i j, i ≤ j → j < l.toArray.size → l.toArray[i]! ≤ l.toArray[j]! := by
    intro i j hij hj
    have hj' : j < l.length := by simpa using hj
    rw [getElem!_pos _ i (by simp; omega), getElem!_pos _ j (by simpa using hj')]
    simp only [List.getElem_toArray]
    rcases Nat.lt_or_ge i j with h | h
    · have := List.pairwise_iff_getElem.1 hp i j (by omega) hj' h
      simpa using this
    · have : i = j := by omega
      subst this; exact List.le_refl _
  have h := compact_sorted l.toArray hs l.length (by simp)
  refine asc_eq h.1 fun z => ?_
  rw [← hmem z]
  unfold Lib.compact
  rw [h.2 z, List.mem_iff_getElem]
  constructor
  · rintro ⟨i, hi, e⟩; exact ⟨i, hi, by rw [← e, getElem!_pos _ i (by simpa using hi)]; simp⟩
  · rintro ⟨i, hi, e⟩; exact ⟨i, hi, by rw [getElem!_pos _ i (by simpa using hi)]; simpa using e⟩
end Go.Proofs.Ytmoliamenekemab
