/- Faces: what the laws of chapter 2 say of the plain side. -/
import Derived.Test.YtbofplofpggdlaaFaceP
import Derived.Test.YtbofplofpggdlaaAscP
namespace Go.Proofs.Ytbofplofpggdlaa
set_option linter.unusedVariables false
open Go.RowKit
theorem offers_iff {f w : Int} (hf : isF f = true) (hw : isF w = true) : offersF f w = true ↔ ∀ j, j < 6 → hasI w j = true → hasI f j = true := by
  unfold offersF lackF
  rw [if_pos ⟨hf, hw⟩, hf, hw]
  simp only [Bool.and_self, Bool.true_and, beq_iff_eq]
  rw [madeK_zero]
  refine ⟨fun h j hj hj2 => ?_, fun h j hj => ?_⟩
  · have := h j hj
    unfold lackP at this
    rw [hj2] at this
    simpa using this
  · unfold lackP
    cases hx : hasI w j with
    | false => rfl
    | true => rw [h j hj hx]; rfl
theorem offers_refl {f : Int} (hf : isF f = true) : offersF f f = true := (offers_iff hf hf).2 fun _ _ h => h
theorem offers_trans {a b c : Int} (ha : isF a = true) (hb : isF b = true) (hc : isF c = true) (h1 : offersF a b = true) (h2 : offersF b c = true) : offersF a c = true :=
  (offers_iff ha hc).2 fun j hj h => (offers_iff ha hb).1 h1 j hj ((offers_iff hb hc).1 h2 j hj h)
theorem zero_offered {a : Int} (ha : isF a = true) : offersF a 0 = true := (offers_iff ha rfl).2 fun j hj h => by
  rcases (show j = 0 ∨ j = 1 ∨ j = 2 ∨ j = 3 ∨ j = 4 ∨ j = 5 by omega) with rfl | rfl | rfl | rfl | rfl | rfl <;> exact absurd h (by decide)
theorem all_offers {a : Int} (ha : isF a = true) : offersF 63 a = true := (offers_iff rfl ha).2 fun j hj h => by
  rcases (show j = 0 ∨ j = 1 ∨ j = 2 ∨ j = 3 ∨ j = 4 ∨ j = 5 by omega) with rfl | rfl | rfl | rfl | rfl | rfl <;> decide
theorem ext_fin : ∀ a b : Fin 64, (∀ j : Fin 6, hasI (a : Nat) j = hasI (b : Nat) j) → a = b := by decide +kernel
theorem face_ext {a b : Int} (ha : isF a = true) (hb : isF b = true) (h : ∀ j, j < 6 → hasI a j = hasI b j) : a = b := by
  obtain ⟨A, rfl⟩ := isF_fin ha; obtain ⟨B, rfl⟩ := isF_fin hb
  rw [ext_fin A B fun j => h j j.isLt]
theorem offers_anti {a b : Int} (ha : isF a = true) (hb : isF b = true) (h1 : offersF a b = true) (h2 : offersF b a = true) : a = b :=
  face_ext ha hb fun j hj => by
    have x := (offers_iff ha hb).1 h1 j hj
    have y := (offers_iff hb ha).1 h2 j hj
    cases hx : hasI a j <;> cases hy : hasI b j <;> simp_all
theorem isF_made (p : Nat → Bool) : isF (madeK p 6) = true := by have := madeK_6 p; exact decide_eq_true (by omega)
theorem hasI_fin : ∀ b0 b1 b2 b3 b4 b5 : Bool, ∀ j : Fin 6, hasI ((((((0 + if b0 then 2 ^ 0 else 0) + if b1 then 2 ^ 1 else 0) + if b2 then 2 ^ 2 else 0) + if b3 then 2 ^ 3 else 0) + if b4 then 2 ^ 4 else 0) + if b5 then 2 ^ 5 else 0) j = [b0, b1, b2, b3, b4, b5].getD j false := by decide +kernel
theorem hasI_made (p : Nat → Bool) (j : Nat) (hj : j < 6) : hasI (madeK p 6) j = p j := by
  have h := hasI_fin (p 0) (p 1) (p 2) (p 3) (p 4) (p 5) ⟨j, hj⟩
  refine Eq.trans h ?_
  rcases (show j = 0 ∨ j = 1 ∨ j = 2 ∨ j = 3 ∨ j = 4 ∨ j = 5 by omega) with rfl | rfl | rfl | rfl | rfl | rfl <;> rfl
theorem both_is {a b : Int} (ha : isF a = true) (hb : isF b = true) : bothF a b = madeK (bothP a b) 6 := if_pos ⟨ha, hb⟩
theorem either_is {a b : Int} (ha : isF a = true) (hb : isF b = true) : eitherF a b = madeK (eitherP a b) 6 := if_pos ⟨ha, hb⟩
theorem lack_is {a b : Int} (ha : isF a = true) (hb : isF b = true) : lackF a b = madeK (lackP b a) 6 := if_pos ⟨ha, hb⟩
theorem isF_both {a b : Int} (ha : isF a = true) (hb : isF b = true) : isF (bothF a b) = true := by rw [both_is ha hb]; exact isF_made _
theorem isF_either {a b : Int} (ha : isF a = true) (hb : isF b = true) : isF (eitherF a b) = true := by rw [either_is ha hb]; exact isF_made _
theorem isF_lack {a b : Int} (ha : isF a = true) (hb : isF b = true) : isF (lackF a b) = true := by rw [lack_is ha hb]; exact isF_made _
theorem bool_iff {a b : Bool} (h : a = true ↔ b = true) : a = b := by cases a <;> cases b <;> simp_all
theorem offers_both {a b f : Int} (ha : isF a = true) (hb : isF b = true) (hf : isF f = true) : offersF (bothF a b) f = (offersF a f && offersF b f) := by
  apply bool_iff
  rw [Bool.and_eq_true, offers_iff (isF_both ha hb) hf, offers_iff ha hf, offers_iff hb hf, both_is ha hb]
  refine ⟨fun h => ⟨fun j hj k => ?_, fun j hj k => ?_⟩, fun h j hj k => ?_⟩
  · have := h j hj k; rw [hasI_made _ _ hj] at this; unfold bothP at this; rw [Bool.and_eq_true] at this; exact this.1
  · have := h j hj k; rw [hasI_made _ _ hj] at this; unfold bothP at this; rw [Bool.and_eq_true] at this; exact this.2
  · rw [hasI_made _ _ hj]; unfold bothP; rw [Bool.and_eq_true]; exact ⟨h.1 j hj k, h.2 j hj k⟩
theorem offers_either {a b f : Int} (ha : isF a = true) (hb : isF b = true) (hf : isF f = true) : offersF f (eitherF a b) = (offersF f a && offersF f b) := by
  apply bool_iff
  rw [Bool.and_eq_true, offers_iff hf (isF_either ha hb), offers_iff hf ha, offers_iff hf hb, either_is ha hb]
  refine ⟨fun h => ⟨fun j hj k => h j hj ?_, fun j hj k => h j hj ?_⟩, fun h j hj k => ?_⟩
  · rw [hasI_made _ _ hj]; unfold eitherP; rw [k]; rfl
  · rw [hasI_made _ _ hj]; unfold eitherP; rw [k, Bool.or_true]
  · rw [hasI_made _ _ hj] at k; unfold eitherP at k; rw [Bool.or_eq_true] at k; rcases k with k | k
    · exact h.1 j hj k
    · exact h.2 j hj k
theorem offers_lack {a b : Int} (ha : isF a = true) (hb : isF b = true) : offersF a b = (lackF a b == 0) := by unfold offersF; rw [ha, hb]; rfl
theorem back_both {a b : Int} (ha : isF a = true) (hb : isF b = true) : eitherF (bothF a b) (lackF b a) = a := by
  refine face_ext (isF_either (isF_both ha hb) (isF_lack hb ha)) ha fun j hj => ?_
  rw [either_is (isF_both ha hb) (isF_lack hb ha), hasI_made _ _ hj]
  unfold eitherP
  rw [both_is ha hb, lack_is hb ha, hasI_made _ _ hj, hasI_made _ _ hj]
  unfold bothP lackP
  cases hasI a j <;> cases hasI b j <;> rfl
theorem both_lack {a b : Int} (ha : isF a = true) (hb : isF b = true) : bothF b (lackF b a) = 0 := by
  rw [both_is hb (isF_lack hb ha), madeK_zero]
  intro j hj
  unfold bothP
  rw [lack_is hb ha, hasI_made _ _ hj]
  unfold lackP
  cases hasI a j <;> cases hasI b j <;> rfl
theorem count_fin : ∀ a b : Fin 64, (abilL (eitherF (a : Nat) (b : Nat))).length + (abilL (bothF (a : Nat) (b : Nat))).length = (abilL (a : Nat)).length + (abilL (b : Nat)).length := by decide +kernel
theorem count_eq {a b : Int} (ha : isF a = true) (hb : isF b = true) : (abilL (eitherF a b)).length + (abilL (bothF a b)).length = (abilL a).length + (abilL b).length := by
  obtain ⟨A, rfl⟩ := isF_fin ha; obtain ⟨B, rfl⟩ := isF_fin hb; exact count_fin A B
theorem under_mem {f x : Int} (h : x ∈ underL f) : offersF f x = true := by
  unfold underL underK at h
  obtain ⟨g, hg, rfl⟩ := List.mem_map.1 h
  exact (List.mem_filter.1 hg).2
theorem under_asc (f : Int) : (underL f).Pairwise (· < ·) := by
  unfold underL underK
  refine List.Pairwise.map _ (R := (· < ·)) (fun a b h => by omega) ?_
  exact List.Pairwise.filter _ List.pairwise_lt_range
theorem under_fin : ∀ a : Fin 64, (underL (a : Nat)).length = 2 ^ (abilL (a : Nat)).length := by decide +kernel
theorem under_len {f : Int} (hf : isF f = true) : (underL f).length = 2 ^ (abilL f).length := by obtain ⟨A, rfl⟩ := isF_fin hf; exact under_fin A
theorem under_no {f : Int} (hf : isF f = false) : underL f = [] := by
  unfold underL underK
  rw [List.map_eq_nil_iff, List.filter_eq_nil_iff]
  intro g _
  unfold offersF; rw [hf]; simp
-- methods
theorem meth_fin : ∀ a : Fin 64, ∀ k : Fin 6, ∀ s ∈ mthN k, decide (s ∈ methsF (a : Nat)) = hasI (a : Nat) k := by decide +kernel
theorem meth_has {a : Int} (ha : isF a = true) {k : Nat} (hk : k < 6) {s : List UInt8} (hs : s ∈ mthN k) : s ∈ methsF a ↔ hasI a k = true := by
  obtain ⟨A, rfl⟩ := isF_fin ha
  have := meth_fin A ⟨k, hk⟩ s hs
  rw [← this]; simp
theorem abOfM_fin : ∀ k : Fin 6, ∀ s ∈ mthN k, abOfM s = (k : Nat) := by decide +kernel
theorem meth_of {b : Int} {s : List UInt8} (h : s ∈ methsF b) : ∃ k, k < 6 ∧ s ∈ mthN k ∧ abOfM s = (k : Nat) := by
  unfold methsF at h
  obtain ⟨k, hk, hs⟩ := List.mem_flatMap.1 h
  have hk6 := abilL_lt b k hk
  exact ⟨k, hk6, hs, abOfM_fin ⟨k, hk6⟩ s hs⟩
theorem pow_fin : ∀ b : Fin 64, ∀ k : Fin 6, hasI (b : Nat) k = true → offersF (b : Nat) (2 ^ (k : Nat)) = true := by decide +kernel
theorem pow_offered {b : Int} (hb : isF b = true) {k : Nat} (hk : k < 6) (h : hasI b k = true) : offersF b (2 ^ k) = true := by
  obtain ⟨B, rfl⟩ := isF_fin hb; exact pow_fin B ⟨k, hk⟩ h
theorem faceM_congr {x y : List (List UInt8)} (h : ∀ s, s ∈ x ↔ s ∈ y) : faceOfM x = faceOfM y := by
  unfold faceOfM
  have : faceM x = faceM y := funext fun k => by
    unfold faceM
    congr 1
    funext s
    exact decide_eq_decide.2 (h s)
  rw [this]
theorem faceM_fin : ∀ a : Fin 64, faceOfM (methsF (a : Nat)) = (a : Nat) := by decide +kernel
theorem mem_asc (x : List (List UInt8)) (s : List UInt8) : s ∈ ascL x ↔ s ∈ x := by
  unfold ascL
  suffices h : ∀ (l acc : List (List UInt8)), s ∈ l.foldl (fun a y => ins y a) acc ↔ s ∈ acc ∨ s ∈ l by simpa using h x []
  intro l
  induction l with
  | nil => intro acc; simp
  | cons y r ih =>
    intro acc
    rw [List.foldl_cons, ih, mem_ins, List.mem_cons]
    constructor
    · rintro ((h | h) | h)
      · exact Or.inr (Or.inl h)
      · exact Or.inl h
      · exact Or.inr (Or.inr h)
    · rintro (h | h | h)
      · exact Or.inl (Or.inr h)
      · exact Or.inl (Or.inl h)
      · exact Or.inr h
theorem faceM_asc {a : Int} (ha : isF a = true) : faceOfM (ascL (methsF a)) = a := by
  rw [faceM_congr (mem_asc _)]
  obtain ⟨A, rfl⟩ := isF_fin ha; exact faceM_fin A
theorem offers_meths {a b : Int} (ha : isF a = true) (hb : isF b = true) : offersF a b = (ascL (methsF b)).all fun s => decide (s ∈ ascL (methsF a)) := by
  apply bool_iff
  rw [offers_iff ha hb, List.all_eq_true]
  refine ⟨fun h s hs => ?_, fun h j hj k => ?_⟩
  · rw [mem_asc] at hs
    obtain ⟨k, hk, hsk, _⟩ := meth_of hs
    rw [decide_eq_true_eq, mem_asc, meth_has ha hk hsk]
    exact h k hk ((meth_has hb hk hsk).1 hs)
  · have hne : ∃ s, s ∈ mthN j := by
      rcases (show j = 0 ∨ j = 1 ∨ j = 2 ∨ j = 3 ∨ j = 4 ∨ j = 5 by omega) with rfl | rfl | rfl | rfl | rfl | rfl <;> exact ⟨_, List.mem_cons_self ..⟩
    obtain ⟨s, hs⟩ := hne
    have h2 := h s ((mem_asc _ _).2 ((meth_has hb hj hs).2 k))
    rw [decide_eq_true_eq, mem_asc] at h2
    exact (meth_has ha hj hs).1 h2
theorem meth_offered {b : Int} (hb : isF b = true) {s : List UInt8} (h : s ∈ ascL (methsF b)) : ∃ k : Nat, k < 6 ∧ abOfM s = k ∧ offersF b (2 ^ k) = true := by
  rw [mem_asc] at h
  obtain ⟨k, hk, hs, he⟩ := meth_of h
  exact ⟨k, hk, he, pow_offered hb hk ((meth_has hb hk hs).1 h)⟩
end Go.Proofs.Ytbofplofpggdlaa
