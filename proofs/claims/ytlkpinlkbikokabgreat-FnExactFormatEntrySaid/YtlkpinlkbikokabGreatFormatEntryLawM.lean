/- FnExactFormatEntry: at every entry the program's FormatEntry answers as the model's (an entry of more than 2^20 texts, needs and signs is not asked). No condition. -/
import Derived.Test.YtlkpinlkbikokabGreatServesLawM2
import Derived.Test.YtlkpinlkbikokabGreatShelf
import Derived.Lib.IndexMore
import Derived.Lib.IndexLaws
import Derived.Test.YtlkpinlkbikokabGreatServesLawM0
import Derived.Test.YtlkpinlkbikokabGreatServesLawM1
import Derived.Test.YtlkpinlkbikokabGreatServesLawM3
import Derived.Lib.SlicesCompact
import Derived.Lib.OwnBridge
import Derived.Deep.AppendLies
import Derived.Deep.RegionHeld3
import Derived.Test.YtlkpinlkbikokabGreatServesLawM4
import Derived.Test.YtlkpinlkbikokabGreatServesLawM5
import Derived.Deep.Slices
import Derived.StillTailTactics
/- SplitAt, the model's and the program's. -/
namespace Go.Proofs.YtlkpinlkbikokabGreat
set_option linter.unusedVariables false
open Go.RowKit
/-- the parts of l between the occurrences of sep (sep is not empty), by at most so many cuts -/
def splitF (sep : List UInt8) : Nat → List UInt8 → List (List UInt8)
  | 0, l => [l]
  | f + 1, l => if Lib.index l sep < 0 then [l] else l.take (Lib.index l sep).toNat :: splitF sep f (l.drop ((Lib.index l sep).toNat + sep.length))
def splitL (l sep : List UInt8) : List (List UInt8) := if sep = [] then [l] else splitF sep (l.length + 1) l
theorem splitF_none {sep l : List UInt8} (f : Nat) (h : Lib.index l sep < 0) : splitF sep f l = [l] := by
  cases f with
  | zero => rfl
  | succ f => simp [splitF, h]
theorem splitF_some {sep l : List UInt8} (f i : Nat) (h : Lib.index l sep = i) : splitF sep (f + 1) l = l.take i :: splitF sep f (l.drop (i + sep.length)) := by
  have : ¬ (i : Int) < 0 := by omega
  simp [splitF, h, this]
/-- a cut at place i of the text, the first one from place a on -/
theorem index_at {l sep : List UInt8} {a i : Nat} (hai : a ≤ i) (hi : i ≤ l.length) (hno : ∀ j, a ≤ j → j < i → Lib.occAt l sep j = false) (ho : Lib.occAt l sep i = true) : Lib.index (l.drop a) sep = ((i - a : Nat) : Int) := by
  refine Lib.index_first (by simp; omega) ?_ ?_
  · unfold Lib.occAt at *; rw [List.drop_drop, show a + (i - a) = i from by omega]; exact ho
  · intro j hj
    have := hno (a + j) (by omega) (by omega)
    unfold Lib.occAt at *; rw [List.drop_drop]; exact this
theorem index_end {l sep : List UInt8} {a i : Nat} (hs0 : 0 < sep.length) (hai : a ≤ i) (hil : l.length < i + sep.length) (hno : ∀ j, a ≤ j → j < i → Lib.occAt l sep j = false) : Lib.index (l.drop a) sep < 0 := by
  have : Lib.index (l.drop a) sep = -1 := by
    refine Lib.index_none fun j hj => ?_
    unfold Lib.occAt; rw [List.drop_drop]
    rcases Nat.lt_or_ge (a + j) i with h | h
    · exact hno (a + j) (by omega) h
    · cases hp : sep.isPrefixOf (l.drop (a + j)) with
      | false => rfl
      | true =>
        have := (List.isPrefixOf_iff_prefix.1 hp).length_le
        rw [List.length_drop] at this; omega
  omega
theorem extract_eq (s : ByteArray) (a b : Nat) : (s.extract a b).data.toList = (s.data.toList.drop a).take (b - a) := by
  rw [Lib.extract_data]
theorem occAt_iff (l sep : List UInt8) (i : Nat) (h : i + sep.length ≤ l.length) : Lib.occAt l sep i = decide ((l.drop i).take sep.length = sep) := by
  unfold Lib.occAt
  rw [Bool.eq_iff_iff, List.isPrefixOf_iff_prefix, decide_eq_true_iff, List.prefix_iff_eq_take]
  exact ⟨fun h => h.symm, fun h => h.symm⟩
/-- the invariant of the model's scan -/
def ScanInv (l sep : List UInt8) (acc : List (List UInt8)) (a i : Nat) : Prop :=
  a ≤ i ∧ i ≤ l.length ∧ (∀ j, a ≤ j → j < i → Lib.occAt l sep j = false) ∧ acc.length ≤ a ∧ ∃ f, acc ++ splitF sep f (l.drop a) = splitL l sep ∧ l.length - a < f
theorem scan_start (l sep : List UInt8) (h : sep ≠ []) : ScanInv l sep [] 0 0 :=
  ⟨Nat.le_refl _, Nat.zero_le _, fun j _ h => absurd h (by omega), Nat.zero_le _, l.length + 1, by simp [splitL, h], by omega⟩
theorem scan_skip {l sep : List UInt8} {acc : List (List UInt8)} {a i : Nat} (h : ScanInv l sep acc a i) (hi : i + sep.length ≤ l.length) (h0 : 0 < sep.length) (hno : Lib.occAt l sep i = false) : ScanInv l sep acc a (i + 1) := by
  obtain ⟨h1, h2, h3, h4, h5⟩ := h
  refine ⟨by omega, by omega, fun j hj hj2 => ?_, h4, h5⟩
  rcases Nat.lt_or_ge j i with h | h
  · exact h3 j hj h
  · rw [show j = i by omega]; exact hno
theorem scan_cut {l sep : List UInt8} {acc : List (List UInt8)} {a i : Nat} (h : ScanInv l sep acc a i) (hi : i + sep.length ≤ l.length) (h0 : 0 < sep.length) (ho : Lib.occAt l sep i = true) : ScanInv l sep (acc ++ [(l.drop a).take (i - a)]) (i + sep.length) (i + sep.length) := by
  obtain ⟨h1, h2, h3, h4, f, h5, h6⟩ := h
  refine ⟨Nat.le_refl _, hi, fun j hj hj2 => absurd hj2 (by omega), by simp; omega, ?_⟩
  cases f with
  | zero => omega
  | succ f =>
    rw [splitF_some f (i - a) (index_at h1 h2 h3 ho), List.drop_drop, show a + (i - a + sep.length) = i + sep.length by omega] at h5
    exact ⟨f, by rw [← h5]; simp, by omega⟩
theorem scan_end {l sep : List UInt8} {acc : List (List UInt8)} {a i : Nat} (h : ScanInv l sep acc a i) (hi : l.length < i + sep.length) (h0 : 0 < sep.length) : acc ++ [l.drop a] = splitL l sep := by
  obtain ⟨h1, h2, h3, h4, f, h5, h6⟩ := h
  rw [← h5, splitF_none f (index_end h0 h1 hi h3)]
theorem owns_one (w : World) (B : Nat) (s : ByteArray) (h : B ≤ w.heap.size) : Owns (w.alloc (.cells #[.string s] 9)) B (.slice (some ⟨w.heap.size, 0, none⟩) 1 1) [s.data.toList] :=
  ⟨rfl, .inr ⟨w.heap.size, 1, #[.string s], rfl, h, heap_alloc_new w _, Nat.le_refl _, by decide, rfl, by simp [strV]⟩⟩
def strLen : Value → Nat
  | .string t => t.size
  | _ => 0
def CutInv (l sep t : List UInt8) (acc : List (List UInt8)) : Prop := ∃ f, acc ++ splitF sep f t = splitL l sep ∧ t.length < f
theorem cut_start (l sep : List UInt8) (h : sep ≠ []) : CutInv l sep l [] := ⟨l.length + 1, by simp [splitL, h], by omega⟩
theorem cut_next {l sep t : List UInt8} {acc : List (List UInt8)} (h : CutInv l sep t acc) (i : Nat) (hi : Lib.index t sep = i) (h0 : 0 < sep.length) (hr : i + sep.length ≤ t.length) : CutInv l sep (t.drop (i + sep.length)) (acc ++ [t.take i]) := by
  obtain ⟨f, h1, h2⟩ := h
  cases f with
  | zero => omega
  | succ f =>
    rw [splitF_some f i hi] at h1
    exact ⟨f, by rw [← h1]; simp, by simp; omega⟩
theorem cut_end {l sep t : List UInt8} {acc : List (List UInt8)} (h : CutInv l sep t acc) (hi : Lib.index t sep < 0) : acc ++ [t] = splitL l sep := by
  obtain ⟨f, h1, h2⟩ := h
  rw [← h1, splitF_none f hi]
theorem splitF_len (sep : List UInt8) (h0 : 0 < sep.length) : ∀ (f : Nat) (l : List UInt8), (splitF sep f l).length ≤ l.length + 1 := by
  intro f
  induction f with
  | zero => intro l; simp [splitF]
  | succ f ih =>
    intro l
    by_cases h : Lib.index l sep < 0
    · rw [splitF_none _ h]; simp
    · obtain ⟨i, hi⟩ := Int.eq_ofNat_of_zero_le (show 0 ≤ Lib.index l sep by omega)
      have hr := Lib.index_room l sep (by omega)
      rw [splitF_some f i hi]
      have := ih (l.drop (i + sep.length))
      rw [List.length_drop] at this
      simp only [List.length_cons]; omega
theorem splitL_len (l sep : List UInt8) : (splitL l sep).length ≤ l.length + 1 := by
  unfold splitL
  split
  · simp
  · rename_i h
    exact splitF_len sep (by cases sep with | nil => exact absurd rfl h | cons a b => simp) _ _
end Go.Proofs.YtlkpinlkbikokabGreat
/- Dividing and joining, plain: what is divided is joined again, and what is joined by a byte that no text has is divided again. -/
namespace Go.Proofs.YtlkpinlkbikokabGreat
set_option linter.unusedVariables false
open Go.RowKit
theorem joinK_take (x : List (List UInt8)) (y : List (List UInt8)) (sep : List UInt8) : ∀ k, k ≤ x.length → joinK (x ++ y) sep k = joinK x sep k := by
  intro k
  induction k with
  | zero => intro _; rfl
  | succ k ih =>
    intro hk
    have e : (x ++ y).getD k [] = x.getD k [] := by simp [List.getD, List.getElem?_append_left (show k < x.length by omega)]
    simp only [joinK, ih (by omega), e]
theorem joinL_cons (a : List UInt8) (x : List (List UInt8)) (sep : List UInt8) (hx : x ≠ []) : joinL (a :: x) sep = a ++ sep ++ joinL x sep := by
  have key : ∀ k, k < x.length → joinK (a :: x) sep (k + 2) = a ++ sep ++ joinK x sep (k + 1) := by
    intro k
    induction k with
    | zero => intro _; simp [joinK]
    | succ k ih =>
      intro hk
      have h := ih (by omega)
      have e1 : joinK (a :: x) sep (k + 1 + 2) = joinK (a :: x) sep (k + 2) ++ sep ++ x.getD (k + 1) [] := by simp [joinK]
      have e2 : joinK x sep (k + 1 + 1) = joinK x sep (k + 1) ++ sep ++ x.getD (k + 1) [] := by simp [joinK]
      rw [e1, h, e2]; simp
  cases x with
  | nil => exact absurd rfl hx
  | cons b r =>
    have := key r.length (by simp)
    unfold joinL
    simpa using this
theorem joinL_one (a sep : List UInt8) : joinL [a] sep = a := by simp [joinL, joinK]
theorem splitF_ne (sep : List UInt8) (f : Nat) (l : List UInt8) : splitF sep f l ≠ [] := by
  cases f with
  | zero => simp [splitF]
  | succ f => unfold splitF; split <;> simp
theorem index_take (l sep : List UInt8) (i : Nat) (h : Lib.index l sep = i) : l.take i ++ sep ++ l.drop (i + sep.length) = l := by
  rcases Lib.index_spec l sep with ⟨h1, _⟩ | ⟨j, h1, h2, h3, _⟩
  · omega
  · have : j = i := by omega
    subst this
    unfold Lib.occAt at h3
    obtain ⟨t, ht⟩ := List.isPrefixOf_iff_prefix.1 h3
    have e : l.drop (j + sep.length) = t := by rw [← List.drop_drop, ← ht]; simp
    rw [e, List.append_assoc, ht, List.take_append_drop]
theorem join_split (sep : List UInt8) : ∀ (f : Nat) (l : List UInt8), joinL (splitF sep f l) sep = l := by
  intro f
  induction f with
  | zero => intro l; simp [splitF, joinL_one]
  | succ f ih =>
    intro l
    by_cases h : Lib.index l sep < 0
    · rw [splitF_none _ h, joinL_one]
    · obtain ⟨i, hi⟩ := Int.eq_ofNat_of_zero_le (show 0 ≤ Lib.index l sep by omega)
      rw [splitF_some f i hi, joinL_cons _ _ _ (splitF_ne sep f _), ih, index_take l sep i hi]
theorem join_splitL (l sep : List UInt8) : joinL (splitL l sep) sep = l := by
  unfold splitL
  split
  · rw [joinL_one]
  · exact join_split sep _ l
theorem occ_one (l : List UInt8) (c : UInt8) (j : Nat) : Lib.occAt l [c] j = true ↔ l[j]? = some c := by
  unfold Lib.occAt
  rw [List.isPrefixOf_iff_prefix]
  constructor
  · rintro ⟨t, ht⟩
    have : (l.drop j)[0]? = some c := by rw [← ht]; rfl
    simpa using this
  · intro h
    have hj := (List.getElem?_eq_some_iff.1 h)
    obtain ⟨hj, rfl⟩ := hj
    exact ⟨l.drop (j + 1), by rw [List.drop_eq_getElem_cons hj]; rfl⟩
theorem index_none1 {l : List UInt8} {c : UInt8} (h : c ∉ l) : Lib.index l [c] < 0 := by
  have : Lib.index l [c] = -1 := Lib.index_none fun j hj => by
    cases ho : Lib.occAt l [c] j with
    | false => rfl
    | true => exact absurd (List.mem_of_getElem? ((occ_one l c j).1 ho)) h
  omega
theorem index_some1 {a r : List UInt8} {c : UInt8} (h : c ∉ a) : Lib.index (a ++ c :: r) [c] = (a.length : Int) := by
  refine Lib.index_first (by simp) ?_ ?_
  · rw [occ_one]; simp
  · intro j hj
    cases ho : Lib.occAt (a ++ c :: r) [c] j with
    | false => rfl
    | true =>
      have := (occ_one _ c j).1 ho
      rw [List.getElem?_append_left hj] at this
      exact absurd (List.mem_of_getElem? this) h
theorem split_join (c : UInt8) : ∀ (ps : List (List UInt8)) (f : Nat), ps ≠ [] → (∀ p ∈ ps, c ∉ p) → ps.length ≤ f + 1 → splitF [c] f (joinL ps [c]) = ps := by
  intro ps
  induction ps with
  | nil => intro f h; exact absurd rfl h
  | cons a r ih =>
    intro f _ hp hf
    have ha := hp a List.mem_cons_self
    by_cases hr : r = []
    · subst hr
      rw [joinL_one]
      exact splitF_none f (index_none1 ha)
    · have hl : 0 < r.length := List.length_pos_iff.2 hr
      obtain ⟨g, rfl⟩ : ∃ g, f = g + 1 := ⟨f - 1, by simp at hf; omega⟩
      rw [joinL_cons a r [c] hr, List.append_assoc, List.singleton_append, splitF_some g a.length (index_some1 ha)]
      have e1 : (a ++ c :: joinL r [c]).take a.length = a := by simp
      have e2 : (a ++ c :: joinL r [c]).drop (a.length + [c].length) = joinL r [c] := by simp [List.drop_append]
      rw [e1, e2, ih g hr (fun p h => hp p (List.mem_cons_of_mem _ h)) (by simp at hf; omega)]
theorem joinL_ge (ps : List (List UInt8)) (c : UInt8) : ps.length ≤ (joinL ps [c]).length + 1 := by
  induction ps with
  | nil => simp
  | cons a r ih =>
    by_cases hr : r = []
    · subst hr; simp
    · rw [joinL_cons a r [c] hr]; simp; omega
theorem splitL_joinL (c : UInt8) (ps : List (List UInt8)) (h : ps ≠ []) (hp : ∀ p ∈ ps, c ∉ p) : splitL (joinL ps [c]) [c] = ps := by
  unfold splitL
  rw [if_neg (by simp)]
  exact split_join c ps _ h hp (by have := joinL_ge ps c; omega)
theorem splitL_none1 {l : List UInt8} {c : UInt8} (h : c ∉ l) : splitL l [c] = [l] := by
  unfold splitL; rw [if_neg (by simp)]; exact splitF_none _ (index_none1 h)
theorem splitL_ne (l : List UInt8) (c : UInt8) : splitL l [c] ≠ [] := by
  unfold splitL; rw [if_neg (by simp)]; exact splitF_ne _ _ _
theorem joinL_two (a b : List UInt8) (c : UInt8) : joinL [a, b] [c] = a ++ c :: b := by rw [joinL_cons a [b] [c] (by simp), joinL_one]; simp
/-- the text in front of the first c and the text behind it -/
theorem cut_some {a r : List UInt8} {c : UInt8} (h : c ∉ a) : Lib.cut (a ++ c :: r) [c] = (a, r, true) := by
  unfold Lib.cut
  rw [index_some1 h, if_pos (by omega)]
  simp [List.drop_append]
theorem cut_none {a : List UInt8} {c : UInt8} (h : c ∉ a) : Lib.cut a [c] = (a, [], false) := by
  unfold Lib.cut
  rw [if_neg (by have := index_none1 h; omega)]
/-- a text either has no c, or is what stands in front of the first one, and behind it -/
theorem cut_cases (l : List UInt8) (c : UInt8) : c ∉ l ∨ ∃ a r, l = a ++ c :: r ∧ c ∉ a := by
  by_cases h : c ∈ l
  · right
    induction l with
    | nil => simp at h
    | cons x t ih =>
      by_cases hx : x = c
      · subst hx; exact ⟨[], t, rfl, by simp⟩
      · obtain ⟨a, r, e, ha⟩ := ih (by rcases List.mem_cons.1 h with h | h; exact absurd h.symm hx; exact h)
        exact ⟨x :: a, r, by rw [e]; rfl, by simp; exact ⟨fun e => hx e.symm, ha⟩⟩
  · exact Or.inl h
/-- divided into two: there is just one c -/
theorem split_two {l a b : List UInt8} {c : UInt8} (h : splitL l [c] = [a, b]) : l = a ++ c :: b ∧ c ∉ a := by
  have e : l = a ++ c :: b := by rw [← joinL_two, ← h, join_splitL]
  refine ⟨e, ?_⟩
  rcases cut_cases l c with hn | ⟨a', r, e2, ha'⟩
  · rw [splitL_none1 hn] at h; simp at h
  · have : splitL l [c] = a' :: splitF [c] l.length r := by
      have e3 : (a' ++ c :: r).drop (a'.length + [c].length) = r := by simp [List.drop_append]
      have e4 : (a' ++ c :: r).take a'.length = a' := by simp
      unfold splitL; rw [if_neg (by simp), e2, splitF_some _ a'.length (index_some1 ha'), e3, e4]
    rw [this] at h
    injection h with h1 _
    rw [← h1]; exact ha'
theorem cut_len (l sep : List UInt8) : (Lib.cut l sep).1.length ≤ l.length ∧ (Lib.cut l sep).2.1.length ≤ l.length := by
  unfold Lib.cut
  split
  · exact ⟨by simp; omega, by simp⟩
  · exact ⟨Nat.le_refl _, by simp⟩
theorem joinK_part (x : List (List UInt8)) (sep : List UInt8) : ∀ (m k : Nat), k < m → m ≤ x.length → (x.getD k []).length ≤ (joinK x sep m).length := by
  intro m
  induction m with
  | zero => intro k h; omega
  | succ m ih =>
    intro k hk hm
    simp only [joinK, List.length_append]
    rcases Nat.lt_or_ge k m with h | h
    · have := ih k h (by omega); omega
    · rw [show k = m by omega]; omega
theorem split_part (l : List UInt8) (c : UInt8) (p : List UInt8) (h : p ∈ splitL l [c]) : p.length ≤ l.length := by
  obtain ⟨k, hk, rfl⟩ := List.mem_iff_getElem.1 h
  have := joinK_part (splitL l [c]) [c] (splitL l [c]).length k hk (Nat.le_refl _)
  rw [show joinK (splitL l [c]) [c] (splitL l [c]).length = l from join_splitL l [c]] at this
  rw [List.getD_eq_getElem?_getD, List.getElem?_eq_getElem hk] at this
  exact this
theorem dataL (l : List UInt8) : (⟨l.toArray⟩ : ByteArray).data.toList = l := by simp
end Go.Proofs.YtlkpinlkbikokabGreat
/- Contracts of ParseNumber, the model's and the program's. -/
namespace Go.Proofs.YtlkpinlkbikokabGreat
set_option linter.unusedVariables false
open Go.RowKit
def pnum (l : List UInt8) : Int := ((parseL l).getD 0 : Nat)
def pok (l : List UInt8) : Bool := (parseL l).isSome
theorem pnum_some {l : List UInt8} {n : Nat} (h : parseL l = some n) : pnum l = n ∧ pok l = true := by simp [pnum, pok, h]
theorem pnum_none {l : List UInt8} (h : parseL l = none) : pnum l = 0 ∧ pok l = false := by simp [pnum, pok, h]
theorem ret_pair {a b : Int} {c d : Bool} (h : a = b) (h2 : c = d) : Ending.returned (.tuple #[.int .i64 a, .bool c]) = .returned (.tuple #[.int .i64 b, .bool d]) := by rw [h, h2]
theorem valL_next (s : ByteArray) (k : Nat) (h : k < s.size) : valL (s.data.toList.take (k + 1)) = 10 * valL (s.data.toList.take k) + (s[k].toNat : Int) - 48 := by
  rw [take_snoc s k h, valL_snoc]; omega
theorem digB_isDig (c : UInt8) : isDig c.toNat = digB c := by simp [isDig, digB]
theorem all_next (s : ByteArray) (k : Nat) (h : k < s.size) (ha : (s.data.toList.take k).all digB = true) (hd : isDig (s[k]).toNat = true) : (s.data.toList.take (k + 1)).all digB = true := by
  rw [take_snoc s k h, List.all_append, ha, digB_isDig] at *; simpa using hd
theorem nodig_at (s : ByteArray) (k : Nat) (h : k < s.size) (hd : isDig (s[k]).toNat = false) : parseL s.data.toList = none :=
  parseL_nodig _ k (by rw [size_list]; exact h) (by rw [getD_get s k h, ← digB_isDig]; exact hd)
theorem first48 (s : ByteArray) (h : 0 < s.size) (hz : (s[0].toNat : Int) = 48) : s.data.toList.getD 0 0 = 48 := by
  rw [getD_get s 0 h]; exact UInt8.toNat_inj.1 (by show s[0].toNat = 48; omega)
theorem notfirst48 (s : ByteArray) (h : 0 < s.size) (hz : ¬ (s[0].toNat : Int) = 48) : s.data.toList.getD 0 0 ≠ 48 := by
  rw [getD_get s 0 h]; intro e; apply hz; rw [e]; rfl
theorem wrap_dig (x : Int) (h0 : 48 ≤ x) (h1 : x ≤ 255) : IntKind.u8.wrap (x - 48) = x - 48 := by
  simp only [IntKind.wrap, IntKind.bits, IntKind.signed]; simp; omega
end Go.Proofs.YtlkpinlkbikokabGreat
/- Versions as texts: the plain side. -/
namespace Go.Proofs.YtlkpinlkbikokabGreat
set_option linter.unusedVariables false
open Go.RowKit
/-- the lenient reading -/
def rdV (s : List UInt8) : VersionD := ⟨pnum (Lib.cut s [46]).1, pnum (Lib.cut s [46]).2.1⟩
def prsVB (s : List UInt8) : Bool := verB (rdV s) && decide (fmtVer (rdV s) = s)
def prsV (s : List UInt8) : VersionD := if prsVB s = true then rdV s else ⟨0, 0⟩
theorem prsV_yes {s : List UInt8} (h : prsVB s = true) : prsV s = rdV s := if_pos h
theorem prsV_no {s : List UInt8} (h : prsVB s = false) : prsV s = ⟨0, 0⟩ := if_neg (by simp [h])
theorem vnB_nat {n : Int} (h : vnB n = true) : ∃ k : Nat, n = k ∧ k ≤ 99 := by
  have := of_decide_eq_true h; exact ⟨n.toNat, by omega, by omega⟩
theorem verB_parts {d : VersionD} (h : verB d = true) : vnB d.fMajor = true ∧ vnB d.fMinor = true := by simpa [verB] using h
theorem fmtVer_yes {d : VersionD} (h : verB d = true) : fmtVer d = joinL [numL d.fMajor, numL d.fMinor] [46] := by rw [joinL_two]; exact if_pos h
theorem fmtVer_no {d : VersionD} (h : verB d = false) : fmtVer d = [] := if_neg (by simp [h])
theorem numL_no46 (n : Nat) : (46 : UInt8) ∉ numL n := fun hm => by
  have h := List.all_eq_true.1 (numL_dig n) _ hm
  exact absurd h (by decide)
theorem vn_no46 {n : Int} (h : vnB n = true) : (46 : UInt8) ∉ numL n := by obtain ⟨k, rfl, _⟩ := vnB_nat h; exact numL_no46 k
theorem vn_len {n : Int} (h : vnB n = true) : (numL n).length ≤ 3 := by obtain ⟨k, rfl, hk⟩ := vnB_nat h; exact numL_len (by omega)
theorem vn_parse {n : Int} (h : vnB n = true) : pnum (numL n) = n := by
  obtain ⟨k, rfl, hk⟩ := vnB_nat h
  exact (pnum_some (parseL_some (by omega) rfl)).1
/-- the parts of a written version -/
theorem fmtVer_split {d : VersionD} (h : verB d = true) : splitL (fmtVer d) [46] = [numL d.fMajor, numL d.fMinor] := by
  obtain ⟨h1, h2⟩ := verB_parts h
  rw [fmtVer_yes h]
  refine splitL_joinL 46 _ (by simp) fun p hp => ?_
  simp only [List.mem_cons, List.not_mem_nil, or_false] at hp
  rcases hp with rfl | rfl
  · exact vn_no46 h1
  · exact vn_no46 h2
theorem fmtVer_len (d : VersionD) : (fmtVer d).length ≤ 7 := by
  cases h : verB d with
  | false => rw [fmtVer_no h]; simp
  | true =>
    obtain ⟨h1, h2⟩ := verB_parts h
    have := vn_len h1; have := vn_len h2
    rw [fmtVer_yes h, joinL_two]; simp; omega
/-- the model's reading -/
theorem prsV_two {s a b : List UInt8} (h : splitL s [46] = [a, b]) : rdV s = ⟨pnum a, pnum b⟩ ∧ prsVB s = decide (fmtVer ⟨pnum a, pnum b⟩ = s) := by
  obtain ⟨e, hn⟩ := split_two h
  have hr : rdV s = ⟨pnum a, pnum b⟩ := by unfold rdV; rw [e, cut_some hn]
  refine ⟨hr, ?_⟩
  unfold prsVB
  rw [hr]
  cases hv : verB ⟨pnum a, pnum b⟩ with
  | true => simp
  | false =>
    rw [fmtVer_no hv, e]
    simp
theorem prsV_other {s : List UInt8} (h : (splitL s [46]).length ≠ 2) : prsVB s = false := by
  cases hp : prsVB s with
  | false => rfl
  | true =>
    simp only [prsVB, Bool.and_eq_true, decide_eq_true_eq] at hp
    have := fmtVer_split hp.1
    rw [hp.2] at this
    rw [this] at h; simp at h
/-- what is written is read -/
theorem prs_fmtVer {d : VersionD} (h : verB d = true) : rdV (fmtVer d) = d ∧ prsVB (fmtVer d) = true := by
  obtain ⟨h1, h2⟩ := verB_parts h
  obtain ⟨e1, e2⟩ := prsV_two (fmtVer_split h)
  rw [vn_parse h1, vn_parse h2] at e1 e2
  exact ⟨e1, by rw [e2]; simp⟩
end Go.Proofs.YtlkpinlkbikokabGreat
/- Contracts of chapter 5: FormatVersion, the program's and the model's. -/
namespace Go.Proofs.YtlkpinlkbikokabGreat
set_option linter.unusedVariables false
open Go.RowKit
theorem rowT2 (w : World) (a b : List UInt8) (c : Nat) (hc : 2 ≤ c := by decide) : RowAt (w.alloc (.cells #[.string ⟨a.toArray⟩, .string ⟨b.toArray⟩] 9)) (.slice (some ⟨w.heap.size, 0, none⟩) 2 c) ([a, b].map strV) := by
  refine ⟨_, _, cap_eq _ hc, by unfold maxLen; simp, Or.inr ⟨w.heap.size, 0, rfl, by simp, fun i hi => ?_⟩⟩
  rw [cell_of_row _ _ _ _ 9 (0, 0) (heap_alloc_new w _)]
  simp [strV]
theorem vcell {W w1 : World} (hb : Below W.heap.size W w1) : ∀ b o, b < W.heap.size → w1.cell? ⟨b, o, none⟩ = W.cell? ⟨b, o, none⟩ := fun b o h => hb.cell (p := ⟨b, o, none⟩) h
theorem bel_drew {B : Nat} {a w : World} (h : Below B a w) : Below B a w.drew := ⟨h.os, h.tape, h.output, h.size, h.block⟩
theorem bel_al {B : Nat} {w w1 : World} (h : Below B w w1) (hB : B ≤ w1.heap.size) (o) : Below B w (w1.alloc o) := h.alloc hB o
set_option maxRecDepth 100000 in
set_option maxHeartbeats 1600000 in
theorem implFmtVer_any (d : VersionD) (w : World) :
    Calls Tryz.prog 63 #[vVersion d] w fun e w' => e = .returned (.string ⟨(fmtVer d).toArray⟩) ∧ Below w.heap.size w w' := by
  cases hv : verB d with
  | false =>
    have HI := Lib.hid (implIsVer_b d false hv)
    rw [fmtVer_no hv]
    obtain ⟨a, b⟩ := d
    unfold vVersion at *
    clear hv
    simp only at *
    go_enter Tryz.func63, Tryz.ntmps63
    go_wp2_with fail
    refine (HI.out _).mono ?_
    rintro e w1 ⟨rfl, hb⟩
    have HB := Lib.hid (bel_to (box1 _ _) hb)
    clear hb
    go_wp2_with fail
    go_ret
    exact ⟨rfl, HB.out⟩
  | true =>
    have HI := Lib.hid (implIsVer_b d true hv)
    have HF := Lib.hid (fmtVer_yes hv)
    obtain ⟨h1, h2⟩ := verB_parts hv
    obtain ⟨a, b⟩ := d
    simp only at h1 h2
    have l1 := vn_len h1
    have l2 := vn_len h2
    have k1 := of_decide_eq_true h1
    have k2 := of_decide_eq_true h2
    have HA := Lib.hid (fun w0 => implFormat_any a w0 (by omega) (by omega))
    have HC := Lib.hid (fun w0 => implFormat_any b w0 (by omega) (by omega))
    have HJ := Lib.hid (fun (w0 : World) (n0 : Nat) (h : n0 = w0.heap.size) => implJoin_any (.slice (some ⟨n0, 0, none⟩) 2 2) [numL a, numL b] ⟨#[46]⟩ _ (by subst h; exact rowT2 w0 (numL a) (numL b) 2) (by simp only; rw [joinL_two]; simp; omega) (by decide))
    unfold vVersion at *
    generalize fmtVer ⟨a, b⟩ = res at *
    clear hv h1 h2 k1 k2 l1 l2
    simp only at *
    go_enter Tryz.func63, Tryz.ntmps63
    go_wp2_with fail
    refine (HI.out _).mono ?_
    rintro e w1 ⟨rfl, hb⟩
    have HB := Lib.hid (bel_to (box1 _ _) hb)
    have hcc := vcell hb
    simp at hcc
    have c0 := hcc w.heap.size 0 (by omega)
    have c1 := hcc w.heap.size 1 (by omega)
    simp at c0 c1
    have hsz := hb.size
    simp at hsz
    have HS := Lib.hid (show w.heap.size < w1.heap.size by omega)
    clear hb hcc hsz
    go_wp2_with fail
    go_region_held3 (fun w' => w'.cell? ⟨w.heap.size, 0, none⟩ = some (.int .i64 a) ∧ w'.cell? ⟨w.heap.size, 1, none⟩ = some (.int .i64 b))
      (first
        | go_keep
        | (rw [hb1.cell (p := ⟨w.heap.size, 0, none⟩) (by have := HS.out; simp; omega), hb1.cell (p := ⟨w.heap.size, 1, none⟩) (by have := HS.out; simp; omega)]; first | assumption | exact ⟨by assumption, by assumption⟩)
        | (rw [hb2.cell (p := ⟨w.heap.size, 0, none⟩) (by have := HS.out; have := hb1.size; simp at *; omega), hb2.cell (p := ⟨w.heap.size, 1, none⟩) (by have := HS.out; have := hb1.size; simp at *; omega)]; assumption)
        | (rw [hb3.cell (p := ⟨w.heap.size, 0, none⟩) (by have := HS.out; have := hb1.size; have := hb2.size; simp at *; omega), hb3.cell (p := ⟨w.heap.size, 1, none⟩) (by have := HS.out; have := hb1.size; have := hb2.size; simp at *; omega)]; assumption))
      (first
        | (go_at_call 91; (with_reducible refine (HA.out _).mono ?_); rintro e w2 ⟨rfl, hb1⟩)
        | (go_at_call 91; (with_reducible refine (HC.out _).mono ?_); rintro e w3 ⟨rfl, hb2⟩)
        | (go_at_call 62; refine (HJ.out _ _ rfl).mono ?_; rintro e w4 ⟨rfl, hb3⟩))
    have HB1 := Lib.hid (bel_drew HB.out)
    have HB2 := Lib.hid (HB1.out.trans (hb1.mono HB1.out.size))
    have HB3 := Lib.hid (HB2.out.trans (hb2.mono HB2.out.size))
    have HB4 := Lib.hid (bel_al HB3.out HB3.out.size (.cells #[.string ⟨(numL a).toArray⟩, .string ⟨(numL b).toArray⟩] 9))
    have HB5 := Lib.hid (HB4.out.trans (hb3.mono HB4.out.size))
    rename_i hheld
    clear hb1 hb2 hb3 hheld
    go_wp2_with fail
    go_ret
    exact ⟨ret_str HF.out.symm, HB5.out⟩
theorem verT_cat (a b : Int) : ((⟨(numL a).toArray⟩ ++ ⟨#[46]⟩ ++ ⟨(numL b).toArray⟩ : ByteArray)).data.toList = joinL [numL a, numL b] [46] := by
  rw [data_app, data_app, joinL_two]; simp
theorem sizeT (l : List UInt8) : (⟨l.toArray⟩ : ByteArray).size = l.length := by simp [ByteArray.size]
set_option maxRecDepth 100000 in
set_option maxHeartbeats 1600000 in
theorem specFmtVer_any (d : VersionD) (w : World) :
    Calls Tryz.prog 59 #[vVersion d] w fun e w' => e = .returned (.string ⟨(fmtVer d).toArray⟩) ∧ Below w.heap.size w w' := by
  cases hv : verB d with
  | false =>
    have HI := Lib.hid (specIsVer_b d false hv)
    rw [fmtVer_no hv]
    obtain ⟨a, b⟩ := d
    unfold vVersion at *
    clear hv
    simp only at *
    go_enter Tryz.func59, Tryz.ntmps59
    go_wp2_with fail
    refine (HI.out _).mono ?_
    rintro e w1 ⟨rfl, hb⟩
    have HB := Lib.hid (bel_to (box1 _ _) hb)
    clear hb
    go_wp2_with fail
    go_ret
    exact ⟨rfl, HB.out⟩
  | true =>
    have HI := Lib.hid (specIsVer_b d true hv)
    have HF := Lib.hid (fmtVer_yes hv)
    obtain ⟨h1, h2⟩ := verB_parts hv
    obtain ⟨a, b⟩ := d
    simp only at h1 h2
    have l1 := vn_len h1
    have l2 := vn_len h2
    have k1 := of_decide_eq_true h1
    have k2 := of_decide_eq_true h2
    have HA := Lib.hid (fun w0 => specFormat_any a w0 (by omega) (by omega))
    have HC := Lib.hid (fun w0 => specFormat_any b w0 (by omega) (by omega))
    have hc1 : ∀ w0, (Op.stringOp .add ⟨(numL a).toArray⟩ ⟨#[46]⟩).run Tryz.prog w0 = .ok (.string (⟨(numL a).toArray⟩ ++ ⟨#[46]⟩)) w0 := fun w0 => run_string_add_sum w0 _ _ (by rw [sizeT]; show (numL a).length + 1 ≤ _; omega)
    have hc2 : ∀ w0, (Op.stringOp .add (⟨(numL a).toArray⟩ ++ ⟨#[46]⟩) ⟨(numL b).toArray⟩).run Tryz.prog w0 = .ok (.string (⟨(numL a).toArray⟩ ++ ⟨#[46]⟩ ++ ⟨(numL b).toArray⟩)) w0 := fun w0 => run_string_add_sum w0 _ _ (by have h3 := sizeT (numL b); rw [ByteArray.size_append, sizeT]; show (numL a).length + 1 + _ ≤ _; omega)
    unfold vVersion at *
    have HV := Lib.hid (verT_cat a b)
    generalize fmtVer ⟨a, b⟩ = res at *
    clear hv h1 h2 k1 k2 l1 l2
    simp only at *
    go_enter Tryz.func59, Tryz.ntmps59
    go_wp2_with fail
    refine (HI.out _).mono ?_
    rintro e w1 ⟨rfl, hb⟩
    have HB := Lib.hid (bel_to (box1 _ _) hb)
    have hcc := vcell hb
    simp at hcc
    have c0 := hcc w.heap.size 0 (by omega)
    have c1 := hcc w.heap.size 1 (by omega)
    simp at c0 c1
    have hsz := hb.size
    simp at hsz
    have HS := Lib.hid (show w.heap.size < w1.heap.size by omega)
    clear hb hcc hsz
    go_wp2_with fail
    go_region_held3 (fun w' => w'.cell? ⟨w.heap.size, 0, none⟩ = some (.int .i64 a) ∧ w'.cell? ⟨w.heap.size, 1, none⟩ = some (.int .i64 b))
      (first
        | go_keep
        | (rw [hb1.cell (p := ⟨w.heap.size, 0, none⟩) (by have := HS.out; simp; omega), hb1.cell (p := ⟨w.heap.size, 1, none⟩) (by have := HS.out; simp; omega)]; first | assumption | exact ⟨by assumption, by assumption⟩)
        | (rw [hb2.cell (p := ⟨w.heap.size, 0, none⟩) (by have := HS.out; have := hb1.size; simp at *; omega), hb2.cell (p := ⟨w.heap.size, 1, none⟩) (by have := HS.out; have := hb1.size; simp at *; omega)]; assumption))
      (first
        | (go_at_call 89; (with_reducible refine (HA.out _).mono ?_); rintro e w2 ⟨rfl, hb1⟩)
        | (go_at_call 89; (with_reducible refine (HC.out _).mono ?_); rintro e w3 ⟨rfl, hb2⟩))
    have HB1 := Lib.hid (bel_drew HB.out)
    have HB2 := Lib.hid (HB1.out.trans (hb1.mono HB1.out.size))
    have HB3 := Lib.hid (HB2.out.trans (hb2.mono HB2.out.size))
    rename_i hheld
    clear hb1 hb2 hheld
    go_wp2_with fail
    go_ret
    exact ⟨ret_strB (by rw [HF.out, HV.out]), HB3.out⟩
end Go.Proofs.YtlkpinlkbikokabGreat
/- Contracts of chapter 2: FormatFace. -/
namespace Go.Proofs.YtlkpinlkbikokabGreat
set_option linter.unusedVariables false
open Go.RowKit
/-- what FormatFace writes -/
def fmtF (f : Int) : List UInt8 := if f = 0 then [110, 111, 110, 101] else joinL (namesF f) [43]
theorem total_abN (L : List Nat) : total (L.map abN) ≤ 4 * L.length := by
  induction L with
  | nil => simp [total]
  | cons a r ih => have := abN_len a; simp only [List.map_cons, total, List.length_cons]; omega
theorem names_small (L : List Nat) (h : L.length ≤ 6) : (joinL (L.map abN) [43]).length ≤ 100 := by
  have h1 := joinK_len (L.map abN) [43] (L.map abN).length (Nat.le_refl _)
  have h2 := total_abN L
  rw [List.take_length] at h1
  simp only [List.length_map, List.length_cons, List.length_nil] at h1
  unfold joinL
  rw [List.length_map]; omega
theorem fmtF_len (f : Int) : (fmtF f).length ≤ 100 := by
  unfold fmtF; split
  · simp
  · exact names_small _ (abilL_len f)
theorem getElem_intsN (L : List Nat) (j : Nat) (h : j < L.length) : (intsN L)[j]'(by rw [intsN_len]; exact h) = ((L[j] : Nat) : Int) := by simp [intsN]
theorem map_snoc (L : List Nat) (j : Nat) (h : j < L.length) : (L.take (j + 1)).map abN = (L.take j).map abN ++ [abN L[j]] := by
  rw [List.take_succ_eq_append_getElem h, List.map_append]; rfl
set_option maxRecDepth 100000 in
set_option maxHeartbeats 800000 in
theorem implFormatFace_any (f : Int) (w : World) :
    Calls Tryz.prog 92 #[.int .i64 f] w fun e w' => e = .returned (.string ⟨(fmtF f).toArray⟩) ∧ Below w.heap.size w w' := by
  by_cases h0 : f = 0
  · subst h0
    go_enter Tryz.func92, Tryz.ntmps92
    go_wp2_with fail
    go_ret
    exact ⟨rfl, Below.refl _ _⟩
  · have HN := Lib.hid (show fmtF f = joinL ((abilL f).map abN) [43] from if_neg h0)
    have hne : (f == 0) = false := by simpa using h0
    have HA := Lib.hid (abilitiesOf_any f)
    have hl := abilL_len f
    have HJ := Lib.hid (names_small _ hl)
    have HO := Lib.hid (owns_new w)
    clear h0
    generalize abilL f = L at *
    go_enter Tryz.func92, Tryz.ntmps92
    go_wp2_with fail
    refine (HA.out _).mono ?_
    rintro e w1 ⟨u, rfl, hI, hb⟩
    have HI := Lib.hid hI
    have HB := Lib.hid (((Below.refl w.heap.size w).alloc (Nat.le_refl _) (.cells #[] 9)).trans (hb.mono (by simp)))
    have HO1 := Lib.hid (owns_below HO.out hb (Nat.le_refl _))
    obtain ⟨a, c, rfl, _⟩ := rowAt_len (ownsI_row hI (by rw [intsN_len]; omega))
    rw [List.length_map, intsN_len] at *
    clear hI hb
    go_wp2_with fail
    go_loopw [3, 5, 12] (fun ov _ i wr => ∃ j : Nat, j ≤ L.length ∧ i = .int .i64 j ∧ Owns wr w.heap.size ov ((L.take j).map abN) ∧ OwnsI wr (w.alloc (.cells #[] 9)).heap.size (.slice a L.length c) (intsN L) ∧ Below w.heap.size w wr) (fun _ _ i _ => L.length - (intOf i).toNat)
    case atStart => exact ⟨0, Nat.zero_le _, rfl, HO1.out, HI.out, HB.out⟩
    case round =>
      obtain ⟨j, hj, rfl, hO, hI, hb⟩ := hrel
      have HO2 := Lib.hid hO
      have HI2 := Lib.hid hI
      have HB2 := Lib.hid hb
      clear hO hI hb
      by_cases hlt : j < L.length
      · obtain ⟨b, o, rfl, hbw, d1⟩ := rowAt_cell (ownsI_row HI2.out (by rw [intsN_len]; omega)) j (by simpa [intsN_len] using hlt)
        rw [getElem_map_intV, getElem_intsN L j hlt] at d1
        unfold intV at d1
        have HS := Lib.hid (map_snoc L j hlt)
        have hlen : ((L.take j).map abN).length ≤ 6 := by simp; omega
        go_wp2_with fail
        refine (implAbilityName_nat L[j] _).mono ?_
        rintro e w2 ⟨rfl, rfl⟩
        go_wp2_with (at_builtin; (refine append_strs rfl _ _ rfl w.heap.size _ ((L.take j).map abN) (abN L[j]) _ wr.heap.size (by rfl) (owns_alloc HO2.out _) rfl (cell_new _ _ _) (by omega) (by have := HB2.out.size; simp; omega) ?_; intro v' w3 hO1 hg1))
        exact ⟨⟨j + 1, by omega, by go_num, by rw [HS.out]; exact hO1, ownsI_kept (ownsI_alloc HI2.out _) (owns_alloc HO2.out _) hg1, below_append (HB2.out.alloc HB2.out.size _) (owns_alloc HO2.out _) hg1 (by have := HB2.out.size; simp; omega)⟩, by simp [intOf]; omega⟩
      · have HT := Lib.hid (show L.take j = L from List.take_of_length_le (by omega))
        rw [HT.out] at HO2
        go_wp2_with fail
        refine (implJoin_any _ (L.map abN) ⟨#[43]⟩ _ (owns_row HO2.out (by simp; omega)) (Nat.le_trans HJ.out (by decide)) (by simp [ByteArray.size])).mono ?_
        rintro e w2 ⟨rfl, hb2⟩
        have HB3 := Lib.hid (HB2.out.trans (hb2.mono HB2.out.size))
        clear hb2
        go_wp2_with fail
        go_ret
        exact ⟨ret_strL HN.out.symm, HB3.out⟩
theorem joinL_nil (sep : List UInt8) : joinL [] sep = [] := rfl
theorem isF_zero : isF 0 = true := rfl
theorem fmtF_non {f : Int} (h : isF f = false) : fmtF f = [] := by
  unfold fmtF
  rw [if_neg (by rintro rfl; rw [isF_zero] at h; cases h)]
  unfold namesF
  rw [abilL_no h]; rfl
theorem abN_snoc {f : Int} {k : Nat} (h : hasI f k = true) : (abilK f (k + 1)).map abN = (abilK f k).map abN ++ [abN k] := by rw [abilK_succ, if_pos h, List.map_append]; rfl
theorem specAbilityName_nat (k : Nat) (w : World) :
    Calls Tryz.prog 112 #[.int .i64 k] w fun e w' => e = .returned (.string ⟨(abN k).toArray⟩) ∧ Below w.heap.size w w' := by
  have h := specAbilityName_any k w; rw [abNI_nat] at h; exact h
set_option maxRecDepth 100000 in
set_option maxHeartbeats 800000 in
theorem specFormatFace_any (f : Int) (w : World) :
    Calls Tryz.prog 90 #[.int .i64 f] w fun e w' => e = .returned (.string ⟨(fmtF f).toArray⟩) ∧ Below w.heap.size w w' := by
  have HO := Lib.hid (owns_new w)
  cases hf : isF f with
  | false =>
    have HN := Lib.hid (fmtF_non hf)
    have hne : (f == 0) = false := by cases he : f == 0 with
      | false => rfl
      | true => have e := eq_of_beq he; subst e; rw [isF_zero] at hf; cases hf
    have HI := Lib.hid (specIsFace_b f false hf)
    clear hf
    go_enter Tryz.func90, Tryz.ntmps90
    go_wp2_with fail
    refine wp_loop_rounds 1 ?_
    rw [rounds_succ]
    go_wp2_with (go_at_call 75; (with_reducible refine (HI.out _).mono ?_); rintro e w' ⟨rfl, rfl⟩)
    refine (specJoin_any _ [] ⟨#[43]⟩ _ (owns_row HO.out (by simp)) (by simp [joinL_nil]) (by simp [ByteArray.size])).mono ?_
    rintro e w2 ⟨rfl, hb2⟩
    have HB3 := Lib.hid (((Below.refl w.heap.size w).alloc (Nat.le_refl _) (.cells #[] 9)).trans (hb2.mono (by simp)))
    clear hb2
    go_wp2_with fail
    go_ret
    exact ⟨ret_strL (by rw [HN.out, joinL_nil]), HB3.out⟩
  | true =>
    have HL := Lib.hid (abilL_yes hf)
    have HI := Lib.hid (specIsFace_b f true hf)
    have HF := Lib.hid hf
    clear hf
    go_enter Tryz.func90, Tryz.ntmps90
    go_wp2_with fail
    go_loopw [3, 4] (fun ov i wr => ∃ k : Nat, k ≤ 6 ∧ i = .int .i64 k ∧ Owns wr w.heap.size ov ((abilK f k).map abN) ∧ Below w.heap.size w wr) (fun _ i _ => 6 - (intOf i).toNat)
    case atStart => exact ⟨0, Nat.zero_le _, rfl, HO.out, (Below.refl _ _).alloc (Nat.le_refl _) _⟩
    case round =>
      obtain ⟨k, hk, rfl, hO, hb⟩ := hrel
      have HO2 := Lib.hid hO
      have HB2 := Lib.hid hb
      clear hO hb
      by_cases hlt : k < 6
      · have hlen : ((abilK f k).map abN).length ≤ 6 := by have := abilK_len f k; simp; omega
        cases hx : hasI f k with
        | true =>
          have HX := Lib.hid (l2Has_b f k _ hx HF.out hlt)
          have HS := Lib.hid (abN_snoc hx)
          clear hx
          go_wp2_with (first | (go_at_call 75; (with_reducible refine (HI.out _).mono ?_); rintro e w' ⟨rfl, rfl⟩) | (go_at_call 76; (with_reducible refine (HX.out _).mono ?_); rintro e w' ⟨rfl, rfl⟩))
          refine (specAbilityName_nat k _).mono ?_
          rintro e w2 ⟨rfl, hb2⟩
          have HB3 := Lib.hid (HB2.out.trans (hb2.mono HB2.out.size))
          have HO3 := Lib.hid (owns_below HO2.out hb2 (Nat.le_refl _))
          clear hb2
          go_wp2_with (at_builtin; (refine append_strs rfl _ _ rfl w.heap.size _ ((abilK f k).map abN) (abN k) _ w2.heap.size (by rfl) (owns_alloc HO3.out _) rfl (cell_new _ _ _) (by omega) (by have := HB3.out.size; simp; omega) ?_; intro v' w3 hO1 hg1))
          exact ⟨⟨k + 1, by omega, by go_num, by rw [HS.out]; exact hO1, below_append (HB3.out.alloc HB3.out.size _) (owns_alloc HO3.out _) hg1 (by have := HB3.out.size; simp; omega)⟩, by simp [intOf]; omega⟩
        | false =>
          have HX := Lib.hid (l2Has_b f k _ hx HF.out hlt)
          have HS := Lib.hid (abilK_no hx)
          clear hx
          go_wp2_with (first | (go_at_call 75; (with_reducible refine (HI.out _).mono ?_); rintro e w' ⟨rfl, rfl⟩) | (go_at_call 76; (with_reducible refine (HX.out _).mono ?_); rintro e w' ⟨rfl, rfl⟩))
          exact ⟨⟨k + 1, by omega, by go_num, by rw [HS.out]; exact HO2.out, HB2.out⟩, by simp [intOf]; omega⟩
      · have HK := Lib.hid (show k = 6 by omega)
        have HO4 := Lib.hid (show Owns wr w.heap.size _ ((abilL f).map abN) from by rw [HL.out, ← HK.out]; exact HO2.out)
        have hl := abilL_len f
        by_cases h0 : f = 0
        · have hne : (f == 0) = true := by simpa using h0
          have HN := Lib.hid (show fmtF f = [110, 111, 110, 101] from if_pos h0)
          clear h0
          go_wp2_with (go_at_call 75; (with_reducible refine (HI.out _).mono ?_); rintro e w' ⟨rfl, rfl⟩)
          go_ret
          exact ⟨ret_strL HN.out.symm, HB2.out⟩
        · have hne : (f == 0) = false := by simpa using h0
          have HN := Lib.hid (show fmtF f = joinL ((abilL f).map abN) [43] from if_neg h0)
          have HJ := Lib.hid (names_small _ hl)
          clear h0
          generalize abilL f = L at *
          go_wp2_with (go_at_call 75; (with_reducible refine (HI.out _).mono ?_); rintro e w' ⟨rfl, rfl⟩)
          refine (specJoin_any _ (L.map abN) ⟨#[43]⟩ _ (owns_row HO4.out (by simp; omega)) (Nat.le_trans HJ.out (by decide)) (by simp [ByteArray.size])).mono ?_
          rintro e w2 ⟨rfl, hb2⟩
          have HB3 := Lib.hid (HB2.out.trans (hb2.mono HB2.out.size))
          clear hb2
          go_wp2_with fail
          go_ret
          exact ⟨ret_strL HN.out.symm, HB3.out⟩
end Go.Proofs.YtlkpinlkbikokabGreat
/- Entries as texts, in plain words. -/
namespace Go.Proofs.YtlkpinlkbikokabGreat
set_option linter.unusedVariables false
set_option linter.unusedSimpArgs false
open Go.RowKit
def fmtNeed (d : NeedD) : List UInt8 := fmtF d.fFace ++ ((if d.fFrom = [] then [] else [32, 111, 102, 32] ++ d.fFrom) ++ ([32] ++ fmtVer ⟨d.fMajor, d.fMinor⟩))
def wordsN (d : NeedD) : List (List UInt8) := [fmtF d.fFace] ++ (if d.fFrom = [] then [] else [[111, 102], d.fFrom]) ++ [fmtVer ⟨d.fMajor, d.fMinor⟩]
theorem words_need (d : NeedD) : joinL (wordsN d) [32] = fmtNeed d := by
  unfold wordsN fmtNeed
  by_cases h : d.fFrom = []
  · rw [if_pos h, if_pos h]
    simp only [List.append_nil, List.cons_append, List.nil_append]
    rw [joinL_two]
  · rw [if_neg h, if_neg h]
    simp only [List.cons_append, List.nil_append, List.append_assoc]
    rw [joinL_cons _ _ _ (by simp), joinL_cons _ _ _ (by simp), joinL_two]
    simp
def tailE (l : List NeedD) : List UInt8 := if l = [] then [] else [59, 32] ++ joinL (l.map fmtNeed) [44, 32]
def fmtEnt (x : EntryD) : List UInt8 := if entryB x = true then x.fName ++ ([58, 32] ++ (joinL x.fRecipe [32] ++ ([59, 32] ++ (fmtVer x.fVersion ++ tailE x.fNeeds)))) else []
theorem fmtNeed_len (d : NeedD) : (fmtNeed d).length ≤ d.fFrom.length + 160 := by
  have h1 := fmtF_len d.fFace
  have h2 := fmtVer_len ⟨d.fMajor, d.fMinor⟩
  unfold fmtNeed
  split
  · simp; omega
  · simp; omega
theorem total_le (l : List (List UInt8)) (M : Nat) (h : ∀ s ∈ l, s.length ≤ M) : total l ≤ l.length * M := by
  induction l with
  | nil => simp [total]
  | cons a r ih =>
    have h1 := ih (fun s hs => h s (List.mem_cons_of_mem _ hs))
    have h2 := h a (List.mem_cons_self ..)
    simp only [total, List.length_cons, Nat.add_mul, Nat.one_mul]; omega
theorem joinNeeds_len (l : List NeedD) (hl : l.length ≤ 3) (hk : ∀ d ∈ l, d.fFrom.length ≤ 1048576) : (joinL (l.map fmtNeed) [44, 32]).length ≤ 4194304 := by
  have h1 := joinK_len (l.map fmtNeed) [44, 32] (l.map fmtNeed).length (Nat.le_refl _)
  rw [List.take_length] at h1
  have h2 := total_le (l.map fmtNeed) 1048736 (fun s hs => by
    obtain ⟨d, hd, rfl⟩ := List.mem_map.1 hs
    have := fmtNeed_len d
    have := hk d hd
    omega)
  have h3 : (joinL (l.map fmtNeed) [44, 32]).length = (joinK (l.map fmtNeed) [44, 32] (l.map fmtNeed).length).length := rfl
  simp only [List.length_map, List.length_cons, List.length_nil] at h1 h2 h3
  have h4 : l.length * 1048736 ≤ 3146208 := by omega
  omega
theorem entryB_len {x : EntryD} (h : entryB x = true) : x.fNeeds.length ≤ 3 := by
  simp only [entryB, headB, needsB, Bool.and_eq_true, decide_eq_true_iff] at h
  exact h.1.2.1
theorem bel_drE {B : Nat} {a w : World} (h : Below B a w) : Below B a w.drew := ⟨h.os, h.tape, h.output, h.size, h.block⟩
theorem addL {P : Program} (a b : List UInt8) (s t : ByteArray) (hs : s = ⟨a.toArray⟩) (ht : t = ⟨b.toArray⟩) (h : a.length + b.length ≤ 9223372036854775807) (w0 : World) : (Op.stringOp .add s t).run P w0 = .ok (.string ⟨(a ++ b).toArray⟩) w0 := by
  subst hs ht
  rw [run_string_add_sum w0 _ _ (by rw [sizeT, sizeT]; exact h)]
  congr 2
theorem addT {P : Program} (a b l : List UInt8) (s t : ByteArray) (hl : l = a ++ b) (hs : s = ⟨a.toArray⟩) (ht : t = ⟨b.toArray⟩) (h : a.length + b.length ≤ 9223372036854775807) (w0 : World) : (Op.stringOp .add s t).run P w0 = .ok (.string ⟨l.toArray⟩) w0 := by
  subst hl
  exact addL a b s t hs ht h w0
end Go.Proofs.YtlkpinlkbikokabGreat
/- Rows of texts as rows of flat elements: the laws' helpers in that form. -/
namespace Go.Proofs.YtlkpinlkbikokabGreat
set_option linter.unusedVariables false
open Go.RowKit
theorem ownsF_str {w : World} {B : Nat} {v : Value} {x : List (List UInt8)} (h : Owns w B v x) : OwnsF cStr 9 1 w B v x := by unfold OwnsF; rw [cStr_map]; exact h
theorem owns_strF {w : World} {B : Nat} {v : Value} {x : List (List UInt8)} (h : OwnsF cStr 9 1 w B v x) : Owns w B v x := by unfold OwnsF at h; rw [cStr_map] at h; exact h
theorem givesF_str {x : List (List UInt8)} {w : World} {e : Ending} {w' : World} (h : GivesRow x w e w') : GivesF cStr 9 1 x w e w' := by
  obtain ⟨v, h1, h2, h3⟩ := h; exact ⟨v, h1, ownsF_str h2, h3⟩
theorem eqStringS_f (v u : Value) (x y : List (List UInt8)) (w : World) (hx : FlatAt cStr 1 w v x) (hy : FlatAt cStr 1 w u y) : Calls Tryz.prog 22 #[v, u] w fun e w' => e = .returned (.bool (decide (x = y))) ∧ Below w.heap.size w w' :=
  eqStringS_any v u x y w (row_of_flat hx) (row_of_flat hy)
theorem marksString_len (k : Int) (n : Nat) : (marks k n).length = n := marks_len k n
theorem markStringS_f (B : Nat) (v : Value) (x : List (List UInt8)) (k : Int) (w : World) (hO : OwnsF cStr 9 1 w B v x) (hm : x.length ≤ 4194304) (h0 : 1 ≤ k) (h1 : k ≤ 4194304) :
    Calls Tryz.prog 24 #[v, .int .i64 k] w fun e w' => e = .returned (.int .i64 (k + x.length)) ∧ OwnsF cStr 9 1 w' B v (marks k x.length) ∧ w.grownBy w' v.ownBlock :=
  (markStringS_any B v x k w (owns_strF hO) hm h0 h1).mono fun e w' ⟨h1, h2, h3⟩ => ⟨h1, ownsF_str h2, h3⟩
theorem heldStringS_f (v : Value) (n : Nat) (k : Int) (w : World) (hR : FlatAt cStr 1 w v (marks k n)) (hm : n ≤ 4194304) (h0 : 1 ≤ k) (h1 : k ≤ 4194304) :
    Calls Tryz.prog 25 #[v, .int .i64 k] w fun e w' => e = .returned (.int .i64 (k + n)) ∧ Below w.heap.size w w' :=
  heldStringS_any v n k w (row_of_flat hR) hm h0 h1
theorem szStringS_f (v : Value) (x : List (List UInt8)) (left : Int) (w : World) (hx : FlatAt cStr 1 w v x) (hs : ∀ s ∈ x, s.length ≤ maxLen) (h0 : 0 ≤ left) (h1 : left ≤ 1099511627776) :
    Calls Tryz.prog 33 #[v, .int .i64 left] w fun e w' => SzF ((x.length + sumF List.length x : Nat) : Int) left w e w' :=
  (szStringS_any v x left w (row_of_flat hx) hs h0 h1).mono fun e w' ⟨r, h1, h2, h3, h4⟩ => ⟨r, h1, h2, fun h => by rw [← total_sum]; have := h3 h; push_cast; omega, by subst h4; exact Below.refl _ _⟩
theorem toStringS_f (v : Value) (x : List (List UInt8)) (w : World) (hx : FlatAt cStr 1 w v x) (hm : x.length ≤ 2097152) :
    Calls Tryz.prog 40 #[v] w fun e w' => e = .returned (.slice (some ⟨w.heap.size, 0, none⟩) x.length x.length) ∧ OwnsF cStr 9 1 w' w.heap.size (.slice (some ⟨w.heap.size, 0, none⟩) x.length x.length) x ∧ Below w.heap.size w w' :=
  (toStringS_any v x w (row_of_flat hx) hm).mono fun e w' ⟨h1, h2, h3⟩ => ⟨h1, ownsF_str h2, h3⟩
theorem toStringS_g (v : Value) (x : List (List UInt8)) (w : World) (hx : FlatAt cStr 1 w v x) (hm : x.length ≤ 2097152) :
    Calls Tryz.prog 40 #[v] w fun e w' => GivesF cStr 9 1 x w e w' :=
  (toStringS_f v x w hx hm).mono fun e w' ⟨h1, h2, h3⟩ => ⟨_, h1, h2, h3⟩
end Go.Proofs.YtlkpinlkbikokabGreat
/- Texts in ascending order, each once: the plain side. -/
namespace Go.Proofs.YtlkpinlkbikokabGreat

/-- texts in strictly ascending order -/
def Strict (l : List (List UInt8)) : Prop := l.Pairwise (· < ·)
/-- s is put in front of the first text that is not less, unless it is that text -/
def ins (s : List UInt8) : List (List UInt8) → List (List UInt8)
  | [] => [s]
  | x :: r => if x < s then x :: ins s r else if x = s then x :: r else s :: x :: r
def ascL (x : List (List UInt8)) : List (List UInt8) := x.foldl (fun a y => ins y a) []

theorem strict_unique : ∀ {a b : List (List UInt8)}, Strict a → Strict b → (∀ x, x ∈ a ↔ x ∈ b) → a = b := by
  intro a
  induction a with
  | nil =>
    intro b _ _ h
    cases b with
    | nil => rfl
    | cons y s => exact absurd ((h y).2 (List.mem_cons_self ..)) (by simp)
  | cons x r ih =>
    intro b ha hb h
    cases b with
    | nil => exact absurd ((h x).1 (List.mem_cons_self ..)) (by simp)
    | cons y s =>
      have ha' := List.pairwise_cons.1 ha
      have hb' := List.pairwise_cons.1 hb
      have e : x = y := by
        rcases List.mem_cons.1 ((h x).1 (List.mem_cons_self ..)) with h1 | h1
        · exact h1
        · rcases List.mem_cons.1 ((h y).2 (List.mem_cons_self ..)) with h2 | h2
          · exact h2.symm
          · exact absurd (List.lt_trans (hb'.1 x h1) (ha'.1 y h2)) (List.lt_irrefl _)
      subst e
      congr 1
      refine ih ha'.2 hb'.2 fun z => ⟨fun hz => ?_, fun hz => ?_⟩
      · rcases List.mem_cons.1 ((h z).1 (List.mem_cons_of_mem _ hz)) with h1 | h1
        · subst h1; exact absurd (ha'.1 z hz) (List.lt_irrefl _)
        · exact h1
      · rcases List.mem_cons.1 ((h z).2 (List.mem_cons_of_mem _ hz)) with h1 | h1
        · subst h1; exact absurd (hb'.1 z hz) (List.lt_irrefl _)
        · exact h1
theorem mem_ins (s : List UInt8) : ∀ (l : List (List UInt8)) (z : List UInt8), z ∈ ins s l ↔ z = s ∨ z ∈ l := by
  intro l
  induction l with
  | nil => intro z; simp [ins]
  | cons x r ih =>
    intro z
    unfold ins
    split
    · simp only [List.mem_cons, ih]
      constructor
      · rintro (h | h | h)
        · exact Or.inr (Or.inl h)
        · exact Or.inl h
        · exact Or.inr (Or.inr h)
      · rintro (h | h | h)
        · exact Or.inr (Or.inl h)
        · exact Or.inl h
        · exact Or.inr (Or.inr h)
    · split
      · rename_i h; subst h; simp
      · simp
theorem strict_ins (s : List UInt8) : ∀ (l : List (List UInt8)), Strict l → Strict (ins s l) := by
  intro l
  induction l with
  | nil => intro _; simp [ins, Strict]
  | cons x r ih =>
    intro h
    have h' := List.pairwise_cons.1 h
    unfold ins
    split
    · rename_i hx
      refine List.pairwise_cons.2 ⟨fun z hz => ?_, ih h'.2⟩
      rcases (mem_ins s r z).1 hz with h1 | h1
      · subst h1; exact hx
      · exact h'.1 z h1
    · split
      · exact h
      · rename_i h1 h2
        have hsx : s < x := by
          rcases Decidable.em (s < x) with h3 | h3
          · exact h3
          · exact absurd (List.le_antisymm (List.not_lt.1 h3) (List.not_lt.1 h1)) h2
        refine List.pairwise_cons.2 ⟨fun z hz => ?_, h⟩
        rcases List.mem_cons.1 hz with h3 | h3
        · subst h3; exact hsx
        · exact List.lt_trans hsx (h'.1 z h3)
theorem foldl_ins : ∀ (x a : List (List UInt8)), Strict a → Strict (x.foldl (fun a y => ins y a) a) ∧ ∀ z, z ∈ x.foldl (fun a y => ins y a) a ↔ z ∈ a ∨ z ∈ x := by
  intro x
  induction x with
  | nil => intro a h; exact ⟨h, fun z => by simp⟩
  | cons y r ih =>
    intro a h
    have := ih (ins y a) (strict_ins y a h)
    refine ⟨this.1, fun z => ?_⟩
    rw [List.foldl_cons, this.2 z, mem_ins, List.mem_cons]
    constructor
    · rintro ((h | h) | h)
      · exact Or.inr (Or.inl h)
      · exact Or.inl h
      · exact Or.inr (Or.inr h)
    · rintro (h | h | h)
      · exact Or.inl (Or.inr h)
      · exact Or.inl (Or.inl h)
      · exact Or.inr h
theorem asc_strict (x : List (List UInt8)) : Strict (ascL x) := (foldl_ins x [] List.Pairwise.nil).1
theorem asc_mem (x : List (List UInt8)) (z : List UInt8) : z ∈ ascL x ↔ z ∈ x := by
  have := (foldl_ins x [] List.Pairwise.nil).2 z
  simpa [ascL] using this
theorem asc_eq {x y : List (List UInt8)} (h : Strict y) (hm : ∀ z, z ∈ y ↔ z ∈ x) : y = ascL x :=
  strict_unique h (asc_strict x) fun z => by rw [hm z, asc_mem x z]
theorem asc_idem (x : List (List UInt8)) : ascL (ascL x) = ascL x := (asc_eq (asc_strict x) fun _ => Iff.rfl).symm
theorem ins_len (s : List UInt8) (l : List (List UInt8)) : (ins s l).length ≤ l.length + 1 := by
  induction l with
  | nil => simp [ins]
  | cons x r ih => unfold ins; split <;> (try split) <;> simp <;> omega
theorem foldl_len : ∀ (x a : List (List UInt8)), (x.foldl (fun a y => ins y a) a).length ≤ a.length + x.length := by
  intro x
  induction x with
  | nil => intro a; simp
  | cons y r ih => intro a; have := ih (ins y a); have := ins_len y a; simp only [List.foldl_cons, List.length_cons]; omega
theorem asc_len (x : List (List UInt8)) : (ascL x).length ≤ x.length := by have := foldl_len x []; simpa [ascL] using this

/-- the loop of the model's l1Put -/
theorem ins_below {s : List UInt8} {p : List (List UInt8)} (h : ∀ z ∈ p, z < s) (t : List (List UInt8)) : ins s (p ++ t) = p ++ ins s t := by
  induction p with
  | nil => rfl
  | cons x r ih =>
    have hx := h x (List.mem_cons_self ..)
    simp only [List.cons_append, ins, if_pos hx]
    rw [ih fun z hz => h z (List.mem_cons_of_mem _ hz)]
theorem ins_done {s : List UInt8} {p : List (List UInt8)} (h : ∃ z ∈ p, ¬ z < s) (t : List (List UInt8)) : ins s (p ++ t) = ins s p ++ t := by
  induction p with
  | nil => obtain ⟨z, hz, _⟩ := h; simp at hz
  | cons x r ih =>
    simp only [List.cons_append, ins]
    by_cases hx : x < s
    · obtain ⟨z, hz, hzs⟩ := h
      rcases List.mem_cons.1 hz with h1 | h1
      · subst h1; exact absurd hx hzs
      · rw [if_pos hx, if_pos hx, ih ⟨z, h1, hzs⟩]; rfl
    · rw [if_neg hx, if_neg hx]
      split <;> rfl

/-- what slices.Compact leaves of a sorted list -/
theorem compact_sorted (d : Array (List UInt8)) (hs : ∀ i j, i ≤ j → j < d.size → d[i]! ≤ d[j]!) : ∀ m, m ≤ d.size →
    Strict (Lib.compactUpTo d m) ∧ (∀ z, z ∈ Lib.compactUpTo d m ↔ ∃ i, i < m ∧ d[i]! = z) := by
  intro m
  induction m with
  | zero => intro _; exact ⟨List.Pairwise.nil, fun z => by simp [Lib.compactUpTo]⟩
  | succ m ih =>
    intro hm
    obtain ⟨h1, h2⟩ := ih (by omega)
    rw [Lib.compactUpTo_succ]
    by_cases hk : m = 0 ∨ d[m]! ≠ d[m - 1]!
    · have hk' : Lib.keeps d m = true := by simpa [Lib.keeps] using hk
      rw [if_pos hk']
      constructor
      · refine List.pairwise_append.2 ⟨h1, by simp, fun a ha b hb => ?_⟩
        have hb' : b = d[m]! := by simpa using hb
        subst hb'
        obtain ⟨i, hi, rfl⟩ := (h2 a).1 ha
        have hne : d[m]! ≠ d[m - 1]! := by rcases hk with h | h; · omega
                                           · exact h
        rcases Decidable.em (d[i]! < d[m]!) with h | h
        · exact h
        · exfalso
          have e : d[i]! = d[m]! := List.le_antisymm (hs i m (by omega) (by omega)) (List.not_lt.1 h)
          have h3 := hs i (m - 1) (by omega) (by omega)
          have h4 := hs (m - 1) m (by omega) (by omega)
          rw [e] at h3
          exact hne (List.le_antisymm h3 h4)
      · intro z
        rw [List.mem_append, h2 z]
        constructor
        · rintro (⟨i, hi, e⟩ | h)
          · exact ⟨i, by omega, e⟩
          · exact ⟨m, by omega, by simpa using (show z = d[m]! by simpa using h).symm⟩
        · rintro ⟨i, hi, e⟩
          rcases Nat.lt_or_ge i m with h | h
          · exact Or.inl ⟨i, h, e⟩
          · right; have : i = m := by omega
            subst this; simp [e]
    · have hk' : Lib.keeps d m = false := by simpa [Lib.keeps] using hk
      rw [if_neg (by simp [hk']), List.append_nil]
      refine ⟨h1, fun z => ?_⟩
      rw [h2 z]
      constructor
      · rintro ⟨i, hi, e⟩; exact ⟨i, by omega, e⟩
      · rintro ⟨i, hi, e⟩
        rcases Nat.lt_or_ge i m with h | h
        · exact ⟨i, h, e⟩
        · have : i = m := by omega
          subst this
          have hm0 : i ≠ 0 := fun h => hk (Or.inl h)
          have he : d[i]! = d[i - 1]! := Decidable.byContradiction fun h => hk (Or.inr h)
          exact ⟨i - 1, by omega, by rw [← he]; exact e⟩
def leB (x y : List UInt8) : Bool := decide (x ≤ y)
theorem compact_mergeSort (x : List (List UInt8)) : Lib.compact (x.mergeSort fun a b => decide (a ≤ b)) = ascL x := by
  have hp := List.pairwise_mergeSort (le := fun a b : List UInt8 => decide (a ≤ b)) (fun a b c h1 h2 => by simp at *; exact List.le_trans h1 h2) (fun a b => by simp; exact List.le_total a b) x
  generalize hl : (x.mergeSort fun a b => decide (a ≤ b)) = l at *
  have hmem : ∀ z, z ∈ l ↔ z ∈ x := fun z => by rw [← hl]; exact List.mem_mergeSort
  have hs : ∀ i j, i ≤ j → j < l.toArray.size → l.toArray[i]! ≤ l.toArray[j]! := by
    intro i j hij hj
    have hj' : j < l.length := by simpa using hj
    rw [getElem!_pos _ i (by simp; omega), getElem!_pos _ j (by simpa using hj')]
    simp only [List.getElem_toArray]
    rcases Nat.lt_or_ge i j with h | h
    · have := List.pairwise_iff_getElem.1 hp i j (by omega) hj' h
      simpa using this
    · have : i = j := by omega
      subst this; exact List.le_refl _
  have h := compact_sorted l.toArray hs l.length (by simp)
  refine asc_eq h.1 fun z => ?_
  rw [← hmem z]
  unfold Lib.compact
  rw [h.2 z, List.mem_iff_getElem]
  constructor
  · rintro ⟨i, hi, e⟩; exact ⟨i, hi, by rw [← e, getElem!_pos _ i (by simpa using hi)]; simp⟩
  · rintro ⟨i, hi, e⟩; exact ⟨i, hi, by rw [getElem!_pos _ i (by simpa using hi)]; simpa using e⟩
end Go.Proofs.YtlkpinlkbikokabGreat
/- Ascending, the model's and the program's. -/
namespace Go.Proofs.YtlkpinlkbikokabGreat
set_option linter.unusedVariables false
open Go.RowKit
theorem grow_below (w : World) (os : Array Obj) : Below w.heap.size w (Sort.grow w os) := ⟨rfl, rfl, rfl, by simp [Sort.grow], fun k hk => Sort.heap_grow_old w os hk⟩
theorem strV_enc : strV = Proofs.encStr := rfl
set_option maxRecDepth 100000 in
set_option maxHeartbeats 800000 in
theorem copyTexts_any (v : Value) (x : List (List UInt8)) (w : World) (hR : RowAt w v (x.map strV)) (hm : x.length ≤ 2097152) (hz : ∀ s ∈ x, s.length ≤ 140737488355328) :
    Calls Tryz.prog 86 #[v] w fun e w' => ∃ u, e = .returned u ∧ Owns w' w.heap.size u x ∧ u ≠ .slice none 0 0 ∧ Below w.heap.size w w' := by
  obtain ⟨a, c, rfl, hl⟩ := rowAt_len hR
  rw [List.length_map] at *
  obtain ⟨i0, hi, hz0, hz1, hz2⟩ := info_parts string_info
  have HR := Lib.hid hR
  have HZ := Lib.hid hz
  have HB2 := Lib.hid (show i0.bytes * x.length ≤ 281474976710656 by rw [hz2]; omega)
  have HM := Lib.hid (show x.length ≤ maxLen from by unfold maxLen; omega)
  clear hR hz hl
  go_enter Tryz.func86, Tryz.ntmps86
  go_wp2_with (refine wpList_make_own _ rfl _ _ 22 rfl w.heap.size 9 i0 (.string ⟨#[]⟩) 1 Tryz.underlying22 hi hz0 hz1 .i64 .i64 _ x.length rfl rfl rfl HB2.out HM.out (Nat.le_refl _) ?_; intro w1 hown1 hgrow1)
  have HO := Lib.hid (show Owns w1 w.heap.size (.slice (some ⟨w.heap.size, 0, none⟩) 0 x.length) [] from hown1)
  have HB := Lib.hid (show Below w.heap.size w w1 from ⟨hgrow1.os, hgrow1.tape, hgrow1.output, hgrow1.size, fun i hi => hgrow1.block i hi (by simp)⟩)
  clear hown1 hgrow1 hz0 hz1 hz2 HB2 hi
  go_loopw [3, 5, 11] (fun ov _ i wr => ∃ k : Nat, k ≤ x.length ∧ i = .int .i64 k ∧ Owns wr w.heap.size ov (x.take k) ∧ ov ≠ .slice none 0 0 ∧ Below w.heap.size w wr) (fun _ _ i _ => x.length - (intOf i).toNat)
  case atStart => exact ⟨0, Nat.zero_le _, rfl, HO.out, by simp, HB.out⟩
  case round =>
    obtain ⟨k, hk, rfl, hO, hnn, hb⟩ := hrel
    have HO2 := Lib.hid hO
    have HB2 := Lib.hid hb
    have HNN := Lib.hid hnn
    have HRr := Lib.hid (RowAt.below HR.out hb (Nat.le_refl _))
    clear hO hb hnn
    by_cases hlt : k < x.length
    · obtain ⟨b, o, rfl, hbw, d1⟩ := rowAt_cell HRr.out k (by simpa using hlt)
      rw [getElem_map_strV] at d1
      unfold strV at d1
      have hzk := HZ.out _ (List.getElem_mem hlt)
      have HT := Lib.hid (List.take_succ_eq_append_getElem hlt)
      go_wp2_with fail
      refine (copyText_any ⟨(x[k]).toArray⟩ wr (by rw [size_strB]; exact hzk)).mono ?_
      rintro e w2 ⟨rfl, hb2⟩
      have HB3 := Lib.hid (HB2.out.trans (hb2.mono HB2.out.size))
      have HO3 := Lib.hid (owns_below HO2.out hb2 (Nat.le_refl _))
      clear hb2
      have hlk : (x.take k).length ≤ 4194304 := by simp; omega
      go_wp2_with (at_builtin; (refine append_strsN rfl _ _ rfl w.heap.size _ (x.take k) x[k] _ w2.heap.size (by rfl) (owns_alloc HO3.out _) rfl (cell_new _ _ _) hlk (by have := HB3.out.size; simp; omega) HNN.out ?_; intro v' w3 hO1 hg1 hnn1))
      exact ⟨⟨k + 1, by omega, by go_num, by rw [HT.out]; exact hO1, hnn1, below_append (HB3.out.alloc HB3.out.size _) (owns_alloc HO3.out _) hg1 (by have := HB3.out.size; simp; omega)⟩, by simp [intOf]; omega⟩
    · have HT := Lib.hid (show x.take k = x from List.take_of_length_le (by omega))
      rw [HT.out] at HO2
      go_wp2
      go_ret
      exact ⟨u3, rfl, HO2.out, HNN.out, HB2.out⟩
set_option maxRecDepth 100000 in
set_option maxHeartbeats 800000 in
theorem implAsc_any (v : Value) (x : List (List UInt8)) (w : World) (hR : RowAt w v (x.map strV)) (hm : x.length ≤ 2097152) (hz : ∀ s ∈ x, s.length ≤ 140737488355328) :
    Calls Tryz.prog 55 #[v] w fun e w' => GivesRow (ascL x) w e w' := by
  have HCT := Lib.hid (copyTexts_any v x w hR hm hz)
  clear hR hz
  go_enter Tryz.func55, Tryz.ntmps55
  go_wp2_with fail
  refine HCT.out.mono ?_
  rintro e wr ⟨u, rfl, hO, hnn, hb⟩
  have HO2 := Lib.hid hO
  have HB2 := Lib.hid hb
  have HNN := Lib.hid hnn
  clear hO hb hnn
  obtain ⟨g, cap, rfl, hgB, hgw, hcap, hcm, _, hH⟩ := Lib.holds_of_ownsRow (enc := Proofs.encStr) HO2.out HNN.out
  have HH := Lib.hid hH
  clear hH
  go_wp2_with fail
  refine (Tryz.slices_Sort_string g 0 cap x wr HH.out hgw (by omega)).mono ?_
  rintro e w2 ⟨rfl, n, os, hw⟩
  have hyl : (x.mergeSort fun a b => decide (a ≤ b)).length = x.length := List.length_mergeSort x
  have HC := Lib.hid (compact_mergeSort x)
  generalize (x.mergeSort fun a b => decide (a ≤ b)) = y at *
  have O2 := Lib.hid (show Owns w2 w.heap.size (.slice (some ⟨g, 0, none⟩) y.length cap) y from by
    have h := Lib.ownsRow_putRow (enc := Proofs.encStr) (q := n) HO2.out hyl (Nat.le_refl _)
    rw [List.take_of_length_le (by omega), ← hyl] at h
    have h2 := ownsRow_below h (grow_below _ os) (Nat.le_refl _)
    rw [← hw] at h2; exact h2)
  have B2 := Lib.hid (show Below w.heap.size w w2 from by
    have h := Lib.below_putRow (enc := Proofs.encStr) (q := n) (d := y.toArray) HB2.out hgB
    rw [hw]; exact h.trans ((grow_below _ os).mono h.size))
  obtain ⟨g', cap', e1, _, hgw2, hcap2, hcm2, _, hH2⟩ := Lib.holds_of_ownsRow (enc := Proofs.encStr) O2.out (by simp)
  injection e1 with e1 e2 e3
  injection e1 with e1
  injection e1 with e1
  subst e1; subst e3
  have HH2 := Lib.hid hH2
  have HYL := Lib.hid hyl
  clear hw hH2 hyl
  rw [← HYL.out]
  go_wp2_with fail
  refine (Tryz.slices_Compact_string g 0 cap y w2 HH2.out (by have := HYL.out; omega) hcap2).mono ?_
  rintro e w3 ⟨rfl, q, hw⟩
  rw [HC.out] at hw ⊢
  have hal := asc_len x
  have O3 := Lib.hid (show Owns w3 w.heap.size (.slice (some ⟨g, 0, none⟩) (ascL x).length cap) (ascL x) from by
    have h := Lib.ownsRow_putRow (enc := Proofs.encStr) (q := q) (k := (ascL x).length) (ys := ascL x ++ List.replicate (y.length - (ascL x).length) []) O2.out (by simp; have := HYL.out; omega) (by have := HYL.out; omega)
    rw [List.take_left' rfl] at h
    rw [hw]; exact h)
  have B3 := Lib.hid (show Below w.heap.size w w3 from by
    have h := Lib.below_putRow (enc := Proofs.encStr) (q := q) (d := (ascL x ++ List.replicate (y.length - (ascL x).length) []).toArray) B2.out hgB
    rw [hw]; exact h)
  clear hw
  go_wp2_with fail
  go_ret
  exact ⟨_, rfl, O3.out, B3.out⟩
theorem bytes_lt (a b : List UInt8) : Op.bytesLess a b = decide (a < b) := Proofs.bytesLess_eq a b
/-- the loop of the model's l1Put: what is out after p, and whether s is in -/
def PutInv (s : List UInt8) (p : List (List UInt8)) (out : List (List UInt8)) (done : Bool) : Prop :=
  (done = false ∧ out = p ∧ ∀ z ∈ p, z < s) ∨ (done = true ∧ out = ins s p ∧ ∃ z ∈ p, ¬ z < s)
theorem put_start (s : List UInt8) : PutInv s [] [] false := Or.inl ⟨rfl, rfl, by simp⟩
theorem put_less {s : List UInt8} {p out : List (List UInt8)} (h : PutInv s p out false) (x : List UInt8) (hx : x < s) : PutInv s (p ++ [x]) (out ++ [x]) false := by
  rcases h with ⟨_, rfl, h⟩ | ⟨h, _⟩
  · refine Or.inl ⟨rfl, rfl, fun z hz => ?_⟩
    rcases List.mem_append.1 hz with h1 | h1
    · exact h z h1
    · rw [List.mem_singleton.1 h1]; exact hx
  · cases h
theorem put_done {s : List UInt8} {p out : List (List UInt8)} (h : PutInv s p out true) (x : List UInt8) : PutInv s (p ++ [x]) (out ++ [x]) true := by
  rcases h with ⟨h, _⟩ | ⟨_, rfl, z, hz, hzs⟩
  · cases h
  · exact Or.inr ⟨rfl, (ins_done ⟨z, hz, hzs⟩ [x]).symm, z, List.mem_append_left _ hz, hzs⟩
theorem put_eq {s : List UInt8} {p out : List (List UInt8)} (h : PutInv s p out false) (x : List UInt8) (hx : ¬ x < s) (he : x = s) : PutInv s (p ++ [x]) (out ++ [x]) true := by
  rcases h with ⟨_, rfl, h⟩ | ⟨h, _⟩
  · refine Or.inr ⟨rfl, ?_, x, by simp, hx⟩
    rw [ins_below h]; simp [ins, he]
  · cases h
theorem put_new {s : List UInt8} {p out : List (List UInt8)} (h : PutInv s p out false) (x : List UInt8) (hx : ¬ x < s) (he : ¬ x = s) : PutInv s (p ++ [x]) (out ++ [s] ++ [x]) true := by
  rcases h with ⟨_, rfl, h⟩ | ⟨h, _⟩
  · refine Or.inr ⟨rfl, ?_, x, by simp, hx⟩
    rw [ins_below h]; simp [ins, hx, he]
  · cases h
theorem put_last {s : List UInt8} {p out : List (List UInt8)} (h : PutInv s p out false) : out ++ [s] = ins s p := by
  rcases h with ⟨_, rfl, h⟩ | ⟨h, _⟩
  · have := ins_below h []; rw [List.append_nil] at this; rw [this]; rfl
  · cases h
theorem put_end {s : List UInt8} {p out : List (List UInt8)} (h : PutInv s p out true) : out = ins s p := by
  rcases h with ⟨h, _⟩ | ⟨_, h, _⟩
  · cases h
  · exact h
theorem put_len {s : List UInt8} {p out : List (List UInt8)} {d : Bool} (h : PutInv s p out d) : out.length ≤ p.length + 1 := by
  rcases h with ⟨_, rfl, _⟩ | ⟨_, rfl, _⟩
  · omega
  · exact ins_len s p
set_option maxRecDepth 100000 in
set_option maxHeartbeats 1600000 in
theorem l1Put_any (v : Value) (x : List (List UInt8)) (s : ByteArray) (w : World) (hR : RowAt w v (x.map strV)) (hm : x.length ≤ 2097152) :
    Calls Tryz.prog 51 #[v, .string s] w fun e w' => GivesRow (ins s.data.toList x) w e w' := by
  obtain ⟨a, c, rfl, hl⟩ := rowAt_len hR
  rw [List.length_map] at *
  have HR := Lib.hid hR
  have HO := Lib.hid (owns_new w)
  clear hR hl
  go_enter Tryz.func51, Tryz.ntmps51
  go_wp2_with fail
  go_loopw [5, 6, 8, 12] (fun ov dv _ i wr => ∃ (k : Nat) (done : Bool) (out : List (List UInt8)), k ≤ x.length ∧ i = .int .i64 k ∧ dv = .bool done ∧ PutInv s.data.toList (x.take k) out done ∧ Owns wr w.heap.size ov out ∧ Below w.heap.size w wr) (fun _ _ _ i _ => x.length - (intOf i).toNat)
  case atStart => exact ⟨0, false, [], Nat.zero_le _, rfl, rfl, put_start _, HO.out, (Below.refl _ _).alloc (Nat.le_refl _) _⟩
  case round =>
    obtain ⟨k, done, out, hk, rfl, rfl, hinv, hO, hb⟩ := hrel
    have hol : out.length ≤ 4194303 := by have := put_len hinv; simp at this; omega
    have HI := Lib.hid hinv
    have HO2 := Lib.hid hO
    have HB := Lib.hid hb
    have HRr := Lib.hid (RowAt.below HR.out hb (Nat.le_refl _))
    clear hinv hO hb
    by_cases hlt : k < x.length
    · obtain ⟨b, o, rfl, hbw, d1⟩ := rowAt_cell HRr.out k (by simpa using hlt)
      rw [getElem_map_strV] at d1
      unfold strV at d1
      have HT := Lib.hid (List.take_succ_eq_append_getElem hlt)
      cases done
      · by_cases hls : x[k] < s.data.toList
        · have hbl : Op.bytesLess x[k] s.toList = true := by rw [bytes_lt, Lib.toList_data]; simpa using hls
          have HN := Lib.hid (put_less HI.out x[k] hls)
          clear hls
          go_wp2_with (at_builtin; (refine append_strs rfl _ _ rfl w.heap.size _ out x[k] _ wr.heap.size (by rfl) (owns_alloc HO2.out _) rfl (cell_new _ _ _) (by omega) (by have := HB.out.size; simp; omega) ?_; intro v' w3 hO1 hg1))
          exact ⟨⟨k + 1, false, _, by omega, by go_num, rfl, by rw [HT.out]; exact HN.out, hO1, below_append (HB.out.alloc HB.out.size _) (owns_alloc HO2.out _) hg1 (by have := HB.out.size; simp; omega)⟩, by simp [intOf]; omega⟩
        · have hbl : Op.bytesLess x[k] s.toList = false := by rw [bytes_lt, Lib.toList_data]; simpa using hls
          by_cases heq : x[k] = s.data.toList
          · have hbeq : (x[k] == s.toList) = true := by rw [Lib.toList_data, beq_iff_eq]; exact heq
            have HN := Lib.hid (put_eq HI.out x[k] hls heq)
            clear hls heq
            go_wp2_with (at_builtin; (refine append_strs rfl _ _ rfl w.heap.size _ out x[k] _ wr.heap.size (by rfl) (owns_alloc HO2.out _) rfl (cell_new _ _ _) (by omega) (by have := HB.out.size; simp; omega) ?_; intro v' w3 hO1 hg1))
            exact ⟨⟨k + 1, true, _, by omega, by go_num, rfl, by rw [HT.out]; exact HN.out, hO1, below_append (HB.out.alloc HB.out.size _) (owns_alloc HO2.out _) hg1 (by have := HB.out.size; simp; omega)⟩, by simp [intOf]; omega⟩
          · have hbeq : (x[k] == s.toList) = false := by rw [Lib.toList_data, beq_eq_false_iff_ne]; exact heq
            have HN := Lib.hid (put_new HI.out x[k] hls heq)
            clear hls heq
            go_wp2_with (first
              | (at_builtin; (refine append_strs rfl (.tmp 26) (.tmp 28) rfl w.heap.size _ out s.data.toList _ wr.heap.size (by rfl) (owns_alloc HO2.out _) rfl (cell_newS _ _ _ _ rfl) (by omega) (by have := HB.out.size; simp; omega) ?_; intro v' w3 hO1 hg1; have HB3 := Lib.hid (below_append (HB.out.alloc HB.out.size _) (owns_alloc HO2.out _) hg1 (by have := HB.out.size; simp; omega)); have HO3 := Lib.hid hO1; clear hO1 hg1))
              | (at_builtin; (refine append_strs rfl (.tmp 30) (.tmp 32) rfl w.heap.size _ (out ++ [s.data.toList]) x[k] _ w3.heap.size (by rfl) (owns_alloc HO3.out _) rfl (cell_new _ _ _) (by simp; omega) (by have := HB3.out.size; simp; omega) ?_; intro v2 w4 hO2 hg2)))
            exact ⟨⟨k + 1, true, _, by omega, by go_num, rfl, by rw [HT.out]; exact HN.out, hO2, below_append (HB3.out.alloc HB3.out.size _) (owns_alloc HO3.out _) hg2 (by have := HB3.out.size; simp; omega)⟩, by simp [intOf]; omega⟩
      · have HN := Lib.hid (put_done HI.out x[k])
        go_wp2_with (at_builtin; (refine append_strs rfl _ _ rfl w.heap.size _ out x[k] _ wr.heap.size (by rfl) (owns_alloc HO2.out _) rfl (cell_new _ _ _) (by omega) (by have := HB.out.size; simp; omega) ?_; intro v' w3 hO1 hg1))
        exact ⟨⟨k + 1, true, _, by omega, by go_num, rfl, by rw [HT.out]; exact HN.out, hO1, below_append (HB.out.alloc HB.out.size _) (owns_alloc HO2.out _) hg1 (by have := HB.out.size; simp; omega)⟩, by simp [intOf]; omega⟩
    · have HT := Lib.hid (show x.take k = x from List.take_of_length_le (by omega))
      cases done
      · have HN := Lib.hid (put_last HI.out)
        go_wp2_with (at_builtin; (refine append_strs rfl _ _ rfl w.heap.size _ out s.data.toList _ wr.heap.size (by rfl) (owns_alloc HO2.out _) rfl (cell_newS _ _ _ _ rfl) (by omega) (by have := HB.out.size; simp; omega) ?_; intro v' w3 hO1 hg1))
        go_ret
        exact ⟨_, rfl, by have h := HN.out; rw [HT.out] at h; rw [← h]; exact hO1, below_append (HB.out.alloc HB.out.size _) (owns_alloc HO2.out _) hg1 (by have := HB.out.size; simp; omega)⟩
      · have HN := Lib.hid (put_end HI.out)
        go_wp2_with fail
        go_ret
        exact ⟨_, rfl, by have h := HN.out; rw [HT.out] at h; rw [← h]; exact HO2.out, HB.out⟩
end Go.Proofs.YtlkpinlkbikokabGreat
/- Ascending: the model's. -/
namespace Go.Proofs.YtlkpinlkbikokabGreat
set_option linter.unusedVariables false
open Go.RowKit
theorem asc_snoc (x : List (List UInt8)) (k : Nat) (h : k < x.length) : ascL (x.take (k + 1)) = ins x[k] (ascL (x.take k)) := by
  rw [List.take_succ_eq_append_getElem h]; unfold ascL; rw [List.foldl_append]; rfl
theorem total_mem (x : List (List UInt8)) (s : List UInt8) (h : s ∈ x) : s.length ≤ total x := by
  induction x with
  | nil => simp at h
  | cons a r ih =>
    rcases List.mem_cons.1 h with h | h
    · subst h; simp only [total]; omega
    · have := ih h; simp only [total]; omega
def GivesAt (x : List (List UInt8)) (w : World) (e : Ending) (w' : World) : Prop := ∃ v, e = .returned v ∧ RowAt w' v (x.map strV) ∧ Below w.heap.size w w'
end Go.Proofs.YtlkpinlkbikokabGreat
/- Contracts of chapter 2: MethodsOf. -/
namespace Go.Proofs.YtlkpinlkbikokabGreat
set_option linter.unusedVariables false
open Go.RowKit
/-- append of a row of texts that lies in a block of its own -/
theorem append_rows {ops : Array Oper} {rest : List Oper} {o : Oper} {a : Act} {Q : Exit → Act → World → Prop} (hgd : o.guard = none) (s x : Operand)
    (ho : o.op = .call { callee := .builtin .append, args := #[s, x], argTypes := #[22, 22] }) (B : Nat) (v : Value) (xs ys : List (List UInt8)) (w : World) (blk n : Nat) (hn : n = ys.length)
    (hs : a.eval s = v) (hO : Owns w B v xs) (hx : a.eval x = .slice (some ⟨blk, 0, none⟩) n n) (hc : ∀ j, j < ys.length → w.cell? ⟨blk, j, none⟩ = (ys.map strV)[j]?) (hl : xs.length ≤ 4194304) (hl2 : ys.length ≤ 4194304) (hB : B ≤ w.heap.size)
    (h : ∀ v' w', Owns w' B v' (xs ++ ys) → w.grownBy w' v.ownBlock → wpList Tryz.prog ops Q rest (a.put o.dst v') w') : wpList Tryz.prog ops Q (o :: rest) a w := by
  subst hn
  obtain ⟨i0, hi, hz0, hz1, hz2⟩ := info_parts string_info
  refine wpList_append_own _ hgd s x 22 ho B 9 i0 (.string ⟨#[]⟩) 1 16 Tryz.underlying22 hi hz0 hz1 hz2 rfl (by decide) v xs.length (xs.map strV) hs hO ⟨blk, 0, none⟩ ys.length ys.length (ys.map strV) hx (by simp) ?_ ?_ (by unfold maxLen; omega) (by omega) hB ?_
  · intro j u hj
    have hj2 : j < ys.length := by have := (List.getElem?_eq_some_iff.1 hj).1; simpa using this
    rw [Addr.add_lit, Nat.zero_add, hc j hj2]; exact hj
  · intro u hu
    obtain ⟨y, _, rfl⟩ := List.mem_map.1 hu
    rfl
  · intro v' w' h1 h2 _
    refine h v' w' ?_ h2
    unfold Owns; rw [List.map_append, List.length_append]; exact h1
/-- what is owned from B on is owned from an earlier block on -/
theorem ownsRow_base {w : World} {B B' : Nat} {e : TypeId} {size n : Nat} {v : Value} {xs : List Value} (h : w.ownsRow B e size v n xs) (hB : B' ≤ B) : w.ownsRow B' e size v n xs := by
  refine ⟨h.1, h.2.imp id ?_⟩
  rintro ⟨g, cap, cur, h1, h2, h3⟩
  exact ⟨g, cap, cur, h1, Nat.le_trans hB h2, h3⟩
theorem owns_base {w : World} {B B' : Nat} {v : Value} {xs : List (List UInt8)} (h : Owns w B v xs) (hB : B' ≤ B) : Owns w B' v xs := ownsRow_base h hB
theorem mth_cell (w : World) (k j : Nat) (hj : j < (mthN k).length) : (w.alloc (.cells ((mthN k).map strV).toArray 9)).cell? ⟨w.heap.size, j, none⟩ = ((mthN k).map strV)[j]? := by
  rw [cell_of_row _ _ _ _ 9 (0, 0) (heap_alloc_new w _)]
  simp
theorem meths_len (L : List Nat) : (L.flatMap mthN).length ≤ 2 * L.length := by
  induction L with
  | nil => simp
  | cons a r ih => have := mthN_len a; rw [List.flatMap_cons, List.length_append]; simp only [List.length_cons]; omega
theorem meths_short (L : List Nat) (s : List UInt8) (h : s ∈ L.flatMap mthN) : s.length ≤ 5 := by
  obtain ⟨k, _, hs⟩ := List.mem_flatMap.1 h
  exact mthN_short k s hs
theorem flat_snoc (L : List Nat) (j : Nat) (h : j < L.length) : (L.take (j + 1)).flatMap mthN = (L.take j).flatMap mthN ++ mthN L[j] := by
  rw [List.take_succ_eq_append_getElem h, List.flatMap_append]; simp
theorem meths_no {f : Int} (h : isF f = false) : methsF f = [] := by unfold methsF; rw [abilL_no h]; rfl
theorem meths_yes {f : Int} (h : isF f = true) : methsF f = (abilK f 6).flatMap mthN := by unfold methsF; rw [abilL_yes h]
theorem methK_yes {f : Int} {k : Nat} (h : hasI f k = true) : (abilK f (k + 1)).flatMap mthN = (abilK f k).flatMap mthN ++ mthN k := by rw [abilK_succ, if_pos h, List.flatMap_append]; simp
end Go.Proofs.YtlkpinlkbikokabGreat
/- Contracts of chapter 4: RecipeOf, both sides. -/
namespace Go.Proofs.YtlkpinlkbikokabGreat
set_option linter.unusedVariables false
set_option linter.unusedSimpArgs false
open Go.RowKit
def recL (x : PartD) : List (List UInt8) := x.fCore.fKind :: x.fLayers.map (·.fName)
theorem owns_oneL (w : World) (B : Nat) (a : List UInt8) (h : B ≤ w.heap.size) : Owns (w.alloc (.cells #[.string ⟨a.toArray⟩] 9)) B (.slice (some ⟨w.heap.size, 0, none⟩) 1 1) [a] :=
  ⟨rfl, .inr ⟨w.heap.size, 1, #[.string ⟨a.toArray⟩], rfl, h, heap_alloc_new w _, Nat.le_refl _, by decide, rfl, by simp [strV]⟩⟩
theorem rec_len (k : List UInt8) (l : List LayerD) (n : Nat) : (k :: (l.take n).map (·.fName)).length ≤ l.length + 1 := by simp; omega
theorem rec_step (k : List UInt8) (l : List LayerD) (n : Nat) (h : n < l.length) : k :: (l.take (n + 1)).map (·.fName) = (k :: (l.take n).map (·.fName)) ++ [(l[n]).fName] := by
  rw [List.take_succ_eq_append_getElem h, List.map_append]; rfl
end Go.Proofs.YtlkpinlkbikokabGreat
/- Contracts of chapter 6: FormatEntry, the program's. Written by gen/ch6g.py. -/
namespace Go.Proofs.YtlkpinlkbikokabGreat
set_option linter.unusedVariables false
set_option linter.unusedSimpArgs false
open Go.RowKit
set_option maxRecDepth 100000 in
set_option maxHeartbeats 3200000 in
theorem formatNeeds_any (v : Value) (l : List NeedD) (w : World) (hx : SliceAt (rFlat cNeed) 4 0 w v l) (hl3 : l.length ≤ 3) (hk : ∀ d ∈ l, d.fFrom.length ≤ 1048576) :
    Calls Tryz.prog 64 #[v] w fun e w' => e = .returned (.string ⟨(joinL (l.map fmtNeed) [44, 32]).toArray⟩) ∧ Below w.heap.size w w' := by
  obtain ⟨a, c, rfl, hl⟩ := sliceAt_len hx
  have HX := Lib.hid hx
  have HK := Lib.hid hk
  have HKL := Lib.hid (joinNeeds_len l hl3 hk)
  clear hx hk hl
  have HO0 := Lib.hid (owns_new w)
  have HB0 := Lib.hid (bx_box w (.cells #[] 9))
  go_enter Tryz.func64, Tryz.ntmps64
  go_wp2_with fail
  generalize w.alloc (.cells #[] 9) = w4 at *
  go_loopw [3, 5, 6, 10] (fun ov _ _ i wr => ∃ k : Nat, k ≤ l.length ∧ i = .int .i64 k ∧ Owns wr w.heap.size ov ((l.take k).map fmtNeed) ∧ Below w.heap.size w wr) (fun _ _ _ i _ => l.length - (intOf i).toNat)
  case atStart => exact ⟨0, Nat.zero_le _, rfl, HO0.out, HB0.out⟩
  case round =>
    obtain ⟨k, hk, rfl, hO, hbr⟩ := hrel
    have HO := Lib.hid hO
    have HBr := Lib.hid hbr
    have HXr := Lib.hid (SliceAt.below HX.out (good_flat cNeed_len) hbr (Nat.le_refl _))
    have HLT := Lib.hid (show ∀ g, u3.ownBlock = some g → g < wr.heap.size from fun g h => (World.ownsRow.lt hO g h).2)
    clear hO hbr
    by_cases hlt : k < l.length
    · obtain ⟨b, o, cs, rfl, hbw, hat, hd2⟩ := sliceAt_cell HXr.out k hlt
      have HM := Lib.hid (HK.out _ (List.getElem_mem hlt))
      have HT := Lib.hid (show (l.take (k + 1)).map fmtNeed = (l.take k).map fmtNeed ++ [fmtNeed l[k]] by rw [List.take_succ_eq_append_getElem hlt, List.map_append]; rfl)
      generalize l[k] = z at *
      obtain ⟨m0, m1, m2, m3⟩ := z
      simp only [rFlat, cNeed] at hat
      subst hat
      have d0 := hd2 0 (by decide)
      have d1 := hd2 1 (by decide)
      have d2 := hd2 2 (by decide)
      have d3 := hd2 3 (by decide)
      simp only [List.getElem?_cons_zero, List.getElem?_cons_succ, Nat.add_zero] at d0 d1 d2 d3
      have HFF := Lib.hid (fun W => implFormatFace_any m0 W)
      have HFV := Lib.hid (fun W => implFmtVer_any ⟨m2, m3⟩ W)
      have HWN := Lib.hid (words_need ⟨m0, m1, m2, m3⟩)
      have htl := fmtNeed_len ⟨m0, m1, m2, m3⟩
      have hml := HM.out
      simp only [vVersion, wordsN] at HFV HWN htl hml
      generalize fmtNeed ⟨m0, m1, m2, m3⟩ = tx at *
      generalize fmtF m0 = ff at *
      generalize fmtVer ⟨m2, m3⟩ = fv at *
      have BN := Lib.hid (Bx.new wr [.int .i64 m0, .string ⟨m1.toArray⟩, .int .i64 m2, .int .i64 m3] 39)
      have HBN := Lib.hid (belS HBr.out (bx_box wr (.cells #[.int .i64 m0, .string ⟨m1.toArray⟩, .int .i64 m2, .int .i64 m3] 39)))
      have HON := Lib.hid (owns_alloc HO.out (.cells #[.int .i64 m0, .string ⟨m1.toArray⟩, .int .i64 m2, .int .i64 m3] 39))
      have hkl : (k : Int) < (l.length : Int) := by omega
      have hbs := HBr.out.size
      clear hd2
      cases m1 with
      | nil =>
        have HTX := Lib.hid (show joinL ([ff] ++ [fv]) [32] = tx from HWN.out)
        clear HWN
        have n0 := BN.out.cell 0 (by simp)
        have n1 := BN.out.cell 1 (by simp)
        have n2 := BN.out.cell 2 (by simp)
        have n3 := BN.out.cell 3 (by simp)
        simp only [List.getElem_cons_zero, List.getElem_cons_succ] at n0 n1 n2 n3
        go_wp2_with fail
        refine (HFF.out _).mono ?_
        rintro e w5 ⟨rfl, hb⟩
        have HB1 := Lib.hid (belS (belS HBN.out hb) (bx_box w5 (.cells #[.string ⟨ff.toArray⟩] 9)))
        have HO1 := Lib.hid (owns_alloc (owns_below HON.out hb (Nat.le_refl _)) (.cells #[.string ⟨ff.toArray⟩] 9))
        have BN1 := Lib.hid ((BN.out.below hb).alloc (.cells #[.string ⟨ff.toArray⟩] 9))
        have HW := Lib.hid (owns_oneL w5 w5.heap.size ff (Nat.le_refl _))
        have h5s := hb.size
        simp at h5s
        clear hb n0 n1 n2 n3
        have n0 := BN1.out.cell 0 (by simp)
        have n1 := BN1.out.cell 1 (by simp)
        have n2 := BN1.out.cell 2 (by simp)
        have n3 := BN1.out.cell 3 (by simp)
        simp only [List.getElem_cons_zero, List.getElem_cons_succ] at n0 n1 n2 n3
        go_wp2_with fail
        refine (HFV.out _).mono ?_
        rintro e w7 ⟨rfl, hb⟩
        have HB7 := Lib.hid (belS HB1.out hb)
        have HO7 := Lib.hid (owns_below HO1.out hb (Nat.le_refl _))
        have HW7 := Lib.hid (owns_below HW.out hb (Nat.le_refl _))
        have h7s := hb.size
        try simp at h7s
        clear hb
        have HJ := Lib.hid (fun v W (h : RowAt W v (([ff] ++ [fv]).map strV)) => (show Calls Tryz.prog 62 #[v, .string ⟨#[32]⟩] W fun e w' => e = .returned (.string ⟨tx.toArray⟩) ∧ Below W.heap.size W w' from by rw [← HTX.out]; exact implJoin_any v ([ff] ++ [fv]) ⟨#[32]⟩ W h (by show (joinL ([ff] ++ [fv]) [32]).length ≤ _; rw [HTX.out]; omega) (by decide)))
        go_wp2_with (at_builtin; (refine append_strs rfl _ _ rfl w5.heap.size _ ([ff]) fv _ w7.heap.size (by rfl) (owns_alloc HW7.out _) rfl (cell_new _ _ _) (by simp) (by simp; omega) ?_; intro v8 w8 hO8 hg8; have HW8 := Lib.hid hO8; have HG8 := Lib.hid hg8; clear hO8 hg8))
        have HO8 := Lib.hid (World.ownsRow.kept (owns_alloc HO7.out (.cells #[.string ⟨fv.toArray⟩] 9)) HG8.out (Or.inr (fun e => by have h1 := HLT.out _ e; simp [Value.ownBlock] at h1; omega)))
        have HB8 := Lib.hid (Below.grown (HB7.out.alloc HB7.out.size (.cells #[.string ⟨fv.toArray⟩] 9)) HG8.out (by have := HB7.out.size; simp; omega) (fun g e => by simp [Value.ownBlock] at e; omega))
        refine (HJ.out _ _ (owns_row HW8.out (by simp))).mono ?_
        rintro e w9 ⟨rfl, hb⟩
        have HB9 := Lib.hid (belS HB8.out hb)
        have HO9 := Lib.hid (owns_below (show Owns w8 w.heap.size u3 ((l.take k).map fmtNeed) from HO8.out) hb (Nat.le_refl _))
        clear hb
        have hlk : ((l.take k).map fmtNeed).length ≤ 4194304 := by simp; omega
        go_wp2_with (at_builtin; (refine append_strs rfl _ _ rfl w.heap.size _ ((l.take k).map fmtNeed) tx _ w9.heap.size (by rfl) (owns_alloc HO9.out _) rfl (cell_new _ _ _) hlk (by have := HB9.out.size; simp; omega) ?_; intro v' w10 hO1 hg1))
        exact ⟨⟨k + 1, by omega, by go_num, by rw [HT.out]; exact hO1, below_append (HB9.out.alloc HB9.out.size _) (owns_alloc HO9.out _) hg1 (by have := HB9.out.size; simp; omega)⟩, by simp [intOf]; omega⟩
      | cons c r =>
        have HTX := Lib.hid (show joinL ([ff, [111, 102], c :: r] ++ [fv]) [32] = tx from HWN.out)
        clear HWN
        have n0 := BN.out.cell 0 (by simp)
        have n1 := BN.out.cell 1 (by simp)
        have n2 := BN.out.cell 2 (by simp)
        have n3 := BN.out.cell 3 (by simp)
        simp only [List.getElem_cons_zero, List.getElem_cons_succ] at n0 n1 n2 n3
        go_wp2_with fail
        refine (HFF.out _).mono ?_
        rintro e w5 ⟨rfl, hb⟩
        have HB5 := Lib.hid (belS (belS HBN.out hb) (bx_box w5 (.cells #[.string ⟨ff.toArray⟩] 9)))
        have HO5 := Lib.hid (owns_alloc (owns_below HON.out hb (Nat.le_refl _)) (.cells #[.string ⟨ff.toArray⟩] 9))
        have BN5 := Lib.hid ((BN.out.below hb).alloc (.cells #[.string ⟨ff.toArray⟩] 9))
        have HW5 := Lib.hid (owns_oneL w5 w5.heap.size ff (Nat.le_refl _))
        have h5s := hb.size
        simp at h5s
        clear hb n0 n1 n2 n3
        have n0 := BN5.out.cell 0 (by simp)
        have n1 := BN5.out.cell 1 (by simp)
        have n2 := BN5.out.cell 2 (by simp)
        have n3 := BN5.out.cell 3 (by simp)
        simp only [List.getElem_cons_zero, List.getElem_cons_succ] at n0 n1 n2 n3
        have hc2 : ∀ j, j < 2 → ((w5.alloc (.cells #[.string ⟨ff.toArray⟩] 9)).alloc (.cells #[.string ⟨#[111, 102]⟩, .string ⟨(c :: r).toArray⟩] 9)).cell? ⟨w5.heap.size + 1, j, none⟩ = (([[111, 102], c :: r] : List (List UInt8)).map strV)[j]? := fun j hj => by
          rw [show w5.heap.size + 1 = (w5.alloc (.cells #[.string ⟨ff.toArray⟩] 9)).heap.size by simp, cell_of_row _ _ _ _ 9 (0, 0) (heap_alloc_new _ _)]
          rcases (show j = 0 ∨ j = 1 by omega) with rfl | rfl <;> rfl
        go_wp2_with (at_builtin; (refine append_rows rfl _ _ rfl w5.heap.size (.slice (some ⟨w5.heap.size, 0, none⟩) 1 1) [ff] [[111, 102], c :: r] _ (w5.heap.size + 1) 2 rfl (by rfl) (owns_alloc HW5.out _) rfl hc2 (by simp) (by simp) (by simp; omega) ?_; intro v6 w6 hO6 hg6; have HW6 := Lib.hid hO6; have HG6 := Lib.hid hg6; clear hO6 hg6; have BN1 := Lib.hid ((BN5.out.alloc (.cells #[.string ⟨#[111, 102]⟩, .string ⟨(c :: r).toArray⟩] 9)).grown HG6.out (fun e => by simp [Value.ownBlock] at e; omega)); have k2 := BN1.out.cell 2 (by simp); have k3 := BN1.out.cell 3 (by simp); simp only [List.getElem_cons_zero, List.getElem_cons_succ] at k2 k3))
        have HO1 := Lib.hid (World.ownsRow.kept (owns_alloc HO5.out (.cells #[.string ⟨#[111, 102]⟩, .string ⟨(c :: r).toArray⟩] 9)) HG6.out (Or.inr (fun e => by have h1 := HLT.out _ e; simp [Value.ownBlock] at h1; omega)))
        have HB1 := Lib.hid (Below.grown (HB5.out.alloc HB5.out.size (.cells #[.string ⟨#[111, 102]⟩, .string ⟨(c :: r).toArray⟩] 9)) HG6.out (by have := HB5.out.size; simp; omega) (fun g e => by simp [Value.ownBlock] at e; omega))
        obtain ⟨g6, c6, rfl, hg6a, hg6b⟩ := World.ownsRow.form HW6.out (by simp)
        have HW := Lib.hid HW6.out
        simp only [List.cons_append, List.nil_append, List.length_cons, List.length_nil] at HW
        clear HG6 HW6 n0 n1 n2 n3 k2 k3
        refine (HFV.out _).mono ?_
        rintro e w7 ⟨rfl, hb⟩
        have HB7 := Lib.hid (belS HB1.out hb)
        have HO7 := Lib.hid (owns_below HO1.out hb (Nat.le_refl _))
        have HW7 := Lib.hid (owns_below HW.out hb (Nat.le_refl _))
        have h7s := hb.size
        try simp at h7s
        clear hb
        have HJ := Lib.hid (fun v W (h : RowAt W v (([ff, [111, 102], c :: r] ++ [fv]).map strV)) => (show Calls Tryz.prog 62 #[v, .string ⟨#[32]⟩] W fun e w' => e = .returned (.string ⟨tx.toArray⟩) ∧ Below W.heap.size W w' from by rw [← HTX.out]; exact implJoin_any v ([ff, [111, 102], c :: r] ++ [fv]) ⟨#[32]⟩ W h (by show (joinL ([ff, [111, 102], c :: r] ++ [fv]) [32]).length ≤ _; rw [HTX.out]; omega) (by decide)))
        go_wp2_with (at_builtin; (refine append_strs rfl _ _ rfl w5.heap.size _ ([ff, [111, 102], c :: r]) fv _ w7.heap.size (by rfl) (owns_alloc HW7.out _) rfl (cell_new _ _ _) (by simp) (by simp; omega) ?_; intro v8 w8 hO8 hg8; have HW8 := Lib.hid hO8; have HG8 := Lib.hid hg8; clear hO8 hg8))
        have HO8 := Lib.hid (World.ownsRow.kept (owns_alloc HO7.out (.cells #[.string ⟨fv.toArray⟩] 9)) HG8.out (Or.inr (fun e => by have h1 := HLT.out _ e; simp [Value.ownBlock] at h1; omega)))
        have HB8 := Lib.hid (Below.grown (HB7.out.alloc HB7.out.size (.cells #[.string ⟨fv.toArray⟩] 9)) HG8.out (by have := HB7.out.size; simp; omega) (fun g e => by simp [Value.ownBlock] at e; omega))
        refine (HJ.out _ _ (owns_row HW8.out (by simp))).mono ?_
        rintro e w9 ⟨rfl, hb⟩
        have HB9 := Lib.hid (belS HB8.out hb)
        have HO9 := Lib.hid (owns_below (show Owns w8 w.heap.size u3 ((l.take k).map fmtNeed) from HO8.out) hb (Nat.le_refl _))
        clear hb
        have hlk : ((l.take k).map fmtNeed).length ≤ 4194304 := by simp; omega
        go_wp2_with (at_builtin; (refine append_strs rfl _ _ rfl w.heap.size _ ((l.take k).map fmtNeed) tx _ w9.heap.size (by rfl) (owns_alloc HO9.out _) rfl (cell_new _ _ _) hlk (by have := HB9.out.size; simp; omega) ?_; intro v' w10 hO1 hg1))
        exact ⟨⟨k + 1, by omega, by go_num, by rw [HT.out]; exact hO1, below_append (HB9.out.alloc HB9.out.size _) (owns_alloc HO9.out _) hg1 (by have := HB9.out.size; simp; omega)⟩, by simp [intOf]; omega⟩
    · have HOl := Lib.hid (show Owns wr w.heap.size u3 (l.map fmtNeed) by have h := HO.out; rwa [List.take_of_length_le (by omega)] at h)
      have hkl : ¬ (k : Int) < (l.length : Int) := by omega
      have HJ2 := Lib.hid (fun v W (h : RowAt W v ((l.map fmtNeed).map strV)) => (show Calls Tryz.prog 62 #[v, .string ⟨#[44, 32]⟩] W fun e w' => e = .returned (.string ⟨(joinL (l.map fmtNeed) [44, 32]).toArray⟩) ∧ Below W.heap.size W w' from implJoin_any v (l.map fmtNeed) ⟨#[44, 32]⟩ W h (Nat.le_trans HKL.out (by decide)) (by decide)))
      have HRR := Lib.hid (owns_row HOl.out (by simp; omega))
      go_wp2_with fail
      refine (HJ2.out _ _ HRR.out).mono ?_
      rintro e w5 ⟨rfl, hb⟩
      have HB5 := Lib.hid (belS HBr.out hb)
      clear hb
      go_wp2_with fail
      go_ret
      exact ⟨rfl, HB5.out⟩
theorem owns_two (w : World) (B : Nat) (a b : List UInt8) (h : B ≤ w.heap.size) : Owns (w.alloc (.cells #[.string ⟨a.toArray⟩, .string ⟨b.toArray⟩] 9)) B (.slice (some ⟨w.heap.size, 0, none⟩) 2 2) [a, b] :=
  ⟨rfl, .inr ⟨w.heap.size, 2, #[.string ⟨a.toArray⟩, .string ⟨b.toArray⟩], rfl, h, heap_alloc_new w _, Nat.le_refl _, by decide, rfl, by simp [strV]⟩⟩
theorem allocE {X : World} {b o : Nat} {v : Value} {ob : Obj} (hlt : b < X.heap.size) (h : X.cell? ⟨b, o, none⟩ = some v) : (X.alloc ob).cell? ⟨b, o, none⟩ = some v :=
  (((Below.refl X.heap.size X).alloc (Nat.le_refl _) ob).cell (p := ⟨b, o, none⟩) hlt).trans h
set_option maxRecDepth 100000 in
set_option maxHeartbeats 3200000 in
theorem implFormatEntry_any (v : Value) (x : EntryD) (w : World) (hx : ValAt rEntry 0 w v x) (hn : x.fName.length ≤ 1048576) (hk : ∀ d ∈ x.fNeeds, d.fFrom.length ≤ 1048576) (hr : ∀ s ∈ x.fRecipe, s.length ≤ 1048576) (hj : (joinL x.fRecipe [32]).length ≤ 4194304) :
    Calls Tryz.prog 27 #[v] w fun e w' => e = .returned (.string ⟨(fmtEnt x).toArray⟩) ∧ Below w.heap.size w w' := by
  have HIE := Lib.hid (fun cs W (h : rEntry 0 W cs x) => implIsEntry_any (.agg cs.toArray) x W ⟨cs, rfl, h⟩ (Nat.le_trans hn (by decide)) (fun d hd => Nat.le_trans (hk d hd) (by decide)) hr)
  have HJ := Lib.hid (fun v W (h : RowAt W v (x.fRecipe.map strV)) => (show Calls Tryz.prog 62 #[v, .string ⟨#[32]⟩] W fun e w' => e = .returned (.string ⟨(joinL x.fRecipe [32]).toArray⟩) ∧ Below W.heap.size W w' from implJoin_any v x.fRecipe ⟨#[32]⟩ W h (Nat.le_trans hj (by decide)) (by decide)))
  have HV := Lib.hid (fun W => implFmtVer_any x.fVersion W)
  have hvl := fmtVer_len x.fVersion
  have HL3 := Lib.hid (fun h => entryB_len (x := x) h)
  have HFE := Lib.hid (show fmtEnt x = if entryB x = true then x.fName ++ [58, 32] ++ joinL x.fRecipe [32] ++ [59, 32] ++ fmtVer x.fVersion ++ tailE x.fNeeds else [] by unfold fmtEnt; simp)
  generalize fmtEnt x = res at *
  generalize entryB x = eb at *
  obtain ⟨_, rfl, hx⟩ := hx
  have HX := Lib.hid (fun W (hb : Below w.heap.size w W) => goodEntry.keep hx (kept_below hb (Nat.le_refl _)))
  obtain ⟨a0, a1, ⟨a2, a3⟩, l⟩ := x
  obtain ⟨v1, v4, rfl, h1, h4⟩ := hx
  simp only [vVersion] at *
  obtain ⟨ra, rc, rfl, _⟩ := sliceAt_len h1
  obtain ⟨sa, sc, rfl, hl⟩ := sliceAt_len h4
  have H1 := Lib.hid h1
  have H4 := Lib.hid h4
  have HK := Lib.hid hk
  have BS := Lib.hid (bx_start1 w [.string ⟨a0.toArray⟩, .slice ra a1.length rc, .int .i64 a2, .int .i64 a3, .slice sa l.length sc] 36)
  have BX0 := Lib.hid BS.out.1
  have HB0 := Lib.hid BS.out.2
  clear h1 h4 hk hr BS hl
  cases eb
  · obtain rfl : res = [] := by rw [HFE.out]; rfl
    go_enter Tryz.func27, Tryz.ntmps27
    go_wp2_with fail
    refine (HIE.out _ _ (HX.out _ HB0.out)).mono ?_
    rintro e w1 ⟨rfl, hb⟩
    have HB1 := Lib.hid (belS HB0.out hb)
    clear hb
    go_wp2_with fail
    go_ret
    exact ⟨rfl, HB1.out⟩
  have hl3 := HL3.out rfl
  simp only [if_true] at HFE
  generalize joinL a1 [32] = J at *
  generalize fmtVer ⟨a2, a3⟩ = fv at *
  obtain ⟨hd, hhd⟩ : ∃ t, t = a0 ++ [58, 32] ++ J := ⟨_, rfl⟩
  have hzd : hd.length = a0.length + J.length + 2 := by rw [hhd]; simp; omega
  have HHD := Lib.hid hhd
  clear hhd
  have HJ1 := Lib.hid (fun v W (h : RowAt W v (([a0, J] : List (List UInt8)).map strV)) => (show Calls Tryz.prog 62 #[v, .string ⟨#[58, 32]⟩] W fun e w' => e = .returned (.string ⟨hd.toArray⟩) ∧ Below W.heap.size W w' from by rw [show hd = joinL [a0, J] [58, 32] from by rw [HHD.out, joinL_cons _ _ _ (by simp), joinL_one]]; exact implJoin_any v [a0, J] ⟨#[58, 32]⟩ W h (by show (joinL [a0, J] [58, 32]).length ≤ _; rw [← show hd = joinL [a0, J] [58, 32] from by rw [HHD.out, joinL_cons _ _ _ (by simp), joinL_one]]; omega) (by decide)))
  go_enter Tryz.func27, Tryz.ntmps27
  go_wp2_with fail
  refine (HIE.out _ _ (HX.out _ HB0.out)).mono ?_
  rintro e w1 ⟨rfl, hb⟩
  have HB1 := Lib.hid (belS HB0.out hb)
  have BX1 := Lib.hid (BX0.out.below hb)
  have HS := Lib.hid BX1.out.lt
  clear hb
  have x0 := BX1.out.cell 0 (by simp)
  have x1 := BX1.out.cell 1 (by simp)
  have x2 := BX1.out.cell 2 (by simp)
  have x3 := BX1.out.cell 3 (by simp)
  have x4 := BX1.out.cell 4 (by simp)
  simp only [List.getElem_cons_zero, List.getElem_cons_succ] at x0 x1 x2 x3 x4
  have HRW := Lib.hid (row_of_slice (SliceAt.below H1.out good_str (bel_drE HB1.out) (Nat.le_refl _)))
  go_wp2_with fail
  refine wp_region_held_drew (S := (fun w' => w'.cell? ⟨w.heap.size, 0, none⟩ = some (.string ⟨a0.toArray⟩) ∧ w'.cell? ⟨w.heap.size, 1, none⟩ = some (.slice ra a1.length rc))) (by kernel_rfl) ?_ (fun hHeld => ?_)
  · exact ⟨x0, x1⟩
  refine wpAnyH_take (i := 0) (v := ?_) rfl (by kernel_rfl) (by kernel_rfl) (by kernel_rfl) (fun _ _ _ h => h) (Or.inl ⟨by rfl, ?_⟩) (by assumption) ?_
  rotate_left
  · intro w hSw; (try dsimp only at hSw); go_simp; with_reducible rfl
  try simp only [Act.put, List.getElem_toArray, List.getElem_cons_zero, List.getElem_cons_succ, List.setIfInBounds_toArray, List.set_cons_zero, List.set_cons_succ]
  refine wpAnyH_take (i := 1) (v := ?_) rfl (by kernel_rfl) (by kernel_rfl) (by kernel_rfl) (fun _ _ _ h => h) (Or.inl ⟨by rfl, ?_⟩) (by assumption) ?_
  rotate_left
  · intro w hSw; (try dsimp only at hSw); go_simp; with_reducible rfl
  try simp only [Act.put, List.getElem_toArray, List.getElem_cons_zero, List.getElem_cons_succ, List.setIfInBounds_toArray, List.set_cons_zero, List.set_cons_succ]
  refine wpAnyH_take (i := 2) (v := ?_) rfl (by kernel_rfl) (by kernel_rfl) (by kernel_rfl) (fun _ _ _ h => h) (Or.inl ⟨by rfl, ?_⟩) (by assumption) ?_
  rotate_left
  · intro w hSw; (try dsimp only at hSw); go_simp; with_reducible rfl
  try simp only [Act.put, List.getElem_toArray, List.getElem_cons_zero, List.getElem_cons_succ, List.setIfInBounds_toArray, List.set_cons_zero, List.set_cons_succ]
  refine wpAnyH_take (i := 3) (v := ?_) rfl (by kernel_rfl) (by kernel_rfl) (by kernel_rfl) (fun _ _ _ h => h) (Or.inl ⟨by rfl, ?_⟩) (by assumption) ?_
  rotate_left
  · intro w hSw; (try dsimp only at hSw); go_simp; with_reducible rfl
  try simp only [Act.put, List.getElem_toArray, List.getElem_cons_zero, List.getElem_cons_succ, List.setIfInBounds_toArray, List.set_cons_zero, List.set_cons_succ]
  refine wpAnyH_ready (rs := [4]) (by kernel_rfl) (by simp) ?_
  refine AllReadyH.cons rfl (fun K hK => ?_) AllReadyH.nil
  go_simp
  ((go_at_call 62; (with_reducible refine (HJ.out _ _ HRW.out).mono ?_); rintro e w2 ⟨rfl, hb1⟩))
  refine hK.out _ _ ?_ (fun hHeld => ?_)
  · (rw [hb1.cell (p := ⟨w.heap.size, 0, none⟩) (by have := HS.out; simp; omega), hb1.cell (p := ⟨w.heap.size, 1, none⟩) (by have := HS.out; simp; omega)]; first | exact hHeld | exact ⟨x0, x1⟩)
  clear hK K
  try simp only [Act.put, List.getElem_toArray, List.getElem_cons_zero, List.getElem_cons_succ, List.setIfInBounds_toArray, List.set_cons_zero, List.set_cons_succ]
  refine wpAnyH_ready (rs := [5]) (by kernel_rfl) (by simp) ?_
  refine AllReadyH.cons rfl (fun K hK => ?_) AllReadyH.nil
  go_simp
  refine hK.out _ _ ?_ (fun hHeld => ?_)
  · exact ⟨allocE (by have := HS.out; have := hb1.size; simp at *; omega) hHeld.1, allocE (by have := HS.out; have := hb1.size; simp at *; omega) hHeld.2⟩
  clear hK K
  try simp only [Act.put, List.getElem_toArray, List.getElem_cons_zero, List.getElem_cons_succ, List.setIfInBounds_toArray, List.set_cons_zero, List.set_cons_succ]
  refine wpAnyH_ready (rs := [6]) (by kernel_rfl) (by simp) ?_
  refine AllReadyH.cons rfl (fun K hK => ?_) AllReadyH.nil
  go_simp
  ((go_at_call 62; (with_reducible refine (HJ1.out _ _ (owns_row (owns_two w2 w2.heap.size a0 J (Nat.le_refl _)) (by simp))).mono ?_); rintro e w3 ⟨rfl, hb2⟩))
  refine hK.out _ _ ?_ (fun hHeld => ?_)
  · (rw [hb2.cell (p := ⟨w.heap.size, 0, none⟩) (by have := HS.out; have := hb1.size; simp at *; omega), hb2.cell (p := ⟨w.heap.size, 1, none⟩) (by have := HS.out; have := hb1.size; simp at *; omega)]; exact hHeld)
  clear hK K
  try simp only [Act.put, List.getElem_toArray, List.getElem_cons_zero, List.getElem_cons_succ, List.setIfInBounds_toArray, List.set_cons_zero, List.set_cons_succ]
  refine wpAnyH_take (i := 7) (v := ?_) rfl (by kernel_rfl) (by kernel_rfl) (by kernel_rfl) (fun _ _ _ h => h) (Or.inl ⟨by rfl, ?_⟩) (by assumption) ?_
  rotate_left
  · intro w hSw; (try dsimp only at hSw); go_simp; with_reducible rfl
  try simp only [Act.put, List.getElem_toArray, List.getElem_cons_zero, List.getElem_cons_succ, List.setIfInBounds_toArray, List.set_cons_zero, List.set_cons_succ]
  refine wpAnyH_done (by kernel_rfl) ?_ _
  have HB2 := Lib.hid (belS (belS (bel_drE HB1.out) hb1) (bx_box w2 (.cells #[.string ⟨a0.toArray⟩, .string ⟨J.toArray⟩] 9)))
  have HB3 := Lib.hid (belS HB2.out hb2)
  have BX3 := Lib.hid ((((show Bx w1.drew w.heap.size _ from ⟨BX1.out.lt, BX1.out.cell, BX1.out.froz⟩).below hb1).alloc (.cells #[.string ⟨a0.toArray⟩, .string ⟨J.toArray⟩] 9)).below hb2)
  rename_i hheld
  clear hb1 hb2 hheld x0 x1 x2 x3 x4 HJ HJ1
  have x0 := BX3.out.cell 0 (by simp)
  have x1 := BX3.out.cell 1 (by simp)
  have x2 := BX3.out.cell 2 (by simp)
  have x3 := BX3.out.cell 3 (by simp)
  have x4 := BX3.out.cell 4 (by simp)
  simp only [List.getElem_cons_zero, List.getElem_cons_succ] at x0 x1 x2 x3 x4
  go_wp2_with fail
  refine (HV.out _).mono ?_
  rintro e w5 ⟨rfl, hb⟩
  have HB5 := Lib.hid (belS (belS HB3.out hb) (bx_box w5 (.cells #[.string ⟨hd.toArray⟩, .string ⟨fv.toArray⟩] 9)))
  have BX5 := Lib.hid ((BX3.out.below hb).alloc (.cells #[.string ⟨hd.toArray⟩, .string ⟨fv.toArray⟩] 9))
  have HW5 := Lib.hid (owns_two w5 w5.heap.size hd fv (Nat.le_refl _))
  have h5s := (belS HB3.out hb).size
  clear hb x0 x1 x2 x3 x4
  have x0 := BX5.out.cell 0 (by simp)
  have x1 := BX5.out.cell 1 (by simp)
  have x2 := BX5.out.cell 2 (by simp)
  have x3 := BX5.out.cell 3 (by simp)
  have x4 := BX5.out.cell 4 (by simp)
  simp only [List.getElem_cons_zero, List.getElem_cons_succ] at x0 x1 x2 x3 x4
  by_cases h0 : l.length = 0
  · obtain rfl : l = [] := List.eq_nil_of_length_eq_zero h0
    simp only [List.length_nil] at *
    obtain ⟨r1, hr1⟩ : ∃ t, t = hd ++ [59, 32] ++ fv := ⟨_, rfl⟩
    have hz1 : r1.length = hd.length + fv.length + 2 := by rw [hr1]; simp; omega
    have HJ2 := Lib.hid (fun v W (h : RowAt W v (([hd, fv] : List (List UInt8)).map strV)) => (show Calls Tryz.prog 62 #[v, .string ⟨#[59, 32]⟩] W fun e w' => e = .returned (.string ⟨r1.toArray⟩) ∧ Below W.heap.size W w' from by rw [show r1 = joinL [hd, fv] [59, 32] from by rw [hr1, joinL_cons _ _ _ (by simp), joinL_one]]; exact implJoin_any v [hd, fv] ⟨#[59, 32]⟩ W h (by show (joinL [hd, fv] [59, 32]).length ≤ _; rw [← show r1 = joinL [hd, fv] [59, 32] from by rw [hr1, joinL_cons _ _ _ (by simp), joinL_one]]; omega) (by decide)))
    go_wp2_with fail
    refine (HJ2.out _ _ (owns_row HW5.out (by simp))).mono ?_
    rintro e w6 ⟨rfl, hb⟩
    have HB6 := Lib.hid (belS HB5.out hb)
    clear hb
    go_wp2_with fail
    go_ret
    exact ⟨ret_str (by first | (rw [HFE.out, HHD.out]; simp [tailE]; done) | (rw [HFE.out, hr1, HHD.out]; simp [tailE]; done)), HB6.out⟩
  · have hpos : (0 : Int) < (l.length : Int) := by omega
    have HN := Lib.hid (fun W (hb : Below w.heap.size w W) => formatNeeds_any (.slice sa l.length sc) l W (SliceAt.below H4.out (good_flat cNeed_len) hb (Nat.le_refl _)) hl3 HK.out)
    have hKL := joinNeeds_len l hl3 HK.out
    have HTE := Lib.hid (show tailE l = [59, 32] ++ joinL (l.map fmtNeed) [44, 32] from if_neg (fun h => h0 (by rw [h]; rfl)))
    generalize joinL (l.map fmtNeed) [44, 32] = KK at *
    obtain ⟨r1, hr1⟩ : ∃ t, t = hd ++ [59, 32] ++ (fv ++ [59, 32] ++ KK) := ⟨_, rfl⟩
    have hz1 : r1.length = hd.length + fv.length + KK.length + 4 := by rw [hr1]; simp; omega
    have HJ3 := Lib.hid (fun v W (h : RowAt W v (([hd, fv, KK] : List (List UInt8)).map strV)) => (show Calls Tryz.prog 62 #[v, .string ⟨#[59, 32]⟩] W fun e w' => e = .returned (.string ⟨r1.toArray⟩) ∧ Below W.heap.size W w' from by rw [show r1 = joinL [hd, fv, KK] [59, 32] from by rw [hr1, joinL_cons _ _ _ (by simp), joinL_cons _ _ _ (by simp), joinL_one]]; exact implJoin_any v [hd, fv, KK] ⟨#[59, 32]⟩ W h (by show (joinL [hd, fv, KK] [59, 32]).length ≤ _; rw [← show r1 = joinL [hd, fv, KK] [59, 32] from by rw [hr1, joinL_cons _ _ _ (by simp), joinL_cons _ _ _ (by simp), joinL_one]]; omega) (by decide)))
    go_wp2_with fail
    refine (HN.out _ HB5.out).mono ?_
    rintro e w6 ⟨rfl, hb⟩
    have HB6 := Lib.hid (belS HB5.out hb)
    have HW6 := Lib.hid (owns_below HW5.out hb (Nat.le_refl _))
    have h6s := hb.size
    try simp at h6s
    clear hb x0 x1 x2 x3 x4
    go_wp2_with (at_builtin; (refine append_strs rfl _ _ rfl w5.heap.size _ [hd, fv] KK _ w6.heap.size (by rfl) (owns_alloc HW6.out _) rfl (cell_new _ _ _) (by simp) (by simp; omega) ?_; intro v8 w8 hO8 hg8; have HW8 := Lib.hid hO8; have HG8 := Lib.hid hg8; clear hO8 hg8))
    have HB8 := Lib.hid (Below.grown (HB6.out.alloc HB6.out.size (.cells #[.string ⟨KK.toArray⟩] 9)) HG8.out (by have := HB6.out.size; simp; omega) (fun g e => by simp [Value.ownBlock] at e; omega))
    refine (HJ3.out _ _ (owns_row HW8.out (by simp))).mono ?_
    rintro e w9 ⟨rfl, hb⟩
    have HB9 := Lib.hid (belS HB8.out hb)
    clear hb
    go_wp2_with fail
    go_ret
    exact ⟨ret_str (by first | (rw [HFE.out, HHD.out, HTE.out]; simp; done) | (rw [HFE.out, hr1, HHD.out, HTE.out]; simp; done)), HB9.out⟩
end Go.Proofs.YtlkpinlkbikokabGreat
/- Contracts of chapter 4: MakePart, the model's. Written by gen/ch4mk.py. -/
namespace Go.Proofs.YtlkpinlkbikokabGreat
set_option linter.unusedVariables false
set_option linter.unusedSimpArgs false
open Go.RowKit
set_option maxRecDepth 100000 in
set_option maxHeartbeats 3200000 in
theorem specMake_nil (a : Option Addr) (c : Nat) (w : World) :
    Calls Tryz.prog 73 #[.slice a 0 c] w fun e w' => GivesOPR zeroP ⟨7, 0, [], 0, 0⟩ w e w' := by
  unfold GivesOPR zeroP vReply
  have BS := Lib.hid (bx_start2 w [.string ⟨#[]⟩, .bool false, .bool false, .slice none 0 0, .int .i64 0, .slice none 0 0] [.int .i64 0, .int .i64 0, .string ⟨#[]⟩, .int .i64 0, .int .i64 0] 103 105)
  have B2 := Lib.hid BS.out.1
  have B3 := Lib.hid BS.out.2.1
  go_enter Tryz.func73, Tryz.ntmps73
  go_wp2_with fail
  exact bodyPost_ret (v := .tuple #[.agg #[.string ⟨#[]⟩, .bool false, .bool false, .slice none 0 0, .int .i64 0, .slice none 0 0], .agg #[.int .i64 7, .int .i64 0, .string ⟨#[]⟩, .int .i64 0, .int .i64 0]]) (by simp [results, Tryz.results73, go_sem]) rfl ⟨_, rfl, ⟨_, _, rfl, ownsF_nil _ _ _ _ _, ownsF_nil _ _ _ _ _⟩, (bx_start2 w [.string ⟨#[]⟩, .bool false, .bool false, .slice none 0 0, .int .i64 0, .slice none 0 0] [.int .i64 7, .int .i64 0, .string ⟨#[]⟩, .int .i64 0, .int .i64 0] 103 105).2.2⟩
set_option maxRecDepth 100000 in
set_option maxHeartbeats 3200000 in
theorem specMake_bad (b o c : Nat) (k : List UInt8) (r : List (List UInt8)) (w : World) (hR : RowAt w (.slice (some ⟨b, o, none⟩) (r.length + 1) c) ((k :: r).map strV)) (hz : ∀ s ∈ k :: r, s.length ≤ 1048576) (hc : r.length + 1 ≤ c) (hm : r.length + 1 ≤ maxLen) (hk : ¬ 0 ≤ kindI k) :
    Calls Tryz.prog 73 #[.slice (some ⟨b, o, none⟩) (r.length + 1) c] w fun e w' => GivesOPR zeroP ⟨7, 0, [], 0, 0⟩ w e w' := by
  have d0 := rowAt_cellS hR 0 (by simp)
  simp only [List.map_cons, List.getElem_cons_zero, strV, Nat.add_zero] at d0
  have hbw : b < w.heap.size := by
    obtain ⟨b', o', e, hlt, _⟩ := rowAt_cell hR 0 (by simp)
    injection e with e; injection e with e1 e2; subst e1; exact hlt
  have HNP := Lib.hid (fun W => specNewPart_own ⟨k.toArray⟩ W (by have := hz k (List.mem_cons_self ..); simpa [ByteArray.size] using this))
  simp only [GivesNPO, vNP] at HNP
  have HR := Lib.hid hR
  have HZ := Lib.hid hz
  have HM := Lib.hid hm
  clear hR hz hm
  unfold GivesOPR zeroP vReply
  rw [show decide (0 ≤ kindI (⟨k.toArray⟩ : ByteArray).data.toList) = false from decide_eq_false hk] at HNP
  generalize nmK (⟨k.toArray⟩ : ByteArray).data.toList = nk at *
  have BS := Lib.hid (bx_start2 w [.string ⟨#[]⟩, .bool false, .bool false, .slice none 0 0, .int .i64 0, .slice none 0 0] [.int .i64 0, .int .i64 0, .string ⟨#[]⟩, .int .i64 0, .int .i64 0] 103 105)
  have HD := Lib.hid d0
  clear d0
  have d0 := (BS.out.2.2.cell (p := ⟨b, o, none⟩) hbw).trans HD.out
  go_enter Tryz.func73, Tryz.ntmps73
  go_wp2_with fail
  refine (HNP.out _).mono ?_
  rintro e w1 ⟨a1, c1, rfl, ho, hb⟩
  have HB1 := Lib.hid ((belS BS.out.2.2 hb).alloc (belS BS.out.2.2 hb).size (.cells #[.string ⟨nk.toArray⟩, .bool false, .bool false, .slice a1 0 c1, .int .i64 0, .slice none 0 0] 103))
  have B2 := Lib.hid ((BS.out.1.below hb).alloc (.cells #[.string ⟨nk.toArray⟩, .bool false, .bool false, .slice a1 0 c1, .int .i64 0, .slice none 0 0] 103))
  have B3 := Lib.hid ((BS.out.2.1.below hb).alloc (.cells #[.string ⟨nk.toArray⟩, .bool false, .bool false, .slice a1 0 c1, .int .i64 0, .slice none 0 0] 103))
  clear ho hb d0
  have r0 := B2.out.cell 0 (by simp)
  have r1 := B2.out.cell 1 (by simp)
  have r2 := B2.out.cell 2 (by simp)
  have r3 := B2.out.cell 3 (by simp)
  have r4 := B2.out.cell 4 (by simp)
  have r5 := B2.out.cell 5 (by simp)
  simp only [List.getElem_cons_zero, List.getElem_cons_succ] at r0 r1 r2 r3 r4 r5
  have z0 := B2.out.froz 0 (by simp)
  have z1 := B2.out.froz 1 (by simp)
  have z2 := B2.out.froz 2 (by simp)
  have z3 := B2.out.froz 3 (by simp)
  have z4 := B2.out.froz 4 (by simp)
  have z5 := B2.out.froz 5 (by simp)
  have s0 := B3.out.cell 0 (by simp)
  have s1 := B3.out.cell 1 (by simp)
  have s2 := B3.out.cell 2 (by simp)
  have s3 := B3.out.cell 3 (by simp)
  have s4 := B3.out.cell 4 (by simp)
  simp only [List.getElem_cons_zero, List.getElem_cons_succ] at s0 s1 s2 s3 s4
  have y0 := B3.out.froz 0 (by simp)
  have y1 := B3.out.froz 1 (by simp)
  have y2 := B3.out.froz 2 (by simp)
  have y3 := B3.out.froz 3 (by simp)
  have y4 := B3.out.froz 4 (by simp)
  go_wp2_with fail
  clear r0 r1 r2 r3 r4 r5 z0 z1 z2 z3 z4 z5 s0 s1 s2 s3 s4 y0 y1 y2 y3 y4
  have E4 := Lib.hid ((B2.out.put6 (.string ⟨#[]⟩) (.bool false) (.bool false) (.slice none 0 0) (.int .i64 0) (.slice none 0 0)).put5o (c := w.heap.size + 1) (by omega) (.int .i64 7) (.int .i64 0) (.string ⟨#[]⟩) (.int .i64 0) (.int .i64 0))
  have E5 := Lib.hid ((B3.out.put6o (c := w.heap.size) (by omega) (.string ⟨#[]⟩) (.bool false) (.bool false) (.slice none 0 0) (.int .i64 0) (.slice none 0 0)).put5 (.int .i64 7) (.int .i64 0) (.string ⟨#[]⟩) (.int .i64 0) (.int .i64 0))
  have EB := Lib.hid (below_put5 (below_put6 HB1.out w.heap.size (by omega) (.string ⟨#[]⟩) (.bool false) (.bool false) (.slice none 0 0) (.int .i64 0) (.slice none 0 0)) (w.heap.size + 1) (by omega) (.int .i64 7) (.int .i64 0) (.string ⟨#[]⟩) (.int .i64 0) (.int .i64 0))
  generalize ((((((((((((w1.alloc (.cells #[.string ⟨nk.toArray⟩, .bool false, .bool false, .slice a1 0 c1, .int .i64 0, .slice none 0 0] 103)).setCell ⟨w.heap.size, 0, none⟩ (.string ⟨#[]⟩)).setCell ⟨w.heap.size, 1, none⟩ (.bool false)).setCell ⟨w.heap.size, 2, none⟩ (.bool false)).setCell ⟨w.heap.size, 3, none⟩ (.slice none 0 0)).setCell ⟨w.heap.size, 4, none⟩ (.int .i64 0)).setCell ⟨w.heap.size, 5, none⟩ (.slice none 0 0)).setCell ⟨w.heap.size + 1, 0, none⟩ (.int .i64 7)).setCell ⟨w.heap.size + 1, 1, none⟩ (.int .i64 0)).setCell ⟨w.heap.size + 1, 2, none⟩ (.string ⟨#[]⟩)).setCell ⟨w.heap.size + 1, 3, none⟩ (.int .i64 0)).setCell ⟨w.heap.size + 1, 4, none⟩ (.int .i64 0)) = WE at *
  have r0 := E4.out.cell 0 (by simp)
  have r1 := E4.out.cell 1 (by simp)
  have r2 := E4.out.cell 2 (by simp)
  have r3 := E4.out.cell 3 (by simp)
  have r4 := E4.out.cell 4 (by simp)
  have r5 := E4.out.cell 5 (by simp)
  simp only [List.getElem_cons_zero, List.getElem_cons_succ] at r0 r1 r2 r3 r4 r5
  have s0 := E5.out.cell 0 (by simp)
  have s1 := E5.out.cell 1 (by simp)
  have s2 := E5.out.cell 2 (by simp)
  have s3 := E5.out.cell 3 (by simp)
  have s4 := E5.out.cell 4 (by simp)
  simp only [List.getElem_cons_zero, List.getElem_cons_succ] at s0 s1 s2 s3 s4
  exact bodyPost_ret (v := .tuple #[.agg #[.string ⟨#[]⟩, .bool false, .bool false, .slice none 0 0, .int .i64 0, .slice none 0 0], .agg #[.int .i64 7, .int .i64 0, .string ⟨#[]⟩, .int .i64 0, .int .i64 0]]) (by simp [results, Tryz.results73, go_sem, r0, r1, r2, r3, r4, r5, s0, s1, s2, s3, s4]) rfl ⟨_, rfl, ⟨_, _, rfl, ownsF_nil _ _ _ _ _, ownsF_nil _ _ _ _ _⟩, EB.out⟩
set_option maxRecDepth 100000 in
set_option maxHeartbeats 3200000 in
theorem specMake_one (b o c : Nat) (k : List UInt8) (r : List (List UInt8)) (w : World) (hR : RowAt w (.slice (some ⟨b, o, none⟩) (r.length + 1) c) ((k :: r).map strV)) (hz : ∀ s ∈ k :: r, s.length ≤ 1048576) (hc : r.length + 1 ≤ c) (hm : r.length + 1 ≤ maxLen) (h1 : c = 1) (hk : 0 ≤ kindI k) :
    Calls Tryz.prog 73 #[.slice (some ⟨b, o, none⟩) (r.length + 1) c] w fun e w' => GivesOPR (makeGo (newP k) r).1 (makeGo (newP k) r).2 w e w' := by
  have d0 := rowAt_cellS hR 0 (by simp)
  simp only [List.map_cons, List.getElem_cons_zero, strV, Nat.add_zero] at d0
  have hbw : b < w.heap.size := by
    obtain ⟨b', o', e, hlt, _⟩ := rowAt_cell hR 0 (by simp)
    injection e with e; injection e with e1 e2; subst e1; exact hlt
  have HNP := Lib.hid (fun W => specNewPart_own ⟨k.toArray⟩ W (by have := hz k (List.mem_cons_self ..); simpa [ByteArray.size] using this))
  simp only [GivesNPO, vNP] at HNP
  have HR := Lib.hid hR
  have HZ := Lib.hid hz
  have HM := Lib.hid hm
  clear hR hz hm
  rw [show decide (0 ≤ kindI (⟨k.toArray⟩ : ByteArray).data.toList) = true from decide_eq_true hk, show nmK (⟨k.toArray⟩ : ByteArray).data.toList = k from if_pos hk] at HNP
  subst h1
  obtain rfl : r = [] := List.eq_nil_of_length_eq_zero (by omega)
  simp only [List.length_nil, Nat.zero_add] at *
  rw [show makeGo (newP k) [] = (newP k, ⟨0, faceP (newP k), [], 0, 0⟩) from rfl]
  unfold GivesOPR vReply
  simp only
  generalize hp0 : newP k = p
  have HPK := Lib.hid hp0
  clear hp0
  generalize hfp : faceP p = fp
  have HFP := Lib.hid hfp
  clear hfp
  have BS := Lib.hid (bx_start2 w [.string ⟨#[]⟩, .bool false, .bool false, .slice none 0 0, .int .i64 0, .slice none 0 0] [.int .i64 0, .int .i64 0, .string ⟨#[]⟩, .int .i64 0, .int .i64 0] 103 105)
  have HD := Lib.hid d0
  clear d0
  have d0 := (BS.out.2.2.cell (p := ⟨b, o, none⟩) hbw).trans HD.out
  go_enter Tryz.func73, Tryz.ntmps73
  go_wp2_with fail
  refine (HNP.out _).mono ?_
  rintro e w1 ⟨a1, c1, rfl, ho, hb⟩
  have HB1 := Lib.hid ((belS BS.out.2.2 hb).alloc (belS BS.out.2.2 hb).size (.cells #[.string ⟨k.toArray⟩, .bool false, .bool false, .slice a1 0 c1, .int .i64 0, .slice none 0 0] 103))
  have h1s := hb.size
  simp at h1s
  have ST0 := Lib.hid (show MkSt w w1.heap.size p (w1.alloc (.cells #[.string ⟨k.toArray⟩, .bool false, .bool false, .slice a1 0 c1, .int .i64 0, .slice none 0 0] 103)) by rw [← HPK.out]; exact ⟨newP_small (HZ.out k (List.mem_cons_self ..)), rfl, ⟨_, Bx.new w1 [.string ⟨k.toArray⟩, .bool false, .bool false, .slice a1 0 c1, .int .i64 0, .slice none 0 0] 103, _, _, rfl, ownsF_alloc (ownsF_base ho (by simp)) _, ownsF_nil _ _ _ _ _⟩, (BS.out.1.below hb).alloc (.cells #[.string ⟨k.toArray⟩, .bool false, .bool false, .slice a1 0 c1, .int .i64 0, .slice none 0 0] 103), (BS.out.2.1.below hb).alloc (.cells #[.string ⟨k.toArray⟩, .bool false, .bool false, .slice a1 0 c1, .int .i64 0, .slice none 0 0] 103), HB1.out⟩)
  clear ho hb d0
  go_wp2_with fail
  generalize w1.alloc (.cells #[.string ⟨k.toArray⟩, .bool false, .bool false, .slice a1 0 c1, .int .i64 0, .slice none 0 0] 103) = wr at *
  have hst := ST0.out
  obtain ⟨hsm, hbare, ⟨cs, hq, hown⟩, hr2, hr3, hbw2⟩ := hst
  refine wp_loop_rounds 1 ?_
  rw [rounds_succ]
  obtain ⟨⟨a0, a1, a2, a3, a4⟩, l⟩ := p
  obtain rfl : a3 = [] := hbare
  obtain ⟨u3, u5, rfl, ho3, ho5⟩ := hown
  simp only at ho3 ho5 hq
  obtain ⟨ga, gc, rfl⟩ := slice_of ho3
  obtain ⟨ua, uc, rfl⟩ := slice_of ho5
  simp only [List.length_nil] at *
  have O3 := Lib.hid ho3
  have O5 := Lib.hid ho5
  have HSM := Lib.hid hsm
  have BQ := Lib.hid hq
  have B2 := Lib.hid hr2
  have B3 := Lib.hid hr3
  have HBr := Lib.hid hbw2
  have hlq := hq.lt
  have hls := hbw2.size
  clear hsm ho3 ho5 hq hr2 hr3 hbw2
  have HRP := Lib.hid (fun W (hb : Below wr.heap.size wr W) => (show rPart 0 W [.string ⟨a0.toArray⟩, .bool a1, .bool a2, .slice ga 0 gc, .int .i64 a4, .slice ua l.length uc] (⟨⟨a0, a1, a2, [], a4⟩, l⟩ : PartD) from goodPart.mono (oPart_r ⟨_, _, rfl, ownsF_below O3.out hb (Nat.le_refl _), ownsF_below O5.out hb (Nat.le_refl _)⟩ HSM.out) (Nat.zero_le _)))
  have HFO := Lib.hid (fun W (h : rPart 0 W [.string ⟨a0.toArray⟩, .bool a1, .bool a2, .slice ga 0 gc, .int .i64 a4, .slice ua l.length uc] (⟨⟨a0, a1, a2, [], a4⟩, l⟩ : PartD)) => (show Calls Tryz.prog 106 #[.agg #[.string ⟨a0.toArray⟩, .bool a1, .bool a2, .slice ga 0 gc, .int .i64 a4, .slice ua l.length uc]] W fun e w' => e = .returned (.int .i64 (faceP (⟨⟨a0, a1, a2, [], a4⟩, l⟩ : PartD))) ∧ Below W.heap.size W w' from specFaceOf_any (.agg #[.string ⟨a0.toArray⟩, .bool a1, .bool a2, .slice ga 0 gc, .int .i64 a4, .slice ua l.length uc]) (⟨⟨a0, a1, a2, [], a4⟩, l⟩ : PartD) W ⟨[.string ⟨a0.toArray⟩, .bool a1, .bool a2, .slice ga 0 gc, .int .i64 a4, .slice ua l.length uc], rfl, h⟩))
  rw [HFP.out] at HFO
  have BQd := Lib.hid (bx_dr BQ.out)
  have B2d := Lib.hid (bx_dr B2.out)
  have B3d := Lib.hid (bx_dr B3.out)
  have q0 := BQd.out.cell 0 (by simp)
  have q1 := BQd.out.cell 1 (by simp)
  have q2 := BQd.out.cell 2 (by simp)
  have q3 := BQd.out.cell 3 (by simp)
  have q4 := BQd.out.cell 4 (by simp)
  have q5 := BQd.out.cell 5 (by simp)
  simp only [List.getElem_cons_zero, List.getElem_cons_succ] at q0 q1 q2 q3 q4 q5
  go_wp2_with fail
  go_region_with (first
      | (go_at_call 106; (with_reducible refine (HFO.out _ (HRP.out _ (bel_dr (Below.refl _ _)))).mono ?_); rintro e w6 ⟨rfl, hb6⟩; have BQ6 := Lib.hid (BQd.out.below hb6); have B26 := Lib.hid (B2d.out.below hb6); have B36 := Lib.hid (B3d.out.below hb6); have q0' := BQ6.out.cell 0 (by simp); have q1' := BQ6.out.cell 1 (by simp); have q2' := BQ6.out.cell 2 (by simp); have q3' := BQ6.out.cell 3 (by simp); have q4' := BQ6.out.cell 4 (by simp); have q5' := BQ6.out.cell 5 (by simp); have r0 := B26.out.cell 0 (by simp); have z0 := B26.out.froz 0 (by simp); have r1 := B26.out.cell 1 (by simp); have z1 := B26.out.froz 1 (by simp); have r2 := B26.out.cell 2 (by simp); have z2 := B26.out.froz 2 (by simp); have r3 := B26.out.cell 3 (by simp); have z3 := B26.out.froz 3 (by simp); have r4 := B26.out.cell 4 (by simp); have z4 := B26.out.froz 4 (by simp); have r5 := B26.out.cell 5 (by simp); have z5 := B26.out.froz 5 (by simp); have s0 := B36.out.cell 0 (by simp); have y0 := B36.out.froz 0 (by simp); have s1 := B36.out.cell 1 (by simp); have y1 := B36.out.froz 1 (by simp); have s2 := B36.out.cell 2 (by simp); have y2 := B36.out.froz 2 (by simp); have s3 := B36.out.cell 3 (by simp); have y3 := B36.out.froz 3 (by simp); have s4 := B36.out.cell 4 (by simp); have y4 := B36.out.froz 4 (by simp); simp only [List.getElem_cons_zero, List.getElem_cons_succ] at q0' q1' q2' q3' q4' q5' r0 r1 r2 r3 r4 r5 s0 s1 s2 s3 s4))
  all_goals (try go_wp2_with fail)
  all_goals
    have HB6 := Lib.hid (belS (bel_dr HBr.out) hb6)
    have T3 := Lib.hid (ownsF_below (ownsF_drew O3.out) hb6 (Nat.le_refl _))
    have T5 := Lib.hid (ownsF_below (ownsF_drew O5.out) hb6 (Nat.le_refl _))
    refine bodyPost_ret (v := .tuple #[.agg #[.string ⟨a0.toArray⟩, .bool a1, .bool a2, .slice ga 0 gc, .int .i64 a4, .slice ua l.length uc], .agg #[.int .i64 0, .int .i64 fp, .string ⟨#[]⟩, .int .i64 0, .int .i64 0]]) (by simp [results, Tryz.results73, go_sem, cell_set_at, cell_set_ne, r0, r1, r2, r3, r4, r5, s0, s1, s2, s3, s4]) rfl ⟨_, rfl, ⟨_, _, rfl, ?_, ?_⟩, ?_⟩
    · refine ownsF_base (B := ((w.heap.size + 1) + 1)) ?_ (by omega)
      repeat (first | with_reducible exact T3.out | with_reducible refine ownsF_set ?_ (by simp; try omega) | with_reducible refine ownsF_drew ?_)
    · refine ownsF_base (B := ((w.heap.size + 1) + 1)) ?_ (by omega)
      repeat (first | with_reducible exact T5.out | with_reducible refine ownsF_set ?_ (by simp; try omega) | with_reducible refine ownsF_drew ?_)
    · repeat (first | with_reducible exact HB6.out | with_reducible refine Below.setCell ?_ (by simp; try omega) _ | with_reducible refine Below.drew ?_)
set_option maxRecDepth 100000 in
set_option maxHeartbeats 3200000 in
theorem specMake_go (b o c : Nat) (k : List UInt8) (r : List (List UInt8)) (w : World) (hR : RowAt w (.slice (some ⟨b, o, none⟩) (r.length + 1) c) ((k :: r).map strV)) (hz : ∀ s ∈ k :: r, s.length ≤ 1048576) (hc : r.length + 1 ≤ c) (hm : r.length + 1 ≤ maxLen) (h1 : ¬ (c : Int) = 1) (hk : 0 ≤ kindI k) :
    Calls Tryz.prog 73 #[.slice (some ⟨b, o, none⟩) (r.length + 1) c] w fun e w' => GivesOPR (makeGo (newP k) r).1 (makeGo (newP k) r).2 w e w' := by
  have d0 := rowAt_cellS hR 0 (by simp)
  simp only [List.map_cons, List.getElem_cons_zero, strV, Nat.add_zero] at d0
  have hbw : b < w.heap.size := by
    obtain ⟨b', o', e, hlt, _⟩ := rowAt_cell hR 0 (by simp)
    injection e with e; injection e with e1 e2; subst e1; exact hlt
  have HNP := Lib.hid (fun W => specNewPart_own ⟨k.toArray⟩ W (by have := hz k (List.mem_cons_self ..); simpa [ByteArray.size] using this))
  simp only [GivesNPO, vNP] at HNP
  have HR := Lib.hid hR
  have HZ := Lib.hid hz
  have HM := Lib.hid hm
  clear hR hz hm
  rw [show decide (0 ≤ kindI (⟨k.toArray⟩ : ByteArray).data.toList) = true from decide_eq_true hk, show nmK (⟨k.toArray⟩ : ByteArray).data.toList = k from if_pos hk] at HNP
  generalize hp0 : newP k = p0
  have HPK := Lib.hid hp0
  clear hp0
  generalize hres : makeGo p0 r = res
  obtain ⟨rp, t0, fp, t2, t3, t4⟩ := res
  have HRES := Lib.hid hres.symm
  clear hres
  unfold GivesOPR vReply
  simp only
  have BS := Lib.hid (bx_start2 w [.string ⟨#[]⟩, .bool false, .bool false, .slice none 0 0, .int .i64 0, .slice none 0 0] [.int .i64 0, .int .i64 0, .string ⟨#[]⟩, .int .i64 0, .int .i64 0] 103 105)
  have HD := Lib.hid d0
  clear d0
  have d0 := (BS.out.2.2.cell (p := ⟨b, o, none⟩) hbw).trans HD.out
  go_enter Tryz.func73, Tryz.ntmps73
  go_wp2_with fail
  refine (HNP.out _).mono ?_
  rintro e w1 ⟨a1, c1, rfl, ho, hb⟩
  have HB1 := Lib.hid ((belS BS.out.2.2 hb).alloc (belS BS.out.2.2 hb).size (.cells #[.string ⟨k.toArray⟩, .bool false, .bool false, .slice a1 0 c1, .int .i64 0, .slice none 0 0] 103))
  have h1s := hb.size
  simp at h1s
  have ST0 := Lib.hid (show MkSt w w1.heap.size p0 (w1.alloc (.cells #[.string ⟨k.toArray⟩, .bool false, .bool false, .slice a1 0 c1, .int .i64 0, .slice none 0 0] 103)) by rw [← HPK.out]; exact ⟨newP_small (HZ.out k (List.mem_cons_self ..)), rfl, ⟨_, Bx.new w1 [.string ⟨k.toArray⟩, .bool false, .bool false, .slice a1 0 c1, .int .i64 0, .slice none 0 0] 103, _, _, rfl, ownsF_alloc (ownsF_base ho (by simp)) _, ownsF_nil _ _ _ _ _⟩, (BS.out.1.below hb).alloc (.cells #[.string ⟨k.toArray⟩, .bool false, .bool false, .slice a1 0 c1, .int .i64 0, .slice none 0 0] 103), (BS.out.2.1.below hb).alloc (.cells #[.string ⟨k.toArray⟩, .bool false, .bool false, .slice a1 0 c1, .int .i64 0, .slice none 0 0] 103), HB1.out⟩)
  clear ho hb d0
  go_wp2_with fail
  have HRT := Lib.hid (fun W (hb : Below w.heap.size w W) => RowAt.below HR.out hb (Nat.le_refl _))
  generalize w1.alloc (.cells #[.string ⟨k.toArray⟩, .bool false, .bool false, .slice a1 0 c1, .int .i64 0, .slice none 0 0] 103) = w2 at *
  go_loopw [7, 8, 9, 29] (fun _ _ _ i wr => ∃ j : Nat, ∃ p : PartD, j ≤ r.length ∧ i = .int .i64 j ∧ (rp, (⟨t0, fp, t2, t3, t4⟩ : ReplyD)) = makeGo p (r.drop j) ∧ MkSt w w1.heap.size p wr) (fun _ _ _ i _ => r.length - (intOf i).toNat)
  case atStart => exact ⟨0, p0, Nat.zero_le _, rfl, HRES.out, ST0.out⟩
  case round =>
    obtain ⟨j, p, hj, rfl, hgo, hst⟩ := hrel
    obtain ⟨hsm, hbare, ⟨cs, hq, hown⟩, hr2, hr3, hbw2⟩ := hst
    by_cases hlt : j < r.length
    · have d1 := rowAt_cellS (HRT.out _ hbw2) (j + 1) (by simp; omega)
      simp only [List.map_cons, List.getElem_cons_succ, List.getElem_map, strV] at d1
      rw [show o + (j + 1) = o + 1 + j by omega] at d1
      have hzs := HZ.out (r[j]) (List.mem_cons_of_mem _ (List.getElem_mem hlt))
      have hdr : r.drop j = r[j] :: r.drop (j + 1) := List.drop_eq_getElem_cons hlt
      rw [hdr] at hgo
      clear hdr
      generalize r[j] = s at *
      have HW := Lib.hid (fun cs W (h : rPart 0 W cs p) => (show Calls Tryz.prog 105 #[.agg cs.toArray, .string ⟨s.toArray⟩] W fun e w' => GivesOPR (wrapP p s) (wrapR p s) W e w' from specWrap_any (.agg cs.toArray) p ⟨s.toArray⟩ W ⟨cs, rfl, h⟩ hsm (by rw [hbare]; intro c hc; cases hc) (by simpa [ByteArray.size] using hzs)))
      have HSM2 := Lib.hid (wrapP_small hsm s)
      have hb2 : (wrapP p s).fCore.fCells = [] := by rw [wrapP_core]; exact hbare
      have hyes : wrapI p s = 0 → (rp, (⟨t0, fp, t2, t3, t4⟩ : ReplyD)) = makeGo (wrapP p s) (r.drop (j + 1)) := fun h => hgo.trans (makeGo_on h)
      have hno : ¬ wrapI p s = 0 → (rp, (⟨t0, fp, t2, t3, t4⟩ : ReplyD)) = (zeroP, wrapR p s) := fun h => hgo.trans (makeGo_stop h)
      obtain ⟨m1, m3, m4, hrr⟩ : ∃ m1 m3 m4, wrapR p s = ⟨wrapI p s, m1, [], m3, m4⟩ := ⟨_, _, _, rfl⟩
      simp only [hrr] at HW hno
      unfold GivesOPR vReply at HW
      simp only at HW
      clear hgo hrr
      generalize wrapI p s = m0 at *
      generalize wrapP p s = p2 at *
      obtain ⟨⟨a0, a1, a2, a3, a4⟩, l⟩ := p
      obtain rfl : a3 = [] := hbare
      obtain ⟨u3, u5, rfl, ho3, ho5⟩ := hown
      simp only at ho3 ho5 hq
      obtain ⟨ga, gc, rfl⟩ := slice_of ho3
      obtain ⟨ua, uc, rfl⟩ := slice_of ho5
      simp only [List.length_nil] at *
      have O3 := Lib.hid ho3
      have O5 := Lib.hid ho5
      have HSM := Lib.hid hsm
      have BQ := Lib.hid hq
      have B2 := Lib.hid hr2
      have B3 := Lib.hid hr3
      have HBr := Lib.hid hbw2
      have hlq := hq.lt
      have hls := hbw2.size
      clear hsm ho3 ho5 hq hr2 hr3 hbw2
      have HRP := Lib.hid (goodPart.mono (oPart_r ⟨_, _, rfl, O3.out, O5.out⟩ HSM.out) (Nat.zero_le _))
      have HYES := Lib.hid hyes
      have HNO := Lib.hid hno
      have hjr : (j : Int) < (r.length : Int) := by omega
      have hml := HM.out
      unfold maxLen at hml
      clear hyes hno
      have q0 := BQ.out.cell 0 (by simp)
      have q1 := BQ.out.cell 1 (by simp)
      have q2 := BQ.out.cell 2 (by simp)
      have q3 := BQ.out.cell 3 (by simp)
      have q4 := BQ.out.cell 4 (by simp)
      have q5 := BQ.out.cell 5 (by simp)
      simp only [List.getElem_cons_zero, List.getElem_cons_succ] at q0 q1 q2 q3 q4 q5
      go_wp2_with fail
      refine (HW.out _ _ HRP.out).mono ?_
      rintro e w4 ⟨_, rfl, ho, hb⟩
      obtain ⟨⟨b0, b1, b2, b3, b4⟩, l2⟩ := p2
      obtain rfl : b3 = [] := hb2
      obtain ⟨u3, u5, rfl, ho3, ho5⟩ := ho
      simp only at ho3 ho5
      obtain ⟨ha, hc2, rfl⟩ := slice_of ho3
      obtain ⟨va, vc, rfl⟩ := slice_of ho5
      simp only [List.length_nil] at *
      have N3 := Lib.hid ho3
      have N5 := Lib.hid ho5
      have HB4 := Lib.hid (belS HBr.out hb)
      have BQ4 := Lib.hid (BQ.out.below hb)
      have B24 := Lib.hid (B2.out.below hb)
      have B34 := Lib.hid (B3.out.below hb)
      have hs4 := hb.size
      have hq4 := BQ4.out.lt
      clear hb ho3 ho5 q0 q1 q2 q3 q4 q5 BQ B2 B3
      by_cases hcd : m0 = 0
      · subst hcd
        have HG := Lib.hid (HYES.out rfl)
        clear HNO HYES
        have q0 := BQ4.out.cell 0 (by simp)
        have q1 := BQ4.out.cell 1 (by simp)
        have q2 := BQ4.out.cell 2 (by simp)
        have q3 := BQ4.out.cell 3 (by simp)
        have q4 := BQ4.out.cell 4 (by simp)
        have q5 := BQ4.out.cell 5 (by simp)
        simp only [List.getElem_cons_zero, List.getElem_cons_succ] at q0 q1 q2 q3 q4 q5
        have p0 := BQ4.out.froz 0 (by simp)
        have p1 := BQ4.out.froz 1 (by simp)
        have p2 := BQ4.out.froz 2 (by simp)
        have p3 := BQ4.out.froz 3 (by simp)
        have p4 := BQ4.out.froz 4 (by simp)
        have p5 := BQ4.out.froz 5 (by simp)
        go_wp2_with fail
        refine ⟨⟨j + 1, ⟨⟨b0, b1, b2, [], b4⟩, l2⟩, by omega, by go_num, HG.out, ?_⟩, by simp [intOf]; omega⟩
        exact ⟨HSM2.out, rfl, ⟨_, ((BQ4.out.put6 (.string ⟨b0.toArray⟩) (.bool b1) (.bool b2) (.slice ha 0 hc2) (.int .i64 b4) (.slice va l2.length vc)).alloc _).alloc _, _, _, rfl, ownsF_alloc (ownsF_alloc (ownsF_base (ownsF_put6 N3.out w1.heap.size hlq (.string ⟨b0.toArray⟩) (.bool b1) (.bool b2) (.slice ha 0 hc2) (.int .i64 b4) (.slice va l2.length vc)) (by omega)) _) _, ownsF_alloc (ownsF_alloc (ownsF_base (ownsF_put6 N5.out w1.heap.size hlq (.string ⟨b0.toArray⟩) (.bool b1) (.bool b2) (.slice ha 0 hc2) (.int .i64 b4) (.slice va l2.length vc)) (by omega)) _) _⟩,
          ((B24.out.put6o (c := w1.heap.size) (by omega) (.string ⟨b0.toArray⟩) (.bool b1) (.bool b2) (.slice ha 0 hc2) (.int .i64 b4) (.slice va l2.length vc)).alloc _).alloc _, ((B34.out.put6o (c := w1.heap.size) (by omega) (.string ⟨b0.toArray⟩) (.bool b1) (.bool b2) (.slice ha 0 hc2) (.int .i64 b4) (.slice va l2.length vc)).alloc _).alloc _,
          belS (belS (below_put6 HB4.out w1.heap.size (by omega) (.string ⟨b0.toArray⟩) (.bool b1) (.bool b2) (.slice ha 0 hc2) (.int .i64 b4) (.slice va l2.length vc)) (bx_box _ _)) (bx_box _ _)⟩
      · have HG := Lib.hid (HNO.out hcd)
        have hg := HG.out
        simp only [Prod.mk.injEq, ReplyD.mk.injEq] at hg
        obtain ⟨g1, g2, g3, g4, g5, g6⟩ := hg
        subst g1
        subst g4
        have g2 := g2.symm
        have g3 := g3.symm
        have g5 := g5.symm
        have g6 := g6.symm
        subst g2
        subst g3
        subst g5
        subst g6
        clear HNO HYES HG
        have B25 := Lib.hid ((B24.out.alloc (.cells #[.string ⟨b0.toArray⟩, .bool b1, .bool b2, .slice ha 0 hc2, .int .i64 b4, .slice va l2.length vc] 103)).alloc (.cells #[.int .i64 m0, .int .i64 m1, .string ⟨#[]⟩, .int .i64 m3, .int .i64 m4] 105))
        have B35 := Lib.hid ((B34.out.alloc (.cells #[.string ⟨b0.toArray⟩, .bool b1, .bool b2, .slice ha 0 hc2, .int .i64 b4, .slice va l2.length vc] 103)).alloc (.cells #[.int .i64 m0, .int .i64 m1, .string ⟨#[]⟩, .int .i64 m3, .int .i64 m4] 105))
        have r0 := B25.out.cell 0 (by simp)
        have r1 := B25.out.cell 1 (by simp)
        have r2 := B25.out.cell 2 (by simp)
        have r3 := B25.out.cell 3 (by simp)
        have r4 := B25.out.cell 4 (by simp)
        have r5 := B25.out.cell 5 (by simp)
        simp only [List.getElem_cons_zero, List.getElem_cons_succ] at r0 r1 r2 r3 r4 r5
        have z0 := B25.out.froz 0 (by simp)
        have z1 := B25.out.froz 1 (by simp)
        have z2 := B25.out.froz 2 (by simp)
        have z3 := B25.out.froz 3 (by simp)
        have z4 := B25.out.froz 4 (by simp)
        have z5 := B25.out.froz 5 (by simp)
        have s0 := B35.out.cell 0 (by simp)
        have s1 := B35.out.cell 1 (by simp)
        have s2 := B35.out.cell 2 (by simp)
        have s3 := B35.out.cell 3 (by simp)
        have s4 := B35.out.cell 4 (by simp)
        simp only [List.getElem_cons_zero, List.getElem_cons_succ] at s0 s1 s2 s3 s4
        have y0 := B35.out.froz 0 (by simp)
        have y1 := B35.out.froz 1 (by simp)
        have y2 := B35.out.froz 2 (by simp)
        have y3 := B35.out.froz 3 (by simp)
        have y4 := B35.out.froz 4 (by simp)
        go_wp2_with fail
        go_region
        all_goals (try go_wp2_with fail)
        all_goals
          refine bodyPost_ret (v := .tuple #[.agg #[.string ⟨#[]⟩, .bool false, .bool false, .slice none 0 0, .int .i64 0, .slice none 0 0], .agg #[.int .i64 m0, .int .i64 m1, .string ⟨#[]⟩, .int .i64 m3, .int .i64 m4]]) (by simp [results, Tryz.results73, go_sem, cell_set_at, cell_set_ne, r0, r1, r2, r3, r4, r5, s0, s1, s2, s3, s4]) rfl ⟨_, rfl, ⟨_, _, rfl, ownsF_nil _ _ _ _ _, ownsF_nil _ _ _ _ _⟩, ?_⟩
          repeat (first | with_reducible exact HB4.out | with_reducible refine Below.setCell ?_ (by simp; try omega) _ | with_reducible refine Below.alloc ?_ (by first | omega | (simp; omega)) _ | with_reducible refine Below.drew ?_)
    · rw [show r.drop j = [] from List.drop_eq_nil_of_le (by omega)] at hgo
      replace hgo : (rp, (⟨t0, fp, t2, t3, t4⟩ : ReplyD)) = (p, ⟨0, faceP p, [], 0, 0⟩) := hgo
      simp only [Prod.mk.injEq, ReplyD.mk.injEq] at hgo
      obtain ⟨g1, g2, g3, g4, g5, g6⟩ := hgo
      have g1 := g1.symm
      subst g1
      subst g2
      subst g4
      subst g5
      subst g6
      have HFP := Lib.hid g3.symm
      clear g3
      have hjr : ¬ (j : Int) < (r.length : Int) := by omega
      obtain ⟨⟨a0, a1, a2, a3, a4⟩, l⟩ := p
      obtain rfl : a3 = [] := hbare
      obtain ⟨u3, u5, rfl, ho3, ho5⟩ := hown
      simp only at ho3 ho5 hq
      obtain ⟨ga, gc, rfl⟩ := slice_of ho3
      obtain ⟨ua, uc, rfl⟩ := slice_of ho5
      simp only [List.length_nil] at *
      have O3 := Lib.hid ho3
      have O5 := Lib.hid ho5
      have HSM := Lib.hid hsm
      have BQ := Lib.hid hq
      have B2 := Lib.hid hr2
      have B3 := Lib.hid hr3
      have HBr := Lib.hid hbw2
      have hlq := hq.lt
      have hls := hbw2.size
      clear hsm ho3 ho5 hq hr2 hr3 hbw2
      have HRP := Lib.hid (fun W (hb : Below wr.heap.size wr W) => (show rPart 0 W [.string ⟨a0.toArray⟩, .bool a1, .bool a2, .slice ga 0 gc, .int .i64 a4, .slice ua l.length uc] (⟨⟨a0, a1, a2, [], a4⟩, l⟩ : PartD) from goodPart.mono (oPart_r ⟨_, _, rfl, ownsF_below O3.out hb (Nat.le_refl _), ownsF_below O5.out hb (Nat.le_refl _)⟩ HSM.out) (Nat.zero_le _)))
      have HFO := Lib.hid (fun W (h : rPart 0 W [.string ⟨a0.toArray⟩, .bool a1, .bool a2, .slice ga 0 gc, .int .i64 a4, .slice ua l.length uc] (⟨⟨a0, a1, a2, [], a4⟩, l⟩ : PartD)) => (show Calls Tryz.prog 106 #[.agg #[.string ⟨a0.toArray⟩, .bool a1, .bool a2, .slice ga 0 gc, .int .i64 a4, .slice ua l.length uc]] W fun e w' => e = .returned (.int .i64 (faceP (⟨⟨a0, a1, a2, [], a4⟩, l⟩ : PartD))) ∧ Below W.heap.size W w' from specFaceOf_any (.agg #[.string ⟨a0.toArray⟩, .bool a1, .bool a2, .slice ga 0 gc, .int .i64 a4, .slice ua l.length uc]) (⟨⟨a0, a1, a2, [], a4⟩, l⟩ : PartD) W ⟨[.string ⟨a0.toArray⟩, .bool a1, .bool a2, .slice ga 0 gc, .int .i64 a4, .slice ua l.length uc], rfl, h⟩))
      rw [HFP.out] at HFO
      have BQd := Lib.hid (bx_dr BQ.out)
      have B2d := Lib.hid (bx_dr B2.out)
      have B3d := Lib.hid (bx_dr B3.out)
      have q0 := BQd.out.cell 0 (by simp)
      have q1 := BQd.out.cell 1 (by simp)
      have q2 := BQd.out.cell 2 (by simp)
      have q3 := BQd.out.cell 3 (by simp)
      have q4 := BQd.out.cell 4 (by simp)
      have q5 := BQd.out.cell 5 (by simp)
      simp only [List.getElem_cons_zero, List.getElem_cons_succ] at q0 q1 q2 q3 q4 q5
      go_wp2_with fail
      go_region_with (first
          | (go_at_call 106; (with_reducible refine (HFO.out _ (HRP.out _ (bel_dr (Below.refl _ _)))).mono ?_); rintro e w6 ⟨rfl, hb6⟩; have BQ6 := Lib.hid (BQd.out.below hb6); have B26 := Lib.hid (B2d.out.below hb6); have B36 := Lib.hid (B3d.out.below hb6); have q0' := BQ6.out.cell 0 (by simp); have q1' := BQ6.out.cell 1 (by simp); have q2' := BQ6.out.cell 2 (by simp); have q3' := BQ6.out.cell 3 (by simp); have q4' := BQ6.out.cell 4 (by simp); have q5' := BQ6.out.cell 5 (by simp); have r0 := B26.out.cell 0 (by simp); have z0 := B26.out.froz 0 (by simp); have r1 := B26.out.cell 1 (by simp); have z1 := B26.out.froz 1 (by simp); have r2 := B26.out.cell 2 (by simp); have z2 := B26.out.froz 2 (by simp); have r3 := B26.out.cell 3 (by simp); have z3 := B26.out.froz 3 (by simp); have r4 := B26.out.cell 4 (by simp); have z4 := B26.out.froz 4 (by simp); have r5 := B26.out.cell 5 (by simp); have z5 := B26.out.froz 5 (by simp); have s0 := B36.out.cell 0 (by simp); have y0 := B36.out.froz 0 (by simp); have s1 := B36.out.cell 1 (by simp); have y1 := B36.out.froz 1 (by simp); have s2 := B36.out.cell 2 (by simp); have y2 := B36.out.froz 2 (by simp); have s3 := B36.out.cell 3 (by simp); have y3 := B36.out.froz 3 (by simp); have s4 := B36.out.cell 4 (by simp); have y4 := B36.out.froz 4 (by simp); simp only [List.getElem_cons_zero, List.getElem_cons_succ] at q0' q1' q2' q3' q4' q5' r0 r1 r2 r3 r4 r5 s0 s1 s2 s3 s4))
      all_goals (try go_wp2_with fail)
      all_goals
        have HB6 := Lib.hid (belS (bel_dr HBr.out) hb6)
        have T3 := Lib.hid (ownsF_below (ownsF_drew O3.out) hb6 (Nat.le_refl _))
        have T5 := Lib.hid (ownsF_below (ownsF_drew O5.out) hb6 (Nat.le_refl _))
        refine bodyPost_ret (v := .tuple #[.agg #[.string ⟨a0.toArray⟩, .bool a1, .bool a2, .slice ga 0 gc, .int .i64 a4, .slice ua l.length uc], .agg #[.int .i64 0, .int .i64 fp, .string ⟨#[]⟩, .int .i64 0, .int .i64 0]]) (by simp [results, Tryz.results73, go_sem, cell_set_at, cell_set_ne, r0, r1, r2, r3, r4, r5, s0, s1, s2, s3, s4]) rfl ⟨_, rfl, ⟨_, _, rfl, ?_, ?_⟩, ?_⟩
        · refine ownsF_base (B := ((w.heap.size + 1) + 1)) ?_ (by omega)
          repeat (first | with_reducible exact T3.out | with_reducible refine ownsF_set ?_ (by simp; try omega) | with_reducible refine ownsF_drew ?_)
        · refine ownsF_base (B := ((w.heap.size + 1) + 1)) ?_ (by omega)
          repeat (first | with_reducible exact T5.out | with_reducible refine ownsF_set ?_ (by simp; try omega) | with_reducible refine ownsF_drew ?_)
        · repeat (first | with_reducible exact HB6.out | with_reducible refine Below.setCell ?_ (by simp; try omega) _ | with_reducible refine Below.drew ?_)
theorem specMakePart_any (v : Value) (x : List (List UInt8)) (w : World) (hR : RowAt w v (x.map strV)) (hz : ∀ s ∈ x, s.length ≤ 1048576) :
    Calls Tryz.prog 73 #[v] w fun e w' => GivesOPR (makePR x).1 (makePR x).2 w e w' := by
  obtain ⟨a, c, rfl, hl, hcap⟩ := rowAt_cap hR
  cases x with
  | nil => exact specMake_nil a c w
  | cons k r =>
    obtain ⟨b, o, rfl, hbw, _⟩ := rowAt_cell hR 0 (by simp)
    simp only [List.length_map, List.length_cons] at hR hl hcap ⊢
    by_cases hk : 0 ≤ kindI k
    · rw [show makePR (k :: r) = makeGo (newP k) r from if_pos hk]
      by_cases h1 : c = 1
      · exact specMake_one b o c k r w hR hz hcap hl h1 hk
      · exact specMake_go b o c k r w hR hz hcap hl (by omega) hk
    · rw [show makePR (k :: r) = (zeroP, ⟨7, 0, [], 0, 0⟩) from if_neg hk]
      exact specMake_bad b o c k r w hR hz hcap hl hk
set_option maxRecDepth 100000 in
set_option maxHeartbeats 1600000 in
theorem specRecipeFace_any (v : Value) (x : List (List UInt8)) (w : World) (hR : RowAt w v (x.map strV)) (hz : ∀ s ∈ x, s.length ≤ 1048576) :
    Calls Tryz.prog 35 #[v] w fun e w' => e = .returned (.tuple #[.int .i64 (recI x), .bool (recB x)]) ∧ Below w.heap.size w w' := by
  have HMK := Lib.hid (specMakePart_any v x w hR hz)
  have HSM := Lib.hid (makePR_small hz)
  have HV := Lib.hid (@makePR_val x)
  unfold recI recB
  generalize makePR x = res at *
  obtain ⟨⟨⟨a0, a1, a2, a3, a4⟩, l⟩, m0, m1, m2, m3, m4⟩ := res
  unfold GivesOPR vReply at HMK
  simp only at HMK HSM ⊢
  have HFO := Lib.hid (fun cs W (h : rPart 0 W cs ⟨⟨a0, a1, a2, a3, a4⟩, l⟩) => specFaceOf_any (.agg cs.toArray) ⟨⟨a0, a1, a2, a3, a4⟩, l⟩ W ⟨cs, rfl, h⟩)
  generalize hfp : faceP ⟨⟨a0, a1, a2, a3, a4⟩, l⟩ = fp at *
  clear hfp hR hz
  by_cases hc : m0 = 0
  · subst hc
    have hv : m1 = fp := HV.out rfl
    subst hv
    simp only [if_true, decide_true]
    clear HV
    go_enter Tryz.func35, Tryz.ntmps35
    go_wp2_with fail
    refine HMK.out.mono ?_
    rintro e w1 ⟨_, rfl, ⟨u3, u5, rfl, ho3, ho5⟩, hb⟩
    simp only at ho3 ho5
    obtain ⟨ga, gc, rfl⟩ := slice_of ho3
    obtain ⟨ua, uc, rfl⟩ := slice_of ho5
    have HB1 := Lib.hid (belS (belS hb (bx_box w1 (.cells #[.string ⟨a0.toArray⟩, .bool a1, .bool a2, .slice ga a3.length gc, .int .i64 a4, .slice ua l.length uc] 103))) (bx_box _ (.cells #[.int .i64 0, .int .i64 m1, .string ⟨m2.toArray⟩, .int .i64 m3, .int .i64 m4] 105)))
    have O3 := Lib.hid (ownsF_alloc (ownsF_alloc ho3 (.cells #[.string ⟨a0.toArray⟩, .bool a1, .bool a2, .slice ga a3.length gc, .int .i64 a4, .slice ua l.length uc] 103)) (.cells #[.int .i64 0, .int .i64 m1, .string ⟨m2.toArray⟩, .int .i64 m3, .int .i64 m4] 105))
    have O5 := Lib.hid (ownsF_alloc (ownsF_alloc ho5 (.cells #[.string ⟨a0.toArray⟩, .bool a1, .bool a2, .slice ga a3.length gc, .int .i64 a4, .slice ua l.length uc] 103)) (.cells #[.int .i64 0, .int .i64 m1, .string ⟨m2.toArray⟩, .int .i64 m3, .int .i64 m4] 105))
    have HRP := Lib.hid (show rPart 0 ((w1.alloc (.cells #[.string ⟨a0.toArray⟩, .bool a1, .bool a2, .slice ga a3.length gc, .int .i64 a4, .slice ua l.length uc] 103)).alloc (.cells #[.int .i64 0, .int .i64 m1, .string ⟨m2.toArray⟩, .int .i64 m3, .int .i64 m4] 105)) [.string ⟨a0.toArray⟩, .bool a1, .bool a2, .slice ga a3.length gc, .int .i64 a4, .slice ua l.length uc] ⟨⟨a0, a1, a2, a3, a4⟩, l⟩ from goodPart.mono (oPart_r ⟨_, _, rfl, O3.out, O5.out⟩ HSM.out) (Nat.zero_le _))
    clear ho3 ho5 hb
    go_wp2_with fail
    exact bodyPost_ret (v := .tuple #[.int .i64 m1, .bool true]) (by simp [results, Tryz.results35, go_sem]) rfl ⟨rfl, HB1.out⟩
  · simp only [if_neg hc, decide_eq_false hc]
    clear HV
    go_enter Tryz.func35, Tryz.ntmps35
    go_wp2_with fail
    refine HMK.out.mono ?_
    rintro e w1 ⟨_, rfl, ⟨u3, u5, rfl, ho3, ho5⟩, hb⟩
    simp only at ho3 ho5
    obtain ⟨ga, gc, rfl⟩ := slice_of ho3
    obtain ⟨ua, uc, rfl⟩ := slice_of ho5
    have HB1 := Lib.hid (belS (belS hb (bx_box w1 (.cells #[.string ⟨a0.toArray⟩, .bool a1, .bool a2, .slice ga a3.length gc, .int .i64 a4, .slice ua l.length uc] 103))) (bx_box _ (.cells #[.int .i64 m0, .int .i64 m1, .string ⟨m2.toArray⟩, .int .i64 m3, .int .i64 m4] 105)))
    clear ho3 ho5 hb
    go_wp2_with fail
    exact bodyPost_ret (v := .tuple #[.int .i64 0, .bool false]) (by simp [results, Tryz.results35, go_sem]) rfl ⟨rfl, HB1.out⟩
end Go.Proofs.YtlkpinlkbikokabGreat
/- Contracts of chapter 6: IsEntry, the model's. Written by gen/ch6e.py. -/
namespace Go.Proofs.YtlkpinlkbikokabGreat
set_option linter.unusedVariables false
set_option linter.unusedSimpArgs false
open Go.RowKit
set_option maxRecDepth 100000 in
set_option maxHeartbeats 3200000 in
theorem specIsEntry_any (v : Value) (x : EntryD) (w : World) (hx : ValAt rEntry 0 w v x) (hn : x.fName.length ≤ maxLen) (hk : ∀ d ∈ x.fNeeds, d.fFrom.length ≤ maxLen) (hr : ∀ s ∈ x.fRecipe, s.length ≤ 1048576) :
    Calls Tryz.prog 36 #[v] w fun e w' => e = .returned (.bool (entryB x)) ∧ Below w.heap.size w w' := by
  have HRF := Lib.hid (fun v W (h : RowAt W v (x.fRecipe.map strV)) => specRecipeFace_any v x.fRecipe W h hr)
  have HNM := Lib.hid (fun W => specIsName_any ⟨x.fName.toArray⟩ W (by simpa [ByteArray.size] using hn))
  have HVR := Lib.hid (fun W => specIsVer_any x.fVersion W)
  unfold entryB headB
  generalize recI x.fRecipe = fi at *
  generalize recB x.fRecipe = fb at *
  obtain ⟨_, rfl, hx⟩ := hx
  have HX := Lib.hid (fun W (hb : Below w.heap.size w W) => goodEntry.keep hx (kept_below hb (Nat.le_refl _)))
  obtain ⟨a0, a1, ⟨a2, a3⟩, l⟩ := x
  obtain ⟨v1, v4, rfl, h1, h4⟩ := hx
  simp only at h1 h4 hk hn hr
  obtain ⟨ra, rc, rfl, _⟩ := sliceAt_len h1
  obtain ⟨sa, sc, rfl, hl⟩ := sliceAt_len h4
  have H1 := Lib.hid h1
  have H4 := Lib.hid h4
  have HK := Lib.hid hk
  unfold maxLen at hl
  have BS := Lib.hid (bx_start1 w [.string ⟨a0.toArray⟩, .slice ra a1.length rc, .int .i64 a2, .int .i64 a3, .slice sa l.length sc] 36)
  simp only [List.toList_toArray, vVersion] at *
  generalize nameB a0 = nb at *
  generalize verB ⟨a2, a3⟩ = vb at *
  have BX0 := Lib.hid BS.out.1
  have HB0 := Lib.hid BS.out.2
  clear h1 h4 hk hn hr
  cases nb
  · change Calls Tryz.prog 36 _ w (fun e w' => e = .returned (.bool false) ∧ Below w.heap.size w w')
    go_enter Tryz.func36, Tryz.ntmps36
    go_wp2_with fail
    refine (HRF.out _ _ (row_of_slice (SliceAt.below H1.out good_str HB0.out (Nat.le_refl _)))).mono ?_
    rintro e w1 ⟨rfl, hb⟩
    have HB1 := Lib.hid (belS HB0.out hb)
    have BX1 := Lib.hid (BX0.out.below hb)
    clear hb
    have y0 := BX1.out.cell 0 (by simp)
    have y1 := BX1.out.cell 1 (by simp)
    have y2 := BX1.out.cell 2 (by simp)
    have y3 := BX1.out.cell 3 (by simp)
    have y4 := BX1.out.cell 4 (by simp)
    simp only [List.getElem_cons_zero, List.getElem_cons_succ] at y0 y1 y2 y3 y4
    go_wp2_with (first | (go_at_call 67; (with_reducible refine (HNM.out _).mono ?_); rintro e w' ⟨rfl, rfl⟩))
    go_ret
    exact ⟨rfl, HB1.out⟩
  cases fb
  · rw [Bool.and_false]
    change Calls Tryz.prog 36 _ w (fun e w' => e = .returned (.bool false) ∧ Below w.heap.size w w')
    go_enter Tryz.func36, Tryz.ntmps36
    go_wp2_with fail
    refine (HRF.out _ _ (row_of_slice (SliceAt.below H1.out good_str HB0.out (Nat.le_refl _)))).mono ?_
    rintro e w1 ⟨rfl, hb⟩
    have HB1 := Lib.hid (belS HB0.out hb)
    have BX1 := Lib.hid (BX0.out.below hb)
    clear hb
    have y0 := BX1.out.cell 0 (by simp)
    have y1 := BX1.out.cell 1 (by simp)
    have y2 := BX1.out.cell 2 (by simp)
    have y3 := BX1.out.cell 3 (by simp)
    have y4 := BX1.out.cell 4 (by simp)
    simp only [List.getElem_cons_zero, List.getElem_cons_succ] at y0 y1 y2 y3 y4
    go_wp2_with (first | (go_at_call 67; (with_reducible refine (HNM.out _).mono ?_); rintro e w' ⟨rfl, rfl⟩))
    go_ret
    exact ⟨rfl, HB1.out⟩
  cases vb
  · change Calls Tryz.prog 36 _ w (fun e w' => e = .returned (.bool false) ∧ Below w.heap.size w w')
    go_enter Tryz.func36, Tryz.ntmps36
    go_wp2_with fail
    refine (HRF.out _ _ (row_of_slice (SliceAt.below H1.out good_str HB0.out (Nat.le_refl _)))).mono ?_
    rintro e w1 ⟨rfl, hb⟩
    have HB1 := Lib.hid (belS HB0.out hb)
    have BX1 := Lib.hid (BX0.out.below hb)
    clear hb
    have y0 := BX1.out.cell 0 (by simp)
    have y1 := BX1.out.cell 1 (by simp)
    have y2 := BX1.out.cell 2 (by simp)
    have y3 := BX1.out.cell 3 (by simp)
    have y4 := BX1.out.cell 4 (by simp)
    simp only [List.getElem_cons_zero, List.getElem_cons_succ] at y0 y1 y2 y3 y4
    go_wp2_with (first | (go_at_call 67; (with_reducible refine (HNM.out _).mono ?_); rintro e w' ⟨rfl, rfl⟩))
    refine (HVR.out _).mono ?_
    rintro e w2 ⟨rfl, hb⟩
    have HB2 := Lib.hid (belS HB1.out hb)
    have BX2 := Lib.hid (BX1.out.below hb)
    clear hb y0 y1 y2 y3 y4
    have y0 := BX2.out.cell 0 (by simp)
    have y1 := BX2.out.cell 1 (by simp)
    have y2 := BX2.out.cell 2 (by simp)
    have y3 := BX2.out.cell 3 (by simp)
    have y4 := BX2.out.cell 4 (by simp)
    simp only [List.getElem_cons_zero, List.getElem_cons_succ] at y0 y1 y2 y3 y4
    go_wp2_with fail
    go_ret
    exact ⟨rfl, HB2.out⟩
  simp only [Bool.true_and, Bool.and_true]
  by_cases h3 : 3 < l.length
  · rw [show needsB ⟨a0, a1, ⟨a2, a3⟩, l⟩ = false by unfold needsB; rw [decide_eq_false (by simp only; omega)]; rfl]
    have hgt : (3 : Int) < (l.length : Int) := by omega
    clear h3
    go_enter Tryz.func36, Tryz.ntmps36
    go_wp2_with fail
    refine (HRF.out _ _ (row_of_slice (SliceAt.below H1.out good_str HB0.out (Nat.le_refl _)))).mono ?_
    rintro e w1 ⟨rfl, hb⟩
    have HB1 := Lib.hid (belS HB0.out hb)
    have BX1 := Lib.hid (BX0.out.below hb)
    clear hb
    have y0 := BX1.out.cell 0 (by simp)
    have y1 := BX1.out.cell 1 (by simp)
    have y2 := BX1.out.cell 2 (by simp)
    have y3 := BX1.out.cell 3 (by simp)
    have y4 := BX1.out.cell 4 (by simp)
    simp only [List.getElem_cons_zero, List.getElem_cons_succ] at y0 y1 y2 y3 y4
    go_wp2_with (first | (go_at_call 67; (with_reducible refine (HNM.out _).mono ?_); rintro e w' ⟨rfl, rfl⟩))
    refine (HVR.out _).mono ?_
    rintro e w2 ⟨rfl, hb⟩
    have HB2 := Lib.hid (belS HB1.out hb)
    have BX2 := Lib.hid (BX1.out.below hb)
    clear hb y0 y1 y2 y3 y4
    have y0 := BX2.out.cell 0 (by simp)
    have y1 := BX2.out.cell 1 (by simp)
    have y2 := BX2.out.cell 2 (by simp)
    have y3 := BX2.out.cell 3 (by simp)
    have y4 := BX2.out.cell 4 (by simp)
    simp only [List.getElem_cons_zero, List.getElem_cons_succ] at y0 y1 y2 y3 y4
    go_wp2_with fail
    go_ret
    exact ⟨rfl, HB2.out⟩
  · rw [show needsB ⟨a0, a1, ⟨a2, a3⟩, l⟩ = l.all (needOk a0) by unfold needsB; rw [decide_eq_true (by simp only; omega)]; rfl]
    generalize hres : l.all (needOk a0) = res
    have HRES := Lib.hid (show res = (l.drop 0).all (needOk a0) from hres.symm)
    have hgt : ¬ (3 : Int) < (l.length : Int) := by omega
    clear h3 hres
    go_enter Tryz.func36, Tryz.ntmps36
    go_wp2_with fail
    refine (HRF.out _ _ (row_of_slice (SliceAt.below H1.out good_str HB0.out (Nat.le_refl _)))).mono ?_
    rintro e w1 ⟨rfl, hb⟩
    have HB1 := Lib.hid (belS HB0.out hb)
    have BX1 := Lib.hid (BX0.out.below hb)
    clear hb
    have y0 := BX1.out.cell 0 (by simp)
    have y1 := BX1.out.cell 1 (by simp)
    have y2 := BX1.out.cell 2 (by simp)
    have y3 := BX1.out.cell 3 (by simp)
    have y4 := BX1.out.cell 4 (by simp)
    simp only [List.getElem_cons_zero, List.getElem_cons_succ] at y0 y1 y2 y3 y4
    go_wp2_with (first | (go_at_call 67; (with_reducible refine (HNM.out _).mono ?_); rintro e w' ⟨rfl, rfl⟩))
    refine (HVR.out _).mono ?_
    rintro e w2 ⟨rfl, hb⟩
    have HB2 := Lib.hid (belS HB1.out hb)
    have BX2 := Lib.hid (BX1.out.below hb)
    clear hb y0 y1 y2 y3 y4
    have y0 := BX2.out.cell 0 (by simp)
    have y1 := BX2.out.cell 1 (by simp)
    have y2 := BX2.out.cell 2 (by simp)
    have y3 := BX2.out.cell 3 (by simp)
    have y4 := BX2.out.cell 4 (by simp)
    simp only [List.getElem_cons_zero, List.getElem_cons_succ] at y0 y1 y2 y3 y4
    go_wp2_with fail
    go_loopw [6, 36] (fun _ i wr => ∃ k : Nat, k ≤ l.length ∧ i = .int .i64 k ∧ res = (l.drop k).all (needOk a0) ∧ Below w.heap.size w wr ∧ Bx wr w.heap.size [.string ⟨a0.toArray⟩, .slice ra a1.length rc, .int .i64 a2, .int .i64 a3, .slice sa l.length sc]) (fun _ i _ => l.length - (intOf i).toNat)
    case atStart => exact ⟨0, Nat.zero_le _, rfl, HRES.out, HB2.out, BX2.out⟩
    case round =>
      obtain ⟨k, hk, rfl, hres, hbr, hbx⟩ := hrel
      have HRS := Lib.hid hres
      have HBr := Lib.hid hbr
      have BXr := Lib.hid hbx
      have HXr := Lib.hid (SliceAt.below H4.out (good_flat cNeed_len) hbr (Nat.le_refl _))
      have hszr := hbr.size
      clear hres hbr hbx
      by_cases hlt : k < l.length
      · obtain ⟨b, o, cs, rfl, hbw, hat, hd⟩ := sliceAt_cell HXr.out k hlt
        have HM := Lib.hid (HK.out _ (List.getElem_mem hlt))
        have HDR := Lib.hid (show l.drop k = l[k] :: l.drop (k + 1) from List.drop_eq_getElem_cons hlt)
        generalize l[k] = z at *
        obtain ⟨m0, m1, m2, m3⟩ := z
        simp only [rFlat, cNeed] at hat
        subst hat
        have d0 := hd 0 (by decide)
        have d1 := hd 1 (by decide)
        have d2 := hd 2 (by decide)
        have d3 := hd 3 (by decide)
        simp only [List.getElem?_cons_zero, List.getElem?_cons_succ, Nat.add_zero] at d0 d1 d2 d3
        have HIN := Lib.hid (fun W => specIsNeed_any ⟨m0, m1, m2, m3⟩ W HM.out)
        unfold vNeed at HIN
        simp only at HIN
        have HRS2 := Lib.hid (show res = ((needB ⟨m0, m1, m2, m3⟩ && !(m1 == a0)) && (l.drop (k + 1)).all (needOk a0)) by rw [HRS.out, HDR.out]; rfl)
        generalize needB ⟨m0, m1, m2, m3⟩ = nb at *
        have BN := Lib.hid (Bx.new wr [.int .i64 m0, .string ⟨m1.toArray⟩, .int .i64 m2, .int .i64 m3] 39)
        have HBN := Lib.hid (belS HBr.out (bx_box wr (.cells #[.int .i64 m0, .string ⟨m1.toArray⟩, .int .i64 m2, .int .i64 m3] 39)))
        have BXN := Lib.hid (BXr.out.alloc (.cells #[.int .i64 m0, .string ⟨m1.toArray⟩, .int .i64 m2, .int .i64 m3] 39))
        have hkl : (k : Int) < (l.length : Int) := by omega
        clear hd HRS HDR
        cases nb
        · obtain rfl : res = false := by have h := HRS2.out; simpa using h
          clear HRS2
          have n0 := BN.out.cell 0 (by simp)
          have n1 := BN.out.cell 1 (by simp)
          have n2 := BN.out.cell 2 (by simp)
          have n3 := BN.out.cell 3 (by simp)
          simp only [List.getElem_cons_zero, List.getElem_cons_succ] at n0 n1 n2 n3
          go_wp2_with fail
          refine (HIN.out _).mono ?_
          rintro e w2 ⟨rfl, hb⟩
          have HB2 := Lib.hid (belS HBN.out hb)
          clear hb
          go_wp2_with fail
          go_ret
          exact ⟨rfl, HB2.out⟩
        · by_cases he : m1 = a0
          · obtain rfl : res = false := by have h := HRS2.out; rw [show (m1 == a0) = true by simp [he]] at h; simpa using h
            have heq : (m1 == a0) = true := by simp [he]
            clear HRS2 he
            have n0 := BN.out.cell 0 (by simp)
            have n1 := BN.out.cell 1 (by simp)
            have n2 := BN.out.cell 2 (by simp)
            have n3 := BN.out.cell 3 (by simp)
            simp only [List.getElem_cons_zero, List.getElem_cons_succ] at n0 n1 n2 n3
            go_wp2_with fail
            refine (HIN.out _).mono ?_
            rintro e w2 ⟨rfl, hb⟩
            have HB2 := Lib.hid (belS HBN.out hb)
            have BN2 := Lib.hid (BN.out.below hb)
            have BX2 := Lib.hid (BXN.out.below hb)
            clear hb n0 n1 n2 n3
            have n0 := BN2.out.cell 0 (by simp)
            have n1 := BN2.out.cell 1 (by simp)
            have n2 := BN2.out.cell 2 (by simp)
            have n3 := BN2.out.cell 3 (by simp)
            simp only [List.getElem_cons_zero, List.getElem_cons_succ] at n0 n1 n2 n3
            have x0 := BX2.out.cell 0 (by simp)
            have x1 := BX2.out.cell 1 (by simp)
            have x2 := BX2.out.cell 2 (by simp)
            have x3 := BX2.out.cell 3 (by simp)
            have x4 := BX2.out.cell 4 (by simp)
            simp only [List.getElem_cons_zero, List.getElem_cons_succ] at x0 x1 x2 x3 x4
            go_wp2_with fail
            go_ret
            exact ⟨rfl, HB2.out⟩
          · have HR3 := Lib.hid (show res = (l.drop (k + 1)).all (needOk a0) by have h := HRS2.out; rw [show (m1 == a0) = false by simp [he]] at h; simpa using h)
            have heq : (m1 == a0) = false := by simp [he]
            clear HRS2 he
            have n0 := BN.out.cell 0 (by simp)
            have n1 := BN.out.cell 1 (by simp)
            have n2 := BN.out.cell 2 (by simp)
            have n3 := BN.out.cell 3 (by simp)
            simp only [List.getElem_cons_zero, List.getElem_cons_succ] at n0 n1 n2 n3
            go_wp2_with fail
            refine (HIN.out _).mono ?_
            rintro e w2 ⟨rfl, hb⟩
            have HB2 := Lib.hid (belS HBN.out hb)
            have BN2 := Lib.hid (BN.out.below hb)
            have BX2 := Lib.hid (BXN.out.below hb)
            clear hb n0 n1 n2 n3
            have n0 := BN2.out.cell 0 (by simp)
            have n1 := BN2.out.cell 1 (by simp)
            have n2 := BN2.out.cell 2 (by simp)
            have n3 := BN2.out.cell 3 (by simp)
            simp only [List.getElem_cons_zero, List.getElem_cons_succ] at n0 n1 n2 n3
            have x0 := BX2.out.cell 0 (by simp)
            have x1 := BX2.out.cell 1 (by simp)
            have x2 := BX2.out.cell 2 (by simp)
            have x3 := BX2.out.cell 3 (by simp)
            have x4 := BX2.out.cell 4 (by simp)
            simp only [List.getElem_cons_zero, List.getElem_cons_succ] at x0 x1 x2 x3 x4
            go_wp2_with fail
            exact ⟨⟨k + 1, by omega, by go_num, HR3.out, HB2.out, BX2.out⟩, by simp [intOf]; omega⟩
      · obtain rfl : res = true := by have h := HRS.out; rw [List.drop_eq_nil_of_le (by omega)] at h; simpa using h
        have hkl : ¬ (k : Int) < (l.length : Int) := by omega
        go_wp2_with fail
        go_ret
        exact ⟨rfl, HBr.out⟩
end Go.Proofs.YtlkpinlkbikokabGreat
/- Contracts of chapter 6: FormatEntry, the model's. Written by gen/ch6f.py. -/
namespace Go.Proofs.YtlkpinlkbikokabGreat
set_option linter.unusedVariables false
set_option linter.unusedSimpArgs false
open Go.RowKit
set_option maxRecDepth 100000 in
set_option maxHeartbeats 1600000 in
theorem l6Need_any (d : NeedD) (w : World) (hf : d.fFrom.length ≤ 1048576) :
    Calls Tryz.prog 60 #[vNeed d] w fun e w' => e = .returned (.string ⟨(fmtNeed d).toArray⟩) ∧ Below w.heap.size w w' := by
  obtain ⟨m0, m1, m2, m3⟩ := d
  have HFF := Lib.hid (fun W => specFormatFace_any m0 W)
  have hfl := fmtF_len m0
  have HFV := Lib.hid (fun W => specFmtVer_any ⟨m2, m3⟩ W)
  have hvl := fmtVer_len ⟨m2, m3⟩
  unfold fmtNeed vNeed
  simp only [vVersion] at *
  generalize fmtF m0 = ff at *
  generalize fmtVer ⟨m2, m3⟩ = fv at *
  have BS := Lib.hid (bx_start1 w [.int .i64 m0, .string ⟨m1.toArray⟩, .int .i64 m2, .int .i64 m3] 39)
  have BN0 := Lib.hid BS.out.1
  have HB0 := Lib.hid BS.out.2
  clear BS
  cases m1 with
  | nil =>
    have q0 : ∀ w0, (Op.stringOp .add ⟨ff.toArray⟩ ⟨#[32]⟩).run Tryz.prog w0 = .ok (.string ⟨(ff ++ [32]).toArray⟩) w0 := addL (ff) ([32]) _ _ rfl rfl (by simp; omega)
    have q1 : ∀ w0, (Op.stringOp .add ⟨(ff ++ [32]).toArray⟩ ⟨fv.toArray⟩).run Tryz.prog w0 = .ok (.string ⟨(ff ++ [32] ++ fv).toArray⟩) w0 := addL (ff ++ [32]) (fv) _ _ rfl rfl (by simp; omega)
    go_enter Tryz.func60, Tryz.ntmps60
    have n0 := BN0.out.cell 0 (by simp)
    have n1 := BN0.out.cell 1 (by simp)
    have n2 := BN0.out.cell 2 (by simp)
    have n3 := BN0.out.cell 3 (by simp)
    simp only [List.getElem_cons_zero, List.getElem_cons_succ] at n0 n1 n2 n3
    go_wp2_with fail
    refine (HFF.out _).mono ?_
    rintro e w1 ⟨rfl, hb⟩
    have HB1 := Lib.hid (belS HB0.out hb)
    have BN1 := Lib.hid (BN0.out.below hb)
    clear hb n0 n1 n2 n3
    have n0 := BN1.out.cell 0 (by simp)
    have n1 := BN1.out.cell 1 (by simp)
    have n2 := BN1.out.cell 2 (by simp)
    have n3 := BN1.out.cell 3 (by simp)
    simp only [List.getElem_cons_zero, List.getElem_cons_succ] at n0 n1 n2 n3
    go_wp2_with fail
    refine (HFV.out _).mono ?_
    rintro e w2 ⟨rfl, hb⟩
    have HB2 := Lib.hid (belS HB1.out hb)
    clear hb
    go_wp2_with fail
    go_ret
    exact ⟨ret_str (by simp), HB2.out⟩
  | cons c r =>
    simp only [List.length_cons] at hf
    have q0 : ∀ w0, (Op.stringOp .add ⟨ff.toArray⟩ ⟨#[32, 111, 102, 32]⟩).run Tryz.prog w0 = .ok (.string ⟨(ff ++ [32, 111, 102, 32]).toArray⟩) w0 := addL (ff) ([32, 111, 102, 32]) _ _ rfl rfl (by simp; omega)
    have q1 : ∀ w0, (Op.stringOp .add ⟨(ff ++ [32, 111, 102, 32]).toArray⟩ ⟨(c :: r).toArray⟩).run Tryz.prog w0 = .ok (.string ⟨(ff ++ [32, 111, 102, 32] ++ (c :: r)).toArray⟩) w0 := addL (ff ++ [32, 111, 102, 32]) ((c :: r)) _ _ rfl rfl (by simp; omega)
    have q2 : ∀ w0, (Op.stringOp .add ⟨(ff ++ [32, 111, 102, 32] ++ (c :: r)).toArray⟩ ⟨#[32]⟩).run Tryz.prog w0 = .ok (.string ⟨(ff ++ [32, 111, 102, 32] ++ (c :: r) ++ [32]).toArray⟩) w0 := addL (ff ++ [32, 111, 102, 32] ++ (c :: r)) ([32]) _ _ rfl rfl (by simp; omega)
    have q3 : ∀ w0, (Op.stringOp .add ⟨(ff ++ [32, 111, 102, 32] ++ (c :: r) ++ [32]).toArray⟩ ⟨fv.toArray⟩).run Tryz.prog w0 = .ok (.string ⟨(ff ++ [32, 111, 102, 32] ++ (c :: r) ++ [32] ++ fv).toArray⟩) w0 := addL (ff ++ [32, 111, 102, 32] ++ (c :: r) ++ [32]) (fv) _ _ rfl rfl (by simp; omega)
    go_enter Tryz.func60, Tryz.ntmps60
    have n0 := BN0.out.cell 0 (by simp)
    have n1 := BN0.out.cell 1 (by simp)
    have n2 := BN0.out.cell 2 (by simp)
    have n3 := BN0.out.cell 3 (by simp)
    simp only [List.getElem_cons_zero, List.getElem_cons_succ] at n0 n1 n2 n3
    go_wp2_with fail
    refine (HFF.out _).mono ?_
    rintro e w1 ⟨rfl, hb⟩
    have HB1 := Lib.hid (belS HB0.out hb)
    have BN1 := Lib.hid (BN0.out.below hb)
    clear hb n0 n1 n2 n3
    have n0 := BN1.out.cell 0 (by simp)
    have n1 := BN1.out.cell 1 (by simp)
    have n2 := BN1.out.cell 2 (by simp)
    have n3 := BN1.out.cell 3 (by simp)
    simp only [List.getElem_cons_zero, List.getElem_cons_succ] at n0 n1 n2 n3
    go_wp2_with fail
    refine (HFV.out _).mono ?_
    rintro e w2 ⟨rfl, hb⟩
    have HB2 := Lib.hid (belS HB1.out hb)
    clear hb
    go_wp2_with fail
    go_ret
    exact ⟨ret_str (by simp), HB2.out⟩
set_option maxRecDepth 100000 in
set_option maxHeartbeats 3200000 in
theorem specFormatEntry_any (v : Value) (x : EntryD) (w : World) (hx : ValAt rEntry 0 w v x) (hn : x.fName.length ≤ 1048576) (hk : ∀ d ∈ x.fNeeds, d.fFrom.length ≤ 1048576) (hr : ∀ s ∈ x.fRecipe, s.length ≤ 1048576) (hj : (joinL x.fRecipe [32]).length ≤ 4194304) :
    Calls Tryz.prog 26 #[v] w fun e w' => e = .returned (.string ⟨(fmtEnt x).toArray⟩) ∧ Below w.heap.size w w' := by
  have HIE := Lib.hid (fun cs W (h : rEntry 0 W cs x) => specIsEntry_any (.agg cs.toArray) x W ⟨cs, rfl, h⟩ (Nat.le_trans hn (by decide)) (fun d hd => Nat.le_trans (hk d hd) (by decide)) hr)
  have HJ := Lib.hid (fun v W (h : RowAt W v (x.fRecipe.map strV)) => (show Calls Tryz.prog 58 #[v, .string ⟨#[32]⟩] W fun e w' => e = .returned (.string ⟨(joinL x.fRecipe [32]).toArray⟩) ∧ Below W.heap.size W w' from specJoin_any v x.fRecipe ⟨#[32]⟩ W h (Nat.le_trans hj (by decide)) (by decide)))
  have HV := Lib.hid (fun W => specFmtVer_any x.fVersion W)
  have hvl := fmtVer_len x.fVersion
  have HL3 := Lib.hid (fun h => entryB_len (x := x) h)
  have HFE := Lib.hid (show fmtEnt x = if entryB x = true then x.fName ++ [58, 32] ++ joinL x.fRecipe [32] ++ [59, 32] ++ fmtVer x.fVersion ++ tailE x.fNeeds else [] by unfold fmtEnt; simp)
  generalize fmtEnt x = res at *
  generalize entryB x = eb at *
  obtain ⟨_, rfl, hx⟩ := hx
  have HX := Lib.hid (fun W (hb : Below w.heap.size w W) => goodEntry.keep hx (kept_below hb (Nat.le_refl _)))
  obtain ⟨a0, a1, ⟨a2, a3⟩, l⟩ := x
  obtain ⟨v1, v4, rfl, h1, h4⟩ := hx
  simp only [vVersion] at *
  obtain ⟨ra, rc, rfl, _⟩ := sliceAt_len h1
  obtain ⟨sa, sc, rfl, hl⟩ := sliceAt_len h4
  have H1 := Lib.hid h1
  have H4 := Lib.hid h4
  have HK := Lib.hid hk
  have BS := Lib.hid (bx_start1 w [.string ⟨a0.toArray⟩, .slice ra a1.length rc, .int .i64 a2, .int .i64 a3, .slice sa l.length sc] 36)
  have BX0 := Lib.hid BS.out.1
  have HB0 := Lib.hid BS.out.2
  clear h1 h4 hk hr BS hl
  cases eb
  · obtain rfl : res = [] := by rw [HFE.out]; rfl
    go_enter Tryz.func26, Tryz.ntmps26
    go_wp2_with fail
    refine (HIE.out _ _ (HX.out _ HB0.out)).mono ?_
    rintro e w1 ⟨rfl, hb⟩
    have HB1 := Lib.hid (belS HB0.out hb)
    clear hb
    go_wp2_with fail
    go_ret
    exact ⟨rfl, HB1.out⟩
  have hl3 := HL3.out rfl
  simp only [if_true] at HFE
  generalize joinL a1 [32] = J at *
  generalize fmtVer ⟨a2, a3⟩ = fv at *
  obtain ⟨t1, ht1⟩ : ∃ t, t = a0 ++ [58, 32] := ⟨_, rfl⟩
  have zt1 : t1.length = a0.length + ([58, 32] : List UInt8).length := by rw [ht1, List.length_append]
  try simp only [List.length_cons, List.length_nil] at zt1
  have qt1 : ∀ w0, (Op.stringOp .add ⟨a0.toArray⟩ ⟨#[58, 32]⟩).run Tryz.prog w0 = .ok (.string ⟨t1.toArray⟩) w0 := addT a0 [58, 32] t1 _ _ ht1 rfl rfl (by first | omega | (simp; omega))
  have Ht1 := Lib.hid ht1
  clear ht1
  obtain ⟨t2, ht2⟩ : ∃ t, t = t1 ++ J := ⟨_, rfl⟩
  have zt2 : t2.length = t1.length + (J : List UInt8).length := by rw [ht2, List.length_append]
  try simp only [List.length_cons, List.length_nil] at zt2
  have qt2 : ∀ w0, (Op.stringOp .add ⟨t1.toArray⟩ ⟨J.toArray⟩).run Tryz.prog w0 = .ok (.string ⟨t2.toArray⟩) w0 := addT t1 J t2 _ _ ht2 rfl rfl (by first | omega | (simp; omega))
  have Ht2 := Lib.hid ht2
  clear ht2
  obtain ⟨t3, ht3⟩ : ∃ t, t = t2 ++ [59, 32] := ⟨_, rfl⟩
  have zt3 : t3.length = t2.length + ([59, 32] : List UInt8).length := by rw [ht3, List.length_append]
  try simp only [List.length_cons, List.length_nil] at zt3
  have qt3 : ∀ w0, (Op.stringOp .add ⟨t2.toArray⟩ ⟨#[59, 32]⟩).run Tryz.prog w0 = .ok (.string ⟨t3.toArray⟩) w0 := addT t2 [59, 32] t3 _ _ ht3 rfl rfl (by first | omega | (simp; omega))
  have Ht3 := Lib.hid ht3
  clear ht3
  obtain ⟨t4, ht4⟩ : ∃ t, t = t3 ++ fv := ⟨_, rfl⟩
  have zt4 : t4.length = t3.length + (fv : List UInt8).length := by rw [ht4, List.length_append]
  try simp only [List.length_cons, List.length_nil] at zt4
  have qt4 : ∀ w0, (Op.stringOp .add ⟨t3.toArray⟩ ⟨fv.toArray⟩).run Tryz.prog w0 = .ok (.string ⟨t4.toArray⟩) w0 := addT t3 fv t4 _ _ ht4 rfl rfl (by first | omega | (simp; omega))
  have Ht4 := Lib.hid ht4
  clear ht4
  go_enter Tryz.func26, Tryz.ntmps26
  go_wp2_with fail
  refine (HIE.out _ _ (HX.out _ HB0.out)).mono ?_
  rintro e w1 ⟨rfl, hb⟩
  have HB1 := Lib.hid (belS HB0.out hb)
  have BX1 := Lib.hid (BX0.out.below hb)
  have HS := Lib.hid BX1.out.lt
  clear hb
  have x0 := BX1.out.cell 0 (by simp)
  have x1 := BX1.out.cell 1 (by simp)
  have x2 := BX1.out.cell 2 (by simp)
  have x3 := BX1.out.cell 3 (by simp)
  have x4 := BX1.out.cell 4 (by simp)
  simp only [List.getElem_cons_zero, List.getElem_cons_succ] at x0 x1 x2 x3 x4
  have HRW := Lib.hid (row_of_slice (SliceAt.below H1.out good_str (bel_drE HB1.out) (Nat.le_refl _)))
  go_wp2_with fail
  go_region_held3 (fun w' => w'.cell? ⟨w.heap.size, 0, none⟩ = some (.string ⟨a0.toArray⟩) ∧ w'.cell? ⟨w.heap.size, 1, none⟩ = some (.slice ra a1.length rc) ∧ w'.cell? ⟨w.heap.size, 2, none⟩ = some (.int .i64 a2) ∧ w'.cell? ⟨w.heap.size, 3, none⟩ = some (.int .i64 a3))
    (first
      | exact ⟨x0, x1, x2, x3⟩
      | go_keep
      | (rw [hb1.cell (p := ⟨w.heap.size, 0, none⟩) (by have := HS.out; simp; omega), hb1.cell (p := ⟨w.heap.size, 1, none⟩) (by have := HS.out; simp; omega), hb1.cell (p := ⟨w.heap.size, 2, none⟩) (by have := HS.out; simp; omega), hb1.cell (p := ⟨w.heap.size, 3, none⟩) (by have := HS.out; simp; omega)]; first | assumption | exact ⟨x0, x1, x2, x3⟩)
      | (rw [hb2.cell (p := ⟨w.heap.size, 0, none⟩) (by have := HS.out; have := hb1.size; simp at *; omega), hb2.cell (p := ⟨w.heap.size, 1, none⟩) (by have := HS.out; have := hb1.size; simp at *; omega), hb2.cell (p := ⟨w.heap.size, 2, none⟩) (by have := HS.out; have := hb1.size; simp at *; omega), hb2.cell (p := ⟨w.heap.size, 3, none⟩) (by have := HS.out; have := hb1.size; simp at *; omega)]; assumption))
    (first
      | (go_at_call 58; (with_reducible refine (HJ.out _ _ HRW.out).mono ?_); rintro e w2 ⟨rfl, hb1⟩)
      | (go_at_call 59; (with_reducible refine (HV.out _).mono ?_); rintro e w3 ⟨rfl, hb2⟩))
  have HB2 := Lib.hid (belS (bel_drE HB1.out) hb1)
  have HB3 := Lib.hid (belS HB2.out hb2)
  have BX3 := Lib.hid (((show Bx w1.drew w.heap.size _ from ⟨BX1.out.lt, BX1.out.cell, BX1.out.froz⟩).below hb1).below hb2)
  rename_i hheld
  clear hb1 hb2 hheld x0 x1 x2 x3 x4
  have HHD := Lib.hid (show a0 ++ [58, 32] ++ J ++ [59, 32] ++ fv = t4 by rw [Ht4.out, Ht3.out, Ht2.out, Ht1.out])
  have HHL := Lib.hid (show t4.length ≤ 6291456 by omega)
  generalize t4 = hd at *
  have HO0 := Lib.hid (owns_strF (ownsF_base (B' := w.heap.size) (ownsF_str (owns_new w3)) HB3.out.size))
  have HB4 := Lib.hid (belS HB3.out (bx_box w3 (.cells #[] 9)))
  have hlt3 := BX3.out.lt
  have x0 := BX3.out.cell 0 (by simp)
  have x1 := BX3.out.cell 1 (by simp)
  have x2 := BX3.out.cell 2 (by simp)
  have x3 := BX3.out.cell 3 (by simp)
  have x4 := BX3.out.cell 4 (by simp)
  simp only [List.getElem_cons_zero, List.getElem_cons_succ] at x0 x1 x2 x3 x4
  go_wp2_with fail
  clear x0 x1 x2 x3 x4 qt1 qt2 qt3 qt4
  generalize w3.alloc (.cells #[] 9) = w4 at *
  go_loopw [4, 6, 26] (fun ov _ i wr => ∃ k : Nat, k ≤ l.length ∧ i = .int .i64 k ∧ Owns wr w.heap.size ov ((l.take k).map fmtNeed) ∧ Below w.heap.size w wr) (fun _ _ i _ => l.length - (intOf i).toNat)
  case atStart => exact ⟨0, Nat.zero_le _, rfl, HO0.out, HB4.out⟩
  case round =>
    obtain ⟨k, hk, rfl, hO, hbr⟩ := hrel
    have HO := Lib.hid hO
    have HBr := Lib.hid hbr
    have HXr := Lib.hid (SliceAt.below H4.out (good_flat cNeed_len) hbr (Nat.le_refl _))
    clear hO hbr
    by_cases hlt : k < l.length
    · obtain ⟨b, o, cs, rfl, hbw, hat, hd2⟩ := sliceAt_cell HXr.out k hlt
      have HM := Lib.hid (HK.out _ (List.getElem_mem hlt))
      have HT := Lib.hid (show (l.take (k + 1)).map fmtNeed = (l.take k).map fmtNeed ++ [fmtNeed l[k]] by rw [List.take_succ_eq_append_getElem hlt, List.map_append]; rfl)
      generalize l[k] = z at *
      obtain ⟨m0, m1, m2, m3⟩ := z
      simp only [rFlat, cNeed] at hat
      subst hat
      have d0 := hd2 0 (by decide)
      have d1 := hd2 1 (by decide)
      have d2 := hd2 2 (by decide)
      have d3 := hd2 3 (by decide)
      simp only [List.getElem?_cons_zero, List.getElem?_cons_succ, Nat.add_zero] at d0 d1 d2 d3
      have HL6 := Lib.hid (fun W => l6Need_any ⟨m0, m1, m2, m3⟩ W HM.out)
      unfold vNeed at HL6
      simp only at HL6
      generalize fmtNeed ⟨m0, m1, m2, m3⟩ = tx at *
      have BN := Lib.hid (Bx.new wr [.int .i64 m0, .string ⟨m1.toArray⟩, .int .i64 m2, .int .i64 m3] 39)
      have HBN := Lib.hid (belS HBr.out (bx_box wr (.cells #[.int .i64 m0, .string ⟨m1.toArray⟩, .int .i64 m2, .int .i64 m3] 39)))
      have HON := Lib.hid (owns_alloc HO.out (.cells #[.int .i64 m0, .string ⟨m1.toArray⟩, .int .i64 m2, .int .i64 m3] 39))
      have hkl : (k : Int) < (l.length : Int) := by omega
      clear hd2
      have n0 := BN.out.cell 0 (by simp)
      have n1 := BN.out.cell 1 (by simp)
      have n2 := BN.out.cell 2 (by simp)
      have n3 := BN.out.cell 3 (by simp)
      simp only [List.getElem_cons_zero, List.getElem_cons_succ] at n0 n1 n2 n3
      go_wp2_with fail
      refine (HL6.out _).mono ?_
      rintro e w5 ⟨rfl, hb⟩
      have HB5 := Lib.hid (belS HBN.out hb)
      have HO5 := Lib.hid (owns_below HON.out hb (Nat.le_refl _))
      clear hb n0 n1 n2 n3
      have hlk : ((l.take k).map fmtNeed).length ≤ 4194304 := by simp; omega
      go_wp2_with (at_builtin; (refine append_strs rfl _ _ rfl w.heap.size _ ((l.take k).map fmtNeed) tx _ w5.heap.size (by rfl) (owns_alloc HO5.out _) rfl (cell_new _ _ _) hlk (by have := HB5.out.size; simp; omega) ?_; intro v' w6 hO1 hg1))
      exact ⟨⟨k + 1, by omega, by go_num, by rw [HT.out]; exact hO1, below_append (HB5.out.alloc HB5.out.size _) (owns_alloc HO5.out _) hg1 (by have := HB5.out.size; simp; omega)⟩, by simp [intOf]; omega⟩
    · have HOl := Lib.hid (show Owns wr w.heap.size u4 (l.map fmtNeed) by have h := HO.out; rwa [List.take_of_length_le (by omega)] at h)
      have hkl : ¬ (k : Int) < (l.length : Int) := by omega
      obtain ⟨oa, oc, rfl⟩ := slice_of (ownsF_str HOl.out)
      simp only [List.length_map] at *
      by_cases h0 : l.length = 0
      · obtain rfl : l = [] := List.eq_nil_of_length_eq_zero h0
        simp only [List.length_nil] at *
        go_wp2_with fail
        go_ret
        exact ⟨ret_str (by rw [HFE.out, HHD.out]; simp [tailE]), HBr.out⟩
      · have hpos : (0 : Int) < (l.length : Int) := by omega
        have hKL : (joinL (l.map fmtNeed) [44, 32]).length ≤ 4194304 := joinNeeds_len l hl3 HK.out
        have HJ2 := Lib.hid (fun W (h : RowAt W (.slice oa l.length oc) ((l.map fmtNeed).map strV)) => (show Calls Tryz.prog 58 #[.slice oa l.length oc, .string ⟨#[44, 32]⟩] W fun e w' => e = .returned (.string ⟨(joinL (l.map fmtNeed) [44, 32]).toArray⟩) ∧ Below W.heap.size W w' from specJoin_any (.slice oa l.length oc) (l.map fmtNeed) ⟨#[44, 32]⟩ W h (Nat.le_trans hKL (by decide)) (by decide)))
        have HTE := Lib.hid (show tailE l = [59, 32] ++ joinL (l.map fmtNeed) [44, 32] from if_neg (fun h => h0 (by rw [h]; rfl)))
        generalize joinL (l.map fmtNeed) [44, 32] = KK at *
        have hhl := HHL.out
        obtain ⟨s1, hs1⟩ : ∃ t, t = hd ++ [59, 32] := ⟨_, rfl⟩
        have zs1 : s1.length = hd.length + ([59, 32] : List UInt8).length := by rw [hs1, List.length_append]
        try simp only [List.length_cons, List.length_nil] at zs1
        have qs1 : ∀ w0, (Op.stringOp .add ⟨hd.toArray⟩ ⟨#[59, 32]⟩).run Tryz.prog w0 = .ok (.string ⟨s1.toArray⟩) w0 := addT hd [59, 32] s1 _ _ hs1 rfl rfl (by first | omega | (simp; omega))
        have Hs1 := Lib.hid hs1
        clear hs1
        obtain ⟨s2, hs2⟩ : ∃ t, t = s1 ++ KK := ⟨_, rfl⟩
        have zs2 : s2.length = s1.length + (KK : List UInt8).length := by rw [hs2, List.length_append]
        try simp only [List.length_cons, List.length_nil] at zs2
        have qs2 : ∀ w0, (Op.stringOp .add ⟨s1.toArray⟩ ⟨KK.toArray⟩).run Tryz.prog w0 = .ok (.string ⟨s2.toArray⟩) w0 := addT s1 KK s2 _ _ hs2 rfl rfl (by first | omega | (simp; omega))
        have Hs2 := Lib.hid hs2
        clear hs2
        have HRR := Lib.hid (owns_row HOl.out (by simp; omega))
        go_wp2_with fail
        refine (HJ2.out _ HRR.out).mono ?_
        rintro e w5 ⟨rfl, hb⟩
        have HB5 := Lib.hid (belS HBr.out hb)
        clear hb
        go_wp2_with fail
        go_ret
        exact ⟨ret_str (by rw [HFE.out, HHD.out, HTE.out, Hs2.out, Hs1.out]; simp), HB5.out⟩
end Go.Proofs.YtlkpinlkbikokabGreat
/- Arguments opened: structs by value, slices of structs. -/
namespace Go.Proofs.YtlkpinlkbikokabGreat
set_option linter.unusedVariables false
open Go.ChangeShapes Go.WideShapes Go.ChangeAt Go.RowKit Go.WideMaps Go.WideElems
open Go.Deep
section
variable {H : Type} {enc : TypeId × Value → H} {P : Program} {W : World}
theorem leaf_str {n : Nat} {t : TypeId} {c : Value} {x : DataW H × List MemPlace} (ht : P.underlying t = some .string) (h : DataW.trod enc P W 0 (fun _ => true) true n t [c] = some x) : ∃ l : List UInt8, c = .string ⟨l.toArray⟩ ∧ l.length ≤ maxLen := by
  obtain ⟨s, h1, _, h3⟩ := DataW.trod_string ht h
  injection h1 with h1
  exact ⟨s.data.toList, by rw [h1], by rw [Array.length_toList]; exact h3⟩
theorem leaf_int {n : Nat} {t : TypeId} {c : Value} {x : DataW H × List MemPlace} (ht : P.underlying t = some (.int .i64)) (h : DataW.trod enc P W 0 (fun _ => true) true n t [c] = some x) : ∃ z : Int, c = .int .i64 z ∧ -9223372036854775808 ≤ z ∧ z ≤ 9223372036854775807 := by
  obtain ⟨z, h1, _, h3⟩ := DataW.trod_int ht h
  injection h1 with h1
  exact ⟨z, h1, bounds_i64 h3⟩
theorem leaf_bool {n : Nat} {t : TypeId} {c : Value} {x : DataW H × List MemPlace} (ht : P.underlying t = some .bool) (h : DataW.trod enc P W 0 (fun _ => true) true n t [c] = some x) : ∃ b : Bool, c = .bool b := by
  obtain ⟨b, h1, _⟩ := DataW.trod_bool ht h
  injection h1 with h1
  exact ⟨b, h1⟩
theorem field_at {fs : Array Field} {n : Nat} {cs : List Value} {xs : List (DataW H × List MemPlace)} (hl : xs.length = fs.size)
    (hf : ∀ (i : Nat) (f : Field), fs[i]? = some f → DataW.trod enc P W 0 (fun _ => true) true n f.type ((cs.drop f.offset).take (P.cellsOf f.type)) = xs[i]?) (i : Nat) (f : Field) (h : fs[i]? = some f) :
    ∃ x, DataW.trod enc P W 0 (fun _ => true) true n f.type ((cs.drop f.offset).take (P.cellsOf f.type)) = some x := by
  have hi : i < fs.size := (Array.getElem?_eq_some_iff.1 h).1
  exact ⟨xs[i]'(by omega), by rw [hf i f h, List.getElem?_eq_getElem]⟩
theorem field_one {fs : Array Field} {n : Nat} {cs : List Value} {xs : List (DataW H × List MemPlace)} (hl : xs.length = fs.size)
    (hf : ∀ (i : Nat) (f : Field), fs[i]? = some f → DataW.trod enc P W 0 (fun _ => true) true n f.type ((cs.drop f.offset).take (P.cellsOf f.type)) = xs[i]?) (i : Nat) (f : Field) (T o : Nat) (c : Value) (r : List Value) (h : fs[i]? = some f) (hT : f.type = T) (ho : f.offset = o) (hc : P.cellsOf T = 1) (hd : cs.drop o = c :: r) :
    ∃ x, DataW.trod enc P W 0 (fun _ => true) true n T [c] = some x := by
  obtain ⟨x, hx⟩ := field_at hl hf i f h
  subst hT; subst ho
  rw [hc, hd] at hx
  exact ⟨x, hx⟩
/-- a slice of structs of texts and numbers -/
theorem open_flat {α : Type} [Inhabited α] {f : α → List Value} {k : Nat} {G : α → Prop} (hk : ∀ x, (f x).length = k) (hk0 : 0 < k) {t e : TypeId} {n : Nat} {v : Value} {x : DataW H × List MemPlace} (ht : P.underlying t = some (.slice e)) (hc : P.cellsOf e = k)
    (hel : ∀ n cs x, DataW.trod enc P W 0 (fun _ => true) true n e cs = some x → ∃ d, cs = f d ∧ G d) (h : DataW.trod enc P W 0 (fun _ => true) true n t [v] = some x) :
    ∃ l : List α, FlatAt f k W v l ∧ ∀ d ∈ l, G d := by
  rcases open_slice ht h with ⟨h0, _⟩ | ⟨a, len, cap, m, n', D, Pl, hcs, _, hl, hm, hmm, _, hx⟩
  · injection h0 with h0
    subst h0
    exact ⟨[], ⟨none, 0, rfl, by simp, Nat.zero_le _, Or.inl rfl⟩, by simp⟩
  · injection hcs with hcs
    subst hcs
    simp only [if_true] at hmm
    subst hmm
    obtain ⟨F, hF⟩ := choose_lt (α := α) (p := fun i d => (∀ j, j < k → W.cell? ((a.add (i * k)).add j) = (f d)[j]?) ∧ G d) (n := m) (fun i hi => by
      obtain ⟨cs', h1, h2⟩ := hx i hi
      obtain ⟨d, rfl, hg⟩ := hel _ _ _ h2
      rw [hc] at h1
      obtain ⟨_, _, h3⟩ := World.cells?_some h1
      exact ⟨d, h3, hg⟩)
    refine ⟨(List.range len).map F, ?_, ?_⟩
    · obtain ⟨ab, ao, spot⟩ := a
      refine ⟨some ⟨ab, ao, spot⟩, m - len, by simp; omega, by rw [flat_len f k hk, List.length_map], by simp; omega, ?_⟩
      rcases Nat.eq_zero_or_pos len with h0 | hpos
      · left; simp [h0]
      · right
        have g0 := (hF 0 (by omega)).1 0 hk0
        have hlen0 : 0 < (f (F 0)).length := by rw [hk]; exact hk0
        rw [List.getElem?_eq_getElem hlen0] at g0
        have hspot : spot = none := by
          have := World.cell?_spot g0
          simpa [Addr.add] using this
        subst hspot
        have hlt : ab < W.heap.size := by
          simp only [Addr.add_lit, Nat.zero_mul, Nat.add_zero] at g0
          exact World.block_lt_of_cell? W _ g0
        refine ⟨ab, ao, rfl, hlt, fun i hi => ?_⟩
        rw [List.length_map, List.length_range] at hi
        have hq : i / k < len := Nat.div_lt_of_lt_mul (by rw [Nat.mul_comm]; exact hi)
        have hr : i % k < k := Nat.mod_lt _ hk0
        have h1 := (hF (i / k) (by omega)).1 (i % k) hr
        rw [Addr.add_lit, Addr.add_lit] at h1
        have e1 : i / k * k + i % k = i := by rw [Nat.mul_comm]; exact Nat.div_add_mod i k
        rw [show ao + i / k * k + i % k = ao + i by omega] at h1
        rw [h1, ← e1, flat_get f k hk _ (i / k) (by simpa using hq) (i % k) hr]
        simp [e1]
    · intro d hd
      obtain ⟨i, hi, rfl⟩ := List.mem_map.1 hd
      exact (hF i (by have := List.mem_range.1 hi; omega)).2
theorem two_of {α : Type} {l : List α} (h : l.length = 2) : ∃ a b, l = [a, b] := by match l, h with | [a, b], _ => exact ⟨a, b, rfl⟩
theorem three_of {α : Type} {l : List α} (h : l.length = 3) : ∃ a b c, l = [a, b, c] := by match l, h with | [a, b, c], _ => exact ⟨a, b, c, rfl⟩
theorem four_of {α : Type} {l : List α} (h : l.length = 4) : ∃ a b c d, l = [a, b, c, d] := by match l, h with | [a, b, c, d], _ => exact ⟨a, b, c, d, rfl⟩
theorem five_of {α : Type} {l : List α} (h : l.length = 5) : ∃ a b c d e, l = [a, b, c, d, e] := by match l, h with | [a, b, c, d, e], _ => exact ⟨a, b, c, d, e, rfl⟩
end
section
variable {H : Type} {enc : TypeId × Value → H} {W : World}
end
end Go.Proofs.YtlkpinlkbikokabGreat
/- Call: what the laws' own helpers do with it. Written by gen/flat.py. -/
namespace Go.Proofs.YtlkpinlkbikokabGreat
set_option linter.unusedVariables false
open Go.RowKit
structure CallD where
  fMethod : List UInt8
  fKey : List UInt8
  fValue : Int
  fText : List UInt8
deriving DecidableEq
def okCall (d : CallD) : Prop := (d.fMethod.length ≤ maxLen) ∧ (d.fKey.length ≤ maxLen) ∧ (-9223372036854775808 ≤ d.fValue ∧ d.fValue ≤ 9223372036854775807) ∧ (d.fText.length ≤ maxLen)
def vCall (d : CallD) : Value := .agg #[.string ⟨d.fMethod.toArray⟩, .string ⟨d.fKey.toArray⟩, .int .i64 d.fValue, .string ⟨d.fText.toArray⟩]
def cCall (d : CallD) : List Value := [.string ⟨d.fMethod.toArray⟩, .string ⟨d.fKey.toArray⟩, .int .i64 d.fValue, .string ⟨d.fText.toArray⟩]
theorem cCall_len (d : CallD) : (cCall d).length = 4 := rfl
theorem cCall_one (d : CallD) : ∀ u ∈ cCall d, u.oneCell' = true := by intro u hu; simp only [cCall, List.mem_cons, List.not_mem_nil, or_false] at hu; rcases hu with rfl | rfl | rfl | rfl <;> rfl
set_option maxHeartbeats 800000 in
theorem eqCall_any (x y : CallD) (w : World) :
    Calls Tryz.prog 72 #[vCall x, vCall y] w fun e w' => e = .returned (.bool (decide (x = y))) ∧ Below w.heap.size w w' := by
  obtain ⟨a0, a1, a2, a3⟩ := x
  obtain ⟨b0, b1, b2, b3⟩ := y
  unfold vCall
  by_cases h0 : a0 = b0
  · by_cases h1 : a1 = b1
    · by_cases h2 : a2 = b2
      · by_cases h3 : a3 = b3
        · have HN := Lib.hid (show decide ((⟨a0, a1, a2, a3⟩ : CallD) = (⟨b0, b1, b2, b3⟩ : CallD)) = true by rw [h0, h1, h2, h3]; simp)
          subst h0 h1 h2 h3
          go_enter Tryz.func72, Tryz.ntmps72
          go_wp2
          go_ret
          exact ⟨ret_bool HN.out.symm, ((Below.refl _ _).alloc (Nat.le_refl _) _).alloc (by simp) _⟩
        · have HN := Lib.hid (show decide ((⟨a0, a1, a2, a3⟩ : CallD) = (⟨b0, b1, b2, b3⟩ : CallD)) = false by rw [decide_eq_false_iff_not]; exact fun e => h3 (by injection e))
          have hne3 : (a3 == b3) = false := by simpa using h3
          have hnf3 : (a3 != b3) = true := by simpa using h3
          subst h0 h1 h2
          clear h3
          go_enter Tryz.func72, Tryz.ntmps72
          go_wp2
          go_ret
          exact ⟨ret_bool HN.out.symm, ((Below.refl _ _).alloc (Nat.le_refl _) _).alloc (by simp) _⟩
      · have HN := Lib.hid (show decide ((⟨a0, a1, a2, a3⟩ : CallD) = (⟨b0, b1, b2, b3⟩ : CallD)) = false by rw [decide_eq_false_iff_not]; exact fun e => h2 (by injection e))
        have hne2 : (a2 == b2) = false := by simpa using h2
        have hnf2 : (a2 != b2) = true := by simpa using h2
        subst h0 h1
        clear h2
        go_enter Tryz.func72, Tryz.ntmps72
        go_wp2
        go_ret
        exact ⟨ret_bool HN.out.symm, ((Below.refl _ _).alloc (Nat.le_refl _) _).alloc (by simp) _⟩
    · have HN := Lib.hid (show decide ((⟨a0, a1, a2, a3⟩ : CallD) = (⟨b0, b1, b2, b3⟩ : CallD)) = false by rw [decide_eq_false_iff_not]; exact fun e => h1 (by injection e))
      have hne1 : (a1 == b1) = false := by simpa using h1
      have hnf1 : (a1 != b1) = true := by simpa using h1
      subst h0
      clear h1
      go_enter Tryz.func72, Tryz.ntmps72
      go_wp2
      go_ret
      exact ⟨ret_bool HN.out.symm, ((Below.refl _ _).alloc (Nat.le_refl _) _).alloc (by simp) _⟩
  · have HN := Lib.hid (show decide ((⟨a0, a1, a2, a3⟩ : CallD) = (⟨b0, b1, b2, b3⟩ : CallD)) = false by rw [decide_eq_false_iff_not]; exact fun e => h0 (by injection e))
    have hne0 : (a0 == b0) = false := by simpa using h0
    have hnf0 : (a0 != b0) = true := by simpa using h0
    clear h0
    go_enter Tryz.func72, Tryz.ntmps72
    go_wp2
    go_ret
    exact ⟨ret_bool HN.out.symm, ((Below.refl _ _).alloc (Nat.le_refl _) _).alloc (by simp) _⟩
set_option maxHeartbeats 800000 in
theorem toCall_any (x : CallD) (w : World) :
    Calls Tryz.prog 68 #[vCall x] w fun e w' => e = .returned (vCall x) ∧ Below w.heap.size w w' := by
  obtain ⟨a0, a1, a2, a3⟩ := x
  unfold vCall
  go_enter Tryz.func68, Tryz.ntmps68
  go_wp2
  exact bodyPost_ret (v := .agg #[.string ⟨a0.toArray⟩, .string ⟨a1.toArray⟩, .int .i64 a2, .string ⟨a3.toArray⟩]) (by simp [results, Tryz.results68, go_sem]) rfl ⟨rfl, ((((Below.refl _ _).alloc (Nat.le_refl _) _).alloc (by simp) _).alloc (by simp; try omega) _)⟩
def zCall (d : CallD) : Nat := d.fMethod.length + d.fKey.length + d.fText.length
set_option maxHeartbeats 800000 in
theorem szCall_any (x : CallD) (left : Int) (w : World) (h0 : 0 ≤ left) (h1 : left ≤ 1099511627776) (hs : okCall x) :
    Calls Tryz.prog 65 #[vCall x, .int .i64 left] w fun e w' => SzF (zCall x) left w e w' := by
  obtain ⟨a0, a1, a2, a3⟩ := x
  obtain ⟨hs0, hs1, hs2, hs3⟩ := hs
  simp only [vCall, zCall] at *
  unfold maxLen at *
  have HZ0 := Lib.hid (size_strB a0)
  have HZ1 := Lib.hid (size_strB a1)
  have HZ3 := Lib.hid (size_strB a3)
  by_cases hn0 : left - (a0.length : Int) < 0
  · go_enter Tryz.func65, Tryz.ntmps65
    go_wp2
    go_ret
    exact ⟨-1, rfl, by omega, by omega, (Below.refl _ _).alloc (Nat.le_refl _) _⟩
  · by_cases hn1 : left - (a0.length : Int) - (a1.length : Int) < 0
    · go_enter Tryz.func65, Tryz.ntmps65
      go_wp2
      go_ret
      exact ⟨-1, rfl, by omega, by omega, (Below.refl _ _).alloc (Nat.le_refl _) _⟩
    · by_cases hn2 : left - (a0.length : Int) - (a1.length : Int) - (a3.length : Int) < 0
      · go_enter Tryz.func65, Tryz.ntmps65
        go_wp2
        go_ret
        exact ⟨-1, rfl, by omega, by omega, (Below.refl _ _).alloc (Nat.le_refl _) _⟩
      · go_enter Tryz.func65, Tryz.ntmps65
        go_wp2
        go_ret
        exact ⟨_, rfl, by omega, by push_cast; omega, (Below.refl _ _).alloc (Nat.le_refl _) _⟩
theorem infoCall : (Tryz.prog.info? 63).map (fun i => (i.zero, i.size, i.bytes)) = some (some (.agg #[.string ⟨#[]⟩, .string ⟨#[]⟩, .int .i64 0, .string ⟨#[]⟩]), 4, 56) := by kernel_rfl
def marksCall (k : Int) (n : Nat) : List CallD := (List.range n).map fun i : Nat => ⟨markL (k + i * 4), markL (k + i * 4 + 1), k + i * 4 + 1 + 1, markL (k + i * 4 + 1 + 1 + 1)⟩
theorem marksCall_len (k : Int) (n : Nat) : (marksCall k n).length = n := by simp [marksCall]
theorem marksCall_get (k : Int) (n i : Nat) (h : i < n) : (marksCall k n)[i]'(by rw [marksCall_len]; exact h) = ⟨markL (k + i * 4), markL (k + i * 4 + 1), k + i * 4 + 1 + 1, markL (k + i * 4 + 1 + 1 + 1)⟩ := by simp [marksCall]
end Go.Proofs.YtlkpinlkbikokabGreat
/- Arguments opened: flat structs. Written by gen/openflat.py. -/
namespace Go.Proofs.YtlkpinlkbikokabGreat
set_option linter.unusedVariables false
open Go.ChangeShapes Go.WideShapes Go.ChangeAt Go.RowKit Go.WideMaps Go.WideElems
open Go.Deep
section
variable {H : Type} {enc : TypeId × Value → H} {W : World}
end
end Go.Proofs.YtlkpinlkbikokabGreat
/- Arguments opened: flat structs. Written by gen/openflat.py. -/
namespace Go.Proofs.YtlkpinlkbikokabGreat
set_option linter.unusedVariables false
open Go.ChangeShapes Go.WideShapes Go.ChangeAt Go.RowKit Go.WideMaps Go.WideElems
open Go.Deep
section
variable {H : Type} {enc : TypeId × Value → H} {W : World}
set_option maxRecDepth 100000 in
theorem open_Call {n : Nat} {cs : List Value} {x : DataW H × List MemPlace} (h : DataW.trod enc Tryz.prog W 0 (fun _ => true) true n 58 cs = some x) : ∃ d : CallD, cs = cCall d ∧ okCall d := by
  obtain ⟨xs, m, rfl, _, hl, hn, hf⟩ := DataW.trod_struct Tryz.underlying58 h
  rw [show Tryz.prog.cellsOf 58 = 4 by kernel_rfl] at hl
  obtain ⟨c0, c1, c2, c3, rfl⟩ := four_of hl
  obtain ⟨y0, k0⟩ := field_one hn hf 0 _ 9 0 _ _ rfl rfl rfl (by kernel_rfl) rfl
  obtain ⟨y1, k1⟩ := field_one hn hf 1 _ 9 1 _ _ rfl rfl rfl (by kernel_rfl) rfl
  obtain ⟨y2, k2⟩ := field_one hn hf 2 _ 3 2 _ _ rfl rfl rfl (by kernel_rfl) rfl
  obtain ⟨y3, k3⟩ := field_one hn hf 3 _ 9 3 _ _ rfl rfl rfl (by kernel_rfl) rfl
  obtain ⟨l0, rfl, b0⟩ := leaf_str Tryz.underlying9 k0
  obtain ⟨l1, rfl, b1⟩ := leaf_str Tryz.underlying9 k1
  obtain ⟨l2, rfl, b2⟩ := leaf_int Tryz.underlying3 k2
  obtain ⟨l3, rfl, b3⟩ := leaf_str Tryz.underlying9 k3
  exact ⟨⟨l0, l1, l2, l3⟩, rfl, b0, b1, b2, b3⟩
set_option maxRecDepth 100000 in
theorem arg_Call {base : Nat} {v : Value} {d : DataW H} {p : List MemPlace} (hval : Value.okWide Tryz.prog W .any base 58 v) (h : DataW.Trod enc Tryz.prog W 0 (fun _ => true) true 58 v d p) : ∃ d : CallD, v = vCall d ∧ okCall d := by
  obtain ⟨cs, rfl, _⟩ := okWide_struct Tryz.underlying58 hval
  obtain ⟨fuel, hf⟩ := h
  obtain ⟨d, h1, h2⟩ := open_Call hf
  refine ⟨d, ?_, h2⟩
  simp only [Value.cells] at h1
  unfold vCall
  congr 1
  exact Array.toList_inj.1 h1
set_option maxRecDepth 100000 in
theorem open_Version {n : Nat} {cs : List Value} {x : DataW H × List MemPlace} (h : DataW.trod enc Tryz.prog W 0 (fun _ => true) true n 24 cs = some x) : ∃ d : VersionD, cs = cVersion d ∧ okVersion d := by
  obtain ⟨xs, m, rfl, _, hl, hn, hf⟩ := DataW.trod_struct Tryz.underlying24 h
  rw [show Tryz.prog.cellsOf 24 = 2 by kernel_rfl] at hl
  obtain ⟨c0, c1, rfl⟩ := two_of hl
  obtain ⟨y0, k0⟩ := field_one hn hf 0 _ 3 0 _ _ rfl rfl rfl (by kernel_rfl) rfl
  obtain ⟨y1, k1⟩ := field_one hn hf 1 _ 3 1 _ _ rfl rfl rfl (by kernel_rfl) rfl
  obtain ⟨l0, rfl, b0⟩ := leaf_int Tryz.underlying3 k0
  obtain ⟨l1, rfl, b1⟩ := leaf_int Tryz.underlying3 k1
  exact ⟨⟨l0, l1⟩, rfl, b0, b1⟩
set_option maxRecDepth 100000 in
theorem arg_Version {base : Nat} {v : Value} {d : DataW H} {p : List MemPlace} (hval : Value.okWide Tryz.prog W .any base 24 v) (h : DataW.Trod enc Tryz.prog W 0 (fun _ => true) true 24 v d p) : ∃ d : VersionD, v = vVersion d ∧ okVersion d := by
  obtain ⟨cs, rfl, _⟩ := okWide_struct Tryz.underlying24 hval
  obtain ⟨fuel, hf⟩ := h
  obtain ⟨d, h1, h2⟩ := open_Version hf
  refine ⟨d, ?_, h2⟩
  simp only [Value.cells] at h1
  unfold vVersion
  congr 1
  exact Array.toList_inj.1 h1
end
end Go.Proofs.YtlkpinlkbikokabGreat
/- Arguments opened: needs. -/
namespace Go.Proofs.YtlkpinlkbikokabGreat
set_option linter.unusedVariables false
open Go.ChangeShapes Go.WideShapes Go.ChangeAt Go.RowKit Go.WideMaps Go.WideElems
open Go.Deep
section
variable {H : Type} {enc : TypeId × Value → H} {W : World}
set_option maxRecDepth 100000 in
theorem open_Need {n : Nat} {cs : List Value} {x : DataW H × List MemPlace} (h : DataW.trod enc Tryz.prog W 0 (fun _ => true) true n 29 cs = some x) : ∃ d : NeedD, cs = cNeed d ∧ okNeed d := by
  obtain ⟨xs, m, rfl, _, hl, hn, hf⟩ := DataW.trod_struct Tryz.underlying29 h
  rw [show Tryz.prog.cellsOf 29 = 4 by kernel_rfl] at hl
  obtain ⟨c0, c1, c2, c3, rfl⟩ := four_of hl
  obtain ⟨y0, k0⟩ := field_one hn hf 0 _ 3 0 _ _ rfl rfl rfl (by kernel_rfl) rfl
  obtain ⟨y1, k1⟩ := field_one hn hf 1 _ 9 1 _ _ rfl rfl rfl (by kernel_rfl) rfl
  obtain ⟨y2, k2⟩ := field_at hn hf 2 _ rfl
  have k2 : DataW.trod enc Tryz.prog W 0 (fun _ => true) true m 24 [c2, c3] = some y2 := by
    have e : Tryz.prog.cellsOf 24 = 2 := by kernel_rfl
    simpa [e] using k2
  obtain ⟨l0, rfl, b0⟩ := leaf_int Tryz.underlying3 k0
  obtain ⟨l1, rfl, b1⟩ := leaf_str Tryz.underlying9 k1
  obtain ⟨⟨v0, v1⟩, e2, b2, b3⟩ := open_Version k2
  simp only [cVersion] at e2
  injection e2 with e2 e3
  injection e3 with e3 _
  subst e2 e3
  exact ⟨⟨l0, l1, v0, v1⟩, rfl, b0, b1, b2, b3⟩
set_option maxRecDepth 100000 in
theorem arg_Need {base : Nat} {v : Value} {d : DataW H} {p : List MemPlace} (hval : Value.okWide Tryz.prog W .any base 29 v) (h : DataW.Trod enc Tryz.prog W 0 (fun _ => true) true 29 v d p) : ∃ d : NeedD, v = vNeed d ∧ okNeed d := by
  obtain ⟨cs, rfl, _⟩ := okWide_struct Tryz.underlying29 hval
  obtain ⟨fuel, hf⟩ := h
  obtain ⟨d, h1, h2⟩ := open_Need hf
  refine ⟨d, ?_, h2⟩
  simp only [Value.cells] at h1
  unfold vNeed
  congr 1
  exact Array.toList_inj.1 h1
end
end Go.Proofs.YtlkpinlkbikokabGreat
/- Arguments opened: slices of needs. -/
namespace Go.Proofs.YtlkpinlkbikokabGreat
set_option linter.unusedVariables false
open Go.ChangeShapes Go.WideShapes Go.ChangeAt Go.RowKit Go.WideMaps Go.WideElems
open Go.Deep
section
variable {H : Type} {enc : TypeId × Value → H} {W : World}
set_option maxRecDepth 100000 in
theorem openS_Need {n : Nat} {v : Value} {x : DataW H × List MemPlace} (h : DataW.trod enc Tryz.prog W 0 (fun _ => true) true n 25 [v] = some x) : ∃ l : List NeedD, FlatAt cNeed 4 W v l ∧ ∀ d ∈ l, okNeed d :=
  haveI : Inhabited NeedD := ⟨⟨0, [], 0, 0⟩⟩
  open_flat cNeed_len (by decide) Tryz.underlying25 (by kernel_rfl) (fun _ _ _ h => open_Need h) h
end
end Go.Proofs.YtlkpinlkbikokabGreat
/- Arguments opened: slices of structs that hold rows themselves. -/
namespace Go.Proofs.YtlkpinlkbikokabGreat
set_option linter.unusedVariables false
open Go.ChangeShapes Go.WideShapes Go.ChangeAt Go.RowKit Go.WideMaps Go.WideElems
open Go.Deep
section
variable {H : Type} {enc : TypeId × Value → H} {P : Program} {W : World}
theorem open_deep {α : Type} [Inhabited α] {R : Nat → World → List Value → α → Prop} {k : Nat} {G : α → Prop} (hg : Good R k) (hk0 : 0 < k) {t e : TypeId} {n : Nat} {v : Value} {x : DataW H × List MemPlace} (ht : P.underlying t = some (.slice e)) (hc : P.cellsOf e = k)
    (hel : ∀ n cs x, DataW.trod enc P W 0 (fun _ => true) true n e cs = some x → ∃ d, R 0 W cs d ∧ G d) (h : DataW.trod enc P W 0 (fun _ => true) true n t [v] = some x) :
    ∃ l : List α, SliceAt R k 0 W v l ∧ ∀ d ∈ l, G d := by
  rcases open_slice ht h with ⟨h0, _⟩ | ⟨a, len, cap, m, n', D, Pl, hcs, _, hl, hm, hmm, _, hx⟩
  · injection h0 with h0
    subst h0
    exact ⟨[], sliceAt_nil _ _, by simp⟩
  · injection hcs with hcs
    subst hcs
    simp only [if_true] at hmm
    subst hmm
    obtain ⟨F, hF⟩ := choose_lt (α := α) (p := fun i d => (∃ cs, R 0 W cs d ∧ ∀ j, j < k → W.cell? ((a.add (i * k)).add j) = cs[j]?) ∧ G d) (n := m) (fun i hi => by
      obtain ⟨cs', h1, h2⟩ := hx i hi
      obtain ⟨d, hr, hg2⟩ := hel _ _ _ h2
      rw [hc] at h1
      obtain ⟨_, _, h3⟩ := World.cells?_some h1
      exact ⟨d, ⟨cs', hr, h3⟩, hg2⟩)
    refine ⟨(List.range len).map F, ?_, ?_⟩
    · obtain ⟨ab, ao, spot⟩ := a
      refine ⟨some ⟨ab, ao, spot⟩, m - len, by simp; omega, by simp; omega, ?_⟩
      rcases Nat.eq_zero_or_pos len with h0 | hpos
      · left; simp [h0]
      · right
        obtain ⟨cs0, r0, g0⟩ := (hF 0 (by omega)).1
        have g0 := g0 0 hk0
        have hlen0 : 0 < cs0.length := by rw [hg.len r0]; exact hk0
        rw [List.getElem?_eq_getElem hlen0] at g0
        have hspot : spot = none := by
          have := World.cell?_spot g0
          simpa [Addr.add] using this
        subst hspot
        have hlt : ab < W.heap.size := by
          simp only [Addr.add_lit, Nat.zero_mul, Nat.add_zero] at g0
          exact World.block_lt_of_cell? W _ g0
        refine ⟨ab, ao, rfl, Nat.zero_le _, hlt, fun i hi => ?_⟩
        have hi2 : i < len := by simpa using hi
        obtain ⟨cs, r1, g1⟩ := (hF i (by omega)).1
        refine ⟨cs, by simpa using r1, fun j hj => ?_⟩
        have h2 := g1 j hj
        rw [Addr.add_lit, Addr.add_lit] at h2
        exact h2
    · intro d hd
      obtain ⟨i, hi, rfl⟩ := List.mem_map.1 hd
      exact (hF i (by have := List.mem_range.1 hi; omega)).2
end
end Go.Proofs.YtlkpinlkbikokabGreat
/- Arguments opened: slices of entries. -/
namespace Go.Proofs.YtlkpinlkbikokabGreat
set_option linter.unusedVariables false
open Go.ChangeShapes Go.WideShapes Go.ChangeAt Go.RowKit Go.WideMaps Go.WideElems
open Go.Deep
theorem belEntry {w w' : World} {cs : List Value} {x : EntryD} {F B : Nat} (h : rEntry F w cs x) (hb : Below B w w') (hB : w.heap.size ≤ B) : rEntry F w' cs x := goodEntry.keep h (kept_below hb hB)
theorem belEntryS {w w' : World} {v : Value} {l : List EntryD} {F B : Nat} (h : SliceAt rEntry 5 F w v l) (hb : Below B w w') (hB : w.heap.size ≤ B) : SliceAt rEntry 5 F w' v l := h.below goodEntry hb hB
theorem zeroEntryS {w : World} {v : Value} {l : List EntryD} {F : Nat} (h : SliceAt rEntry 5 F w v l) : SliceAt rEntry 5 0 w v l := h.mono goodEntry (Nat.zero_le _)
section
variable {H : Type} {enc : TypeId × Value → H} {W : World}
theorem openS_Str {n : Nat} {v : Value} {x : DataW H × List MemPlace} (h : DataW.trod enc Tryz.prog W 0 (fun _ => true) true n 22 [v] = some x) : ∃ l : List (List UInt8), FlatAt cStr 1 W v l ∧ ∀ s ∈ l, s.length ≤ maxLen :=
  open_flat cStr_len (by decide) Tryz.underlying22 (by kernel_rfl) (fun n cs x h => by
    have h2 := h
    obtain ⟨s, h1, _, h3⟩ := DataW.trod_string Tryz.underlying9 h2
    exact ⟨s.data.toList, by rw [h1]; simp [cStr, strV], by rw [Array.length_toList]; exact h3⟩) h
set_option maxRecDepth 100000 in
theorem openR_Entry {n : Nat} {cs : List Value} {x : DataW H × List MemPlace} (h : DataW.trod enc Tryz.prog W 0 (fun _ => true) true n 27 cs = some x) : ∃ d : EntryD, rEntry 0 W cs d ∧ okEntry d := by
  obtain ⟨xs, m, rfl, _, hl, hn, hf⟩ := DataW.trod_struct Tryz.underlying27 h
  rw [show Tryz.prog.cellsOf 27 = 5 by kernel_rfl] at hl
  obtain ⟨c0, c1, c2, c3, c4, rfl⟩ := five_of hl
  obtain ⟨y0, k0⟩ := field_one hn hf 0 _ 9 0 _ _ rfl rfl rfl (by kernel_rfl) rfl
  obtain ⟨y1, k1⟩ := field_one hn hf 1 _ 22 1 _ _ rfl rfl rfl (by kernel_rfl) rfl
  obtain ⟨y2, k2⟩ := field_at hn hf 2 _ rfl
  have k2 : DataW.trod enc Tryz.prog W 0 (fun _ => true) true m 24 [c2, c3] = some y2 := by
    have e : Tryz.prog.cellsOf 24 = 2 := by kernel_rfl
    simpa [e] using k2
  obtain ⟨y3, k3⟩ := field_one hn hf 3 _ 25 4 _ _ rfl rfl rfl (by kernel_rfl) rfl
  obtain ⟨l0, rfl, b0⟩ := leaf_str Tryz.underlying9 k0
  obtain ⟨l1, b1, g1⟩ := openS_Str k1
  obtain ⟨⟨v0, v1⟩, e2, b2, b3⟩ := open_Version k2
  obtain ⟨l4, b4, g4⟩ := openS_Need k3
  simp only [cVersion] at e2
  injection e2 with e2 e3
  injection e3 with e3 _
  subst e2 e3
  exact ⟨⟨l0, l1, ⟨v0, v1⟩, l4⟩, ⟨c1, c4, rfl, sliceAt_of_flat cStr_len b1, sliceAt_of_flat cNeed_len b4⟩, b0, g1, ⟨b2, b3⟩, g4⟩
set_option maxRecDepth 100000 in
theorem argS_Entry {base : Nat} {v : Value} {d : DataW H} {p : List MemPlace} (hval : Value.okWide Tryz.prog W .any base 43 v) (h : DataW.Trod enc Tryz.prog W 0 (fun _ => true) true 43 v d p) : ∃ l : List EntryD, SliceAt rEntry 5 0 W v l ∧ ∀ d ∈ l, okEntry d := by
  obtain ⟨a1, len, cap, rfl⟩ := okWide_slice Tryz.underlying43 hval
  obtain ⟨fuel, hf⟩ := h
  haveI : Inhabited EntryD := ⟨⟨[], [], ⟨0, 0⟩, []⟩⟩
  exact open_deep goodEntry (by decide) Tryz.underlying43 (by kernel_rfl) (fun _ _ _ h => openR_Entry h) hf
set_option maxRecDepth 100000 in
theorem arg_Entry {base : Nat} {v : Value} {d : DataW H} {p : List MemPlace} (hval : Value.okWide Tryz.prog W .any base 27 v) (h : DataW.Trod enc Tryz.prog W 0 (fun _ => true) true 27 v d p) : ∃ d : EntryD, ValAt rEntry 0 W v d ∧ okEntry d := by
  obtain ⟨cs, rfl, _⟩ := okWide_struct Tryz.underlying27 hval
  obtain ⟨fuel, hf⟩ := h
  obtain ⟨d, h1, h2⟩ := openR_Entry hf
  exact ⟨d, ⟨cs.toList, by simp, h1⟩, h2⟩
end
end Go.Proofs.YtlkpinlkbikokabGreat
namespace Go.Proofs.YtlkpinlkbikokabGreat
set_option linter.unusedVariables false
open Go.ChangeShapes Go.WideShapes Go.ChangeAt Go.RowKit Go.WideMaps Go.WideElems
open Go.ChangeMaps (open_string shut_string)
set_option maxRecDepth 100000 in
set_option maxHeartbeats 3200000 in
theorem exactFormatEntry_any (v0 : Value) (x0 : EntryD) (w : World) (a0 : ValAt rEntry 0 w v0 x0) (g0 : okEntry x0) :
    Calls Tryz.prog 6 #[v0] w fun e w' => e = .returned (.bool true) ∧ Below w.heap.size w w' := by
  obtain ⟨_, rfl, a0⟩ := a0
  obtain ⟨n0_0, n0_1, ⟨n0_2_0, n0_2_1⟩, n0_3⟩ := x0
  try simp only at *
  obtain ⟨ua0_1, ua0_4, rfl, hrua0_1, hrua0_4⟩ := a0
  simp only at hrua0_1 hrua0_4
  obtain ⟨ca0_1, cc0_1, rfl, _⟩ := sliceAt_len hrua0_1
  obtain ⟨ca0_4, cc0_4, rfl, _⟩ := sliceAt_len hrua0_4
  have A0 := Lib.hid (show rEntry 0 _ _ (⟨n0_0, n0_1, ⟨n0_2_0, n0_2_1⟩, n0_3⟩ : EntryD) from ⟨_, _, rfl, hrua0_1.mono good_str (Nat.zero_le _), hrua0_4.mono (good_flat cNeed_len) (Nat.zero_le _)⟩)
  have G0 := Lib.hid g0
  clear g0 hrua0_1 hrua0_4
  go_enter Tryz.func6, Tryz.ntmps6
  go_wp2_with fail
  refine (szEntry_d _ (⟨n0_0, n0_1, ⟨n0_2_0, n0_2_1⟩, n0_3⟩ : EntryD) 1048576 _ ⟨_, rfl, (belEntry A0.out (by repeat (first | exact Below.refl _ _ | refine Below.alloc ?_ (by simp; try omega) _ | refine Below.setCell ?_ (by simp; try omega) _ | refine belN ?_ _ | refine belD ?_)) (Nat.le_refl _))⟩ G0.out (by omega) (by omega)).mono ?_
  rintro e w1 ⟨r0, rfl, hr0a, hr0b, hb0⟩
  have hb := below_step (w := w) (by repeat (first | exact Below.refl _ _ | refine Below.alloc ?_ (by simp; try omega) _ | refine Below.setCell ?_ (by simp; try omega) _ | refine belN ?_ _ | refine belD ?_)) hb0
  have Cw_w1 := Lib.hid hb
  have A0_w1 := Lib.hid (belEntry A0.out hb (Nat.le_refl _))
  have ep0_0_w1 : w1.cell? ⟨w.heap.size, 0, none⟩ = some (.string ⟨n0_0.toArray⟩) := by rw [hb0.cell (p := ⟨w.heap.size, 0, none⟩) (by simp; try omega)]; simp
  have ep0_1_w1 : w1.cell? ⟨w.heap.size, 1, none⟩ = some (.slice ca0_1 n0_1.length cc0_1) := by rw [hb0.cell (p := ⟨w.heap.size, 1, none⟩) (by simp; try omega)]; simp
  have ep0_2_w1 : w1.cell? ⟨w.heap.size, 2, none⟩ = some (.int .i64 n0_2_0) := by rw [hb0.cell (p := ⟨w.heap.size, 2, none⟩) (by simp; try omega)]; simp
  have ep0_3_w1 : w1.cell? ⟨w.heap.size, 3, none⟩ = some (.int .i64 n0_2_1) := by rw [hb0.cell (p := ⟨w.heap.size, 3, none⟩) (by simp; try omega)]; simp
  have ep0_4_w1 : w1.cell? ⟨w.heap.size, 4, none⟩ = some (.slice ca0_4 n0_3.length cc0_4) := by rw [hb0.cell (p := ⟨w.heap.size, 4, none⟩) (by simp; try omega)]; simp
  have Lp0_w1 : w.heap.size < w1.heap.size := by have h := hb0.size; simp at h; omega
  clear hb hb0
  by_cases hr0 : r0 < 0
  · clear hr0b
    go_wp2_with fail
    go_ret
    exact ⟨rfl, below_to Cw_w1.out (by repeat (first | exact Below.refl _ _ | refine Below.alloc ?_ (by simp; try omega) _ | refine Below.setCell ?_ (by simp; try omega) _ | refine belN ?_ _ | refine belD ?_))⟩
  · have hs0 := hr0b (by omega)
    clear hr0b
    have HSZ := Lib.hid (show (zEntry (⟨n0_0, n0_1, ⟨n0_2_0, n0_2_1⟩, n0_3⟩ : EntryD)) ≤ 1048576 by push_cast; omega)
    clear hs0
    have HNE := Lib.hid (show (⟨n0_0, n0_1, ⟨n0_2_0, n0_2_1⟩, n0_3⟩ : EntryD).fName.length ≤ 1048576 by have h := HSZ.out; simp only [zEntry] at h; simp only; omega)
    have HKE := Lib.hid (show ∀ d ∈ (⟨n0_0, n0_1, ⟨n0_2_0, n0_2_1⟩, n0_3⟩ : EntryD).fNeeds, d.fFrom.length ≤ 1048576 from fun d hd => by have h := HSZ.out; simp only [zEntry] at h; have h2 := sumF_mem zNeed _ d hd; simp only at h2; have h3 : d.fFrom.length ≤ zNeed d := (by unfold zNeed; omega); omega)
    have HZ := Lib.hid (show ∀ s ∈ (⟨n0_0, n0_1, ⟨n0_2_0, n0_2_1⟩, n0_3⟩ : EntryD).fRecipe, s.length ≤ 1048576 from fun s hs => by have h := HSZ.out; simp only [zEntry] at h; have h2 := sumF_mem List.length _ s hs; simp only at h2; omega)
    have HJL := Lib.hid (show (joinL (⟨n0_0, n0_1, ⟨n0_2_0, n0_2_1⟩, n0_3⟩ : EntryD).fRecipe [32]).length ≤ 4194304 from by
      have h := HSZ.out
      simp only [zEntry] at h
      have h2 := joinK_len (⟨n0_0, n0_1, ⟨n0_2_0, n0_2_1⟩, n0_3⟩ : EntryD).fRecipe [32] (⟨n0_0, n0_1, ⟨n0_2_0, n0_2_1⟩, n0_3⟩ : EntryD).fRecipe.length (Nat.le_refl _)
      rw [List.take_length, total_sum] at h2
      have h3 : (joinL (⟨n0_0, n0_1, ⟨n0_2_0, n0_2_1⟩, n0_3⟩ : EntryD).fRecipe [32]).length = (joinK (⟨n0_0, n0_1, ⟨n0_2_0, n0_2_1⟩, n0_3⟩ : EntryD).fRecipe [32] (⟨n0_0, n0_1, ⟨n0_2_0, n0_2_1⟩, n0_3⟩ : EntryD).fRecipe.length).length := rfl
      simp only [List.length_cons, List.length_nil] at h2 h3 ⊢
      omega)
    have HSP := Lib.hid (fun cs w1 (h : rEntry 0 w1 cs (⟨n0_0, n0_1, ⟨n0_2_0, n0_2_1⟩, n0_3⟩ : EntryD)) => specFormatEntry_any (.agg cs.toArray) (⟨n0_0, n0_1, ⟨n0_2_0, n0_2_1⟩, n0_3⟩ : EntryD) w1 ⟨cs, rfl, h⟩ HNE.out HKE.out HZ.out HJL.out)
    have HIM := Lib.hid (fun cs w1 (h : rEntry 0 w1 cs (⟨n0_0, n0_1, ⟨n0_2_0, n0_2_1⟩, n0_3⟩ : EntryD)) => implFormatEntry_any (.agg cs.toArray) (⟨n0_0, n0_1, ⟨n0_2_0, n0_2_1⟩, n0_3⟩ : EntryD) w1 ⟨cs, rfl, h⟩ HNE.out HKE.out HZ.out HJL.out)
    generalize fmtEnt (⟨n0_0, n0_1, ⟨n0_2_0, n0_2_1⟩, n0_3⟩ : EntryD) = f at *
    have K_p0 := Lp0_w1
    go_wp2_with fail
    refine (toEntry_d _ (⟨n0_0, n0_1, ⟨n0_2_0, n0_2_1⟩, n0_3⟩ : EntryD) _ ⟨_, rfl, (belEntry A0_w1.out (by repeat (first | exact Below.refl _ _ | refine Below.alloc ?_ (by simp; try omega) _ | refine Below.setCell ?_ (by simp; try omega) _ | refine belN ?_ _ | refine belD ?_)) (Nat.le_refl _))⟩ (by have := HSZ.out; omega)).mono ?_
    rintro e w2 ⟨_, rfl, ho, hb0⟩
    have hb := below_step (w := w1) (by repeat (first | exact Below.refl _ _ | refine Below.alloc ?_ (by simp; try omega) _ | refine Below.setCell ?_ (by simp; try omega) _ | refine belN ?_ _ | refine belD ?_)) hb0
    have Cw_w2 := Lib.hid (Cw_w1.out.trans (hb.mono Cw_w1.out.size))
    have A0_w2 := Lib.hid (belEntry A0_w1.out hb (Nat.le_refl _))
    have ep0_0_w2 := (hb.cell (p := ⟨w.heap.size, 0, none⟩) Lp0_w1).trans ep0_0_w1
    have ep0_1_w2 := (hb.cell (p := ⟨w.heap.size, 1, none⟩) Lp0_w1).trans ep0_1_w1
    have ep0_2_w2 := (hb.cell (p := ⟨w.heap.size, 2, none⟩) Lp0_w1).trans ep0_2_w1
    have ep0_3_w2 := (hb.cell (p := ⟨w.heap.size, 3, none⟩) Lp0_w1).trans ep0_3_w1
    have ep0_4_w2 := (hb.cell (p := ⟨w.heap.size, 4, none⟩) Lp0_w1).trans ep0_4_w1
    have Lp0_w2 : w.heap.size < w2.heap.size := by have h := hb.size; omega
    clear ep0_0_w1 ep0_1_w1 ep0_2_w1 ep0_3_w1 ep0_4_w1 Lp0_w1
    obtain ⟨uS1_1, uS1_4, rfl, hruS1_1, hruS1_4⟩ := ho
    simp only at hruS1_1 hruS1_4
    obtain ⟨pS1_1, qS1_1, rfl, _⟩ := sliceAt_len hruS1_1
    obtain ⟨pS1_4, qS1_4, rfl, _⟩ := sliceAt_len hruS1_4
    have S1 := Lib.hid (show rEntry 0 _ _ (⟨n0_0, n0_1, ⟨n0_2_0, n0_2_1⟩, n0_3⟩ : EntryD) from ⟨_, _, rfl, hruS1_1.mono good_str (Nat.zero_le _), hruS1_4.mono (good_flat cNeed_len) (Nat.zero_le _)⟩)
    clear hruS1_1 hruS1_4
    clear hb hb0
    have K_p0 := Lp0_w2
    go_wp2_with fail
    refine (HSP.out _ _ (belEntry S1.out (by repeat (first | exact Below.refl _ _ | refine Below.alloc ?_ (by simp; try omega) _ | refine Below.setCell ?_ (by simp; try omega) _ | refine belN ?_ _ | refine belD ?_)) (Nat.le_refl _))).mono ?_
    rintro e w3 ⟨rfl, hb0⟩
    have hb := below_step (w := w2) (by repeat (first | exact Below.refl _ _ | refine Below.alloc ?_ (by simp; try omega) _ | refine Below.setCell ?_ (by simp; try omega) _ | refine belN ?_ _ | refine belD ?_)) hb0
    have Cw_w3 := Lib.hid (Cw_w2.out.trans (hb.mono Cw_w2.out.size))
    have A0_w3 := Lib.hid (belEntry A0_w2.out hb (Nat.le_refl _))
    have S1_w3 := Lib.hid (belEntry S1.out hb (Nat.le_refl _))
    have ep0_0_w3 := (hb.cell (p := ⟨w.heap.size, 0, none⟩) Lp0_w2).trans ep0_0_w2
    have ep0_1_w3 := (hb.cell (p := ⟨w.heap.size, 1, none⟩) Lp0_w2).trans ep0_1_w2
    have ep0_2_w3 := (hb.cell (p := ⟨w.heap.size, 2, none⟩) Lp0_w2).trans ep0_2_w2
    have ep0_3_w3 := (hb.cell (p := ⟨w.heap.size, 3, none⟩) Lp0_w2).trans ep0_3_w2
    have ep0_4_w3 := (hb.cell (p := ⟨w.heap.size, 4, none⟩) Lp0_w2).trans ep0_4_w2
    have Lp0_w3 : w.heap.size < w3.heap.size := by have h := hb.size; omega
    clear ep0_0_w2 ep0_1_w2 ep0_2_w2 ep0_3_w2 ep0_4_w2 Lp0_w2
    clear hb hb0
    have K_p0 := Lp0_w3
    go_wp2_with fail
    refine (toEntry_d _ (⟨n0_0, n0_1, ⟨n0_2_0, n0_2_1⟩, n0_3⟩ : EntryD) _ ⟨_, rfl, (belEntry A0_w3.out (by repeat (first | exact Below.refl _ _ | refine Below.alloc ?_ (by simp; try omega) _ | refine Below.setCell ?_ (by simp; try omega) _ | refine belN ?_ _ | refine belD ?_)) (Nat.le_refl _))⟩ (by have := HSZ.out; omega)).mono ?_
    rintro e w4 ⟨_, rfl, ho, hb0⟩
    have hb := below_step (w := w3) (by repeat (first | exact Below.refl _ _ | refine Below.alloc ?_ (by simp; try omega) _ | refine Below.setCell ?_ (by simp; try omega) _ | refine belN ?_ _ | refine belD ?_)) hb0
    have Cw_w4 := Lib.hid (Cw_w3.out.trans (hb.mono Cw_w3.out.size))
    have A0_w4 := Lib.hid (belEntry A0_w3.out hb (Nat.le_refl _))
    have ep0_0_w4 := (hb.cell (p := ⟨w.heap.size, 0, none⟩) Lp0_w3).trans ep0_0_w3
    have ep0_1_w4 := (hb.cell (p := ⟨w.heap.size, 1, none⟩) Lp0_w3).trans ep0_1_w3
    have ep0_2_w4 := (hb.cell (p := ⟨w.heap.size, 2, none⟩) Lp0_w3).trans ep0_2_w3
    have ep0_3_w4 := (hb.cell (p := ⟨w.heap.size, 3, none⟩) Lp0_w3).trans ep0_3_w3
    have ep0_4_w4 := (hb.cell (p := ⟨w.heap.size, 4, none⟩) Lp0_w3).trans ep0_4_w3
    have Lp0_w4 : w.heap.size < w4.heap.size := by have h := hb.size; omega
    clear ep0_0_w3 ep0_1_w3 ep0_2_w3 ep0_3_w3 ep0_4_w3 Lp0_w3
    obtain ⟨uX2_1, uX2_4, rfl, hruX2_1, hruX2_4⟩ := ho
    simp only at hruX2_1 hruX2_4
    obtain ⟨pX2_1, qX2_1, rfl, _⟩ := sliceAt_len hruX2_1
    obtain ⟨pX2_4, qX2_4, rfl, _⟩ := sliceAt_len hruX2_4
    have X2 := Lib.hid (show rEntry 0 _ _ (⟨n0_0, n0_1, ⟨n0_2_0, n0_2_1⟩, n0_3⟩ : EntryD) from ⟨_, _, rfl, hruX2_1.mono good_str (Nat.zero_le _), hruX2_4.mono (good_flat cNeed_len) (Nat.zero_le _)⟩)
    clear hruX2_1 hruX2_4
    clear hb hb0
    have K_p0 := Lp0_w4
    go_wp2_with fail
    refine (HIM.out _ _ (belEntry X2.out (by repeat (first | exact Below.refl _ _ | refine Below.alloc ?_ (by simp; try omega) _ | refine Below.setCell ?_ (by simp; try omega) _ | refine belN ?_ _ | refine belD ?_)) (Nat.le_refl _))).mono ?_
    rintro e w5 ⟨rfl, hb0⟩
    have hb := below_step (w := w4) (by repeat (first | exact Below.refl _ _ | refine Below.alloc ?_ (by simp; try omega) _ | refine Below.setCell ?_ (by simp; try omega) _ | refine belN ?_ _ | refine belD ?_)) hb0
    have Cw_w5 := Lib.hid (Cw_w4.out.trans (hb.mono Cw_w4.out.size))
    have A0_w5 := Lib.hid (belEntry A0_w4.out hb (Nat.le_refl _))
    have X2_w5 := Lib.hid (belEntry X2.out hb (Nat.le_refl _))
    have ep0_0_w5 := (hb.cell (p := ⟨w.heap.size, 0, none⟩) Lp0_w4).trans ep0_0_w4
    have ep0_1_w5 := (hb.cell (p := ⟨w.heap.size, 1, none⟩) Lp0_w4).trans ep0_1_w4
    have ep0_2_w5 := (hb.cell (p := ⟨w.heap.size, 2, none⟩) Lp0_w4).trans ep0_2_w4
    have ep0_3_w5 := (hb.cell (p := ⟨w.heap.size, 3, none⟩) Lp0_w4).trans ep0_3_w4
    have ep0_4_w5 := (hb.cell (p := ⟨w.heap.size, 4, none⟩) Lp0_w4).trans ep0_4_w4
    have Lp0_w5 : w.heap.size < w5.heap.size := by have h := hb.size; omega
    clear ep0_0_w4 ep0_1_w4 ep0_2_w4 ep0_3_w4 ep0_4_w4 Lp0_w4
    have ex0_0_w5 : w5.cell? ⟨w4.heap.size, 0, none⟩ = some (.string ⟨n0_0.toArray⟩) := by rw [hb0.cell (p := ⟨w4.heap.size, 0, none⟩) (by simp; try omega)]; simp
    have ex0_1_w5 : w5.cell? ⟨w4.heap.size, 1, none⟩ = some (.slice pX2_1 n0_1.length qX2_1) := by rw [hb0.cell (p := ⟨w4.heap.size, 1, none⟩) (by simp; try omega)]; simp
    have ex0_2_w5 : w5.cell? ⟨w4.heap.size, 2, none⟩ = some (.int .i64 n0_2_0) := by rw [hb0.cell (p := ⟨w4.heap.size, 2, none⟩) (by simp; try omega)]; simp
    have ex0_3_w5 : w5.cell? ⟨w4.heap.size, 3, none⟩ = some (.int .i64 n0_2_1) := by rw [hb0.cell (p := ⟨w4.heap.size, 3, none⟩) (by simp; try omega)]; simp
    have ex0_4_w5 : w5.cell? ⟨w4.heap.size, 4, none⟩ = some (.slice pX2_4 n0_3.length qX2_4) := by rw [hb0.cell (p := ⟨w4.heap.size, 4, none⟩) (by simp; try omega)]; simp
    have Lx0_w5 : w4.heap.size < w5.heap.size := by have h := hb0.size; simp at h; omega
    clear hb hb0
    go_wp2_with fail
    go_region_held3 (fun w' => w'.cell? ⟨w4.heap.size, 0, none⟩ = some (.string ⟨n0_0.toArray⟩) ∧ w'.cell? ⟨w4.heap.size, 1, none⟩ = some (.slice pX2_1 n0_1.length qX2_1) ∧ w'.cell? ⟨w4.heap.size, 2, none⟩ = some (.int .i64 n0_2_0) ∧ w'.cell? ⟨w4.heap.size, 3, none⟩ = some (.int .i64 n0_2_1) ∧ w'.cell? ⟨w4.heap.size, 4, none⟩ = some (.slice pX2_4 n0_3.length qX2_4) ∧ w'.cell? ⟨w.heap.size, 0, none⟩ = some (.string ⟨n0_0.toArray⟩) ∧ w'.cell? ⟨w.heap.size, 1, none⟩ = some (.slice ca0_1 n0_1.length cc0_1) ∧ w'.cell? ⟨w.heap.size, 2, none⟩ = some (.int .i64 n0_2_0) ∧ w'.cell? ⟨w.heap.size, 3, none⟩ = some (.int .i64 n0_2_1) ∧ w'.cell? ⟨w.heap.size, 4, none⟩ = some (.slice ca0_4 n0_3.length cc0_4))
      (first
        | exact ⟨(hbA.cell (p := ⟨w4.heap.size, 0, none⟩) (by simp; omega)).trans ex0_0_w5, (hbA.cell (p := ⟨w4.heap.size, 1, none⟩) (by simp; omega)).trans ex0_1_w5, (hbA.cell (p := ⟨w4.heap.size, 2, none⟩) (by simp; omega)).trans ex0_2_w5, (hbA.cell (p := ⟨w4.heap.size, 3, none⟩) (by simp; omega)).trans ex0_3_w5, (hbA.cell (p := ⟨w4.heap.size, 4, none⟩) (by simp; omega)).trans ex0_4_w5, (hbA.cell (p := ⟨w.heap.size, 0, none⟩) (by simp; omega)).trans ep0_0_w5, (hbA.cell (p := ⟨w.heap.size, 1, none⟩) (by simp; omega)).trans ep0_1_w5, (hbA.cell (p := ⟨w.heap.size, 2, none⟩) (by simp; omega)).trans ep0_2_w5, (hbA.cell (p := ⟨w.heap.size, 3, none⟩) (by simp; omega)).trans ep0_3_w5, (hbA.cell (p := ⟨w.heap.size, 4, none⟩) (by simp; omega)).trans ep0_4_w5⟩
        | exact ⟨(hbB.cell (p := ⟨w4.heap.size, 0, none⟩) (by have h := hbA.size; simp at h; simp; omega)).trans ((hbA.cell (p := ⟨w4.heap.size, 0, none⟩) (by simp; omega)).trans ex0_0_w5), (hbB.cell (p := ⟨w4.heap.size, 1, none⟩) (by have h := hbA.size; simp at h; simp; omega)).trans ((hbA.cell (p := ⟨w4.heap.size, 1, none⟩) (by simp; omega)).trans ex0_1_w5), (hbB.cell (p := ⟨w4.heap.size, 2, none⟩) (by have h := hbA.size; simp at h; simp; omega)).trans ((hbA.cell (p := ⟨w4.heap.size, 2, none⟩) (by simp; omega)).trans ex0_2_w5), (hbB.cell (p := ⟨w4.heap.size, 3, none⟩) (by have h := hbA.size; simp at h; simp; omega)).trans ((hbA.cell (p := ⟨w4.heap.size, 3, none⟩) (by simp; omega)).trans ex0_3_w5), (hbB.cell (p := ⟨w4.heap.size, 4, none⟩) (by have h := hbA.size; simp at h; simp; omega)).trans ((hbA.cell (p := ⟨w4.heap.size, 4, none⟩) (by simp; omega)).trans ex0_4_w5), (hbB.cell (p := ⟨w.heap.size, 0, none⟩) (by have h := hbA.size; simp at h; simp; omega)).trans ((hbA.cell (p := ⟨w.heap.size, 0, none⟩) (by simp; omega)).trans ep0_0_w5), (hbB.cell (p := ⟨w.heap.size, 1, none⟩) (by have h := hbA.size; simp at h; simp; omega)).trans ((hbA.cell (p := ⟨w.heap.size, 1, none⟩) (by simp; omega)).trans ep0_1_w5), (hbB.cell (p := ⟨w.heap.size, 2, none⟩) (by have h := hbA.size; simp at h; simp; omega)).trans ((hbA.cell (p := ⟨w.heap.size, 2, none⟩) (by simp; omega)).trans ep0_2_w5), (hbB.cell (p := ⟨w.heap.size, 3, none⟩) (by have h := hbA.size; simp at h; simp; omega)).trans ((hbA.cell (p := ⟨w.heap.size, 3, none⟩) (by simp; omega)).trans ep0_3_w5), (hbB.cell (p := ⟨w.heap.size, 4, none⟩) (by have h := hbA.size; simp at h; simp; omega)).trans ((hbA.cell (p := ⟨w.heap.size, 4, none⟩) (by simp; omega)).trans ep0_4_w5)⟩
        | go_keep)
      (first
        | (go_at_call 11; refine (toEntry_d _ (⟨n0_0, n0_1, ⟨n0_2_0, n0_2_1⟩, n0_3⟩ : EntryD) _ ⟨_, rfl, (belEntry A0_w5.out (by repeat (first | exact Below.refl _ _ | refine Below.alloc ?_ (by simp; try omega) _ | refine Below.setCell ?_ (by simp; try omega) _ | refine belN ?_ _ | refine belD ?_)) (Nat.le_refl _))⟩ (by have := HSZ.out; omega)).mono ?_; rintro e w6 ⟨_, rfl, hoZ, hbA⟩)
        | (go_at_call 14; refine (eqEntry_d _ _ (⟨n0_0, n0_1, ⟨n0_2_0, n0_2_1⟩, n0_3⟩ : EntryD) (⟨n0_0, n0_1, ⟨n0_2_0, n0_2_1⟩, n0_3⟩ : EntryD) _ ⟨_, rfl, (belEntry X2_w5.out (below_step (w := w5) (by repeat (first | exact Below.refl _ _ | refine Below.alloc ?_ (by simp; try omega) _ | refine Below.setCell ?_ (by simp; try omega) _ | refine belN ?_ _ | refine belD ?_)) hbA) (Nat.le_refl _))⟩ ⟨_, rfl, (goodEntry.mono hoZ (Nat.zero_le _))⟩).mono ?_; rintro e w7 ⟨rfl, hbB⟩))
    have hb1 := below_step (w := w5) (by repeat (first | exact Below.refl _ _ | refine Below.alloc ?_ (by simp; try omega) _ | refine Below.setCell ?_ (by simp; try omega) _ | refine belN ?_ _ | refine belD ?_)) hbA
    have hb := hb1.trans (hbB.mono hb1.size)
    rename_i hheld
    clear hheld hoZ
    have Cw_w7 := Lib.hid (Cw_w5.out.trans (hb.mono Cw_w5.out.size))
    have A0_w7 := Lib.hid (belEntry A0_w5.out hb (Nat.le_refl _))
    have X2_w7 := Lib.hid (belEntry X2_w5.out hb (Nat.le_refl _))
    have ep0_0_w7 := (hb.cell (p := ⟨w.heap.size, 0, none⟩) Lp0_w5).trans ep0_0_w5
    have ep0_1_w7 := (hb.cell (p := ⟨w.heap.size, 1, none⟩) Lp0_w5).trans ep0_1_w5
    have ep0_2_w7 := (hb.cell (p := ⟨w.heap.size, 2, none⟩) Lp0_w5).trans ep0_2_w5
    have ep0_3_w7 := (hb.cell (p := ⟨w.heap.size, 3, none⟩) Lp0_w5).trans ep0_3_w5
    have ep0_4_w7 := (hb.cell (p := ⟨w.heap.size, 4, none⟩) Lp0_w5).trans ep0_4_w5
    have Lp0_w7 : w.heap.size < w7.heap.size := by have h := hb.size; omega
    clear ep0_0_w5 ep0_1_w5 ep0_2_w5 ep0_3_w5 ep0_4_w5 Lp0_w5
    have ex0_0_w7 := (hb.cell (p := ⟨w4.heap.size, 0, none⟩) Lx0_w5).trans ex0_0_w5
    have ex0_1_w7 := (hb.cell (p := ⟨w4.heap.size, 1, none⟩) Lx0_w5).trans ex0_1_w5
    have ex0_2_w7 := (hb.cell (p := ⟨w4.heap.size, 2, none⟩) Lx0_w5).trans ex0_2_w5
    have ex0_3_w7 := (hb.cell (p := ⟨w4.heap.size, 3, none⟩) Lx0_w5).trans ex0_3_w5
    have ex0_4_w7 := (hb.cell (p := ⟨w4.heap.size, 4, none⟩) Lx0_w5).trans ex0_4_w5
    have Lx0_w7 : w4.heap.size < w7.heap.size := by have h := hb.size; omega
    clear ex0_0_w5 ex0_1_w5 ex0_2_w5 ex0_3_w5 ex0_4_w5 Lx0_w5
    clear hb hb1 hbA hbB
    go_wp2_with fail
    go_ret
    exact ⟨rfl, below_to Cw_w7.out (by repeat (first | exact Below.refl _ _ | refine Below.alloc ?_ (by simp; try omega) _ | refine Below.setCell ?_ (by simp; try omega) _ | refine belN ?_ _ | refine belD ?_))⟩
set_option maxRecDepth 100000 in
theorem fnExactFormatEntry_lifted (os : Os) (started : os.Started) (H : Type) (enc : TypeId × Value → H) :
    ReturnsInHanded {} Tryz.checked os 6 .any (Rows.fnExactFormatEntrySpec.pre6 enc Tryz.prog Tryz.f6 Rows.fnExactFormatEntryRow.domain false) (Rows.fnExactFormatEntrySpec.post enc Tryz.prog Tryz.f6 false true false false) := by
  refine returnsInHanded_of_change (C := Tryz.checked) ownK started (by kernel_rfl) Tryz.func6
    (ChangeSpec.witness6 (enc := enc) (C := Tryz.checked) false ⟨#[], #[.agg #[.string ⟨#[]⟩, .slice none 0 0, .int .i64 0, .int .i64 0, .slice none 0 0]], []⟩ 8 (by kernel_rfl) (by kernel_rfl) (by kernel_rfl) (by kernel_rfl)) ?_
  intro W base args ds gs before hval0 hW _ _
  have hval : ∀ (j : Nat) t v, Tryz.f6.params[j]? = some t → args[j]? = some v → Value.okWide Tryz.prog W .any base t v := hval0
  have hW' := hW
  obtain ⟨p, q, hA0, _, rfl, _, _⟩ := hW
  have hA : DataW.TrodAll enc Tryz.prog W 0 (fun _ => true) true Tryz.f6.params.toList args.toList ds p := hA0
  rw [Tryz.params6] at hA hval
  obtain ⟨v0, vs0, d0, ds0, p0, q0, hargs, rfl, rfl, h0, r0⟩ := trodAll_cons hA
  obtain ⟨rfl, rfl, rfl⟩ := trodAll_nil r0
  obtain rfl : args = #[v0] := by cases args; simp_all
  obtain ⟨x0, w0, z0⟩ := arg_Entry (hval 0 27 v0 rfl rfl) h0
  clear hA0 hval0
  refine (exactFormatEntry_any v0 x0 W w0 z0).mono fun e W1 ⟨he, hb⟩ => ?_
  subst he
  exact ⟨_, rfl, law_post laidK rfl (by kernel_rfl) Tryz.underlying4 (by kernel_rfl) (fun ds h => by match ds, h with | [_], _ => rfl) hW' hb⟩
theorem fnExactFormatEntry_closed : joinedFacts Tryz.prog 6 Tryz.f6 Rows.fnExactFormatEntrySpec Rows.fnExactFormatEntryRow = true := by unfold joinedFacts; rw [mayEnter_k, liftsFinal_k, make_k]; kernel_rfl
theorem fnExactFormatEntry_holds : Rows.FnExactFormatEntrySaid :=
  OpenClaim.holds_of_wide 6 Tryz.f6 rfl rfl rfl rfl rfl rfl rfl ⟨rfl, rfl, rfl, rfl, rfl⟩ rfl rfl rfl rfl rfl (by kernel_rfl) Tryz.func6 fnExactFormatEntry_closed
    (of_decide_eq_true (by kernel_rfl)) (by unfold Func.isWrapper; first | (rw [if_pos (by decide +kernel)]; kernel_rfl) | (rw [if_neg (by decide +kernel)]; exact ⟨rfl, rfl⟩))
    (fun os started H enc _ => fnExactFormatEntry_lifted os started H enc)
end Go.Proofs.YtlkpinlkbikokabGreat
