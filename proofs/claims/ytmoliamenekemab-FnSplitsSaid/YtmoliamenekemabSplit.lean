/- SplitAt, the model's and the program's. -/
import Derived.Test.YtmoliamenekemabJoin
import Derived.Test.YtmoliamenekemabShelf
import Derived.Lib.IndexMore
import Derived.Lib.IndexLaws
namespace Go.Proofs.Ytmoliamenekemab
set_option linter.unusedVariables false
open Go.RowKit
/-- the parts of l between the occurrences of sep (sep is not empty), by at most so many cuts -/
def splitF (sep : List UInt8) : Nat → List UInt8 → List (List UInt8)
  | 0, l => [l]
  | f + 1, l => if Lib.index l sep < 0 then [l] else l.take (Lib.index l sep).toNat :: splitF sep f (l.drop ((Lib.index l sep).toNat + sep.length))
def splitL (l sep : List UInt8) : List (List UInt8) := if sep = [] then [l] else splitF sep (l.length + 1) l
theorem splitF_none {sep l : List UInt8} (f : Nat) (h : Lib.index l sep < 0) : splitF sep f l = [l] := by
  cases f with
  | zero => rfl
  | succ f => simp [splitF, h]
theorem splitF_some {sep l : List UInt8} (f i : Nat) (h : Lib.index l sep = i) : splitF sep (f + 1) l = l.take i :: splitF sep f (l.drop (i + sep.length)) := by
  have : ¬ (i : Int) < 0 := by omega
  simp [splitF, h, this]
/-- a cut at place i of the text, the first one from place a on -/
theorem index_at {l sep : List UInt8} {a i : Nat} (hai : a ≤ i) (hi : i ≤ l.length) (hno : ∀ j, a ≤ j → j < i → Lib.occAt l sep j = false) (ho : Lib.occAt l sep i = true) : Lib.index (l.drop a) sep = ((i - a : Nat) : Int) := by
  refine Lib.index_first (by simp; omega) ?_ ?_
  · unfold Lib.occAt at *; rw [List.drop_drop, show a + (i - a) = i from by omega]; exact ho
  · intro j hj
    have := hno (a + j) (by omega) (by omega)
    unfold Lib.occAt at *; rw [List.drop_drop]; exact this
theorem index_end {l sep : List UInt8} {a i : Nat} (hs0 : 0 < sep.length) (hai : a ≤ i) (hil : l.length < i + sep.length) (hno : ∀ j, a ≤ j → j < i → Lib.occAt l sep j = false) : Lib.index (l.drop a) sep < 0 := by
  have : Lib.index (l.drop a) sep = -1 := by
    refine Lib.index_none fun j hj => ?_
    unfold Lib.occAt; rw [List.drop_drop]
    rcases Nat.lt_or_ge (a + j) i with h | h
    · exact hno (a + j) (by omega) h
    · cases hp : sep.isPrefixOf (l.drop (a + j)) with
      | false => rfl
      | true =>
        have := (List.isPrefixOf_iff_prefix.1 hp).length_le
        rw [List.length_drop] at this; omega
  omega
theorem extract_eq (s : ByteArray) (a b : Nat) : (s.extract a b).data.toList = (s.data.toList.drop a).take (b - a) := by
  rw [Lib.extract_data]
theorem occAt_iff (l sep : List UInt8) (i : Nat) (h : i + sep.length ≤ l.length) : Lib.occAt l sep i = decide ((l.drop i).take sep.length = sep) := by
  unfold Lib.occAt
  rw [Bool.eq_iff_iff, List.isPrefixOf_iff_prefix, decide_eq_true_iff, List.prefix_iff_eq_take]
  exact ⟨fun h => h.symm, fun h => h.symm⟩
/-- the invariant of the model's scan -/
def ScanInv (l sep : List UInt8) (acc : List (List UInt8)) (a i : Nat) : Prop :=
  a ≤ i ∧ i ≤ l.length ∧ (∀ j, a ≤ j → j < i → Lib.occAt l sep j = false) ∧ acc.length ≤ a ∧ ∃ f, acc ++ splitF sep f (l.drop a) = splitL l sep ∧ l.length - a < f
theorem scan_start (l sep : List UInt8) (h : sep ≠ []) : ScanInv l sep [] 0 0 :=
  ⟨Nat.le_refl _, Nat.zero_le _, fun j _ h => absurd h (by omega), Nat.zero_le _, l.length + 1, by simp [splitL, h], by omega⟩
theorem scan_skip {l sep : List UInt8} {acc : List (List UInt8)} {a i : Nat} (h : ScanInv l sep acc a i) (hi : i + sep.length ≤ l.length) (h0 : 0 < sep.length) (hno : Lib.occAt l sep i = false) : ScanInv l sep acc a (i + 1) := by
  obtain ⟨h1, h2, h3, h4, h5⟩ := h
  refine ⟨by omega, by omega, fun j hj hj2 => ?_, h4, h5⟩
  rcases Nat.lt_or_ge j i with h | h
  · exact h3 j hj h
  · rw [show j = i by omega]; exact hno
theorem scan_cut {l sep : List UInt8} {acc : List (List UInt8)} {a i : Nat} (h : ScanInv l sep acc a i) (hi : i + sep.length ≤ l.length) (h0 : 0 < sep.length) (ho : Lib.occAt l sep i = true) : ScanInv l sep (acc ++ [(l.drop a).take (i - a)]) (i + sep.length) (i + sep.length) := by
  obtain ⟨h1, h2, h3, h4, f, h5, h6⟩ := h
  refine ⟨Nat.le_refl _, hi, fun j hj hj2 => absurd hj2 (by omega), by simp; omega, ?_⟩
  cases f with
  | zero => omega
  | succ f =>
    rw [splitF_some f (i - a) (index_at h1 h2 h3 ho), List.drop_drop, show a + (i - a + sep.length) = i + sep.length by omega] at h5
    exact ⟨f, by rw [← h5]; simp, by omega⟩
theorem scan_end {l sep : List UInt8} {acc : List (List UInt8)} {a i : Nat} (h : ScanInv l sep acc a i) (hi : l.length < i + sep.length) (h0 : 0 < sep.length) : acc ++ [l.drop a] = splitL l sep := by
  obtain ⟨h1, h2, h3, h4, f, h5, h6⟩ := h
  rw [← h5, splitF_none f (index_end h0 h1 hi h3)]
theorem owns_one (w : World) (B : Nat) (s : ByteArray) (h : B ≤ w.heap.size) : Owns (w.alloc (.cells #[.string s] 9)) B (.slice (some ⟨w.heap.size, 0, none⟩) 1 1) [s.data.toList] :=
  ⟨rfl, .inr ⟨w.heap.size, 1, #[.string s], rfl, h, heap_alloc_new w _, Nat.le_refl _, by decide, rfl, by simp [strV]⟩⟩
def strLen : Value → Nat
  | .string t => t.size
  | _ => 0
def CutInv (l sep t : List UInt8) (acc : List (List UInt8)) : Prop := ∃ f, acc ++ splitF sep f t = splitL l sep ∧ t.length < f
theorem cut_start (l sep : List UInt8) (h : sep ≠ []) : CutInv l sep l [] := ⟨l.length + 1, by simp [splitL, h], by omega⟩
theorem cut_next {l sep t : List UInt8} {acc : List (List UInt8)} (h : CutInv l sep t acc) (i : Nat) (hi : Lib.index t sep = i) (h0 : 0 < sep.length) (hr : i + sep.length ≤ t.length) : CutInv l sep (t.drop (i + sep.length)) (acc ++ [t.take i]) := by
  obtain ⟨f, h1, h2⟩ := h
  cases f with
  | zero => omega
  | succ f =>
    rw [splitF_some f i hi] at h1
    exact ⟨f, by rw [← h1]; simp, by simp; omega⟩
theorem cut_end {l sep t : List UInt8} {acc : List (List UInt8)} (h : CutInv l sep t acc) (hi : Lib.index t sep < 0) : acc ++ [t] = splitL l sep := by
  obtain ⟨f, h1, h2⟩ := h
  rw [← h1, splitF_none f hi]
set_option maxRecDepth 100000 in
set_option maxHeartbeats 800000 in
theorem implSplit_empty (s sep : ByteArray) (w : World) (hs : s.size ≤ 1048576) (h0 : sep.size = 0) :
    Calls Try.prog 28 #[.string s, .string sep] w fun e w' => GivesRow (splitL s.data.toList sep.data.toList) w e w' := by
  have hl : sep.data.toList = [] := List.eq_nil_of_length_eq_zero (by rw [size_list]; exact h0)
  have hE : sep.toList = [] := by rw [Lib.toList_data, hl]
  have HL := Lib.hid (show splitL s.data.toList sep.data.toList = [s.data.toList] by simp [splitL, hl])
  clear h0 hl
  go_enter Try.func28, Try.ntmps28
  go_wp2_with fail
  refine (copyText_any s w (by omega)).mono ?_
  rintro e w1 ⟨rfl, hb⟩
  go_wp2_with fail
  go_ret
  refine ⟨_, rfl, ?_, hb.alloc hb.size _⟩
  rw [HL.out]
  exact owns_one w1 w.heap.size s hb.size
set_option maxRecDepth 100000 in
set_option maxHeartbeats 800000 in
theorem implSplit_some (s sep : ByteArray) (m : Int) (w : World) (hm : w.cell? ⟨0, 0, none⟩ = some (.int .i64 m)) (hs : s.size ≤ 1048576) (h0 : 0 < sep.size) (hsep : sep.size ≤ 1048576) :
    Calls Try.prog 28 #[.string s, .string sep] w fun e w' => GivesRow (splitL s.data.toList sep.data.toList) w e w' := by
  have hne : sep.data.toList ≠ [] := by intro h; rw [← size_list, h] at h0; simp at h0
  have hE : sep.toList.isEmpty = false := by rw [Lib.toList_data]; cases hh : sep.data.toList with | nil => exact absurd hh hne | cons a b => rfl
  have HO := Lib.hid (owns_new w)
  have HS := Lib.hid (cut_start s.data.toList sep.data.toList hne)
  have HL2 := Lib.hid (size_list sep)
  have HM := Lib.hid hm
  have HG := Lib.hid (World.block_lt_of_cell? w _ hm)
  clear hne hm
  go_enter Try.func28, Try.ntmps28
  go_wp2_with fail
  go_loopw [0, 5, 6] (fun sv ov _ wr => ∃ (t : ByteArray) (acc : List (List UInt8)), sv = .string t ∧ CutInv s.data.toList sep.data.toList t.data.toList acc ∧ acc.length + t.size ≤ s.size ∧ Owns wr w.heap.size ov acc ∧ Below w.heap.size w wr) (fun sv _ _ _ => strLen sv)
  case atStart => exact ⟨s, [], rfl, HS.out, by simp, HO.out, (Below.refl _ _).alloc (Nat.le_refl _) _⟩
  case round =>
    obtain ⟨t, acc, rfl, hinv, hsz, hO, hb⟩ := hrel
    have HI := Lib.hid hinv
    have HO2 := Lib.hid hO
    have HB := Lib.hid hb
    have hmr := (hb.cell (p := ⟨0, 0, none⟩) HG.out).trans HM.out
    have HMr := Lib.hid hmr
    clear hinv hO hb hmr
    go_wp2_with fail
    refine (Try.strings_Index t sep m wr (by omega) HMr.out).mono ?_
    rintro e w1 ⟨rfl, rfl⟩
    have HT := Lib.hid (size_list t)
    have hge := Lib.index_ge t.data.toList sep.data.toList
    have hroom := Lib.index_room t.data.toList sep.data.toList
    rw [HL2.out, HT.out] at hroom
    generalize hix : Lib.index t.data.toList sep.data.toList = ix at *
    have HIX := Lib.hid hix
    clear hix
    by_cases hneg : ix < 0
    · have HC := Lib.hid (cut_end HI.out (by rw [HIX.out]; exact hneg))
      clear hroom
      go_wp2_with fail
      refine (copyText_any t _ (by omega)).mono ?_
      rintro e w2 ⟨rfl, hb2⟩
      have HB2 := Lib.hid (HB.out.trans (hb2.mono HB.out.size))
      have HO3 := Lib.hid (owns_below HO2.out hb2 (Nat.le_refl _))
      clear hb2
      go_wp2_with (at_builtin; refine append_strs rfl _ _ rfl w.heap.size _ acc t.data.toList _ w2.heap.size rfl (owns_alloc HO3.out _) rfl (cell_newS _ _ _ _ rfl) (by omega) (by have := HB2.out.size; simp; omega) ?_; intro v' w3 hO1 hg1)
      go_ret
      exact ⟨v', rfl, by have := HC.out; rw [← this]; exact hO1, below_append (HB2.out.alloc HB2.out.size _) (owns_alloc HO3.out _) hg1 (by have := HB2.out.size; simp; omega)⟩
    · obtain ⟨i, rfl⟩ := Int.eq_ofNat_of_zero_le (show 0 ≤ ix by omega)
      have hr : i + sep.size ≤ t.size := by have := hroom (by omega); omega
      have HC := Lib.hid (cut_next HI.out i HIX.out (by rw [HL2.out]; exact h0) (by rw [HL2.out, HT.out]; exact hr))
      clear hroom hneg hge
      go_wp2_with fail
      refine (copyText_any _ _ (by rw [← size_list, Lib.extract_data]; simp; omega)).mono ?_
      rintro e w2 ⟨rfl, hb2⟩
      have HB2 := Lib.hid (HB.out.trans (hb2.mono HB.out.size))
      have HO3 := Lib.hid (owns_below HO2.out hb2 (Nat.le_refl _))
      clear hb2
      go_wp2_with (at_builtin; refine append_strs rfl _ _ rfl w.heap.size _ acc (t.data.toList.take i) _ w2.heap.size rfl (owns_alloc HO3.out _) rfl (by rw [cell_newS _ _ _ _ rfl, Lib.extract_data]; simp) (by omega) (by have := HB2.out.size; simp; omega) ?_; intro v' w3 hO1 hg1)
      refine ⟨⟨t.extract (i + sep.size) t.size, acc ++ [t.data.toList.take i], rfl, ?_, ?_, hO1, below_append (HB2.out.alloc HB2.out.size _) (owns_alloc HO3.out _) hg1 (by have := HB2.out.size; simp; omega)⟩, ?_⟩
      · rw [Lib.extract_to_end]; have := HC.out; rwa [HL2.out] at this
      · rw [← size_list (t.extract _ _), Lib.extract_to_end]; have := HT.out; simp; omega
      · simp only [strLen]; rw [← size_list (t.extract _ _), Lib.extract_to_end]; have := HT.out; simp; omega
theorem implSplit_any (s sep : ByteArray) (m : Int) (w : World) (hm : w.cell? ⟨0, 0, none⟩ = some (.int .i64 m)) (hs : s.size ≤ 1048576) (hsep : sep.size ≤ 1048576) :
    Calls Try.prog 28 #[.string s, .string sep] w fun e w' => GivesRow (splitL s.data.toList sep.data.toList) w e w' := by
  by_cases h0 : sep.size = 0
  · exact implSplit_empty s sep w hs h0
  · exact implSplit_some s sep m w hm hs (by omega) hsep
theorem splitF_len (sep : List UInt8) (h0 : 0 < sep.length) : ∀ (f : Nat) (l : List UInt8), (splitF sep f l).length ≤ l.length + 1 := by
  intro f
  induction f with
  | zero => intro l; simp [splitF]
  | succ f ih =>
    intro l
    by_cases h : Lib.index l sep < 0
    · rw [splitF_none _ h]; simp
    · obtain ⟨i, hi⟩ := Int.eq_ofNat_of_zero_le (show 0 ≤ Lib.index l sep by omega)
      have hr := Lib.index_room l sep (by omega)
      rw [splitF_some f i hi]
      have := ih (l.drop (i + sep.length))
      rw [List.length_drop] at this
      simp only [List.length_cons]; omega
theorem splitL_len (l sep : List UInt8) : (splitL l sep).length ≤ l.length + 1 := by
  unfold splitL
  split
  · simp
  · rename_i h
    exact splitF_len sep (by cases sep with | nil => exact absurd rfl h | cons a b => simp) _ _
end Go.Proofs.Ytmoliamenekemab
