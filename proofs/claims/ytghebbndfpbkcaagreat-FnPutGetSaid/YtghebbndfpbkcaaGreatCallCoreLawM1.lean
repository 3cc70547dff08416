/- A core's methods: Load, Save. -/
import Derived.Test.YtghebbndfpbkcaaGreatCallCoreLawM0
import Derived.Test.YtghebbndfpbkcaaGreatShelf
import Derived.Lib.IndexMore
import Derived.Lib.IndexLaws
import Derived.Lib.SlicesCompact
import Derived.StillTailTactics
import Derived.Sort.Walk0
import Derived.Deep.AppendLies
/- JoinWith, the model's and the program's; the program's writeText and copyText. -/
namespace Go.Proofs.YtghebbndfpbkcaaGreat
set_option linter.unusedVariables false
open Go.RowKit
/-- the first k texts with sep between them -/
def joinK (x : List (List UInt8)) (sep : List UInt8) : Nat → List UInt8
  | 0 => []
  | k + 1 => joinK x sep k ++ (if 0 < k then sep else []) ++ x.getD k []
def joinL (x : List (List UInt8)) (sep : List UInt8) : List UInt8 := joinK x sep x.length
theorem strEq {s : ByteArray} {l : List UInt8} (h : s.data.toList = l) : Value.string s = .string ⟨l.toArray⟩ := by subst h; simp
theorem joinK_mono (x : List (List UInt8)) (sep : List UInt8) (k m : Nat) (h : k ≤ m) : (joinK x sep k).length ≤ (joinK x sep m).length := by
  induction m with
  | zero => rw [show k = 0 from by omega]; exact Nat.le_refl _
  | succ m ih =>
    rcases Nat.lt_or_ge m k with h1 | h1
    · rw [show k = m + 1 from by omega]; exact Nat.le_refl _
    · have := ih h1; simp only [joinK, List.length_append]; omega
theorem joinK_len (x : List (List UInt8)) (sep : List UInt8) (k : Nat) (h : k ≤ x.length) : (joinK x sep k).length ≤ k * sep.length + total (x.take k) := by
  induction k with
  | zero => simp [joinK]
  | succ k ih =>
    have h1 := ih (by omega)
    have h2 := total_take_succ x k (by omega)
    have h3 : x.getD k [] = x[k] := by simp [List.getD, List.getElem?_eq_getElem (show k < x.length by omega)]
    simp only [joinK, List.length_append, h3, h2, Nat.succ_mul]
    split <;> simp <;> omega
set_option maxHeartbeats 400000 in
theorem writeText_any (B b : Nat) (bs : List UInt8) (s : ByteArray) (w : World) (hI : Lib.IsBuilderF 105 5 B b (Lib.byteCells bs) w) (hl : bs.length + s.size ≤ 140737488355328) (hB : B ≤ w.heap.size) :
    Calls Tryz.prog 75 #[.pointer (some ⟨b, 0, none⟩), .string s] w fun e w' => e = .returned (.tuple #[]) ∧ Lib.IsBuilderF 105 5 B b (Lib.byteCells (bs ++ s.data.toList)) w' ∧ Below B w w' ∧ Lib.OthersKept 5 (some b) w w' := by
  have HI := Lib.hid hI
  have HB := Lib.hid hB
  clear hI hB
  go_enter Tryz.func75, Tryz.ntmps75
  go_wp2_with fail
  go_loopw [4, 7] (fun _ i wr => ∃ k : Nat, k ≤ s.size ∧ i = .int .i64 k ∧ Lib.IsBuilderF 105 5 B b (Lib.byteCells (bs ++ s.data.toList.take k)) wr ∧ Below B w wr ∧ Lib.OthersKept 5 (some b) w wr) (fun _ i _ => s.size - (intOf i).toNat)
  case atStart => exact ⟨0, Nat.zero_le _, rfl, by simpa using HI.out, Below.refl _ _, Lib.OthersKept.refl _ _ _⟩
  case round =>
    obtain ⟨k, hk, rfl, hI, hb, ho⟩ := hrel
    have HI2 := Lib.hid hI
    have HB2 := Lib.hid hb
    have HO2 := Lib.hid ho
    clear hI hb ho
    by_cases hlt : k < s.size
    · have hu := (s[k]).toNat_lt
      have HN := Lib.hid (take_snoc s k hlt)
      go_wp2_with fail
      refine (writeByte_k B b (Lib.byteCells (bs ++ s.data.toList.take k)) _ wr HI2.out (by rw [Lib.byteCells_length]; simp; omega) (Nat.le_trans HB.out HB2.out.size)).mono ?_
      rintro e w1 ⟨rfl, h1, b1, o1⟩
      have H1 := Lib.hid (bytes_more (by omega) (by omega) h1)
      have B1 := Lib.hid (HB2.out.trans b1)
      have O1 := Lib.hid (HO2.out.trans o1)
      clear h1 b1 o1
      go_wp2_with fail
      refine ⟨⟨k + 1, by omega, by go_num, Or.inr ?_, B1.out, O1.out⟩, by simp [intOf]; omega⟩
      have h := H1.out
      rw [HN.out, ← List.append_assoc]
      simpa using h
    · have HN := Lib.hid (show s.data.toList.take k = s.data.toList from List.take_of_length_le (by rw [size_list]; omega))
      go_wp2_with fail
      go_end0
      exact ⟨rfl, by have h := HI2.out; rw [HN.out] at h; exact h, HB2.out, HO2.out⟩
set_option maxHeartbeats 400000 in
theorem copyText_any (s : ByteArray) (w : World) (hl : s.size ≤ 140737488355328) :
    Calls Tryz.prog 68 #[.string s] w fun e w' => e = .returned (.string s) ∧ Below w.heap.size w w' := by
  have hf := Lib.fresh_isBuilder 105 5 w
  have HW := Lib.hid (writeText_any w.heap.size w.heap.size [] s (w.alloc (.cells #[.pointer none, .slice none 0 0] 105)) (Lib.IsBuilderF.of hf) (by simpa using hl) (by simp))
  clear hf
  go_enter Tryz.func68, Tryz.ntmps68
  go_wp2_with fail
  refine HW.out.mono ?_
  rintro e w1 ⟨rfl, h1, b1, o1⟩
  have HS := Lib.hid (string_k w.heap.size w.heap.size ([] ++ s.data.toList) w1 h1 (by have := b1.size; simp at this; omega))
  have B1 := Lib.hid (((Below.refl w.heap.size w).alloc (Nat.le_refl _) _).trans b1)
  clear h1 b1 o1
  go_wp2_with fail
  refine HS.out.mono ?_
  rintro e w2 ⟨rfl, h2, b2, o2⟩
  go_wp2_with fail
  go_ret
  exact ⟨by simp, B1.out.trans b2⟩
set_option maxHeartbeats 400000 in
theorem specJoin_any (v : Value) (x : List (List UInt8)) (sep : ByteArray) (w : World) (hR : RowAt w v (x.map strV)) (hm : (joinL x sep.data.toList).length ≤ 70368744177664) (hsep : sep.size ≤ 70368744177664) :
    Calls Tryz.prog 113 #[v, .string sep] w fun e w' => e = .returned (.string ⟨(joinL x sep.data.toList).toArray⟩) ∧ Below w.heap.size w w' := by
  obtain ⟨a, c, rfl, hl⟩ := rowAt_len hR
  rw [List.length_map] at *
  have HR := Lib.hid hR
  have HM := Lib.hid (fun k hk => Nat.le_trans (joinK_mono x sep.data.toList k x.length hk) hm)
  clear hR hm
  unfold maxLen at hl
  go_enter Tryz.func113, Tryz.ntmps113
  go_wp2_with fail
  go_loopw [5, 6, 7, 10] (fun sv _ _ i wr => ∃ k : Nat, k ≤ x.length ∧ i = .int .i64 k ∧ sv = .string ⟨(joinK x sep.data.toList k).toArray⟩ ∧ ∃ nq, wr = w.drewN nq) (fun _ _ _ i _ => x.length - (intOf i).toNat)
  case atStart => exact ⟨0, Nat.zero_le _, rfl, rfl, 0, rfl⟩
  case round =>
    obtain ⟨k, hk, rfl, rfl, nq, rfl⟩ := hrel
    have hmk := HM.out k hk
    by_cases hlt : k < x.length
    · obtain ⟨b, o, rfl, hbw, d1⟩ := rowAt_cell HR.out k (by simpa using hlt)
      rw [getElem_map_strV] at d1
      unfold strV at d1
      have hmk1 := HM.out (k + 1) (by omega)
      have HX := Lib.hid (show x.getD k [] = x[k] by simp [List.getD, List.getElem?_eq_getElem hlt])
      have hxl : (joinK x sep.data.toList k).length + (x[k]).length ≤ 70368744177664 := by
        simp only [joinK, List.length_append, HX.out] at hmk1; omega
      clear hmk1
      by_cases h0 : 0 < k
      · go_wp2_with fail
        exact ⟨⟨k + 1, by omega, by go_num, strEq (by rw [data_app, data_app]; simp only [joinK, if_pos h0, HX.out]), _, rfl⟩, by simp [intOf]; omega⟩
      · go_wp2_with fail
        exact ⟨⟨k + 1, by omega, by go_num, strEq (by rw [data_app]; simp only [joinK, if_neg h0, HX.out, List.append_nil]), _, rfl⟩, by simp [intOf]; omega⟩
    · have HN := Lib.hid (show k = x.length by omega)
      go_wp2_with fail
      go_ret
      exact ⟨ret_str (by rw [HN.out]; rfl), below_drewN (Below.refl _ _) _⟩
set_option maxHeartbeats 800000 in
theorem implJoin_any (v : Value) (x : List (List UInt8)) (sep : ByteArray) (w : World) (hR : RowAt w v (x.map strV)) (hm : (joinL x sep.data.toList).length ≤ 70368744177664) (hsep : sep.size ≤ 70368744177664) :
    Calls Tryz.prog 47 #[v, .string sep] w fun e w' => e = .returned (.string ⟨(joinL x sep.data.toList).toArray⟩) ∧ Below w.heap.size w w' := by
  obtain ⟨a, c, rfl, hl⟩ := rowAt_len hR
  rw [List.length_map] at *
  have HR := Lib.hid hR
  have HM := Lib.hid (fun k hk => Nat.le_trans (joinK_mono x sep.data.toList k x.length hk) hm)
  have HF := Lib.hid (Lib.fresh_isBuilder 105 5 w)
  clear hR hm
  unfold maxLen at hl
  go_enter Tryz.func47, Tryz.ntmps47
  go_wp2_with fail
  go_loopw [6, 7, 10] (fun _ _ i wr => ∃ k : Nat, k ≤ x.length ∧ i = .int .i64 k ∧ Lib.IsBuilderF 105 5 w.heap.size w.heap.size (Lib.byteCells (joinK x sep.data.toList k)) wr ∧ Below w.heap.size w wr) (fun _ _ i _ => x.length - (intOf i).toNat)
  case atStart => exact ⟨0, Nat.zero_le _, rfl, Lib.IsBuilderF.of HF.out, (Below.refl _ _).alloc (Nat.le_refl _) _⟩
  case round =>
    obtain ⟨k, hk, rfl, hI, hb⟩ := hrel
    have HI := Lib.hid hI
    have HB := Lib.hid hb
    have HRr := Lib.hid (RowAt.below HR.out hb (Nat.le_refl _))
    clear hI hb
    have hmk := HM.out k hk
    by_cases hlt : k < x.length
    · obtain ⟨b, o, rfl, hbw, d1⟩ := rowAt_cell HRr.out k (by simpa using hlt)
      rw [getElem_map_strV] at d1
      unfold strV at d1
      have hmk1 := HM.out (k + 1) (by omega)
      have HX := Lib.hid (show x.getD k [] = x[k] by simp [List.getD, List.getElem?_eq_getElem hlt])
      have hss := size_list sep
      have hxl : (joinK x sep.data.toList k).length + (x[k]).length + (if 0 < k then sep.size else 0) ≤ 70368744177664 := by
        simp only [joinK, List.length_append, HX.out] at hmk1; split <;> rename_i h <;> simp [h] at hmk1 <;> omega
      have HSS := Lib.hid hss
      clear hmk1 hss
      by_cases h0 : 0 < k
      · simp only [if_pos h0] at hxl
        go_wp2_with fail
        refine (writeText_any w.heap.size w.heap.size _ sep wr HI.out (by omega) HB.out.size).mono ?_
        rintro e w1 ⟨rfl, hI1, hb1, ho1⟩
        have HI1 := Lib.hid hI1
        have HB1 := Lib.hid (HB.out.trans hb1)
        clear hI1 hb1 ho1
        go_wp2_with fail
        refine (writeText_any w.heap.size w.heap.size _ ⟨(x[k]).toArray⟩ w1 HI1.out (by have := HSS.out; simp [size_strB]; omega) HB1.out.size).mono ?_
        rintro e w2 ⟨rfl, hI2, hb2, ho2⟩
        have HI2 := Lib.hid hI2
        have HB2 := Lib.hid (HB1.out.trans hb2)
        clear hI2 hb2 ho2
        go_wp2_with fail
        refine ⟨⟨k + 1, by omega, by go_num, ?_, HB2.out⟩, by simp [intOf]; omega⟩
        have h := HI2.out
        simp only [joinK, if_pos h0, HX.out]
        exact h
      · simp only [if_neg h0] at hxl
        go_wp2_with fail
        refine (writeText_any w.heap.size w.heap.size _ ⟨(x[k]).toArray⟩ wr HI.out (by simp [size_strB]; omega) HB.out.size).mono ?_
        rintro e w2 ⟨rfl, hI2, hb2, ho2⟩
        have HI2 := Lib.hid hI2
        have HB2 := Lib.hid (HB.out.trans hb2)
        clear hI2 hb2 ho2
        go_wp2_with fail
        refine ⟨⟨k + 1, by omega, by go_num, ?_, HB2.out⟩, by simp [intOf]; omega⟩
        have h := HI2.out
        simp only [joinK, if_neg h0, HX.out, List.append_nil]
        exact h
    · have HN := Lib.hid (show k = x.length by omega)
      go_wp2_with fail
      refine (string_k w.heap.size w.heap.size _ wr HI.out HB.out.size).mono ?_
      rintro e w2 ⟨rfl, h2, b2, o2⟩
      have HB2 := Lib.hid (HB.out.trans b2)
      clear h2 b2 o2
      go_wp2_with fail
      go_ret
      exact ⟨ret_str (by rw [HN.out]; rfl), HB2.out⟩
end Go.Proofs.YtghebbndfpbkcaaGreat
/- SplitAt, the model's and the program's. -/
namespace Go.Proofs.YtghebbndfpbkcaaGreat
set_option linter.unusedVariables false
open Go.RowKit
/-- the parts of l between the occurrences of sep (sep is not empty), by at most so many cuts -/
def splitF (sep : List UInt8) : Nat → List UInt8 → List (List UInt8)
  | 0, l => [l]
  | f + 1, l => if Lib.index l sep < 0 then [l] else l.take (Lib.index l sep).toNat :: splitF sep f (l.drop ((Lib.index l sep).toNat + sep.length))
def splitL (l sep : List UInt8) : List (List UInt8) := if sep = [] then [l] else splitF sep (l.length + 1) l
theorem splitF_none {sep l : List UInt8} (f : Nat) (h : Lib.index l sep < 0) : splitF sep f l = [l] := by
  cases f with
  | zero => rfl
  | succ f => simp [splitF, h]
theorem splitF_some {sep l : List UInt8} (f i : Nat) (h : Lib.index l sep = i) : splitF sep (f + 1) l = l.take i :: splitF sep f (l.drop (i + sep.length)) := by
  have : ¬ (i : Int) < 0 := by omega
  simp [splitF, h, this]
/-- a cut at place i of the text, the first one from place a on -/
theorem index_at {l sep : List UInt8} {a i : Nat} (hai : a ≤ i) (hi : i ≤ l.length) (hno : ∀ j, a ≤ j → j < i → Lib.occAt l sep j = false) (ho : Lib.occAt l sep i = true) : Lib.index (l.drop a) sep = ((i - a : Nat) : Int) := by
  refine Lib.index_first (by simp; omega) ?_ ?_
  · unfold Lib.occAt at *; rw [List.drop_drop, show a + (i - a) = i from by omega]; exact ho
  · intro j hj
    have := hno (a + j) (by omega) (by omega)
    unfold Lib.occAt at *; rw [List.drop_drop]; exact this
theorem index_end {l sep : List UInt8} {a i : Nat} (hs0 : 0 < sep.length) (hai : a ≤ i) (hil : l.length < i + sep.length) (hno : ∀ j, a ≤ j → j < i → Lib.occAt l sep j = false) : Lib.index (l.drop a) sep < 0 := by
  have : Lib.index (l.drop a) sep = -1 := by
    refine Lib.index_none fun j hj => ?_
    unfold Lib.occAt; rw [List.drop_drop]
    rcases Nat.lt_or_ge (a + j) i with h | h
    · exact hno (a + j) (by omega) h
    · cases hp : sep.isPrefixOf (l.drop (a + j)) with
      | false => rfl
      | true =>
        have := (List.isPrefixOf_iff_prefix.1 hp).length_le
        rw [List.length_drop] at this; omega
  omega
theorem extract_eq (s : ByteArray) (a b : Nat) : (s.extract a b).data.toList = (s.data.toList.drop a).take (b - a) := by
  rw [Lib.extract_data]
theorem occAt_iff (l sep : List UInt8) (i : Nat) (h : i + sep.length ≤ l.length) : Lib.occAt l sep i = decide ((l.drop i).take sep.length = sep) := by
  unfold Lib.occAt
  rw [Bool.eq_iff_iff, List.isPrefixOf_iff_prefix, decide_eq_true_iff, List.prefix_iff_eq_take]
  exact ⟨fun h => h.symm, fun h => h.symm⟩
set_option maxRecDepth 100000 in
set_option maxHeartbeats 800000 in
theorem specSplit_empty (s sep : ByteArray) (w : World) (hs : s.size ≤ 1048576) (h0 : sep.size = 0) :
    Calls Tryz.prog 114 #[.string s, .string sep] w fun e w' => GivesRow (splitL s.data.toList sep.data.toList) w e w' := by
  have hl : sep.data.toList = [] := List.eq_nil_of_length_eq_zero (by rw [size_list]; exact h0)
  have hE : sep.toList.isEmpty = true := by rw [Lib.toList_data, hl]; rfl
  have HL := Lib.hid (show splitL s.data.toList sep.data.toList = [s.data.toList] by simp [splitL, hl])
  have HO := Lib.hid (owns_new w)
  clear h0 hl
  go_enter Tryz.func114, Tryz.ntmps114
  go_wp2_with fail
  refine wp_loop_rounds 1 ?_
  rw [rounds_succ]
  go_wp2_with (at_builtin; refine append_strs rfl _ _ rfl w.heap.size _ [] s.data.toList _ (w.heap.size + 1) rfl (owns_alloc HO.out _) rfl (cell_newS _ _ _ _ (by simp)) (by simp) (by simp; omega) ?_; intro v' w1 hO1 hg1)
  go_ret
  exact ⟨v', rfl, by rw [HL.out]; exact hO1, below_append (((Below.refl w.heap.size w).alloc (Nat.le_refl _) _).alloc (by simp) _) (owns_alloc HO.out _) hg1 (by simp; omega)⟩
/-- the invariant of the model's scan -/
def ScanInv (l sep : List UInt8) (acc : List (List UInt8)) (a i : Nat) : Prop :=
  a ≤ i ∧ i ≤ l.length ∧ (∀ j, a ≤ j → j < i → Lib.occAt l sep j = false) ∧ acc.length ≤ a ∧ ∃ f, acc ++ splitF sep f (l.drop a) = splitL l sep ∧ l.length - a < f
theorem scan_start (l sep : List UInt8) (h : sep ≠ []) : ScanInv l sep [] 0 0 :=
  ⟨Nat.le_refl _, Nat.zero_le _, fun j _ h => absurd h (by omega), Nat.zero_le _, l.length + 1, by simp [splitL, h], by omega⟩
theorem scan_skip {l sep : List UInt8} {acc : List (List UInt8)} {a i : Nat} (h : ScanInv l sep acc a i) (hi : i + sep.length ≤ l.length) (h0 : 0 < sep.length) (hno : Lib.occAt l sep i = false) : ScanInv l sep acc a (i + 1) := by
  obtain ⟨h1, h2, h3, h4, h5⟩ := h
  refine ⟨by omega, by omega, fun j hj hj2 => ?_, h4, h5⟩
  rcases Nat.lt_or_ge j i with h | h
  · exact h3 j hj h
  · rw [show j = i by omega]; exact hno
theorem scan_cut {l sep : List UInt8} {acc : List (List UInt8)} {a i : Nat} (h : ScanInv l sep acc a i) (hi : i + sep.length ≤ l.length) (h0 : 0 < sep.length) (ho : Lib.occAt l sep i = true) : ScanInv l sep (acc ++ [(l.drop a).take (i - a)]) (i + sep.length) (i + sep.length) := by
  obtain ⟨h1, h2, h3, h4, f, h5, h6⟩ := h
  refine ⟨Nat.le_refl _, hi, fun j hj hj2 => absurd hj2 (by omega), by simp; omega, ?_⟩
  cases f with
  | zero => omega
  | succ f =>
    rw [splitF_some f (i - a) (index_at h1 h2 h3 ho), List.drop_drop, show a + (i - a + sep.length) = i + sep.length by omega] at h5
    exact ⟨f, by rw [← h5]; simp, by omega⟩
theorem scan_end {l sep : List UInt8} {acc : List (List UInt8)} {a i : Nat} (h : ScanInv l sep acc a i) (hi : l.length < i + sep.length) (h0 : 0 < sep.length) : acc ++ [l.drop a] = splitL l sep := by
  obtain ⟨h1, h2, h3, h4, f, h5, h6⟩ := h
  rw [← h5, splitF_none f (index_end h0 h1 hi h3)]
set_option maxRecDepth 100000 in
set_option maxHeartbeats 800000 in
theorem specSplit_some (s sep : ByteArray) (w : World) (hs : s.size ≤ 1048576) (h0 : 0 < sep.size) (hsep : sep.size ≤ 1048576) :
    Calls Tryz.prog 114 #[.string s, .string sep] w fun e w' => GivesRow (splitL s.data.toList sep.data.toList) w e w' := by
  have hne : sep.data.toList ≠ [] := by intro h; rw [← size_list, h] at h0; simp at h0
  have hE : sep.toList.isEmpty = false := by rw [Lib.toList_data]; cases hh : sep.data.toList with | nil => exact absurd hh hne | cons a b => rfl
  have HO := Lib.hid (owns_new w)
  have HS := Lib.hid (scan_start s.data.toList sep.data.toList hne)
  have HL1 := Lib.hid (size_list s)
  have HL2 := Lib.hid (size_list sep)
  clear hne
  go_enter Tryz.func114, Tryz.ntmps114
  go_wp2_with fail
  go_loopw [5, 6, 7] (fun ov fv iv wr => ∃ (a i : Nat) (acc : List (List UInt8)), fv = .int .i64 a ∧ iv = .int .i64 i ∧ ScanInv s.data.toList sep.data.toList acc a i ∧ Owns wr w.heap.size ov acc ∧ Below w.heap.size w wr) (fun _ _ iv _ => s.size + 1 - (intOf iv).toNat)
  case atStart => exact ⟨0, 0, [], rfl, rfl, HS.out, HO.out, (Below.refl _ _).alloc (Nat.le_refl _) _⟩
  case round =>
    obtain ⟨a, i, acc, rfl, rfl, hinv, hO, hb⟩ := hrel
    have ⟨i1, i2, _, i4, _⟩ := hinv
    rw [HL1.out] at i2
    have HI := Lib.hid hinv
    have HO2 := Lib.hid hO
    have HB := Lib.hid hb
    clear hinv hO hb
    by_cases hin : i + sep.size ≤ s.size
    · have HE := Lib.hid (extract_eq s i (i + sep.size))
      by_cases ho : Lib.occAt s.data.toList sep.data.toList i = true
      · have heq : ((s.extract i (i + sep.size)).toList == sep.toList) = true := by
          rw [Lib.toList_data, Lib.toList_data, beq_iff_eq, HE.out]
          rw [occAt_iff _ _ _ (by rw [HL1.out, HL2.out]; exact hin), decide_eq_true_iff, HL2.out] at ho
          rw [show i + sep.size - i = sep.size by omega]; exact ho
        have HC := Lib.hid (scan_cut HI.out (by rw [HL1.out, HL2.out]; exact hin) (by rw [HL2.out]; exact h0) ho)
        clear ho
        go_wp2_with (at_builtin; refine append_strs rfl _ _ rfl w.heap.size _ acc ((s.data.toList.drop a).take (i - a)) _ wr.heap.size rfl (owns_alloc HO2.out _) rfl (by rw [cell_newS _ _ _ _ rfl, extract_eq]) (by omega) (by have := HB.out.size; simp; omega) ?_; intro v' w1 hO1 hg1)
        exact ⟨⟨i + sep.size, i + sep.size, acc ++ [(s.data.toList.drop a).take (i - a)], by go_num, by go_num, by have := HC.out; rwa [HL2.out] at this, hO1, below_append (HB.out.alloc HB.out.size _) (owns_alloc HO2.out _) hg1 (by have := HB.out.size; simp; omega)⟩, by simp [intOf]; omega⟩
      · have heq : ((s.extract i (i + sep.size)).toList == sep.toList) = false := by
          rw [Lib.toList_data, Lib.toList_data, beq_eq_false_iff_ne, HE.out]
          rw [occAt_iff _ _ _ (by rw [HL1.out, HL2.out]; exact hin), decide_eq_true_iff, HL2.out] at ho
          rw [show i + sep.size - i = sep.size by omega]; exact ho
        have HC := Lib.hid (scan_skip HI.out (by rw [HL1.out, HL2.out]; exact hin) (by rw [HL2.out]; exact h0) (by simpa using ho))
        clear ho
        go_wp2_with fail
        exact ⟨⟨a, i + 1, acc, rfl, by go_num, HC.out, HO2.out, HB.out⟩, by simp [intOf]; omega⟩
    · have HC := Lib.hid (scan_end HI.out (by rw [HL1.out, HL2.out]; omega) (by rw [HL2.out]; exact h0))
      go_wp2_with (at_builtin; refine append_strs rfl _ _ rfl w.heap.size _ acc (s.data.toList.drop a) _ wr.heap.size rfl (owns_alloc HO2.out _) rfl (by rw [cell_newS _ _ _ _ rfl, Lib.extract_to_end]) (by omega) (by have := HB.out.size; simp; omega) ?_; intro v' w1 hO1 hg1)
      go_ret
      exact ⟨v', rfl, by have := HC.out; rw [← this]; exact hO1, below_append (HB.out.alloc HB.out.size _) (owns_alloc HO2.out _) hg1 (by have := HB.out.size; simp; omega)⟩
theorem specSplit_any (s sep : ByteArray) (w : World) (hs : s.size ≤ 1048576) (hsep : sep.size ≤ 1048576) :
    Calls Tryz.prog 114 #[.string s, .string sep] w fun e w' => GivesRow (splitL s.data.toList sep.data.toList) w e w' := by
  by_cases h0 : sep.size = 0
  · exact specSplit_empty s sep w hs h0
  · exact specSplit_some s sep w hs (by omega) hsep
theorem owns_one (w : World) (B : Nat) (s : ByteArray) (h : B ≤ w.heap.size) : Owns (w.alloc (.cells #[.string s] 9)) B (.slice (some ⟨w.heap.size, 0, none⟩) 1 1) [s.data.toList] :=
  ⟨rfl, .inr ⟨w.heap.size, 1, #[.string s], rfl, h, heap_alloc_new w _, Nat.le_refl _, by decide, rfl, by simp [strV]⟩⟩
def strLen : Value → Nat
  | .string t => t.size
  | _ => 0
def CutInv (l sep t : List UInt8) (acc : List (List UInt8)) : Prop := ∃ f, acc ++ splitF sep f t = splitL l sep ∧ t.length < f
theorem cut_start (l sep : List UInt8) (h : sep ≠ []) : CutInv l sep l [] := ⟨l.length + 1, by simp [splitL, h], by omega⟩
theorem cut_next {l sep t : List UInt8} {acc : List (List UInt8)} (h : CutInv l sep t acc) (i : Nat) (hi : Lib.index t sep = i) (h0 : 0 < sep.length) (hr : i + sep.length ≤ t.length) : CutInv l sep (t.drop (i + sep.length)) (acc ++ [t.take i]) := by
  obtain ⟨f, h1, h2⟩ := h
  cases f with
  | zero => omega
  | succ f =>
    rw [splitF_some f i hi] at h1
    exact ⟨f, by rw [← h1]; simp, by simp; omega⟩
theorem cut_end {l sep t : List UInt8} {acc : List (List UInt8)} (h : CutInv l sep t acc) (hi : Lib.index t sep < 0) : acc ++ [t] = splitL l sep := by
  obtain ⟨f, h1, h2⟩ := h
  rw [← h1, splitF_none f hi]
set_option maxRecDepth 100000 in
set_option maxHeartbeats 800000 in
theorem implSplit_empty (s sep : ByteArray) (w : World) (hs : s.size ≤ 1048576) (h0 : sep.size = 0) :
    Calls Tryz.prog 158 #[.string s, .string sep] w fun e w' => GivesRow (splitL s.data.toList sep.data.toList) w e w' := by
  have hl : sep.data.toList = [] := List.eq_nil_of_length_eq_zero (by rw [size_list]; exact h0)
  have hE : sep.toList = [] := by rw [Lib.toList_data, hl]
  have HL := Lib.hid (show splitL s.data.toList sep.data.toList = [s.data.toList] by simp [splitL, hl])
  clear h0 hl
  go_enter Tryz.func158, Tryz.ntmps158
  go_wp2_with fail
  refine (copyText_any s w (by omega)).mono ?_
  rintro e w1 ⟨rfl, hb⟩
  go_wp2_with fail
  go_ret
  refine ⟨_, rfl, ?_, hb.alloc hb.size _⟩
  rw [HL.out]
  exact owns_one w1 w.heap.size s hb.size
set_option maxRecDepth 100000 in
set_option maxHeartbeats 800000 in
theorem implSplit_some (s sep : ByteArray) (m : Int) (w : World) (hm : w.cell? ⟨0, 0, none⟩ = some (.int .i64 m)) (hs : s.size ≤ 1048576) (h0 : 0 < sep.size) (hsep : sep.size ≤ 1048576) :
    Calls Tryz.prog 158 #[.string s, .string sep] w fun e w' => GivesRow (splitL s.data.toList sep.data.toList) w e w' := by
  have hne : sep.data.toList ≠ [] := by intro h; rw [← size_list, h] at h0; simp at h0
  have hE : sep.toList.isEmpty = false := by rw [Lib.toList_data]; cases hh : sep.data.toList with | nil => exact absurd hh hne | cons a b => rfl
  have HO := Lib.hid (owns_new w)
  have HS := Lib.hid (cut_start s.data.toList sep.data.toList hne)
  have HL2 := Lib.hid (size_list sep)
  have HM := Lib.hid hm
  have HG := Lib.hid (World.block_lt_of_cell? w _ hm)
  clear hne hm
  go_enter Tryz.func158, Tryz.ntmps158
  go_wp2_with fail
  go_loopw [0, 5, 6] (fun sv ov _ wr => ∃ (t : ByteArray) (acc : List (List UInt8)), sv = .string t ∧ CutInv s.data.toList sep.data.toList t.data.toList acc ∧ acc.length + t.size ≤ s.size ∧ Owns wr w.heap.size ov acc ∧ Below w.heap.size w wr) (fun sv _ _ _ => strLen sv)
  case atStart => exact ⟨s, [], rfl, HS.out, by simp, HO.out, (Below.refl _ _).alloc (Nat.le_refl _) _⟩
  case round =>
    obtain ⟨t, acc, rfl, hinv, hsz, hO, hb⟩ := hrel
    have HI := Lib.hid hinv
    have HO2 := Lib.hid hO
    have HB := Lib.hid hb
    have hmr := (hb.cell (p := ⟨0, 0, none⟩) HG.out).trans HM.out
    have HMr := Lib.hid hmr
    clear hinv hO hb hmr
    go_wp2_with fail
    refine (Tryz.strings_Index t sep m wr (by omega) HMr.out).mono ?_
    rintro e w1 ⟨rfl, rfl⟩
    have HT := Lib.hid (size_list t)
    have hge := Lib.index_ge t.data.toList sep.data.toList
    have hroom := Lib.index_room t.data.toList sep.data.toList
    rw [HL2.out, HT.out] at hroom
    generalize hix : Lib.index t.data.toList sep.data.toList = ix at *
    have HIX := Lib.hid hix
    clear hix
    by_cases hneg : ix < 0
    · have HC := Lib.hid (cut_end HI.out (by rw [HIX.out]; exact hneg))
      clear hroom
      go_wp2_with fail
      refine (copyText_any t _ (by omega)).mono ?_
      rintro e w2 ⟨rfl, hb2⟩
      have HB2 := Lib.hid (HB.out.trans (hb2.mono HB.out.size))
      have HO3 := Lib.hid (owns_below HO2.out hb2 (Nat.le_refl _))
      clear hb2
      go_wp2_with (at_builtin; refine append_strs rfl _ _ rfl w.heap.size _ acc t.data.toList _ w2.heap.size rfl (owns_alloc HO3.out _) rfl (cell_newS _ _ _ _ rfl) (by omega) (by have := HB2.out.size; simp; omega) ?_; intro v' w3 hO1 hg1)
      go_ret
      exact ⟨v', rfl, by have := HC.out; rw [← this]; exact hO1, below_append (HB2.out.alloc HB2.out.size _) (owns_alloc HO3.out _) hg1 (by have := HB2.out.size; simp; omega)⟩
    · obtain ⟨i, rfl⟩ := Int.eq_ofNat_of_zero_le (show 0 ≤ ix by omega)
      have hr : i + sep.size ≤ t.size := by have := hroom (by omega); omega
      have HC := Lib.hid (cut_next HI.out i HIX.out (by rw [HL2.out]; exact h0) (by rw [HL2.out, HT.out]; exact hr))
      clear hroom hneg hge
      go_wp2_with fail
      refine (copyText_any _ _ (by rw [← size_list, Lib.extract_data]; simp; omega)).mono ?_
      rintro e w2 ⟨rfl, hb2⟩
      have HB2 := Lib.hid (HB.out.trans (hb2.mono HB.out.size))
      have HO3 := Lib.hid (owns_below HO2.out hb2 (Nat.le_refl _))
      clear hb2
      go_wp2_with (at_builtin; refine append_strs rfl _ _ rfl w.heap.size _ acc (t.data.toList.take i) _ w2.heap.size rfl (owns_alloc HO3.out _) rfl (by rw [cell_newS _ _ _ _ rfl, Lib.extract_data]; simp) (by omega) (by have := HB2.out.size; simp; omega) ?_; intro v' w3 hO1 hg1)
      refine ⟨⟨t.extract (i + sep.size) t.size, acc ++ [t.data.toList.take i], rfl, ?_, ?_, hO1, below_append (HB2.out.alloc HB2.out.size _) (owns_alloc HO3.out _) hg1 (by have := HB2.out.size; simp; omega)⟩, ?_⟩
      · rw [Lib.extract_to_end]; have := HC.out; rwa [HL2.out] at this
      · rw [← size_list (t.extract _ _), Lib.extract_to_end]; have := HT.out; simp; omega
      · simp only [strLen]; rw [← size_list (t.extract _ _), Lib.extract_to_end]; have := HT.out; simp; omega
theorem implSplit_any (s sep : ByteArray) (m : Int) (w : World) (hm : w.cell? ⟨0, 0, none⟩ = some (.int .i64 m)) (hs : s.size ≤ 1048576) (hsep : sep.size ≤ 1048576) :
    Calls Tryz.prog 158 #[.string s, .string sep] w fun e w' => GivesRow (splitL s.data.toList sep.data.toList) w e w' := by
  by_cases h0 : sep.size = 0
  · exact implSplit_empty s sep w hs h0
  · exact implSplit_some s sep m w hm hs (by omega) hsep
theorem splitF_len (sep : List UInt8) (h0 : 0 < sep.length) : ∀ (f : Nat) (l : List UInt8), (splitF sep f l).length ≤ l.length + 1 := by
  intro f
  induction f with
  | zero => intro l; simp [splitF]
  | succ f ih =>
    intro l
    by_cases h : Lib.index l sep < 0
    · rw [splitF_none _ h]; simp
    · obtain ⟨i, hi⟩ := Int.eq_ofNat_of_zero_le (show 0 ≤ Lib.index l sep by omega)
      have hr := Lib.index_room l sep (by omega)
      rw [splitF_some f i hi]
      have := ih (l.drop (i + sep.length))
      rw [List.length_drop] at this
      simp only [List.length_cons]; omega
theorem splitL_len (l sep : List UInt8) : (splitL l sep).length ≤ l.length + 1 := by
  unfold splitL
  split
  · simp
  · rename_i h
    exact splitF_len sep (by cases sep with | nil => exact absurd rfl h | cons a b => simp) _ _
end Go.Proofs.YtghebbndfpbkcaaGreat
/- Dividing and joining, plain: what is divided is joined again, and what is joined by a byte that no text has is divided again. -/
namespace Go.Proofs.YtghebbndfpbkcaaGreat
set_option linter.unusedVariables false
open Go.RowKit
theorem joinK_take (x : List (List UInt8)) (y : List (List UInt8)) (sep : List UInt8) : ∀ k, k ≤ x.length → joinK (x ++ y) sep k = joinK x sep k := by
  intro k
  induction k with
  | zero => intro _; rfl
  | succ k ih =>
    intro hk
    have e : (x ++ y).getD k [] = x.getD k [] := by simp [List.getD, List.getElem?_append_left (show k < x.length by omega)]
    simp only [joinK, ih (by omega), e]
theorem joinL_cons (a : List UInt8) (x : List (List UInt8)) (sep : List UInt8) (hx : x ≠ []) : joinL (a :: x) sep = a ++ sep ++ joinL x sep := by
  have key : ∀ k, k < x.length → joinK (a :: x) sep (k + 2) = a ++ sep ++ joinK x sep (k + 1) := by
    intro k
    induction k with
    | zero => intro _; simp [joinK]
    | succ k ih =>
      intro hk
      have h := ih (by omega)
      have e1 : joinK (a :: x) sep (k + 1 + 2) = joinK (a :: x) sep (k + 2) ++ sep ++ x.getD (k + 1) [] := by simp [joinK]
      have e2 : joinK x sep (k + 1 + 1) = joinK x sep (k + 1) ++ sep ++ x.getD (k + 1) [] := by simp [joinK]
      rw [e1, h, e2]; simp
  cases x with
  | nil => exact absurd rfl hx
  | cons b r =>
    have := key r.length (by simp)
    unfold joinL
    simpa using this
theorem joinL_one (a sep : List UInt8) : joinL [a] sep = a := by simp [joinL, joinK]
theorem splitF_ne (sep : List UInt8) (f : Nat) (l : List UInt8) : splitF sep f l ≠ [] := by
  cases f with
  | zero => simp [splitF]
  | succ f => unfold splitF; split <;> simp
theorem index_take (l sep : List UInt8) (i : Nat) (h : Lib.index l sep = i) : l.take i ++ sep ++ l.drop (i + sep.length) = l := by
  rcases Lib.index_spec l sep with ⟨h1, _⟩ | ⟨j, h1, h2, h3, _⟩
  · omega
  · have : j = i := by omega
    subst this
    unfold Lib.occAt at h3
    obtain ⟨t, ht⟩ := List.isPrefixOf_iff_prefix.1 h3
    have e : l.drop (j + sep.length) = t := by rw [← List.drop_drop, ← ht]; simp
    rw [e, List.append_assoc, ht, List.take_append_drop]
theorem join_split (sep : List UInt8) : ∀ (f : Nat) (l : List UInt8), joinL (splitF sep f l) sep = l := by
  intro f
  induction f with
  | zero => intro l; simp [splitF, joinL_one]
  | succ f ih =>
    intro l
    by_cases h : Lib.index l sep < 0
    · rw [splitF_none _ h, joinL_one]
    · obtain ⟨i, hi⟩ := Int.eq_ofNat_of_zero_le (show 0 ≤ Lib.index l sep by omega)
      rw [splitF_some f i hi, joinL_cons _ _ _ (splitF_ne sep f _), ih, index_take l sep i hi]
theorem join_splitL (l sep : List UInt8) : joinL (splitL l sep) sep = l := by
  unfold splitL
  split
  · rw [joinL_one]
  · exact join_split sep _ l
theorem occ_one (l : List UInt8) (c : UInt8) (j : Nat) : Lib.occAt l [c] j = true ↔ l[j]? = some c := by
  unfold Lib.occAt
  rw [List.isPrefixOf_iff_prefix]
  constructor
  · rintro ⟨t, ht⟩
    have : (l.drop j)[0]? = some c := by rw [← ht]; rfl
    simpa using this
  · intro h
    have hj := (List.getElem?_eq_some_iff.1 h)
    obtain ⟨hj, rfl⟩ := hj
    exact ⟨l.drop (j + 1), by rw [List.drop_eq_getElem_cons hj]; rfl⟩
theorem index_none1 {l : List UInt8} {c : UInt8} (h : c ∉ l) : Lib.index l [c] < 0 := by
  have : Lib.index l [c] = -1 := Lib.index_none fun j hj => by
    cases ho : Lib.occAt l [c] j with
    | false => rfl
    | true => exact absurd (List.mem_of_getElem? ((occ_one l c j).1 ho)) h
  omega
theorem index_some1 {a r : List UInt8} {c : UInt8} (h : c ∉ a) : Lib.index (a ++ c :: r) [c] = (a.length : Int) := by
  refine Lib.index_first (by simp) ?_ ?_
  · rw [occ_one]; simp
  · intro j hj
    cases ho : Lib.occAt (a ++ c :: r) [c] j with
    | false => rfl
    | true =>
      have := (occ_one _ c j).1 ho
      rw [List.getElem?_append_left hj] at this
      exact absurd (List.mem_of_getElem? this) h
theorem split_join (c : UInt8) : ∀ (ps : List (List UInt8)) (f : Nat), ps ≠ [] → (∀ p ∈ ps, c ∉ p) → ps.length ≤ f + 1 → splitF [c] f (joinL ps [c]) = ps := by
  intro ps
  induction ps with
  | nil => intro f h; exact absurd rfl h
  | cons a r ih =>
    intro f _ hp hf
    have ha := hp a List.mem_cons_self
    by_cases hr : r = []
    · subst hr
      rw [joinL_one]
      exact splitF_none f (index_none1 ha)
    · have hl : 0 < r.length := List.length_pos_iff.2 hr
      obtain ⟨g, rfl⟩ : ∃ g, f = g + 1 := ⟨f - 1, by simp at hf; omega⟩
      rw [joinL_cons a r [c] hr, List.append_assoc, List.singleton_append, splitF_some g a.length (index_some1 ha)]
      have e1 : (a ++ c :: joinL r [c]).take a.length = a := by simp
      have e2 : (a ++ c :: joinL r [c]).drop (a.length + [c].length) = joinL r [c] := by simp [List.drop_append]
      rw [e1, e2, ih g hr (fun p h => hp p (List.mem_cons_of_mem _ h)) (by simp at hf; omega)]
theorem joinL_ge (ps : List (List UInt8)) (c : UInt8) : ps.length ≤ (joinL ps [c]).length + 1 := by
  induction ps with
  | nil => simp
  | cons a r ih =>
    by_cases hr : r = []
    · subst hr; simp
    · rw [joinL_cons a r [c] hr]; simp; omega
theorem splitL_joinL (c : UInt8) (ps : List (List UInt8)) (h : ps ≠ []) (hp : ∀ p ∈ ps, c ∉ p) : splitL (joinL ps [c]) [c] = ps := by
  unfold splitL
  rw [if_neg (by simp)]
  exact split_join c ps _ h hp (by have := joinL_ge ps c; omega)
theorem splitL_none1 {l : List UInt8} {c : UInt8} (h : c ∉ l) : splitL l [c] = [l] := by
  unfold splitL; rw [if_neg (by simp)]; exact splitF_none _ (index_none1 h)
theorem splitL_ne (l : List UInt8) (c : UInt8) : splitL l [c] ≠ [] := by
  unfold splitL; rw [if_neg (by simp)]; exact splitF_ne _ _ _
theorem joinL_two (a b : List UInt8) (c : UInt8) : joinL [a, b] [c] = a ++ c :: b := by rw [joinL_cons a [b] [c] (by simp), joinL_one]; simp
/-- the text in front of the first c and the text behind it -/
theorem cut_some {a r : List UInt8} {c : UInt8} (h : c ∉ a) : Lib.cut (a ++ c :: r) [c] = (a, r, true) := by
  unfold Lib.cut
  rw [index_some1 h, if_pos (by omega)]
  simp [List.drop_append]
theorem cut_none {a : List UInt8} {c : UInt8} (h : c ∉ a) : Lib.cut a [c] = (a, [], false) := by
  unfold Lib.cut
  rw [if_neg (by have := index_none1 h; omega)]
/-- a text either has no c, or is what stands in front of the first one, and behind it -/
theorem cut_cases (l : List UInt8) (c : UInt8) : c ∉ l ∨ ∃ a r, l = a ++ c :: r ∧ c ∉ a := by
  by_cases h : c ∈ l
  · right
    induction l with
    | nil => simp at h
    | cons x t ih =>
      by_cases hx : x = c
      · subst hx; exact ⟨[], t, rfl, by simp⟩
      · obtain ⟨a, r, e, ha⟩ := ih (by rcases List.mem_cons.1 h with h | h; exact absurd h.symm hx; exact h)
        exact ⟨x :: a, r, by rw [e]; rfl, by simp; exact ⟨fun e => hx e.symm, ha⟩⟩
  · exact Or.inl h
/-- divided into two: there is just one c -/
theorem split_two {l a b : List UInt8} {c : UInt8} (h : splitL l [c] = [a, b]) : l = a ++ c :: b ∧ c ∉ a := by
  have e : l = a ++ c :: b := by rw [← joinL_two, ← h, join_splitL]
  refine ⟨e, ?_⟩
  rcases cut_cases l c with hn | ⟨a', r, e2, ha'⟩
  · rw [splitL_none1 hn] at h; simp at h
  · have : splitL l [c] = a' :: splitF [c] l.length r := by
      have e3 : (a' ++ c :: r).drop (a'.length + [c].length) = r := by simp [List.drop_append]
      have e4 : (a' ++ c :: r).take a'.length = a' := by simp
      unfold splitL; rw [if_neg (by simp), e2, splitF_some _ a'.length (index_some1 ha'), e3, e4]
    rw [this] at h
    injection h with h1 _
    rw [← h1]; exact ha'
theorem cut_len (l sep : List UInt8) : (Lib.cut l sep).1.length ≤ l.length ∧ (Lib.cut l sep).2.1.length ≤ l.length := by
  unfold Lib.cut
  split
  · exact ⟨by simp; omega, by simp⟩
  · exact ⟨Nat.le_refl _, by simp⟩
theorem joinK_part (x : List (List UInt8)) (sep : List UInt8) : ∀ (m k : Nat), k < m → m ≤ x.length → (x.getD k []).length ≤ (joinK x sep m).length := by
  intro m
  induction m with
  | zero => intro k h; omega
  | succ m ih =>
    intro k hk hm
    simp only [joinK, List.length_append]
    rcases Nat.lt_or_ge k m with h | h
    · have := ih k h (by omega); omega
    · rw [show k = m by omega]; omega
theorem split_part (l : List UInt8) (c : UInt8) (p : List UInt8) (h : p ∈ splitL l [c]) : p.length ≤ l.length := by
  obtain ⟨k, hk, rfl⟩ := List.mem_iff_getElem.1 h
  have := joinK_part (splitL l [c]) [c] (splitL l [c]).length k hk (Nat.le_refl _)
  rw [show joinK (splitL l [c]) [c] (splitL l [c]).length = l from join_splitL l [c]] at this
  rw [List.getD_eq_getElem?_getD, List.getElem?_eq_getElem hk] at this
  exact this
theorem dataL (l : List UInt8) : (⟨l.toArray⟩ : ByteArray).data.toList = l := by simp
end Go.Proofs.YtghebbndfpbkcaaGreat
/- Contracts of ParseNumber, the model's and the program's. -/
namespace Go.Proofs.YtghebbndfpbkcaaGreat
set_option linter.unusedVariables false
open Go.RowKit
def pnum (l : List UInt8) : Int := ((parseL l).getD 0 : Nat)
def pok (l : List UInt8) : Bool := (parseL l).isSome
theorem pnum_some {l : List UInt8} {n : Nat} (h : parseL l = some n) : pnum l = n ∧ pok l = true := by simp [pnum, pok, h]
theorem pnum_none {l : List UInt8} (h : parseL l = none) : pnum l = 0 ∧ pok l = false := by simp [pnum, pok, h]
theorem ret_pair {a b : Int} {c d : Bool} (h : a = b) (h2 : c = d) : Ending.returned (.tuple #[.int .i64 a, .bool c]) = .returned (.tuple #[.int .i64 b, .bool d]) := by rw [h, h2]
theorem valL_next (s : ByteArray) (k : Nat) (h : k < s.size) : valL (s.data.toList.take (k + 1)) = 10 * valL (s.data.toList.take k) + (s[k].toNat : Int) - 48 := by
  rw [take_snoc s k h, valL_snoc]; omega
set_option maxHeartbeats 400000 in
theorem specParse_any (s : ByteArray) (w : World) (hs : s.size ≤ maxLen) :
    Calls Tryz.prog 115 #[.string s] w fun e w' => e = .returned (.tuple #[.int .i64 (pnum s.data.toList), .bool (pok s.data.toList)]) ∧ Below w.heap.size w w' := by
  unfold maxLen at hs
  go_enter Tryz.func115, Tryz.ntmps115
  go_wp2
  go_loop [4, 5] (fun n i => ∃ k : Nat, k ≤ s.size ∧ k ≤ 4 ∧ i = .int .i64 k ∧ n = .int .i64 (valL (s.data.toList.take k))) (fun _ i => s.size - (intOf i).toNat)
  case atStart => exact ⟨0, Nat.zero_le _, by omega, rfl, rfl⟩
  case round =>
    obtain ⟨k, hk, hk4, rfl, rfl⟩ := hrel
    obtain ⟨hb1, hb2⟩ := valL_bd4 s.data.toList k hk4
    by_cases hg : k < s.size ∧ k < 4
    · obtain ⟨hlt, h4⟩ := hg
      have HN := Lib.hid (valL_next s k hlt)
      have hc := u8_lt s[k]
      go_wp2
      go_round
      case rel => exact ⟨k + 1, by omega, by omega, by go_num, by rw [HN.out]⟩
      case measure => simp [intOf]; omega
    · have HP := Lib.hid (parseL_spec s.data.toList)
      have e4 : s.data.toList.take k = s.data.toList.take 4 := by
        rcases Nat.lt_or_ge k s.size with h | h
        · rw [show k = 4 from by omega]
        · rw [List.take_of_length_le (by rw [size_list]; omega), List.take_of_length_le (by rw [size_list]; omega)]
      have E4 := Lib.hid e4
      clear e4
      by_cases h0 : s.size = 0
      · have hlt : ¬ k < s.size := by omega
        have hl : s.data.toList = [] := List.eq_nil_of_length_eq_zero (by rw [size_list]; exact h0)
        have HQ := Lib.hid (pnum_none (show parseL s.data.toList = none from by rw [hl]; exact parseL_nil))
        have hz : ((s.size : Int) == 0) = true := by simpa using h0
        clear hl h0 hg
        go_wp2
        go_ret2
        exact ⟨ret_pair HQ.out.1.symm HQ.out.2.symm, Below.refl _ _⟩
      · have hz : ((s.size : Int) == 0) = false := by simpa using h0
        clear h0
        by_cases hn1 : valL (s.data.toList.take k) < 0
        · have HQ := Lib.hid (pnum_none (HP.out.2 (by rw [← E4.out]; omega)))
          by_cases hlt : k < s.size
          · have h4 : ¬ k < 4 := by omega
            clear hg
            go_wp2
            go_ret2
            exact ⟨ret_pair HQ.out.1.symm HQ.out.2.symm, Below.refl _ _⟩
          · clear hg
            go_wp2
            go_ret2
            exact ⟨ret_pair HQ.out.1.symm HQ.out.2.symm, Below.refl _ _⟩
        · by_cases hn2 : 999 < valL (s.data.toList.take k)
          · have HQ := Lib.hid (pnum_none (HP.out.2 (by rw [← E4.out]; omega)))
            by_cases hlt : k < s.size
            · have h4 : ¬ k < 4 := by omega
              clear hg
              go_wp2
              go_ret2
              exact ⟨ret_pair HQ.out.1.symm HQ.out.2.symm, Below.refl _ _⟩
            · clear hg
              go_wp2
              go_ret2
              exact ⟨ret_pair HQ.out.1.symm HQ.out.2.symm, Below.refl _ _⟩
          · have HF := Lib.hid (fun w => specFormat_any (valL (s.data.toList.take k)) w (by omega) (by omega))
            by_cases he : numL (valL (s.data.toList.take k)) = s.data.toList
            · have heq : (numL (valL (s.data.toList.take k)) == s.toList) = true := by rw [Lib.toList_data, beq_iff_eq]; exact he
              have HQ := Lib.hid (pnum_some (HP.out.1 ⟨by rw [← E4.out]; omega, by rw [← E4.out]; omega, by rw [← E4.out]; exact he⟩))
              have HV := Lib.hid (show ((valL (s.data.toList.take 4)).toNat : Int) = valL (s.data.toList.take k) from by rw [← E4.out]; omega)
              clear he
              by_cases hlt : k < s.size
              · have h4 : ¬ k < 4 := by omega
                clear hg
                go_wp2_with (go_at_call 112; refine (HF.out _).mono ?_; rintro e w1 ⟨rfl, hb⟩)
                go_ret2
                exact ⟨ret_pair (by rw [HQ.out.1, HV.out]) HQ.out.2.symm, hb⟩
              · clear hg
                go_wp2_with (go_at_call 112; refine (HF.out _).mono ?_; rintro e w1 ⟨rfl, hb⟩)
                go_ret2
                exact ⟨ret_pair (by rw [HQ.out.1, HV.out]) HQ.out.2.symm, hb⟩
            · have heq : (numL (valL (s.data.toList.take k)) == s.toList) = false := by rw [Lib.toList_data, beq_eq_false_iff_ne]; exact he
              have HQ := Lib.hid (pnum_none (HP.out.2 (by rw [← E4.out]; exact fun h => he h.2.2)))
              clear he
              by_cases hlt : k < s.size
              · have h4 : ¬ k < 4 := by omega
                clear hg
                go_wp2_with (go_at_call 112; refine (HF.out _).mono ?_; rintro e w1 ⟨rfl, hb⟩)
                go_ret2
                exact ⟨ret_pair HQ.out.1.symm HQ.out.2.symm, hb⟩
              · clear hg
                go_wp2_with (go_at_call 112; refine (HF.out _).mono ?_; rintro e w1 ⟨rfl, hb⟩)
                go_ret2
                exact ⟨ret_pair HQ.out.1.symm HQ.out.2.symm, hb⟩
theorem digB_isDig (c : UInt8) : isDig c.toNat = digB c := by simp [isDig, digB]
theorem all_next (s : ByteArray) (k : Nat) (h : k < s.size) (ha : (s.data.toList.take k).all digB = true) (hd : isDig (s[k]).toNat = true) : (s.data.toList.take (k + 1)).all digB = true := by
  rw [take_snoc s k h, List.all_append, ha, digB_isDig] at *; simpa using hd
theorem nodig_at (s : ByteArray) (k : Nat) (h : k < s.size) (hd : isDig (s[k]).toNat = false) : parseL s.data.toList = none :=
  parseL_nodig _ k (by rw [size_list]; exact h) (by rw [getD_get s k h, ← digB_isDig]; exact hd)
theorem first48 (s : ByteArray) (h : 0 < s.size) (hz : (s[0].toNat : Int) = 48) : s.data.toList.getD 0 0 = 48 := by
  rw [getD_get s 0 h]; exact UInt8.toNat_inj.1 (by show s[0].toNat = 48; omega)
theorem notfirst48 (s : ByteArray) (h : 0 < s.size) (hz : ¬ (s[0].toNat : Int) = 48) : s.data.toList.getD 0 0 ≠ 48 := by
  rw [getD_get s 0 h]; intro e; apply hz; rw [e]; rfl
theorem wrap_dig (x : Int) (h0 : 48 ≤ x) (h1 : x ≤ 255) : IntKind.u8.wrap (x - 48) = x - 48 := by
  simp only [IntKind.wrap, IntKind.bits, IntKind.signed]; simp; omega
/-- the loop of the program's ParseNumber, from the two ways that lead to it -/
def looped (s : ByteArray) (w : World) : Prop := Calls Tryz.prog 160 #[.string s] w fun e w' => e = .returned (.tuple #[.int .i64 (pnum s.data.toList), .bool (pok s.data.toList)]) ∧ w = w'
set_option maxHeartbeats 800000 in
theorem implParse_loop (s : ByteArray) (w : World) (hs : s.size ≤ maxLen) (hE : s.toList.isEmpty = false) (hpos : 0 < s.size)
    (hg : ((s[0].toNat : Int) == 48) = false ∨ (((s[0].toNat : Int) == 48) = true ∧ ¬ 1 < s.size)) (HZ : Hid (s.data.toList.length = 1 ∨ s.data.toList.getD 0 0 ≠ 48)) : looped s w := by
  unfold looped
  unfold maxLen at hs
  have HNE := Lib.hid (show s.data.toList ≠ [] from by intro h; rw [← size_list, h] at hpos; simp at hpos)
  rcases hg with hz1 | ⟨hz1, h1⟩
  all_goals
    go_enter Tryz.func160, Tryz.ntmps160
    go_wp2
    go_loop [4, 5, 20] (fun n _ i => ∃ k : Nat, k ≤ s.size ∧ i = .int .i64 k ∧ n = .int .i64 (valL (s.data.toList.take k)) ∧ (s.data.toList.take k).all digB = true ∧ 0 ≤ valL (s.data.toList.take k) ∧ valL (s.data.toList.take k) ≤ 999) (fun _ _ i => s.size - (intOf i).toNat)
    case atStart => exact ⟨0, Nat.zero_le _, rfl, rfl, rfl, by simp [valL], by simp [valL]⟩
    case round =>
      obtain ⟨k, hk, rfl, rfl, ha, hb1, hb2⟩ := hrel
      have HA := Lib.hid ha
      clear ha
      by_cases hlt : k < s.size
      · by_cases hd : isDig (s[k]).toNat = true
        · have HA2 := Lib.hid (all_next s k hlt HA.out hd)
          have HN := Lib.hid (valL_next s k hlt)
          obtain ⟨hd1, hd2⟩ : 48 ≤ (s[k].toNat : Int) ∧ (s[k].toNat : Int) ≤ 57 := by simpa [isDig] using hd
          have hw := wrap_dig _ hd1 (by omega)
          by_cases hbig : 999 < 10 * valL (s.data.toList.take k) + ((s[k].toNat : Int) - 48)
          · have HQ := Lib.hid (pnum_none (parseL_big s.data.toList (k + 1) (by rw [HN.out]; omega)))
            go_wp2_with (go_at_call 103; refine (isDigit_any _ _).mono ?_; rintro e w' ⟨rfl, rfl⟩)
            go_ret2
            exact ⟨ret_pair HQ.out.1.symm HQ.out.2.symm, rfl⟩
          · go_wp2_with (go_at_call 103; refine (isDigit_any _ _).mono ?_; rintro e w' ⟨rfl, rfl⟩)
            go_round
            case rel => exact ⟨k + 1, by omega, by go_num, by rw [HN.out]; go_num, HA2.out, by rw [HN.out]; omega, by rw [HN.out]; omega⟩
            case measure => simp [intOf]; omega
        · have hd' : isDig (s[k]).toNat = false := by simpa using hd
          have HQ := Lib.hid (pnum_none (nodig_at s k hlt hd'))
          clear hd
          go_wp2_with (go_at_call 103; refine (isDigit_any _ _).mono ?_; rintro e w' ⟨rfl, rfl⟩)
          go_ret2
          exact ⟨ret_pair HQ.out.1.symm HQ.out.2.symm, rfl⟩
      · have HK := Lib.hid (show s.data.toList.take k = s.data.toList from List.take_of_length_le (by rw [size_list]; omega))
        have HQ := Lib.hid (pnum_some (parseL_good s.data.toList (by rw [← HK.out]; exact HA.out) HNE.out HZ.out (by rw [← HK.out]; exact hb2)))
        have HV := Lib.hid (show ((valL s.data.toList).toNat : Int) = valL (s.data.toList.take k) from by rw [HK.out] at hb1 ⊢; omega)
        go_wp2
        go_ret2
        exact ⟨ret_pair (by rw [HQ.out.1, HV.out]) HQ.out.2.symm, rfl⟩
set_option maxHeartbeats 400000 in
theorem implParse_any (s : ByteArray) (w : World) (hs : s.size ≤ maxLen) :
    Calls Tryz.prog 160 #[.string s] w fun e w' => e = .returned (.tuple #[.int .i64 (pnum s.data.toList), .bool (pok s.data.toList)]) ∧ w = w' := by
  by_cases h0 : s.size = 0
  · have hl : s.data.toList = [] := List.eq_nil_of_length_eq_zero (by rw [size_list]; exact h0)
    have HQ := Lib.hid (pnum_none (show parseL s.data.toList = none from by rw [hl]; exact parseL_nil))
    have hE : s.toList = [] := by rw [Lib.toList_data, hl]
    clear hl h0
    go_enter Tryz.func160, Tryz.ntmps160
    go_wp2
    go_ret2
    exact ⟨ret_pair HQ.out.1.symm HQ.out.2.symm, rfl⟩
  · have hE : s.toList.isEmpty = false := by rw [Lib.toList_data]; cases hh : s.data.toList with | nil => exfalso; apply h0; rw [← size_list, hh]; rfl | cons a b => rfl
    have hpos : 0 < s.size := by omega
    clear h0
    by_cases hz : (s[0].toNat : Int) = 48
    · have hz1 : ((s[0].toNat : Int) == 48) = true := by simpa using hz
      by_cases h1 : 1 < s.size
      · have HQ := Lib.hid (pnum_none (parseL_zero s.data.toList (first48 s hpos hz) (by rw [size_list]; exact h1)))
        unfold maxLen at hs
        clear hz
        go_enter Tryz.func160, Tryz.ntmps160
        go_wp2
        go_ret2
        exact ⟨ret_pair HQ.out.1.symm HQ.out.2.symm, rfl⟩
      · exact implParse_loop s w hs hE hpos (Or.inr ⟨hz1, h1⟩) (Lib.hid (Or.inl (by rw [size_list]; omega)))
    · exact implParse_loop s w hs hE hpos (Or.inl (by simpa using hz)) (Lib.hid (Or.inr (notfirst48 s hpos hz)))
end Go.Proofs.YtghebbndfpbkcaaGreat
/- Texts in ascending order, each once: the plain side. -/
namespace Go.Proofs.YtghebbndfpbkcaaGreat

/-- texts in strictly ascending order -/
def Strict (l : List (List UInt8)) : Prop := l.Pairwise (· < ·)
/-- s is put in front of the first text that is not less, unless it is that text -/
def ins (s : List UInt8) : List (List UInt8) → List (List UInt8)
  | [] => [s]
  | x :: r => if x < s then x :: ins s r else if x = s then x :: r else s :: x :: r
def ascL (x : List (List UInt8)) : List (List UInt8) := x.foldl (fun a y => ins y a) []

theorem strict_unique : ∀ {a b : List (List UInt8)}, Strict a → Strict b → (∀ x, x ∈ a ↔ x ∈ b) → a = b := by
  intro a
  induction a with
  | nil =>
    intro b _ _ h
    cases b with
    | nil => rfl
    | cons y s => exact absurd ((h y).2 (List.mem_cons_self ..)) (by simp)
  | cons x r ih =>
    intro b ha hb h
    cases b with
    | nil => exact absurd ((h x).1 (List.mem_cons_self ..)) (by simp)
    | cons y s =>
      have ha' := List.pairwise_cons.1 ha
      have hb' := List.pairwise_cons.1 hb
      have e : x = y := by
        rcases List.mem_cons.1 ((h x).1 (List.mem_cons_self ..)) with h1 | h1
        · exact h1
        · rcases List.mem_cons.1 ((h y).2 (List.mem_cons_self ..)) with h2 | h2
          · exact h2.symm
          · exact absurd (List.lt_trans (hb'.1 x h1) (ha'.1 y h2)) (List.lt_irrefl _)
      subst e
      congr 1
      refine ih ha'.2 hb'.2 fun z => ⟨fun hz => ?_, fun hz => ?_⟩
      · rcases List.mem_cons.1 ((h z).1 (List.mem_cons_of_mem _ hz)) with h1 | h1
        · subst h1; exact absurd (ha'.1 z hz) (List.lt_irrefl _)
        · exact h1
      · rcases List.mem_cons.1 ((h z).2 (List.mem_cons_of_mem _ hz)) with h1 | h1
        · subst h1; exact absurd (hb'.1 z hz) (List.lt_irrefl _)
        · exact h1
theorem mem_ins (s : List UInt8) : ∀ (l : List (List UInt8)) (z : List UInt8), z ∈ ins s l ↔ z = s ∨ z ∈ l := by
  intro l
  induction l with
  | nil => intro z; simp [ins]
  | cons x r ih =>
    intro z
    unfold ins
    split
    · simp only [List.mem_cons, ih]
      constructor
      · rintro (h | h | h)
        · exact Or.inr (Or.inl h)
        · exact Or.inl h
        · exact Or.inr (Or.inr h)
      · rintro (h | h | h)
        · exact Or.inr (Or.inl h)
        · exact Or.inl h
        · exact Or.inr (Or.inr h)
    · split
      · rename_i h; subst h; simp
      · simp
theorem strict_ins (s : List UInt8) : ∀ (l : List (List UInt8)), Strict l → Strict (ins s l) := by
  intro l
  induction l with
  | nil => intro _; simp [ins, Strict]
  | cons x r ih =>
    intro h
    have h' := List.pairwise_cons.1 h
    unfold ins
    split
    · rename_i hx
      refine List.pairwise_cons.2 ⟨fun z hz => ?_, ih h'.2⟩
      rcases (mem_ins s r z).1 hz with h1 | h1
      · subst h1; exact hx
      · exact h'.1 z h1
    · split
      · exact h
      · rename_i h1 h2
        have hsx : s < x := by
          rcases Decidable.em (s < x) with h3 | h3
          · exact h3
          · exact absurd (List.le_antisymm (List.not_lt.1 h3) (List.not_lt.1 h1)) h2
        refine List.pairwise_cons.2 ⟨fun z hz => ?_, h⟩
        rcases List.mem_cons.1 hz with h3 | h3
        · subst h3; exact hsx
        · exact List.lt_trans hsx (h'.1 z h3)
theorem foldl_ins : ∀ (x a : List (List UInt8)), Strict a → Strict (x.foldl (fun a y => ins y a) a) ∧ ∀ z, z ∈ x.foldl (fun a y => ins y a) a ↔ z ∈ a ∨ z ∈ x := by
  intro x
  induction x with
  | nil => intro a h; exact ⟨h, fun z => by simp⟩
  | cons y r ih =>
    intro a h
    have := ih (ins y a) (strict_ins y a h)
    refine ⟨this.1, fun z => ?_⟩
    rw [List.foldl_cons, this.2 z, mem_ins, List.mem_cons]
    constructor
    · rintro ((h | h) | h)
      · exact Or.inr (Or.inl h)
      · exact Or.inl h
      · exact Or.inr (Or.inr h)
    · rintro (h | h | h)
      · exact Or.inl (Or.inr h)
      · exact Or.inl (Or.inl h)
      · exact Or.inr h
theorem asc_strict (x : List (List UInt8)) : Strict (ascL x) := (foldl_ins x [] List.Pairwise.nil).1
theorem asc_mem (x : List (List UInt8)) (z : List UInt8) : z ∈ ascL x ↔ z ∈ x := by
  have := (foldl_ins x [] List.Pairwise.nil).2 z
  simpa [ascL] using this
theorem asc_eq {x y : List (List UInt8)} (h : Strict y) (hm : ∀ z, z ∈ y ↔ z ∈ x) : y = ascL x :=
  strict_unique h (asc_strict x) fun z => by rw [hm z, asc_mem x z]
theorem asc_idem (x : List (List UInt8)) : ascL (ascL x) = ascL x := (asc_eq (asc_strict x) fun _ => Iff.rfl).symm
theorem ins_len (s : List UInt8) (l : List (List UInt8)) : (ins s l).length ≤ l.length + 1 := by
  induction l with
  | nil => simp [ins]
  | cons x r ih => unfold ins; split <;> (try split) <;> simp <;> omega
theorem foldl_len : ∀ (x a : List (List UInt8)), (x.foldl (fun a y => ins y a) a).length ≤ a.length + x.length := by
  intro x
  induction x with
  | nil => intro a; simp
  | cons y r ih => intro a; have := ih (ins y a); have := ins_len y a; simp only [List.foldl_cons, List.length_cons]; omega
theorem asc_len (x : List (List UInt8)) : (ascL x).length ≤ x.length := by have := foldl_len x []; simpa [ascL] using this

/-- the loop of the model's l1Put -/
theorem ins_below {s : List UInt8} {p : List (List UInt8)} (h : ∀ z ∈ p, z < s) (t : List (List UInt8)) : ins s (p ++ t) = p ++ ins s t := by
  induction p with
  | nil => rfl
  | cons x r ih =>
    have hx := h x (List.mem_cons_self ..)
    simp only [List.cons_append, ins, if_pos hx]
    rw [ih fun z hz => h z (List.mem_cons_of_mem _ hz)]
theorem ins_done {s : List UInt8} {p : List (List UInt8)} (h : ∃ z ∈ p, ¬ z < s) (t : List (List UInt8)) : ins s (p ++ t) = ins s p ++ t := by
  induction p with
  | nil => obtain ⟨z, hz, _⟩ := h; simp at hz
  | cons x r ih =>
    simp only [List.cons_append, ins]
    by_cases hx : x < s
    · obtain ⟨z, hz, hzs⟩ := h
      rcases List.mem_cons.1 hz with h1 | h1
      · subst h1; exact absurd hx hzs
      · rw [if_pos hx, if_pos hx, ih ⟨z, h1, hzs⟩]; rfl
    · rw [if_neg hx, if_neg hx]
      split <;> rfl

/-- what slices.Compact leaves of a sorted list -/
theorem compact_sorted (d : Array (List UInt8)) (hs : ∀ i j, i ≤ j → j < d.size → d[i]! ≤ d[j]!) : ∀ m, m ≤ d.size →
    Strict (Lib.compactUpTo d m) ∧ (∀ z, z ∈ Lib.compactUpTo d m ↔ ∃ i, i < m ∧ d[i]! = z) := by
  intro m
  induction m with
  | zero => intro _; exact ⟨List.Pairwise.nil, fun z => by simp [Lib.compactUpTo]⟩
  | succ m ih =>
    intro hm
    obtain ⟨h1, h2⟩ := ih (by omega)
    rw [Lib.compactUpTo_succ]
    by_cases hk : m = 0 ∨ d[m]! ≠ d[m - 1]!
    · have hk' : Lib.keeps d m = true := by simpa [Lib.keeps] using hk
      rw [if_pos hk']
      constructor
      · refine List.pairwise_append.2 ⟨h1, by simp, fun a ha b hb => ?_⟩
        have hb' : b = d[m]! := by simpa using hb
        subst hb'
        obtain ⟨i, hi, rfl⟩ := (h2 a).1 ha
        have hne : d[m]! ≠ d[m - 1]! := by rcases hk with h | h; · omega
                                           · exact h
        rcases Decidable.em (d[i]! < d[m]!) with h | h
        · exact h
        · exfalso
          have e : d[i]! = d[m]! := List.le_antisymm (hs i m (by omega) (by omega)) (List.not_lt.1 h)
          have h3 := hs i (m - 1) (by omega) (by omega)
          have h4 := hs (m - 1) m (by omega) (by omega)
          rw [e] at h3
          exact hne (List.le_antisymm h3 h4)
      · intro z
        rw [List.mem_append, h2 z]
        constructor
        · rintro (⟨i, hi, e⟩ | h)
          · exact ⟨i, by omega, e⟩
          · exact ⟨m, by omega, by simpa using (show z = d[m]! by simpa using h).symm⟩
        · rintro ⟨i, hi, e⟩
          rcases Nat.lt_or_ge i m with h | h
          · exact Or.inl ⟨i, h, e⟩
          · right; have : i = m := by omega
            subst this; simp [e]
    · have hk' : Lib.keeps d m = false := by simpa [Lib.keeps] using hk
      rw [if_neg (by simp [hk']), List.append_nil]
      refine ⟨h1, fun z => ?_⟩
      rw [h2 z]
      constructor
      · rintro ⟨i, hi, e⟩; exact ⟨i, by omega, e⟩
      · rintro ⟨i, hi, e⟩
        rcases Nat.lt_or_ge i m with h | h
        · exact ⟨i, h, e⟩
        · have : i = m := by omega
          subst this
          have hm0 : i ≠ 0 := fun h => hk (Or.inl h)
          have he : d[i]! = d[i - 1]! := Decidable.byContradiction fun h => hk (Or.inr h)
          exact ⟨i - 1, by omega, by rw [← he]; exact e⟩
def leB (x y : List UInt8) : Bool := decide (x ≤ y)
theorem compact_mergeSort (x : List (List UInt8)) : Lib.compact (x.mergeSort fun a b => decide (a ≤ b)) = ascL x := by
  have hp := List.pairwise_mergeSort (le := fun a b : List UInt8 => decide (a ≤ b)) (fun a b c h1 h2 => by simp at *; exact List.le_trans h1 h2) (fun a b => by simp; exact List.le_total a b) x
  generalize hl : (x.mergeSort fun a b => decide (a ≤ b)) = l at *
  have hmem : ∀ z, z ∈ l ↔ z ∈ x := fun z => by rw [← hl]; exact List.mem_mergeSort
  have hs : ∀ i j, i ≤ j → j < l.toArray.size → l.toArray[i]! ≤ l.toArray[j]! := by
    intro i j hij hj
    have hj' : j < l.length := by simpa using hj
    rw [getElem!_pos _ i (by simp; omega), getElem!_pos _ j (by simpa using hj')]
    simp only [List.getElem_toArray]
    rcases Nat.lt_or_ge i j with h | h
    · have := List.pairwise_iff_getElem.1 hp i j (by omega) hj' h
      simpa using this
    · have : i = j := by omega
      subst this; exact List.le_refl _
  have h := compact_sorted l.toArray hs l.length (by simp)
  refine asc_eq h.1 fun z => ?_
  rw [← hmem z]
  unfold Lib.compact
  rw [h.2 z, List.mem_iff_getElem]
  constructor
  · rintro ⟨i, hi, e⟩; exact ⟨i, hi, by rw [← e, getElem!_pos _ i (by simpa using hi)]; simp⟩
  · rintro ⟨i, hi, e⟩; exact ⟨i, hi, by rw [getElem!_pos _ i (by simpa using hi)]; simpa using e⟩
end Go.Proofs.YtghebbndfpbkcaaGreat
/- Cells, plain: which lists are cells, how they are written and read; the lenient reading held against the writing is the strict one. -/
namespace Go.Proofs.YtghebbndfpbkcaaGreat
set_option linter.unusedVariables false
open Go.RowKit
def cellT (d : CellD) : List UInt8 := d.fKey ++ 61 :: numL d.fValue
def fmtC (l : List CellD) : List UInt8 := if cellsB l = true then (if l = [] then [45] else joinL (l.map cellT) [44]) else []
theorem nameB_all {l : List UInt8} (h : nameB l = true) (c : UInt8) (hc : c ∈ l) : (isLet c.toNat || isDig c.toNat) = true := by
  simp only [nameB, Bool.and_eq_true, nmB, List.all_eq_true] at h
  exact h.2 c hc
theorem nameB_no {l : List UInt8} (h : nameB l = true) (c : UInt8) (hc : (isLet c.toNat || isDig c.toNat) = false) : c ∉ l := fun hm => by rw [nameB_all h c hm] at hc; simp at hc
theorem numL_no (n : Nat) (c : UInt8) (hc : digB c = false) : c ∉ numL n := fun hm => by
  have := List.all_eq_true.1 (numL_dig n) c hm
  rw [this] at hc; simp at hc
theorem numB_nat {n : Int} (h : numB n = true) : ∃ k : Nat, n = k ∧ k ≤ 999 := by
  simp only [numB, Bool.and_eq_true, decide_eq_true_iff] at h
  exact ⟨n.toNat, by omega, by omega⟩
theorem parse_num {n : Int} (h : numB n = true) : pnum (numL n) = n ∧ pok (numL n) = true := by
  obtain ⟨k, rfl, hk⟩ := numB_nat h
  exact pnum_some (parseL_some hk rfl)
theorem cellT_cut {d : CellD} (h : nameB d.fKey = true) : Lib.cut (cellT d) [61] = (d.fKey, numL d.fValue, true) := cut_some (nameB_no h 61 (by decide))
theorem cellT_no {d : CellD} (h : nameB d.fKey = true) (h2 : numB d.fValue = true) : (44 : UInt8) ∉ cellT d := by
  obtain ⟨k, e, hk⟩ := numB_nat h2
  unfold cellT
  rw [e]
  intro hm
  rcases List.mem_append.1 hm with hm | hm
  · exact nameB_no h 44 (by decide) hm
  · rcases List.mem_cons.1 hm with hm | hm
    · exact absurd hm (by decide)
    · exact numL_no k 44 (by decide) hm
theorem cellT_split {d : CellD} (h : nameB d.fKey = true) (h2 : numB d.fValue = true) : splitL (cellT d) [61] = [d.fKey, numL d.fValue] := by
  obtain ⟨k, e, hk⟩ := numB_nat h2
  have : cellT d = joinL [d.fKey, numL d.fValue] [61] := by rw [joinL_two]; rfl
  rw [this]
  refine splitL_joinL 61 _ (by simp) ?_
  intro p hp
  simp only [List.mem_cons, List.not_mem_nil, or_false] at hp
  rcases hp with rfl | rfl
  · exact nameB_no h 61 (by decide)
  · rw [e]; exact numL_no k 61 (by decide)
/-- the program's lenient reading of one cell, of a text -/
def rdC (t : List UInt8) : CellD := ⟨(Lib.cut t [61]).1, pnum (Lib.cut t [61]).2.1⟩
def rdCs (s : List UInt8) : List CellD := if s = [45] then [] else (splitL s [44]).map rdC
/-- what is read: the cells that are written so -/
def prsB (s : List UInt8) : Bool := cellsB (rdCs s) && decide (fmtC (rdCs s) = s)
def prsC (s : List UInt8) : List CellD := if prsB s = true then rdCs s else []
/-- the model's reading of the first k parts -/
def oneB (t : List UInt8) : Bool := decide ((splitL t [61]).length = 2) && pok ((splitL t [61]).getD 1 [])
def oneC (t : List UInt8) : CellD := ⟨(splitL t [61]).getD 0 [], pnum ((splitL t [61]).getD 1 [])⟩
theorem oneB_cell {t : List UInt8} (h : oneB t = true) : cellT (oneC t) = t ∧ rdC t = oneC t := by
  simp only [oneB, Bool.and_eq_true, decide_eq_true_iff] at h
  obtain ⟨a, b, e⟩ : ∃ a b, splitL t [61] = [a, b] := by
    match splitL t [61], h.1 with
    | [a, b], _ => exact ⟨a, b, rfl⟩
  obtain ⟨e2, hna⟩ := split_two e
  have hb : pok b = true := by have := h.2; rw [e] at this; exact this
  unfold oneC
  rw [e]
  simp only [List.getD_cons_zero, List.getD_cons_succ]
  unfold pok at hb
  obtain ⟨n, hn⟩ := Option.isSome_iff_exists.1 hb
  obtain ⟨p1, p2⟩ := pnum_some hn
  obtain ⟨n1, n2⟩ := parseL_iff hn
  refine ⟨?_, ?_⟩
  · unfold cellT; simp only; rw [p1, n2]; exact e2.symm
  · unfold rdC; rw [e2, cut_some hna]
theorem prs_strict (s : List UInt8) (hs : s ≠ [45]) : prsB s = ((splitL s [44]).all oneB && cellsB ((splitL s [44]).map oneC)) := by
  have hne := splitL_ne s 44
  have hr : rdCs s = (splitL s [44]).map rdC := if_neg hs
  cases hR : ((splitL s [44]).all oneB && cellsB ((splitL s [44]).map oneC)) with
  | true =>
    simp only [Bool.and_eq_true, List.all_eq_true] at hR
    obtain ⟨h1, h2⟩ := hR
    have e1 : (splitL s [44]).map rdC = (splitL s [44]).map oneC := List.map_congr_left fun t ht => (oneB_cell (h1 t ht)).2
    have e2 : ((splitL s [44]).map oneC).map cellT = splitL s [44] := by
      rw [List.map_map]
      conv => rhs; rw [← List.map_id (splitL s [44])]
      exact List.map_congr_left fun t ht => (oneB_cell (h1 t ht)).1
    unfold prsB
    rw [hr, e1, h2, Bool.true_and, decide_eq_true_iff]
    unfold fmtC
    rw [if_pos h2, if_neg (by simpa using hne), e2, join_splitL]
  | false =>
    cases hL : prsB s with
    | false => rfl
    | true =>
      simp only [prsB, Bool.and_eq_true, decide_eq_true_iff, hr] at hL
      obtain ⟨h1, h2⟩ := hL
      have hmem := cellsB_mem h1
      generalize hl : (splitL s [44]).map rdC = l at *
      have hl0 : l ≠ [] := by rw [← hl]; simpa using hne
      unfold fmtC at h2
      rw [if_pos h1, if_neg hl0] at h2
      have hsp : splitL s [44] = l.map cellT := by
        rw [← h2]
        refine splitL_joinL 44 _ (by simpa using hl0) ?_
        intro p hp
        obtain ⟨d, hd, rfl⟩ := List.mem_map.1 hp
        exact cellT_no (hmem d hd).1 (hmem d hd).2
      have h3 : (splitL s [44]).all oneB = true := by
        rw [hsp, List.all_eq_true]
        intro p hp
        obtain ⟨d, hd, rfl⟩ := List.mem_map.1 hp
        unfold oneB
        rw [cellT_split (hmem d hd).1 (hmem d hd).2]
        simpa using (parse_num (hmem d hd).2).2
      have h4 : (splitL s [44]).map oneC = l := by
        rw [hsp, List.map_map]
        conv => rhs; rw [← List.map_id l]
        refine List.map_congr_left fun d hd => ?_
        simp only [Function.comp, oneC]
        rw [cellT_split (hmem d hd).1 (hmem d hd).2]
        simp only [List.getD_cons_zero, List.getD_cons_succ]
        rw [(parse_num (hmem d hd).2).1]
        rfl
      rw [h3, h4, h1] at hR
      exact absurd hR (by simp)
theorem prsC_yes {s : List UInt8} (h : prsB s = true) : prsC s = rdCs s := if_pos h
theorem prsC_no {s : List UInt8} (h : prsB s = false) : prsC s = [] := if_neg (by simp [h])
theorem prsB_dash : prsB [45] = true := by unfold prsB rdCs; rw [if_pos rfl]; rfl
theorem prsC_strict {s : List UInt8} (hs : s ≠ [45]) (h : prsB s = true) : prsC s = (splitL s [44]).map oneC := by
  rw [prsC_yes h]
  rw [prs_strict s hs, Bool.and_eq_true, List.all_eq_true] at h
  unfold rdCs
  rw [if_neg hs]
  exact List.map_congr_left fun t ht => (oneB_cell (h.1 t ht)).2
theorem prsC_fmt {s : List UInt8} (h : prsB s = true) : cellsB (prsC s) = true ∧ fmtC (prsC s) = s := by
  rw [prsC_yes h]
  simp only [prsB, Bool.and_eq_true, decide_eq_true_iff] at h; exact h
theorem fmtC_dash {l : List CellD} (h : cellsB l = true) (he : fmtC l = [45]) : l = [] := by
  by_cases hl : l = []
  · exact hl
  · exfalso
    have hm := cellsB_mem h
    unfold fmtC at he
    rw [if_pos h, if_neg hl] at he
    cases l with
    | nil => exact hl rfl
    | cons d r =>
      have hk := (hm d List.mem_cons_self).1
      have h1 : 1 ≤ d.fKey.length := by simp only [nameB, Bool.and_eq_true, decide_eq_true_iff] at hk; omega
      have h2 : 1 ≤ (numL d.fValue).length := by
        obtain ⟨k, e, _⟩ := numB_nat (hm d List.mem_cons_self).2
        rw [e]; exact List.length_pos_iff.2 (numL_ne k)
      have : (joinL ((d :: r).map cellT) [44]).length = 1 := by rw [he]; rfl
      rw [List.map_cons] at this
      by_cases hr : r = []
      · subst hr; simp only [List.map_nil] at this; rw [joinL_one] at this; unfold cellT at this; simp at this; omega
      · rw [joinL_cons _ _ _ (by simpa using hr)] at this; unfold cellT at this; simp at this; omega
/-- what is written is read again -/
theorem prs_fmt {l : List CellD} (h : cellsB l = true) : prsB (fmtC l) = true ∧ prsC (fmtC l) = l := by
  have key : rdCs (fmtC l) = l := by
    by_cases hd : fmtC l = [45]
    · rw [fmtC_dash h hd]; rfl
    · have hl : l ≠ [] := by rintro rfl; exact hd rfl
      have hm := cellsB_mem h
      unfold rdCs
      rw [if_neg hd]
      have e : fmtC l = joinL (l.map cellT) [44] := by unfold fmtC; rw [if_pos h, if_neg hl]
      rw [e, splitL_joinL 44 _ (by simpa using hl) (by
        intro p hp
        obtain ⟨d, hd, rfl⟩ := List.mem_map.1 hp
        exact cellT_no (hm d hd).1 (hm d hd).2), List.map_map]
      conv => rhs; rw [← List.map_id l]
      refine List.map_congr_left fun d hd => ?_
      simp only [Function.comp, rdC]
      rw [cellT_cut (hm d hd).1]
      simp only
      rw [(parse_num (hm d hd).2).1]
      rfl
  have hp : prsB (fmtC l) = true := by unfold prsB; rw [key, h]; simp
  exact ⟨hp, by rw [prsC_yes hp, key]⟩
end Go.Proofs.YtghebbndfpbkcaaGreat
/- Reply: what the laws' own helpers do with it. Written by gen/flat.py. -/
namespace Go.Proofs.YtghebbndfpbkcaaGreat
set_option linter.unusedVariables false
open Go.RowKit
structure ReplyD where
  fCode : Int
  fValue : Int
  fText : List UInt8
  fWant : Int
  fHad : Int
deriving DecidableEq
def okReply (d : ReplyD) : Prop := (-9223372036854775808 ≤ d.fCode ∧ d.fCode ≤ 9223372036854775807) ∧ (-9223372036854775808 ≤ d.fValue ∧ d.fValue ≤ 9223372036854775807) ∧ (d.fText.length ≤ maxLen) ∧ (-9223372036854775808 ≤ d.fWant ∧ d.fWant ≤ 9223372036854775807) ∧ (-9223372036854775808 ≤ d.fHad ∧ d.fHad ≤ 9223372036854775807)
def vReply (d : ReplyD) : Value := .agg #[.int .i64 d.fCode, .int .i64 d.fValue, .string ⟨d.fText.toArray⟩, .int .i64 d.fWant, .int .i64 d.fHad]
def cReply (d : ReplyD) : List Value := [.int .i64 d.fCode, .int .i64 d.fValue, .string ⟨d.fText.toArray⟩, .int .i64 d.fWant, .int .i64 d.fHad]
theorem cReply_len (d : ReplyD) : (cReply d).length = 5 := rfl
theorem cReply_one (d : ReplyD) : ∀ u ∈ cReply d, u.oneCell' = true := by intro u hu; simp only [cReply, List.mem_cons, List.not_mem_nil, or_false] at hu; rcases hu with rfl | rfl | rfl | rfl | rfl <;> rfl
set_option maxHeartbeats 800000 in
theorem eqReply_any (x y : ReplyD) (w : World) :
    Calls Tryz.prog 22 #[vReply x, vReply y] w fun e w' => e = .returned (.bool (decide (x = y))) ∧ Below w.heap.size w w' := by
  obtain ⟨a0, a1, a2, a3, a4⟩ := x
  obtain ⟨b0, b1, b2, b3, b4⟩ := y
  unfold vReply
  by_cases h0 : a0 = b0
  · by_cases h1 : a1 = b1
    · by_cases h2 : a2 = b2
      · by_cases h3 : a3 = b3
        · by_cases h4 : a4 = b4
          · have HN := Lib.hid (show decide ((⟨a0, a1, a2, a3, a4⟩ : ReplyD) = (⟨b0, b1, b2, b3, b4⟩ : ReplyD)) = true by rw [h0, h1, h2, h3, h4]; simp)
            subst h0 h1 h2 h3 h4
            go_enter Tryz.func22, Tryz.ntmps22
            go_wp2
            go_ret
            exact ⟨ret_bool HN.out.symm, ((Below.refl _ _).alloc (Nat.le_refl _) _).alloc (by simp) _⟩
          · have HN := Lib.hid (show decide ((⟨a0, a1, a2, a3, a4⟩ : ReplyD) = (⟨b0, b1, b2, b3, b4⟩ : ReplyD)) = false by rw [decide_eq_false_iff_not]; exact fun e => h4 (by injection e))
            have hne4 : (a4 == b4) = false := by simpa using h4
            have hnf4 : (a4 != b4) = true := by simpa using h4
            subst h0 h1 h2 h3
            clear h4
            go_enter Tryz.func22, Tryz.ntmps22
            go_wp2
            go_ret
            exact ⟨ret_bool HN.out.symm, ((Below.refl _ _).alloc (Nat.le_refl _) _).alloc (by simp) _⟩
        · have HN := Lib.hid (show decide ((⟨a0, a1, a2, a3, a4⟩ : ReplyD) = (⟨b0, b1, b2, b3, b4⟩ : ReplyD)) = false by rw [decide_eq_false_iff_not]; exact fun e => h3 (by injection e))
          have hne3 : (a3 == b3) = false := by simpa using h3
          have hnf3 : (a3 != b3) = true := by simpa using h3
          subst h0 h1 h2
          clear h3
          go_enter Tryz.func22, Tryz.ntmps22
          go_wp2
          go_ret
          exact ⟨ret_bool HN.out.symm, ((Below.refl _ _).alloc (Nat.le_refl _) _).alloc (by simp) _⟩
      · have HN := Lib.hid (show decide ((⟨a0, a1, a2, a3, a4⟩ : ReplyD) = (⟨b0, b1, b2, b3, b4⟩ : ReplyD)) = false by rw [decide_eq_false_iff_not]; exact fun e => h2 (by injection e))
        have hne2 : (a2 == b2) = false := by simpa using h2
        have hnf2 : (a2 != b2) = true := by simpa using h2
        subst h0 h1
        clear h2
        go_enter Tryz.func22, Tryz.ntmps22
        go_wp2
        go_ret
        exact ⟨ret_bool HN.out.symm, ((Below.refl _ _).alloc (Nat.le_refl _) _).alloc (by simp) _⟩
    · have HN := Lib.hid (show decide ((⟨a0, a1, a2, a3, a4⟩ : ReplyD) = (⟨b0, b1, b2, b3, b4⟩ : ReplyD)) = false by rw [decide_eq_false_iff_not]; exact fun e => h1 (by injection e))
      have hne1 : (a1 == b1) = false := by simpa using h1
      have hnf1 : (a1 != b1) = true := by simpa using h1
      subst h0
      clear h1
      go_enter Tryz.func22, Tryz.ntmps22
      go_wp2
      go_ret
      exact ⟨ret_bool HN.out.symm, ((Below.refl _ _).alloc (Nat.le_refl _) _).alloc (by simp) _⟩
  · have HN := Lib.hid (show decide ((⟨a0, a1, a2, a3, a4⟩ : ReplyD) = (⟨b0, b1, b2, b3, b4⟩ : ReplyD)) = false by rw [decide_eq_false_iff_not]; exact fun e => h0 (by injection e))
    have hne0 : (a0 == b0) = false := by simpa using h0
    have hnf0 : (a0 != b0) = true := by simpa using h0
    clear h0
    go_enter Tryz.func22, Tryz.ntmps22
    go_wp2
    go_ret
    exact ⟨ret_bool HN.out.symm, ((Below.refl _ _).alloc (Nat.le_refl _) _).alloc (by simp) _⟩
set_option maxRecDepth 100000 in
set_option maxHeartbeats 1600000 in
theorem eqReplyS_any (v u : Value) (x y : List ReplyD) (w : World) (hx : FlatAt cReply 5 w v x) (hy : FlatAt cReply 5 w u y) :
    Calls Tryz.prog 28 #[v, u] w fun e w' => e = .returned (.bool (decide (x = y))) ∧ Below w.heap.size w w' := by
  obtain ⟨a, c, rfl, hl⟩ := flatAt_len hx
  obtain ⟨a2, c2, rfl, hl2⟩ := flatAt_len hy
  have HX := Lib.hid hx
  have HY := Lib.hid hy
  clear hx hy
  unfold maxLen at hl hl2
  by_cases he : x.length = y.length
  · have hb : ((x.length : Int) == y.length) = true := beq_iff_eq.2 (by omega)
    have hbn : ((x.length : Int) != y.length) = false := by rw [bne_eq_false_iff_eq]; omega
    have HE := Lib.hid he
    clear he
    go_enter Tryz.func28, Tryz.ntmps28
    go_wp2
    go_loopw [5] (fun i wr => ∃ k : Nat, k ≤ x.length ∧ i = .int .i64 k ∧ x.take k = y.take k ∧ Below w.heap.size w wr) (fun i _ => x.length - (intOf i).toNat)
    case atStart => exact ⟨0, Nat.zero_le _, rfl, rfl, Below.refl _ _⟩
    case round =>
      obtain ⟨k, hk, rfl, ht, hbr⟩ := hrel
      have HT := Lib.hid ht
      have HB := Lib.hid hbr
      have HXr := Lib.hid (FlatAt.below HX.out hbr (Nat.le_refl _))
      have HYr := Lib.hid (FlatAt.below HY.out hbr (Nat.le_refl _))
      clear ht hbr
      by_cases hlt : k < x.length
      · have hky : k < y.length := by have := HE.out; omega
        obtain ⟨b, o, rfl, _, hd⟩ := flatAt_cell cReply_len HXr.out k hlt (by decide)
        obtain ⟨b2, o2, rfl, _, hd2⟩ := flatAt_cell cReply_len HYr.out k hky (by decide)
        have d0 := hd 0 (by decide)
        have d1 := hd 1 (by decide)
        have d2 := hd 2 (by decide)
        have d3 := hd 3 (by decide)
        have d4 := hd 4 (by decide)
        have q0 := hd2 0 (by decide)
        have q1 := hd2 1 (by decide)
        have q2 := hd2 2 (by decide)
        have q3 := hd2 3 (by decide)
        have q4 := hd2 4 (by decide)
        clear hd hd2
        have HS := Lib.hid (take_eq_step x y HE.out k hlt HT.out)
        have HD := Lib.hid (show x[k] ≠ y[k] → ¬ x = y from fun h e => h (by subst e; rfl))
        have HC := Lib.hid (eqReply_any x[k] y[k])
        generalize x[k] = p at *
        generalize y[k] = q at *
        obtain ⟨a0, a1, a2, a3, a4⟩ := p
        obtain ⟨b0, b1, b2, b3, b4⟩ := q
        simp only [cReply, vReply, List.getElem?_cons_zero, List.getElem?_cons_succ, Nat.add_zero] at d0 q0 d1 q1 d2 q2 d3 q3 d4 q4 HC
        go_wp2
        go_still_tail 8, (by kernel_rfl)
        have HB1 := Lib.hid (show Below w.heap.size w wr.drew from ⟨HB.out.os, HB.out.tape, HB.out.output, HB.out.size, HB.out.block⟩)
        change wpList _ _ _ _ _ wr.drew
        generalize wr.drew = w1 at *
        go_wp2_with fail
        refine (HC.out _).mono ?_
        rintro e w2 ⟨rfl, hb0⟩
        have HB2 := Lib.hid (HB1.out.trans (hb0.mono HB1.out.size))
        clear hb0
        by_cases heq : (⟨a0, a1, a2, a3, a4⟩ : ReplyD) = (⟨b0, b1, b2, b3, b4⟩ : ReplyD)
        · have HN := Lib.hid (HS.out heq)
          rw [show decide ((⟨a0, a1, a2, a3, a4⟩ : ReplyD) = (⟨b0, b1, b2, b3, b4⟩ : ReplyD)) = true by simpa using heq]
          clear heq
          go_wp2_with fail
          exact ⟨⟨k + 1, by omega, by go_num, HN.out, HB2.out⟩, by simp [intOf]; omega⟩
        · have HN := Lib.hid (HD.out heq)
          rw [show decide ((⟨a0, a1, a2, a3, a4⟩ : ReplyD) = (⟨b0, b1, b2, b3, b4⟩ : ReplyD)) = false by rw [decide_eq_false_iff_not]; exact heq]
          clear heq
          go_wp2_with fail
          go_ret
          exact ⟨ret_bool (by simp [HN.out]), HB2.out⟩
      · have HN := Lib.hid (show x = y from by
          have h := HT.out
          rw [List.take_of_length_le (by omega), List.take_of_length_le (by have := HE.out; omega)] at h
          exact h)
        go_wp2
        go_ret
        exact ⟨ret_bool (by simp [HN.out]), HB.out⟩
  · have hb : ((x.length : Int) == y.length) = false := beq_eq_false_iff_ne.2 (by omega)
    have hbn : ((x.length : Int) != y.length) = true := by rw [bne_iff_ne]; omega
    have HN := Lib.hid (show ¬ x = y from fun e => he (by rw [e]))
    clear he
    go_enter Tryz.func28, Tryz.ntmps28
    go_wp2
    go_ret
    exact ⟨ret_bool (by simp [HN.out]), Below.refl _ _⟩
def zReply (d : ReplyD) : Nat := d.fText.length
theorem infoReply : (Tryz.prog.info? 32).map (fun i => (i.zero, i.size, i.bytes)) = some (some (.agg #[.int .i64 0, .int .i64 0, .string ⟨#[]⟩, .int .i64 0, .int .i64 0]), 5, 48) := by kernel_rfl
def marksReply (k : Int) (n : Nat) : List ReplyD := (List.range n).map fun i : Nat => ⟨k + i * 5, k + i * 5 + 1, markL (k + i * 5 + 1 + 1), k + i * 5 + 1 + 1 + 1, k + i * 5 + 1 + 1 + 1 + 1⟩
theorem marksReply_len (k : Int) (n : Nat) : (marksReply k n).length = n := by simp [marksReply]
theorem marksReply_get (k : Int) (n i : Nat) (h : i < n) : (marksReply k n)[i]'(by rw [marksReply_len]; exact h) = ⟨k + i * 5, k + i * 5 + 1, markL (k + i * 5 + 1 + 1), k + i * 5 + 1 + 1 + 1, k + i * 5 + 1 + 1 + 1 + 1⟩ := by simp [marksReply]
set_option maxRecDepth 100000 in
set_option maxHeartbeats 1600000 in
theorem markReplyS_any (B : Nat) (v : Value) (x : List ReplyD) (k : Int) (w : World) (hO : OwnsF cReply 32 5 w B v x) (hm : x.length ≤ 2097152) (h0 : 1 ≤ k) (h1 : k ≤ 16777216) :
    Calls Tryz.prog 31 #[v, .int .i64 k] w fun e w' => e = .returned (.int .i64 (k + x.length * 5)) ∧ OwnsF cReply 32 5 w' B v (marksReply k x.length) ∧ w.grownBy w' v.ownBlock := by
  unfold OwnsF at hO
  rcases hO.2 with ⟨rfl, hn⟩ | ⟨g, cap, cur, rfl, _⟩
  · have hx : x = [] := List.eq_nil_of_length_eq_zero hn
    subst hx
    go_enter Tryz.func31, Tryz.ntmps31
    go_wp2_with fail
    refine wp_loop_rounds 1 ?_
    rw [rounds_succ]
    go_wp2_with fail
    go_ret
    exact ⟨ret_int (by simp), by simpa [OwnsF, marksReply] using hO, grownBy_refl _ _⟩
  · have HO := Lib.hid (show ∃ xs, w.ownsRow B 32 5 (.slice (some ⟨g, 0, none⟩) x.length cap) x.length xs ∧ xs.take (0 * 5) = ((marksReply k x.length).flatMap cReply).take (0 * 5) from ⟨_, hO, by simp⟩)
    have hgw : g < w.heap.size := (hO.lt g rfl).2
    clear hO
    go_enter Tryz.func31, Tryz.ntmps31
    go_wp2_with fail
    go_loopw [1, 5] (fun kv i wr => ∃ j : Nat, j ≤ x.length ∧ i = .int .i64 j ∧ kv = .int .i64 (k + j * 5) ∧ (∃ xs, wr.ownsRow B 32 5 (.slice (some ⟨g, 0, none⟩) x.length cap) x.length xs ∧ xs.take (j * 5) = ((marksReply k x.length).flatMap cReply).take (j * 5)) ∧ w.grownBy wr (some g)) (fun _ i _ => x.length - (intOf i).toNat)
    case atStart => exact ⟨0, Nat.zero_le _, rfl, by simp, HO.out, grownBy_refl _ _⟩
    case round =>
      obtain ⟨j, hj, rfl, rfl, ⟨xs, hown, htake⟩, hg⟩ := hrel
      have HG := Lib.hid hg
      have HOw := Lib.hid hown
      have HT := Lib.hid htake
      have HXL := Lib.hid (show xs.length = x.length * 5 from hown.1)
      clear hg hown htake
      by_cases hlt : j < x.length
      · have G0 := Lib.hid (flat_get cReply 5 cReply_len (marksReply k x.length) j (by rw [marksReply_len]; exact hlt) 0 (by decide))
        have G1 := Lib.hid (flat_get cReply 5 cReply_len (marksReply k x.length) j (by rw [marksReply_len]; exact hlt) 1 (by decide))
        have G2 := Lib.hid (flat_get cReply 5 cReply_len (marksReply k x.length) j (by rw [marksReply_len]; exact hlt) 2 (by decide))
        have G3 := Lib.hid (flat_get cReply 5 cReply_len (marksReply k x.length) j (by rw [marksReply_len]; exact hlt) 3 (by decide))
        have G4 := Lib.hid (flat_get cReply 5 cReply_len (marksReply k x.length) j (by rw [marksReply_len]; exact hlt) 4 (by decide))
        rw [marksReply_get k _ j hlt] at G0 G1 G2 G3 G4
        simp only [cReply, List.getElem?_cons_zero, List.getElem?_cons_succ, Nat.add_zero] at G0 G1 G2 G3 G4
        obtain ⟨u0, c0⟩ : ∃ u, wr.cell? ⟨g, j * 5, none⟩ = some u := by
          rw [World.ownsRow.cellAt HOw.out (j * 5) (by omega), List.getElem?_eq_getElem (by have := HXL.out; (try simp only [List.length_set]); omega)]
          exact ⟨_, rfl⟩
        have f0 := World.ownsRow.frozenAt HOw.out (j * 5)
        obtain ⟨u1, c1⟩ : ∃ u, wr.cell? ⟨g, j * 5 + 1, none⟩ = some u := by
          rw [World.ownsRow.cellAt HOw.out (j * 5 + 1) (by omega), List.getElem?_eq_getElem (by have := HXL.out; (try simp only [List.length_set]); omega)]
          exact ⟨_, rfl⟩
        have f1 := World.ownsRow.frozenAt HOw.out (j * 5 + 1)
        have HS0 := Lib.hid (World.ownsRow.stored HOw.out (j * 5) (.int .i64 (k + j * 5)))
        have HT0 := Lib.hid (take_set_get _ _ (j * 5) _ (by have := HXL.out; (try simp only [List.length_set]); omega) G0.out HT.out)
        have HS1 := Lib.hid (World.ownsRow.stored HS0.out.1 (j * 5 + 1) (.int .i64 (k + j * 5 + 1)))
        have HT1 := Lib.hid (take_set_get _ _ (j * 5 + 1) _ (by have := HXL.out; (try simp only [List.length_set]); omega) G1.out HT0.out)
        go_wp2_with fail
        refine (markText_any (k + j * 5 + 1 + 1) _ (by omega) (by omega)).mono ?_
        rintro e w1 ⟨rfl, hb⟩
        have HO1 := Lib.hid (ownsRow_below HS1.out.1 hb (Nat.le_refl _))
        have HG1 := Lib.hid (grownBy_below ((grownBy_trans (grownBy_trans HG.out HS0.out.2) HS1.out.2)) hb ((grownBy_trans (grownBy_trans HG.out HS0.out.2) HS1.out.2)).size)
        clear hb
        obtain ⟨u2, c2⟩ : ∃ u, w1.cell? ⟨g, j * 5 + 2, none⟩ = some u := by
          rw [World.ownsRow.cellAt HO1.out (j * 5 + 2) (by omega), List.getElem?_eq_getElem (by have := HXL.out; (try simp only [List.length_set]); omega)]
          exact ⟨_, rfl⟩
        have f2 := World.ownsRow.frozenAt HO1.out (j * 5 + 2)
        obtain ⟨u3, c3⟩ : ∃ u, w1.cell? ⟨g, j * 5 + 3, none⟩ = some u := by
          rw [World.ownsRow.cellAt HO1.out (j * 5 + 3) (by omega), List.getElem?_eq_getElem (by have := HXL.out; (try simp only [List.length_set]); omega)]
          exact ⟨_, rfl⟩
        have f3 := World.ownsRow.frozenAt HO1.out (j * 5 + 3)
        obtain ⟨u4, c4⟩ : ∃ u, w1.cell? ⟨g, j * 5 + 4, none⟩ = some u := by
          rw [World.ownsRow.cellAt HO1.out (j * 5 + 4) (by omega), List.getElem?_eq_getElem (by have := HXL.out; (try simp only [List.length_set]); omega)]
          exact ⟨_, rfl⟩
        have f4 := World.ownsRow.frozenAt HO1.out (j * 5 + 4)
        have HS2 := Lib.hid (World.ownsRow.stored HO1.out (j * 5 + 2) (.string ⟨(markL (k + j * 5 + 1 + 1)).toArray⟩))
        have HT2 := Lib.hid (take_set_get _ _ (j * 5 + 2) _ (by have := HXL.out; (try simp only [List.length_set]); omega) G2.out HT1.out)
        have HS3 := Lib.hid (World.ownsRow.stored HS2.out.1 (j * 5 + 3) (.int .i64 (k + j * 5 + 1 + 1 + 1)))
        have HT3 := Lib.hid (take_set_get _ _ (j * 5 + 3) _ (by have := HXL.out; (try simp only [List.length_set]); omega) G3.out HT2.out)
        have HS4 := Lib.hid (World.ownsRow.stored HS3.out.1 (j * 5 + 4) (.int .i64 (k + j * 5 + 1 + 1 + 1 + 1)))
        have HT4 := Lib.hid (take_set_get _ _ (j * 5 + 4) _ (by have := HXL.out; (try simp only [List.length_set]); omega) G4.out HT3.out)
        go_wp2_with fail
        refine ⟨⟨j + 1, by omega, by go_num, ?_, ⟨_, HS4.out.1, by rw [show (j + 1) * 5 = j * 5 + 4 + 1 by omega]; exact HT4.out⟩, ?_⟩, by simp [intOf]; omega⟩
        · congr 1; push_cast; omega
        · exact (grownBy_trans (grownBy_trans (grownBy_trans HG1.out HS2.out.2) HS3.out.2) HS4.out.2)
      · have HN := Lib.hid (show xs = (marksReply k x.length).flatMap cReply from by
          have h := HT.out
          rw [List.take_of_length_le (by have := HXL.out; omega), List.take_of_length_le (by rw [flat_len cReply 5 cReply_len, marksReply_len]; omega)] at h
          exact h)
        go_wp2_with fail
        go_ret
        exact ⟨ret_int (by rw [show j = x.length by omega]), by have h := HOw.out; rw [HN.out] at h; unfold OwnsF; rw [marksReply_len]; exact h, HG.out⟩
set_option maxRecDepth 100000 in
set_option maxHeartbeats 1600000 in
theorem heldReplyS_any (v : Value) (n : Nat) (k : Int) (w : World) (hR : FlatAt cReply 5 w v (marksReply k n)) (hm : n ≤ 2097152) (h0 : 1 ≤ k) (h1 : k ≤ 16777216) :
    Calls Tryz.prog 32 #[v, .int .i64 k] w fun e w' => e = .returned (.int .i64 (k + n * 5)) ∧ Below w.heap.size w w' := by
  obtain ⟨a, c, rfl, hl⟩ := flatAt_len hR
  rw [marksReply_len] at *
  have HR := Lib.hid hR
  clear hR
  unfold maxLen at hl
  go_enter Tryz.func32, Tryz.ntmps32
  go_wp2_with fail
  go_loopw [1, 5] (fun kv i wr => ∃ j : Nat, j ≤ n ∧ i = .int .i64 j ∧ kv = .int .i64 (k + j * 5) ∧ Below w.heap.size w wr) (fun _ i _ => n - (intOf i).toNat)
  case atStart => exact ⟨0, Nat.zero_le _, rfl, by simp, Below.refl _ _⟩
  case round =>
    obtain ⟨j, hj, rfl, rfl, hb⟩ := hrel
    have HB := Lib.hid hb
    have HRr := Lib.hid (FlatAt.below HR.out hb (Nat.le_refl _))
    clear hb
    by_cases hlt : j < n
    · obtain ⟨b, o, rfl, hbw, hd⟩ := flatAt_cell cReply_len HRr.out j (by rw [marksReply_len]; exact hlt) (by decide)
      rw [marksReply_get k n j hlt] at hd
      have d0 := hd 0 (by decide)
      have d1 := hd 1 (by decide)
      have d2 := hd 2 (by decide)
      have d3 := hd 3 (by decide)
      have d4 := hd 4 (by decide)
      clear hd
      simp only [cReply, List.getElem?_cons_zero, List.getElem?_cons_succ, Nat.add_zero] at d0 d1 d2 d3 d4
      have hj0 : (0 : Int) ≤ (j : Int) := Int.natCast_nonneg _
      have hj1 : (j : Int) < (n : Int) := by omega
      have D0 := Lib.hid d0
      have D1 := Lib.hid d1
      have D2 := Lib.hid d2
      have D3 := Lib.hid d3
      have D4 := Lib.hid d4
      clear d0 d1 d2 d3 d4
      have HBL := Lib.hid hbw
      have d0 := D0.out
      have d1 := D1.out
      have d2 := D2.out
      have hbeq2 : (markL (k + j * 5 + 1 + 1) == markL (k + j * 5 + 1 + 1)) = true := by simp
      go_wp2_with fail
      go_region_held3 (fun w' => w'.cell? ⟨b, o + j * 5 + 2, none⟩ = some (.string ⟨(markL (k + j * 5 + 1 + 1)).toArray⟩))
        (first
          | go_keep
          | (rw [hb1.cell (p := ⟨b, o + j * 5 + 2, none⟩) (by simpa using hbw)]; assumption))
        ((go_at_call 60; refine (markText_any (k + j * 5 + 1 + 1) _ (by omega) (by omega)).mono ?_; rintro e w1 ⟨rfl, hb1⟩))
      have hB1 : Below wr.heap.size wr w1 := ⟨hb1.os, hb1.tape, hb1.output, hb1.size, hb1.block⟩
      have HB1 := Lib.hid (HB.out.trans (hB1.mono HB.out.size))
      have E1_3 := Lib.hid (show w1.cell? ⟨b, o + j * 5 + 3, none⟩ = some (.int .i64 (k + j * 5 + 1 + 1 + 1)) by rw [hB1.cell (p := ⟨b, o + j * 5 + 3, none⟩) hbw]; exact D3.out)
      have E1_4 := Lib.hid (show w1.cell? ⟨b, o + j * 5 + 4, none⟩ = some (.int .i64 (k + j * 5 + 1 + 1 + 1 + 1)) by rw [hB1.cell (p := ⟨b, o + j * 5 + 4, none⟩) hbw]; exact D4.out)
      have hbw1 : b < w1.heap.size := Nat.lt_of_lt_of_le hbw hB1.size
      clear hb1 hB1
      have hbw := hbw1
      have d3 := E1_3.out
      have d4 := E1_4.out
      go_wp2_with fail
      exact ⟨⟨j + 1, by omega, by go_num, by congr 1; push_cast; omega, HB1.out⟩, by simp [intOf]; omega⟩
    · go_wp2_with fail
      go_ret
      exact ⟨ret_int (by rw [show j = n by omega]), HB.out⟩
end Go.Proofs.YtghebbndfpbkcaaGreat
/- Call: what the laws' own helpers do with it. Written by gen/flat.py. -/
namespace Go.Proofs.YtghebbndfpbkcaaGreat
set_option linter.unusedVariables false
open Go.RowKit
structure CallD where
  fMethod : List UInt8
  fKey : List UInt8
  fValue : Int
  fText : List UInt8
deriving DecidableEq
def okCall (d : CallD) : Prop := (d.fMethod.length ≤ maxLen) ∧ (d.fKey.length ≤ maxLen) ∧ (-9223372036854775808 ≤ d.fValue ∧ d.fValue ≤ 9223372036854775807) ∧ (d.fText.length ≤ maxLen)
def vCall (d : CallD) : Value := .agg #[.string ⟨d.fMethod.toArray⟩, .string ⟨d.fKey.toArray⟩, .int .i64 d.fValue, .string ⟨d.fText.toArray⟩]
def cCall (d : CallD) : List Value := [.string ⟨d.fMethod.toArray⟩, .string ⟨d.fKey.toArray⟩, .int .i64 d.fValue, .string ⟨d.fText.toArray⟩]
theorem cCall_len (d : CallD) : (cCall d).length = 4 := rfl
theorem cCall_one (d : CallD) : ∀ u ∈ cCall d, u.oneCell' = true := by intro u hu; simp only [cCall, List.mem_cons, List.not_mem_nil, or_false] at hu; rcases hu with rfl | rfl | rfl | rfl <;> rfl
set_option maxHeartbeats 800000 in
theorem eqCall_any (x y : CallD) (w : World) :
    Calls Tryz.prog 59 #[vCall x, vCall y] w fun e w' => e = .returned (.bool (decide (x = y))) ∧ Below w.heap.size w w' := by
  obtain ⟨a0, a1, a2, a3⟩ := x
  obtain ⟨b0, b1, b2, b3⟩ := y
  unfold vCall
  by_cases h0 : a0 = b0
  · by_cases h1 : a1 = b1
    · by_cases h2 : a2 = b2
      · by_cases h3 : a3 = b3
        · have HN := Lib.hid (show decide ((⟨a0, a1, a2, a3⟩ : CallD) = (⟨b0, b1, b2, b3⟩ : CallD)) = true by rw [h0, h1, h2, h3]; simp)
          subst h0 h1 h2 h3
          go_enter Tryz.func59, Tryz.ntmps59
          go_wp2
          go_ret
          exact ⟨ret_bool HN.out.symm, ((Below.refl _ _).alloc (Nat.le_refl _) _).alloc (by simp) _⟩
        · have HN := Lib.hid (show decide ((⟨a0, a1, a2, a3⟩ : CallD) = (⟨b0, b1, b2, b3⟩ : CallD)) = false by rw [decide_eq_false_iff_not]; exact fun e => h3 (by injection e))
          have hne3 : (a3 == b3) = false := by simpa using h3
          have hnf3 : (a3 != b3) = true := by simpa using h3
          subst h0 h1 h2
          clear h3
          go_enter Tryz.func59, Tryz.ntmps59
          go_wp2
          go_ret
          exact ⟨ret_bool HN.out.symm, ((Below.refl _ _).alloc (Nat.le_refl _) _).alloc (by simp) _⟩
      · have HN := Lib.hid (show decide ((⟨a0, a1, a2, a3⟩ : CallD) = (⟨b0, b1, b2, b3⟩ : CallD)) = false by rw [decide_eq_false_iff_not]; exact fun e => h2 (by injection e))
        have hne2 : (a2 == b2) = false := by simpa using h2
        have hnf2 : (a2 != b2) = true := by simpa using h2
        subst h0 h1
        clear h2
        go_enter Tryz.func59, Tryz.ntmps59
        go_wp2
        go_ret
        exact ⟨ret_bool HN.out.symm, ((Below.refl _ _).alloc (Nat.le_refl _) _).alloc (by simp) _⟩
    · have HN := Lib.hid (show decide ((⟨a0, a1, a2, a3⟩ : CallD) = (⟨b0, b1, b2, b3⟩ : CallD)) = false by rw [decide_eq_false_iff_not]; exact fun e => h1 (by injection e))
      have hne1 : (a1 == b1) = false := by simpa using h1
      have hnf1 : (a1 != b1) = true := by simpa using h1
      subst h0
      clear h1
      go_enter Tryz.func59, Tryz.ntmps59
      go_wp2
      go_ret
      exact ⟨ret_bool HN.out.symm, ((Below.refl _ _).alloc (Nat.le_refl _) _).alloc (by simp) _⟩
  · have HN := Lib.hid (show decide ((⟨a0, a1, a2, a3⟩ : CallD) = (⟨b0, b1, b2, b3⟩ : CallD)) = false by rw [decide_eq_false_iff_not]; exact fun e => h0 (by injection e))
    have hne0 : (a0 == b0) = false := by simpa using h0
    have hnf0 : (a0 != b0) = true := by simpa using h0
    clear h0
    go_enter Tryz.func59, Tryz.ntmps59
    go_wp2
    go_ret
    exact ⟨ret_bool HN.out.symm, ((Below.refl _ _).alloc (Nat.le_refl _) _).alloc (by simp) _⟩
set_option maxHeartbeats 800000 in
theorem toCall_any (x : CallD) (w : World) :
    Calls Tryz.prog 20 #[vCall x] w fun e w' => e = .returned (vCall x) ∧ Below w.heap.size w w' := by
  obtain ⟨a0, a1, a2, a3⟩ := x
  unfold vCall
  go_enter Tryz.func20, Tryz.ntmps20
  go_wp2
  exact bodyPost_ret (v := .agg #[.string ⟨a0.toArray⟩, .string ⟨a1.toArray⟩, .int .i64 a2, .string ⟨a3.toArray⟩]) (by simp [results, Tryz.results20, go_sem]) rfl ⟨rfl, ((((Below.refl _ _).alloc (Nat.le_refl _) _).alloc (by simp) _).alloc (by simp; try omega) _)⟩
set_option maxRecDepth 100000 in
set_option maxHeartbeats 1600000 in
theorem eqCallS_any (v u : Value) (x y : List CallD) (w : World) (hx : FlatAt cCall 4 w v x) (hy : FlatAt cCall 4 w u y) :
    Calls Tryz.prog 29 #[v, u] w fun e w' => e = .returned (.bool (decide (x = y))) ∧ Below w.heap.size w w' := by
  obtain ⟨a, c, rfl, hl⟩ := flatAt_len hx
  obtain ⟨a2, c2, rfl, hl2⟩ := flatAt_len hy
  have HX := Lib.hid hx
  have HY := Lib.hid hy
  clear hx hy
  unfold maxLen at hl hl2
  by_cases he : x.length = y.length
  · have hb : ((x.length : Int) == y.length) = true := beq_iff_eq.2 (by omega)
    have hbn : ((x.length : Int) != y.length) = false := by rw [bne_eq_false_iff_eq]; omega
    have HE := Lib.hid he
    clear he
    go_enter Tryz.func29, Tryz.ntmps29
    go_wp2
    go_loopw [5] (fun i wr => ∃ k : Nat, k ≤ x.length ∧ i = .int .i64 k ∧ x.take k = y.take k ∧ Below w.heap.size w wr) (fun i _ => x.length - (intOf i).toNat)
    case atStart => exact ⟨0, Nat.zero_le _, rfl, rfl, Below.refl _ _⟩
    case round =>
      obtain ⟨k, hk, rfl, ht, hbr⟩ := hrel
      have HT := Lib.hid ht
      have HB := Lib.hid hbr
      have HXr := Lib.hid (FlatAt.below HX.out hbr (Nat.le_refl _))
      have HYr := Lib.hid (FlatAt.below HY.out hbr (Nat.le_refl _))
      clear ht hbr
      by_cases hlt : k < x.length
      · have hky : k < y.length := by have := HE.out; omega
        obtain ⟨b, o, rfl, _, hd⟩ := flatAt_cell cCall_len HXr.out k hlt (by decide)
        obtain ⟨b2, o2, rfl, _, hd2⟩ := flatAt_cell cCall_len HYr.out k hky (by decide)
        have d0 := hd 0 (by decide)
        have d1 := hd 1 (by decide)
        have d2 := hd 2 (by decide)
        have d3 := hd 3 (by decide)
        have q0 := hd2 0 (by decide)
        have q1 := hd2 1 (by decide)
        have q2 := hd2 2 (by decide)
        have q3 := hd2 3 (by decide)
        clear hd hd2
        have HS := Lib.hid (take_eq_step x y HE.out k hlt HT.out)
        have HD := Lib.hid (show x[k] ≠ y[k] → ¬ x = y from fun h e => h (by subst e; rfl))
        have HC := Lib.hid (eqCall_any x[k] y[k])
        generalize x[k] = p at *
        generalize y[k] = q at *
        obtain ⟨a0, a1, a2, a3⟩ := p
        obtain ⟨b0, b1, b2, b3⟩ := q
        simp only [cCall, vCall, List.getElem?_cons_zero, List.getElem?_cons_succ, Nat.add_zero] at d0 q0 d1 q1 d2 q2 d3 q3 HC
        go_wp2
        go_still_tail 8, (by kernel_rfl)
        have HB1 := Lib.hid (show Below w.heap.size w wr.drew from ⟨HB.out.os, HB.out.tape, HB.out.output, HB.out.size, HB.out.block⟩)
        change wpList _ _ _ _ _ wr.drew
        generalize wr.drew = w1 at *
        go_wp2_with fail
        refine (HC.out _).mono ?_
        rintro e w2 ⟨rfl, hb0⟩
        have HB2 := Lib.hid (HB1.out.trans (hb0.mono HB1.out.size))
        clear hb0
        by_cases heq : (⟨a0, a1, a2, a3⟩ : CallD) = (⟨b0, b1, b2, b3⟩ : CallD)
        · have HN := Lib.hid (HS.out heq)
          rw [show decide ((⟨a0, a1, a2, a3⟩ : CallD) = (⟨b0, b1, b2, b3⟩ : CallD)) = true by simpa using heq]
          clear heq
          go_wp2_with fail
          exact ⟨⟨k + 1, by omega, by go_num, HN.out, HB2.out⟩, by simp [intOf]; omega⟩
        · have HN := Lib.hid (HD.out heq)
          rw [show decide ((⟨a0, a1, a2, a3⟩ : CallD) = (⟨b0, b1, b2, b3⟩ : CallD)) = false by rw [decide_eq_false_iff_not]; exact heq]
          clear heq
          go_wp2_with fail
          go_ret
          exact ⟨ret_bool (by simp [HN.out]), HB2.out⟩
      · have HN := Lib.hid (show x = y from by
          have h := HT.out
          rw [List.take_of_length_le (by omega), List.take_of_length_le (by have := HE.out; omega)] at h
          exact h)
        go_wp2
        go_ret
        exact ⟨ret_bool (by simp [HN.out]), HB.out⟩
  · have hb : ((x.length : Int) == y.length) = false := beq_eq_false_iff_ne.2 (by omega)
    have hbn : ((x.length : Int) != y.length) = true := by rw [bne_iff_ne]; omega
    have HN := Lib.hid (show ¬ x = y from fun e => he (by rw [e]))
    clear he
    go_enter Tryz.func29, Tryz.ntmps29
    go_wp2
    go_ret
    exact ⟨ret_bool (by simp [HN.out]), Below.refl _ _⟩
def zCall (d : CallD) : Nat := d.fMethod.length + d.fKey.length + d.fText.length
set_option maxHeartbeats 800000 in
theorem szCall_any (x : CallD) (left : Int) (w : World) (h0 : 0 ≤ left) (h1 : left ≤ 1099511627776) (hs : okCall x) :
    Calls Tryz.prog 17 #[vCall x, .int .i64 left] w fun e w' => SzF (zCall x) left w e w' := by
  obtain ⟨a0, a1, a2, a3⟩ := x
  obtain ⟨hs0, hs1, hs2, hs3⟩ := hs
  simp only [vCall, zCall] at *
  unfold maxLen at *
  have HZ0 := Lib.hid (size_strB a0)
  have HZ1 := Lib.hid (size_strB a1)
  have HZ3 := Lib.hid (size_strB a3)
  by_cases hn0 : left - (a0.length : Int) < 0
  · go_enter Tryz.func17, Tryz.ntmps17
    go_wp2
    go_ret
    exact ⟨-1, rfl, by omega, by omega, (Below.refl _ _).alloc (Nat.le_refl _) _⟩
  · by_cases hn1 : left - (a0.length : Int) - (a1.length : Int) < 0
    · go_enter Tryz.func17, Tryz.ntmps17
      go_wp2
      go_ret
      exact ⟨-1, rfl, by omega, by omega, (Below.refl _ _).alloc (Nat.le_refl _) _⟩
    · by_cases hn2 : left - (a0.length : Int) - (a1.length : Int) - (a3.length : Int) < 0
      · go_enter Tryz.func17, Tryz.ntmps17
        go_wp2
        go_ret
        exact ⟨-1, rfl, by omega, by omega, (Below.refl _ _).alloc (Nat.le_refl _) _⟩
      · go_enter Tryz.func17, Tryz.ntmps17
        go_wp2
        go_ret
        exact ⟨_, rfl, by omega, by push_cast; omega, (Below.refl _ _).alloc (Nat.le_refl _) _⟩
set_option maxRecDepth 100000 in
set_option maxHeartbeats 800000 in
theorem szCallS_any (v : Value) (x : List CallD) (left : Int) (w : World) (hx : FlatAt cCall 4 w v x) (hs : ∀ d ∈ x, okCall d) (h0 : 0 ≤ left) (h1 : left ≤ 1099511627776) :
    Calls Tryz.prog 25 #[v, .int .i64 left] w fun e w' => SzF (x.length + sumF zCall x) left w e w' := by
  obtain ⟨a, c, rfl, hl⟩ := flatAt_len hx
  have HX := Lib.hid hx
  have HS := Lib.hid hs
  clear hx hs
  unfold maxLen at hl
  by_cases hneg : left - (x.length : Int) < 0
  · go_enter Tryz.func25, Tryz.ntmps25
    go_wp2
    go_ret
    exact ⟨-1, rfl, by omega, by omega, Below.refl _ _⟩
  · go_enter Tryz.func25, Tryz.ntmps25
    go_wp2
    go_loopw [1, 5] (fun r i wr => ∃ k : Nat, ∃ z : Int, k ≤ x.length ∧ i = .int .i64 k ∧ r = .int .i64 z ∧ 0 ≤ z ∧ z ≤ left ∧ (x.length : Int) + sumF zCall (x.take k) + z = left ∧ Below w.heap.size w wr) (fun _ i _ => x.length - (intOf i).toNat)
    case atStart => exact ⟨0, _, Nat.zero_le _, rfl, rfl, by omega, by omega, by simp [sumF]; omega, Below.refl _ _⟩
    case round =>
      obtain ⟨k, z, hk, rfl, rfl, hz0, hz1, ht, hbr⟩ := hrel
      have HT := Lib.hid ht
      have HB := Lib.hid hbr
      have HXr := Lib.hid (FlatAt.below HX.out hbr (Nat.le_refl _))
      clear ht hbr
      by_cases hlt : k < x.length
      · obtain ⟨b, o, rfl, _, hd⟩ := flatAt_cell cCall_len HXr.out k hlt (by decide)
        have d0 := hd 0 (by decide)
        have d1 := hd 1 (by decide)
        have d2 := hd 2 (by decide)
        have d3 := hd 3 (by decide)
        clear hd
        have HC := Lib.hid (szCall_any x[k] z wr hz0 (by omega) (HS.out _ (List.getElem_mem hlt)))
        have HK := Lib.hid (sumF_take_succ zCall x k hlt)
        generalize x[k] = p at *
        have HP := Lib.hid (rfl : zCall p = zCall p)
        obtain ⟨a0, a1, a2, a3⟩ := p
        simp only [cCall, vCall, List.getElem?_cons_zero, List.getElem?_cons_succ, Nat.add_zero] at d0 d1 d2 d3 HC
        go_wp2_with fail
        refine HC.out.mono ?_
        rintro e w2 ⟨r, rfl, hr0, hr1, hb0⟩
        have HB2 := Lib.hid (HB.out.trans (hb0.mono HB.out.size))
        have HR := Lib.hid hr1
        clear hb0 hr1
        by_cases hn2 : r < 0
        · go_wp2_with fail
          go_ret
          exact ⟨-1, rfl, by omega, by omega, HB2.out⟩
        · have hr := HR.out (by omega)
          go_wp2_with fail
          exact ⟨⟨k + 1, _, by omega, by go_num, rfl, by omega, by omega, by rw [HK.out]; have := HT.out; push_cast; omega, HB2.out⟩, by simp [intOf]; omega⟩
      · have HN := Lib.hid (show x.take k = x from List.take_of_length_le (by omega))
        go_wp2
        go_ret
        exact ⟨z, rfl, by omega, fun _ => by have := HT.out; rw [HN.out] at this; omega, HB.out⟩
theorem infoCall : (Tryz.prog.info? 28).map (fun i => (i.zero, i.size, i.bytes)) = some (some (.agg #[.string ⟨#[]⟩, .string ⟨#[]⟩, .int .i64 0, .string ⟨#[]⟩]), 4, 56) := by kernel_rfl
set_option maxRecDepth 100000 in
set_option maxHeartbeats 1600000 in
theorem toCallS_any (v : Value) (x : List CallD) (w : World) (hx : FlatAt cCall 4 w v x) (hm : x.length ≤ 2097152) :
    Calls Tryz.prog 27 #[v] w fun e w' => e = .returned (.slice (some ⟨w.heap.size, 0, none⟩) x.length x.length) ∧ OwnsF cCall 28 4 w' w.heap.size (.slice (some ⟨w.heap.size, 0, none⟩) x.length x.length) x ∧ Below w.heap.size w w' := by
  obtain ⟨a, c, rfl, hl⟩ := flatAt_len hx
  obtain ⟨i0, hi, hz0, hz1, hz2⟩ := info_parts infoCall
  have HX := Lib.hid hx
  clear hx
  unfold maxLen at hl
  go_enter Tryz.func27, Tryz.ntmps27
  have hb2 : i0.bytes * x.length ≤ 281474976710656 := by rw [hz2]; omega
  have HB2 := Lib.hid hb2
  have HM := Lib.hid (show x.length ≤ maxLen from by unfold maxLen; omega)
  clear hb2
  go_wp2_with (refine wpList_make_full _ rfl (.tmp 6) (.tmp 6) 37 rfl w.heap.size 28 i0 _ 4 Tryz.underlying37 hi hz0 hz1 .i64 .i64 _ _ x.length rfl rfl rfl rfl HB2.out HM.out (Nat.le_refl _) ?_; intro w1 hown1 hgrow1)
  have HO := Lib.hid (show ∃ xs, w1.ownsRow w.heap.size 28 4 (.slice (some ⟨w.heap.size, 0, none⟩) x.length x.length) x.length xs ∧ xs.take (0 * 4) = (x.flatMap cCall).take (0 * 4) from ⟨_, hown1, by simp⟩)
  have HB := Lib.hid (show Below w.heap.size w w1 from ⟨hgrow1.os, hgrow1.tape, hgrow1.output, hgrow1.size, fun i hi => hgrow1.block i hi (by simp)⟩)
  have hsz := hgrow1.size
  clear hown1 hgrow1 hz0 hz1 hz2 HB2 hi
  go_loopw [4] (fun i wr => ∃ k : Nat, k ≤ x.length ∧ i = .int .i64 k ∧ (∃ xs, wr.ownsRow w.heap.size 28 4 (.slice (some ⟨w.heap.size, 0, none⟩) x.length x.length) x.length xs ∧ xs.take (k * 4) = (x.flatMap cCall).take (k * 4)) ∧ Below w.heap.size w wr) (fun i _ => x.length - (intOf i).toNat)
  case atStart => exact ⟨0, Nat.zero_le _, rfl, HO.out, HB.out⟩
  case round =>
    obtain ⟨k, hk, rfl, ⟨xs, hown, htake⟩, hb⟩ := hrel
    have HR := Lib.hid (FlatAt.below HX.out hb (Nat.le_refl _))
    have HBr := Lib.hid hb
    have HOw := Lib.hid hown
    have HT := Lib.hid htake
    have HXL := Lib.hid (show xs.length = x.length * 4 from hown.1)
    clear hb hown htake
    by_cases hlt : k < x.length
    · obtain ⟨b, o, rfl, _, hd⟩ := flatAt_cell cCall_len HR.out k hlt (by decide)
      have d0 := hd 0 (by decide)
      have d1 := hd 1 (by decide)
      have d2 := hd 2 (by decide)
      have d3 := hd 3 (by decide)
      have g0 := flat_get cCall 4 cCall_len x k hlt 0 (by decide)
      have g1 := flat_get cCall 4 cCall_len x k hlt 1 (by decide)
      have g2 := flat_get cCall 4 cCall_len x k hlt 2 (by decide)
      have g3 := flat_get cCall 4 cCall_len x k hlt 3 (by decide)
      clear hd
      have HC := Lib.hid (toCall_any x[k] wr)
      generalize x[k] = p at *
      obtain ⟨a0, a1, a2, a3⟩ := p
      simp only [cCall, vCall, List.getElem?_cons_zero, List.getElem?_cons_succ, Nat.add_zero] at d0 d1 d2 d3 HC g0 g1 g2 g3
      have G0 := Lib.hid g0
      have G1 := Lib.hid g1
      have G2 := Lib.hid g2
      have G3 := Lib.hid g3
      clear g0 g1 g2 g3
      go_wp2_with fail
      refine HC.out.mono ?_
      rintro e w2 ⟨rfl, hb0⟩
      have HB3 := Lib.hid (HBr.out.trans (hb0.mono HBr.out.size))
      have HO3 := Lib.hid (ownsRow_below HOw.out hb0 (Nat.le_refl _))
      clear hb0
      obtain ⟨u0, c0⟩ : ∃ u, w2.cell? ⟨w.heap.size, k * 4, none⟩ = some u := by
        rw [World.ownsRow.cellAt HO3.out (k * 4) (by omega), List.getElem?_eq_getElem (by have := HXL.out; omega)]
        exact ⟨_, rfl⟩
      have f0 := World.ownsRow.frozenAt HO3.out (k * 4)
      obtain ⟨u1, c1⟩ : ∃ u, w2.cell? ⟨w.heap.size, k * 4 + 1, none⟩ = some u := by
        rw [World.ownsRow.cellAt HO3.out (k * 4 + 1) (by omega), List.getElem?_eq_getElem (by have := HXL.out; omega)]
        exact ⟨_, rfl⟩
      have f1 := World.ownsRow.frozenAt HO3.out (k * 4 + 1)
      obtain ⟨u2, c2⟩ : ∃ u, w2.cell? ⟨w.heap.size, k * 4 + 2, none⟩ = some u := by
        rw [World.ownsRow.cellAt HO3.out (k * 4 + 2) (by omega), List.getElem?_eq_getElem (by have := HXL.out; omega)]
        exact ⟨_, rfl⟩
      have f2 := World.ownsRow.frozenAt HO3.out (k * 4 + 2)
      obtain ⟨u3, c3⟩ : ∃ u, w2.cell? ⟨w.heap.size, k * 4 + 3, none⟩ = some u := by
        rw [World.ownsRow.cellAt HO3.out (k * 4 + 3) (by omega), List.getElem?_eq_getElem (by have := HXL.out; omega)]
        exact ⟨_, rfl⟩
      have f3 := World.ownsRow.frozenAt HO3.out (k * 4 + 3)
      have HS0 := Lib.hid (World.ownsRow.stored HO3.out (k * 4) (.string ⟨a0.toArray⟩))
      have HT0 := Lib.hid (take_set_get _ (x.flatMap cCall) (k * 4) _ (by have := HXL.out; (try simp only [List.length_set]); omega) G0.out HT.out)
      have HS1 := Lib.hid (World.ownsRow.stored HS0.out.1 (k * 4 + 1) (.string ⟨a1.toArray⟩))
      have HT1 := Lib.hid (take_set_get _ (x.flatMap cCall) (k * 4 + 1) _ (by have := HXL.out; (try simp only [List.length_set]); omega) G1.out HT0.out)
      have HS2 := Lib.hid (World.ownsRow.stored HS1.out.1 (k * 4 + 2) (.int .i64 a2))
      have HT2 := Lib.hid (take_set_get _ (x.flatMap cCall) (k * 4 + 2) _ (by have := HXL.out; (try simp only [List.length_set]); omega) G2.out HT1.out)
      have HS3 := Lib.hid (World.ownsRow.stored HS2.out.1 (k * 4 + 3) (.string ⟨a3.toArray⟩))
      have HT3 := Lib.hid (take_set_get _ (x.flatMap cCall) (k * 4 + 3) _ (by have := HXL.out; (try simp only [List.length_set]); omega) G3.out HT2.out)
      go_wp2_with fail
      refine ⟨⟨k + 1, by omega, by go_num, ⟨_, HS3.out.1, by rw [show (k + 1) * 4 = k * 4 + 3 + 1 by omega]; exact HT3.out⟩, ?_⟩, by simp [intOf]; omega⟩
      exact ((((HB3.out.setCell (Nat.le_refl _) _).setCell (Nat.le_refl _) _).setCell (Nat.le_refl _) _).setCell (Nat.le_refl _) _)
    · have HN := Lib.hid (show xs = x.flatMap cCall from by
        have h := HT.out
        rw [List.take_of_length_le (by have := HXL.out; omega), List.take_of_length_le (by rw [flat_len cCall 4 cCall_len]; omega)] at h
        exact h)
      go_wp2
      go_ret
      exact ⟨rfl, by have h := HOw.out; rw [HN.out] at h; exact h, HBr.out⟩
def marksCall (k : Int) (n : Nat) : List CallD := (List.range n).map fun i : Nat => ⟨markL (k + i * 4), markL (k + i * 4 + 1), k + i * 4 + 1 + 1, markL (k + i * 4 + 1 + 1 + 1)⟩
theorem marksCall_len (k : Int) (n : Nat) : (marksCall k n).length = n := by simp [marksCall]
theorem marksCall_get (k : Int) (n i : Nat) (h : i < n) : (marksCall k n)[i]'(by rw [marksCall_len]; exact h) = ⟨markL (k + i * 4), markL (k + i * 4 + 1), k + i * 4 + 1 + 1, markL (k + i * 4 + 1 + 1 + 1)⟩ := by simp [marksCall]
set_option maxRecDepth 100000 in
set_option maxHeartbeats 1600000 in
theorem markCallS_any (B : Nat) (v : Value) (x : List CallD) (k : Int) (w : World) (hO : OwnsF cCall 28 4 w B v x) (hm : x.length ≤ 2097152) (h0 : 1 ≤ k) (h1 : k ≤ 16777216) :
    Calls Tryz.prog 30 #[v, .int .i64 k] w fun e w' => e = .returned (.int .i64 (k + x.length * 4)) ∧ OwnsF cCall 28 4 w' B v (marksCall k x.length) ∧ w.grownBy w' v.ownBlock := by
  unfold OwnsF at hO
  rcases hO.2 with ⟨rfl, hn⟩ | ⟨g, cap, cur, rfl, _⟩
  · have hx : x = [] := List.eq_nil_of_length_eq_zero hn
    subst hx
    go_enter Tryz.func30, Tryz.ntmps30
    go_wp2_with fail
    refine wp_loop_rounds 1 ?_
    rw [rounds_succ]
    go_wp2_with fail
    go_ret
    exact ⟨ret_int (by simp), by simpa [OwnsF, marksCall] using hO, grownBy_refl _ _⟩
  · have HO := Lib.hid (show ∃ xs, w.ownsRow B 28 4 (.slice (some ⟨g, 0, none⟩) x.length cap) x.length xs ∧ xs.take (0 * 4) = ((marksCall k x.length).flatMap cCall).take (0 * 4) from ⟨_, hO, by simp⟩)
    have hgw : g < w.heap.size := (hO.lt g rfl).2
    clear hO
    go_enter Tryz.func30, Tryz.ntmps30
    go_wp2_with fail
    go_loopw [1, 5] (fun kv i wr => ∃ j : Nat, j ≤ x.length ∧ i = .int .i64 j ∧ kv = .int .i64 (k + j * 4) ∧ (∃ xs, wr.ownsRow B 28 4 (.slice (some ⟨g, 0, none⟩) x.length cap) x.length xs ∧ xs.take (j * 4) = ((marksCall k x.length).flatMap cCall).take (j * 4)) ∧ w.grownBy wr (some g)) (fun _ i _ => x.length - (intOf i).toNat)
    case atStart => exact ⟨0, Nat.zero_le _, rfl, by simp, HO.out, grownBy_refl _ _⟩
    case round =>
      obtain ⟨j, hj, rfl, rfl, ⟨xs, hown, htake⟩, hg⟩ := hrel
      have HG := Lib.hid hg
      have HOw := Lib.hid hown
      have HT := Lib.hid htake
      have HXL := Lib.hid (show xs.length = x.length * 4 from hown.1)
      clear hg hown htake
      by_cases hlt : j < x.length
      · have G0 := Lib.hid (flat_get cCall 4 cCall_len (marksCall k x.length) j (by rw [marksCall_len]; exact hlt) 0 (by decide))
        have G1 := Lib.hid (flat_get cCall 4 cCall_len (marksCall k x.length) j (by rw [marksCall_len]; exact hlt) 1 (by decide))
        have G2 := Lib.hid (flat_get cCall 4 cCall_len (marksCall k x.length) j (by rw [marksCall_len]; exact hlt) 2 (by decide))
        have G3 := Lib.hid (flat_get cCall 4 cCall_len (marksCall k x.length) j (by rw [marksCall_len]; exact hlt) 3 (by decide))
        rw [marksCall_get k _ j hlt] at G0 G1 G2 G3
        simp only [cCall, List.getElem?_cons_zero, List.getElem?_cons_succ, Nat.add_zero] at G0 G1 G2 G3
        go_wp2_with fail
        refine (markText_any (k + j * 4) _ (by omega) (by omega)).mono ?_
        rintro e w1 ⟨rfl, hb⟩
        have HO1 := Lib.hid (ownsRow_below HOw.out hb (Nat.le_refl _))
        have HG1 := Lib.hid (grownBy_below (HG.out) hb (HG.out).size)
        clear hb
        obtain ⟨u0, c0⟩ : ∃ u, w1.cell? ⟨g, j * 4, none⟩ = some u := by
          rw [World.ownsRow.cellAt HO1.out (j * 4) (by omega), List.getElem?_eq_getElem (by have := HXL.out; (try simp only [List.length_set]); omega)]
          exact ⟨_, rfl⟩
        have f0 := World.ownsRow.frozenAt HO1.out (j * 4)
        have HS0 := Lib.hid (World.ownsRow.stored HO1.out (j * 4) (.string ⟨(markL (k + j * 4)).toArray⟩))
        have HT0 := Lib.hid (take_set_get _ _ (j * 4) _ (by have := HXL.out; (try simp only [List.length_set]); omega) G0.out HT.out)
        go_wp2_with fail
        refine (markText_any (k + j * 4 + 1) _ (by omega) (by omega)).mono ?_
        rintro e w2 ⟨rfl, hb⟩
        have HO2 := Lib.hid (ownsRow_below HS0.out.1 hb (Nat.le_refl _))
        have HG2 := Lib.hid (grownBy_below ((grownBy_trans HG1.out HS0.out.2)) hb ((grownBy_trans HG1.out HS0.out.2)).size)
        clear hb
        obtain ⟨u1, c1⟩ : ∃ u, w2.cell? ⟨g, j * 4 + 1, none⟩ = some u := by
          rw [World.ownsRow.cellAt HO2.out (j * 4 + 1) (by omega), List.getElem?_eq_getElem (by have := HXL.out; (try simp only [List.length_set]); omega)]
          exact ⟨_, rfl⟩
        have f1 := World.ownsRow.frozenAt HO2.out (j * 4 + 1)
        obtain ⟨u2, c2⟩ : ∃ u, w2.cell? ⟨g, j * 4 + 2, none⟩ = some u := by
          rw [World.ownsRow.cellAt HO2.out (j * 4 + 2) (by omega), List.getElem?_eq_getElem (by have := HXL.out; (try simp only [List.length_set]); omega)]
          exact ⟨_, rfl⟩
        have f2 := World.ownsRow.frozenAt HO2.out (j * 4 + 2)
        have HS1 := Lib.hid (World.ownsRow.stored HO2.out (j * 4 + 1) (.string ⟨(markL (k + j * 4 + 1)).toArray⟩))
        have HT1 := Lib.hid (take_set_get _ _ (j * 4 + 1) _ (by have := HXL.out; (try simp only [List.length_set]); omega) G1.out HT0.out)
        have HS2 := Lib.hid (World.ownsRow.stored HS1.out.1 (j * 4 + 2) (.int .i64 (k + j * 4 + 1 + 1)))
        have HT2 := Lib.hid (take_set_get _ _ (j * 4 + 2) _ (by have := HXL.out; (try simp only [List.length_set]); omega) G2.out HT1.out)
        go_wp2_with fail
        refine (markText_any (k + j * 4 + 1 + 1 + 1) _ (by omega) (by omega)).mono ?_
        rintro e w3 ⟨rfl, hb⟩
        have HO3 := Lib.hid (ownsRow_below HS2.out.1 hb (Nat.le_refl _))
        have HG3 := Lib.hid (grownBy_below ((grownBy_trans (grownBy_trans HG2.out HS1.out.2) HS2.out.2)) hb ((grownBy_trans (grownBy_trans HG2.out HS1.out.2) HS2.out.2)).size)
        clear hb
        obtain ⟨u3, c3⟩ : ∃ u, w3.cell? ⟨g, j * 4 + 3, none⟩ = some u := by
          rw [World.ownsRow.cellAt HO3.out (j * 4 + 3) (by omega), List.getElem?_eq_getElem (by have := HXL.out; (try simp only [List.length_set]); omega)]
          exact ⟨_, rfl⟩
        have f3 := World.ownsRow.frozenAt HO3.out (j * 4 + 3)
        have HS3 := Lib.hid (World.ownsRow.stored HO3.out (j * 4 + 3) (.string ⟨(markL (k + j * 4 + 1 + 1 + 1)).toArray⟩))
        have HT3 := Lib.hid (take_set_get _ _ (j * 4 + 3) _ (by have := HXL.out; (try simp only [List.length_set]); omega) G3.out HT2.out)
        go_wp2_with fail
        refine ⟨⟨j + 1, by omega, by go_num, ?_, ⟨_, HS3.out.1, by rw [show (j + 1) * 4 = j * 4 + 3 + 1 by omega]; exact HT3.out⟩, ?_⟩, by simp [intOf]; omega⟩
        · congr 1; push_cast; omega
        · exact (grownBy_trans HG3.out HS3.out.2)
      · have HN := Lib.hid (show xs = (marksCall k x.length).flatMap cCall from by
          have h := HT.out
          rw [List.take_of_length_le (by have := HXL.out; omega), List.take_of_length_le (by rw [flat_len cCall 4 cCall_len, marksCall_len]; omega)] at h
          exact h)
        go_wp2_with fail
        go_ret
        exact ⟨ret_int (by rw [show j = x.length by omega]), by have h := HOw.out; rw [HN.out] at h; unfold OwnsF; rw [marksCall_len]; exact h, HG.out⟩
end Go.Proofs.YtghebbndfpbkcaaGreat
/- What a call does to a core, plain: the place of a key among cells, what is put, each method's answer, valid cores stay valid. -/
namespace Go.Proofs.YtghebbndfpbkcaaGreat
set_option linter.unusedVariables false
open Go.RowKit
theorem bytes_lt2 (a b : List UInt8) : Op.bytesLess a b = decide (a < b) := Proofs.bytesLess_eq a b
def plc : List CellD → List UInt8 → Nat
  | [], _ => 0
  | c :: r, k => if c.fKey < k then plc r k + 1 else 0
def fnd : List CellD → List UInt8 → Bool
  | [], _ => false
  | c :: r, k => if c.fKey < k then fnd r k else decide (c.fKey = k)
def valAt : List CellD → List UInt8 → Int
  | [], _ => 0
  | c :: r, k => if c.fKey < k then valAt r k else c.fValue
def putC : List CellD → List UInt8 → Int → List CellD
  | [], k, v => [⟨k, v⟩]
  | c :: r, k, v => if c.fKey < k then c :: putC r k v else if c.fKey = k then ⟨k, v⟩ :: r else ⟨k, v⟩ :: c :: r
theorem plc_le (l : List CellD) (k : List UInt8) : plc l k ≤ l.length := by
  induction l with
  | nil => exact Nat.le_refl _
  | cons c r ih => unfold plc; split <;> simp <;> omega
theorem plc_below (l : List CellD) (k : List UInt8) : ∀ i (h : i < l.length), i < plc l k → (l[i]).fKey < k := by
  induction l with
  | nil => intro i h; simp at h
  | cons c r ih =>
    intro i h hi
    unfold plc at hi
    split at hi
    · cases i with
      | zero => assumption
      | succ i => exact ih i (by simpa using h) (by omega)
    · omega
theorem plc_at (l : List CellD) (k : List UInt8) (h : plc l k < l.length) : ¬ (l[plc l k]).fKey < k := by
  induction l with
  | nil => simp at h
  | cons c r ih =>
    by_cases hc : c.fKey < k
    · have e : plc (c :: r) k = plc r k + 1 := if_pos hc
      have h2 : plc r k < r.length := by rw [e] at h; simpa using h
      have := ih h2
      simp only [e, List.getElem_cons_succ]; exact this
    · have e : plc (c :: r) k = 0 := if_neg hc
      simp only [e, List.getElem_cons_zero]; exact hc
/-- the place is the one up to which all are less, and which is not -/
theorem plc_eq (l : List CellD) (k : List UInt8) (m : Nat) (hm : m ≤ l.length) (h1 : ∀ i (h : i < l.length), i < m → (l[i]).fKey < k) (h2 : ∀ h : m < l.length, ¬ (l[m]).fKey < k) : plc l k = m := by
  rcases Nat.lt_trichotomy (plc l k) m with h | h | h
  · exact absurd (h1 _ (by omega) h) (plc_at l k (by omega))
  · exact h
  · have := plc_le l k
    exact absurd (plc_below l k m (by omega) h) (h2 (by omega))
theorem fnd_at (l : List CellD) (k : List UInt8) (h : plc l k < l.length) : fnd l k = decide ((l[plc l k]).fKey = k) ∧ valAt l k = (l[plc l k]).fValue := by
  induction l with
  | nil => simp at h
  | cons c r ih =>
    by_cases hc : c.fKey < k
    · have e : plc (c :: r) k = plc r k + 1 := if_pos hc
      have h2 : plc r k < r.length := by rw [e] at h; simpa using h
      have := ih h2
      unfold fnd valAt
      rw [if_pos hc, if_pos hc]
      simp only [e, List.getElem_cons_succ]; exact this
    · have e : plc (c :: r) k = 0 := if_neg hc
      unfold fnd valAt
      rw [if_neg hc, if_neg hc]
      simp only [e, List.getElem_cons_zero]; exact ⟨trivial, trivial⟩
theorem fnd_end (l : List CellD) (k : List UInt8) (h : plc l k = l.length) : fnd l k = false := by
  induction l with
  | nil => rfl
  | cons c r ih =>
    by_cases hc : c.fKey < k
    · have e : plc (c :: r) k = plc r k + 1 := if_pos hc
      unfold fnd; rw [if_pos hc]; exact ih (by rw [e] at h; simpa using h)
    · have e : plc (c :: r) k = 0 := if_neg hc
      rw [e] at h; simp at h
theorem fnd_lt {l : List CellD} {k : List UInt8} (h : fnd l k = true) : plc l k < l.length := by
  rcases Nat.lt_or_ge (plc l k) l.length with h1 | h1
  · exact h1
  · rw [fnd_end l k (by have := plc_le l k; omega)] at h; exact absurd h (by simp)
theorem putC_found (l : List CellD) (k : List UInt8) (v : Int) (h : fnd l k = true) : putC l k v = l.set (plc l k) ⟨k, v⟩ := by
  induction l with
  | nil => simp [fnd] at h
  | cons c r ih =>
    unfold fnd at h
    unfold putC plc
    by_cases hc : c.fKey < k
    · rw [if_pos hc] at h ⊢
      rw [if_pos hc, List.set_cons_succ, ih h]
    · rw [if_neg hc] at h ⊢
      rw [if_neg hc, if_pos (by simpa using h), List.set_cons_zero]
theorem putC_new (l : List CellD) (k : List UInt8) (v : Int) (h : fnd l k = false) : putC l k v = l.take (plc l k) ++ ⟨k, v⟩ :: l.drop (plc l k) := by
  induction l with
  | nil => rfl
  | cons c r ih =>
    unfold fnd at h
    unfold putC plc
    by_cases hc : c.fKey < k
    · rw [if_pos hc] at h ⊢
      rw [if_pos hc, List.take_succ_cons, List.drop_succ_cons, ih h]; rfl
    · rw [if_neg hc] at h ⊢
      rw [if_neg hc, if_neg (by simpa using h)]; rfl
theorem putC_len (l : List CellD) (k : List UInt8) (v : Int) : (putC l k v).length = if fnd l k = true then l.length else l.length + 1 := by
  cases h : fnd l k with
  | true => rw [putC_found l k v h]; simp
  | false => rw [putC_new l k v h]; have := plc_le l k; simp; omega
def SortC (l : List CellD) : Prop := l.Pairwise (fun a b => a.fKey < b.fKey)
theorem key_trans {a b c : List UInt8} (h : a < b) (k : b < c) : a < c := List.lt_trans h k
theorem key_irr (a : List UInt8) : ¬ a < a := List.lt_irrefl a
theorem key_tri {a b : List UInt8} (h : ¬ a < b) (hn : a ≠ b) : b < a := by
  rcases List.le_total a b with h1 | h1
  · exact absurd (List.le_antisymm h1 (List.not_lt.1 h)) hn
  · exact List.not_le.1 fun h2 => hn (List.le_antisymm h2 h1)
theorem sortC_of (l : List CellD) (h : ∀ i (h : i + 1 < l.length), (l[i]).fKey < (l[i + 1]).fKey) : SortC l := by
  unfold SortC
  rw [List.pairwise_iff_getElem]
  intro i j hi hj hij
  induction j with
  | zero => omega
  | succ j ih =>
    rcases Nat.lt_or_ge i j with h1 | h1
    · exact key_trans (ih (by omega) h1) (h j hj)
    · have : i = j := by omega
      subst this; exact h i hj
theorem cellsB_sort {l : List CellD} (h : cellsB l = true) : SortC l := by
  refine sortC_of l fun i hi => ?_
  simp only [cellsB, Bool.and_eq_true] at h
  have := okTo_at l _ (i + 1) h.2 hi
  simp only [okAt, Bool.and_eq_true, Bool.or_eq_true, Nat.add_one_sub_one] at this
  have := this.2
  rw [getD_at l (i + 1) hi, getD_at l i (by omega), bytes_lt2] at this
  simpa using this
theorem cellsB_of {l : List CellD} (h1 : l.length ≤ 4) (h2 : ∀ d ∈ l, nameB d.fKey = true ∧ numB d.fValue = true) (h3 : SortC l) : cellsB l = true := by
  unfold cellsB
  rw [Bool.and_eq_true]
  refine ⟨by simpa using h1, ?_⟩
  unfold okTo
  rw [List.all_eq_true]
  intro i hi
  rw [List.mem_range] at hi
  have hm := h2 (l[i]) (List.getElem_mem hi)
  rw [okAt_of l i hi true true true hm.1 hm.2 ?_]
  · rfl
  · cases i with
    | zero => rfl
    | succ i =>
      simp only [Nat.add_one_sub_one, Bool.or_eq_true]
      right
      rw [getD_at l i (by omega), bytes_lt2, decide_eq_true_iff]
      exact (List.pairwise_iff_getElem.1 h3) i (i + 1) (by omega) hi (by omega)
theorem putC_mem {l : List CellD} {k : List UInt8} {v : Int} {d : CellD} (h : d ∈ putC l k v) : d = ⟨k, v⟩ ∨ d ∈ l := by
  induction l with
  | nil => left; simpa [putC] using h
  | cons c r ih =>
    unfold putC at h
    split at h
    · rcases List.mem_cons.1 h with h | h
      · right; rw [h]; exact List.mem_cons_self
      · exact (ih h).imp id (List.mem_cons_of_mem _)
    · split at h
      · rcases List.mem_cons.1 h with h | h
        · exact Or.inl h
        · exact Or.inr (List.mem_cons_of_mem _ h)
      · rcases List.mem_cons.1 h with h | h
        · exact Or.inl h
        · exact Or.inr h
theorem putC_sort {l : List CellD} (k : List UInt8) (v : Int) (h : SortC l) : SortC (putC l k v) := by
  induction l with
  | nil => simp [putC, SortC]
  | cons c r ih =>
    have hc := List.pairwise_cons.1 h
    unfold putC
    split
    · rename_i hl
      refine List.pairwise_cons.2 ⟨fun d hd => ?_, ih hc.2⟩
      rcases putC_mem hd with rfl | hd
      · exact hl
      · exact hc.1 d hd
    · rename_i hl
      split
      · rename_i he
        refine List.pairwise_cons.2 ⟨fun d hd => ?_, hc.2⟩
        rw [← he]; exact hc.1 d hd
      · rename_i he
        have hk := key_tri hl he
        refine List.pairwise_cons.2 ⟨fun d hd => ?_, h⟩
        rcases List.mem_cons.1 hd with rfl | hd
        · exact hk
        · exact key_trans hk (hc.1 d hd)
theorem putC_cells {l : List CellD} {k : List UInt8} {v : Int} (h : cellsB l = true) (hk : nameB k = true) (hv : numB v = true) (hl : fnd l k = true ∨ l.length < 4) : cellsB (putC l k v) = true := by
  refine cellsB_of ?_ ?_ (putC_sort k v (cellsB_sort h))
  · rw [putC_len]; have := cellsB_len h; split
    · exact this
    · rcases hl with hl | hl
      · contradiction
      · omega
  · intro d hd
    rcases putC_mem hd with rfl | hd
    · exact ⟨hk, hv⟩
    · exact cellsB_mem h d hd
/-- behind the place nothing has this key -/
theorem sort_after {l : List CellD} (h : SortC l) (k : List UInt8) (i : Nat) (hi : i < l.length) (hp : plc l k < i) : k < (l[i]).fKey := by
  have h1 := plc_at l k (by omega)
  have h2 := (List.pairwise_iff_getElem.1 h) (plc l k) i (by omega) hi hp
  by_cases he : (l[plc l k]).fKey = k
  · rw [← he]; exact h2
  · exact key_trans (key_tri h1 he) h2
def upI (n : Int) : Int := if n < 999 then n + 1 else n
theorem upI_num {n : Int} (h : numB n = true) : numB (upI n) = true := by
  simp only [numB, Bool.and_eq_true, decide_eq_true_iff] at h ⊢
  unfold upI; split <;> omega
def rC (c : Int) : ReplyD := ⟨c, 0, [], 0, 0⟩
def rV (v : Int) : ReplyD := ⟨0, v, [], 0, 0⟩
def rT (t : List UInt8) : ReplyD := ⟨0, 0, t, 0, 0⟩
def idleI (d : CoreD) : Int := if d.fBroken = true then 3 else if (!d.fOn && hasI (coreF d) 0) = true then 2 else 0
def startD (d : CoreD) : CoreD × ReplyD :=
  if d.fBroken = true then (d, rC 3) else if d.fOn = true then ({ d with fOn := false, fBroken := true }, rC 3) else ({ d with fOn := true, fCount := upI d.fCount }, rC 0)
def stopD (d : CoreD) : CoreD × ReplyD :=
  if d.fBroken = true then (d, rC 3) else if d.fOn = true then ({ d with fOn := false }, rC 0) else (d, rC 2)
def getD1 (d : CoreD) (k : List UInt8) : CoreD × ReplyD :=
  if idleI d = 0 then (if fnd d.fCells k = true then (d, rV (valAt d.fCells k)) else (d, rC 4)) else (d, rC (idleI d))
def putD (d : CoreD) (k : List UInt8) (v : Int) : CoreD × ReplyD :=
  if idleI d = 0 then
    (if fnd d.fCells k = true ∨ d.fCells.length < 4 then ({ d with fCells := putC d.fCells k v, fCount := upI d.fCount }, rV (putC d.fCells k v).length) else (d, rC 5))
  else (d, rC (idleI d))
def tellD (d : CoreD) : CoreD × ReplyD := (d, rV d.fCount)
def hearD (d : CoreD) (v : Int) : CoreD × ReplyD :=
  if d.fBroken = true then (d, rC 3) else ({ d with fOn := if v = 0 then false else if v = 1 then true else d.fOn, fCount := upI d.fCount }, rV (upI d.fCount))
def loadD (d : CoreD) (t : List UInt8) : CoreD × ReplyD :=
  if d.fBroken = true then (d, rC 3) else if prsB t = true then ({ d with fCells := prsC t }, rV (prsC t).length) else (d, rC 6)
def saveD (d : CoreD) : CoreD × ReplyD := if d.fBroken = true then (d, rC 3) else (d, rT (fmtC d.fCells))
def healD (d : CoreD) : CoreD × ReplyD := ({ d with fOn := false, fBroken := false }, rC 0)
/-- the methods, in the order of the abilities -/
def mthD (d : CoreD) (x : CallD) : CoreD × ReplyD :=
  if x.fMethod = [83, 116, 97, 114, 116] then startD d
  else if x.fMethod = [83, 116, 111, 112] then stopD d
  else if x.fMethod = [71, 101, 116] then getD1 d x.fKey
  else if x.fMethod = [80, 117, 116] then putD d x.fKey x.fValue
  else if x.fMethod = [84, 101, 108, 108] then tellD d
  else if x.fMethod = [72, 101, 97, 114] then hearD d x.fValue
  else if x.fMethod = [76, 111, 97, 100] then loadD d x.fText
  else if x.fMethod = [83, 97, 118, 101] then saveD d
  else healD d
end Go.Proofs.YtghebbndfpbkcaaGreat
/- A core in a box: the cells of one block, a row of cells of one's own beside it; what changes but two blocks. -/
namespace Go.Proofs.YtghebbndfpbkcaaGreat
set_option linter.unusedVariables false
open Go.RowKit
/-- w' is as w but for two blocks, and longer -/
structure Kept2 (w w' : World) (r1 r2 : Option Nat) : Prop where
  os : w'.os = w.os
  tape : w'.tape = w.tape
  output : w'.output = w.output
  size : w.heap.size ≤ w'.heap.size
  block : ∀ k, k < w.heap.size → some k ≠ r1 → some k ≠ r2 → w'.heap[k]? = w.heap[k]?
  tail : ∀ k o, k < w.heap.size → r1 = some k → r2 ≠ some k → 5 ≤ o → w'.cell? ⟨k, o, none⟩ = w.cell? ⟨k, o, none⟩ ∧ w'.frozen? ⟨k, o, none⟩ = w.frozen? ⟨k, o, none⟩
theorem Kept2.refl (w : World) (r1 r2 : Option Nat) : Kept2 w w r1 r2 := ⟨rfl, rfl, rfl, Nat.le_refl _, fun _ _ _ _ => rfl, fun _ _ _ _ _ _ => ⟨rfl, rfl⟩⟩
theorem Kept2.below {w w' w1 : World} {r1 r2 : Option Nat} (h : Kept2 w w1 r1 r2) (hb : Below w1.heap.size w1 w') : Kept2 w w' r1 r2 :=
  ⟨hb.os.trans h.os, hb.tape.trans h.tape, hb.output.trans h.output, Nat.le_trans h.size hb.size, fun k hk h1 h2 => (hb.block k (Nat.lt_of_lt_of_le hk h.size)).trans (h.block k hk h1 h2),
    fun k o hk h1 h2 ho => ⟨(hb.cell (p := ⟨k, o, none⟩) (Nat.lt_of_lt_of_le hk h.size)).trans (h.tail k o hk h1 h2 ho).1, (hb.frozen (p := ⟨k, o, none⟩) (Nat.lt_of_lt_of_le hk h.size)).trans (h.tail k o hk h1 h2 ho).2⟩⟩
theorem Kept2.of_below {w w' : World} {r1 r2 : Option Nat} (hb : Below w.heap.size w w') : Kept2 w w' r1 r2 := (Kept2.refl w r1 r2).below hb
theorem Kept2.toBelow {w w' : World} {r1 r2 : Option Nat} {N : Nat} (h : Kept2 w w' r1 r2) (hN : N ≤ w.heap.size) (h1 : ∀ k, r1 = some k → N ≤ k) (h2 : ∀ k, r2 = some k → N ≤ k) : Below N w w' :=
  ⟨h.os, h.tape, h.output, h.size, fun k hk => h.block k (by omega) (fun e => by have := h1 k e.symm; omega) (fun e => by have := h2 k e.symm; omega)⟩
theorem Kept2.set {w w1 : World} {r1 r2 : Option Nat} (h : Kept2 w w1 r1 r2) {p : Addr} (u : Value) (hp : w.heap.size ≤ p.block ∨ (r1 = some p.block ∧ p.off < 5) ∨ r2 = some p.block) : Kept2 w (w1.setCell p u) r1 r2 :=
  ⟨h.os, h.tape, h.output, by simpa using h.size, fun k hk h1 h2 => by
    rw [Below.heap_setCell w1 p u k (fun e => by
      rcases hp with hp | hp | hp
      · omega
      · exact h1 (by rw [hp.1, e])
      · exact h2 (by rw [hp, e]))]
    exact h.block k hk h1 h2, fun k o hk h1 h2 ho => by
    have hne : p ≠ (⟨k, o, none⟩ : Addr) := fun e => by
      subst e
      rcases hp with hp | hp | hp
      · simp only at hp; omega
      · have := hp.2; simp only at this; omega
      · exact h2 hp
    exact ⟨(World.cell?_setCell_other _ _ _ _ hne).trans (h.tail k o hk h1 h2 ho).1, by simpa using (h.tail k o hk h1 h2 ho).2⟩⟩
theorem Kept2.alloc {w w1 : World} {r1 r2 : Option Nat} (h : Kept2 w w1 r1 r2) (o : Obj) : Kept2 w (w1.alloc o) r1 r2 := h.below ((Below.refl _ _).alloc (Nat.le_refl _) o)
theorem Kept2.drew {w w1 : World} {r1 r2 : Option Nat} (h : Kept2 w w1 r1 r2) : Kept2 w w1.drew r1 r2 := h.below ((Below.refl _ _).drew)
/-- what stood ahead only made memory -/
theorem Kept2.ahead {w w0 w1 : World} {r1 r2 : Option Nat} (hb : Below w.heap.size w w0) (h : Kept2 w0 w1 r1 r2) : Kept2 w w1 r1 r2 :=
  ⟨h.os.trans hb.os, h.tape.trans hb.tape, h.output.trans hb.output, Nat.le_trans hb.size h.size, fun k hk h1 h2 => (h.block k (Nat.lt_of_lt_of_le hk hb.size) h1 h2).trans (hb.block k hk),
    fun k o hk h1 h2 ho => ⟨(h.tail k o (Nat.lt_of_lt_of_le hk hb.size) h1 h2 ho).1.trans (hb.cell (p := ⟨k, o, none⟩) hk), (h.tail k o (Nat.lt_of_lt_of_le hk hb.size) h1 h2 ho).2.trans (hb.frozen (p := ⟨k, o, none⟩) hk)⟩⟩
theorem Kept2.cell {w w' : World} {r1 r2 : Option Nat} (h : Kept2 w w' r1 r2) {p : Addr} (hp : p.block < w.heap.size) (h1 : some p.block ≠ r1) (h2 : some p.block ≠ r2) : w'.cell? p = w.cell? p := World.cell?_of_block (h.block _ hp h1 h2)
theorem Kept2.frozen {w w' : World} {r1 r2 : Option Nat} (h : Kept2 w w' r1 r2) {p : Addr} (hp : p.block < w.heap.size) (h1 : some p.block ≠ r1) (h2 : some p.block ≠ r2) : w'.frozen? p = w.frozen? p := World.frozen?_of_block (h.block _ hp h1 h2)
structure CoreBox (w : World) (b : Nat) (cv : Value) (d : CoreD) : Prop where
  c0 : w.cell? ⟨b, 0, none⟩ = some (.string ⟨d.fKind.toArray⟩)
  c1 : w.cell? ⟨b, 1, none⟩ = some (.bool d.fOn)
  c2 : w.cell? ⟨b, 2, none⟩ = some (.bool d.fBroken)
  c3 : w.cell? ⟨b, 3, none⟩ = some cv
  c4 : w.cell? ⟨b, 4, none⟩ = some (.int .i64 d.fCount)
  z1 : w.frozen? ⟨b, 1, none⟩ = false
  z2 : w.frozen? ⟨b, 2, none⟩ = false
  z3 : w.frozen? ⟨b, 3, none⟩ = false
  z4 : w.frozen? ⟨b, 4, none⟩ = false
theorem CoreBox.lt {w : World} {b : Nat} {cv : Value} {d : CoreD} (h : CoreBox w b cv d) : b < w.heap.size := World.block_lt_of_cell? w _ h.c0
theorem CoreBox.keep {w w' : World} {b : Nat} {cv : Value} {d : CoreD} (h : CoreBox w b cv d) (hb : w'.heap[b]? = w.heap[b]?) : CoreBox w' b cv d := by
  have hc : ∀ o, w'.cell? ⟨b, o, none⟩ = w.cell? ⟨b, o, none⟩ := fun o => World.cell?_of_block hb
  have hf : ∀ o, w'.frozen? ⟨b, o, none⟩ = w.frozen? ⟨b, o, none⟩ := fun o => World.frozen?_of_block hb
  exact ⟨(hc 0).trans h.c0, (hc 1).trans h.c1, (hc 2).trans h.c2, (hc 3).trans h.c3, (hc 4).trans h.c4, (hf 1).trans h.z1, (hf 2).trans h.z2, (hf 3).trans h.z3, (hf 4).trans h.z4⟩
theorem frz_set (w : World) (p q : Addr) (u : Value) : (w.setCell p u).frozen? q = w.frozen? q := by simp
theorem CoreBox.s1 {w : World} {b : Nat} {cv : Value} {k : List UInt8} {on0 br : Bool} {l : List CellD} {n : Int} (h : CoreBox w b cv ⟨k, on0, br, l, n⟩) (on : Bool) : CoreBox (w.setCell ⟨b, 1, none⟩ (.bool on)) b cv ⟨k, on, br, l, n⟩ := by
  obtain ⟨c0, c1, c2, c3, c4, z1, z2, z3, z4⟩ := h
  exact ⟨(cell_set_ne (by decide)).trans c0, cell_set_at (by rw [c1]; rfl), (cell_set_ne (by decide)).trans c2, (cell_set_ne (by decide)).trans c3, (cell_set_ne (by decide)).trans c4, (frz_set _ _ _ _).trans z1, (frz_set _ _ _ _).trans z2, (frz_set _ _ _ _).trans z3, (frz_set _ _ _ _).trans z4⟩
theorem CoreBox.s2 {w : World} {b : Nat} {cv : Value} {k : List UInt8} {on br0 : Bool} {l : List CellD} {n : Int} (h : CoreBox w b cv ⟨k, on, br0, l, n⟩) (br : Bool) : CoreBox (w.setCell ⟨b, 2, none⟩ (.bool br)) b cv ⟨k, on, br, l, n⟩ := by
  obtain ⟨c0, c1, c2, c3, c4, z1, z2, z3, z4⟩ := h
  exact ⟨(cell_set_ne (by decide)).trans c0, (cell_set_ne (by decide)).trans c1, cell_set_at (by rw [c2]; rfl), (cell_set_ne (by decide)).trans c3, (cell_set_ne (by decide)).trans c4, (frz_set _ _ _ _).trans z1, (frz_set _ _ _ _).trans z2, (frz_set _ _ _ _).trans z3, (frz_set _ _ _ _).trans z4⟩
theorem CoreBox.s3 {w : World} {b : Nat} {cv0 : Value} {k : List UInt8} {on br : Bool} {l0 : List CellD} {n : Int} (h : CoreBox w b cv0 ⟨k, on, br, l0, n⟩) (cv : Value) (l : List CellD) : CoreBox (w.setCell ⟨b, 3, none⟩ cv) b cv ⟨k, on, br, l, n⟩ := by
  obtain ⟨c0, c1, c2, c3, c4, z1, z2, z3, z4⟩ := h
  exact ⟨(cell_set_ne (by decide)).trans c0, (cell_set_ne (by decide)).trans c1, (cell_set_ne (by decide)).trans c2, cell_set_at (by rw [c3]; rfl), (cell_set_ne (by decide)).trans c4, (frz_set _ _ _ _).trans z1, (frz_set _ _ _ _).trans z2, (frz_set _ _ _ _).trans z3, (frz_set _ _ _ _).trans z4⟩
theorem CoreBox.s4 {w : World} {b : Nat} {cv : Value} {k : List UInt8} {on br : Bool} {l : List CellD} {n0 : Int} (h : CoreBox w b cv ⟨k, on, br, l, n0⟩) (n : Int) : CoreBox (w.setCell ⟨b, 4, none⟩ (.int .i64 n)) b cv ⟨k, on, br, l, n⟩ := by
  obtain ⟨c0, c1, c2, c3, c4, z1, z2, z3, z4⟩ := h
  exact ⟨(cell_set_ne (by decide)).trans c0, (cell_set_ne (by decide)).trans c1, (cell_set_ne (by decide)).trans c2, (cell_set_ne (by decide)).trans c3, cell_set_at (by rw [c4]; rfl), (frz_set _ _ _ _).trans z1, (frz_set _ _ _ _).trans z2, (frz_set _ _ _ _).trans z3, (frz_set _ _ _ _).trans z4⟩
theorem CoreBox.al {w : World} {b : Nat} {cv : Value} {d : CoreD} (h : CoreBox w b cv d) (o : Obj) : CoreBox (w.alloc o) b cv d := h.keep (((Below.refl w.heap.size w).alloc (Nat.le_refl _) o).block b h.lt)
theorem CoreBox.dr {w : World} {b : Nat} {cv : Value} {d : CoreD} (h : CoreBox w b cv d) : CoreBox w.drew b cv d := h.keep rfl
theorem CoreBox.so {w : World} {b : Nat} {cv : Value} {d : CoreD} (h : CoreBox w b cv d) (p : Addr) (u : Value) (hp : b ≠ p.block) : CoreBox (w.setCell p u) b cv d := h.keep (Below.heap_setCell w p u b hp)
structure CoreSt (N b : Nat) (cv : Value) (d : CoreD) (w : World) : Prop where
  box : CoreBox w b cv d
  own : OwnsF cCell 36 2 w N cv d.fCells
  ne : cv.ownBlock ≠ some b
  ge : N ≤ b
theorem CoreSt.below {N b : Nat} {cv : Value} {d : CoreD} {w w' : World} (h : CoreSt N b cv d w) (hb : Below w.heap.size w w') : CoreSt N b cv d w' :=
  ⟨h.box.keep (hb.block b h.box.lt), ownsF_below h.own hb (Nat.le_refl _), h.ne, h.ge⟩
theorem CoreSt.base {N N' b : Nat} {cv : Value} {d : CoreD} {w : World} (h : CoreSt N b cv d w) (hN : N' ≤ N) : CoreSt N' b cv d w :=
  ⟨h.box, ownsF_base h.own hN, h.ne, Nat.le_trans hN h.ge⟩
/-- what a method does to the core in box b, whose cells lie in cv -/
def Does (N b : Nat) (cv : Value) (out : CoreD × ReplyD) (w : World) (e : Ending) (w' : World) : Prop :=
  e = .returned (vReply out.2) ∧ ∃ cv', CoreSt N b cv' out.1 w' ∧ Kept2 w w' (some b) cv.ownBlock
/-- the box's own cells were turned, nothing else: the row of cells is as it was -/
theorem st_turned {N b : Nat} {cv : Value} {d d' : CoreD} {w w' : World} (h : CoreSt N b cv d w) (hb : CoreBox w' b cv d') (hc : d'.fCells = d.fCells) (hk : Kept2 w w' (some b) none) :
    CoreSt N b cv d' w' ∧ Kept2 w w' (some b) cv.ownBlock := by
  refine ⟨⟨hb, ?_, h.ne, h.ge⟩, ⟨hk.os, hk.tape, hk.output, hk.size, fun k hk1 h1 _ => hk.block k hk1 h1 (by simp), fun k o hk1 h1 _ ho => hk.tail k o hk1 h1 (by simp) ho⟩⟩
  rw [hc]
  refine World.ownsRow.kept h.own (row := some b) ⟨hk.os, hk.tape, hk.output, hk.size, fun k hk1 h1 => hk.block k hk1 h1 (by simp)⟩ ?_
  exact Or.inr h.ne
end Go.Proofs.YtghebbndfpbkcaaGreat
/- The methods of a core's abilities on its box: countUp, Start, Stop, Tell, Hear, Heal. Written by gen/ch3do.py. -/
namespace Go.Proofs.YtghebbndfpbkcaaGreat
set_option linter.unusedVariables false
set_option linter.unusedSimpArgs false
open Go.RowKit
/-- an old block's cells past a new block -/
theorem past_cell {b : Nat} (W : World) (o : Obj) (k : Nat) (h : b < W.heap.size) : (W.alloc o).cell? ⟨b, k, none⟩ = W.cell? ⟨b, k, none⟩ := ((Below.refl W.heap.size W).alloc (Nat.le_refl _) o).cell (p := ⟨b, k, none⟩) h
theorem past_frozen {b : Nat} (W : World) (o : Obj) (k : Nat) (h : b < W.heap.size) : (W.alloc o).frozen? ⟨b, k, none⟩ = W.frozen? ⟨b, k, none⟩ := ((Below.refl W.heap.size W).alloc (Nat.le_refl _) o).frozen (p := ⟨b, k, none⟩) h
theorem Kept2.trans1 {a w w' : World} {b : Nat} (h : Kept2 a w (some b) none) (k : Kept2 w w' (some b) none) : Kept2 a w' (some b) none :=
  ⟨k.os.trans h.os, k.tape.trans h.tape, k.output.trans h.output, Nat.le_trans h.size k.size, fun i hi h1 h2 => (k.block i (Nat.lt_of_lt_of_le hi h.size) h1 h2).trans (h.block i hi h1 h2),
    fun i o hi h1 h2 ho => ⟨(k.tail i o (Nat.lt_of_lt_of_le hi h.size) h1 h2 ho).1.trans (h.tail i o hi h1 h2 ho).1, (k.tail i o (Nat.lt_of_lt_of_le hi h.size) h1 h2 ho).2.trans (h.tail i o hi h1 h2 ho).2⟩⟩
theorem does_of {N b : Nat} {cv : Value} {d d' : CoreD} {r : ReplyD} {out : CoreD × ReplyD} {w w' : World} {e : Ending} (h : CoreSt N b cv d w) (hb : CoreBox w' b cv d') (hc : d'.fCells = d.fCells) (hk : Kept2 w w' (some b) none) (ho : out = (d', r)) (he : e = .returned (vReply r)) : Does N b cv out w e w' := by
  subst ho; exact ⟨he, cv, st_turned h hb hc hk⟩
set_option maxHeartbeats 800000 in
theorem countUp_c (b : Nat) (cv : Value) (d : CoreD) (w : World) (h : CoreBox w b cv d) (hr : -9223372036854775808 ≤ d.fCount) :
    Calls Tryz.prog 142 #[.pointer (some ⟨b, 0, none⟩)] w fun e w' => e = .returned (.tuple #[]) ∧ CoreBox w' b cv { d with fCount := upI d.fCount } ∧ Kept2 w w' (some b) none := by
  obtain ⟨c0, c1, c2, c3, c4, z1, z2, z3, z4⟩ := h
  obtain ⟨kd, on, br, l, cnt⟩ := d
  simp only at *
  by_cases hn : cnt < 999
  · have hu : upI cnt = cnt + 1 := if_pos hn
    have hw : wrap64 (cnt + 1) = cnt + 1 := by unfold wrap64; omega
    go_enter Tryz.func142, Tryz.ntmps142
    go_wp2
    go_end0
    refine ⟨rfl, ?_, (Kept2.refl _ _ _).set _ (Or.inr (Or.inl ⟨rfl, by simp⟩))⟩
    rw [hu]; exact CoreBox.s4 ⟨c0, c1, c2, c3, c4, z1, z2, z3, z4⟩ _
  · have hu : upI cnt = cnt := if_neg hn
    go_enter Tryz.func142, Tryz.ntmps142
    go_wp2
    go_end0
    exact ⟨rfl, ⟨c0, c1, c2, c3, c4, z1, z2, z3, z4⟩, Kept2.refl _ _ _⟩
set_option maxHeartbeats 1600000 in
theorem start_c (N b : Nat) (cv : Value) (d : CoreD) (w : World) (h : CoreSt N b cv d w) (hr : -9223372036854775808 ≤ d.fCount) :
    Calls Tryz.prog 140 #[.agg #[.pointer (some ⟨b, 0, none⟩)]] w fun e w' => Does N b cv (startD d) w e w' := by
  have HS := Lib.hid h
  have HB := Lib.hid h.box
  have hl0 := h.box.lt
  obtain ⟨c0, c1, c2, c3, c4, z1, z2, z3, z4⟩ := h.box
  clear h
  obtain ⟨kd, on, br, l, cnt⟩ := d
  simp only at *
  have hl1 : b < w.heap.size + 1 := by omega
  have hl2 : b < w.heap.size + 1 + 1 := by omega
  have hn0 : ¬ b = w.heap.size := by omega
  have hn1 : ¬ b = w.heap.size + 1 := by omega
  have hm0 : ¬ w.heap.size = b := by omega
  have hm1 : ¬ w.heap.size + 1 = b := by omega
  have hap := @past_cell b
  have haf := @past_frozen b
  cases br with
  | true =>
    go_enter Tryz.func140, Tryz.ntmps140
    go_wp2_with fail
    refine bodyPost_ret (v := vReply (rC 3)) (by simp [results, Tryz.results140, go_sem, vReply, rC, rV, rT]) rfl ?_
    refine does_of (d' := ⟨kd, on, true, l, cnt⟩) (r := rC 3) HS.out ?_ rfl ?_ (rfl) rfl
    · skip
      repeat (first | with_reducible exact HB.out | with_reducible refine CoreBox.al ?_ _ | with_reducible refine CoreBox.s1 (on0 := on) ?_ _ | with_reducible refine CoreBox.s2 (br0 := br) ?_ _ | with_reducible refine CoreBox.s4 (n0 := cnt) ?_ _ | with_reducible refine CoreBox.so ?_ _ _ ?_)
      all_goals (simp; try omega)
    · skip
      repeat (first | with_reducible exact Kept2.refl _ _ _ | with_reducible refine Kept2.alloc ?_ _ | with_reducible refine Kept2.set ?_ _ ?_ | with_reducible refine Kept2.drew ?_)
      all_goals (first | exact Or.inr (Or.inl ⟨rfl, by simp⟩) | (left; simp; try omega))
  | false =>
    cases on with
    | true =>
      go_enter Tryz.func140, Tryz.ntmps140
      go_wp2_with fail
      refine bodyPost_ret (v := vReply (rC 3)) (by simp [results, Tryz.results140, go_sem, vReply, rC, rV, rT]) rfl ?_
      refine does_of (d' := ⟨kd, false, true, l, cnt⟩) (r := rC 3) HS.out ?_ rfl ?_ (rfl) rfl
      · skip
        repeat (first | with_reducible exact HB.out | with_reducible refine CoreBox.al ?_ _ | with_reducible refine CoreBox.s1 (on0 := true) ?_ _ | with_reducible refine CoreBox.s2 (br0 := false) ?_ _ | with_reducible refine CoreBox.s4 (n0 := cnt) ?_ _ | with_reducible refine CoreBox.so ?_ _ _ ?_)
        all_goals (simp; try omega)
      · skip
        repeat (first | with_reducible exact Kept2.refl _ _ _ | with_reducible refine Kept2.alloc ?_ _ | with_reducible refine Kept2.set ?_ _ ?_ | with_reducible refine Kept2.drew ?_)
        all_goals (first | exact Or.inr (Or.inl ⟨rfl, by simp⟩) | (left; simp; try omega))
    | false =>
      go_enter Tryz.func140, Tryz.ntmps140
      go_wp2_with fail
      refine (countUp_c b cv ⟨kd, true, false, l, cnt⟩ _ ?_ hr).mono ?_
      · skip
        repeat (first | with_reducible exact HB.out | with_reducible refine CoreBox.al ?_ _ | with_reducible refine CoreBox.s1 (on0 := false) ?_ _ | with_reducible refine CoreBox.s2 (br0 := false) ?_ _ | with_reducible refine CoreBox.s4 (n0 := cnt) ?_ _ | with_reducible refine CoreBox.so ?_ _ _ ?_)
        all_goals (simp; try omega)
      rintro e w1 ⟨rfl, hbx, hk⟩
      simp only at hbx
      have HK := Lib.hid hk
      have HBX := Lib.hid hbx
      have g0 : w1.cell? ⟨w.heap.size, 0, none⟩ = some (.pointer (some ⟨b, 0, none⟩)) := (hk.cell (p := ⟨w.heap.size, 0, none⟩) (by simp; try omega) (by simpa using hm0) (by simp)).trans (by simp [go_sem, hm0, hm1])
      have r0 : w1.cell? ⟨w.heap.size + 1, 0, none⟩ = some (.int .i64 0) := (hk.cell (p := ⟨w.heap.size + 1, 0, none⟩) (by simp; try omega) (by simpa using hm1) (by simp)).trans (by simp [go_sem, hm0, hm1])
      have r1 : w1.cell? ⟨w.heap.size + 1, 1, none⟩ = some (.int .i64 0) := (hk.cell (p := ⟨w.heap.size + 1, 1, none⟩) (by simp; try omega) (by simpa using hm1) (by simp)).trans (by simp [go_sem, hm0, hm1])
      have r2 : w1.cell? ⟨w.heap.size + 1, 2, none⟩ = some (.string ⟨#[]⟩) := (hk.cell (p := ⟨w.heap.size + 1, 2, none⟩) (by simp; try omega) (by simpa using hm1) (by simp)).trans (by simp [go_sem, hm0, hm1])
      have r3 : w1.cell? ⟨w.heap.size + 1, 3, none⟩ = some (.int .i64 0) := (hk.cell (p := ⟨w.heap.size + 1, 3, none⟩) (by simp; try omega) (by simpa using hm1) (by simp)).trans (by simp [go_sem, hm0, hm1])
      have r4 : w1.cell? ⟨w.heap.size + 1, 4, none⟩ = some (.int .i64 0) := (hk.cell (p := ⟨w.heap.size + 1, 4, none⟩) (by simp; try omega) (by simpa using hm1) (by simp)).trans (by simp [go_sem, hm0, hm1])
      have q0 : ∀ o, w1.frozen? ⟨w.heap.size + 1, o, none⟩ = false := fun o => (hk.frozen (p := ⟨w.heap.size + 1, o, none⟩) (by simp; try omega) (by simpa using hm1) (by simp)).trans (by simp [go_sem])
      have hsz : w.heap.size + 1 + 1 ≤ w1.heap.size := by simpa using hk.size
      obtain ⟨d0, d1, d2, d3, d4, y1, y2, y3, y4⟩ := hbx
      clear hk
      simp only at d0 d1 d2 d3 d4
      clear c0 c1 c2 c3 c4 z1 z2 z3 z4
      go_wp2_with fail
      refine bodyPost_ret (v := vReply (rC 0)) (by simp [results, Tryz.results140, go_sem, vReply, rC, rV, rT, cell_set_at, cell_set_ne, r0, r1, r2, r3, r4]) rfl ?_
      refine does_of (d' := ⟨kd, true, false, l, upI cnt⟩) (r := rC 0) HS.out ?_ rfl ?_ (rfl) rfl
      · skip
        repeat (first | with_reducible exact HBX.out | with_reducible refine CoreBox.al ?_ _ | with_reducible refine CoreBox.s1 (on0 := true) ?_ _ | with_reducible refine CoreBox.s2 (br0 := false) ?_ _ | with_reducible refine CoreBox.s4 (n0 := cnt) ?_ _ | with_reducible refine CoreBox.so ?_ _ _ ?_)
        all_goals (simp; try omega)
      · skip
        repeat (first | with_reducible refine Kept2.set ?_ _ ?_ | with_reducible refine Kept2.alloc ?_ _)
        refine Kept2.trans1 ?_ HK.out
        repeat (first | with_reducible exact Kept2.refl _ _ _ | with_reducible refine Kept2.alloc ?_ _ | with_reducible refine Kept2.set ?_ _ ?_ | with_reducible refine Kept2.drew ?_)
        all_goals (first | exact Or.inr (Or.inl ⟨rfl, by simp⟩) | (left; simp; try omega))
set_option maxHeartbeats 1600000 in
theorem stop_c (N b : Nat) (cv : Value) (d : CoreD) (w : World) (h : CoreSt N b cv d w) (hr : -9223372036854775808 ≤ d.fCount) :
    Calls Tryz.prog 141 #[.agg #[.pointer (some ⟨b, 0, none⟩)]] w fun e w' => Does N b cv (stopD d) w e w' := by
  have HS := Lib.hid h
  have HB := Lib.hid h.box
  have hl0 := h.box.lt
  obtain ⟨c0, c1, c2, c3, c4, z1, z2, z3, z4⟩ := h.box
  clear h
  obtain ⟨kd, on, br, l, cnt⟩ := d
  simp only at *
  have hl1 : b < w.heap.size + 1 := by omega
  have hl2 : b < w.heap.size + 1 + 1 := by omega
  have hn0 : ¬ b = w.heap.size := by omega
  have hn1 : ¬ b = w.heap.size + 1 := by omega
  have hm0 : ¬ w.heap.size = b := by omega
  have hm1 : ¬ w.heap.size + 1 = b := by omega
  have hap := @past_cell b
  have haf := @past_frozen b
  cases br with
  | true =>
    go_enter Tryz.func141, Tryz.ntmps141
    go_wp2_with fail
    refine bodyPost_ret (v := vReply (rC 3)) (by simp [results, Tryz.results141, go_sem, vReply, rC, rV, rT]) rfl ?_
    refine does_of (d' := ⟨kd, on, true, l, cnt⟩) (r := rC 3) HS.out ?_ rfl ?_ (rfl) rfl
    · skip
      repeat (first | with_reducible exact HB.out | with_reducible refine CoreBox.al ?_ _ | with_reducible refine CoreBox.s1 (on0 := on) ?_ _ | with_reducible refine CoreBox.s2 (br0 := br) ?_ _ | with_reducible refine CoreBox.s4 (n0 := cnt) ?_ _ | with_reducible refine CoreBox.so ?_ _ _ ?_)
      all_goals (simp; try omega)
    · skip
      repeat (first | with_reducible exact Kept2.refl _ _ _ | with_reducible refine Kept2.alloc ?_ _ | with_reducible refine Kept2.set ?_ _ ?_ | with_reducible refine Kept2.drew ?_)
      all_goals (first | exact Or.inr (Or.inl ⟨rfl, by simp⟩) | (left; simp; try omega))
  | false =>
    cases on with
    | true =>
      go_enter Tryz.func141, Tryz.ntmps141
      go_wp2_with fail
      refine bodyPost_ret (v := vReply (rC 0)) (by simp [results, Tryz.results141, go_sem, vReply, rC, rV, rT]) rfl ?_
      refine does_of (d' := ⟨kd, false, false, l, cnt⟩) (r := rC 0) HS.out ?_ rfl ?_ (rfl) rfl
      · skip
        repeat (first | with_reducible exact HB.out | with_reducible refine CoreBox.al ?_ _ | with_reducible refine CoreBox.s1 (on0 := true) ?_ _ | with_reducible refine CoreBox.s2 (br0 := false) ?_ _ | with_reducible refine CoreBox.s4 (n0 := cnt) ?_ _ | with_reducible refine CoreBox.so ?_ _ _ ?_)
        all_goals (simp; try omega)
      · skip
        repeat (first | with_reducible exact Kept2.refl _ _ _ | with_reducible refine Kept2.alloc ?_ _ | with_reducible refine Kept2.set ?_ _ ?_ | with_reducible refine Kept2.drew ?_)
        all_goals (first | exact Or.inr (Or.inl ⟨rfl, by simp⟩) | (left; simp; try omega))
    | false =>
      go_enter Tryz.func141, Tryz.ntmps141
      go_wp2_with fail
      refine bodyPost_ret (v := vReply (rC 2)) (by simp [results, Tryz.results141, go_sem, vReply, rC, rV, rT]) rfl ?_
      refine does_of (d' := ⟨kd, false, false, l, cnt⟩) (r := rC 2) HS.out ?_ rfl ?_ (rfl) rfl
      · skip
        repeat (first | with_reducible exact HB.out | with_reducible refine CoreBox.al ?_ _ | with_reducible refine CoreBox.s1 (on0 := false) ?_ _ | with_reducible refine CoreBox.s2 (br0 := false) ?_ _ | with_reducible refine CoreBox.s4 (n0 := cnt) ?_ _ | with_reducible refine CoreBox.so ?_ _ _ ?_)
        all_goals (simp; try omega)
      · skip
        repeat (first | with_reducible exact Kept2.refl _ _ _ | with_reducible refine Kept2.alloc ?_ _ | with_reducible refine Kept2.set ?_ _ ?_ | with_reducible refine Kept2.drew ?_)
        all_goals (first | exact Or.inr (Or.inl ⟨rfl, by simp⟩) | (left; simp; try omega))
set_option maxHeartbeats 1600000 in
theorem tell_c (N b : Nat) (cv : Value) (d : CoreD) (w : World) (h : CoreSt N b cv d w) (hr : -9223372036854775808 ≤ d.fCount) :
    Calls Tryz.prog 152 #[.agg #[.pointer (some ⟨b, 0, none⟩)]] w fun e w' => Does N b cv (tellD d) w e w' := by
  have HS := Lib.hid h
  have HB := Lib.hid h.box
  have hl0 := h.box.lt
  obtain ⟨c0, c1, c2, c3, c4, z1, z2, z3, z4⟩ := h.box
  clear h
  obtain ⟨kd, on, br, l, cnt⟩ := d
  simp only at *
  have hl1 : b < w.heap.size + 1 := by omega
  have hl2 : b < w.heap.size + 1 + 1 := by omega
  have hn0 : ¬ b = w.heap.size := by omega
  have hn1 : ¬ b = w.heap.size + 1 := by omega
  have hm0 : ¬ w.heap.size = b := by omega
  have hm1 : ¬ w.heap.size + 1 = b := by omega
  have hap := @past_cell b
  have haf := @past_frozen b
  go_enter Tryz.func152, Tryz.ntmps152
  go_wp2_with fail
  refine bodyPost_ret (v := vReply (rV cnt)) (by simp [results, Tryz.results152, go_sem, vReply, rC, rV, rT]) rfl ?_
  refine does_of (d' := ⟨kd, on, br, l, cnt⟩) (r := rV cnt) HS.out ?_ rfl ?_ (rfl) rfl
  · skip
    repeat (first | with_reducible exact HB.out | with_reducible refine CoreBox.al ?_ _ | with_reducible refine CoreBox.s1 (on0 := on) ?_ _ | with_reducible refine CoreBox.s2 (br0 := br) ?_ _ | with_reducible refine CoreBox.s4 (n0 := cnt) ?_ _ | with_reducible refine CoreBox.so ?_ _ _ ?_)
    all_goals (simp; try omega)
  · skip
    repeat (first | with_reducible exact Kept2.refl _ _ _ | with_reducible refine Kept2.alloc ?_ _ | with_reducible refine Kept2.set ?_ _ ?_ | with_reducible refine Kept2.drew ?_)
    all_goals (first | exact Or.inr (Or.inl ⟨rfl, by simp⟩) | (left; simp; try omega))
set_option maxHeartbeats 1600000 in
theorem heal_c (N b : Nat) (cv : Value) (d : CoreD) (w : World) (h : CoreSt N b cv d w) (hr : -9223372036854775808 ≤ d.fCount) :
    Calls Tryz.prog 170 #[.agg #[.pointer (some ⟨b, 0, none⟩)]] w fun e w' => Does N b cv (healD d) w e w' := by
  have HS := Lib.hid h
  have HB := Lib.hid h.box
  have hl0 := h.box.lt
  obtain ⟨c0, c1, c2, c3, c4, z1, z2, z3, z4⟩ := h.box
  clear h
  obtain ⟨kd, on, br, l, cnt⟩ := d
  simp only at *
  have hl1 : b < w.heap.size + 1 := by omega
  have hl2 : b < w.heap.size + 1 + 1 := by omega
  have hn0 : ¬ b = w.heap.size := by omega
  have hn1 : ¬ b = w.heap.size + 1 := by omega
  have hm0 : ¬ w.heap.size = b := by omega
  have hm1 : ¬ w.heap.size + 1 = b := by omega
  have hap := @past_cell b
  have haf := @past_frozen b
  go_enter Tryz.func170, Tryz.ntmps170
  go_wp2_with fail
  refine bodyPost_ret (v := vReply (rC 0)) (by simp [results, Tryz.results170, go_sem, vReply, rC, rV, rT]) rfl ?_
  refine does_of (d' := ⟨kd, false, false, l, cnt⟩) (r := rC 0) HS.out ?_ rfl ?_ (rfl) rfl
  · skip
    repeat (first | with_reducible exact HB.out | with_reducible refine CoreBox.al ?_ _ | with_reducible refine CoreBox.s1 (on0 := on) ?_ _ | with_reducible refine CoreBox.s2 (br0 := br) ?_ _ | with_reducible refine CoreBox.s4 (n0 := cnt) ?_ _ | with_reducible refine CoreBox.so ?_ _ _ ?_)
    all_goals (simp; try omega)
  · skip
    repeat (first | with_reducible exact Kept2.refl _ _ _ | with_reducible refine Kept2.alloc ?_ _ | with_reducible refine Kept2.set ?_ _ ?_ | with_reducible refine Kept2.drew ?_)
    all_goals (first | exact Or.inr (Or.inl ⟨rfl, by simp⟩) | (left; simp; try omega))
set_option maxHeartbeats 1600000 in
theorem hear_c (N b : Nat) (cv : Value) (d : CoreD) (n : Int) (w : World) (h : CoreSt N b cv d w) (hr : -9223372036854775808 ≤ d.fCount) :
    Calls Tryz.prog 153 #[.agg #[.pointer (some ⟨b, 0, none⟩)], .int .i64 n] w fun e w' => Does N b cv (hearD d n) w e w' := by
  have HS := Lib.hid h
  have HB := Lib.hid h.box
  have hl0 := h.box.lt
  obtain ⟨c0, c1, c2, c3, c4, z1, z2, z3, z4⟩ := h.box
  clear h
  obtain ⟨kd, on, br, l, cnt⟩ := d
  simp only at *
  have hl1 : b < w.heap.size + 1 := by omega
  have hl2 : b < w.heap.size + 1 + 1 := by omega
  have hn0 : ¬ b = w.heap.size := by omega
  have hn1 : ¬ b = w.heap.size + 1 := by omega
  have hm0 : ¬ w.heap.size = b := by omega
  have hm1 : ¬ w.heap.size + 1 = b := by omega
  have hap := @past_cell b
  have haf := @past_frozen b
  cases br with
  | true =>
    go_enter Tryz.func153, Tryz.ntmps153
    go_wp2_with fail
    refine bodyPost_ret (v := vReply (rC 3)) (by simp [results, Tryz.results153, go_sem, vReply, rC, rV, rT]) rfl ?_
    refine does_of (d' := ⟨kd, on, true, l, cnt⟩) (r := rC 3) HS.out ?_ rfl ?_ (rfl) rfl
    · skip
      repeat (first | with_reducible exact HB.out | with_reducible refine CoreBox.al ?_ _ | with_reducible refine CoreBox.s1 (on0 := on) ?_ _ | with_reducible refine CoreBox.s2 (br0 := br) ?_ _ | with_reducible refine CoreBox.s4 (n0 := cnt) ?_ _ | with_reducible refine CoreBox.so ?_ _ _ ?_)
      all_goals (simp; try omega)
    · skip
      repeat (first | with_reducible exact Kept2.refl _ _ _ | with_reducible refine Kept2.alloc ?_ _ | with_reducible refine Kept2.set ?_ _ ?_ | with_reducible refine Kept2.drew ?_)
      all_goals (first | exact Or.inr (Or.inl ⟨rfl, by simp⟩) | (left; simp; try omega))
  | false =>
    by_cases hz0 : n = 0
    · subst hz0
      go_enter Tryz.func153, Tryz.ntmps153
      go_wp2_with fail
      refine (countUp_c b cv ⟨kd, on, false, l, cnt⟩ _ ?_ hr).mono ?_
      · skip
        repeat (first | with_reducible exact HB.out | with_reducible refine CoreBox.al ?_ _ | with_reducible refine CoreBox.s1 (on0 := on) ?_ _ | with_reducible refine CoreBox.s2 (br0 := false) ?_ _ | with_reducible refine CoreBox.s4 (n0 := cnt) ?_ _ | with_reducible refine CoreBox.so ?_ _ _ ?_)
        all_goals (simp; try omega)
      rintro e w1 ⟨rfl, hbx, hk⟩
      simp only at hbx
      have HK := Lib.hid hk
      have HBX := Lib.hid hbx
      have g0 : w1.cell? ⟨w.heap.size, 0, none⟩ = some (.pointer (some ⟨b, 0, none⟩)) := (hk.cell (p := ⟨w.heap.size, 0, none⟩) (by simp; try omega) (by simpa using hm0) (by simp)).trans (by simp [go_sem, hm0, hm1])
      have r0 : w1.cell? ⟨w.heap.size + 1, 0, none⟩ = some (.int .i64 0) := (hk.cell (p := ⟨w.heap.size + 1, 0, none⟩) (by simp; try omega) (by simpa using hm1) (by simp)).trans (by simp [go_sem, hm0, hm1])
      have r1 : w1.cell? ⟨w.heap.size + 1, 1, none⟩ = some (.int .i64 0) := (hk.cell (p := ⟨w.heap.size + 1, 1, none⟩) (by simp; try omega) (by simpa using hm1) (by simp)).trans (by simp [go_sem, hm0, hm1])
      have r2 : w1.cell? ⟨w.heap.size + 1, 2, none⟩ = some (.string ⟨#[]⟩) := (hk.cell (p := ⟨w.heap.size + 1, 2, none⟩) (by simp; try omega) (by simpa using hm1) (by simp)).trans (by simp [go_sem, hm0, hm1])
      have r3 : w1.cell? ⟨w.heap.size + 1, 3, none⟩ = some (.int .i64 0) := (hk.cell (p := ⟨w.heap.size + 1, 3, none⟩) (by simp; try omega) (by simpa using hm1) (by simp)).trans (by simp [go_sem, hm0, hm1])
      have r4 : w1.cell? ⟨w.heap.size + 1, 4, none⟩ = some (.int .i64 0) := (hk.cell (p := ⟨w.heap.size + 1, 4, none⟩) (by simp; try omega) (by simpa using hm1) (by simp)).trans (by simp [go_sem, hm0, hm1])
      have q0 : ∀ o, w1.frozen? ⟨w.heap.size + 1, o, none⟩ = false := fun o => (hk.frozen (p := ⟨w.heap.size + 1, o, none⟩) (by simp; try omega) (by simpa using hm1) (by simp)).trans (by simp [go_sem])
      have hsz : w.heap.size + 1 + 1 ≤ w1.heap.size := by simpa using hk.size
      obtain ⟨d0, d1, d2, d3, d4, y1, y2, y3, y4⟩ := hbx
      clear hk
      simp only at d0 d1 d2 d3 d4
      clear c0 c1 c2 c3 c4 z1 z2 z3 z4
      go_wp2_with fail
      refine bodyPost_ret (v := vReply (rV (upI cnt))) (by simp [results, Tryz.results153, go_sem, vReply, rC, rV, rT, cell_set_at, cell_set_ne, r0, r1, r2, r3, r4]) rfl ?_
      refine does_of (d' := ⟨kd, false, false, l, upI cnt⟩) (r := rV (upI cnt)) HS.out ?_ rfl ?_ (rfl) rfl
      · skip
        repeat (first | with_reducible exact HBX.out | with_reducible refine CoreBox.al ?_ _ | with_reducible refine CoreBox.s1 (on0 := on) ?_ _ | with_reducible refine CoreBox.s2 (br0 := false) ?_ _ | with_reducible refine CoreBox.s4 (n0 := cnt) ?_ _ | with_reducible refine CoreBox.so ?_ _ _ ?_)
        all_goals (simp; try omega)
      · skip
        repeat (first | with_reducible refine Kept2.set ?_ _ ?_ | with_reducible refine Kept2.alloc ?_ _)
        refine Kept2.trans1 ?_ HK.out
        repeat (first | with_reducible exact Kept2.refl _ _ _ | with_reducible refine Kept2.alloc ?_ _ | with_reducible refine Kept2.set ?_ _ ?_ | with_reducible refine Kept2.drew ?_)
        all_goals (first | exact Or.inr (Or.inl ⟨rfl, by simp⟩) | (left; simp; try omega))
    · by_cases hz1 : n = 1
      · subst hz1
        go_enter Tryz.func153, Tryz.ntmps153
        go_wp2_with fail
        refine (countUp_c b cv ⟨kd, on, false, l, cnt⟩ _ ?_ hr).mono ?_
        · skip
          repeat (first | with_reducible exact HB.out | with_reducible refine CoreBox.al ?_ _ | with_reducible refine CoreBox.s1 (on0 := on) ?_ _ | with_reducible refine CoreBox.s2 (br0 := false) ?_ _ | with_reducible refine CoreBox.s4 (n0 := cnt) ?_ _ | with_reducible refine CoreBox.so ?_ _ _ ?_)
          all_goals (simp; try omega)
        rintro e w1 ⟨rfl, hbx, hk⟩
        simp only at hbx
        have HK := Lib.hid hk
        have HBX := Lib.hid hbx
        have g0 : w1.cell? ⟨w.heap.size, 0, none⟩ = some (.pointer (some ⟨b, 0, none⟩)) := (hk.cell (p := ⟨w.heap.size, 0, none⟩) (by simp; try omega) (by simpa using hm0) (by simp)).trans (by simp [go_sem, hm0, hm1])
        have r0 : w1.cell? ⟨w.heap.size + 1, 0, none⟩ = some (.int .i64 0) := (hk.cell (p := ⟨w.heap.size + 1, 0, none⟩) (by simp; try omega) (by simpa using hm1) (by simp)).trans (by simp [go_sem, hm0, hm1])
        have r1 : w1.cell? ⟨w.heap.size + 1, 1, none⟩ = some (.int .i64 0) := (hk.cell (p := ⟨w.heap.size + 1, 1, none⟩) (by simp; try omega) (by simpa using hm1) (by simp)).trans (by simp [go_sem, hm0, hm1])
        have r2 : w1.cell? ⟨w.heap.size + 1, 2, none⟩ = some (.string ⟨#[]⟩) := (hk.cell (p := ⟨w.heap.size + 1, 2, none⟩) (by simp; try omega) (by simpa using hm1) (by simp)).trans (by simp [go_sem, hm0, hm1])
        have r3 : w1.cell? ⟨w.heap.size + 1, 3, none⟩ = some (.int .i64 0) := (hk.cell (p := ⟨w.heap.size + 1, 3, none⟩) (by simp; try omega) (by simpa using hm1) (by simp)).trans (by simp [go_sem, hm0, hm1])
        have r4 : w1.cell? ⟨w.heap.size + 1, 4, none⟩ = some (.int .i64 0) := (hk.cell (p := ⟨w.heap.size + 1, 4, none⟩) (by simp; try omega) (by simpa using hm1) (by simp)).trans (by simp [go_sem, hm0, hm1])
        have q0 : ∀ o, w1.frozen? ⟨w.heap.size + 1, o, none⟩ = false := fun o => (hk.frozen (p := ⟨w.heap.size + 1, o, none⟩) (by simp; try omega) (by simpa using hm1) (by simp)).trans (by simp [go_sem])
        have hsz : w.heap.size + 1 + 1 ≤ w1.heap.size := by simpa using hk.size
        obtain ⟨d0, d1, d2, d3, d4, y1, y2, y3, y4⟩ := hbx
        clear hk
        simp only at d0 d1 d2 d3 d4
        clear c0 c1 c2 c3 c4 z1 z2 z3 z4
        go_wp2_with fail
        refine bodyPost_ret (v := vReply (rV (upI cnt))) (by simp [results, Tryz.results153, go_sem, vReply, rC, rV, rT, cell_set_at, cell_set_ne, r0, r1, r2, r3, r4]) rfl ?_
        refine does_of (d' := ⟨kd, true, false, l, upI cnt⟩) (r := rV (upI cnt)) HS.out ?_ rfl ?_ (rfl) rfl
        · skip
          repeat (first | with_reducible exact HBX.out | with_reducible refine CoreBox.al ?_ _ | with_reducible refine CoreBox.s1 (on0 := on) ?_ _ | with_reducible refine CoreBox.s2 (br0 := false) ?_ _ | with_reducible refine CoreBox.s4 (n0 := cnt) ?_ _ | with_reducible refine CoreBox.so ?_ _ _ ?_)
          all_goals (simp; try omega)
        · skip
          repeat (first | with_reducible refine Kept2.set ?_ _ ?_ | with_reducible refine Kept2.alloc ?_ _)
          refine Kept2.trans1 ?_ HK.out
          repeat (first | with_reducible exact Kept2.refl _ _ _ | with_reducible refine Kept2.alloc ?_ _ | with_reducible refine Kept2.set ?_ _ ?_ | with_reducible refine Kept2.drew ?_)
          all_goals (first | exact Or.inr (Or.inl ⟨rfl, by simp⟩) | (left; simp; try omega))
      · have HE := Lib.hid (show hearD ⟨kd, on, false, l, cnt⟩ n = (⟨kd, on, false, l, upI cnt⟩, rV (upI cnt)) by unfold hearD; simp only [Bool.false_eq_true, if_false, if_neg hz0, if_neg hz1])
        go_enter Tryz.func153, Tryz.ntmps153
        go_wp2_with fail
        refine (countUp_c b cv ⟨kd, on, false, l, cnt⟩ _ ?_ hr).mono ?_
        · skip
          repeat (first | with_reducible exact HB.out | with_reducible refine CoreBox.al ?_ _ | with_reducible refine CoreBox.s1 (on0 := on) ?_ _ | with_reducible refine CoreBox.s2 (br0 := false) ?_ _ | with_reducible refine CoreBox.s4 (n0 := cnt) ?_ _ | with_reducible refine CoreBox.so ?_ _ _ ?_)
          all_goals (simp; try omega)
        rintro e w1 ⟨rfl, hbx, hk⟩
        simp only at hbx
        have HK := Lib.hid hk
        have HBX := Lib.hid hbx
        have g0 : w1.cell? ⟨w.heap.size, 0, none⟩ = some (.pointer (some ⟨b, 0, none⟩)) := (hk.cell (p := ⟨w.heap.size, 0, none⟩) (by simp; try omega) (by simpa using hm0) (by simp)).trans (by simp [go_sem, hm0, hm1])
        have r0 : w1.cell? ⟨w.heap.size + 1, 0, none⟩ = some (.int .i64 0) := (hk.cell (p := ⟨w.heap.size + 1, 0, none⟩) (by simp; try omega) (by simpa using hm1) (by simp)).trans (by simp [go_sem, hm0, hm1])
        have r1 : w1.cell? ⟨w.heap.size + 1, 1, none⟩ = some (.int .i64 0) := (hk.cell (p := ⟨w.heap.size + 1, 1, none⟩) (by simp; try omega) (by simpa using hm1) (by simp)).trans (by simp [go_sem, hm0, hm1])
        have r2 : w1.cell? ⟨w.heap.size + 1, 2, none⟩ = some (.string ⟨#[]⟩) := (hk.cell (p := ⟨w.heap.size + 1, 2, none⟩) (by simp; try omega) (by simpa using hm1) (by simp)).trans (by simp [go_sem, hm0, hm1])
        have r3 : w1.cell? ⟨w.heap.size + 1, 3, none⟩ = some (.int .i64 0) := (hk.cell (p := ⟨w.heap.size + 1, 3, none⟩) (by simp; try omega) (by simpa using hm1) (by simp)).trans (by simp [go_sem, hm0, hm1])
        have r4 : w1.cell? ⟨w.heap.size + 1, 4, none⟩ = some (.int .i64 0) := (hk.cell (p := ⟨w.heap.size + 1, 4, none⟩) (by simp; try omega) (by simpa using hm1) (by simp)).trans (by simp [go_sem, hm0, hm1])
        have q0 : ∀ o, w1.frozen? ⟨w.heap.size + 1, o, none⟩ = false := fun o => (hk.frozen (p := ⟨w.heap.size + 1, o, none⟩) (by simp; try omega) (by simpa using hm1) (by simp)).trans (by simp [go_sem])
        have hsz : w.heap.size + 1 + 1 ≤ w1.heap.size := by simpa using hk.size
        obtain ⟨d0, d1, d2, d3, d4, y1, y2, y3, y4⟩ := hbx
        clear hk
        simp only at d0 d1 d2 d3 d4
        clear c0 c1 c2 c3 c4 z1 z2 z3 z4
        go_wp2_with fail
        refine bodyPost_ret (v := vReply (rV (upI cnt))) (by simp [results, Tryz.results153, go_sem, vReply, rC, rV, rT, cell_set_at, cell_set_ne, r0, r1, r2, r3, r4]) rfl ?_
        refine does_of (d' := ⟨kd, on, false, l, upI cnt⟩) (r := rV (upI cnt)) HS.out ?_ rfl ?_ (HE.out) rfl
        · skip
          repeat (first | with_reducible exact HBX.out | with_reducible refine CoreBox.al ?_ _ | with_reducible refine CoreBox.s1 (on0 := on) ?_ _ | with_reducible refine CoreBox.s2 (br0 := false) ?_ _ | with_reducible refine CoreBox.s4 (n0 := cnt) ?_ _ | with_reducible refine CoreBox.so ?_ _ _ ?_)
          all_goals (simp; try omega)
        · skip
          repeat (first | with_reducible refine Kept2.set ?_ _ ?_ | with_reducible refine Kept2.alloc ?_ _)
          refine Kept2.trans1 ?_ HK.out
          repeat (first | with_reducible exact Kept2.refl _ _ _ | with_reducible refine Kept2.alloc ?_ _ | with_reducible refine Kept2.set ?_ _ ?_ | with_reducible refine Kept2.drew ?_)
          all_goals (first | exact Or.inr (Or.inl ⟨rfl, by simp⟩) | (left; simp; try omega))
end Go.Proofs.YtghebbndfpbkcaaGreat
/- A core's methods: idleCode, findCell, Get. -/
namespace Go.Proofs.YtghebbndfpbkcaaGreat
set_option linter.unusedVariables false
set_option linter.unusedSimpArgs false
open Go.RowKit
theorem kindOff_any (l : List UInt8) (k : Nat) (hk : k < 6) : kindOff l (2 ^ k) = hasI (kfI (kindI l)) k := by
  cases h : decide (0 ≤ kindI l) with
  | true => exact kindOff_has l h k hk
  | false =>
    have h1 : kindI l < 0 := by simpa using h
    have h2 : kfI (kindI l) = 0 := by unfold kfI; rw [if_pos h1]
    unfold kindOff
    rw [h, Bool.false_and, h2]
    rcases (show k = 0 ∨ k = 1 ∨ k = 2 ∨ k = 3 ∨ k = 4 ∨ k = 5 by omega) with rfl | rfl | rfl | rfl | rfl | rfl <;> rfl
set_option maxHeartbeats 800000 in
theorem idle_c (b : Nat) (cv : Value) (d : CoreD) (w : World) (h : CoreBox w b cv d) :
    Calls Tryz.prog 145 #[.pointer (some ⟨b, 0, none⟩)] w fun e w' => e = .returned (.int .i64 (idleI d)) ∧ w = w' := by
  obtain ⟨c0, c1, c2, c3, c4, z1, z2, z3, z4⟩ := h
  obtain ⟨kd, on, br, l, cnt⟩ := d
  simp only at *
  have HK := Lib.hid (fun w => kindOffers_b kd 1 _ (kindOff_any kd 0 (by decide)) w)
  have HI := Lib.hid (show ∀ x, hasI (kfI (kindI kd)) 0 = x → idleI ⟨kd, on, br, l, cnt⟩ = if br = true then 3 else if (!on && x) = true then 2 else 0 from fun x hx => by unfold idleI coreF; rw [hx])
  generalize idleI ⟨kd, on, br, l, cnt⟩ = r at *
  generalize hx : hasI (kfI (kindI kd)) 0 = x at *
  have HR := Lib.hid (HI.out x rfl)
  clear HI hx
  cases br with
  | true =>
    go_enter Tryz.func145, Tryz.ntmps145
    go_wp2_with fail
    go_ret
    exact ⟨ret_int HR.out.symm, rfl⟩
  | false =>
    cases on with
    | true =>
      go_enter Tryz.func145, Tryz.ntmps145
      go_wp2_with fail
      go_ret
      exact ⟨ret_int (HR.out.trans (by simp)).symm, rfl⟩
    | false =>
      cases x <;>
        (go_enter Tryz.func145, Tryz.ntmps145
         go_wp2_with (first | (go_at_call 41; (with_reducible refine (HK.out _).mono ?_); rintro e w' ⟨rfl, rfl⟩))
         go_ret
         exact ⟨ret_int (HR.out.trans (by simp)).symm, rfl⟩)
set_option maxHeartbeats 1600000 in
theorem find_c (v : Value) (l : List CellD) (key : List UInt8) (w : World) (hx : FlatAt cCell 2 w v l) :
    Calls Tryz.prog 146 #[v, .string ⟨key.toArray⟩] w fun e w' => e = .returned (.tuple #[.int .i64 (plc l key), .bool (fnd l key)]) ∧ Below w.heap.size w w' := by
  obtain ⟨a, c, rfl, hl⟩ := flatAt_len hx
  have HX := Lib.hid hx
  clear hx
  unfold maxLen at hl
  go_enter Tryz.func146, Tryz.ntmps146
  go_wp2_with fail
  go_loopw [6, 7, 10] (fun _ _ i wr => ∃ k : Nat, k ≤ l.length ∧ i = .int .i64 k ∧ (∀ j (h : j < l.length), j < k → (l[j]).fKey < key) ∧ Below w.heap.size w wr) (fun _ _ i _ => l.length - (intOf i).toNat)
  case atStart => exact ⟨0, Nat.zero_le _, rfl, by intro j h hj; omega, Below.refl _ _⟩
  case round =>
    obtain ⟨k, hk, rfl, hok, hb⟩ := hrel
    have HO := Lib.hid hok
    have HB := Lib.hid hb
    have HXr := Lib.hid (FlatAt.below HX.out hb (Nat.le_refl _))
    clear hok hb
    by_cases hlt : k < l.length
    · obtain ⟨b, o, rfl, hbl, hd⟩ := flatAt_cell cCell_len HXr.out k hlt (by decide)
      have d0 := hd 0 (by decide)
      have d1 := hd 1 (by decide)
      clear hd
      have HBB := Lib.hid (show ∀ o1, Below w.heap.size w (wr.alloc o1) from fun o1 => HB.out.alloc HB.out.size _)
      cases hx : Op.bytesLess (l[k]).fKey key with
      | true =>
        have HN := Lib.hid (show ∀ j (h : j < l.length), j < k + 1 → (l[j]).fKey < key from fun j h hj => by
          rcases Nat.lt_or_ge j k with h1 | h1
          · exact HO.out j h h1
          · have : j = k := by omega
            subst this; rw [bytes_lt2] at hx; simpa using hx)
        generalize l[k] = p at *
        obtain ⟨a0, a1⟩ := p
        simp only [cCell, List.getElem?_cons_zero, List.getElem?_cons_succ, Nat.add_zero] at d0 d1
        go_wp2_with fail
        exact ⟨⟨k + 1, by omega, by go_num, HN.out, HBB.out _⟩, by simp [intOf]; omega⟩
      | false =>
        have hp : plc l key = k := plc_eq l key k hk HO.out fun h => by rw [bytes_lt2] at hx; simpa using hx
        have HF := Lib.hid (show fnd l key = (decide ((l[k]).fKey = key)) from by have := (fnd_at l key (by omega)).1; simpa only [hp] using this)
        have HP := Lib.hid hp
        clear hp
        cases heq : ((l[k]).fKey == key) with
        | true =>
          have HR := Lib.hid (show fnd l key = true by rw [HF.out]; simpa using heq)
          clear HF
          generalize l[k] = p at *
          obtain ⟨a0, a1⟩ := p
          simp only [cCell, List.getElem?_cons_zero, List.getElem?_cons_succ, Nat.add_zero] at d0 d1
          go_wp2_with fail
          go_quiet (fail)
          go_wp2_with fail
          go_ret2
          rw [HP.out, HR.out]
          exact ⟨rfl, below_drewN (HBB.out _) _⟩
        | false =>
          have HR := Lib.hid (show fnd l key = false by rw [HF.out]; simpa using heq)
          clear HF
          generalize l[k] = p at *
          obtain ⟨a0, a1⟩ := p
          simp only [cCell, List.getElem?_cons_zero, List.getElem?_cons_succ, Nat.add_zero] at d0 d1
          go_wp2_with fail
          go_quiet (fail)
          go_wp2_with fail
          go_ret2
          rw [HP.out, HR.out]
          exact ⟨rfl, below_drewN (HBB.out _) _⟩
    · have hp : plc l key = l.length := plc_eq l key l.length (Nat.le_refl _) (fun j h hj => HO.out j h (by omega)) (fun h => absurd h (by omega))
      have HF := Lib.hid (fnd_end l key hp)
      have HP := Lib.hid hp
      clear hp
      go_wp2_with fail
      go_ret2
      rw [HP.out, HF.out]
      exact ⟨rfl, HB.out⟩
theorem idleI_cases (d : CoreD) : idleI d = 0 ∨ idleI d = 2 ∨ idleI d = 3 := by
  unfold idleI; split
  · exact Or.inr (Or.inr rfl)
  · split
    · exact Or.inr (Or.inl rfl)
    · exact Or.inl rfl
set_option maxHeartbeats 1600000 in
theorem get_c (N b : Nat) (cv : Value) (d : CoreD) (key : List UInt8) (w : World) (h : CoreSt N b cv d w) (hm : d.fCells.length ≤ 4194304) :
    Calls Tryz.prog 143 #[.agg #[.pointer (some ⟨b, 0, none⟩)], .string ⟨key.toArray⟩] w fun e w' => Does N b cv (getD1 d key) w e w' := by
  have HS := Lib.hid h
  have HB := Lib.hid h.box
  have hl0 := h.box.lt
  have HX := Lib.hid (ownsF_at h.own hm)
  obtain ⟨c0, c1, c2, c3, c4, z1, z2, z3, z4⟩ := h.box
  clear h
  have HD := Lib.hid (fun w' (hw : Below w.heap.size w w') => show CoreBox w' b cv d ∧ Kept2 w w' (some b) none from ⟨HB.out.keep (hw.block b hl0), Kept2.of_below hw⟩)
  have HI := Lib.hid (fun w' (hw : Below w.heap.size w w') => idle_c b cv d w' (HD.out w' hw).1)
  have HF := Lib.hid (fun w' (hw : Below w.heap.size w w') => find_c cv d.fCells key w' (HX.out.below hw (Nat.le_refl _)))
  have HG := Lib.hid (show getD1 d key = if idleI d = 0 then (if fnd d.fCells key = true then (d, rV (valAt d.fCells key)) else (d, rC 4)) else (d, rC (idleI d)) from rfl)
  have hic := idleI_cases d
  have HA := Lib.hid (show fnd d.fCells key = true → ∃ (h : plc d.fCells key < d.fCells.length), valAt d.fCells key = (d.fCells[plc d.fCells key]).fValue from fun h => ⟨fnd_lt h, (fnd_at _ _ (fnd_lt h)).2⟩)
  generalize getD1 d key = out at *
  generalize idleI d = code at *
  generalize fnd d.fCells key = f at *
  generalize plc d.fCells key = p at *
  generalize valAt d.fCells key = vl at *
  obtain ⟨kd, on, br, l, cnt⟩ := d
  simp only at *
  have hl1 : b < w.heap.size + 1 := by omega
  have hl2 : b < w.heap.size + 1 + 1 := by omega
  have hn0 : ¬ b = w.heap.size := by omega
  have hn1 : ¬ b = w.heap.size + 1 := by omega
  have hap := @past_cell b
  have HB2 := Lib.hid (show ∀ o1 o2, Below w.heap.size w ((w.alloc o1).alloc o2) from fun o1 o2 => ((Below.refl _ _).alloc (Nat.le_refl _) _).alloc (by simp) _)
  by_cases hc : code = 0
  · subst hc
    go_enter Tryz.func143, Tryz.ntmps143
    go_wp2_with fail
    refine (HI.out _ (HB2.out _ _)).mono ?_
    rintro e w1 ⟨rfl, rfl⟩
    go_wp2_with fail
    refine (HF.out _ (HB2.out _ _)).mono ?_
    rintro e w1 ⟨rfl, hb⟩
    have HB3 := Lib.hid ((HB2.out _ _).trans (hb.mono (HB2.out _ _).size))
    have HX1 := Lib.hid (HX.out.below HB3.out (Nat.le_refl _))
    obtain ⟨hcc, hff⟩ := bcell hb
    simp at hcc hff
    have hsz := hb.size
    simp at hsz
    clear hb
    cases f with
    | true =>
      obtain ⟨hp, hv⟩ := HA.out rfl
      obtain ⟨va, vc, rfl, _⟩ := flatAt_len HX1.out
      obtain ⟨g, o, rfl, hgl, hd⟩ := flatAt_cell cCell_len HX1.out p hp (by decide)
      have e1 := hd 1 (by decide)
      have HV := Lib.hid hv
      clear hd hv
      generalize l[p] = q at *
      obtain ⟨q0, q1⟩ := q
      simp only [cCell, List.getElem?_cons_zero, List.getElem?_cons_succ, Nat.add_zero] at e1
      have hp0 : (0 : Int) ≤ (p : Int) := by omega
      have hp1 : (p : Int) < (l.length : Int) := by omega
      go_wp2_with fail
      refine bodyPost_ret (v := vReply (rV q1)) (by simp [results, Tryz.results143, go_sem, vReply, rC, rV, rT, cell_set_at, cell_set_ne, hcc]) rfl ?_
      refine does_of (d' := ⟨kd, on, br, l, cnt⟩) (r := rV q1) HS.out ?_ rfl ?_ (by rw [HG.out, HV.out]; rfl) rfl
      · exact (HD.out _ (by repeat (first | with_reducible exact HB3.out | with_reducible refine Below.setCell ?_ (by simp; try omega) _)) ).1
      · exact (HD.out _ (by repeat (first | with_reducible exact HB3.out | with_reducible refine Below.setCell ?_ (by simp; try omega) _)) ).2
    | false =>
      go_wp2_with fail
      refine bodyPost_ret (v := vReply (rC 4)) (by simp [results, Tryz.results143, go_sem, vReply, rC, rV, rT, cell_set_at, cell_set_ne, hcc]) rfl ?_
      refine does_of (d' := ⟨kd, on, br, l, cnt⟩) (r := rC 4) HS.out ?_ rfl ?_ (by rw [HG.out]; rfl) rfl
      · exact (HD.out _ (by repeat (first | with_reducible exact HB3.out | with_reducible refine Below.setCell ?_ (by simp; try omega) _)) ).1
      · exact (HD.out _ (by repeat (first | with_reducible exact HB3.out | with_reducible refine Below.setCell ?_ (by simp; try omega) _)) ).2
  · have hcn : (code != 0) = true := by simpa using hc
    go_enter Tryz.func143, Tryz.ntmps143
    go_wp2_with fail
    refine (HI.out _ (HB2.out _ _)).mono ?_
    rintro e w1 ⟨rfl, rfl⟩
    go_wp2_with fail
    refine bodyPost_ret (v := vReply (rC code)) (by simp [results, Tryz.results143, go_sem, vReply, rC, rV, rT]) rfl ?_
    refine does_of (d' := ⟨kd, on, br, l, cnt⟩) (r := rC code) HS.out ?_ rfl ?_ (by rw [HG.out, if_neg hc]) rfl
    · exact (HD.out _ (HB2.out _ _)).1
    · exact (HD.out _ (HB2.out _ _)).2
end Go.Proofs.YtghebbndfpbkcaaGreat
/- What partOf hands out, by kind. -/
namespace Go.Proofs.YtghebbndfpbkcaaGreat
set_option linter.unusedVariables false
set_option linter.unusedSimpArgs false
open Go.RowKit
def ptrs (b n : Nat) : Value := .agg (Array.replicate n (.pointer (some ⟨b, 0, none⟩)))
def partV (b : Nat) : Nat → Value
  | 0 => .iface 148 (.agg #[.pointer (some ⟨b, 0, none⟩)])
  | 1 => .iface 129 (.agg #[.pointer (some ⟨b, 0, none⟩), .pointer (some ⟨b, 0, none⟩)])
  | 2 => .iface 132 (.agg #[.pointer (some ⟨b, 0, none⟩), .pointer (some ⟨b, 0, none⟩)])
  | 3 => .iface 135 (.agg #[.pointer (some ⟨b, 0, none⟩), .pointer (some ⟨b, 0, none⟩), .pointer (some ⟨b, 0, none⟩)])
  | 4 => .iface 137 (.agg #[.pointer (some ⟨b, 0, none⟩), .pointer (some ⟨b, 0, none⟩), .pointer (some ⟨b, 0, none⟩)])
  | 5 => .iface 140 (.agg #[.pointer (some ⟨b, 0, none⟩), .pointer (some ⟨b, 0, none⟩), .pointer (some ⟨b, 0, none⟩)])
  | 6 => .iface 143 (.agg #[.pointer (some ⟨b, 0, none⟩), .pointer (some ⟨b, 0, none⟩), .pointer (some ⟨b, 0, none⟩), .pointer (some ⟨b, 0, none⟩)])
  | _ => .iface 146 (.agg #[.pointer (some ⟨b, 0, none⟩), .pointer (some ⟨b, 0, none⟩), .pointer (some ⟨b, 0, none⟩), .pointer (some ⟨b, 0, none⟩), .pointer (some ⟨b, 0, none⟩), .pointer (some ⟨b, 0, none⟩), .pointer (some ⟨b, 0, none⟩)])
set_option maxRecDepth 100000 in
set_option maxHeartbeats 1600000 in
theorem partOf_k (j : Nat) (hj : j < 8) (b : Nat) (w : World) (h : w.cell? ⟨b, 0, none⟩ = some (.string ⟨(kindN j).toArray⟩)) :
    Calls Tryz.prog 71 #[.pointer (some ⟨b, 0, none⟩)] w fun e w' => e = .returned (partV b j) ∧ Below w.heap.size w w' := by
  have hl0 := World.block_lt_of_cell? w _ h
  simp only at hl0
  have hn0 : ¬ b = w.heap.size := by omega
  rcases (show j = 0 ∨ j = 1 ∨ j = 2 ∨ j = 3 ∨ j = 4 ∨ j = 5 ∨ j = 6 ∨ j = 7 by omega) with rfl | rfl | rfl | rfl | rfl | rfl | rfl | rfl
  all_goals
    simp only [kindN] at h
    unfold partV
    go_enter Tryz.func71, Tryz.ntmps71
    go_wp2_with fail
    go_ret
    exact ⟨rfl, (Below.refl _ _).alloc (Nat.le_refl _) _⟩
end Go.Proofs.YtghebbndfpbkcaaGreat
/- What partOf hands out, by kind. -/
namespace Go.Proofs.YtghebbndfpbkcaaGreat
set_option linter.unusedVariables false
set_option linter.unusedSimpArgs false
open Go.RowKit
set_option maxRecDepth 100000 in
set_option maxHeartbeats 1600000 in
theorem partOf_c (j : Nat) (hj : j < 8) (b : Nat) (cv : Value) (d : CoreD) (w : World) (h : CoreBox w b cv d) (hk : d.fKind = kindN j) :
    Calls Tryz.prog 71 #[.pointer (some ⟨b, 0, none⟩)] w fun e w' => e = .returned (partV b j) ∧ Below w.heap.size w w' := by
  have hl0 := h.lt
  have c0 := h.c0
  rw [hk] at c0
  clear hk h
  have hn0 : ¬ b = w.heap.size := by omega
  have hap := @past_cell b
  rcases (show j = 0 ∨ j = 1 ∨ j = 2 ∨ j = 3 ∨ j = 4 ∨ j = 5 ∨ j = 6 ∨ j = 7 by omega) with rfl | rfl | rfl | rfl | rfl | rfl | rfl | rfl
  all_goals
    simp only [kindN] at c0
    unfold partV
    go_enter Tryz.func71, Tryz.ntmps71
    go_wp2_with fail
    go_ret
    exact ⟨rfl, (Below.refl _ _).alloc (Nat.le_refl _) _⟩
end Go.Proofs.YtghebbndfpbkcaaGreat
/- Assertions on the kinds: which hold, which fail; the methods behind them. Written by gen/ch3door.py. -/
namespace Go.Proofs.YtghebbndfpbkcaaGreat
set_option linter.unusedVariables false
open Go.RowKit
theorem ta_0_0 : Fails 159 148 := fails_of Tryz.underlying159 (by kernel_rfl)
theorem ta_0_1 : Fails 162 148 := fails_of Tryz.underlying162 (by kernel_rfl)
theorem ta_0_2 : Fails 166 148 := fails_of Tryz.underlying166 (by kernel_rfl)
theorem ta_0_3 : Fails 168 148 := fails_of Tryz.underlying168 (by kernel_rfl)
theorem ta_0_4 : Fails 171 148 := fails_of Tryz.underlying171 (by kernel_rfl)
theorem ta_0_5 : Fails 173 148 := fails_of Tryz.underlying173 (by kernel_rfl)
theorem face_0 (b : Nat) : ∀ (fuel : Nat) (w : World), (method (fuel + 1) 148 (.agg #[.pointer (some ⟨b, 0, none⟩)]) "loop.example/g03016/impl.face").run Tryz.prog w = .ok (138, .agg #[.pointer (some ⟨b, 0, none⟩)]) w := by intro fuel w; kernel_rfl
theorem faceNil_0 (b : Nat) : ∀ (fuel : Nat) (w : World), (nilAhead (fuel + 1) 148 (.agg #[.pointer (some ⟨b, 0, none⟩)]) "loop.example/g03016/impl.face").run Tryz.prog w = .ok (some false) w := by intro fuel w; kernel_rfl
theorem ta_1_0 : ∀ (v : Value) (xT : TypeId) (w : World), (Instr.typeAssert (.iface 129 v) xT 159 false).run Tryz.prog w = .ok (.iface 129 v) w := ta_has Tryz.underlying159 (by kernel_rfl)
theorem ta_1_1 : Fails 162 129 := fails_of Tryz.underlying162 (by kernel_rfl)
theorem ta_1_2 : Fails 166 129 := fails_of Tryz.underlying166 (by kernel_rfl)
theorem ta_1_3 : Fails 168 129 := fails_of Tryz.underlying168 (by kernel_rfl)
theorem ta_1_4 : Fails 171 129 := fails_of Tryz.underlying171 (by kernel_rfl)
theorem ta_1_5 : Fails 173 129 := fails_of Tryz.underlying173 (by kernel_rfl)
theorem method_1_Start (b : Nat) : ∀ (fuel : Nat) (w : World), (method (fuel + 1) 129 (.agg #[.pointer (some ⟨b, 0, none⟩), .pointer (some ⟨b, 0, none⟩)]) "Start").run Tryz.prog w = .ok (140, .agg #[.pointer (some ⟨b, 0, none⟩)]) w := by intro fuel w; kernel_rfl
theorem nilAhead_1_Start (b : Nat) : ∀ (fuel : Nat) (w : World), (nilAhead (fuel + 1) 129 (.agg #[.pointer (some ⟨b, 0, none⟩), .pointer (some ⟨b, 0, none⟩)]) "Start").run Tryz.prog w = .ok (some false) w := by intro fuel w; kernel_rfl
theorem method_1_Stop (b : Nat) : ∀ (fuel : Nat) (w : World), (method (fuel + 1) 129 (.agg #[.pointer (some ⟨b, 0, none⟩), .pointer (some ⟨b, 0, none⟩)]) "Stop").run Tryz.prog w = .ok (141, .agg #[.pointer (some ⟨b, 0, none⟩)]) w := by intro fuel w; kernel_rfl
theorem nilAhead_1_Stop (b : Nat) : ∀ (fuel : Nat) (w : World), (nilAhead (fuel + 1) 129 (.agg #[.pointer (some ⟨b, 0, none⟩), .pointer (some ⟨b, 0, none⟩)]) "Stop").run Tryz.prog w = .ok (some false) w := by intro fuel w; kernel_rfl
theorem face_1 (b : Nat) : ∀ (fuel : Nat) (w : World), (method (fuel + 1) 129 (.agg #[.pointer (some ⟨b, 0, none⟩), .pointer (some ⟨b, 0, none⟩)]) "loop.example/g03016/impl.face").run Tryz.prog w = .ok (138, .agg #[.pointer (some ⟨b, 0, none⟩)]) w := by intro fuel w; kernel_rfl
theorem faceNil_1 (b : Nat) : ∀ (fuel : Nat) (w : World), (nilAhead (fuel + 1) 129 (.agg #[.pointer (some ⟨b, 0, none⟩), .pointer (some ⟨b, 0, none⟩)]) "loop.example/g03016/impl.face").run Tryz.prog w = .ok (some false) w := by intro fuel w; kernel_rfl
theorem ta_2_0 : Fails 159 132 := fails_of Tryz.underlying159 (by kernel_rfl)
theorem ta_2_1 : ∀ (v : Value) (xT : TypeId) (w : World), (Instr.typeAssert (.iface 132 v) xT 162 false).run Tryz.prog w = .ok (.iface 132 v) w := ta_has Tryz.underlying162 (by kernel_rfl)
theorem ta_2_2 : Fails 166 132 := fails_of Tryz.underlying166 (by kernel_rfl)
theorem ta_2_3 : Fails 168 132 := fails_of Tryz.underlying168 (by kernel_rfl)
theorem ta_2_4 : Fails 171 132 := fails_of Tryz.underlying171 (by kernel_rfl)
theorem ta_2_5 : Fails 173 132 := fails_of Tryz.underlying173 (by kernel_rfl)
theorem method_2_Get (b : Nat) : ∀ (fuel : Nat) (w : World), (method (fuel + 1) 132 (.agg #[.pointer (some ⟨b, 0, none⟩), .pointer (some ⟨b, 0, none⟩)]) "Get").run Tryz.prog w = .ok (143, .agg #[.pointer (some ⟨b, 0, none⟩)]) w := by intro fuel w; kernel_rfl
theorem nilAhead_2_Get (b : Nat) : ∀ (fuel : Nat) (w : World), (nilAhead (fuel + 1) 132 (.agg #[.pointer (some ⟨b, 0, none⟩), .pointer (some ⟨b, 0, none⟩)]) "Get").run Tryz.prog w = .ok (some false) w := by intro fuel w; kernel_rfl
theorem method_2_Put (b : Nat) : ∀ (fuel : Nat) (w : World), (method (fuel + 1) 132 (.agg #[.pointer (some ⟨b, 0, none⟩), .pointer (some ⟨b, 0, none⟩)]) "Put").run Tryz.prog w = .ok (144, .agg #[.pointer (some ⟨b, 0, none⟩)]) w := by intro fuel w; kernel_rfl
theorem nilAhead_2_Put (b : Nat) : ∀ (fuel : Nat) (w : World), (nilAhead (fuel + 1) 132 (.agg #[.pointer (some ⟨b, 0, none⟩), .pointer (some ⟨b, 0, none⟩)]) "Put").run Tryz.prog w = .ok (some false) w := by intro fuel w; kernel_rfl
theorem face_2 (b : Nat) : ∀ (fuel : Nat) (w : World), (method (fuel + 1) 132 (.agg #[.pointer (some ⟨b, 0, none⟩), .pointer (some ⟨b, 0, none⟩)]) "loop.example/g03016/impl.face").run Tryz.prog w = .ok (138, .agg #[.pointer (some ⟨b, 0, none⟩)]) w := by intro fuel w; kernel_rfl
theorem faceNil_2 (b : Nat) : ∀ (fuel : Nat) (w : World), (nilAhead (fuel + 1) 132 (.agg #[.pointer (some ⟨b, 0, none⟩), .pointer (some ⟨b, 0, none⟩)]) "loop.example/g03016/impl.face").run Tryz.prog w = .ok (some false) w := by intro fuel w; kernel_rfl
theorem ta_3_0 : ∀ (v : Value) (xT : TypeId) (w : World), (Instr.typeAssert (.iface 135 v) xT 159 false).run Tryz.prog w = .ok (.iface 135 v) w := ta_has Tryz.underlying159 (by kernel_rfl)
theorem ta_3_1 : Fails 162 135 := fails_of Tryz.underlying162 (by kernel_rfl)
theorem ta_3_2 : ∀ (v : Value) (xT : TypeId) (w : World), (Instr.typeAssert (.iface 135 v) xT 166 false).run Tryz.prog w = .ok (.iface 135 v) w := ta_has Tryz.underlying166 (by kernel_rfl)
theorem ta_3_3 : Fails 168 135 := fails_of Tryz.underlying168 (by kernel_rfl)
theorem ta_3_4 : Fails 171 135 := fails_of Tryz.underlying171 (by kernel_rfl)
theorem ta_3_5 : Fails 173 135 := fails_of Tryz.underlying173 (by kernel_rfl)
theorem method_3_Start (b : Nat) : ∀ (fuel : Nat) (w : World), (method (fuel + 1) 135 (.agg #[.pointer (some ⟨b, 0, none⟩), .pointer (some ⟨b, 0, none⟩), .pointer (some ⟨b, 0, none⟩)]) "Start").run Tryz.prog w = .ok (140, .agg #[.pointer (some ⟨b, 0, none⟩)]) w := by intro fuel w; kernel_rfl
theorem nilAhead_3_Start (b : Nat) : ∀ (fuel : Nat) (w : World), (nilAhead (fuel + 1) 135 (.agg #[.pointer (some ⟨b, 0, none⟩), .pointer (some ⟨b, 0, none⟩), .pointer (some ⟨b, 0, none⟩)]) "Start").run Tryz.prog w = .ok (some false) w := by intro fuel w; kernel_rfl
theorem method_3_Stop (b : Nat) : ∀ (fuel : Nat) (w : World), (method (fuel + 1) 135 (.agg #[.pointer (some ⟨b, 0, none⟩), .pointer (some ⟨b, 0, none⟩), .pointer (some ⟨b, 0, none⟩)]) "Stop").run Tryz.prog w = .ok (141, .agg #[.pointer (some ⟨b, 0, none⟩)]) w := by intro fuel w; kernel_rfl
theorem nilAhead_3_Stop (b : Nat) : ∀ (fuel : Nat) (w : World), (nilAhead (fuel + 1) 135 (.agg #[.pointer (some ⟨b, 0, none⟩), .pointer (some ⟨b, 0, none⟩), .pointer (some ⟨b, 0, none⟩)]) "Stop").run Tryz.prog w = .ok (some false) w := by intro fuel w; kernel_rfl
theorem method_3_Tell (b : Nat) : ∀ (fuel : Nat) (w : World), (method (fuel + 1) 135 (.agg #[.pointer (some ⟨b, 0, none⟩), .pointer (some ⟨b, 0, none⟩), .pointer (some ⟨b, 0, none⟩)]) "Tell").run Tryz.prog w = .ok (152, .agg #[.pointer (some ⟨b, 0, none⟩)]) w := by intro fuel w; kernel_rfl
theorem nilAhead_3_Tell (b : Nat) : ∀ (fuel : Nat) (w : World), (nilAhead (fuel + 1) 135 (.agg #[.pointer (some ⟨b, 0, none⟩), .pointer (some ⟨b, 0, none⟩), .pointer (some ⟨b, 0, none⟩)]) "Tell").run Tryz.prog w = .ok (some false) w := by intro fuel w; kernel_rfl
theorem face_3 (b : Nat) : ∀ (fuel : Nat) (w : World), (method (fuel + 1) 135 (.agg #[.pointer (some ⟨b, 0, none⟩), .pointer (some ⟨b, 0, none⟩), .pointer (some ⟨b, 0, none⟩)]) "loop.example/g03016/impl.face").run Tryz.prog w = .ok (138, .agg #[.pointer (some ⟨b, 0, none⟩)]) w := by intro fuel w; kernel_rfl
theorem faceNil_3 (b : Nat) : ∀ (fuel : Nat) (w : World), (nilAhead (fuel + 1) 135 (.agg #[.pointer (some ⟨b, 0, none⟩), .pointer (some ⟨b, 0, none⟩), .pointer (some ⟨b, 0, none⟩)]) "loop.example/g03016/impl.face").run Tryz.prog w = .ok (some false) w := by intro fuel w; kernel_rfl
theorem ta_4_0 : ∀ (v : Value) (xT : TypeId) (w : World), (Instr.typeAssert (.iface 137 v) xT 159 false).run Tryz.prog w = .ok (.iface 137 v) w := ta_has Tryz.underlying159 (by kernel_rfl)
theorem ta_4_1 : ∀ (v : Value) (xT : TypeId) (w : World), (Instr.typeAssert (.iface 137 v) xT 162 false).run Tryz.prog w = .ok (.iface 137 v) w := ta_has Tryz.underlying162 (by kernel_rfl)
theorem ta_4_2 : Fails 166 137 := fails_of Tryz.underlying166 (by kernel_rfl)
theorem ta_4_3 : Fails 168 137 := fails_of Tryz.underlying168 (by kernel_rfl)
theorem ta_4_4 : Fails 171 137 := fails_of Tryz.underlying171 (by kernel_rfl)
theorem ta_4_5 : Fails 173 137 := fails_of Tryz.underlying173 (by kernel_rfl)
theorem method_4_Start (b : Nat) : ∀ (fuel : Nat) (w : World), (method (fuel + 1) 137 (.agg #[.pointer (some ⟨b, 0, none⟩), .pointer (some ⟨b, 0, none⟩), .pointer (some ⟨b, 0, none⟩)]) "Start").run Tryz.prog w = .ok (140, .agg #[.pointer (some ⟨b, 0, none⟩)]) w := by intro fuel w; kernel_rfl
theorem nilAhead_4_Start (b : Nat) : ∀ (fuel : Nat) (w : World), (nilAhead (fuel + 1) 137 (.agg #[.pointer (some ⟨b, 0, none⟩), .pointer (some ⟨b, 0, none⟩), .pointer (some ⟨b, 0, none⟩)]) "Start").run Tryz.prog w = .ok (some false) w := by intro fuel w; kernel_rfl
theorem method_4_Stop (b : Nat) : ∀ (fuel : Nat) (w : World), (method (fuel + 1) 137 (.agg #[.pointer (some ⟨b, 0, none⟩), .pointer (some ⟨b, 0, none⟩), .pointer (some ⟨b, 0, none⟩)]) "Stop").run Tryz.prog w = .ok (141, .agg #[.pointer (some ⟨b, 0, none⟩)]) w := by intro fuel w; kernel_rfl
theorem nilAhead_4_Stop (b : Nat) : ∀ (fuel : Nat) (w : World), (nilAhead (fuel + 1) 137 (.agg #[.pointer (some ⟨b, 0, none⟩), .pointer (some ⟨b, 0, none⟩), .pointer (some ⟨b, 0, none⟩)]) "Stop").run Tryz.prog w = .ok (some false) w := by intro fuel w; kernel_rfl
theorem method_4_Get (b : Nat) : ∀ (fuel : Nat) (w : World), (method (fuel + 1) 137 (.agg #[.pointer (some ⟨b, 0, none⟩), .pointer (some ⟨b, 0, none⟩), .pointer (some ⟨b, 0, none⟩)]) "Get").run Tryz.prog w = .ok (143, .agg #[.pointer (some ⟨b, 0, none⟩)]) w := by intro fuel w; kernel_rfl
theorem nilAhead_4_Get (b : Nat) : ∀ (fuel : Nat) (w : World), (nilAhead (fuel + 1) 137 (.agg #[.pointer (some ⟨b, 0, none⟩), .pointer (some ⟨b, 0, none⟩), .pointer (some ⟨b, 0, none⟩)]) "Get").run Tryz.prog w = .ok (some false) w := by intro fuel w; kernel_rfl
theorem method_4_Put (b : Nat) : ∀ (fuel : Nat) (w : World), (method (fuel + 1) 137 (.agg #[.pointer (some ⟨b, 0, none⟩), .pointer (some ⟨b, 0, none⟩), .pointer (some ⟨b, 0, none⟩)]) "Put").run Tryz.prog w = .ok (144, .agg #[.pointer (some ⟨b, 0, none⟩)]) w := by intro fuel w; kernel_rfl
theorem nilAhead_4_Put (b : Nat) : ∀ (fuel : Nat) (w : World), (nilAhead (fuel + 1) 137 (.agg #[.pointer (some ⟨b, 0, none⟩), .pointer (some ⟨b, 0, none⟩), .pointer (some ⟨b, 0, none⟩)]) "Put").run Tryz.prog w = .ok (some false) w := by intro fuel w; kernel_rfl
theorem face_4 (b : Nat) : ∀ (fuel : Nat) (w : World), (method (fuel + 1) 137 (.agg #[.pointer (some ⟨b, 0, none⟩), .pointer (some ⟨b, 0, none⟩), .pointer (some ⟨b, 0, none⟩)]) "loop.example/g03016/impl.face").run Tryz.prog w = .ok (138, .agg #[.pointer (some ⟨b, 0, none⟩)]) w := by intro fuel w; kernel_rfl
theorem faceNil_4 (b : Nat) : ∀ (fuel : Nat) (w : World), (nilAhead (fuel + 1) 137 (.agg #[.pointer (some ⟨b, 0, none⟩), .pointer (some ⟨b, 0, none⟩), .pointer (some ⟨b, 0, none⟩)]) "loop.example/g03016/impl.face").run Tryz.prog w = .ok (some false) w := by intro fuel w; kernel_rfl
theorem ta_5_0 : ∀ (v : Value) (xT : TypeId) (w : World), (Instr.typeAssert (.iface 140 v) xT 159 false).run Tryz.prog w = .ok (.iface 140 v) w := ta_has Tryz.underlying159 (by kernel_rfl)
theorem ta_5_1 : Fails 162 140 := fails_of Tryz.underlying162 (by kernel_rfl)
theorem ta_5_2 : Fails 166 140 := fails_of Tryz.underlying166 (by kernel_rfl)
theorem ta_5_3 : ∀ (v : Value) (xT : TypeId) (w : World), (Instr.typeAssert (.iface 140 v) xT 168 false).run Tryz.prog w = .ok (.iface 140 v) w := ta_has Tryz.underlying168 (by kernel_rfl)
theorem ta_5_4 : Fails 171 140 := fails_of Tryz.underlying171 (by kernel_rfl)
theorem ta_5_5 : Fails 173 140 := fails_of Tryz.underlying173 (by kernel_rfl)
theorem method_5_Start (b : Nat) : ∀ (fuel : Nat) (w : World), (method (fuel + 1) 140 (.agg #[.pointer (some ⟨b, 0, none⟩), .pointer (some ⟨b, 0, none⟩), .pointer (some ⟨b, 0, none⟩)]) "Start").run Tryz.prog w = .ok (140, .agg #[.pointer (some ⟨b, 0, none⟩)]) w := by intro fuel w; kernel_rfl
theorem nilAhead_5_Start (b : Nat) : ∀ (fuel : Nat) (w : World), (nilAhead (fuel + 1) 140 (.agg #[.pointer (some ⟨b, 0, none⟩), .pointer (some ⟨b, 0, none⟩), .pointer (some ⟨b, 0, none⟩)]) "Start").run Tryz.prog w = .ok (some false) w := by intro fuel w; kernel_rfl
theorem method_5_Stop (b : Nat) : ∀ (fuel : Nat) (w : World), (method (fuel + 1) 140 (.agg #[.pointer (some ⟨b, 0, none⟩), .pointer (some ⟨b, 0, none⟩), .pointer (some ⟨b, 0, none⟩)]) "Stop").run Tryz.prog w = .ok (141, .agg #[.pointer (some ⟨b, 0, none⟩)]) w := by intro fuel w; kernel_rfl
theorem nilAhead_5_Stop (b : Nat) : ∀ (fuel : Nat) (w : World), (nilAhead (fuel + 1) 140 (.agg #[.pointer (some ⟨b, 0, none⟩), .pointer (some ⟨b, 0, none⟩), .pointer (some ⟨b, 0, none⟩)]) "Stop").run Tryz.prog w = .ok (some false) w := by intro fuel w; kernel_rfl
theorem method_5_Hear (b : Nat) : ∀ (fuel : Nat) (w : World), (method (fuel + 1) 140 (.agg #[.pointer (some ⟨b, 0, none⟩), .pointer (some ⟨b, 0, none⟩), .pointer (some ⟨b, 0, none⟩)]) "Hear").run Tryz.prog w = .ok (153, .agg #[.pointer (some ⟨b, 0, none⟩)]) w := by intro fuel w; kernel_rfl
theorem nilAhead_5_Hear (b : Nat) : ∀ (fuel : Nat) (w : World), (nilAhead (fuel + 1) 140 (.agg #[.pointer (some ⟨b, 0, none⟩), .pointer (some ⟨b, 0, none⟩), .pointer (some ⟨b, 0, none⟩)]) "Hear").run Tryz.prog w = .ok (some false) w := by intro fuel w; kernel_rfl
theorem face_5 (b : Nat) : ∀ (fuel : Nat) (w : World), (method (fuel + 1) 140 (.agg #[.pointer (some ⟨b, 0, none⟩), .pointer (some ⟨b, 0, none⟩), .pointer (some ⟨b, 0, none⟩)]) "loop.example/g03016/impl.face").run Tryz.prog w = .ok (138, .agg #[.pointer (some ⟨b, 0, none⟩)]) w := by intro fuel w; kernel_rfl
theorem faceNil_5 (b : Nat) : ∀ (fuel : Nat) (w : World), (nilAhead (fuel + 1) 140 (.agg #[.pointer (some ⟨b, 0, none⟩), .pointer (some ⟨b, 0, none⟩), .pointer (some ⟨b, 0, none⟩)]) "loop.example/g03016/impl.face").run Tryz.prog w = .ok (some false) w := by intro fuel w; kernel_rfl
theorem ta_6_0 : ∀ (v : Value) (xT : TypeId) (w : World), (Instr.typeAssert (.iface 143 v) xT 159 false).run Tryz.prog w = .ok (.iface 143 v) w := ta_has Tryz.underlying159 (by kernel_rfl)
theorem ta_6_1 : ∀ (v : Value) (xT : TypeId) (w : World), (Instr.typeAssert (.iface 143 v) xT 162 false).run Tryz.prog w = .ok (.iface 143 v) w := ta_has Tryz.underlying162 (by kernel_rfl)
theorem ta_6_2 : Fails 166 143 := fails_of Tryz.underlying166 (by kernel_rfl)
theorem ta_6_3 : Fails 168 143 := fails_of Tryz.underlying168 (by kernel_rfl)
theorem ta_6_4 : ∀ (v : Value) (xT : TypeId) (w : World), (Instr.typeAssert (.iface 143 v) xT 171 false).run Tryz.prog w = .ok (.iface 143 v) w := ta_has Tryz.underlying171 (by kernel_rfl)
theorem ta_6_5 : Fails 173 143 := fails_of Tryz.underlying173 (by kernel_rfl)
theorem method_6_Start (b : Nat) : ∀ (fuel : Nat) (w : World), (method (fuel + 1) 143 (.agg #[.pointer (some ⟨b, 0, none⟩), .pointer (some ⟨b, 0, none⟩), .pointer (some ⟨b, 0, none⟩), .pointer (some ⟨b, 0, none⟩)]) "Start").run Tryz.prog w = .ok (140, .agg #[.pointer (some ⟨b, 0, none⟩)]) w := by intro fuel w; kernel_rfl
theorem nilAhead_6_Start (b : Nat) : ∀ (fuel : Nat) (w : World), (nilAhead (fuel + 1) 143 (.agg #[.pointer (some ⟨b, 0, none⟩), .pointer (some ⟨b, 0, none⟩), .pointer (some ⟨b, 0, none⟩), .pointer (some ⟨b, 0, none⟩)]) "Start").run Tryz.prog w = .ok (some false) w := by intro fuel w; kernel_rfl
theorem method_6_Stop (b : Nat) : ∀ (fuel : Nat) (w : World), (method (fuel + 1) 143 (.agg #[.pointer (some ⟨b, 0, none⟩), .pointer (some ⟨b, 0, none⟩), .pointer (some ⟨b, 0, none⟩), .pointer (some ⟨b, 0, none⟩)]) "Stop").run Tryz.prog w = .ok (141, .agg #[.pointer (some ⟨b, 0, none⟩)]) w := by intro fuel w; kernel_rfl
theorem nilAhead_6_Stop (b : Nat) : ∀ (fuel : Nat) (w : World), (nilAhead (fuel + 1) 143 (.agg #[.pointer (some ⟨b, 0, none⟩), .pointer (some ⟨b, 0, none⟩), .pointer (some ⟨b, 0, none⟩), .pointer (some ⟨b, 0, none⟩)]) "Stop").run Tryz.prog w = .ok (some false) w := by intro fuel w; kernel_rfl
theorem method_6_Get (b : Nat) : ∀ (fuel : Nat) (w : World), (method (fuel + 1) 143 (.agg #[.pointer (some ⟨b, 0, none⟩), .pointer (some ⟨b, 0, none⟩), .pointer (some ⟨b, 0, none⟩), .pointer (some ⟨b, 0, none⟩)]) "Get").run Tryz.prog w = .ok (143, .agg #[.pointer (some ⟨b, 0, none⟩)]) w := by intro fuel w; kernel_rfl
theorem nilAhead_6_Get (b : Nat) : ∀ (fuel : Nat) (w : World), (nilAhead (fuel + 1) 143 (.agg #[.pointer (some ⟨b, 0, none⟩), .pointer (some ⟨b, 0, none⟩), .pointer (some ⟨b, 0, none⟩), .pointer (some ⟨b, 0, none⟩)]) "Get").run Tryz.prog w = .ok (some false) w := by intro fuel w; kernel_rfl
theorem method_6_Put (b : Nat) : ∀ (fuel : Nat) (w : World), (method (fuel + 1) 143 (.agg #[.pointer (some ⟨b, 0, none⟩), .pointer (some ⟨b, 0, none⟩), .pointer (some ⟨b, 0, none⟩), .pointer (some ⟨b, 0, none⟩)]) "Put").run Tryz.prog w = .ok (144, .agg #[.pointer (some ⟨b, 0, none⟩)]) w := by intro fuel w; kernel_rfl
theorem nilAhead_6_Put (b : Nat) : ∀ (fuel : Nat) (w : World), (nilAhead (fuel + 1) 143 (.agg #[.pointer (some ⟨b, 0, none⟩), .pointer (some ⟨b, 0, none⟩), .pointer (some ⟨b, 0, none⟩), .pointer (some ⟨b, 0, none⟩)]) "Put").run Tryz.prog w = .ok (some false) w := by intro fuel w; kernel_rfl
theorem method_6_Load (b : Nat) : ∀ (fuel : Nat) (w : World), (method (fuel + 1) 143 (.agg #[.pointer (some ⟨b, 0, none⟩), .pointer (some ⟨b, 0, none⟩), .pointer (some ⟨b, 0, none⟩), .pointer (some ⟨b, 0, none⟩)]) "Load").run Tryz.prog w = .ok (154, .agg #[.pointer (some ⟨b, 0, none⟩)]) w := by intro fuel w; kernel_rfl
theorem nilAhead_6_Load (b : Nat) : ∀ (fuel : Nat) (w : World), (nilAhead (fuel + 1) 143 (.agg #[.pointer (some ⟨b, 0, none⟩), .pointer (some ⟨b, 0, none⟩), .pointer (some ⟨b, 0, none⟩), .pointer (some ⟨b, 0, none⟩)]) "Load").run Tryz.prog w = .ok (some false) w := by intro fuel w; kernel_rfl
theorem method_6_Save (b : Nat) : ∀ (fuel : Nat) (w : World), (method (fuel + 1) 143 (.agg #[.pointer (some ⟨b, 0, none⟩), .pointer (some ⟨b, 0, none⟩), .pointer (some ⟨b, 0, none⟩), .pointer (some ⟨b, 0, none⟩)]) "Save").run Tryz.prog w = .ok (155, .agg #[.pointer (some ⟨b, 0, none⟩)]) w := by intro fuel w; kernel_rfl
theorem nilAhead_6_Save (b : Nat) : ∀ (fuel : Nat) (w : World), (nilAhead (fuel + 1) 143 (.agg #[.pointer (some ⟨b, 0, none⟩), .pointer (some ⟨b, 0, none⟩), .pointer (some ⟨b, 0, none⟩), .pointer (some ⟨b, 0, none⟩)]) "Save").run Tryz.prog w = .ok (some false) w := by intro fuel w; kernel_rfl
theorem face_6 (b : Nat) : ∀ (fuel : Nat) (w : World), (method (fuel + 1) 143 (.agg #[.pointer (some ⟨b, 0, none⟩), .pointer (some ⟨b, 0, none⟩), .pointer (some ⟨b, 0, none⟩), .pointer (some ⟨b, 0, none⟩)]) "loop.example/g03016/impl.face").run Tryz.prog w = .ok (138, .agg #[.pointer (some ⟨b, 0, none⟩)]) w := by intro fuel w; kernel_rfl
theorem faceNil_6 (b : Nat) : ∀ (fuel : Nat) (w : World), (nilAhead (fuel + 1) 143 (.agg #[.pointer (some ⟨b, 0, none⟩), .pointer (some ⟨b, 0, none⟩), .pointer (some ⟨b, 0, none⟩), .pointer (some ⟨b, 0, none⟩)]) "loop.example/g03016/impl.face").run Tryz.prog w = .ok (some false) w := by intro fuel w; kernel_rfl
theorem ta_7_0 : ∀ (v : Value) (xT : TypeId) (w : World), (Instr.typeAssert (.iface 146 v) xT 159 false).run Tryz.prog w = .ok (.iface 146 v) w := ta_has Tryz.underlying159 (by kernel_rfl)
theorem ta_7_1 : ∀ (v : Value) (xT : TypeId) (w : World), (Instr.typeAssert (.iface 146 v) xT 162 false).run Tryz.prog w = .ok (.iface 146 v) w := ta_has Tryz.underlying162 (by kernel_rfl)
theorem ta_7_2 : ∀ (v : Value) (xT : TypeId) (w : World), (Instr.typeAssert (.iface 146 v) xT 166 false).run Tryz.prog w = .ok (.iface 146 v) w := ta_has Tryz.underlying166 (by kernel_rfl)
theorem ta_7_3 : ∀ (v : Value) (xT : TypeId) (w : World), (Instr.typeAssert (.iface 146 v) xT 168 false).run Tryz.prog w = .ok (.iface 146 v) w := ta_has Tryz.underlying168 (by kernel_rfl)
theorem ta_7_4 : ∀ (v : Value) (xT : TypeId) (w : World), (Instr.typeAssert (.iface 146 v) xT 171 false).run Tryz.prog w = .ok (.iface 146 v) w := ta_has Tryz.underlying171 (by kernel_rfl)
theorem ta_7_5 : ∀ (v : Value) (xT : TypeId) (w : World), (Instr.typeAssert (.iface 146 v) xT 173 false).run Tryz.prog w = .ok (.iface 146 v) w := ta_has Tryz.underlying173 (by kernel_rfl)
theorem method_7_Start (b : Nat) : ∀ (fuel : Nat) (w : World), (method (fuel + 1) 146 (.agg #[.pointer (some ⟨b, 0, none⟩), .pointer (some ⟨b, 0, none⟩), .pointer (some ⟨b, 0, none⟩), .pointer (some ⟨b, 0, none⟩), .pointer (some ⟨b, 0, none⟩), .pointer (some ⟨b, 0, none⟩), .pointer (some ⟨b, 0, none⟩)]) "Start").run Tryz.prog w = .ok (140, .agg #[.pointer (some ⟨b, 0, none⟩)]) w := by intro fuel w; kernel_rfl
theorem nilAhead_7_Start (b : Nat) : ∀ (fuel : Nat) (w : World), (nilAhead (fuel + 1) 146 (.agg #[.pointer (some ⟨b, 0, none⟩), .pointer (some ⟨b, 0, none⟩), .pointer (some ⟨b, 0, none⟩), .pointer (some ⟨b, 0, none⟩), .pointer (some ⟨b, 0, none⟩), .pointer (some ⟨b, 0, none⟩), .pointer (some ⟨b, 0, none⟩)]) "Start").run Tryz.prog w = .ok (some false) w := by intro fuel w; kernel_rfl
theorem method_7_Stop (b : Nat) : ∀ (fuel : Nat) (w : World), (method (fuel + 1) 146 (.agg #[.pointer (some ⟨b, 0, none⟩), .pointer (some ⟨b, 0, none⟩), .pointer (some ⟨b, 0, none⟩), .pointer (some ⟨b, 0, none⟩), .pointer (some ⟨b, 0, none⟩), .pointer (some ⟨b, 0, none⟩), .pointer (some ⟨b, 0, none⟩)]) "Stop").run Tryz.prog w = .ok (141, .agg #[.pointer (some ⟨b, 0, none⟩)]) w := by intro fuel w; kernel_rfl
theorem nilAhead_7_Stop (b : Nat) : ∀ (fuel : Nat) (w : World), (nilAhead (fuel + 1) 146 (.agg #[.pointer (some ⟨b, 0, none⟩), .pointer (some ⟨b, 0, none⟩), .pointer (some ⟨b, 0, none⟩), .pointer (some ⟨b, 0, none⟩), .pointer (some ⟨b, 0, none⟩), .pointer (some ⟨b, 0, none⟩), .pointer (some ⟨b, 0, none⟩)]) "Stop").run Tryz.prog w = .ok (some false) w := by intro fuel w; kernel_rfl
theorem method_7_Get (b : Nat) : ∀ (fuel : Nat) (w : World), (method (fuel + 1) 146 (.agg #[.pointer (some ⟨b, 0, none⟩), .pointer (some ⟨b, 0, none⟩), .pointer (some ⟨b, 0, none⟩), .pointer (some ⟨b, 0, none⟩), .pointer (some ⟨b, 0, none⟩), .pointer (some ⟨b, 0, none⟩), .pointer (some ⟨b, 0, none⟩)]) "Get").run Tryz.prog w = .ok (143, .agg #[.pointer (some ⟨b, 0, none⟩)]) w := by intro fuel w; kernel_rfl
theorem nilAhead_7_Get (b : Nat) : ∀ (fuel : Nat) (w : World), (nilAhead (fuel + 1) 146 (.agg #[.pointer (some ⟨b, 0, none⟩), .pointer (some ⟨b, 0, none⟩), .pointer (some ⟨b, 0, none⟩), .pointer (some ⟨b, 0, none⟩), .pointer (some ⟨b, 0, none⟩), .pointer (some ⟨b, 0, none⟩), .pointer (some ⟨b, 0, none⟩)]) "Get").run Tryz.prog w = .ok (some false) w := by intro fuel w; kernel_rfl
theorem method_7_Put (b : Nat) : ∀ (fuel : Nat) (w : World), (method (fuel + 1) 146 (.agg #[.pointer (some ⟨b, 0, none⟩), .pointer (some ⟨b, 0, none⟩), .pointer (some ⟨b, 0, none⟩), .pointer (some ⟨b, 0, none⟩), .pointer (some ⟨b, 0, none⟩), .pointer (some ⟨b, 0, none⟩), .pointer (some ⟨b, 0, none⟩)]) "Put").run Tryz.prog w = .ok (144, .agg #[.pointer (some ⟨b, 0, none⟩)]) w := by intro fuel w; kernel_rfl
theorem nilAhead_7_Put (b : Nat) : ∀ (fuel : Nat) (w : World), (nilAhead (fuel + 1) 146 (.agg #[.pointer (some ⟨b, 0, none⟩), .pointer (some ⟨b, 0, none⟩), .pointer (some ⟨b, 0, none⟩), .pointer (some ⟨b, 0, none⟩), .pointer (some ⟨b, 0, none⟩), .pointer (some ⟨b, 0, none⟩), .pointer (some ⟨b, 0, none⟩)]) "Put").run Tryz.prog w = .ok (some false) w := by intro fuel w; kernel_rfl
theorem method_7_Tell (b : Nat) : ∀ (fuel : Nat) (w : World), (method (fuel + 1) 146 (.agg #[.pointer (some ⟨b, 0, none⟩), .pointer (some ⟨b, 0, none⟩), .pointer (some ⟨b, 0, none⟩), .pointer (some ⟨b, 0, none⟩), .pointer (some ⟨b, 0, none⟩), .pointer (some ⟨b, 0, none⟩), .pointer (some ⟨b, 0, none⟩)]) "Tell").run Tryz.prog w = .ok (152, .agg #[.pointer (some ⟨b, 0, none⟩)]) w := by intro fuel w; kernel_rfl
theorem nilAhead_7_Tell (b : Nat) : ∀ (fuel : Nat) (w : World), (nilAhead (fuel + 1) 146 (.agg #[.pointer (some ⟨b, 0, none⟩), .pointer (some ⟨b, 0, none⟩), .pointer (some ⟨b, 0, none⟩), .pointer (some ⟨b, 0, none⟩), .pointer (some ⟨b, 0, none⟩), .pointer (some ⟨b, 0, none⟩), .pointer (some ⟨b, 0, none⟩)]) "Tell").run Tryz.prog w = .ok (some false) w := by intro fuel w; kernel_rfl
theorem method_7_Hear (b : Nat) : ∀ (fuel : Nat) (w : World), (method (fuel + 1) 146 (.agg #[.pointer (some ⟨b, 0, none⟩), .pointer (some ⟨b, 0, none⟩), .pointer (some ⟨b, 0, none⟩), .pointer (some ⟨b, 0, none⟩), .pointer (some ⟨b, 0, none⟩), .pointer (some ⟨b, 0, none⟩), .pointer (some ⟨b, 0, none⟩)]) "Hear").run Tryz.prog w = .ok (153, .agg #[.pointer (some ⟨b, 0, none⟩)]) w := by intro fuel w; kernel_rfl
theorem nilAhead_7_Hear (b : Nat) : ∀ (fuel : Nat) (w : World), (nilAhead (fuel + 1) 146 (.agg #[.pointer (some ⟨b, 0, none⟩), .pointer (some ⟨b, 0, none⟩), .pointer (some ⟨b, 0, none⟩), .pointer (some ⟨b, 0, none⟩), .pointer (some ⟨b, 0, none⟩), .pointer (some ⟨b, 0, none⟩), .pointer (some ⟨b, 0, none⟩)]) "Hear").run Tryz.prog w = .ok (some false) w := by intro fuel w; kernel_rfl
theorem method_7_Load (b : Nat) : ∀ (fuel : Nat) (w : World), (method (fuel + 1) 146 (.agg #[.pointer (some ⟨b, 0, none⟩), .pointer (some ⟨b, 0, none⟩), .pointer (some ⟨b, 0, none⟩), .pointer (some ⟨b, 0, none⟩), .pointer (some ⟨b, 0, none⟩), .pointer (some ⟨b, 0, none⟩), .pointer (some ⟨b, 0, none⟩)]) "Load").run Tryz.prog w = .ok (154, .agg #[.pointer (some ⟨b, 0, none⟩)]) w := by intro fuel w; kernel_rfl
theorem nilAhead_7_Load (b : Nat) : ∀ (fuel : Nat) (w : World), (nilAhead (fuel + 1) 146 (.agg #[.pointer (some ⟨b, 0, none⟩), .pointer (some ⟨b, 0, none⟩), .pointer (some ⟨b, 0, none⟩), .pointer (some ⟨b, 0, none⟩), .pointer (some ⟨b, 0, none⟩), .pointer (some ⟨b, 0, none⟩), .pointer (some ⟨b, 0, none⟩)]) "Load").run Tryz.prog w = .ok (some false) w := by intro fuel w; kernel_rfl
theorem method_7_Save (b : Nat) : ∀ (fuel : Nat) (w : World), (method (fuel + 1) 146 (.agg #[.pointer (some ⟨b, 0, none⟩), .pointer (some ⟨b, 0, none⟩), .pointer (some ⟨b, 0, none⟩), .pointer (some ⟨b, 0, none⟩), .pointer (some ⟨b, 0, none⟩), .pointer (some ⟨b, 0, none⟩), .pointer (some ⟨b, 0, none⟩)]) "Save").run Tryz.prog w = .ok (155, .agg #[.pointer (some ⟨b, 0, none⟩)]) w := by intro fuel w; kernel_rfl
theorem nilAhead_7_Save (b : Nat) : ∀ (fuel : Nat) (w : World), (nilAhead (fuel + 1) 146 (.agg #[.pointer (some ⟨b, 0, none⟩), .pointer (some ⟨b, 0, none⟩), .pointer (some ⟨b, 0, none⟩), .pointer (some ⟨b, 0, none⟩), .pointer (some ⟨b, 0, none⟩), .pointer (some ⟨b, 0, none⟩), .pointer (some ⟨b, 0, none⟩)]) "Save").run Tryz.prog w = .ok (some false) w := by intro fuel w; kernel_rfl
theorem method_7_Heal (b : Nat) : ∀ (fuel : Nat) (w : World), (method (fuel + 1) 146 (.agg #[.pointer (some ⟨b, 0, none⟩), .pointer (some ⟨b, 0, none⟩), .pointer (some ⟨b, 0, none⟩), .pointer (some ⟨b, 0, none⟩), .pointer (some ⟨b, 0, none⟩), .pointer (some ⟨b, 0, none⟩), .pointer (some ⟨b, 0, none⟩)]) "Heal").run Tryz.prog w = .ok (170, .agg #[.pointer (some ⟨b, 0, none⟩)]) w := by intro fuel w; kernel_rfl
theorem nilAhead_7_Heal (b : Nat) : ∀ (fuel : Nat) (w : World), (nilAhead (fuel + 1) 146 (.agg #[.pointer (some ⟨b, 0, none⟩), .pointer (some ⟨b, 0, none⟩), .pointer (some ⟨b, 0, none⟩), .pointer (some ⟨b, 0, none⟩), .pointer (some ⟨b, 0, none⟩), .pointer (some ⟨b, 0, none⟩), .pointer (some ⟨b, 0, none⟩)]) "Heal").run Tryz.prog w = .ok (some false) w := by intro fuel w; kernel_rfl
theorem face_7 (b : Nat) : ∀ (fuel : Nat) (w : World), (method (fuel + 1) 146 (.agg #[.pointer (some ⟨b, 0, none⟩), .pointer (some ⟨b, 0, none⟩), .pointer (some ⟨b, 0, none⟩), .pointer (some ⟨b, 0, none⟩), .pointer (some ⟨b, 0, none⟩), .pointer (some ⟨b, 0, none⟩), .pointer (some ⟨b, 0, none⟩)]) "loop.example/g03016/impl.face").run Tryz.prog w = .ok (138, .agg #[.pointer (some ⟨b, 0, none⟩)]) w := by intro fuel w; kernel_rfl
theorem faceNil_7 (b : Nat) : ∀ (fuel : Nat) (w : World), (nilAhead (fuel + 1) 146 (.agg #[.pointer (some ⟨b, 0, none⟩), .pointer (some ⟨b, 0, none⟩), .pointer (some ⟨b, 0, none⟩), .pointer (some ⟨b, 0, none⟩), .pointer (some ⟨b, 0, none⟩), .pointer (some ⟨b, 0, none⟩), .pointer (some ⟨b, 0, none⟩)]) "loop.example/g03016/impl.face").run Tryz.prog w = .ok (some false) w := by intro fuel w; kernel_rfl
/-- what the door asks of the core, the call and the memory -/
structure Pre (N b : Nat) (cv : Value) (d : CoreD) (x : CallD) (mx : Int) (w : World) : Prop where
  st : CoreSt N b cv d w
  hN : N ≤ w.heap.size
  hr : -9223372036854775808 ≤ d.fCount
  hm : d.fCells.length ≤ 4194304
  hs : ∀ c ∈ d.fCells, c.fKey.length ≤ maxLen
  hk : x.fKey.length ≤ maxLen
  ht : x.fText.length ≤ 1048576
  hM : w.cell? ⟨0, 0, none⟩ = some (.int .i64 mx)
theorem Pre.below {N b : Nat} {cv : Value} {d : CoreD} {x : CallD} {mx : Int} {w w' : World} (h : Pre N b cv d x mx w) (hb : Below w.heap.size w w') : Pre N b cv d x mx w' :=
  ⟨h.st.below hb, Nat.le_trans h.hN hb.size, h.hr, h.hm, h.hs, h.hk, h.ht, (hb.cell (p := ⟨0, 0, none⟩) (World.block_lt_of_cell? w _ h.hM)).trans h.hM⟩
theorem heap_two (w : World) (o1 o2 : Obj) : ((w.alloc o1).alloc o2).heap[w.heap.size + 1]? = some o2 := by have := heap_alloc_new (w.alloc o1) o2; simpa using this
/-- a row of cells is not a block of another type -/
theorem row_ne {w : World} {N n : Nat} {t : TypeId} {c : Array Value} {k : Nat × Nat} {cv : Value} {l : List CellD} (ho : OwnsF cCell 36 2 w N cv l) (hg : w.heap[n]? = some (.cells c t k)) (ht : t ≠ 36) : cv.ownBlock ≠ some n := by
  intro e
  rcases ho.2 with ⟨rfl, _⟩ | ⟨g, cap, cur, rfl, _, hg2, _⟩
  · simp [Value.ownBlock] at e
  · simp [Value.ownBlock] at e
    subst e
    rw [hg] at hg2
    injection hg2 with hg2
    injection hg2 with _ h2 _
    exact ht h2
/-- behind a method: the state, and a box n of the caller's that is not in it -/
def Fin (N b : Nat) (cv : Value) (d : CoreD) (n : Nat) (w w1 : World) : Prop := (∃ cv', CoreSt N b cv' d w1 ∧ cv'.ownBlock ≠ some n) ∧ b ≠ n ∧ w.heap.size ≤ n ∧ Kept2 w w1 (some b) cv.ownBlock
theorem fin_set {N b : Nat} {cv : Value} {d : CoreD} {n : Nat} {w w1 : World} (h : Fin N b cv d n w w1) (o : Nat) (u : Value) : Fin N b cv d n w (w1.setCell ⟨n, o, none⟩ u) := by
  obtain ⟨⟨cv', hs, hn⟩, hb, hl, hk⟩ := h
  refine ⟨⟨cv', ⟨hs.box.so _ _ hb, ?_, hs.ne, hs.ge⟩, hn⟩, hb, hl, hk.set _ (Or.inl hl)⟩
  refine World.ownsRow.kept hs.own (row := some n) ⟨rfl, rfl, rfl, by simp, fun i hi hne => Below.heap_setCell w1 _ u i (fun e => hne (by rw [e]))⟩ (Or.inr hn)
theorem fin_does {N b : Nat} {cv : Value} {out : CoreD × ReplyD} {n : Nat} {w w1 : World} (h : Fin N b cv out.1 n w w1) : Does N b cv out w (.returned (vReply out.2)) w1 := by
  obtain ⟨⟨cv', hs, _⟩, _, _, hk⟩ := h
  exact ⟨rfl, cv', hs, hk⟩
/-- what a method's contract says, for a caller whose box n (a Reply) was made behind w -/
theorem fin_of {N b : Nat} {cv : Value} {d : CoreD} {out : CoreD × ReplyD} {n : Nat} {w W w1 : World} {e : Ending} (hst : CoreSt N b cv d w) (hw : Below w.heap.size w W) (hn : w.heap.size ≤ n)
    (hg : ∃ c, W.heap[n]? = some (.cells c 32 (0, 0))) (h : Does N b cv out W e w1) :
    e = .returned (vReply out.2) ∧ Fin N b cv out.1 n w w1 ∧ (∀ o, w1.cell? ⟨n, o, none⟩ = W.cell? ⟨n, o, none⟩) ∧ (∀ o, w1.frozen? ⟨n, o, none⟩ = W.frozen? ⟨n, o, none⟩) := by
  obtain ⟨rfl, cv', hs, hk⟩ := h
  obtain ⟨c, hg⟩ := hg
  have hnl : n < W.heap.size := (Array.getElem?_eq_some_iff.1 hg).1
  have hbl := hst.box.lt
  have h1 : some n ≠ some b := fun e => by injection e; omega
  have h2 : some n ≠ cv.ownBlock := fun e => by have := (World.ownsRow.lt hst.own n e.symm).2; omega
  have hb := hk.block n hnl h1 h2
  refine ⟨rfl, ⟨⟨cv', hs, row_ne hs.own (hb.trans hg) (by decide)⟩, by omega, hn, Kept2.ahead hw hk⟩, fun o => World.cell?_of_block hb, fun o => World.frozen?_of_block hb⟩
end Go.Proofs.YtghebbndfpbkcaaGreat
/- Contracts of chapter 3: the program's FormatCells. -/
namespace Go.Proofs.YtghebbndfpbkcaaGreat
set_option linter.unusedVariables false
open Go.RowKit
/-- append of one text to a row of one's own, at a step of a region that draws -/
theorem step_strs {ops : Array Oper} {o : Oper} {a : Act} {K : Act → World → Prop} {Q : Exit → Act → World → Prop} {E : Prop} (hgd : o.guard = none) (s x : Operand)
    (ho : o.op = .call { callee := .builtin .append, args := #[s, x], argTypes := #[80, 80] }) (B : Nat) (v : Value) (xs : List (List UInt8)) (y : List UInt8) (w : World) (blk : Nat)
    (hs : a.eval s = v) (hO : Owns w B v xs) (hx : a.eval x = .slice (some ⟨blk, 0, none⟩) 1 1) (hc : w.cell? ⟨blk, 0, none⟩ = some (strV y)) (hl : xs.length ≤ 4194304) (hB : B ≤ w.heap.size)
    (h : ∀ v' w', Owns w' B v' (xs ++ [y]) → w.grownBy w' v.ownBlock → K (a.put o.dst v') w') : if Region.wanted o (yielded ops a.tmps) = true then Oper.wp Tryz.prog o a w K Q else E := by
  obtain ⟨i0, hi, hz0, hz1, hz2⟩ := info_parts string_info
  refine step_append_lies w hgd s x 80 ho B 9 i0 (.string ⟨#[]⟩) 1 16 Tryz.underlying80 hi hz0 hz1 hz2 rfl (by decide) v xs.length (xs.map strV) hs hO ⟨blk, 0, none⟩ 1 1 [strV y] hx rfl ?_ ?_ (by decide) (by unfold maxLen; omega) (by omega) hB _ rfl ?_
  · intro j u hj
    cases j with
    | zero => simp at hj; subst hj; rw [Addr.add_lit]; exact hc
    | succ j => simp at hj
  · intro u hu; simp at hu; subst hu; rfl
  · intro g cap w' h1 h2 _ _
    refine h _ w' ?_ h2
    unfold Owns; rw [List.map_append, List.length_append]; exact h1
theorem owns_drew {w : World} {B : Nat} {v : Value} {xs : List (List UInt8)} (h : Owns w B v xs) : Owns w.drew B v xs := h
theorem below_drew {B : Nat} {a w : World} (h : Below B a w) : Below B a w.drew := ⟨h.os, h.tape, h.output, h.size, h.block⟩
theorem row_lit2 (w : World) (a b : List UInt8) (c : Nat) (hc : 2 ≤ c := by decide) : RowAt (w.alloc (.cells #[.string ⟨a.toArray⟩, .string ⟨b.toArray⟩] 9)) (.slice (some ⟨w.heap.size, 0, none⟩) 2 c) ([a, b].map strV) := by
  refine ⟨_, _, cap_eq _ hc, by unfold maxLen; simp, Or.inr ⟨w.heap.size, 0, rfl, by simp, fun i hi => ?_⟩⟩
  rw [cell_of_row _ _ _ _ 9 (0, 0) (heap_alloc_new w _)]
  simp [strV]
theorem row_lit1 (w : World) (a : List UInt8) (c : Nat) (hc : 1 ≤ c := by decide) : RowAt (w.alloc (.cells #[.string ⟨a.toArray⟩] 9)) (.slice (some ⟨w.heap.size, 0, none⟩) 1 c) ([a].map strV) := by
  refine ⟨_, _, cap_eq _ hc, by unfold maxLen; simp, Or.inr ⟨w.heap.size, 0, rfl, by simp, fun i hi => ?_⟩⟩
  rw [cell_of_row _ _ _ _ 9 (0, 0) (heap_alloc_new w _)]
  simp [strV]
theorem nameB_len8 {l : List UInt8} (h : nameB l = true) : l.length ≤ 8 := by simp only [nameB, Bool.and_eq_true, decide_eq_true_iff] at h; exact h.1.1.2
theorem cellT_len {d : CellD} (h : nameB d.fKey = true) (h2 : numB d.fValue = true) : (cellT d).length ≤ 12 := by
  obtain ⟨k, e, hk⟩ := numB_nat h2
  have h1 := nameB_len8 h
  have h3 := numL_len hk
  unfold cellT; rw [e]; simp; omega
theorem fmt_small (l : List CellD) (h : ∀ d ∈ l, nameB d.fKey = true ∧ numB d.fValue = true) (hl : l.length ≤ 4) : (joinL (l.map cellT) [44]).length ≤ 100 := by
  have h1 := joinK_len (l.map cellT) [44] (l.map cellT).length (Nat.le_refl _)
  rw [List.take_length, List.length_map] at h1
  have h2 : total (l.map cellT) ≤ 12 * l.length := by
    clear h1 hl
    induction l with
    | nil => simp [total]
    | cons a r ih =>
      have := ih fun d hd => h d (List.mem_cons_of_mem _ hd)
      have h3 := cellT_len (h a List.mem_cons_self).1 (h a List.mem_cons_self).2
      simp only [List.map_cons, total, List.length_cons]; omega
  unfold joinL; simp only [List.length_map, List.length_cons, List.length_nil] at *; omega
theorem map_cellT_snoc (l : List CellD) (k : Nat) (h : k < l.length) : (l.take (k + 1)).map cellT = (l.take k).map cellT ++ [cellT l[k]] := by
  rw [List.take_succ_eq_append_getElem h, List.map_append]; rfl
set_option maxRecDepth 100000 in
set_option maxHeartbeats 1600000 in
theorem implFormatCells_any (v : Value) (l : List CellD) (w : World) (hx : FlatAt cCell 2 w v l) (hs : ∀ d ∈ l, d.fKey.length ≤ maxLen) :
    Calls Tryz.prog 15 #[v] w fun e w' => e = .returned (.string ⟨(fmtC l).toArray⟩) ∧ Below w.heap.size w w' := by
  have HC := Lib.hid (implIsCells_any v l w hx hs)
  obtain ⟨a, c, rfl, hl⟩ := flatAt_len hx
  have HX := Lib.hid hx
  clear hx hs
  unfold maxLen at hl
  cases hc : cellsB l with
  | false =>
    have HF := Lib.hid (show fmtC l = [] by unfold fmtC; rw [hc]; rfl)
    rw [hc] at HC
    clear hc
    go_enter Tryz.func15, Tryz.ntmps15
    go_wp2_with fail
    refine HC.out.mono ?_
    rintro e w1 ⟨rfl, hb⟩
    go_wp2_with fail
    go_ret
    exact ⟨ret_str (by rw [HF.out]), hb⟩
  | true =>
    have hm := cellsB_mem hc
    have hl4 := cellsB_len hc
    by_cases h0 : l = []
    · subst h0
      have HF := Lib.hid (show fmtC [] = [45] by rfl)
      rw [hc] at HC
      clear hc
      go_enter Tryz.func15, Tryz.ntmps15
      go_wp2_with fail
      refine HC.out.mono ?_
      rintro e w1 ⟨rfl, hb⟩
      go_wp2_with fail
      go_ret
      exact ⟨ret_str (by rw [HF.out]), hb⟩
    · have hpos : 0 < l.length := List.length_pos_iff.2 h0
      have hne : ((l.length : Int) == 0) = false := by rw [beq_eq_false_iff_ne]; omega
      have HF := Lib.hid (show fmtC l = joinL (l.map cellT) [44] by unfold fmtC; rw [if_pos hc, if_neg h0])
      have HSM := Lib.hid (fmt_small l hm hl4)
      have HM := Lib.hid hm
      rw [hc] at HC
      clear hc h0 hm
      go_enter Tryz.func15, Tryz.ntmps15
      go_wp2_with fail
      refine HC.out.mono ?_
      rintro e w1 ⟨rfl, hb⟩
      have HB := Lib.hid hb
      have HX1 := Lib.hid (FlatAt.below HX.out hb (Nat.le_refl _))
      clear hb
      have HO := Lib.hid (owns_new w1)
      have HS1 := Lib.hid HB.out.size
      go_wp2_with fail
      go_loopw [3, 5, 15] (fun ov _ i wr => ∃ k : Nat, k ≤ l.length ∧ i = .int .i64 k ∧ Owns wr w1.heap.size ov ((l.take k).map cellT) ∧ Below w.heap.size w wr ∧ Below w1.heap.size w1 wr) (fun _ _ i _ => l.length - (intOf i).toNat)
      case atStart => exact ⟨0, Nat.zero_le _, rfl, HO.out, HB.out.alloc HB.out.size _, (Below.refl _ _).alloc (Nat.le_refl _) _⟩
      case round =>
        obtain ⟨k, hk, rfl, hO, hb, hb1⟩ := hrel
        have HO2 := Lib.hid hO
        have HB2 := Lib.hid hb
        have HB3 := Lib.hid hb1
        have HXr := Lib.hid (FlatAt.below HX1.out hb1 (Nat.le_refl _))
        clear hO hb hb1
        by_cases hlt : k < l.length
        · obtain ⟨b, o, rfl, hbl, hd⟩ := flatAt_cell cCell_len HXr.out k hlt (by decide)
          have d0 := hd 0 (by decide)
          have d1 := hd 1 (by decide)
          clear hd
          have HSN := Lib.hid (map_cellT_snoc l k hlt)
          have hmm := HM.out l[k] (List.getElem_mem hlt)
          obtain ⟨z, hz, hz9⟩ := numB_nat hmm.2
          have HN8 := Lib.hid (nameB_len8 hmm.1)
          have HZ3 := Lib.hid (numL_len hz9)
          have HCT := Lib.hid (show joinL [(l[k]).fKey, numL z] [61] = cellT l[k] by rw [joinL_two]; unfold cellT; rw [hz])
          have HFM := Lib.hid (fun w0 => implFormat_any z w0 (by omega) (by omega))
          clear hmm
          generalize l[k] = p at *
          obtain ⟨a0, a1⟩ := p
          simp only [cCell, List.getElem?_cons_zero, List.getElem?_cons_succ, Nat.add_zero] at d0 d1 hz
          subst hz
          have HJ := Lib.hid (fun (w0 : World) (n0 : Nat) (h : n0 = w0.heap.size) => implJoin_any (.slice (some ⟨n0, 0, none⟩) 2 2) [a0, numL z] ⟨#[61]⟩ _ (by subst h; exact row_lit2 w0 a0 (numL z) 2) (by have := HN8.out; have := HZ3.out; simp only at *; rw [joinL_two]; simp; omega) (by decide))
          rw [HCT.out] at HJ
          have HLT := Lib.hid (show ∀ g, u3.ownBlock = some g → g < wr.heap.size from fun g h => (World.ownsRow.lt HO2.out g h).2)
          go_wp2_with fail
          go_region_held3 (fun w' => w'.cell? ⟨wr.heap.size, 0, none⟩ = some (.string ⟨a0.toArray⟩) ∧ w'.cell? ⟨wr.heap.size, 1, none⟩ = some (.int .i64 z))
            (first
              | go_keep
              | (rw [hb1.cell (p := ⟨wr.heap.size, 0, none⟩) (by simp), hb1.cell (p := ⟨wr.heap.size, 1, none⟩) (by simp)]; assumption)
              | (rw [hb2.cell (p := ⟨wr.heap.size, 0, none⟩) (by have := hb1.size; simp at this; simp; omega), hb2.cell (p := ⟨wr.heap.size, 1, none⟩) (by have := hb1.size; simp at this; simp; omega)]; assumption)
              | (rw [hg1.cell_far ⟨wr.heap.size, 0, none⟩ (by have := hb1.size; have := hb2.size; simp at *; omega) (by intro e; have := HLT.out _ e.symm; simp at this), hg1.cell_far ⟨wr.heap.size, 1, none⟩ (by have := hb1.size; have := hb2.size; simp at *; omega) (by intro e; have := HLT.out _ e.symm; simp at this)]; assumption))
            (first
              | (go_at_call 48; refine (HFM.out _).mono ?_; rintro e w2 ⟨rfl, hb1⟩)
              | (go_at_call 47; refine (HJ.out _ _ rfl).mono ?_; rintro e w3 ⟨rfl, hb2⟩)
              | (refine step_strs rfl _ _ rfl w1.heap.size u3 ((l.take k).map cellT) (cellT ⟨a0, z⟩) _ w3.heap.size rfl (owns_alloc (owns_below (owns_alloc (owns_below (owns_drew (owns_alloc HO2.out _)) hb1 (Nat.le_refl _)) _) hb2 (Nat.le_refl _)) _) rfl (cell_new _ _ _) ?_ ?_ ?_; (simp; omega); (have h1 := hb1.size; have h2 := hb2.size; have h3 := HB3.out.size; simp at h1 h2 h3; simp; omega); intro v' w4 hO4 hg1))
          have HA := Lib.hid (below_drew ((Below.refl wr.heap.size wr).alloc (Nat.le_refl _) (.cells #[.string ⟨a0.toArray⟩, .int .i64 z] 36)))
          have HA1 := Lib.hid ((HA.out.trans (hb1.mono HA.out.size)).alloc (HA.out.trans (hb1.mono HA.out.size)).size (.cells #[.string ⟨a0.toArray⟩, .string ⟨(numL z).toArray⟩] 9))
          have HA2 := Lib.hid ((HA1.out.trans (hb2.mono HA1.out.size)).alloc (HA1.out.trans (hb2.mono HA1.out.size)).size (.cells #[.string ⟨(cellT ⟨a0, z⟩).toArray⟩] 9))
          have HA3 := Lib.hid (below_append (HB3.out.trans (HA2.out.mono HB3.out.size)) (owns_alloc (owns_below (owns_alloc (owns_below (owns_drew (owns_alloc HO2.out _)) hb1 (Nat.le_refl _)) _) hb2 (Nat.le_refl _)) _) hg1 (HB3.out.trans (HA2.out.mono HB3.out.size)).size)
          have HO4' := Lib.hid hO4
          rename_i hheld
          clear hb1 hb2 hg1 hO4 hheld
          go_wp2_with fail
          exact ⟨⟨k + 1, by omega, by go_num, by rw [HSN.out]; exact HO4'.out, HB.out.trans (HA3.out.mono HS1.out), HA3.out⟩, by simp [intOf]; omega⟩
        · have HN := Lib.hid (show (l.take k).map cellT = l.map cellT from by rw [List.take_of_length_le (by omega)])
          have HJ := Lib.hid (implJoin_any u3 (l.map cellT) ⟨#[44]⟩ wr (by rw [← HN.out]; exact owns_row HO2.out (by simp; omega)) (by have := HSM.out; simp only at *; omega) (by decide))
          go_wp2_with fail
          refine HJ.out.mono ?_
          rintro e w2 ⟨rfl, hb⟩
          go_wp2_with fail
          go_ret
          exact ⟨ret_str HF.out.symm, HB2.out.trans (hb.mono HB2.out.size)⟩
end Go.Proofs.YtghebbndfpbkcaaGreat
/- Contracts of chapter 3: the program's readCells, ParseCells. -/
namespace Go.Proofs.YtghebbndfpbkcaaGreat
set_option linter.unusedVariables false
open Go.RowKit
theorem append_cell {ops : Array Oper} {rest : List Oper} {o : Oper} {a : Act} {Q : Exit → Act → World → Prop} (hgd : o.guard = none) (s x : Operand)
    (ho : o.op = .call { callee := .builtin .append, args := #[s, x], argTypes := #[24, 24] }) (B : Nat) (v : Value) (l : List CellD) (y : CellD) (w : World) (blk : Nat)
    (hs : a.eval s = v) (hO : OwnsF cCell 36 2 w B v l) (hx : a.eval x = .slice (some ⟨blk, 0, none⟩) 1 1) (hc : ∀ j, j < 2 → w.cell? ⟨blk, j, none⟩ = (cCell y)[j]?) (hl : l.length ≤ 4194304) (hB : B ≤ w.heap.size)
    (h : ∀ v' w', OwnsF cCell 36 2 w' B v' (l ++ [y]) → w.grownBy w' v.ownBlock → wpList Tryz.prog ops Q rest (a.put o.dst v') w') : wpList Tryz.prog ops Q (o :: rest) a w :=
  append_flat cCell_len cCell_one cell_info rfl (by decide) (by decide) Tryz.underlying24 hgd s x ho B v l y w blk hs hO hx hc hl hB h
theorem map_rdC_snoc (l : List (List UInt8)) (k : Nat) (h : k < l.length) : (l.take (k + 1)).map rdC = (l.take k).map rdC ++ [rdC l[k]] := by
  rw [List.take_succ_eq_append_getElem h, List.map_append]; rfl
set_option maxRecDepth 100000 in
set_option maxHeartbeats 1600000 in
theorem implReadCells_any (s : ByteArray) (m : Int) (w : World) (hm : w.cell? ⟨0, 0, none⟩ = some (.int .i64 m)) (hs : s.size ≤ 1048576) :
    Calls Tryz.prog 157 #[.string s] w fun e w' => GivesF cCell 36 2 (rdCs s.data.toList) w e w' := by
  have HG := Lib.hid (World.block_lt_of_cell? w _ hm)
  have HM := Lib.hid hm
  have HO := Lib.hid (ownsF_new cCell 36 2 w)
  clear hm
  by_cases hd : s.data.toList = [45]
  · have hb : (s.toList == [45]) = true := by rw [Lib.toList_data, hd]; rfl
    have HR := Lib.hid (show rdCs s.data.toList = [] from if_pos hd)
    clear hd
    go_enter Tryz.func157, Tryz.ntmps157
    go_wp2_with fail
    go_ret
    exact ⟨_, rfl, by rw [HR.out]; exact HO.out, (Below.refl _ _).alloc (Nat.le_refl _) _⟩
  · have hb : (s.toList == [45]) = false := by rw [Lib.toList_data]; simpa using hd
    have HR := Lib.hid (show rdCs s.data.toList = (splitL s.data.toList [44]).map rdC from if_neg hd)
    have HA := Lib.hid (show ∀ o, Below w.heap.size w (w.alloc o) from fun o => (Below.refl w.heap.size w).alloc (Nat.le_refl _) o)
    have HSP := Lib.hid (fun o => implSplit_any s ⟨#[44]⟩ m (w.alloc o) (((HA.out o).cell (p := ⟨0, 0, none⟩) HG.out).trans HM.out) hs (by decide))
    have hxl : (splitL s.data.toList [44]).length ≤ 1048577 := by have := splitL_len s.data.toList [44]; rw [size_list] at this; omega
    have HP := Lib.hid (fun p (hp : p ∈ splitL s.data.toList [44]) => show p.length ≤ 1048576 from by have := split_part _ _ p hp; rw [size_list] at this; omega)
    clear hd
    rw [show (⟨#[44]⟩ : ByteArray).data.toList = [44] from rfl] at HSP
    generalize splitL s.data.toList [44] = x at *
    go_enter Tryz.func157, Tryz.ntmps157
    go_wp2_with fail
    refine (HSP.out _).mono ?_
    rintro e w1 ⟨u, rfl, ho, hb1⟩
    have HO1 := Lib.hid (ownsF_below HO.out hb1 (Nat.le_refl _))
    have HB := Lib.hid ((HA.out _).trans (hb1.mono (HA.out _).size))
    have HX := Lib.hid (show Owns w1 (w.heap.size + 1) u x from by simpa using ho)
    obtain ⟨a, c, rfl, _⟩ := rowAt_len (owns_row ho (by omega))
    rw [List.length_map] at *
    clear ho hb1
    go_wp2_with fail
    go_loopw [3, 5, 6, 7, 8, 9, 10, 18] (fun ov _ _ _ _ _ _ i wr => ∃ k : Nat, k ≤ x.length ∧ i = .int .i64 k ∧ OwnsF cCell 36 2 wr w.heap.size ov ((x.take k).map rdC) ∧ Below w.heap.size w wr ∧ Owns wr (w.heap.size + 1) (.slice a x.length c) x) (fun _ _ _ _ _ _ _ i _ => x.length - (intOf i).toNat)
    case atStart => exact ⟨0, Nat.zero_le _, rfl, HO1.out, HB.out, HX.out⟩
    case round =>
      obtain ⟨k, hk, rfl, hO, hb, hX⟩ := hrel
      have HO2 := Lib.hid hO
      have HB2 := Lib.hid hb
      have HXr := Lib.hid hX
      clear hO hb hX
      by_cases hlt : k < x.length
      · obtain ⟨b, o, rfl, hbl, d1⟩ := rowAt_cell (owns_row HXr.out (by omega)) k (by simpa using hlt)
        rw [getElem_map_strV] at d1
        unfold strV at d1
        have HSN := Lib.hid (map_rdC_snoc x k hlt)
        have hp := HP.out x[k] (List.getElem_mem hlt)
        have HMr := Lib.hid ((HB2.out.cell (p := ⟨0, 0, none⟩) HG.out).trans HM.out)
        generalize x[k] = p at *
        have hcl := cut_len p [61]
        have HCT := Lib.hid (Tryz.strings_Cut ⟨p.toArray⟩ ⟨#[61]⟩ m wr (by rw [size_strB]; omega) HMr.out)
        rw [dataL, show (⟨#[61]⟩ : ByteArray).data.toList = [61] from rfl] at HCT
        have HRD := Lib.hid (show rdC p = ⟨(Lib.cut p [61]).1, pnum (Lib.cut p [61]).2.1⟩ from rfl)
        generalize Lib.cut p [61] = t at *
        obtain ⟨t1, t2, t3⟩ := t
        simp only at HCT HRD hcl
        have HPN := Lib.hid (fun w0 => implParse_any ⟨t2.toArray⟩ w0 (by rw [size_strB]; unfold maxLen; omega))
        simp only at HPN
        have HCP := Lib.hid (fun w0 => copyText_any ⟨t1.toArray⟩ w0 (by rw [size_strB]; omega))
        go_wp2_with fail
        refine HCT.out.mono ?_
        rintro e w2 ⟨rfl, nd, rfl⟩
        go_wp2_with fail
        refine (HPN.out _).mono ?_
        rintro e w2 ⟨rfl, rfl⟩
        go_wp2_with fail
        refine (HCP.out _).mono ?_
        rintro e w3 ⟨rfl, hb3⟩
        have HB3 := Lib.hid ((below_drewN HB2.out nd).trans (hb3.mono HB2.out.size))
        have HB4 := Lib.hid (HB3.out.alloc HB3.out.size (.cells #[.string ⟨t1.toArray⟩, .int .i64 (pnum t2)] 36))
        have HX4 := Lib.hid (owns_alloc (owns_below (show Owns (wr.drewN nd) (w.heap.size + 1) _ x from HXr.out) hb3 (Nat.le_refl _)) (.cells #[.string ⟨t1.toArray⟩, .int .i64 (pnum t2)] 36))
        have HO3 := Lib.hid (show OwnsF cCell 36 2 w3 w.heap.size u3 _ from ownsF_below (show OwnsF cCell 36 2 (wr.drewN nd) w.heap.size u3 _ from HO2.out) hb3 (Nat.le_refl _))
        clear hb3
        go_wp2_with (at_builtin; refine append_cell rfl _ _ rfl w.heap.size _ ((x.take k).map rdC) ⟨t1, pnum t2⟩ _ w3.heap.size rfl (ownsF_alloc HO3.out _) rfl (cell_newC w3 ⟨t1, pnum t2⟩ _ rfl) (by simp; omega) (by have := HB3.out.size; simp; omega) ?_; intro v' w4 hO4 hg4)
        have HB5 := Lib.hid (below_appendF HB4.out (ownsF_alloc HO3.out _) hg4 HB4.out.size)
        refine ⟨⟨k + 1, by omega, by go_num, by rw [HSN.out, HRD.out]; exact hO4, HB5.out, owns_keptF HX4.out (ownsF_alloc HO3.out _) hg4 (by decide)⟩, by simp [intOf]; omega⟩
      · have HN := Lib.hid (show (x.take k).map rdC = x.map rdC from by rw [List.take_of_length_le (by omega)])
        go_wp2_with fail
        go_ret
        exact ⟨_, rfl, by rw [HR.out, ← HN.out]; exact HO2.out, HB2.out⟩
end Go.Proofs.YtghebbndfpbkcaaGreat
/- Contracts of chapter 3: the program's ParseCells. -/
namespace Go.Proofs.YtghebbndfpbkcaaGreat
set_option linter.unusedVariables false
open Go.RowKit
def GivesCells (s : List UInt8) (w : World) (e : Ending) (w' : World) : Prop := ∃ v, e = .returned (.tuple #[v, .bool (prsB s)]) ∧ OwnsF cCell 36 2 w' w.heap.size v (prsC s) ∧ Below w.heap.size w w'
theorem rdCs_len (s : List UInt8) : (rdCs s).length ≤ s.length + 1 := by
  unfold rdCs
  split
  · simp
  · have := splitL_len s [44]; simpa using this
theorem rdCs_key (s : List UInt8) : ∀ d ∈ rdCs s, d.fKey.length ≤ s.length := by
  intro d hd
  unfold rdCs at hd
  split at hd
  · simp at hd
  · obtain ⟨p, hp, rfl⟩ := List.mem_map.1 hd
    have h1 := split_part s 44 p hp
    have h2 := (cut_len p [61]).1
    unfold rdC; simp only; omega
theorem prsC_len (s : List UInt8) : (prsC s).length ≤ s.length + 1 := by
  unfold prsC
  split
  · exact rdCs_len s
  · simp
theorem ret_pairV {v : Value} {c d : Bool} (h : c = d) : Ending.returned (.tuple #[v, .bool c]) = .returned (.tuple #[v, .bool d]) := by rw [h]
set_option maxRecDepth 100000 in
set_option maxHeartbeats 1600000 in
theorem implParseCells_any (s : ByteArray) (m : Int) (w : World) (hm : w.cell? ⟨0, 0, none⟩ = some (.int .i64 m)) (hs : s.size ≤ 1048576) :
    Calls Tryz.prog 156 #[.string s] w fun e w' => GivesCells s.data.toList w e w' := by
  have HR := Lib.hid (implReadCells_any s m w hm hs)
  have HLN := Lib.hid (show (rdCs s.data.toList).length ≤ 1048577 by have := rdCs_len s.data.toList; rw [size_list] at this; omega)
  have HK := Lib.hid (show ∀ d ∈ rdCs s.data.toList, d.fKey.length ≤ maxLen from fun d hd => by have := rdCs_key _ d hd; rw [size_list] at this; unfold maxLen; omega)
  have HP := Lib.hid (show prsB s.data.toList = (cellsB (rdCs s.data.toList) && decide (fmtC (rdCs s.data.toList) = s.data.toList)) from rfl)
  have HY := Lib.hid (@prsC_yes s.data.toList)
  have HN := Lib.hid (@prsC_no s.data.toList)
  unfold GivesCells
  generalize prsC s.data.toList = z at *
  generalize prsB s.data.toList = y at *
  generalize rdCs s.data.toList = l at *
  clear hm
  cases hc : cellsB l with
  | false =>
    have HYF := Lib.hid (show y = false by rw [HP.out, hc]; rfl)
    have HZ := Lib.hid (HN.out HYF.out)
    go_enter Tryz.func156, Tryz.ntmps156
    go_wp2_with fail
    refine HR.out.mono ?_
    rintro e w1 ⟨u, rfl, ho, hb⟩
    have HB := Lib.hid hb
    have HIC := Lib.hid (implIsCells_any u l w1 (ownsF_at ho (by have := HLN.out; omega)) HK.out)
    rw [hc] at HIC
    clear ho hb hc
    go_wp2_with fail
    refine HIC.out.mono ?_
    rintro e w2 ⟨rfl, hb⟩
    have HB2 := Lib.hid (HB.out.trans (hb.mono HB.out.size))
    clear hb
    go_wp2_with fail
    go_ret2
    exact ⟨_, ret_pairV HYF.out.symm, by rw [HZ.out]; exact ownsF_base (ownsF_new cCell 36 2 w2) HB2.out.size, HB2.out.alloc HB2.out.size _⟩
  | true =>
    cases hf : decide (fmtC l = s.data.toList) with
    | false =>
      have HYF := Lib.hid (show y = false by rw [HP.out, hc, hf]; rfl)
      have HZ := Lib.hid (HN.out HYF.out)
      have hne : (fmtC l == s.toList) = false := by rw [Lib.toList_data]; simpa using hf
      have hne2 : (fmtC l != s.toList) = true := by rw [bne, hne]; rfl
      clear hf
      go_enter Tryz.func156, Tryz.ntmps156
      go_wp2_with fail
      refine HR.out.mono ?_
      rintro e w1 ⟨u, rfl, ho, hb⟩
      have HB := Lib.hid hb
      have HU := Lib.hid (ownsF_at ho (by have := HLN.out; omega))
      have HIC := Lib.hid (implIsCells_any u l w1 HU.out HK.out)
      rw [hc] at HIC
      clear ho hb hc
      go_wp2_with fail
      refine HIC.out.mono ?_
      rintro e w2 ⟨rfl, hb⟩
      have HB2 := Lib.hid (HB.out.trans (hb.mono HB.out.size))
      have HFC := Lib.hid (implFormatCells_any u l w2 (HU.out.below hb (Nat.le_refl _)) HK.out)
      clear hb
      go_wp2_with fail
      refine HFC.out.mono ?_
      rintro e w3 ⟨rfl, hb⟩
      have HB3 := Lib.hid (HB2.out.trans (hb.mono HB2.out.size))
      clear hb
      go_wp2_with fail
      go_ret2
      exact ⟨_, ret_pairV HYF.out.symm, by rw [HZ.out]; exact ownsF_base (ownsF_new cCell 36 2 w3) HB3.out.size, HB3.out.alloc HB3.out.size _⟩
    | true =>
      have HYF := Lib.hid (show y = true by rw [HP.out, hc, hf]; rfl)
      have HZ := Lib.hid (HY.out HYF.out)
      have hne : (fmtC l == s.toList) = true := by rw [Lib.toList_data]; simpa using hf
      have hne2 : (fmtC l != s.toList) = false := by rw [bne, hne]; rfl
      clear hf
      go_enter Tryz.func156, Tryz.ntmps156
      go_wp2_with fail
      refine HR.out.mono ?_
      rintro e w1 ⟨u, rfl, ho, hb⟩
      have HB := Lib.hid hb
      have HO := Lib.hid ho
      have HU := Lib.hid (ownsF_at ho (by have := HLN.out; omega))
      have HIC := Lib.hid (implIsCells_any u l w1 HU.out HK.out)
      rw [hc] at HIC
      clear ho hb hc
      go_wp2_with fail
      refine HIC.out.mono ?_
      rintro e w2 ⟨rfl, hb⟩
      have HB2 := Lib.hid (HB.out.trans (hb.mono HB.out.size))
      have HO2 := Lib.hid (ownsF_below HO.out hb (Nat.le_refl _))
      have HFC := Lib.hid (implFormatCells_any u l w2 (HU.out.below hb (Nat.le_refl _)) HK.out)
      clear hb
      go_wp2_with fail
      refine HFC.out.mono ?_
      rintro e w3 ⟨rfl, hb⟩
      have HB3 := Lib.hid (HB2.out.trans (hb.mono HB2.out.size))
      have HO3 := Lib.hid (ownsF_below HO2.out hb (Nat.le_refl _))
      clear hb
      go_wp2_with fail
      go_ret2
      exact ⟨_, ret_pairV HYF.out.symm, by rw [HZ.out]; exact HO3.out, HB3.out⟩
end Go.Proofs.YtghebbndfpbkcaaGreat
namespace Go.Proofs.YtghebbndfpbkcaaGreat
set_option linter.unusedVariables false
set_option linter.unusedSimpArgs false
open Go.RowKit
set_option maxHeartbeats 1600000 in
theorem save_c (N b : Nat) (cv : Value) (d : CoreD) (w : World) (h : CoreSt N b cv d w) (hm : d.fCells.length ≤ 4194304) (hs : ∀ c ∈ d.fCells, c.fKey.length ≤ maxLen) :
    Calls Tryz.prog 155 #[.agg #[.pointer (some ⟨b, 0, none⟩)]] w fun e w' => Does N b cv (saveD d) w e w' := by
  have HS := Lib.hid h
  have HB := Lib.hid h.box
  have hl0 := h.box.lt
  have HX := Lib.hid (ownsF_at h.own hm)
  obtain ⟨c0, c1, c2, c3, c4, z1, z2, z3, z4⟩ := h.box
  clear h
  have HD := Lib.hid (fun w' (hw : Below w.heap.size w w') => show CoreBox w' b cv d ∧ Kept2 w w' (some b) none from ⟨HB.out.keep (hw.block b hl0), Kept2.of_below hw⟩)
  have HF := Lib.hid (fun w' (hw : Below w.heap.size w w') => implFormatCells_any cv d.fCells w' (HX.out.below hw (Nat.le_refl _)) hs)
  obtain ⟨kd, on, br, l, cnt⟩ := d
  simp only at *
  have hl1 : b < w.heap.size + 1 := by omega
  have hl2 : b < w.heap.size + 1 + 1 := by omega
  have hn0 : ¬ b = w.heap.size := by omega
  have hn1 : ¬ b = w.heap.size + 1 := by omega
  have hap := @past_cell b
  have HB2 := Lib.hid (show ∀ o1 o2, Below w.heap.size w ((w.alloc o1).alloc o2) from fun o1 o2 => ((Below.refl _ _).alloc (Nat.le_refl _) _).alloc (by simp) _)
  cases br with
  | true =>
    go_enter Tryz.func155, Tryz.ntmps155
    go_wp2_with fail
    refine bodyPost_ret (v := vReply (rC 3)) (by simp [results, Tryz.results155, go_sem, vReply, rC, rV, rT]) rfl ?_
    exact does_of (d' := ⟨kd, on, true, l, cnt⟩) (r := rC 3) HS.out (HD.out _ (HB2.out _ _)).1 rfl (HD.out _ (HB2.out _ _)).2 rfl rfl
  | false =>
    have HE := Lib.hid (show saveD ⟨kd, on, false, l, cnt⟩ = (⟨kd, on, false, l, cnt⟩, rT (fmtC l)) from rfl)
    generalize fmtC l = t at *
    go_enter Tryz.func155, Tryz.ntmps155
    go_wp2_with fail
    refine (HF.out _ (HB2.out _ _)).mono ?_
    rintro e w1 ⟨rfl, hb⟩
    have HB3 := Lib.hid ((HB2.out _ _).trans (hb.mono (HB2.out _ _).size))
    obtain ⟨hcc, hff⟩ := bcell hb
    simp at hcc hff
    have hsz := hb.size
    simp at hsz
    clear hb
    go_wp2_with fail
    refine bodyPost_ret (v := vReply (rT t)) (by simp [results, Tryz.results155, go_sem, vReply, rC, rV, rT, cell_set_at, cell_set_ne, hcc]) rfl ?_
    refine does_of (d' := ⟨kd, on, false, l, cnt⟩) (r := rT t) HS.out ?_ rfl ?_ HE.out rfl
    · exact (HD.out _ (by repeat (first | with_reducible exact HB3.out | with_reducible refine Below.setCell ?_ (by simp; try omega) _)) ).1
    · exact (HD.out _ (by repeat (first | with_reducible exact HB3.out | with_reducible refine Below.setCell ?_ (by simp; try omega) _)) ).2
set_option maxHeartbeats 1600000 in
theorem load_c (N b : Nat) (cv : Value) (d : CoreD) (t : List UInt8) (m : Int) (w : World) (h : CoreSt N b cv d w) (hN : N ≤ w.heap.size) (hM : w.cell? ⟨0, 0, none⟩ = some (.int .i64 m)) (ht : t.length ≤ 1048576) :
    Calls Tryz.prog 154 #[.agg #[.pointer (some ⟨b, 0, none⟩)], .string ⟨t.toArray⟩] w fun e w' => Does N b cv (loadD d t) w e w' := by
  have HS := Lib.hid h
  have HB := Lib.hid h.box
  have hl0 := h.box.lt
  have hge := h.ge
  obtain ⟨c0, c1, c2, c3, c4, z1, z2, z3, z4⟩ := h.box
  clear h
  have HD := Lib.hid (fun w' (hw : Below w.heap.size w w') => show CoreBox w' b cv d ∧ Kept2 w w' (some b) none from ⟨HB.out.keep (hw.block b hl0), Kept2.of_below hw⟩)
  have hML := World.block_lt_of_cell? w _ hM
  simp only at hML
  have HF := Lib.hid (fun w' (hw : Below w.heap.size w w') => implParseCells_any ⟨t.toArray⟩ m w' ((hw.cell (p := ⟨0, 0, none⟩) hML).trans hM) (by rw [← size_list]; simpa using ht))
  clear hM
  unfold GivesCells at HF
  simp only [List.toList_toArray] at HF
  have HE := Lib.hid (show d.fBroken = false → loadD d t = if prsB t = true then ({ d with fCells := prsC t }, rV (prsC t).length) else (d, rC 6) from fun h => by unfold loadD; rw [h]; rfl)
  have hE3 := Lib.hid (show d.fBroken = true → loadD d t = (d, rC 3) from fun h => by unfold loadD; rw [h]; rfl)
  generalize loadD d t = out at *
  generalize prsB t = q at *
  generalize prsC t = l2 at *
  obtain ⟨kd, on, br, l, cnt⟩ := d
  simp only at *
  have hl1 : b < w.heap.size + 1 := by omega
  have hl2 : b < w.heap.size + 1 + 1 := by omega
  have hn0 : ¬ b = w.heap.size := by omega
  have hn1 : ¬ b = w.heap.size + 1 := by omega
  have hm0 : ¬ w.heap.size = b := by omega
  have hm1 : ¬ w.heap.size + 1 = b := by omega
  have hap := @past_cell b
  have haf := @past_frozen b
  have HB2 := Lib.hid (show ∀ o1 o2, Below w.heap.size w ((w.alloc o1).alloc o2) from fun o1 o2 => ((Below.refl _ _).alloc (Nat.le_refl _) _).alloc (by simp) _)
  cases br with
  | true =>
    go_enter Tryz.func154, Tryz.ntmps154
    go_wp2_with fail
    refine bodyPost_ret (v := vReply (rC 3)) (by simp [results, Tryz.results154, go_sem, vReply, rC, rV, rT]) rfl ?_
    exact does_of (d' := ⟨kd, on, true, l, cnt⟩) (r := rC 3) HS.out (HD.out _ (HB2.out _ _)).1 rfl (HD.out _ (HB2.out _ _)).2 (hE3.out (by first | rfl | trivial)) rfl
  | false =>
    have HE1 := Lib.hid (HE.out (by first | rfl | trivial))
    clear HE hE3
    go_enter Tryz.func154, Tryz.ntmps154
    go_wp2_with fail
    refine (HF.out _ (HB2.out _ _)).mono ?_
    rintro e w1 ⟨v, rfl, ho, hb⟩
    have HO := Lib.hid (show OwnsF cCell 36 2 w1 (w.heap.size + 1 + 1) v l2 from by simpa using ho)
    have HB3 := Lib.hid ((HB2.out _ _).trans (hb.mono (HB2.out _ _).size))
    obtain ⟨hcc, hff⟩ := bcell hb
    simp at hcc hff
    have hsz := hb.size
    simp at hsz
    clear hb ho
    cases q with
    | true =>
      have hvl : ∃ va vc, v = .slice va l2.length vc := by
        rcases HO.out.2 with ⟨rfl, hn⟩ | ⟨g, cap, cur, rfl, _⟩
        · exact ⟨none, 0, by rw [hn]⟩
        · exact ⟨_, _, rfl⟩
      obtain ⟨va, vc, rfl⟩ := hvl
      go_wp2_with fail
      refine bodyPost_ret (v := vReply (rV l2.length)) (by simp [results, Tryz.results154, go_sem, vReply, rC, rV, rT, cell_set_at, cell_set_ne, hcc]) rfl ?_
      rw [HE1.out]
      refine ⟨rfl, .slice va l2.length vc, ⟨?_, ?_, ?_, hge⟩, ?_⟩
      · show CoreBox _ b _ ⟨kd, on, false, l2, cnt⟩
        repeat (first | with_reducible refine CoreBox.s3 (cv0 := cv) (l0 := l) ?_ _ _ | with_reducible refine CoreBox.so ?_ _ _ (by simp; try omega))
        exact (HD.out _ HB3.out).1
      · refine ownsF_base (B := w.heap.size + 1 + 1) ?_ (by omega)
        repeat (with_reducible refine ownsF_set ?_ (by simp; try omega))
        exact HO.out
      · intro e
        have := (World.ownsRow.lt HO.out b e).1
        omega
      · have k0 := Kept2.of_below (r1 := some b) (r2 := Value.ownBlock cv) HB3.out
        repeat (with_reducible refine Kept2.set ?_ _ ?_)
        · exact k0
        all_goals (first | exact Or.inr (Or.inl ⟨rfl, by simp⟩) | (left; simp; try omega))
    | false =>
      go_wp2_with fail
      refine bodyPost_ret (v := vReply (rC 6)) (by simp [results, Tryz.results154, go_sem, vReply, rC, rV, rT, cell_set_at, cell_set_ne, hcc]) rfl ?_
      refine does_of (d' := ⟨kd, on, false, l, cnt⟩) (r := rC 6) HS.out ?_ rfl ?_ (by rw [HE1.out]; rfl) rfl
      · exact (HD.out _ (by repeat (first | with_reducible exact HB3.out | with_reducible refine Below.setCell ?_ (by simp; try omega) _)) ).1
      · exact (HD.out _ (by repeat (first | with_reducible exact HB3.out | with_reducible refine Below.setCell ?_ (by simp; try omega) _)) ).2
end Go.Proofs.YtghebbndfpbkcaaGreat
