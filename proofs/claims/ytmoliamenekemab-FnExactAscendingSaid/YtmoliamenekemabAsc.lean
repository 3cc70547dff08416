/- Ascending, the model's and the program's. -/
import Derived.Test.YtmoliamenekemabJoin
import Derived.Test.YtmoliamenekemabShelf
import Derived.Test.YtmoliamenekemabAscP
import Derived.Lib.OwnBridge
namespace Go.Proofs.Ytmoliamenekemab
set_option linter.unusedVariables false
open Go.RowKit
theorem grow_below (w : World) (os : Array Obj) : Below w.heap.size w (Sort.grow w os) := ⟨rfl, rfl, rfl, by simp [Sort.grow], fun k hk => Sort.heap_grow_old w os hk⟩
theorem strV_enc : strV = Proofs.encStr := rfl
set_option maxRecDepth 100000 in
set_option maxHeartbeats 800000 in
theorem copyTexts_any (v : Value) (x : List (List UInt8)) (w : World) (hR : RowAt w v (x.map strV)) (hm : x.length ≤ 2097152) (hz : ∀ s ∈ x, s.length ≤ 140737488355328) :
    Calls Try.prog 60 #[v] w fun e w' => ∃ u, e = .returned u ∧ Owns w' w.heap.size u x ∧ u ≠ .slice none 0 0 ∧ Below w.heap.size w w' := by
  obtain ⟨a, c, rfl, hl⟩ := rowAt_len hR
  rw [List.length_map] at *
  obtain ⟨i0, hi, hz0, hz1, hz2⟩ := info_parts string_info
  have HR := Lib.hid hR
  have HZ := Lib.hid hz
  have HB2 := Lib.hid (show i0.bytes * x.length ≤ 281474976710656 by rw [hz2]; omega)
  have HM := Lib.hid (show x.length ≤ maxLen from by unfold maxLen; omega)
  clear hR hz hl
  go_enter Try.func60, Try.ntmps60
  go_wp2_with (refine wpList_make_own _ rfl _ _ 42 rfl w.heap.size 9 i0 (.string ⟨#[]⟩) 1 Try.underlying42 hi hz0 hz1 .i64 .i64 _ x.length rfl rfl rfl HB2.out HM.out (Nat.le_refl _) ?_; intro w1 hown1 hgrow1)
  have HO := Lib.hid (show Owns w1 w.heap.size (.slice (some ⟨w.heap.size, 0, none⟩) 0 x.length) [] from hown1)
  have HB := Lib.hid (show Below w.heap.size w w1 from ⟨hgrow1.os, hgrow1.tape, hgrow1.output, hgrow1.size, fun i hi => hgrow1.block i hi (by simp)⟩)
  clear hown1 hgrow1 hz0 hz1 hz2 HB2 hi
  go_loopw [3, 5, 11] (fun ov _ i wr => ∃ k : Nat, k ≤ x.length ∧ i = .int .i64 k ∧ Owns wr w.heap.size ov (x.take k) ∧ ov ≠ .slice none 0 0 ∧ Below w.heap.size w wr) (fun _ _ i _ => x.length - (intOf i).toNat)
  case atStart => exact ⟨0, Nat.zero_le _, rfl, HO.out, by simp, HB.out⟩
  case round =>
    obtain ⟨k, hk, rfl, hO, hnn, hb⟩ := hrel
    have HO2 := Lib.hid hO
    have HB2 := Lib.hid hb
    have HNN := Lib.hid hnn
    have HRr := Lib.hid (RowAt.below HR.out hb (Nat.le_refl _))
    clear hO hb hnn
    by_cases hlt : k < x.length
    · obtain ⟨b, o, rfl, hbw, d1⟩ := rowAt_cell HRr.out k (by simpa using hlt)
      rw [getElem_map_strV] at d1
      unfold strV at d1
      have hzk := HZ.out _ (List.getElem_mem hlt)
      have HT := Lib.hid (List.take_succ_eq_append_getElem hlt)
      go_wp2_with fail
      refine (copyText_any ⟨(x[k]).toArray⟩ wr (by rw [size_strB]; exact hzk)).mono ?_
      rintro e w2 ⟨rfl, hb2⟩
      have HB3 := Lib.hid (HB2.out.trans (hb2.mono HB2.out.size))
      have HO3 := Lib.hid (owns_below HO2.out hb2 (Nat.le_refl _))
      clear hb2
      have hlk : (x.take k).length ≤ 4194304 := by simp; omega
      go_wp2_with (at_builtin; (refine append_strsN rfl _ _ rfl w.heap.size _ (x.take k) x[k] _ w2.heap.size (by rfl) (owns_alloc HO3.out _) rfl (cell_new _ _ _) hlk (by have := HB3.out.size; simp; omega) HNN.out ?_; intro v' w3 hO1 hg1 hnn1))
      exact ⟨⟨k + 1, by omega, by go_num, by rw [HT.out]; exact hO1, hnn1, below_append (HB3.out.alloc HB3.out.size _) (owns_alloc HO3.out _) hg1 (by have := HB3.out.size; simp; omega)⟩, by simp [intOf]; omega⟩
    · have HT := Lib.hid (show x.take k = x from List.take_of_length_le (by omega))
      rw [HT.out] at HO2
      go_wp2
      go_ret
      exact ⟨u3, rfl, HO2.out, HNN.out, HB2.out⟩
set_option maxRecDepth 100000 in
set_option maxHeartbeats 800000 in
theorem implAsc_any (v : Value) (x : List (List UInt8)) (w : World) (hR : RowAt w v (x.map strV)) (hm : x.length ≤ 2097152) (hz : ∀ s ∈ x, s.length ≤ 140737488355328) :
    Calls Try.prog 22 #[v] w fun e w' => GivesRow (ascL x) w e w' := by
  have HCT := Lib.hid (copyTexts_any v x w hR hm hz)
  clear hR hz
  go_enter Try.func22, Try.ntmps22
  go_wp2_with fail
  refine HCT.out.mono ?_
  rintro e wr ⟨u, rfl, hO, hnn, hb⟩
  have HO2 := Lib.hid hO
  have HB2 := Lib.hid hb
  have HNN := Lib.hid hnn
  clear hO hb hnn
  obtain ⟨g, cap, rfl, hgB, hgw, hcap, hcm, _, hH⟩ := Lib.holds_of_ownsRow (enc := Proofs.encStr) HO2.out HNN.out
  have HH := Lib.hid hH
  clear hH
  go_wp2_with fail
  refine (Try.slices_Sort_string g 0 cap x wr HH.out hgw (by omega)).mono ?_
  rintro e w2 ⟨rfl, n, os, hw⟩
  have hyl : (x.mergeSort fun a b => decide (a ≤ b)).length = x.length := List.length_mergeSort x
  have HC := Lib.hid (compact_mergeSort x)
  generalize (x.mergeSort fun a b => decide (a ≤ b)) = y at *
  have O2 := Lib.hid (show Owns w2 w.heap.size (.slice (some ⟨g, 0, none⟩) y.length cap) y from by
    have h := Lib.ownsRow_putRow (enc := Proofs.encStr) (q := n) HO2.out hyl (Nat.le_refl _)
    rw [List.take_of_length_le (by omega), ← hyl] at h
    have h2 := ownsRow_below h (grow_below _ os) (Nat.le_refl _)
    rw [← hw] at h2; exact h2)
  have B2 := Lib.hid (show Below w.heap.size w w2 from by
    have h := Lib.below_putRow (enc := Proofs.encStr) (q := n) (d := y.toArray) HB2.out hgB
    rw [hw]; exact h.trans ((grow_below _ os).mono h.size))
  obtain ⟨g', cap', e1, _, hgw2, hcap2, hcm2, _, hH2⟩ := Lib.holds_of_ownsRow (enc := Proofs.encStr) O2.out (by simp)
  injection e1 with e1 e2 e3
  injection e1 with e1
  injection e1 with e1
  subst e1; subst e3
  have HH2 := Lib.hid hH2
  have HYL := Lib.hid hyl
  clear hw hH2 hyl
  rw [← HYL.out]
  go_wp2_with fail
  refine (Try.slices_Compact_string g 0 cap y w2 HH2.out (by have := HYL.out; omega) hcap2).mono ?_
  rintro e w3 ⟨rfl, q, hw⟩
  rw [HC.out] at hw ⊢
  have hal := asc_len x
  have O3 := Lib.hid (show Owns w3 w.heap.size (.slice (some ⟨g, 0, none⟩) (ascL x).length cap) (ascL x) from by
    have h := Lib.ownsRow_putRow (enc := Proofs.encStr) (q := q) (k := (ascL x).length) (ys := ascL x ++ List.replicate (y.length - (ascL x).length) []) O2.out (by simp; have := HYL.out; omega) (by have := HYL.out; omega)
    rw [List.take_left' rfl] at h
    rw [hw]; exact h)
  have B3 := Lib.hid (show Below w.heap.size w w3 from by
    have h := Lib.below_putRow (enc := Proofs.encStr) (q := q) (d := (ascL x ++ List.replicate (y.length - (ascL x).length) []).toArray) B2.out hgB
    rw [hw]; exact h)
  clear hw
  go_wp2_with fail
  go_ret
  exact ⟨_, rfl, O3.out, B3.out⟩
theorem bytes_lt (a b : List UInt8) : Op.bytesLess a b = decide (a < b) := Proofs.bytesLess_eq a b
/-- the loop of the model's l1Put: what is out after p, and whether s is in -/
def PutInv (s : List UInt8) (p : List (List UInt8)) (out : List (List UInt8)) (done : Bool) : Prop :=
  (done = false ∧ out = p ∧ ∀ z ∈ p, z < s) ∨ (done = true ∧ out = ins s p ∧ ∃ z ∈ p, ¬ z < s)
theorem put_start (s : List UInt8) : PutInv s [] [] false := Or.inl ⟨rfl, rfl, by simp⟩
theorem put_less {s : List UInt8} {p out : List (List UInt8)} (h : PutInv s p out false) (x : List UInt8) (hx : x < s) : PutInv s (p ++ [x]) (out ++ [x]) false := by
  rcases h with ⟨_, rfl, h⟩ | ⟨h, _⟩
  · refine Or.inl ⟨rfl, rfl, fun z hz => ?_⟩
    rcases List.mem_append.1 hz with h1 | h1
    · exact h z h1
    · rw [List.mem_singleton.1 h1]; exact hx
  · cases h
theorem put_done {s : List UInt8} {p out : List (List UInt8)} (h : PutInv s p out true) (x : List UInt8) : PutInv s (p ++ [x]) (out ++ [x]) true := by
  rcases h with ⟨h, _⟩ | ⟨_, rfl, z, hz, hzs⟩
  · cases h
  · exact Or.inr ⟨rfl, (ins_done ⟨z, hz, hzs⟩ [x]).symm, z, List.mem_append_left _ hz, hzs⟩
theorem put_eq {s : List UInt8} {p out : List (List UInt8)} (h : PutInv s p out false) (x : List UInt8) (hx : ¬ x < s) (he : x = s) : PutInv s (p ++ [x]) (out ++ [x]) true := by
  rcases h with ⟨_, rfl, h⟩ | ⟨h, _⟩
  · refine Or.inr ⟨rfl, ?_, x, by simp, hx⟩
    rw [ins_below h]; simp [ins, he]
  · cases h
theorem put_new {s : List UInt8} {p out : List (List UInt8)} (h : PutInv s p out false) (x : List UInt8) (hx : ¬ x < s) (he : ¬ x = s) : PutInv s (p ++ [x]) (out ++ [s] ++ [x]) true := by
  rcases h with ⟨_, rfl, h⟩ | ⟨h, _⟩
  · refine Or.inr ⟨rfl, ?_, x, by simp, hx⟩
    rw [ins_below h]; simp [ins, hx, he]
  · cases h
theorem put_last {s : List UInt8} {p out : List (List UInt8)} (h : PutInv s p out false) : out ++ [s] = ins s p := by
  rcases h with ⟨_, rfl, h⟩ | ⟨h, _⟩
  · have := ins_below h []; rw [List.append_nil] at this; rw [this]; rfl
  · cases h
theorem put_end {s : List UInt8} {p out : List (List UInt8)} (h : PutInv s p out true) : out = ins s p := by
  rcases h with ⟨h, _⟩ | ⟨_, h, _⟩
  · cases h
  · exact h
theorem put_len {s : List UInt8} {p out : List (List UInt8)} {d : Bool} (h : PutInv s p out d) : out.length ≤ p.length + 1 := by
  rcases h with ⟨_, rfl, _⟩ | ⟨_, rfl, _⟩
  · omega
  · exact ins_len s p
set_option maxRecDepth 100000 in
set_option maxHeartbeats 1600000 in
theorem l1Put_any (v : Value) (x : List (List UInt8)) (s : ByteArray) (w : World) (hR : RowAt w v (x.map strV)) (hm : x.length ≤ 2097152) :
    Calls Try.prog 59 #[v, .string s] w fun e w' => GivesRow (ins s.data.toList x) w e w' := by
  obtain ⟨a, c, rfl, hl⟩ := rowAt_len hR
  rw [List.length_map] at *
  have HR := Lib.hid hR
  have HO := Lib.hid (owns_new w)
  clear hR hl
  go_enter Try.func59, Try.ntmps59
  go_wp2_with fail
  go_loopw [5, 6, 8, 12] (fun ov dv _ i wr => ∃ (k : Nat) (done : Bool) (out : List (List UInt8)), k ≤ x.length ∧ i = .int .i64 k ∧ dv = .bool done ∧ PutInv s.data.toList (x.take k) out done ∧ Owns wr w.heap.size ov out ∧ Below w.heap.size w wr) (fun _ _ _ i _ => x.length - (intOf i).toNat)
  case atStart => exact ⟨0, false, [], Nat.zero_le _, rfl, rfl, put_start _, HO.out, (Below.refl _ _).alloc (Nat.le_refl _) _⟩
  case round =>
    obtain ⟨k, done, out, hk, rfl, rfl, hinv, hO, hb⟩ := hrel
    have hol : out.length ≤ 4194303 := by have := put_len hinv; simp at this; omega
    have HI := Lib.hid hinv
    have HO2 := Lib.hid hO
    have HB := Lib.hid hb
    have HRr := Lib.hid (RowAt.below HR.out hb (Nat.le_refl _))
    clear hinv hO hb
    by_cases hlt : k < x.length
    · obtain ⟨b, o, rfl, hbw, d1⟩ := rowAt_cell HRr.out k (by simpa using hlt)
      rw [getElem_map_strV] at d1
      unfold strV at d1
      have HT := Lib.hid (List.take_succ_eq_append_getElem hlt)
      cases done
      · by_cases hls : x[k] < s.data.toList
        · have hbl : Op.bytesLess x[k] s.toList = true := by rw [bytes_lt, Lib.toList_data]; simpa using hls
          have HN := Lib.hid (put_less HI.out x[k] hls)
          clear hls
          go_wp2_with (at_builtin; (refine append_strs rfl _ _ rfl w.heap.size _ out x[k] _ wr.heap.size (by rfl) (owns_alloc HO2.out _) rfl (cell_new _ _ _) (by omega) (by have := HB.out.size; simp; omega) ?_; intro v' w3 hO1 hg1))
          exact ⟨⟨k + 1, false, _, by omega, by go_num, rfl, by rw [HT.out]; exact HN.out, hO1, below_append (HB.out.alloc HB.out.size _) (owns_alloc HO2.out _) hg1 (by have := HB.out.size; simp; omega)⟩, by simp [intOf]; omega⟩
        · have hbl : Op.bytesLess x[k] s.toList = false := by rw [bytes_lt, Lib.toList_data]; simpa using hls
          by_cases heq : x[k] = s.data.toList
          · have hbeq : (x[k] == s.toList) = true := by rw [Lib.toList_data, beq_iff_eq]; exact heq
            have HN := Lib.hid (put_eq HI.out x[k] hls heq)
            clear hls heq
            go_wp2_with (at_builtin; (refine append_strs rfl _ _ rfl w.heap.size _ out x[k] _ wr.heap.size (by rfl) (owns_alloc HO2.out _) rfl (cell_new _ _ _) (by omega) (by have := HB.out.size; simp; omega) ?_; intro v' w3 hO1 hg1))
            exact ⟨⟨k + 1, true, _, by omega, by go_num, rfl, by rw [HT.out]; exact HN.out, hO1, below_append (HB.out.alloc HB.out.size _) (owns_alloc HO2.out _) hg1 (by have := HB.out.size; simp; omega)⟩, by simp [intOf]; omega⟩
          · have hbeq : (x[k] == s.toList) = false := by rw [Lib.toList_data, beq_eq_false_iff_ne]; exact heq
            have HN := Lib.hid (put_new HI.out x[k] hls heq)
            clear hls heq
            go_wp2_with (first
              | (at_builtin; (refine append_strs rfl (.tmp 26) (.tmp 28) rfl w.heap.size _ out s.data.toList _ wr.heap.size (by rfl) (owns_alloc HO2.out _) rfl (cell_newS _ _ _ _ rfl) (by omega) (by have := HB.out.size; simp; omega) ?_; intro v' w3 hO1 hg1; have HB3 := Lib.hid (below_append (HB.out.alloc HB.out.size _) (owns_alloc HO2.out _) hg1 (by have := HB.out.size; simp; omega)); have HO3 := Lib.hid hO1; clear hO1 hg1))
              | (at_builtin; (refine append_strs rfl (.tmp 30) (.tmp 32) rfl w.heap.size _ (out ++ [s.data.toList]) x[k] _ w3.heap.size (by rfl) (owns_alloc HO3.out _) rfl (cell_new _ _ _) (by simp; omega) (by have := HB3.out.size; simp; omega) ?_; intro v2 w4 hO2 hg2)))
            exact ⟨⟨k + 1, true, _, by omega, by go_num, rfl, by rw [HT.out]; exact HN.out, hO2, below_append (HB3.out.alloc HB3.out.size _) (owns_alloc HO3.out _) hg2 (by have := HB3.out.size; simp; omega)⟩, by simp [intOf]; omega⟩
      · have HN := Lib.hid (put_done HI.out x[k])
        go_wp2_with (at_builtin; (refine append_strs rfl _ _ rfl w.heap.size _ out x[k] _ wr.heap.size (by rfl) (owns_alloc HO2.out _) rfl (cell_new _ _ _) (by omega) (by have := HB.out.size; simp; omega) ?_; intro v' w3 hO1 hg1))
        exact ⟨⟨k + 1, true, _, by omega, by go_num, rfl, by rw [HT.out]; exact HN.out, hO1, below_append (HB.out.alloc HB.out.size _) (owns_alloc HO2.out _) hg1 (by have := HB.out.size; simp; omega)⟩, by simp [intOf]; omega⟩
    · have HT := Lib.hid (show x.take k = x from List.take_of_length_le (by omega))
      cases done
      · have HN := Lib.hid (put_last HI.out)
        go_wp2_with (at_builtin; (refine append_strs rfl _ _ rfl w.heap.size _ out s.data.toList _ wr.heap.size (by rfl) (owns_alloc HO2.out _) rfl (cell_newS _ _ _ _ rfl) (by omega) (by have := HB.out.size; simp; omega) ?_; intro v' w3 hO1 hg1))
        go_ret
        exact ⟨_, rfl, by have h := HN.out; rw [HT.out] at h; rw [← h]; exact hO1, below_append (HB.out.alloc HB.out.size _) (owns_alloc HO2.out _) hg1 (by have := HB.out.size; simp; omega)⟩
      · have HN := Lib.hid (put_end HI.out)
        go_wp2_with fail
        go_ret
        exact ⟨_, rfl, by have h := HN.out; rw [HT.out] at h; rw [← h]; exact HO2.out, HB.out⟩
end Go.Proofs.Ytmoliamenekemab
