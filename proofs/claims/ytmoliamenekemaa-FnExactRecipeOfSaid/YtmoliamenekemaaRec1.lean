/- Contracts of chapter 4: RecipeOf, both sides. -/
import Derived.Test.YtmoliamenekemaaOPart
import Derived.Test.YtmoliamenekemaaJoin
namespace Go.Proofs.Ytmoliamenekemaa
set_option linter.unusedVariables false
set_option linter.unusedSimpArgs false
open Go.RowKit
def recL (x : PartD) : List (List UInt8) := x.fCore.fKind :: x.fLayers.map (·.fName)
theorem owns_oneL (w : World) (B : Nat) (a : List UInt8) (h : B ≤ w.heap.size) : Owns (w.alloc (.cells #[.string ⟨a.toArray⟩] 9)) B (.slice (some ⟨w.heap.size, 0, none⟩) 1 1) [a] :=
  ⟨rfl, .inr ⟨w.heap.size, 1, #[.string ⟨a.toArray⟩], rfl, h, heap_alloc_new w _, Nat.le_refl _, by decide, rfl, by simp [strV]⟩⟩
theorem rec_len (k : List UInt8) (l : List LayerD) (n : Nat) : (k :: (l.take n).map (·.fName)).length ≤ l.length + 1 := by simp; omega
theorem rec_step (k : List UInt8) (l : List LayerD) (n : Nat) (h : n < l.length) : k :: (l.take (n + 1)).map (·.fName) = (k :: (l.take n).map (·.fName)) ++ [(l[n]).fName] := by
  rw [List.take_succ_eq_append_getElem h, List.map_append]; rfl
set_option maxRecDepth 100000 in
set_option maxHeartbeats 1600000 in
theorem implRecipe_any (v : Value) (x : PartD) (w : World) (hx : ValAt rPart 0 w v x) (hs : SmallP x) :
    Calls Try.prog 19 #[v] w fun e w' => GivesRow (recL x) w e w' := by
  obtain ⟨_, rfl, hx⟩ := hx
  have HR := Lib.hid (show recL x = x.fCore.fKind :: x.fLayers.map (·.fName) from rfl)
  obtain ⟨⟨a0, a1, a2, a3, a4⟩, l⟩ := x
  obtain ⟨v3, v5, rfl, h3, h5⟩ := hx
  have HN := Lib.hid hs.names
  have hm := hs.lays
  have HK := Lib.hid (fun W => copyText_any ⟨a0.toArray⟩ W (by have := hs.kind; rw [← size_list]; simp only at this; simp; omega))
  simp only [List.toList_toArray] at h3 h5 HN hm HR
  obtain ⟨ra, rc, rfl, _⟩ := sliceAt_len h3
  obtain ⟨sa, sc, rfl, hl⟩ := sliceAt_len h5
  have H5 := Lib.hid h5
  unfold maxLen at hl
  generalize recL ⟨⟨a0, a1, a2, a3, a4⟩, l⟩ = res at *
  have HS0 := Lib.hid (Bx.new w [.string ⟨a0.toArray⟩, .bool a1, .bool a2, .slice ra a3.length rc, .int .i64 a4, .slice sa l.length sc] 35)
  have HB0 := Lib.hid (bx_box w (.cells #[.string ⟨a0.toArray⟩, .bool a1, .bool a2, .slice ra a3.length rc, .int .i64 a4, .slice sa l.length sc] 35))
  clear h3 h5 hs
  go_enter Try.func19, Try.ntmps19
  go_wp2_with fail
  refine (HK.out _).mono ?_
  rintro e w1 ⟨rfl, hb⟩
  have HB1 := Lib.hid (belS HB0.out hb)
  have BX1 := Lib.hid (HS0.out.below hb)
  clear hb
  have BX2 := Lib.hid (BX1.out.alloc (.cells #[.string ⟨a0.toArray⟩] 9))
  have HB2 := Lib.hid (belS HB1.out (bx_box w1 (.cells #[.string ⟨a0.toArray⟩] 9)))
  have HO0 := Lib.hid (owns_oneL w1 w.heap.size a0 HB1.out.size)
  have e5 := BX1.out.cell 5 (by simp)
  simp only [List.getElem_cons_zero, List.getElem_cons_succ] at e5
  have hlt1 := BX1.out.lt
  have hne : ¬ w.heap.size = w1.heap.size := by omega
  go_wp2_with fail
  clear e5 hlt1 hne
  go_loopw [3, 14] (fun u i wr => ∃ k : Nat, k ≤ l.length ∧ i = .int .i64 k ∧ Owns wr w.heap.size u (a0 :: (l.take k).map (·.fName)) ∧ Below w.heap.size w wr) (fun _ i _ => l.length - (intOf i).toNat)
  case atStart => exact ⟨0, Nat.zero_le _, rfl, HO0.out, HB2.out⟩
  case round =>
    obtain ⟨k, hk2, rfl, hO, hb⟩ := hrel
    have HO := Lib.hid hO
    have HB := Lib.hid hb
    have HXr := Lib.hid (SliceAt.below H5.out (good_flat cLayer_len) hb (Nat.le_refl _))
    clear hO hb
    by_cases hlt : k < l.length
    · obtain ⟨b, o, cs, rfl, hbl, hat, hd⟩ := sliceAt_cell HXr.out k hlt
      have HSN := Lib.hid (rec_step a0 l k hlt)
      have HLN := Lib.hid (rec_len a0 l k)
      have hks := HN.out l[k] (List.getElem_mem hlt)
      generalize l[k] = p at *
      obtain ⟨b0, b1⟩ := p
      simp only [rFlat, cLayer] at hat
      subst hat
      have d0 := hd 0 (by decide)
      have d1 := hd 1 (by decide)
      simp only [List.getElem?_cons_zero, List.getElem?_cons_succ, Nat.add_zero] at d0 d1 hks
      have HCT := Lib.hid (fun W => copyText_any ⟨b0.toArray⟩ W (by rw [← size_list]; simp; omega))
      have HW := Lib.hid (belS HB.out (bx_box wr (.cells #[.string ⟨b0.toArray⟩, .int .i64 b1] 61)))
      generalize a0 :: (l.take k).map (·.fName) = ys at *
      clear hks hd
      go_wp2_with fail
      refine (HCT.out _).mono ?_
      rintro e w2 ⟨rfl, hb⟩
      have HB3 := Lib.hid (belS HW.out hb)
      have HO3 := Lib.hid (owns_below (owns_alloc HO.out _) hb (Nat.le_refl _))
      have hys := HLN.out
      clear hb
      go_wp2_with (at_builtin; (refine append_strs rfl _ _ rfl w.heap.size u3 ys b0 _ w2.heap.size (by rfl) (owns_alloc HO3.out _) rfl (cell_new _ _ _) (by omega) (by have := HB3.out.size; simp; omega) ?_; intro v' w3 hO1 hg1))
      have HB4 := Lib.hid (below_append (HB3.out.alloc HB3.out.size _) (owns_alloc HO3.out _) hg1 (by have := HB3.out.size; simp; omega))
      exact ⟨⟨k + 1, by omega, by go_num, by rw [HSN.out]; exact hO1, HB4.out⟩, by simp [intOf]; omega⟩
    · have HE := Lib.hid (show a0 :: (l.take k).map (·.fName) = res by rw [HR.out, List.take_of_length_le (by omega)])
      go_wp2
      go_ret
      exact ⟨u3, rfl, by rw [← HE.out]; exact HO.out, HB.out⟩
end Go.Proofs.Ytmoliamenekemaa
