/- Contracts of chapter 5: deals, the model's: the plain side, and where a version lies. -/
import Derived.Test.YtbofplofpggdlaaNeg4
import Derived.Test.YtbofplofpggdlaaOffer2
namespace Go.Proofs.Ytbofplofpggdlaa
set_option linter.unusedVariables false
set_option linter.unusedSimpArgs false
open Go.RowKit
theorem both_swap {f a y : Int} (hf : isF f = true) (ha : isF a = true) (hy : isF y = true) : bothF (bothF f a) y = bothF (bothF f y) a := by
  refine face_ext (isF_both (isF_both hf ha) hy) (isF_both (isF_both hf hy) ha) fun j hj => ?_
  rw [both_is (isF_both hf ha) hy, both_is (isF_both hf hy) ha, hasI_made _ j hj, hasI_made _ j hj]
  simp only [bothP]
  rw [both_is hf ha, both_is hf hy, hasI_made _ j hj, hasI_made _ j hj]
  simp only [bothP]
  cases hasI f j <;> cases hasI a j <;> cases hasI y j <;> rfl
theorem both_all {a : Int} (ha : isF a = true) : bothF 63 a = a := by
  refine face_ext (isF_both (by decide) ha) ha fun j hj => ?_
  rw [both_is (by decide) ha, hasI_made _ j hj]
  simp only [bothP]
  have : ∀ j : Fin 6, hasI 63 (j : Nat) = true := by decide
  rw [this ⟨j, hj⟩, Bool.true_and]
theorem fold_swap {a : Int} (ha : isF a = true) (l : List OfferD) (hl : ∀ y ∈ l, isF y.fFace = true) : ∀ f, isF f = true → l.foldl (fun f y => bothF f y.fFace) (bothF f a) = bothF (l.foldl (fun f y => bothF f y.fFace) f) a := by
  induction l with
  | nil => intro f _; rfl
  | cons y r ih =>
    intro f hf
    have hy := hl y (by simp)
    rw [List.foldl_cons, List.foldl_cons, both_swap hf ha hy]
    exact ih (fun z hz => hl z (by simp [hz])) _ (isF_both hf hy)
theorem fold_com {a : Int} (ha : isF a = true) (l : List OfferD) (hl : ∀ y ∈ l, isF y.fFace = true) : l.foldl (fun f y => bothF f y.fFace) a = bothF (comF l) a := by
  have h := fold_swap ha l hl 63 (by decide)
  rw [both_all ha] at h
  exact h
def candB (l : List OfferD) (v : VersionD) : Bool := l.all fun y => offerB y && inV y.fVersions v
theorem candB_is (l : List OfferD) (v : VersionD) : candB l v = (l.all offerB && allHaveB l v) := by
  unfold candB allHaveB
  induction l with
  | nil => rfl
  | cons y r ih =>
    simp only [List.all_cons, ih]
    cases offerB y <;> cases inV y.fVersions v <;> cases r.all offerB <;> simp
theorem offers_faces {l : List OfferD} (h : l.all offerB = true) : ∀ y ∈ l, isF y.fFace = true := by
  intro y hy
  rw [List.all_eq_true] at h
  have := h y hy
  simp only [offerB, Bool.and_eq_true] at this
  exact this.1
/-- what the model keeps behind some versions -/
def dealM (l : List OfferD) : Option VersionD → DealD
  | none => ⟨0, 0, 0⟩
  | some v => ⟨v.fMajor, v.fMinor, l.foldl (fun f y => bothF f y.fFace) (allowF v)⟩
def lastM (l : List OfferD) (vs : List VersionD) (k : Nat) : Option VersionD := ((vs.take k).filter (candB l)).getLast?
theorem lastM_succ (l : List OfferD) (vs : List VersionD) (k : Nat) (h : k < vs.length) : lastM l vs (k + 1) = if candB l vs[k] = true then some vs[k] else lastM l vs k := by
  unfold lastM
  rw [filter_take_succ _ _ _ h]
  by_cases hc : candB l vs[k] = true
  · rw [if_pos hc, if_pos hc, List.getLast?_append]; rfl
  · rw [if_neg hc, if_neg hc, List.append_nil]
theorem lastM_end (y : OfferD) (r : List OfferD) : lastM (y :: r) y.fVersions y.fVersions.length = dealO (y :: r) := by
  unfold lastM dealO
  rw [List.take_length]
  cases h : (y :: r).all offerB with
  | false =>
    rw [if_neg (by simp), List.filter_eq_nil_iff.2]; rfl
    intro v _; rw [candB_is, h]; simp
  | true =>
    rw [if_pos rfl]
    unfold comV
    congr 2
    funext v; rw [candB_is, h, Bool.true_and]
theorem dealM_end (y : OfferD) (r : List OfferD) : dealM (y :: r) (dealO (y :: r)) = dealV (y :: r) := by
  unfold dealV
  cases h : dealO (y :: r) with
  | none => rfl
  | some v =>
    have hv : (y :: r).all offerB = true := by
      cases h2 : (y :: r).all offerB with
      | true => rfl
      | false => rw [dealO_no h2] at h; exact absurd h (by simp)
    simp only [dealM, dealOf]
    rw [fold_com (allowF_face v) _ (offers_faces hv)]
set_option maxRecDepth 100000 in
set_option maxHeartbeats 1600000 in
theorem specIn_any (v : Value) (x : List VersionD) (t : VersionD) (w : World) (hx : FlatAt cVersion 2 w v x) :
    Calls Try.prog 33 #[v, vVersion t] w fun e w' => e = .returned (.bool (inV x t)) ∧ Below w.heap.size w w' := by
  obtain ⟨a, c, rfl, hl⟩ := flatAt_len hx
  obtain ⟨t0, t1⟩ := t
  unfold vVersion
  have HT0 := Lib.hid ((Var2.new w t0 t1 27))
  have HX := Lib.hid (FlatAt.below hx (box1 w (.cells #[.int .i64 t0, .int .i64 t1] 27)) (Nat.le_refl _))
  have HXB := Lib.hid (box1 w (.cells #[.int .i64 t0, .int .i64 t1] 27))
  clear hx
  unfold maxLen at hl
  go_enter Try.func33, Try.ntmps33
  go_wp2
  generalize w.alloc (.cells #[.int .i64 t0, .int .i64 t1] 27) = X at *
  go_loopw [6, 9] (fun _ i wr => ∃ k : Nat, k ≤ x.length ∧ i = .int .i64 k ∧ inV (x.take k) ⟨t0, t1⟩ = false ∧ Below X.heap.size X wr) (fun _ i _ => x.length - (intOf i).toNat)
  case atStart => exact ⟨0, Nat.zero_le _, rfl, rfl, Below.refl _ _⟩
  case round =>
    obtain ⟨k, hk, rfl, ht, hbr⟩ := hrel
    have HT := Lib.hid ht
    have HB := Lib.hid hbr
    have HTV := Lib.hid (HT0.out.below hbr)
    have HXr := Lib.hid (FlatAt.below HX.out hbr (Nat.le_refl _))
    clear ht hbr
    by_cases hlt : k < x.length
    · obtain ⟨b, o, rfl, hbw, hd⟩ := flatAt_cell cVersion_len HXr.out k hlt (by decide)
      have HY := Lib.hid (fun (h : x[k] = ⟨t0, t1⟩) => show inV x ⟨t0, t1⟩ = true from decide_eq_true (by rw [← h]; exact List.getElem_mem hlt))
      have HNO := Lib.hid (fun (h : x[k] ≠ ⟨t0, t1⟩) => show inV (x.take (k + 1)) ⟨t0, t1⟩ = false from by
        have h2 := HT.out
        simp only [inV, decide_eq_false_iff_not] at h2 ⊢
        rw [List.take_succ_eq_append_getElem hlt, List.mem_append]
        rintro (h3 | h3)
        · exact h2 h3
        · simp at h3; exact h h3.symm)
      generalize x[k] = p at *
      have d0 := hd 0 (by decide)
      have d1 := hd 1 (by decide)
      clear hd
      obtain ⟨p0, p1⟩ := p
      simp only [cVersion, List.getElem?_cons_zero, List.getElem?_cons_succ, Nat.add_zero] at d0 d1
      have e0 := HTV.out.c0
      have e1 := HTV.out.c1
      have hwl := HTV.out.lt
      have HB1 := Lib.hid (fun o => HB.out.trans ((box1 wr o).mono HB.out.size))
      by_cases h0 : p0 = t0
      · by_cases h1 : p1 = t1
        · subst h0 h1
          have HR := Lib.hid (HY.out rfl)
          have HBx := Lib.hid (fun o => HXB.out.trans ((HB1.out o).mono HXB.out.size))
          go_wp2_with fail
          go_ret
          exact ⟨ret_bool HR.out.symm, HBx.out _⟩
        · have HR := Lib.hid (HNO.out (fun e => h1 (by injection e)))
          subst h0
          have hne : (p1 == t1) = false := by simpa using h1
          clear h1
          go_wp2_with fail
          exact ⟨⟨k + 1, by omega, by go_num, HR.out, HB1.out _⟩, by simp [intOf]; omega⟩
      · have HR := Lib.hid (HNO.out (fun e => h0 (by injection e)))
        have hne : (p0 == t0) = false := by simpa using h0
        clear h0
        go_wp2_with fail
        exact ⟨⟨k + 1, by omega, by go_num, HR.out, HB1.out _⟩, by simp [intOf]; omega⟩
    · have HN := Lib.hid (show inV x ⟨t0, t1⟩ = false from by
        have h := HT.out
        rw [List.take_of_length_le (by omega)] at h
        exact h)
      have HB1 := Lib.hid (HXB.out.trans (HB.out.mono HXB.out.size))
      go_wp2
      go_ret
      exact ⟨ret_bool HN.out.symm, HB1.out⟩
end Go.Proofs.Ytbofplofpggdlaa
