/- Contracts of chapter 5: deals, the program's: the versions that all sides have. -/
import Derived.Test.YtbofplofpggdlaaNeg2
import Derived.Test.YtbofplofpggdlaaVer6
namespace Go.Proofs.Ytbofplofpggdlaa
set_option linter.unusedVariables false
set_option linter.unusedSimpArgs false
open Go.RowKit
theorem filter_take_succ {α : Type} (p : α → Bool) (l : List α) (k : Nat) (h : k < l.length) : (l.take (k + 1)).filter p = (l.take k).filter p ++ if p l[k] = true then [l[k]] else [] := by
  rw [List.take_succ_eq_append_getElem h, List.filter_append]
  by_cases hp : p l[k] = true
  · rw [if_pos hp, List.filter_cons_of_pos hp]; rfl
  · rw [if_neg hp, List.filter_cons_of_neg hp]; rfl
theorem comV_len {x : List OfferD} (hv : x.all offerB = true) : (comV x).length ≤ 4 := by
  cases x with
  | nil => simp [comV]
  | cons y r =>
    rw [List.all_eq_true] at hv
    have h := hv y (by simp)
    simp only [offerB, Bool.and_eq_true] at h
    exact Nat.le_trans (List.length_filter_le _ _) (versB_len h.2)
theorem append_verN {ops : Array Oper} {rest : List Oper} {o : Oper} {a : Act} {Q : Exit → Act → World → Prop} (hgd : o.guard = none) (s x : Operand)
    (ho : o.op = .call { callee := .builtin .append, args := #[s, x], argTypes := #[32, 32] }) (B : Nat) (v : Value) (l : List VersionD) (y : VersionD) (w : World) (blk : Nat)
    (hs : a.eval s = v) (hO : OwnsF cVersion 27 2 w B v l) (hx : a.eval x = .slice (some ⟨blk, 0, none⟩) 1 1) (hc : ∀ j, j < 2 → w.cell? ⟨blk, j, none⟩ = (cVersion y)[j]?) (hl : l.length ≤ 4194304) (hB : B ≤ w.heap.size)
    (h : ∀ v' w', OwnsF cVersion 27 2 w' B v' (l ++ [y]) → w.grownBy w' v.ownBlock → wpList Try.prog ops Q rest (a.put o.dst v') w') : wpList Try.prog ops Q (o :: rest) a w :=
  append_flat cVersion_len cVersion_one infoVersion rfl (by decide) (by decide) Try.underlying32 hgd s x ho B v l y w blk hs hO hx hc hl hB h
theorem ver_newN (w : World) (y : VersionD) (blk : Nat) (h : blk = w.heap.size) : ∀ j, j < 2 → (w.alloc (.cells #[.int .i64 y.fMajor, .int .i64 y.fMinor] 27)).cell? ⟨blk, j, none⟩ = (cVersion y)[j]? := by
  subst h
  intro j hj
  rw [cell_of_row _ _ _ _ 27 (0, 0) (heap_alloc_new w _)]
  simp [cVersion]
set_option maxRecDepth 100000 in
set_option maxHeartbeats 1600000 in
theorem comVers_any (v : Value) (x : List OfferD) (w : World) (hx : SliceAt rOffer 2 0 w v x) (hv : x.all offerB = true) :
    Calls Try.prog 40 #[v] w fun e w' => GivesF cVersion 27 2 (comV x) w e w' := by
  obtain ⟨a, c, rfl, hl⟩ := sliceAt_len hx
  have HO := Lib.hid (ownsF_new cVersion 27 2 w)
  have HXB := Lib.hid (box1 w (.cells #[] 27))
  cases x with
  | nil =>
    go_enter Try.func40, Try.ntmps40
    go_wp2
    go_ret
    exact ⟨_, rfl, HO.out, HXB.out⟩
  | cons y r =>
    obtain ⟨b, o, cs, rfl, hbw, hat, hd⟩ := sliceAt_cell hx 0 (by simp)
    have HX := Lib.hid hx
    have HV := Lib.hid hv
    have HL4 := Lib.hid (show y.fVersions.length ≤ 4 from by
      rw [List.all_eq_true] at hv
      have h := hv y (by simp)
      simp only [offerB, Bool.and_eq_true] at h
      exact versB_len h.2)
    simp only [List.getElem_cons_zero] at hat
    have HC := Lib.hid (show comV (y :: r) = y.fVersions.filter (allHaveB (y :: r)) from rfl)
    have hl0 : (0 : Int) < ((y :: r).length : Int) := by simp
    have hl1 : (((y :: r).length : Int) == 0) = false := by simp; omega
    generalize y :: r = x at *
    obtain ⟨a0, a1⟩ := y
    obtain ⟨x0, rfl, hr0⟩ := hat
    simp only at hr0 HC HL4
    have HR := Lib.hid (flatAt_of_slice cVersion_len (by decide) hr0)
    obtain ⟨xa, xc, rfl, _⟩ := sliceAt_len hr0
    have d0 := hd 0 (by decide)
    have d1 := hd 1 (by decide)
    simp only [List.getElem?_cons_zero, List.getElem?_cons_succ, Nat.add_zero, Nat.zero_mul] at d0 d1
    have hl4 := HL4.out
    clear hd hr0 hx hv
    unfold maxLen at hl
    go_enter Try.func40, Try.ntmps40
    go_wp2
    go_loopw [3, 5, 16] (fun sv _ i wr => ∃ k : Nat, k ≤ a0.length ∧ i = .int .i64 k ∧ OwnsF cVersion 27 2 wr w.heap.size sv ((a0.take k).filter (allHaveB x)) ∧ Below w.heap.size w wr) (fun _ _ i _ => a0.length - (intOf i).toNat)
    case atStart => exact ⟨0, Nat.zero_le _, rfl, HO.out, HXB.out⟩
    case round =>
      obtain ⟨k, hk, rfl, hO, hbr⟩ := hrel
      have HOr := Lib.hid hO
      have HB := Lib.hid hbr
      have HRr := Lib.hid (FlatAt.below HR.out hbr (Nat.le_refl _))
      have HXr := Lib.hid (SliceAt.below HX.out goodOffer hbr (Nat.le_refl _))
      have hws : w.heap.size ≤ wr.heap.size := hbr.size
      clear hO hbr
      by_cases hlt : k < a0.length
      · obtain ⟨b2, o2, e2, hbw2, hd2⟩ := flatAt_cell cVersion_len HRr.out k hlt (by decide)
        subst e2
        have HF := Lib.hid (filter_take_succ (allHaveB x) a0 k hlt)
        have HFL := Lib.hid (show ((a0.take k).filter (allHaveB x)).length ≤ 4 from Nat.le_trans (List.length_filter_le _ _) (by rw [List.length_take]; omega))
        have HI := Lib.hid (fun o => allHave_any _ x a0[k] (wr.alloc o) (HXr.out.below goodOffer (box1 wr o) (Nat.le_refl _)) HV.out)
        have q0 := hd2 0 (by decide)
        have q1 := hd2 1 (by decide)
        generalize a0[k] = p at *
        generalize (a0.take k).filter (allHaveB x) = F at *
        obtain ⟨p0, p1⟩ := p
        simp only [cVersion, vVersion, List.getElem?_cons_zero, List.getElem?_cons_succ, Nat.add_zero] at q0 q1 HI
        generalize allHaveB x ⟨p0, p1⟩ = ob at *
        clear hd2
        cases ob with
        | false =>
          go_wp2_with fail
          refine (HI.out _).mono ?_
          rintro e w1 ⟨rfl, hb⟩
          have HB1 := Lib.hid (HB.out.trans ((bel_to (box1 wr _) hb).mono HB.out.size))
          have HO1 := Lib.hid (ownsF_below HOr.out (bel_to (box1 wr _) hb) (Nat.le_refl _))
          clear hb
          go_wp2_with fail
          exact ⟨⟨k + 1, by omega, by go_num, by rw [HF.out]; simpa using HO1.out, HB1.out⟩, by simp [intOf]; omega⟩
        | true =>
          go_wp2_with fail
          refine (HI.out _).mono ?_
          rintro e w1 ⟨rfl, hb⟩
          have HB1 := Lib.hid (HB.out.trans ((bel_to (box1 wr _) hb).mono HB.out.size))
          have HO1 := Lib.hid (ownsF_below HOr.out (bel_to (box1 wr _) hb) (Nat.le_refl _))
          have V1 := Lib.hid ((Var2.new wr p0 p1 27).below hb)
          have hws1 : w.heap.size ≤ w1.heap.size := HB1.out.size
          have HO2 := Lib.hid (ownsF_alloc HO1.out (.cells #[.int .i64 p0, .int .i64 p1] 27))
          have HB2 := Lib.hid (HB1.out.alloc hws1 (.cells #[.int .i64 p0, .int .i64 p1] 27))
          have e0 := V1.out.c0
          have e1 := V1.out.c1
          have hFL := HFL.out
          clear hb
          go_wp2_with (at_builtin; (refine append_verN rfl _ _ rfl w.heap.size u3 F ⟨p0, p1⟩ _ w1.heap.size rfl HO2.out rfl (ver_newN w1 ⟨p0, p1⟩ _ rfl) (by omega) (by simp; omega) ?_; intro v' w3 hO4 hg4))
          exact ⟨⟨k + 1, by omega, by go_num, by rw [HF.out]; simpa using hO4, below_appendF HB2.out HO2.out hg4 HB2.out.size⟩, by simp [intOf]; omega⟩
      · have HN := Lib.hid (show (a0.take k).filter (allHaveB x) = comV x from by rw [List.take_of_length_le (by omega), HC.out])
        rw [HN.out] at HOr
        go_wp2
        go_ret
        exact ⟨_, rfl, HOr.out, HB.out⟩
end Go.Proofs.Ytbofplofpggdlaa
