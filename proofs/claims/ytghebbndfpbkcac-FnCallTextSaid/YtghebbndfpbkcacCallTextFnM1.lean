/- Contracts of chapter 3: the model's FormatCells. -/
import Derived.Test.YtghebbndfpbkcacCallTextFnM0
import Derived.Test.YtghebbndfpbkcacShelf
import Derived.Lib.IndexMore
import Derived.Lib.IndexLaws
import Derived.Lib.SlicesCompact
import Derived.StillTailTactics
import Derived.Sort.Walk0
import Derived.Deep.AppendLies
import Derived.Test.YtghebbndfpbkcacProg
import Derived.Deep.RegionHeld3
/- Contracts of chapter 3: the model's IsCells. -/
namespace Go.Proofs.Ytghebbndfpbkcac
set_option linter.unusedVariables false
open Go.RowKit
theorem specIsName_q (l : List UInt8) (x : Bool) (h : nameB l = x) (hs : l.length ≤ maxLen) (w : World) :
    Calls Try.prog 62 #[.string ⟨l.toArray⟩] w fun e w' => e = .returned (.bool x) ∧ w' = w := (specIsName_b l x h hs w).mono fun _ _ ⟨h1, h2⟩ => ⟨h1, h2.symm⟩
set_option maxRecDepth 100000 in
set_option maxHeartbeats 1600000 in
theorem specIsCells_any (v : Value) (l : List CellD) (w : World) (hx : FlatAt cCell 2 w v l) (hs : ∀ d ∈ l, d.fKey.length ≤ maxLen) :
    Calls Try.prog 23 #[v] w fun e w' => e = .returned (.bool (cellsB l)) ∧ Below w.heap.size w w' := by
  obtain ⟨a, c, rfl, hl⟩ := flatAt_len hx
  have HX := Lib.hid hx
  have HS := Lib.hid hs
  clear hx hs
  unfold maxLen at hl
  go_enter Try.func23, Try.ntmps23
  go_wp2_with fail
  go_loopw [3, 4, 7] (fun _ _ i wr => ∃ k : Nat, k ≤ l.length ∧ i = .int .i64 k ∧ okTo l k = true ∧ Below w.heap.size w wr) (fun _ _ i _ => l.length - (intOf i).toNat)
  case atStart => exact ⟨0, Nat.zero_le _, rfl, rfl, Below.refl _ _⟩
  case round =>
    obtain ⟨k, hk, rfl, hok, hb⟩ := hrel
    have HO := Lib.hid hok
    have HB := Lib.hid hb
    have HXr := Lib.hid (FlatAt.below HX.out hb (Nat.le_refl _))
    clear hok hb
    by_cases hlt : k < l.length
    · obtain ⟨b, o, rfl, hbl, hd⟩ := flatAt_cell cCell_len HXr.out k hlt (by decide)
      have d0 := hd 0 (by decide)
      have d1 := hd 1 (by decide)
      clear hd
      have HA := Lib.hid (okAt_of l k hlt)
      have HBAD := Lib.hid (fun h => cellsB_bad l k hlt h)
      have HNX := Lib.hid (show okAt l k = true → okTo l (k + 1) = true from fun h => by rw [okTo_succ, HO.out, h]; rfl)
      have HNM := Lib.hid (specIsName_q (l[k]).fKey)
      have hlen := HS.out (l[k]) (List.getElem_mem hlt)
      have HBB := Lib.hid (show ∀ o1, Below w.heap.size w (wr.alloc o1) from fun o1 => HB.out.alloc HB.out.size _)
      cases hx : nameB (l[k]).fKey with
      | false =>
        have HR := Lib.hid (HBAD.out (by rw [HA.out _ _ _ hx rfl rfl]; rfl))
        have HN := Lib.hid (HNM.out _ hx hlen)
        clear hx
        generalize l[k] = p at *
        obtain ⟨a0, a1⟩ := p
        simp only [cCell, List.getElem?_cons_zero, List.getElem?_cons_succ, Nat.add_zero] at d0 d1
        go_wp2_with fail
        go_quiet ((go_at_call 62; exact Calls.quiet_of_same (HN.out _)))
        go_wp2_with fail
        go_ret
        exact ⟨ret_bool HR.out.symm, below_drewN (HBB.out _) _⟩
      | true =>
        have HN := Lib.hid (HNM.out _ hx hlen)
        by_cases hv : (l[k]).fValue < 0
        · have HR := Lib.hid (HBAD.out (by rw [HA.out _ _ _ hx (show numB _ = false by simp [numB]; omega) rfl]; rfl))
          clear hx
          generalize l[k] = p at *
          obtain ⟨a0, a1⟩ := p
          simp only [cCell, List.getElem?_cons_zero, List.getElem?_cons_succ, Nat.add_zero] at d0 d1 hv
          go_wp2_with fail
          go_quiet ((go_at_call 62; exact Calls.quiet_of_same (HN.out _)))
          go_wp2_with fail
          go_ret
          exact ⟨ret_bool HR.out.symm, below_drewN (HBB.out _) _⟩
        · by_cases hv2 : 999 < (l[k]).fValue
          · have HR := Lib.hid (HBAD.out (by rw [HA.out _ _ _ hx (show numB _ = false by simp [numB]; omega) rfl]; rfl))
            clear hx
            generalize l[k] = p at *
            obtain ⟨a0, a1⟩ := p
            simp only [cCell, List.getElem?_cons_zero, List.getElem?_cons_succ, Nat.add_zero] at d0 d1 hv hv2
            have hvd : decide (a1 < 0) = false := by simpa using hv
            go_wp2_with fail
            go_quiet ((go_at_call 62; exact Calls.quiet_of_same (HN.out _)))
            go_wp2_with fail
            go_ret
            exact ⟨ret_bool HR.out.symm, below_drewN (HBB.out _) _⟩
          · have hy : numB (l[k]).fValue = true := by simp [numB]; omega
            by_cases h0 : 0 < k
            · have hk1 : k - 1 < l.length := by omega
              obtain ⟨b', o', e', _, hd'⟩ := flatAt_cell cCell_len HXr.out (k - 1) hk1 (by decide)
              injection e' with e'
              injection e' with e1 e2
              subst e1 e2
              have q0 := hd' 0 (by decide)
              clear hd'
              have hg0 : (0 : Int) < (k : Int) := by omega
              have hk2 : (0 : Int) ≤ (k : Int) - 1 := by omega
              have hk3 : (k : Int) - 1 < (l.length : Int) := by omega
              cases hz : Op.bytesLess (l.getD (k - 1) default).fKey (l[k]).fKey with
              | false =>
                have HR := Lib.hid (HBAD.out (by rw [HA.out _ _ _ hx hy rfl, hz]; simp; omega))
                rw [getD_at l (k - 1) hk1] at hz
                clear hx hy
                generalize l[k] = p at *
                generalize l[k - 1] = q at *
                obtain ⟨a0, a1⟩ := p
                obtain ⟨b0, b1⟩ := q
                simp only [cCell, List.getElem?_cons_zero, List.getElem?_cons_succ, Nat.add_zero] at d0 d1 q0 hz hv hv2
                have hvd : decide (a1 < 0) = false := by simpa using hv
                have hvd2 : decide (999 < a1) = false := by simpa using hv2
                go_wp2_with fail
                go_quiet ((go_at_call 62; exact Calls.quiet_of_same (HN.out _)))
                go_wp2_with fail
                go_ret
                exact ⟨ret_bool HR.out.symm, below_drewN (HBB.out _) _⟩
              | true =>
                have HR := Lib.hid (HNX.out (by rw [HA.out _ _ _ hx hy rfl, hz]; simp))
                rw [getD_at l (k - 1) hk1] at hz
                clear hx hy
                generalize l[k] = p at *
                generalize l[k - 1] = q at *
                obtain ⟨a0, a1⟩ := p
                obtain ⟨b0, b1⟩ := q
                simp only [cCell, List.getElem?_cons_zero, List.getElem?_cons_succ, Nat.add_zero] at d0 d1 q0 hz hv hv2
                have hvd : decide (a1 < 0) = false := by simpa using hv
                have hvd2 : decide (999 < a1) = false := by simpa using hv2
                go_wp2_with fail
                go_quiet ((go_at_call 62; exact Calls.quiet_of_same (HN.out _)))
                go_wp2_with fail
                exact ⟨⟨k + 1, by omega, by go_num, HR.out, below_drewN (HBB.out _) _⟩, by simp [intOf]; omega⟩
            · have HR := Lib.hid (HNX.out (by rw [HA.out _ _ _ hx hy rfl, show decide (k = 0) = true by simp; omega]; rfl))
              have hg0 : decide ((0 : Int) < (k : Int)) = false := by simp; omega
              clear hx hy
              generalize l[k] = p at *
              obtain ⟨a0, a1⟩ := p
              simp only [cCell, List.getElem?_cons_zero, List.getElem?_cons_succ, Nat.add_zero] at d0 d1 hv hv2
              have hvd : decide (a1 < 0) = false := by simpa using hv
              have hvd2 : decide (999 < a1) = false := by simpa using hv2
              go_wp2_with fail
              go_quiet ((go_at_call 62; exact Calls.quiet_of_same (HN.out _)))
              go_wp2_with fail
              exact ⟨⟨k + 1, by omega, by go_num, HR.out, below_drewN (HBB.out _) _⟩, by simp [intOf]; omega⟩
    · have HN := Lib.hid (show cellsB l = decide (l.length ≤ 4) from by
        have h := HO.out
        rw [show k = l.length by omega] at h
        exact cellsB_end l h)
      by_cases h4 : l.length ≤ 4
      · rw [show decide (l.length ≤ 4) = true by simpa using h4] at HN
        go_wp2_with fail
        go_ret
        exact ⟨ret_bool (by rw [HN.out]; simp; omega), HB.out⟩
      · rw [show decide (l.length ≤ 4) = false by simpa using h4] at HN
        go_wp2_with fail
        go_ret
        exact ⟨ret_bool (by rw [HN.out]; simp; omega), HB.out⟩
end Go.Proofs.Ytghebbndfpbkcac
/- Contracts of chapter 3: IsCore, the program's and the model's. -/
namespace Go.Proofs.Ytghebbndfpbkcac
set_option linter.unusedVariables false
open Go.RowKit
theorem off_fin : ∀ a : Fin 64, ∀ k : Fin 6, offersF ((a : Nat) : Int) (2 ^ (k : Nat)) = hasI ((a : Nat) : Int) (k : Nat) := by decide +kernel
theorem off_has {f : Int} (hf : isF f = true) (k : Nat) (hk : k < 6) : offersF f (2 ^ k) = hasI f k := by
  obtain ⟨a, rfl⟩ := isF_fin hf
  exact off_fin a ⟨k, hk⟩
/-- the kind, or -1, of a core; its face -/
def coreF (d : CoreD) : Int := kfI (kindI d.fKind)
def coreB (d : CoreD) : Bool := decide (0 ≤ kindI d.fKind) && cellsB d.fCells && (decide (d.fCells.length = 0) || hasI (coreF d) 1) && (!(d.fOn || d.fBroken) || hasI (coreF d) 0) && numB d.fCount && !(d.fOn && d.fBroken)
theorem kindOff_has (l : List UInt8) (h : decide (0 ≤ kindI l) = true) (k : Nat) (hk : k < 6) : kindOff l (2 ^ k) = hasI (kfI (kindI l)) k := by
  unfold kindOff; rw [h, Bool.true_and, off_has (kfI_face _) k hk]
theorem implKind_b (l : List UInt8) (x : Bool) (h : decide (0 ≤ kindI l) = x) (w : World) :
    Calls Try.prog 160 #[.string ⟨l.toArray⟩] w fun e w' => e = .returned (.tuple #[.int .i64 (kfI (kindI l)), .bool x]) ∧ w = w' := by
  subst h; exact implKind_any ⟨l.toArray⟩ w
theorem specKind_b (l : List UInt8) (x : Bool) (h : decide (0 ≤ kindI l) = x) (w : World) :
    Calls Try.prog 127 #[.string ⟨l.toArray⟩] w fun e w' => e = .returned (.tuple #[.int .i64 (kfI (kindI l)), .bool x]) ∧ Below w.heap.size w w' := by
  subst h; exact specKind_any ⟨l.toArray⟩ w
set_option maxRecDepth 100000 in
set_option maxHeartbeats 6400000 in
theorem implIsCore_any (v : Value) (d : CoreD) (w : World) (hx : CoreAt w v d) (hs : ∀ c ∈ d.fCells, c.fKey.length ≤ maxLen) :
    Calls Try.prog 181 #[v] w fun e w' => e = .returned (.bool (coreB d)) ∧ Below w.heap.size w w' := by
  obtain ⟨cv, rfl, hx⟩ := hx
  have HKD := Lib.hid (implKind_b d.fKind)
  have HOF := Lib.hid (kindOff_has d.fKind)
  have HKO := Lib.hid (kindOffers_b d.fKind)
  have HNU := Lib.hid (isNumber_b d.fCount)
  have HR := Lib.hid (show coreB d = (decide (0 ≤ kindI d.fKind) && cellsB d.fCells && (decide (d.fCells.length = 0) || hasI (kfI (kindI d.fKind)) 1) && (!(d.fOn || d.fBroken) || hasI (kfI (kindI d.fKind)) 0) && numB d.fCount && !(d.fOn && d.fBroken)) from rfl)
  generalize coreB d = res at *
  obtain ⟨kd, on, br, l, cnt⟩ := d
  unfold vCore
  simp only at *
  obtain ⟨a, c, rfl, hl⟩ := flatAt_len hx
  unfold maxLen at hl
  have HB0 := Lib.hid (show ∀ o, Below w.heap.size w (w.alloc o) from fun o => (Below.refl w.heap.size w).alloc (Nat.le_refl _) o)
  have HIC := Lib.hid (fun o => implIsCells_any _ l (w.alloc o) (hx.below (HB0.out o) (Nat.le_refl _)) hs)
  clear hx hs
  have HF := Lib.hid (show decide (0 ≤ kindI kd) = true → (∀ w, Calls Try.prog 187 #[.string ⟨kd.toArray⟩, .int .i64 2] w fun e w' => e = .returned (.bool (hasI (kfI (kindI kd)) 1)) ∧ w = w') ∧ ∀ w, Calls Try.prog 187 #[.string ⟨kd.toArray⟩, .int .i64 1] w fun e w' => e = .returned (.bool (hasI (kfI (kindI kd)) 0)) ∧ w = w' from fun h => ⟨HKO.out 2 _ (HOF.out h 1 (by decide)), HKO.out 1 _ (HOF.out h 0 (by decide))⟩)
  generalize hasI (kfI (kindI kd)) 1 = h1 at *
  generalize hasI (kfI (kindI kd)) 0 = h0 at *
  generalize numB cnt = nb at *
  have HNB := Lib.hid (HNU.out _ rfl)
  cases hk : decide (0 ≤ kindI kd) with
  | false =>
    have HK := Lib.hid (HKD.out _ hk)
    rw [hk] at HR
    clear hk HNU HKD HKO HOF HF
    go_enter Try.func181, Try.ntmps181
    go_wp2_with fail
    refine (HK.out _).mono ?_
    rintro e w1 ⟨rfl, rfl⟩
    go_wp2_with fail
    go_ret
    exact ⟨ret_bool HR.out.symm, HB0.out _⟩
  | true =>
    have HK := Lib.hid (HKD.out _ hk)
    have HK2 := Lib.hid (HF.out hk).1
    have HK1 := Lib.hid (HF.out hk).2
    rw [hk] at HR
    clear hk HNU HKD HKO HOF HF
    generalize cellsB l = cb at *
    go_enter Try.func181, Try.ntmps181
    go_wp2_with fail
    refine (HK.out _).mono ?_
    rintro e w1 ⟨rfl, rfl⟩
    go_wp2_with fail
    refine (HIC.out _).mono ?_
    rintro e w1 ⟨rfl, hb⟩
    have HB := Lib.hid ((HB0.out _).trans (hb.mono (HB0.out _).size))
    obtain ⟨hcc, _⟩ := bcell hb
    simp at hcc
    clear hb
    cases cb with
    | false =>
      go_wp2_with fail
      go_ret
      exact ⟨ret_bool (by rw [HR.out]; rfl), HB.out⟩
    | true =>
      by_cases hn : 0 < l.length
      · have hg : decide ((0 : Int) < (l.length : Int)) = true := decide_eq_true (by omega)
        rw [show decide (l.length = 0) = false from decide_eq_false (by omega)] at HR
        cases h1 with
        | false =>
          go_wp2_with (first | (go_at_call 187; (with_reducible refine (HK2.out _).mono ?_); rintro e w' ⟨rfl, rfl⟩))
          go_ret
          exact ⟨ret_bool (by rw [HR.out]; rfl), HB.out⟩
        | true =>
          cases on <;> cases br <;> cases h0 <;> cases nb
          all_goals
            go_wp2_with (first | (go_at_call 187; (with_reducible refine (HK2.out _).mono ?_); rintro e w' ⟨rfl, rfl⟩) | (go_at_call 187; (with_reducible refine (HK1.out _).mono ?_); rintro e w' ⟨rfl, rfl⟩) | (go_at_call 61; (with_reducible refine (HNB.out _).mono ?_); rintro e w' ⟨rfl, rfl⟩))
            go_ret
            exact ⟨ret_bool (by rw [HR.out]; rfl), HB.out⟩
      · have hg : decide ((0 : Int) < (l.length : Int)) = false := decide_eq_false (by omega)
        rw [show decide (l.length = 0) = true from decide_eq_true (by omega)] at HR
        have hg2 : (l.length : Int) ≤ 0 := by omega
        clear hn
        cases on <;> cases br <;> cases h0 <;> cases nb
        all_goals
          go_wp2_with (first | (go_at_call 187; (with_reducible refine (HK1.out _).mono ?_); rintro e w' ⟨rfl, rfl⟩) | (go_at_call 61; (with_reducible refine (HNB.out _).mono ?_); rintro e w' ⟨rfl, rfl⟩))
          go_ret
          exact ⟨ret_bool (by rw [HR.out]; rfl), HB.out⟩
end Go.Proofs.Ytghebbndfpbkcac
/- SplitAt, the model's and the program's. -/
namespace Go.Proofs.Ytghebbndfpbkcac
set_option linter.unusedVariables false
open Go.RowKit
/-- the parts of l between the occurrences of sep (sep is not empty), by at most so many cuts -/
def splitF (sep : List UInt8) : Nat → List UInt8 → List (List UInt8)
  | 0, l => [l]
  | f + 1, l => if Lib.index l sep < 0 then [l] else l.take (Lib.index l sep).toNat :: splitF sep f (l.drop ((Lib.index l sep).toNat + sep.length))
def splitL (l sep : List UInt8) : List (List UInt8) := if sep = [] then [l] else splitF sep (l.length + 1) l
theorem splitF_none {sep l : List UInt8} (f : Nat) (h : Lib.index l sep < 0) : splitF sep f l = [l] := by
  cases f with
  | zero => rfl
  | succ f => simp [splitF, h]
theorem splitF_some {sep l : List UInt8} (f i : Nat) (h : Lib.index l sep = i) : splitF sep (f + 1) l = l.take i :: splitF sep f (l.drop (i + sep.length)) := by
  have : ¬ (i : Int) < 0 := by omega
  simp [splitF, h, this]
/-- a cut at place i of the text, the first one from place a on -/
theorem index_at {l sep : List UInt8} {a i : Nat} (hai : a ≤ i) (hi : i ≤ l.length) (hno : ∀ j, a ≤ j → j < i → Lib.occAt l sep j = false) (ho : Lib.occAt l sep i = true) : Lib.index (l.drop a) sep = ((i - a : Nat) : Int) := by
  refine Lib.index_first (by simp; omega) ?_ ?_
  · unfold Lib.occAt at *; rw [List.drop_drop, show a + (i - a) = i from by omega]; exact ho
  · intro j hj
    have := hno (a + j) (by omega) (by omega)
    unfold Lib.occAt at *; rw [List.drop_drop]; exact this
theorem index_end {l sep : List UInt8} {a i : Nat} (hs0 : 0 < sep.length) (hai : a ≤ i) (hil : l.length < i + sep.length) (hno : ∀ j, a ≤ j → j < i → Lib.occAt l sep j = false) : Lib.index (l.drop a) sep < 0 := by
  have : Lib.index (l.drop a) sep = -1 := by
    refine Lib.index_none fun j hj => ?_
    unfold Lib.occAt; rw [List.drop_drop]
    rcases Nat.lt_or_ge (a + j) i with h | h
    · exact hno (a + j) (by omega) h
    · cases hp : sep.isPrefixOf (l.drop (a + j)) with
      | false => rfl
      | true =>
        have := (List.isPrefixOf_iff_prefix.1 hp).length_le
        rw [List.length_drop] at this; omega
  omega
theorem extract_eq (s : ByteArray) (a b : Nat) : (s.extract a b).data.toList = (s.data.toList.drop a).take (b - a) := by
  rw [Lib.extract_data]
theorem occAt_iff (l sep : List UInt8) (i : Nat) (h : i + sep.length ≤ l.length) : Lib.occAt l sep i = decide ((l.drop i).take sep.length = sep) := by
  unfold Lib.occAt
  rw [Bool.eq_iff_iff, List.isPrefixOf_iff_prefix, decide_eq_true_iff, List.prefix_iff_eq_take]
  exact ⟨fun h => h.symm, fun h => h.symm⟩
set_option maxRecDepth 100000 in
set_option maxHeartbeats 800000 in
theorem specSplit_empty (s sep : ByteArray) (w : World) (hs : s.size ≤ 1048576) (h0 : sep.size = 0) :
    Calls Try.prog 119 #[.string s, .string sep] w fun e w' => GivesRow (splitL s.data.toList sep.data.toList) w e w' := by
  have hl : sep.data.toList = [] := List.eq_nil_of_length_eq_zero (by rw [size_list]; exact h0)
  have hE : sep.toList.isEmpty = true := by rw [Lib.toList_data, hl]; rfl
  have HL := Lib.hid (show splitL s.data.toList sep.data.toList = [s.data.toList] by simp [splitL, hl])
  have HO := Lib.hid (owns_new w)
  clear h0 hl
  go_enter Try.func119, Try.ntmps119
  go_wp2_with fail
  refine wp_loop_rounds 1 ?_
  rw [rounds_succ]
  go_wp2_with (at_builtin; refine append_strs rfl _ _ rfl w.heap.size _ [] s.data.toList _ (w.heap.size + 1) rfl (owns_alloc HO.out _) rfl (cell_newS _ _ _ _ (by simp)) (by simp) (by simp; omega) ?_; intro v' w1 hO1 hg1)
  go_ret
  exact ⟨v', rfl, by rw [HL.out]; exact hO1, below_append (((Below.refl w.heap.size w).alloc (Nat.le_refl _) _).alloc (by simp) _) (owns_alloc HO.out _) hg1 (by simp; omega)⟩
/-- the invariant of the model's scan -/
def ScanInv (l sep : List UInt8) (acc : List (List UInt8)) (a i : Nat) : Prop :=
  a ≤ i ∧ i ≤ l.length ∧ (∀ j, a ≤ j → j < i → Lib.occAt l sep j = false) ∧ acc.length ≤ a ∧ ∃ f, acc ++ splitF sep f (l.drop a) = splitL l sep ∧ l.length - a < f
theorem scan_start (l sep : List UInt8) (h : sep ≠ []) : ScanInv l sep [] 0 0 :=
  ⟨Nat.le_refl _, Nat.zero_le _, fun j _ h => absurd h (by omega), Nat.zero_le _, l.length + 1, by simp [splitL, h], by omega⟩
theorem scan_skip {l sep : List UInt8} {acc : List (List UInt8)} {a i : Nat} (h : ScanInv l sep acc a i) (hi : i + sep.length ≤ l.length) (h0 : 0 < sep.length) (hno : Lib.occAt l sep i = false) : ScanInv l sep acc a (i + 1) := by
  obtain ⟨h1, h2, h3, h4, h5⟩ := h
  refine ⟨by omega, by omega, fun j hj hj2 => ?_, h4, h5⟩
  rcases Nat.lt_or_ge j i with h | h
  · exact h3 j hj h
  · rw [show j = i by omega]; exact hno
theorem scan_cut {l sep : List UInt8} {acc : List (List UInt8)} {a i : Nat} (h : ScanInv l sep acc a i) (hi : i + sep.length ≤ l.length) (h0 : 0 < sep.length) (ho : Lib.occAt l sep i = true) : ScanInv l sep (acc ++ [(l.drop a).take (i - a)]) (i + sep.length) (i + sep.length) := by
  obtain ⟨h1, h2, h3, h4, f, h5, h6⟩ := h
  refine ⟨Nat.le_refl _, hi, fun j hj hj2 => absurd hj2 (by omega), by simp; omega, ?_⟩
  cases f with
  | zero => omega
  | succ f =>
    rw [splitF_some f (i - a) (index_at h1 h2 h3 ho), List.drop_drop, show a + (i - a + sep.length) = i + sep.length by omega] at h5
    exact ⟨f, by rw [← h5]; simp, by omega⟩
theorem scan_end {l sep : List UInt8} {acc : List (List UInt8)} {a i : Nat} (h : ScanInv l sep acc a i) (hi : l.length < i + sep.length) (h0 : 0 < sep.length) : acc ++ [l.drop a] = splitL l sep := by
  obtain ⟨h1, h2, h3, h4, f, h5, h6⟩ := h
  rw [← h5, splitF_none f (index_end h0 h1 hi h3)]
set_option maxRecDepth 100000 in
set_option maxHeartbeats 800000 in
theorem specSplit_some (s sep : ByteArray) (w : World) (hs : s.size ≤ 1048576) (h0 : 0 < sep.size) (hsep : sep.size ≤ 1048576) :
    Calls Try.prog 119 #[.string s, .string sep] w fun e w' => GivesRow (splitL s.data.toList sep.data.toList) w e w' := by
  have hne : sep.data.toList ≠ [] := by intro h; rw [← size_list, h] at h0; simp at h0
  have hE : sep.toList.isEmpty = false := by rw [Lib.toList_data]; cases hh : sep.data.toList with | nil => exact absurd hh hne | cons a b => rfl
  have HO := Lib.hid (owns_new w)
  have HS := Lib.hid (scan_start s.data.toList sep.data.toList hne)
  have HL1 := Lib.hid (size_list s)
  have HL2 := Lib.hid (size_list sep)
  clear hne
  go_enter Try.func119, Try.ntmps119
  go_wp2_with fail
  go_loopw [5, 6, 7] (fun ov fv iv wr => ∃ (a i : Nat) (acc : List (List UInt8)), fv = .int .i64 a ∧ iv = .int .i64 i ∧ ScanInv s.data.toList sep.data.toList acc a i ∧ Owns wr w.heap.size ov acc ∧ Below w.heap.size w wr) (fun _ _ iv _ => s.size + 1 - (intOf iv).toNat)
  case atStart => exact ⟨0, 0, [], rfl, rfl, HS.out, HO.out, (Below.refl _ _).alloc (Nat.le_refl _) _⟩
  case round =>
    obtain ⟨a, i, acc, rfl, rfl, hinv, hO, hb⟩ := hrel
    have ⟨i1, i2, _, i4, _⟩ := hinv
    rw [HL1.out] at i2
    have HI := Lib.hid hinv
    have HO2 := Lib.hid hO
    have HB := Lib.hid hb
    clear hinv hO hb
    by_cases hin : i + sep.size ≤ s.size
    · have HE := Lib.hid (extract_eq s i (i + sep.size))
      by_cases ho : Lib.occAt s.data.toList sep.data.toList i = true
      · have heq : ((s.extract i (i + sep.size)).toList == sep.toList) = true := by
          rw [Lib.toList_data, Lib.toList_data, beq_iff_eq, HE.out]
          rw [occAt_iff _ _ _ (by rw [HL1.out, HL2.out]; exact hin), decide_eq_true_iff, HL2.out] at ho
          rw [show i + sep.size - i = sep.size by omega]; exact ho
        have HC := Lib.hid (scan_cut HI.out (by rw [HL1.out, HL2.out]; exact hin) (by rw [HL2.out]; exact h0) ho)
        clear ho
        go_wp2_with (at_builtin; refine append_strs rfl _ _ rfl w.heap.size _ acc ((s.data.toList.drop a).take (i - a)) _ wr.heap.size rfl (owns_alloc HO2.out _) rfl (by rw [cell_newS _ _ _ _ rfl, extract_eq]) (by omega) (by have := HB.out.size; simp; omega) ?_; intro v' w1 hO1 hg1)
        exact ⟨⟨i + sep.size, i + sep.size, acc ++ [(s.data.toList.drop a).take (i - a)], by go_num, by go_num, by have := HC.out; rwa [HL2.out] at this, hO1, below_append (HB.out.alloc HB.out.size _) (owns_alloc HO2.out _) hg1 (by have := HB.out.size; simp; omega)⟩, by simp [intOf]; omega⟩
      · have heq : ((s.extract i (i + sep.size)).toList == sep.toList) = false := by
          rw [Lib.toList_data, Lib.toList_data, beq_eq_false_iff_ne, HE.out]
          rw [occAt_iff _ _ _ (by rw [HL1.out, HL2.out]; exact hin), decide_eq_true_iff, HL2.out] at ho
          rw [show i + sep.size - i = sep.size by omega]; exact ho
        have HC := Lib.hid (scan_skip HI.out (by rw [HL1.out, HL2.out]; exact hin) (by rw [HL2.out]; exact h0) (by simpa using ho))
        clear ho
        go_wp2_with fail
        exact ⟨⟨a, i + 1, acc, rfl, by go_num, HC.out, HO2.out, HB.out⟩, by simp [intOf]; omega⟩
    · have HC := Lib.hid (scan_end HI.out (by rw [HL1.out, HL2.out]; omega) (by rw [HL2.out]; exact h0))
      go_wp2_with (at_builtin; refine append_strs rfl _ _ rfl w.heap.size _ acc (s.data.toList.drop a) _ wr.heap.size rfl (owns_alloc HO2.out _) rfl (by rw [cell_newS _ _ _ _ rfl, Lib.extract_to_end]) (by omega) (by have := HB.out.size; simp; omega) ?_; intro v' w1 hO1 hg1)
      go_ret
      exact ⟨v', rfl, by have := HC.out; rw [← this]; exact hO1, below_append (HB.out.alloc HB.out.size _) (owns_alloc HO2.out _) hg1 (by have := HB.out.size; simp; omega)⟩
theorem specSplit_any (s sep : ByteArray) (w : World) (hs : s.size ≤ 1048576) (hsep : sep.size ≤ 1048576) :
    Calls Try.prog 119 #[.string s, .string sep] w fun e w' => GivesRow (splitL s.data.toList sep.data.toList) w e w' := by
  by_cases h0 : sep.size = 0
  · exact specSplit_empty s sep w hs h0
  · exact specSplit_some s sep w hs (by omega) hsep
theorem owns_one (w : World) (B : Nat) (s : ByteArray) (h : B ≤ w.heap.size) : Owns (w.alloc (.cells #[.string s] 9)) B (.slice (some ⟨w.heap.size, 0, none⟩) 1 1) [s.data.toList] :=
  ⟨rfl, .inr ⟨w.heap.size, 1, #[.string s], rfl, h, heap_alloc_new w _, Nat.le_refl _, by decide, rfl, by simp [strV]⟩⟩
def strLen : Value → Nat
  | .string t => t.size
  | _ => 0
def CutInv (l sep t : List UInt8) (acc : List (List UInt8)) : Prop := ∃ f, acc ++ splitF sep f t = splitL l sep ∧ t.length < f
theorem cut_start (l sep : List UInt8) (h : sep ≠ []) : CutInv l sep l [] := ⟨l.length + 1, by simp [splitL, h], by omega⟩
theorem cut_next {l sep t : List UInt8} {acc : List (List UInt8)} (h : CutInv l sep t acc) (i : Nat) (hi : Lib.index t sep = i) (h0 : 0 < sep.length) (hr : i + sep.length ≤ t.length) : CutInv l sep (t.drop (i + sep.length)) (acc ++ [t.take i]) := by
  obtain ⟨f, h1, h2⟩ := h
  cases f with
  | zero => omega
  | succ f =>
    rw [splitF_some f i hi] at h1
    exact ⟨f, by rw [← h1]; simp, by simp; omega⟩
theorem cut_end {l sep t : List UInt8} {acc : List (List UInt8)} (h : CutInv l sep t acc) (hi : Lib.index t sep < 0) : acc ++ [t] = splitL l sep := by
  obtain ⟨f, h1, h2⟩ := h
  rw [← h1, splitF_none f hi]
set_option maxRecDepth 100000 in
set_option maxHeartbeats 800000 in
theorem implSplit_empty (s sep : ByteArray) (w : World) (hs : s.size ≤ 1048576) (h0 : sep.size = 0) :
    Calls Try.prog 100 #[.string s, .string sep] w fun e w' => GivesRow (splitL s.data.toList sep.data.toList) w e w' := by
  have hl : sep.data.toList = [] := List.eq_nil_of_length_eq_zero (by rw [size_list]; exact h0)
  have hE : sep.toList = [] := by rw [Lib.toList_data, hl]
  have HL := Lib.hid (show splitL s.data.toList sep.data.toList = [s.data.toList] by simp [splitL, hl])
  clear h0 hl
  go_enter Try.func100, Try.ntmps100
  go_wp2_with fail
  refine (copyText_any s w (by omega)).mono ?_
  rintro e w1 ⟨rfl, hb⟩
  go_wp2_with fail
  go_ret
  refine ⟨_, rfl, ?_, hb.alloc hb.size _⟩
  rw [HL.out]
  exact owns_one w1 w.heap.size s hb.size
set_option maxRecDepth 100000 in
set_option maxHeartbeats 800000 in
theorem implSplit_some (s sep : ByteArray) (m : Int) (w : World) (hm : w.cell? ⟨0, 0, none⟩ = some (.int .i64 m)) (hs : s.size ≤ 1048576) (h0 : 0 < sep.size) (hsep : sep.size ≤ 1048576) :
    Calls Try.prog 100 #[.string s, .string sep] w fun e w' => GivesRow (splitL s.data.toList sep.data.toList) w e w' := by
  have hne : sep.data.toList ≠ [] := by intro h; rw [← size_list, h] at h0; simp at h0
  have hE : sep.toList.isEmpty = false := by rw [Lib.toList_data]; cases hh : sep.data.toList with | nil => exact absurd hh hne | cons a b => rfl
  have HO := Lib.hid (owns_new w)
  have HS := Lib.hid (cut_start s.data.toList sep.data.toList hne)
  have HL2 := Lib.hid (size_list sep)
  have HM := Lib.hid hm
  have HG := Lib.hid (World.block_lt_of_cell? w _ hm)
  clear hne hm
  go_enter Try.func100, Try.ntmps100
  go_wp2_with fail
  go_loopw [0, 5, 6] (fun sv ov _ wr => ∃ (t : ByteArray) (acc : List (List UInt8)), sv = .string t ∧ CutInv s.data.toList sep.data.toList t.data.toList acc ∧ acc.length + t.size ≤ s.size ∧ Owns wr w.heap.size ov acc ∧ Below w.heap.size w wr) (fun sv _ _ _ => strLen sv)
  case atStart => exact ⟨s, [], rfl, HS.out, by simp, HO.out, (Below.refl _ _).alloc (Nat.le_refl _) _⟩
  case round =>
    obtain ⟨t, acc, rfl, hinv, hsz, hO, hb⟩ := hrel
    have HI := Lib.hid hinv
    have HO2 := Lib.hid hO
    have HB := Lib.hid hb
    have hmr := (hb.cell (p := ⟨0, 0, none⟩) HG.out).trans HM.out
    have HMr := Lib.hid hmr
    clear hinv hO hb hmr
    go_wp2_with fail
    refine (Try.strings_Index t sep m wr (by omega) HMr.out).mono ?_
    rintro e w1 ⟨rfl, rfl⟩
    have HT := Lib.hid (size_list t)
    have hge := Lib.index_ge t.data.toList sep.data.toList
    have hroom := Lib.index_room t.data.toList sep.data.toList
    rw [HL2.out, HT.out] at hroom
    generalize hix : Lib.index t.data.toList sep.data.toList = ix at *
    have HIX := Lib.hid hix
    clear hix
    by_cases hneg : ix < 0
    · have HC := Lib.hid (cut_end HI.out (by rw [HIX.out]; exact hneg))
      clear hroom
      go_wp2_with fail
      refine (copyText_any t _ (by omega)).mono ?_
      rintro e w2 ⟨rfl, hb2⟩
      have HB2 := Lib.hid (HB.out.trans (hb2.mono HB.out.size))
      have HO3 := Lib.hid (owns_below HO2.out hb2 (Nat.le_refl _))
      clear hb2
      go_wp2_with (at_builtin; refine append_strs rfl _ _ rfl w.heap.size _ acc t.data.toList _ w2.heap.size rfl (owns_alloc HO3.out _) rfl (cell_newS _ _ _ _ rfl) (by omega) (by have := HB2.out.size; simp; omega) ?_; intro v' w3 hO1 hg1)
      go_ret
      exact ⟨v', rfl, by have := HC.out; rw [← this]; exact hO1, below_append (HB2.out.alloc HB2.out.size _) (owns_alloc HO3.out _) hg1 (by have := HB2.out.size; simp; omega)⟩
    · obtain ⟨i, rfl⟩ := Int.eq_ofNat_of_zero_le (show 0 ≤ ix by omega)
      have hr : i + sep.size ≤ t.size := by have := hroom (by omega); omega
      have HC := Lib.hid (cut_next HI.out i HIX.out (by rw [HL2.out]; exact h0) (by rw [HL2.out, HT.out]; exact hr))
      clear hroom hneg hge
      go_wp2_with fail
      refine (copyText_any _ _ (by rw [← size_list, Lib.extract_data]; simp; omega)).mono ?_
      rintro e w2 ⟨rfl, hb2⟩
      have HB2 := Lib.hid (HB.out.trans (hb2.mono HB.out.size))
      have HO3 := Lib.hid (owns_below HO2.out hb2 (Nat.le_refl _))
      clear hb2
      go_wp2_with (at_builtin; refine append_strs rfl _ _ rfl w.heap.size _ acc (t.data.toList.take i) _ w2.heap.size rfl (owns_alloc HO3.out _) rfl (by rw [cell_newS _ _ _ _ rfl, Lib.extract_data]; simp) (by omega) (by have := HB2.out.size; simp; omega) ?_; intro v' w3 hO1 hg1)
      refine ⟨⟨t.extract (i + sep.size) t.size, acc ++ [t.data.toList.take i], rfl, ?_, ?_, hO1, below_append (HB2.out.alloc HB2.out.size _) (owns_alloc HO3.out _) hg1 (by have := HB2.out.size; simp; omega)⟩, ?_⟩
      · rw [Lib.extract_to_end]; have := HC.out; rwa [HL2.out] at this
      · rw [← size_list (t.extract _ _), Lib.extract_to_end]; have := HT.out; simp; omega
      · simp only [strLen]; rw [← size_list (t.extract _ _), Lib.extract_to_end]; have := HT.out; simp; omega
theorem implSplit_any (s sep : ByteArray) (m : Int) (w : World) (hm : w.cell? ⟨0, 0, none⟩ = some (.int .i64 m)) (hs : s.size ≤ 1048576) (hsep : sep.size ≤ 1048576) :
    Calls Try.prog 100 #[.string s, .string sep] w fun e w' => GivesRow (splitL s.data.toList sep.data.toList) w e w' := by
  by_cases h0 : sep.size = 0
  · exact implSplit_empty s sep w hs h0
  · exact implSplit_some s sep m w hm hs (by omega) hsep
theorem splitF_len (sep : List UInt8) (h0 : 0 < sep.length) : ∀ (f : Nat) (l : List UInt8), (splitF sep f l).length ≤ l.length + 1 := by
  intro f
  induction f with
  | zero => intro l; simp [splitF]
  | succ f ih =>
    intro l
    by_cases h : Lib.index l sep < 0
    · rw [splitF_none _ h]; simp
    · obtain ⟨i, hi⟩ := Int.eq_ofNat_of_zero_le (show 0 ≤ Lib.index l sep by omega)
      have hr := Lib.index_room l sep (by omega)
      rw [splitF_some f i hi]
      have := ih (l.drop (i + sep.length))
      rw [List.length_drop] at this
      simp only [List.length_cons]; omega
theorem splitL_len (l sep : List UInt8) : (splitL l sep).length ≤ l.length + 1 := by
  unfold splitL
  split
  · simp
  · rename_i h
    exact splitF_len sep (by cases sep with | nil => exact absurd rfl h | cons a b => simp) _ _
end Go.Proofs.Ytghebbndfpbkcac
/- Dividing and joining, plain: what is divided is joined again, and what is joined by a byte that no text has is divided again. -/
namespace Go.Proofs.Ytghebbndfpbkcac
set_option linter.unusedVariables false
open Go.RowKit
theorem joinK_take (x : List (List UInt8)) (y : List (List UInt8)) (sep : List UInt8) : ∀ k, k ≤ x.length → joinK (x ++ y) sep k = joinK x sep k := by
  intro k
  induction k with
  | zero => intro _; rfl
  | succ k ih =>
    intro hk
    have e : (x ++ y).getD k [] = x.getD k [] := by simp [List.getD, List.getElem?_append_left (show k < x.length by omega)]
    simp only [joinK, ih (by omega), e]
theorem joinL_cons (a : List UInt8) (x : List (List UInt8)) (sep : List UInt8) (hx : x ≠ []) : joinL (a :: x) sep = a ++ sep ++ joinL x sep := by
  have key : ∀ k, k < x.length → joinK (a :: x) sep (k + 2) = a ++ sep ++ joinK x sep (k + 1) := by
    intro k
    induction k with
    | zero => intro _; simp [joinK]
    | succ k ih =>
      intro hk
      have h := ih (by omega)
      have e1 : joinK (a :: x) sep (k + 1 + 2) = joinK (a :: x) sep (k + 2) ++ sep ++ x.getD (k + 1) [] := by simp [joinK]
      have e2 : joinK x sep (k + 1 + 1) = joinK x sep (k + 1) ++ sep ++ x.getD (k + 1) [] := by simp [joinK]
      rw [e1, h, e2]; simp
  cases x with
  | nil => exact absurd rfl hx
  | cons b r =>
    have := key r.length (by simp)
    unfold joinL
    simpa using this
theorem joinL_one (a sep : List UInt8) : joinL [a] sep = a := by simp [joinL, joinK]
theorem splitF_ne (sep : List UInt8) (f : Nat) (l : List UInt8) : splitF sep f l ≠ [] := by
  cases f with
  | zero => simp [splitF]
  | succ f => unfold splitF; split <;> simp
theorem index_take (l sep : List UInt8) (i : Nat) (h : Lib.index l sep = i) : l.take i ++ sep ++ l.drop (i + sep.length) = l := by
  rcases Lib.index_spec l sep with ⟨h1, _⟩ | ⟨j, h1, h2, h3, _⟩
  · omega
  · have : j = i := by omega
    subst this
    unfold Lib.occAt at h3
    obtain ⟨t, ht⟩ := List.isPrefixOf_iff_prefix.1 h3
    have e : l.drop (j + sep.length) = t := by rw [← List.drop_drop, ← ht]; simp
    rw [e, List.append_assoc, ht, List.take_append_drop]
theorem join_split (sep : List UInt8) : ∀ (f : Nat) (l : List UInt8), joinL (splitF sep f l) sep = l := by
  intro f
  induction f with
  | zero => intro l; simp [splitF, joinL_one]
  | succ f ih =>
    intro l
    by_cases h : Lib.index l sep < 0
    · rw [splitF_none _ h, joinL_one]
    · obtain ⟨i, hi⟩ := Int.eq_ofNat_of_zero_le (show 0 ≤ Lib.index l sep by omega)
      rw [splitF_some f i hi, joinL_cons _ _ _ (splitF_ne sep f _), ih, index_take l sep i hi]
theorem join_splitL (l sep : List UInt8) : joinL (splitL l sep) sep = l := by
  unfold splitL
  split
  · rw [joinL_one]
  · exact join_split sep _ l
theorem occ_one (l : List UInt8) (c : UInt8) (j : Nat) : Lib.occAt l [c] j = true ↔ l[j]? = some c := by
  unfold Lib.occAt
  rw [List.isPrefixOf_iff_prefix]
  constructor
  · rintro ⟨t, ht⟩
    have : (l.drop j)[0]? = some c := by rw [← ht]; rfl
    simpa using this
  · intro h
    have hj := (List.getElem?_eq_some_iff.1 h)
    obtain ⟨hj, rfl⟩ := hj
    exact ⟨l.drop (j + 1), by rw [List.drop_eq_getElem_cons hj]; rfl⟩
theorem index_none1 {l : List UInt8} {c : UInt8} (h : c ∉ l) : Lib.index l [c] < 0 := by
  have : Lib.index l [c] = -1 := Lib.index_none fun j hj => by
    cases ho : Lib.occAt l [c] j with
    | false => rfl
    | true => exact absurd (List.mem_of_getElem? ((occ_one l c j).1 ho)) h
  omega
theorem index_some1 {a r : List UInt8} {c : UInt8} (h : c ∉ a) : Lib.index (a ++ c :: r) [c] = (a.length : Int) := by
  refine Lib.index_first (by simp) ?_ ?_
  · rw [occ_one]; simp
  · intro j hj
    cases ho : Lib.occAt (a ++ c :: r) [c] j with
    | false => rfl
    | true =>
      have := (occ_one _ c j).1 ho
      rw [List.getElem?_append_left hj] at this
      exact absurd (List.mem_of_getElem? this) h
theorem split_join (c : UInt8) : ∀ (ps : List (List UInt8)) (f : Nat), ps ≠ [] → (∀ p ∈ ps, c ∉ p) → ps.length ≤ f + 1 → splitF [c] f (joinL ps [c]) = ps := by
  intro ps
  induction ps with
  | nil => intro f h; exact absurd rfl h
  | cons a r ih =>
    intro f _ hp hf
    have ha := hp a List.mem_cons_self
    by_cases hr : r = []
    · subst hr
      rw [joinL_one]
      exact splitF_none f (index_none1 ha)
    · have hl : 0 < r.length := List.length_pos_iff.2 hr
      obtain ⟨g, rfl⟩ : ∃ g, f = g + 1 := ⟨f - 1, by simp at hf; omega⟩
      rw [joinL_cons a r [c] hr, List.append_assoc, List.singleton_append, splitF_some g a.length (index_some1 ha)]
      have e1 : (a ++ c :: joinL r [c]).take a.length = a := by simp
      have e2 : (a ++ c :: joinL r [c]).drop (a.length + [c].length) = joinL r [c] := by simp [List.drop_append]
      rw [e1, e2, ih g hr (fun p h => hp p (List.mem_cons_of_mem _ h)) (by simp at hf; omega)]
theorem joinL_ge (ps : List (List UInt8)) (c : UInt8) : ps.length ≤ (joinL ps [c]).length + 1 := by
  induction ps with
  | nil => simp
  | cons a r ih =>
    by_cases hr : r = []
    · subst hr; simp
    · rw [joinL_cons a r [c] hr]; simp; omega
theorem splitL_joinL (c : UInt8) (ps : List (List UInt8)) (h : ps ≠ []) (hp : ∀ p ∈ ps, c ∉ p) : splitL (joinL ps [c]) [c] = ps := by
  unfold splitL
  rw [if_neg (by simp)]
  exact split_join c ps _ h hp (by have := joinL_ge ps c; omega)
theorem splitL_none1 {l : List UInt8} {c : UInt8} (h : c ∉ l) : splitL l [c] = [l] := by
  unfold splitL; rw [if_neg (by simp)]; exact splitF_none _ (index_none1 h)
theorem splitL_ne (l : List UInt8) (c : UInt8) : splitL l [c] ≠ [] := by
  unfold splitL; rw [if_neg (by simp)]; exact splitF_ne _ _ _
theorem joinL_two (a b : List UInt8) (c : UInt8) : joinL [a, b] [c] = a ++ c :: b := by rw [joinL_cons a [b] [c] (by simp), joinL_one]; simp
/-- the text in front of the first c and the text behind it -/
theorem cut_some {a r : List UInt8} {c : UInt8} (h : c ∉ a) : Lib.cut (a ++ c :: r) [c] = (a, r, true) := by
  unfold Lib.cut
  rw [index_some1 h, if_pos (by omega)]
  simp [List.drop_append]
theorem cut_none {a : List UInt8} {c : UInt8} (h : c ∉ a) : Lib.cut a [c] = (a, [], false) := by
  unfold Lib.cut
  rw [if_neg (by have := index_none1 h; omega)]
/-- a text either has no c, or is what stands in front of the first one, and behind it -/
theorem cut_cases (l : List UInt8) (c : UInt8) : c ∉ l ∨ ∃ a r, l = a ++ c :: r ∧ c ∉ a := by
  by_cases h : c ∈ l
  · right
    induction l with
    | nil => simp at h
    | cons x t ih =>
      by_cases hx : x = c
      · subst hx; exact ⟨[], t, rfl, by simp⟩
      · obtain ⟨a, r, e, ha⟩ := ih (by rcases List.mem_cons.1 h with h | h; exact absurd h.symm hx; exact h)
        exact ⟨x :: a, r, by rw [e]; rfl, by simp; exact ⟨fun e => hx e.symm, ha⟩⟩
  · exact Or.inl h
/-- divided into two: there is just one c -/
theorem split_two {l a b : List UInt8} {c : UInt8} (h : splitL l [c] = [a, b]) : l = a ++ c :: b ∧ c ∉ a := by
  have e : l = a ++ c :: b := by rw [← joinL_two, ← h, join_splitL]
  refine ⟨e, ?_⟩
  rcases cut_cases l c with hn | ⟨a', r, e2, ha'⟩
  · rw [splitL_none1 hn] at h; simp at h
  · have : splitL l [c] = a' :: splitF [c] l.length r := by
      have e3 : (a' ++ c :: r).drop (a'.length + [c].length) = r := by simp [List.drop_append]
      have e4 : (a' ++ c :: r).take a'.length = a' := by simp
      unfold splitL; rw [if_neg (by simp), e2, splitF_some _ a'.length (index_some1 ha'), e3, e4]
    rw [this] at h
    injection h with h1 _
    rw [← h1]; exact ha'
theorem cut_len (l sep : List UInt8) : (Lib.cut l sep).1.length ≤ l.length ∧ (Lib.cut l sep).2.1.length ≤ l.length := by
  unfold Lib.cut
  split
  · exact ⟨by simp; omega, by simp⟩
  · exact ⟨Nat.le_refl _, by simp⟩
theorem joinK_part (x : List (List UInt8)) (sep : List UInt8) : ∀ (m k : Nat), k < m → m ≤ x.length → (x.getD k []).length ≤ (joinK x sep m).length := by
  intro m
  induction m with
  | zero => intro k h; omega
  | succ m ih =>
    intro k hk hm
    simp only [joinK, List.length_append]
    rcases Nat.lt_or_ge k m with h | h
    · have := ih k h (by omega); omega
    · rw [show k = m by omega]; omega
theorem split_part (l : List UInt8) (c : UInt8) (p : List UInt8) (h : p ∈ splitL l [c]) : p.length ≤ l.length := by
  obtain ⟨k, hk, rfl⟩ := List.mem_iff_getElem.1 h
  have := joinK_part (splitL l [c]) [c] (splitL l [c]).length k hk (Nat.le_refl _)
  rw [show joinK (splitL l [c]) [c] (splitL l [c]).length = l from join_splitL l [c]] at this
  rw [List.getD_eq_getElem?_getD, List.getElem?_eq_getElem hk] at this
  exact this
theorem dataL (l : List UInt8) : (⟨l.toArray⟩ : ByteArray).data.toList = l := by simp
end Go.Proofs.Ytghebbndfpbkcac
/- Contracts of ParseNumber, the model's and the program's. -/
namespace Go.Proofs.Ytghebbndfpbkcac
set_option linter.unusedVariables false
open Go.RowKit
def pnum (l : List UInt8) : Int := ((parseL l).getD 0 : Nat)
def pok (l : List UInt8) : Bool := (parseL l).isSome
theorem pnum_some {l : List UInt8} {n : Nat} (h : parseL l = some n) : pnum l = n ∧ pok l = true := by simp [pnum, pok, h]
theorem pnum_none {l : List UInt8} (h : parseL l = none) : pnum l = 0 ∧ pok l = false := by simp [pnum, pok, h]
theorem ret_pair {a b : Int} {c d : Bool} (h : a = b) (h2 : c = d) : Ending.returned (.tuple #[.int .i64 a, .bool c]) = .returned (.tuple #[.int .i64 b, .bool d]) := by rw [h, h2]
theorem valL_next (s : ByteArray) (k : Nat) (h : k < s.size) : valL (s.data.toList.take (k + 1)) = 10 * valL (s.data.toList.take k) + (s[k].toNat : Int) - 48 := by
  rw [take_snoc s k h, valL_snoc]; omega
theorem digB_isDig (c : UInt8) : isDig c.toNat = digB c := by simp [isDig, digB]
theorem all_next (s : ByteArray) (k : Nat) (h : k < s.size) (ha : (s.data.toList.take k).all digB = true) (hd : isDig (s[k]).toNat = true) : (s.data.toList.take (k + 1)).all digB = true := by
  rw [take_snoc s k h, List.all_append, ha, digB_isDig] at *; simpa using hd
theorem nodig_at (s : ByteArray) (k : Nat) (h : k < s.size) (hd : isDig (s[k]).toNat = false) : parseL s.data.toList = none :=
  parseL_nodig _ k (by rw [size_list]; exact h) (by rw [getD_get s k h, ← digB_isDig]; exact hd)
theorem first48 (s : ByteArray) (h : 0 < s.size) (hz : (s[0].toNat : Int) = 48) : s.data.toList.getD 0 0 = 48 := by
  rw [getD_get s 0 h]; exact UInt8.toNat_inj.1 (by show s[0].toNat = 48; omega)
theorem notfirst48 (s : ByteArray) (h : 0 < s.size) (hz : ¬ (s[0].toNat : Int) = 48) : s.data.toList.getD 0 0 ≠ 48 := by
  rw [getD_get s 0 h]; intro e; apply hz; rw [e]; rfl
theorem wrap_dig (x : Int) (h0 : 48 ≤ x) (h1 : x ≤ 255) : IntKind.u8.wrap (x - 48) = x - 48 := by
  simp only [IntKind.wrap, IntKind.bits, IntKind.signed]; simp; omega
/-- the loop of the program's ParseNumber, from the two ways that lead to it -/
def looped (s : ByteArray) (w : World) : Prop := Calls Try.prog 102 #[.string s] w fun e w' => e = .returned (.tuple #[.int .i64 (pnum s.data.toList), .bool (pok s.data.toList)]) ∧ w = w'
set_option maxHeartbeats 800000 in
theorem implParse_loop (s : ByteArray) (w : World) (hs : s.size ≤ maxLen) (hE : s.toList.isEmpty = false) (hpos : 0 < s.size)
    (hg : ((s[0].toNat : Int) == 48) = false ∨ (((s[0].toNat : Int) == 48) = true ∧ ¬ 1 < s.size)) (HZ : Hid (s.data.toList.length = 1 ∨ s.data.toList.getD 0 0 ≠ 48)) : looped s w := by
  unfold looped
  unfold maxLen at hs
  have HNE := Lib.hid (show s.data.toList ≠ [] from by intro h; rw [← size_list, h] at hpos; simp at hpos)
  rcases hg with hz1 | ⟨hz1, h1⟩
  all_goals
    go_enter Try.func102, Try.ntmps102
    go_wp2
    go_loop [4, 5, 20] (fun n _ i => ∃ k : Nat, k ≤ s.size ∧ i = .int .i64 k ∧ n = .int .i64 (valL (s.data.toList.take k)) ∧ (s.data.toList.take k).all digB = true ∧ 0 ≤ valL (s.data.toList.take k) ∧ valL (s.data.toList.take k) ≤ 999) (fun _ _ i => s.size - (intOf i).toNat)
    case atStart => exact ⟨0, Nat.zero_le _, rfl, rfl, rfl, by simp [valL], by simp [valL]⟩
    case round =>
      obtain ⟨k, hk, rfl, rfl, ha, hb1, hb2⟩ := hrel
      have HA := Lib.hid ha
      clear ha
      by_cases hlt : k < s.size
      · by_cases hd : isDig (s[k]).toNat = true
        · have HA2 := Lib.hid (all_next s k hlt HA.out hd)
          have HN := Lib.hid (valL_next s k hlt)
          obtain ⟨hd1, hd2⟩ : 48 ≤ (s[k].toNat : Int) ∧ (s[k].toNat : Int) ≤ 57 := by simpa [isDig] using hd
          have hw := wrap_dig _ hd1 (by omega)
          by_cases hbig : 999 < 10 * valL (s.data.toList.take k) + ((s[k].toNat : Int) - 48)
          · have HQ := Lib.hid (pnum_none (parseL_big s.data.toList (k + 1) (by rw [HN.out]; omega)))
            go_wp2_with (go_at_call 109; refine (isDigit_any _ _).mono ?_; rintro e w' ⟨rfl, rfl⟩)
            go_ret2
            exact ⟨ret_pair HQ.out.1.symm HQ.out.2.symm, rfl⟩
          · go_wp2_with (go_at_call 109; refine (isDigit_any _ _).mono ?_; rintro e w' ⟨rfl, rfl⟩)
            go_round
            case rel => exact ⟨k + 1, by omega, by go_num, by rw [HN.out]; go_num, HA2.out, by rw [HN.out]; omega, by rw [HN.out]; omega⟩
            case measure => simp [intOf]; omega
        · have hd' : isDig (s[k]).toNat = false := by simpa using hd
          have HQ := Lib.hid (pnum_none (nodig_at s k hlt hd'))
          clear hd
          go_wp2_with (go_at_call 109; refine (isDigit_any _ _).mono ?_; rintro e w' ⟨rfl, rfl⟩)
          go_ret2
          exact ⟨ret_pair HQ.out.1.symm HQ.out.2.symm, rfl⟩
      · have HK := Lib.hid (show s.data.toList.take k = s.data.toList from List.take_of_length_le (by rw [size_list]; omega))
        have HQ := Lib.hid (pnum_some (parseL_good s.data.toList (by rw [← HK.out]; exact HA.out) HNE.out HZ.out (by rw [← HK.out]; exact hb2)))
        have HV := Lib.hid (show ((valL s.data.toList).toNat : Int) = valL (s.data.toList.take k) from by rw [HK.out] at hb1 ⊢; omega)
        go_wp2
        go_ret2
        exact ⟨ret_pair (by rw [HQ.out.1, HV.out]) HQ.out.2.symm, rfl⟩
set_option maxHeartbeats 400000 in
theorem implParse_any (s : ByteArray) (w : World) (hs : s.size ≤ maxLen) :
    Calls Try.prog 102 #[.string s] w fun e w' => e = .returned (.tuple #[.int .i64 (pnum s.data.toList), .bool (pok s.data.toList)]) ∧ w = w' := by
  by_cases h0 : s.size = 0
  · have hl : s.data.toList = [] := List.eq_nil_of_length_eq_zero (by rw [size_list]; exact h0)
    have HQ := Lib.hid (pnum_none (show parseL s.data.toList = none from by rw [hl]; exact parseL_nil))
    have hE : s.toList = [] := by rw [Lib.toList_data, hl]
    clear hl h0
    go_enter Try.func102, Try.ntmps102
    go_wp2
    go_ret2
    exact ⟨ret_pair HQ.out.1.symm HQ.out.2.symm, rfl⟩
  · have hE : s.toList.isEmpty = false := by rw [Lib.toList_data]; cases hh : s.data.toList with | nil => exfalso; apply h0; rw [← size_list, hh]; rfl | cons a b => rfl
    have hpos : 0 < s.size := by omega
    clear h0
    by_cases hz : (s[0].toNat : Int) = 48
    · have hz1 : ((s[0].toNat : Int) == 48) = true := by simpa using hz
      by_cases h1 : 1 < s.size
      · have HQ := Lib.hid (pnum_none (parseL_zero s.data.toList (first48 s hpos hz) (by rw [size_list]; exact h1)))
        unfold maxLen at hs
        clear hz
        go_enter Try.func102, Try.ntmps102
        go_wp2
        go_ret2
        exact ⟨ret_pair HQ.out.1.symm HQ.out.2.symm, rfl⟩
      · exact implParse_loop s w hs hE hpos (Or.inr ⟨hz1, h1⟩) (Lib.hid (Or.inl (by rw [size_list]; omega)))
    · exact implParse_loop s w hs hE hpos (Or.inl (by simpa using hz)) (Lib.hid (Or.inr (notfirst48 s hpos hz)))
end Go.Proofs.Ytghebbndfpbkcac
/- Texts in ascending order, each once: the plain side. -/
namespace Go.Proofs.Ytghebbndfpbkcac

/-- texts in strictly ascending order -/
def Strict (l : List (List UInt8)) : Prop := l.Pairwise (· < ·)
/-- s is put in front of the first text that is not less, unless it is that text -/
def ins (s : List UInt8) : List (List UInt8) → List (List UInt8)
  | [] => [s]
  | x :: r => if x < s then x :: ins s r else if x = s then x :: r else s :: x :: r
def ascL (x : List (List UInt8)) : List (List UInt8) := x.foldl (fun a y => ins y a) []

theorem strict_unique : ∀ {a b : List (List UInt8)}, Strict a → Strict b → (∀ x, x ∈ a ↔ x ∈ b) → a = b := by
  intro a
  induction a with
  | nil =>
    intro b _ _ h
    cases b with
    | nil => rfl
    | cons y s => exact absurd ((h y).2 (List.mem_cons_self ..)) (by simp)
  | cons x r ih =>
    intro b ha hb h
    cases b with
    | nil => exact absurd ((h x).1 (List.mem_cons_self ..)) (by simp)
    | cons y s =>
      have ha' := List.pairwise_cons.1 ha
      have hb' := List.pairwise_cons.1 hb
      have e : x = y := by
        rcases List.mem_cons.1 ((h x).1 (List.mem_cons_self ..)) with h1 | h1
        · exact h1
        · rcases List.mem_cons.1 ((h y).2 (List.mem_cons_self ..)) with h2 | h2
          · exact h2.symm
          · exact absurd (List.lt_trans (hb'.1 x h1) (ha'.1 y h2)) (List.lt_irrefl _)
      subst e
      congr 1
      refine ih ha'.2 hb'.2 fun z => ⟨fun hz => ?_, fun hz => ?_⟩
      · rcases List.mem_cons.1 ((h z).1 (List.mem_cons_of_mem _ hz)) with h1 | h1
        · subst h1; exact absurd (ha'.1 z hz) (List.lt_irrefl _)
        · exact h1
      · rcases List.mem_cons.1 ((h z).2 (List.mem_cons_of_mem _ hz)) with h1 | h1
        · subst h1; exact absurd (hb'.1 z hz) (List.lt_irrefl _)
        · exact h1
theorem mem_ins (s : List UInt8) : ∀ (l : List (List UInt8)) (z : List UInt8), z ∈ ins s l ↔ z = s ∨ z ∈ l := by
  intro l
  induction l with
  | nil => intro z; simp [ins]
  | cons x r ih =>
    intro z
    unfold ins
    split
    · simp only [List.mem_cons, ih]
      constructor
      · rintro (h | h | h)
        · exact Or.inr (Or.inl h)
        · exact Or.inl h
        · exact Or.inr (Or.inr h)
      · rintro (h | h | h)
        · exact Or.inr (Or.inl h)
        · exact Or.inl h
        · exact Or.inr (Or.inr h)
    · split
      · rename_i h; subst h; simp
      · simp
theorem strict_ins (s : List UInt8) : ∀ (l : List (List UInt8)), Strict l → Strict (ins s l) := by
  intro l
  induction l with
  | nil => intro _; simp [ins, Strict]
  | cons x r ih =>
    intro h
    have h' := List.pairwise_cons.1 h
    unfold ins
    split
    · rename_i hx
      refine List.pairwise_cons.2 ⟨fun z hz => ?_, ih h'.2⟩
      rcases (mem_ins s r z).1 hz with h1 | h1
      · subst h1; exact hx
      · exact h'.1 z h1
    · split
      · exact h
      · rename_i h1 h2
        have hsx : s < x := by
          rcases Decidable.em (s < x) with h3 | h3
          · exact h3
          · exact absurd (List.le_antisymm (List.not_lt.1 h3) (List.not_lt.1 h1)) h2
        refine List.pairwise_cons.2 ⟨fun z hz => ?_, h⟩
        rcases List.mem_cons.1 hz with h3 | h3
        · subst h3; exact hsx
        · exact List.lt_trans hsx (h'.1 z h3)
theorem foldl_ins : ∀ (x a : List (List UInt8)), Strict a → Strict (x.foldl (fun a y => ins y a) a) ∧ ∀ z, z ∈ x.foldl (fun a y => ins y a) a ↔ z ∈ a ∨ z ∈ x := by
  intro x
  induction x with
  | nil => intro a h; exact ⟨h, fun z => by simp⟩
  | cons y r ih =>
    intro a h
    have := ih (ins y a) (strict_ins y a h)
    refine ⟨this.1, fun z => ?_⟩
    rw [List.foldl_cons, this.2 z, mem_ins, List.mem_cons]
    constructor
    · rintro ((h | h) | h)
      · exact Or.inr (Or.inl h)
      · exact Or.inl h
      · exact Or.inr (Or.inr h)
    · rintro (h | h | h)
      · exact Or.inl (Or.inr h)
      · exact Or.inl (Or.inl h)
      · exact Or.inr h
theorem asc_strict (x : List (List UInt8)) : Strict (ascL x) := (foldl_ins x [] List.Pairwise.nil).1
theorem asc_mem (x : List (List UInt8)) (z : List UInt8) : z ∈ ascL x ↔ z ∈ x := by
  have := (foldl_ins x [] List.Pairwise.nil).2 z
  simpa [ascL] using this
theorem asc_eq {x y : List (List UInt8)} (h : Strict y) (hm : ∀ z, z ∈ y ↔ z ∈ x) : y = ascL x :=
  strict_unique h (asc_strict x) fun z => by rw [hm z, asc_mem x z]
theorem asc_idem (x : List (List UInt8)) : ascL (ascL x) = ascL x := (asc_eq (asc_strict x) fun _ => Iff.rfl).symm
theorem ins_len (s : List UInt8) (l : List (List UInt8)) : (ins s l).length ≤ l.length + 1 := by
  induction l with
  | nil => simp [ins]
  | cons x r ih => unfold ins; split <;> (try split) <;> simp <;> omega
theorem foldl_len : ∀ (x a : List (List UInt8)), (x.foldl (fun a y => ins y a) a).length ≤ a.length + x.length := by
  intro x
  induction x with
  | nil => intro a; simp
  | cons y r ih => intro a; have := ih (ins y a); have := ins_len y a; simp only [List.foldl_cons, List.length_cons]; omega
theorem asc_len (x : List (List UInt8)) : (ascL x).length ≤ x.length := by have := foldl_len x []; simpa [ascL] using this

/-- the loop of the model's l1Put -/
theorem ins_below {s : List UInt8} {p : List (List UInt8)} (h : ∀ z ∈ p, z < s) (t : List (List UInt8)) : ins s (p ++ t) = p ++ ins s t := by
  induction p with
  | nil => rfl
  | cons x r ih =>
    have hx := h x (List.mem_cons_self ..)
    simp only [List.cons_append, ins, if_pos hx]
    rw [ih fun z hz => h z (List.mem_cons_of_mem _ hz)]
theorem ins_done {s : List UInt8} {p : List (List UInt8)} (h : ∃ z ∈ p, ¬ z < s) (t : List (List UInt8)) : ins s (p ++ t) = ins s p ++ t := by
  induction p with
  | nil => obtain ⟨z, hz, _⟩ := h; simp at hz
  | cons x r ih =>
    simp only [List.cons_append, ins]
    by_cases hx : x < s
    · obtain ⟨z, hz, hzs⟩ := h
      rcases List.mem_cons.1 hz with h1 | h1
      · subst h1; exact absurd hx hzs
      · rw [if_pos hx, if_pos hx, ih ⟨z, h1, hzs⟩]; rfl
    · rw [if_neg hx, if_neg hx]
      split <;> rfl

/-- what slices.Compact leaves of a sorted list -/
theorem compact_sorted (d : Array (List UInt8)) (hs : ∀ i j, i ≤ j → j < d.size → d[i]! ≤ d[j]!) : ∀ m, m ≤ d.size →
    Strict (Lib.compactUpTo d m) ∧ (∀ z, z ∈ Lib.compactUpTo d m ↔ ∃ i, i < m ∧ d[i]! = z) := by
  intro m
  induction m with
  | zero => intro _; exact ⟨List.Pairwise.nil, fun z => by simp [Lib.compactUpTo]⟩
  | succ m ih =>
    intro hm
    obtain ⟨h1, h2⟩ := ih (by omega)
    rw [Lib.compactUpTo_succ]
    by_cases hk : m = 0 ∨ d[m]! ≠ d[m - 1]!
    · have hk' : Lib.keeps d m = true := by simpa [Lib.keeps] using hk
      rw [if_pos hk']
      constructor
      · refine List.pairwise_append.2 ⟨h1, by simp, fun a ha b hb => ?_⟩
        have hb' : b = d[m]! := by simpa using hb
        subst hb'
        obtain ⟨i, hi, rfl⟩ := (h2 a).1 ha
        have hne : d[m]! ≠ d[m - 1]! := by rcases hk with h | h; · omega
                                           · exact h
        rcases Decidable.em (d[i]! < d[m]!) with h | h
        · exact h
        · exfalso
          have e : d[i]! = d[m]! := List.le_antisymm (hs i m (by omega) (by omega)) (List.not_lt.1 h)
          have h3 := hs i (m - 1) (by omega) (by omega)
          have h4 := hs (m - 1) m (by omega) (by omega)
          rw [e] at h3
          exact hne (List.le_antisymm h3 h4)
      · intro z
        rw [List.mem_append, h2 z]
        constructor
        · rintro (⟨i, hi, e⟩ | h)
          · exact ⟨i, by omega, e⟩
          · exact ⟨m, by omega, by simpa using (show z = d[m]! by simpa using h).symm⟩
        · rintro ⟨i, hi, e⟩
          rcases Nat.lt_or_ge i m with h | h
          · exact Or.inl ⟨i, h, e⟩
          · right; have : i = m := by omega
            subst this; simp [e]
    · have hk' : Lib.keeps d m = false := by simpa [Lib.keeps] using hk
      rw [if_neg (by simp [hk']), List.append_nil]
      refine ⟨h1, fun z => ?_⟩
      rw [h2 z]
      constructor
      · rintro ⟨i, hi, e⟩; exact ⟨i, by omega, e⟩
      · rintro ⟨i, hi, e⟩
        rcases Nat.lt_or_ge i m with h | h
        · exact ⟨i, h, e⟩
        · have : i = m := by omega
          subst this
          have hm0 : i ≠ 0 := fun h => hk (Or.inl h)
          have he : d[i]! = d[i - 1]! := Decidable.byContradiction fun h => hk (Or.inr h)
          exact ⟨i - 1, by omega, by rw [← he]; exact e⟩
def leB (x y : List UInt8) : Bool := decide (x ≤ y)
theorem compact_mergeSort (x : List (List UInt8)) : Lib.compact (x.mergeSort fun a b => decide (a ≤ b)) = ascL x := by
  have hp := List.pairwise_mergeSort (le := fun a b : List UInt8 => decide (a ≤ b)) (fun a b c h1 h2 => by simp at *; exact List.le_trans h1 h2) (fun a b => by simp; exact List.le_total a b) x
  generalize hl : (x.mergeSort fun a b => decide (a ≤ b)) = l at *
  have hmem : ∀ z, z ∈ l ↔ z ∈ x := fun z => by rw [← hl]; exact List.mem_mergeSort
  have hs : ∀ i j, i ≤ j → j < l.toArray.size → l.toArray[i]! ≤ l.toArray[j]! := by
    intro i j hij hj
    have hj' : j < l.length := by simpa using hj
    rw [getElem!_pos _ i (by simp; omega), getElem!_pos _ j (by simpa using hj')]
    simp only [List.getElem_toArray]
    rcases Nat.lt_or_ge i j with h | h
    · have := List.pairwise_iff_getElem.1 hp i j (by omega) hj' h
      simpa using this
    · have : i = j := by omega
      subst this; exact List.le_refl _
  have h := compact_sorted l.toArray hs l.length (by simp)
  refine asc_eq h.1 fun z => ?_
  rw [← hmem z]
  unfold Lib.compact
  rw [h.2 z, List.mem_iff_getElem]
  constructor
  · rintro ⟨i, hi, e⟩; exact ⟨i, hi, by rw [← e, getElem!_pos _ i (by simpa using hi)]; simp⟩
  · rintro ⟨i, hi, e⟩; exact ⟨i, hi, by rw [getElem!_pos _ i (by simpa using hi)]; simpa using e⟩
end Go.Proofs.Ytghebbndfpbkcac
/- Cells, plain: which lists are cells, how they are written and read; the lenient reading held against the writing is the strict one. -/
namespace Go.Proofs.Ytghebbndfpbkcac
set_option linter.unusedVariables false
open Go.RowKit
def cellT (d : CellD) : List UInt8 := d.fKey ++ 61 :: numL d.fValue
def fmtC (l : List CellD) : List UInt8 := if cellsB l = true then (if l = [] then [45] else joinL (l.map cellT) [44]) else []
theorem nameB_all {l : List UInt8} (h : nameB l = true) (c : UInt8) (hc : c ∈ l) : (isLet c.toNat || isDig c.toNat) = true := by
  simp only [nameB, Bool.and_eq_true, nmB, List.all_eq_true] at h
  exact h.2 c hc
theorem nameB_no {l : List UInt8} (h : nameB l = true) (c : UInt8) (hc : (isLet c.toNat || isDig c.toNat) = false) : c ∉ l := fun hm => by rw [nameB_all h c hm] at hc; simp at hc
theorem numL_no (n : Nat) (c : UInt8) (hc : digB c = false) : c ∉ numL n := fun hm => by
  have := List.all_eq_true.1 (numL_dig n) c hm
  rw [this] at hc; simp at hc
theorem numB_nat {n : Int} (h : numB n = true) : ∃ k : Nat, n = k ∧ k ≤ 999 := by
  simp only [numB, Bool.and_eq_true, decide_eq_true_iff] at h
  exact ⟨n.toNat, by omega, by omega⟩
theorem parse_num {n : Int} (h : numB n = true) : pnum (numL n) = n ∧ pok (numL n) = true := by
  obtain ⟨k, rfl, hk⟩ := numB_nat h
  exact pnum_some (parseL_some hk rfl)
theorem cellT_cut {d : CellD} (h : nameB d.fKey = true) : Lib.cut (cellT d) [61] = (d.fKey, numL d.fValue, true) := cut_some (nameB_no h 61 (by decide))
theorem cellT_no {d : CellD} (h : nameB d.fKey = true) (h2 : numB d.fValue = true) : (44 : UInt8) ∉ cellT d := by
  obtain ⟨k, e, hk⟩ := numB_nat h2
  unfold cellT
  rw [e]
  intro hm
  rcases List.mem_append.1 hm with hm | hm
  · exact nameB_no h 44 (by decide) hm
  · rcases List.mem_cons.1 hm with hm | hm
    · exact absurd hm (by decide)
    · exact numL_no k 44 (by decide) hm
theorem cellT_split {d : CellD} (h : nameB d.fKey = true) (h2 : numB d.fValue = true) : splitL (cellT d) [61] = [d.fKey, numL d.fValue] := by
  obtain ⟨k, e, hk⟩ := numB_nat h2
  have : cellT d = joinL [d.fKey, numL d.fValue] [61] := by rw [joinL_two]; rfl
  rw [this]
  refine splitL_joinL 61 _ (by simp) ?_
  intro p hp
  simp only [List.mem_cons, List.not_mem_nil, or_false] at hp
  rcases hp with rfl | rfl
  · exact nameB_no h 61 (by decide)
  · rw [e]; exact numL_no k 61 (by decide)
/-- the program's lenient reading of one cell, of a text -/
def rdC (t : List UInt8) : CellD := ⟨(Lib.cut t [61]).1, pnum (Lib.cut t [61]).2.1⟩
def rdCs (s : List UInt8) : List CellD := if s = [45] then [] else (splitL s [44]).map rdC
/-- what is read: the cells that are written so -/
def prsB (s : List UInt8) : Bool := cellsB (rdCs s) && decide (fmtC (rdCs s) = s)
def prsC (s : List UInt8) : List CellD := if prsB s = true then rdCs s else []
/-- the model's reading of the first k parts -/
def oneB (t : List UInt8) : Bool := decide ((splitL t [61]).length = 2) && pok ((splitL t [61]).getD 1 [])
def oneC (t : List UInt8) : CellD := ⟨(splitL t [61]).getD 0 [], pnum ((splitL t [61]).getD 1 [])⟩
theorem oneB_cell {t : List UInt8} (h : oneB t = true) : cellT (oneC t) = t ∧ rdC t = oneC t := by
  simp only [oneB, Bool.and_eq_true, decide_eq_true_iff] at h
  obtain ⟨a, b, e⟩ : ∃ a b, splitL t [61] = [a, b] := by
    match splitL t [61], h.1 with
    | [a, b], _ => exact ⟨a, b, rfl⟩
  obtain ⟨e2, hna⟩ := split_two e
  have hb : pok b = true := by have := h.2; rw [e] at this; exact this
  unfold oneC
  rw [e]
  simp only [List.getD_cons_zero, List.getD_cons_succ]
  unfold pok at hb
  obtain ⟨n, hn⟩ := Option.isSome_iff_exists.1 hb
  obtain ⟨p1, p2⟩ := pnum_some hn
  obtain ⟨n1, n2⟩ := parseL_iff hn
  refine ⟨?_, ?_⟩
  · unfold cellT; simp only; rw [p1, n2]; exact e2.symm
  · unfold rdC; rw [e2, cut_some hna]
theorem prs_strict (s : List UInt8) (hs : s ≠ [45]) : prsB s = ((splitL s [44]).all oneB && cellsB ((splitL s [44]).map oneC)) := by
  have hne := splitL_ne s 44
  have hr : rdCs s = (splitL s [44]).map rdC := if_neg hs
  cases hR : ((splitL s [44]).all oneB && cellsB ((splitL s [44]).map oneC)) with
  | true =>
    simp only [Bool.and_eq_true, List.all_eq_true] at hR
    obtain ⟨h1, h2⟩ := hR
    have e1 : (splitL s [44]).map rdC = (splitL s [44]).map oneC := List.map_congr_left fun t ht => (oneB_cell (h1 t ht)).2
    have e2 : ((splitL s [44]).map oneC).map cellT = splitL s [44] := by
      rw [List.map_map]
      conv => rhs; rw [← List.map_id (splitL s [44])]
      exact List.map_congr_left fun t ht => (oneB_cell (h1 t ht)).1
    unfold prsB
    rw [hr, e1, h2, Bool.true_and, decide_eq_true_iff]
    unfold fmtC
    rw [if_pos h2, if_neg (by simpa using hne), e2, join_splitL]
  | false =>
    cases hL : prsB s with
    | false => rfl
    | true =>
      simp only [prsB, Bool.and_eq_true, decide_eq_true_iff, hr] at hL
      obtain ⟨h1, h2⟩ := hL
      have hmem := cellsB_mem h1
      generalize hl : (splitL s [44]).map rdC = l at *
      have hl0 : l ≠ [] := by rw [← hl]; simpa using hne
      unfold fmtC at h2
      rw [if_pos h1, if_neg hl0] at h2
      have hsp : splitL s [44] = l.map cellT := by
        rw [← h2]
        refine splitL_joinL 44 _ (by simpa using hl0) ?_
        intro p hp
        obtain ⟨d, hd, rfl⟩ := List.mem_map.1 hp
        exact cellT_no (hmem d hd).1 (hmem d hd).2
      have h3 : (splitL s [44]).all oneB = true := by
        rw [hsp, List.all_eq_true]
        intro p hp
        obtain ⟨d, hd, rfl⟩ := List.mem_map.1 hp
        unfold oneB
        rw [cellT_split (hmem d hd).1 (hmem d hd).2]
        simpa using (parse_num (hmem d hd).2).2
      have h4 : (splitL s [44]).map oneC = l := by
        rw [hsp, List.map_map]
        conv => rhs; rw [← List.map_id l]
        refine List.map_congr_left fun d hd => ?_
        simp only [Function.comp, oneC]
        rw [cellT_split (hmem d hd).1 (hmem d hd).2]
        simp only [List.getD_cons_zero, List.getD_cons_succ]
        rw [(parse_num (hmem d hd).2).1]
        rfl
      rw [h3, h4, h1] at hR
      exact absurd hR (by simp)
theorem prsC_yes {s : List UInt8} (h : prsB s = true) : prsC s = rdCs s := if_pos h
theorem prsC_no {s : List UInt8} (h : prsB s = false) : prsC s = [] := if_neg (by simp [h])
theorem prsB_dash : prsB [45] = true := by unfold prsB rdCs; rw [if_pos rfl]; rfl
theorem prsC_strict {s : List UInt8} (hs : s ≠ [45]) (h : prsB s = true) : prsC s = (splitL s [44]).map oneC := by
  rw [prsC_yes h]
  rw [prs_strict s hs, Bool.and_eq_true, List.all_eq_true] at h
  unfold rdCs
  rw [if_neg hs]
  exact List.map_congr_left fun t ht => (oneB_cell (h.1 t ht)).2
theorem prsC_fmt {s : List UInt8} (h : prsB s = true) : cellsB (prsC s) = true ∧ fmtC (prsC s) = s := by
  rw [prsC_yes h]
  simp only [prsB, Bool.and_eq_true, decide_eq_true_iff] at h; exact h
theorem fmtC_dash {l : List CellD} (h : cellsB l = true) (he : fmtC l = [45]) : l = [] := by
  by_cases hl : l = []
  · exact hl
  · exfalso
    have hm := cellsB_mem h
    unfold fmtC at he
    rw [if_pos h, if_neg hl] at he
    cases l with
    | nil => exact hl rfl
    | cons d r =>
      have hk := (hm d List.mem_cons_self).1
      have h1 : 1 ≤ d.fKey.length := by simp only [nameB, Bool.and_eq_true, decide_eq_true_iff] at hk; omega
      have h2 : 1 ≤ (numL d.fValue).length := by
        obtain ⟨k, e, _⟩ := numB_nat (hm d List.mem_cons_self).2
        rw [e]; exact List.length_pos_iff.2 (numL_ne k)
      have : (joinL ((d :: r).map cellT) [44]).length = 1 := by rw [he]; rfl
      rw [List.map_cons] at this
      by_cases hr : r = []
      · subst hr; simp only [List.map_nil] at this; rw [joinL_one] at this; unfold cellT at this; simp at this; omega
      · rw [joinL_cons _ _ _ (by simpa using hr)] at this; unfold cellT at this; simp at this; omega
/-- what is written is read again -/
theorem prs_fmt {l : List CellD} (h : cellsB l = true) : prsB (fmtC l) = true ∧ prsC (fmtC l) = l := by
  have key : rdCs (fmtC l) = l := by
    by_cases hd : fmtC l = [45]
    · rw [fmtC_dash h hd]; rfl
    · have hl : l ≠ [] := by rintro rfl; exact hd rfl
      have hm := cellsB_mem h
      unfold rdCs
      rw [if_neg hd]
      have e : fmtC l = joinL (l.map cellT) [44] := by unfold fmtC; rw [if_pos h, if_neg hl]
      rw [e, splitL_joinL 44 _ (by simpa using hl) (by
        intro p hp
        obtain ⟨d, hd, rfl⟩ := List.mem_map.1 hp
        exact cellT_no (hm d hd).1 (hm d hd).2), List.map_map]
      conv => rhs; rw [← List.map_id l]
      refine List.map_congr_left fun d hd => ?_
      simp only [Function.comp, rdC]
      rw [cellT_cut (hm d hd).1]
      simp only
      rw [(parse_num (hm d hd).2).1]
      rfl
  have hp : prsB (fmtC l) = true := by unfold prsB; rw [key, h]; simp
  exact ⟨hp, by rw [prsC_yes hp, key]⟩
end Go.Proofs.Ytghebbndfpbkcac
/- Reply: what the laws' own helpers do with it. Written by gen/flat.py. -/
namespace Go.Proofs.Ytghebbndfpbkcac
set_option linter.unusedVariables false
open Go.RowKit
structure ReplyD where
  fCode : Int
  fValue : Int
  fText : List UInt8
  fWant : Int
  fHad : Int
deriving DecidableEq
def okReply (d : ReplyD) : Prop := (-9223372036854775808 ≤ d.fCode ∧ d.fCode ≤ 9223372036854775807) ∧ (-9223372036854775808 ≤ d.fValue ∧ d.fValue ≤ 9223372036854775807) ∧ (d.fText.length ≤ maxLen) ∧ (-9223372036854775808 ≤ d.fWant ∧ d.fWant ≤ 9223372036854775807) ∧ (-9223372036854775808 ≤ d.fHad ∧ d.fHad ≤ 9223372036854775807)
def vReply (d : ReplyD) : Value := .agg #[.int .i64 d.fCode, .int .i64 d.fValue, .string ⟨d.fText.toArray⟩, .int .i64 d.fWant, .int .i64 d.fHad]
def cReply (d : ReplyD) : List Value := [.int .i64 d.fCode, .int .i64 d.fValue, .string ⟨d.fText.toArray⟩, .int .i64 d.fWant, .int .i64 d.fHad]
theorem cReply_len (d : ReplyD) : (cReply d).length = 5 := rfl
theorem cReply_one (d : ReplyD) : ∀ u ∈ cReply d, u.oneCell' = true := by intro u hu; simp only [cReply, List.mem_cons, List.not_mem_nil, or_false] at hu; rcases hu with rfl | rfl | rfl | rfl | rfl <;> rfl
def zReply (d : ReplyD) : Nat := d.fText.length
theorem infoReply : (Try.prog.info? 136).map (fun i => (i.zero, i.size, i.bytes)) = some (some (.agg #[.int .i64 0, .int .i64 0, .string ⟨#[]⟩, .int .i64 0, .int .i64 0]), 5, 48) := by kernel_rfl
def marksReply (k : Int) (n : Nat) : List ReplyD := (List.range n).map fun i : Nat => ⟨k + i * 5, k + i * 5 + 1, markL (k + i * 5 + 1 + 1), k + i * 5 + 1 + 1 + 1, k + i * 5 + 1 + 1 + 1 + 1⟩
theorem marksReply_len (k : Int) (n : Nat) : (marksReply k n).length = n := by simp [marksReply]
theorem marksReply_get (k : Int) (n i : Nat) (h : i < n) : (marksReply k n)[i]'(by rw [marksReply_len]; exact h) = ⟨k + i * 5, k + i * 5 + 1, markL (k + i * 5 + 1 + 1), k + i * 5 + 1 + 1 + 1, k + i * 5 + 1 + 1 + 1 + 1⟩ := by simp [marksReply]
end Go.Proofs.Ytghebbndfpbkcac
/- Call: what the laws' own helpers do with it. Written by gen/flat.py. -/
namespace Go.Proofs.Ytghebbndfpbkcac
set_option linter.unusedVariables false
open Go.RowKit
structure CallD where
  fMethod : List UInt8
  fKey : List UInt8
  fValue : Int
  fText : List UInt8
deriving DecidableEq
def okCall (d : CallD) : Prop := (d.fMethod.length ≤ maxLen) ∧ (d.fKey.length ≤ maxLen) ∧ (-9223372036854775808 ≤ d.fValue ∧ d.fValue ≤ 9223372036854775807) ∧ (d.fText.length ≤ maxLen)
def vCall (d : CallD) : Value := .agg #[.string ⟨d.fMethod.toArray⟩, .string ⟨d.fKey.toArray⟩, .int .i64 d.fValue, .string ⟨d.fText.toArray⟩]
def cCall (d : CallD) : List Value := [.string ⟨d.fMethod.toArray⟩, .string ⟨d.fKey.toArray⟩, .int .i64 d.fValue, .string ⟨d.fText.toArray⟩]
theorem cCall_len (d : CallD) : (cCall d).length = 4 := rfl
theorem cCall_one (d : CallD) : ∀ u ∈ cCall d, u.oneCell' = true := by intro u hu; simp only [cCall, List.mem_cons, List.not_mem_nil, or_false] at hu; rcases hu with rfl | rfl | rfl | rfl <;> rfl
def zCall (d : CallD) : Nat := d.fMethod.length + d.fKey.length + d.fText.length
theorem infoCall : (Try.prog.info? 51).map (fun i => (i.zero, i.size, i.bytes)) = some (some (.agg #[.string ⟨#[]⟩, .string ⟨#[]⟩, .int .i64 0, .string ⟨#[]⟩]), 4, 56) := by kernel_rfl
def marksCall (k : Int) (n : Nat) : List CallD := (List.range n).map fun i : Nat => ⟨markL (k + i * 4), markL (k + i * 4 + 1), k + i * 4 + 1 + 1, markL (k + i * 4 + 1 + 1 + 1)⟩
theorem marksCall_len (k : Int) (n : Nat) : (marksCall k n).length = n := by simp [marksCall]
theorem marksCall_get (k : Int) (n i : Nat) (h : i < n) : (marksCall k n)[i]'(by rw [marksCall_len]; exact h) = ⟨markL (k + i * 4), markL (k + i * 4 + 1), k + i * 4 + 1 + 1, markL (k + i * 4 + 1 + 1 + 1)⟩ := by simp [marksCall]
end Go.Proofs.Ytghebbndfpbkcac
/- What a call does to a core, plain: the place of a key among cells, what is put, each method's answer, valid cores stay valid. -/
namespace Go.Proofs.Ytghebbndfpbkcac
set_option linter.unusedVariables false
open Go.RowKit
theorem bytes_lt2 (a b : List UInt8) : Op.bytesLess a b = decide (a < b) := Proofs.bytesLess_eq a b
def plc : List CellD → List UInt8 → Nat
  | [], _ => 0
  | c :: r, k => if c.fKey < k then plc r k + 1 else 0
def fnd : List CellD → List UInt8 → Bool
  | [], _ => false
  | c :: r, k => if c.fKey < k then fnd r k else decide (c.fKey = k)
def valAt : List CellD → List UInt8 → Int
  | [], _ => 0
  | c :: r, k => if c.fKey < k then valAt r k else c.fValue
def putC : List CellD → List UInt8 → Int → List CellD
  | [], k, v => [⟨k, v⟩]
  | c :: r, k, v => if c.fKey < k then c :: putC r k v else if c.fKey = k then ⟨k, v⟩ :: r else ⟨k, v⟩ :: c :: r
theorem plc_le (l : List CellD) (k : List UInt8) : plc l k ≤ l.length := by
  induction l with
  | nil => exact Nat.le_refl _
  | cons c r ih => unfold plc; split <;> simp <;> omega
theorem plc_below (l : List CellD) (k : List UInt8) : ∀ i (h : i < l.length), i < plc l k → (l[i]).fKey < k := by
  induction l with
  | nil => intro i h; simp at h
  | cons c r ih =>
    intro i h hi
    unfold plc at hi
    split at hi
    · cases i with
      | zero => assumption
      | succ i => exact ih i (by simpa using h) (by omega)
    · omega
theorem plc_at (l : List CellD) (k : List UInt8) (h : plc l k < l.length) : ¬ (l[plc l k]).fKey < k := by
  induction l with
  | nil => simp at h
  | cons c r ih =>
    by_cases hc : c.fKey < k
    · have e : plc (c :: r) k = plc r k + 1 := if_pos hc
      have h2 : plc r k < r.length := by rw [e] at h; simpa using h
      have := ih h2
      simp only [e, List.getElem_cons_succ]; exact this
    · have e : plc (c :: r) k = 0 := if_neg hc
      simp only [e, List.getElem_cons_zero]; exact hc
/-- the place is the one up to which all are less, and which is not -/
theorem plc_eq (l : List CellD) (k : List UInt8) (m : Nat) (hm : m ≤ l.length) (h1 : ∀ i (h : i < l.length), i < m → (l[i]).fKey < k) (h2 : ∀ h : m < l.length, ¬ (l[m]).fKey < k) : plc l k = m := by
  rcases Nat.lt_trichotomy (plc l k) m with h | h | h
  · exact absurd (h1 _ (by omega) h) (plc_at l k (by omega))
  · exact h
  · have := plc_le l k
    exact absurd (plc_below l k m (by omega) h) (h2 (by omega))
theorem fnd_at (l : List CellD) (k : List UInt8) (h : plc l k < l.length) : fnd l k = decide ((l[plc l k]).fKey = k) ∧ valAt l k = (l[plc l k]).fValue := by
  induction l with
  | nil => simp at h
  | cons c r ih =>
    by_cases hc : c.fKey < k
    · have e : plc (c :: r) k = plc r k + 1 := if_pos hc
      have h2 : plc r k < r.length := by rw [e] at h; simpa using h
      have := ih h2
      unfold fnd valAt
      rw [if_pos hc, if_pos hc]
      simp only [e, List.getElem_cons_succ]; exact this
    · have e : plc (c :: r) k = 0 := if_neg hc
      unfold fnd valAt
      rw [if_neg hc, if_neg hc]
      simp only [e, List.getElem_cons_zero]; exact ⟨trivial, trivial⟩
theorem fnd_end (l : List CellD) (k : List UInt8) (h : plc l k = l.length) : fnd l k = false := by
  induction l with
  | nil => rfl
  | cons c r ih =>
    by_cases hc : c.fKey < k
    · have e : plc (c :: r) k = plc r k + 1 := if_pos hc
      unfold fnd; rw [if_pos hc]; exact ih (by rw [e] at h; simpa using h)
    · have e : plc (c :: r) k = 0 := if_neg hc
      rw [e] at h; simp at h
theorem fnd_lt {l : List CellD} {k : List UInt8} (h : fnd l k = true) : plc l k < l.length := by
  rcases Nat.lt_or_ge (plc l k) l.length with h1 | h1
  · exact h1
  · rw [fnd_end l k (by have := plc_le l k; omega)] at h; exact absurd h (by simp)
theorem putC_found (l : List CellD) (k : List UInt8) (v : Int) (h : fnd l k = true) : putC l k v = l.set (plc l k) ⟨k, v⟩ := by
  induction l with
  | nil => simp [fnd] at h
  | cons c r ih =>
    unfold fnd at h
    unfold putC plc
    by_cases hc : c.fKey < k
    · rw [if_pos hc] at h ⊢
      rw [if_pos hc, List.set_cons_succ, ih h]
    · rw [if_neg hc] at h ⊢
      rw [if_neg hc, if_pos (by simpa using h), List.set_cons_zero]
theorem putC_new (l : List CellD) (k : List UInt8) (v : Int) (h : fnd l k = false) : putC l k v = l.take (plc l k) ++ ⟨k, v⟩ :: l.drop (plc l k) := by
  induction l with
  | nil => rfl
  | cons c r ih =>
    unfold fnd at h
    unfold putC plc
    by_cases hc : c.fKey < k
    · rw [if_pos hc] at h ⊢
      rw [if_pos hc, List.take_succ_cons, List.drop_succ_cons, ih h]; rfl
    · rw [if_neg hc] at h ⊢
      rw [if_neg hc, if_neg (by simpa using h)]; rfl
theorem putC_len (l : List CellD) (k : List UInt8) (v : Int) : (putC l k v).length = if fnd l k = true then l.length else l.length + 1 := by
  cases h : fnd l k with
  | true => rw [putC_found l k v h]; simp
  | false => rw [putC_new l k v h]; have := plc_le l k; simp; omega
def SortC (l : List CellD) : Prop := l.Pairwise (fun a b => a.fKey < b.fKey)
theorem key_trans {a b c : List UInt8} (h : a < b) (k : b < c) : a < c := List.lt_trans h k
theorem key_irr (a : List UInt8) : ¬ a < a := List.lt_irrefl a
theorem key_tri {a b : List UInt8} (h : ¬ a < b) (hn : a ≠ b) : b < a := by
  rcases List.le_total a b with h1 | h1
  · exact absurd (List.le_antisymm h1 (List.not_lt.1 h)) hn
  · exact List.not_le.1 fun h2 => hn (List.le_antisymm h2 h1)
theorem sortC_of (l : List CellD) (h : ∀ i (h : i + 1 < l.length), (l[i]).fKey < (l[i + 1]).fKey) : SortC l := by
  unfold SortC
  rw [List.pairwise_iff_getElem]
  intro i j hi hj hij
  induction j with
  | zero => omega
  | succ j ih =>
    rcases Nat.lt_or_ge i j with h1 | h1
    · exact key_trans (ih (by omega) h1) (h j hj)
    · have : i = j := by omega
      subst this; exact h i hj
theorem cellsB_sort {l : List CellD} (h : cellsB l = true) : SortC l := by
  refine sortC_of l fun i hi => ?_
  simp only [cellsB, Bool.and_eq_true] at h
  have := okTo_at l _ (i + 1) h.2 hi
  simp only [okAt, Bool.and_eq_true, Bool.or_eq_true, Nat.add_one_sub_one] at this
  have := this.2
  rw [getD_at l (i + 1) hi, getD_at l i (by omega), bytes_lt2] at this
  simpa using this
theorem cellsB_of {l : List CellD} (h1 : l.length ≤ 4) (h2 : ∀ d ∈ l, nameB d.fKey = true ∧ numB d.fValue = true) (h3 : SortC l) : cellsB l = true := by
  unfold cellsB
  rw [Bool.and_eq_true]
  refine ⟨by simpa using h1, ?_⟩
  unfold okTo
  rw [List.all_eq_true]
  intro i hi
  rw [List.mem_range] at hi
  have hm := h2 (l[i]) (List.getElem_mem hi)
  rw [okAt_of l i hi true true true hm.1 hm.2 ?_]
  · rfl
  · cases i with
    | zero => rfl
    | succ i =>
      simp only [Nat.add_one_sub_one, Bool.or_eq_true]
      right
      rw [getD_at l i (by omega), bytes_lt2, decide_eq_true_iff]
      exact (List.pairwise_iff_getElem.1 h3) i (i + 1) (by omega) hi (by omega)
theorem putC_mem {l : List CellD} {k : List UInt8} {v : Int} {d : CellD} (h : d ∈ putC l k v) : d = ⟨k, v⟩ ∨ d ∈ l := by
  induction l with
  | nil => left; simpa [putC] using h
  | cons c r ih =>
    unfold putC at h
    split at h
    · rcases List.mem_cons.1 h with h | h
      · right; rw [h]; exact List.mem_cons_self
      · exact (ih h).imp id (List.mem_cons_of_mem _)
    · split at h
      · rcases List.mem_cons.1 h with h | h
        · exact Or.inl h
        · exact Or.inr (List.mem_cons_of_mem _ h)
      · rcases List.mem_cons.1 h with h | h
        · exact Or.inl h
        · exact Or.inr h
theorem putC_sort {l : List CellD} (k : List UInt8) (v : Int) (h : SortC l) : SortC (putC l k v) := by
  induction l with
  | nil => simp [putC, SortC]
  | cons c r ih =>
    have hc := List.pairwise_cons.1 h
    unfold putC
    split
    · rename_i hl
      refine List.pairwise_cons.2 ⟨fun d hd => ?_, ih hc.2⟩
      rcases putC_mem hd with rfl | hd
      · exact hl
      · exact hc.1 d hd
    · rename_i hl
      split
      · rename_i he
        refine List.pairwise_cons.2 ⟨fun d hd => ?_, hc.2⟩
        rw [← he]; exact hc.1 d hd
      · rename_i he
        have hk := key_tri hl he
        refine List.pairwise_cons.2 ⟨fun d hd => ?_, h⟩
        rcases List.mem_cons.1 hd with rfl | hd
        · exact hk
        · exact key_trans hk (hc.1 d hd)
theorem putC_cells {l : List CellD} {k : List UInt8} {v : Int} (h : cellsB l = true) (hk : nameB k = true) (hv : numB v = true) (hl : fnd l k = true ∨ l.length < 4) : cellsB (putC l k v) = true := by
  refine cellsB_of ?_ ?_ (putC_sort k v (cellsB_sort h))
  · rw [putC_len]; have := cellsB_len h; split
    · exact this
    · rcases hl with hl | hl
      · contradiction
      · omega
  · intro d hd
    rcases putC_mem hd with rfl | hd
    · exact ⟨hk, hv⟩
    · exact cellsB_mem h d hd
/-- behind the place nothing has this key -/
theorem sort_after {l : List CellD} (h : SortC l) (k : List UInt8) (i : Nat) (hi : i < l.length) (hp : plc l k < i) : k < (l[i]).fKey := by
  have h1 := plc_at l k (by omega)
  have h2 := (List.pairwise_iff_getElem.1 h) (plc l k) i (by omega) hi hp
  by_cases he : (l[plc l k]).fKey = k
  · rw [← he]; exact h2
  · exact key_trans (key_tri h1 he) h2
def upI (n : Int) : Int := if n < 999 then n + 1 else n
theorem upI_num {n : Int} (h : numB n = true) : numB (upI n) = true := by
  simp only [numB, Bool.and_eq_true, decide_eq_true_iff] at h ⊢
  unfold upI; split <;> omega
def rC (c : Int) : ReplyD := ⟨c, 0, [], 0, 0⟩
def rV (v : Int) : ReplyD := ⟨0, v, [], 0, 0⟩
def rT (t : List UInt8) : ReplyD := ⟨0, 0, t, 0, 0⟩
def idleI (d : CoreD) : Int := if d.fBroken = true then 3 else if (!d.fOn && hasI (coreF d) 0) = true then 2 else 0
def startD (d : CoreD) : CoreD × ReplyD :=
  if d.fBroken = true then (d, rC 3) else if d.fOn = true then ({ d with fOn := false, fBroken := true }, rC 3) else ({ d with fOn := true, fCount := upI d.fCount }, rC 0)
def stopD (d : CoreD) : CoreD × ReplyD :=
  if d.fBroken = true then (d, rC 3) else if d.fOn = true then ({ d with fOn := false }, rC 0) else (d, rC 2)
def getD1 (d : CoreD) (k : List UInt8) : CoreD × ReplyD :=
  if idleI d = 0 then (if fnd d.fCells k = true then (d, rV (valAt d.fCells k)) else (d, rC 4)) else (d, rC (idleI d))
def putD (d : CoreD) (k : List UInt8) (v : Int) : CoreD × ReplyD :=
  if idleI d = 0 then
    (if fnd d.fCells k = true ∨ d.fCells.length < 4 then ({ d with fCells := putC d.fCells k v, fCount := upI d.fCount }, rV (putC d.fCells k v).length) else (d, rC 5))
  else (d, rC (idleI d))
def tellD (d : CoreD) : CoreD × ReplyD := (d, rV d.fCount)
def hearD (d : CoreD) (v : Int) : CoreD × ReplyD :=
  if d.fBroken = true then (d, rC 3) else ({ d with fOn := if v = 0 then false else if v = 1 then true else d.fOn, fCount := upI d.fCount }, rV (upI d.fCount))
def loadD (d : CoreD) (t : List UInt8) : CoreD × ReplyD :=
  if d.fBroken = true then (d, rC 3) else if prsB t = true then ({ d with fCells := prsC t }, rV (prsC t).length) else (d, rC 6)
def saveD (d : CoreD) : CoreD × ReplyD := if d.fBroken = true then (d, rC 3) else (d, rT (fmtC d.fCells))
def healD (d : CoreD) : CoreD × ReplyD := ({ d with fOn := false, fBroken := false }, rC 0)
/-- the methods, in the order of the abilities -/
def mthD (d : CoreD) (x : CallD) : CoreD × ReplyD :=
  if x.fMethod = [83, 116, 97, 114, 116] then startD d
  else if x.fMethod = [83, 116, 111, 112] then stopD d
  else if x.fMethod = [71, 101, 116] then getD1 d x.fKey
  else if x.fMethod = [80, 117, 116] then putD d x.fKey x.fValue
  else if x.fMethod = [84, 101, 108, 108] then tellD d
  else if x.fMethod = [72, 101, 97, 114] then hearD d x.fValue
  else if x.fMethod = [76, 111, 97, 100] then loadD d x.fText
  else if x.fMethod = [83, 97, 118, 101] then saveD d
  else healD d
end Go.Proofs.Ytghebbndfpbkcac
/- the model's small helpers of calls: l3Up, l3Copy, l3At, l3Put -/
namespace Go.Proofs.Ytghebbndfpbkcac
set_option linter.unusedVariables false
set_option linter.unusedSimpArgs false
open Go.RowKit
/-- the first place of a key; -1 -/
def atK (l : List CellD) (k : List UInt8) : Int := findK (fun i => (l.getD i default).fKey == k) 0 l.length
theorem atK_sort {l : List CellD} (h : SortC l) (k : List UInt8) : atK l k = if fnd l k = true then (plc l k : Int) else -1 := by
  unfold atK
  cases hf : fnd l k with
  | true =>
    have hp := fnd_lt hf
    have hk : (l[plc l k]).fKey = k := by have := (fnd_at l k hp).1; rw [hf] at this; simpa using this.symm
    have key : ∀ m, m ≤ plc l k → findK (fun i => (l.getD i default).fKey == k) (plc l k - m) (l.length - (plc l k - m)) = (plc l k : Int) := by
      intro m
      induction m with
      | zero => intro _; exact findK_yes (by omega) (by rw [Nat.sub_zero, getD_at l _ hp, hk]; simp)
      | succ m ih =>
        intro hm
        have h1 : plc l k - (m + 1) < l.length := by omega
        rw [findK_no h1, show plc l k - (m + 1) + 1 = plc l k - m by omega, ih (by omega)]
        rw [getD_at l _ h1]
        have h2 := plc_below l k _ h1 (by omega)
        simp only [beq_eq_false_iff_ne, ne_eq]
        intro e; rw [e] at h2; exact key_irr k h2
    have := key (plc l k) (Nat.le_refl _)
    simpa using this
  | false =>
    have key : ∀ m, m ≤ l.length → findK (fun i => (l.getD i default).fKey == k) (l.length - m) (l.length - (l.length - m)) = -1 := by
      intro m
      induction m with
      | zero => intro _; rw [Nat.sub_zero]; exact findK_end
      | succ m ih =>
        intro hm
        have h1 : l.length - (m + 1) < l.length := by omega
        rw [findK_no h1, show l.length - (m + 1) + 1 = l.length - m by omega, ih (by omega)]
        rw [getD_at l _ h1]
        simp only [beq_eq_false_iff_ne, ne_eq]
        intro e
        rcases Nat.lt_trichotomy (l.length - (m + 1)) (plc l k) with h2 | h2 | h2
        · have := plc_below l k _ h1 h2; rw [e] at this; exact key_irr k this
        · have := (fnd_at l k (by omega)).1
          rw [hf] at this
          simp only [← h2] at this
          rw [e] at this; simp at this
        · have := sort_after h k _ h1 h2; rw [e] at this; exact key_irr k this
    have := key l.length (Nat.le_refl _)
    simpa using this
set_option maxHeartbeats 1600000 in
theorem l3At_any (v : Value) (l : List CellD) (key : List UInt8) (w : World) (hx : FlatAt cCell 2 w v l) :
    Calls Try.prog 143 #[v, .string ⟨key.toArray⟩] w fun e w' => e = .returned (.int .i64 (atK l key)) ∧ Below w.heap.size w w' := by
  obtain ⟨a, c, rfl, hl⟩ := flatAt_len hx
  have HX := Lib.hid hx
  clear hx
  unfold maxLen at hl
  have HA := Lib.hid (show atK l key = findK (fun i => (l.getD i default).fKey == key) 0 (l.length - 0) from rfl)
  generalize atK l key = res at *
  go_enter Try.func143, Try.ntmps143
  go_wp2_with fail
  go_loopw [5, 6, 9] (fun _ _ i wr => ∃ k : Nat, k ≤ l.length ∧ i = .int .i64 k ∧ findK (fun i => (l.getD i default).fKey == key) k (l.length - k) = res ∧ Below w.heap.size w wr) (fun _ _ i _ => l.length - (intOf i).toNat)
  case atStart => exact ⟨0, Nat.zero_le _, rfl, HA.out.symm, Below.refl _ _⟩
  case round =>
    obtain ⟨k, hk, rfl, hok, hb⟩ := hrel
    have HO := Lib.hid hok
    have HB := Lib.hid hb
    have HXr := Lib.hid (FlatAt.below HX.out hb (Nat.le_refl _))
    clear hok hb
    by_cases hlt : k < l.length
    · obtain ⟨b, o, rfl, hbl, hd⟩ := flatAt_cell cCell_len HXr.out k hlt (by decide)
      have d0 := hd 0 (by decide)
      have d1 := hd 1 (by decide)
      clear hd
      have HBB := Lib.hid (show ∀ o1, Below w.heap.size w (wr.alloc o1) from fun o1 => HB.out.alloc HB.out.size _)
      cases heq : ((l[k]).fKey == key) with
      | true =>
        have HR := Lib.hid (show (k : Int) = res from by rw [← HO.out]; exact (findK_yes hlt (by rw [getD_at l k hlt]; exact heq)).symm)
        generalize l[k] = p at *
        obtain ⟨a0, a1⟩ := p
        simp only [cCell, List.getElem?_cons_zero, List.getElem?_cons_succ, Nat.add_zero] at d0 d1
        go_wp2_with fail
        go_ret
        exact ⟨ret_int HR.out, HBB.out _⟩
      | false =>
        have HR := Lib.hid (show findK (fun i => (l.getD i default).fKey == key) (k + 1) (l.length - (k + 1)) = res from by rw [← HO.out]; exact (findK_no hlt (by rw [getD_at l k hlt]; exact heq)).symm)
        generalize l[k] = p at *
        obtain ⟨a0, a1⟩ := p
        simp only [cCell, List.getElem?_cons_zero, List.getElem?_cons_succ, Nat.add_zero] at d0 d1
        go_wp2_with fail
        exact ⟨⟨k + 1, by omega, by go_num, HR.out, HBB.out _⟩, by simp [intOf]; omega⟩
    · have HR := Lib.hid (show (-1 : Int) = res from by rw [← HO.out, show k = l.length by omega]; exact findK_end.symm)
      go_wp2_with fail
      go_ret
      exact ⟨ret_int HR.out, HB.out⟩
end Go.Proofs.Ytghebbndfpbkcac
/- Contracts of chapter 3: the program's FormatCells. -/
namespace Go.Proofs.Ytghebbndfpbkcac
set_option linter.unusedVariables false
open Go.RowKit
/-- append of one text to a row of one's own, at a step of a region that draws -/
theorem step_strs {ops : Array Oper} {o : Oper} {a : Act} {K : Act → World → Prop} {Q : Exit → Act → World → Prop} {E : Prop} (hgd : o.guard = none) (s x : Operand)
    (ho : o.op = .call { callee := .builtin .append, args := #[s, x], argTypes := #[63, 63] }) (B : Nat) (v : Value) (xs : List (List UInt8)) (y : List UInt8) (w : World) (blk : Nat)
    (hs : a.eval s = v) (hO : Owns w B v xs) (hx : a.eval x = .slice (some ⟨blk, 0, none⟩) 1 1) (hc : w.cell? ⟨blk, 0, none⟩ = some (strV y)) (hl : xs.length ≤ 4194304) (hB : B ≤ w.heap.size)
    (h : ∀ v' w', Owns w' B v' (xs ++ [y]) → w.grownBy w' v.ownBlock → K (a.put o.dst v') w') : if Region.wanted o (yielded ops a.tmps) = true then Oper.wp Try.prog o a w K Q else E := by
  obtain ⟨i0, hi, hz0, hz1, hz2⟩ := info_parts string_info
  refine step_append_lies w hgd s x 63 ho B 9 i0 (.string ⟨#[]⟩) 1 16 Try.underlying63 hi hz0 hz1 hz2 rfl (by decide) v xs.length (xs.map strV) hs hO ⟨blk, 0, none⟩ 1 1 [strV y] hx rfl ?_ ?_ (by decide) (by unfold maxLen; omega) (by omega) hB _ rfl ?_
  · intro j u hj
    cases j with
    | zero => simp at hj; subst hj; rw [Addr.add_lit]; exact hc
    | succ j => simp at hj
  · intro u hu; simp at hu; subst hu; rfl
  · intro g cap w' h1 h2 _ _
    refine h _ w' ?_ h2
    unfold Owns; rw [List.map_append, List.length_append]; exact h1
theorem owns_drew {w : World} {B : Nat} {v : Value} {xs : List (List UInt8)} (h : Owns w B v xs) : Owns w.drew B v xs := h
theorem below_drew {B : Nat} {a w : World} (h : Below B a w) : Below B a w.drew := ⟨h.os, h.tape, h.output, h.size, h.block⟩
theorem row_lit2 (w : World) (a b : List UInt8) (c : Nat) (hc : 2 ≤ c := by decide) : RowAt (w.alloc (.cells #[.string ⟨a.toArray⟩, .string ⟨b.toArray⟩] 9)) (.slice (some ⟨w.heap.size, 0, none⟩) 2 c) ([a, b].map strV) := by
  refine ⟨_, _, cap_eq _ hc, by unfold maxLen; simp, Or.inr ⟨w.heap.size, 0, rfl, by simp, fun i hi => ?_⟩⟩
  rw [cell_of_row _ _ _ _ 9 (0, 0) (heap_alloc_new w _)]
  simp [strV]
theorem row_lit1 (w : World) (a : List UInt8) (c : Nat) (hc : 1 ≤ c := by decide) : RowAt (w.alloc (.cells #[.string ⟨a.toArray⟩] 9)) (.slice (some ⟨w.heap.size, 0, none⟩) 1 c) ([a].map strV) := by
  refine ⟨_, _, cap_eq _ hc, by unfold maxLen; simp, Or.inr ⟨w.heap.size, 0, rfl, by simp, fun i hi => ?_⟩⟩
  rw [cell_of_row _ _ _ _ 9 (0, 0) (heap_alloc_new w _)]
  simp [strV]
theorem nameB_len8 {l : List UInt8} (h : nameB l = true) : l.length ≤ 8 := by simp only [nameB, Bool.and_eq_true, decide_eq_true_iff] at h; exact h.1.1.2
theorem cellT_len {d : CellD} (h : nameB d.fKey = true) (h2 : numB d.fValue = true) : (cellT d).length ≤ 12 := by
  obtain ⟨k, e, hk⟩ := numB_nat h2
  have h1 := nameB_len8 h
  have h3 := numL_len hk
  unfold cellT; rw [e]; simp; omega
theorem fmt_small (l : List CellD) (h : ∀ d ∈ l, nameB d.fKey = true ∧ numB d.fValue = true) (hl : l.length ≤ 4) : (joinL (l.map cellT) [44]).length ≤ 100 := by
  have h1 := joinK_len (l.map cellT) [44] (l.map cellT).length (Nat.le_refl _)
  rw [List.take_length, List.length_map] at h1
  have h2 : total (l.map cellT) ≤ 12 * l.length := by
    clear h1 hl
    induction l with
    | nil => simp [total]
    | cons a r ih =>
      have := ih fun d hd => h d (List.mem_cons_of_mem _ hd)
      have h3 := cellT_len (h a List.mem_cons_self).1 (h a List.mem_cons_self).2
      simp only [List.map_cons, total, List.length_cons]; omega
  unfold joinL; simp only [List.length_map, List.length_cons, List.length_nil] at *; omega
theorem map_cellT_snoc (l : List CellD) (k : Nat) (h : k < l.length) : (l.take (k + 1)).map cellT = (l.take k).map cellT ++ [cellT l[k]] := by
  rw [List.take_succ_eq_append_getElem h, List.map_append]; rfl
set_option maxRecDepth 100000 in
set_option maxHeartbeats 1600000 in
theorem implFormatCells_any (v : Value) (l : List CellD) (w : World) (hx : FlatAt cCell 2 w v l) (hs : ∀ d ∈ l, d.fKey.length ≤ maxLen) :
    Calls Try.prog 21 #[v] w fun e w' => e = .returned (.string ⟨(fmtC l).toArray⟩) ∧ Below w.heap.size w w' := by
  have HC := Lib.hid (implIsCells_any v l w hx hs)
  obtain ⟨a, c, rfl, hl⟩ := flatAt_len hx
  have HX := Lib.hid hx
  clear hx hs
  unfold maxLen at hl
  cases hc : cellsB l with
  | false =>
    have HF := Lib.hid (show fmtC l = [] by unfold fmtC; rw [hc]; rfl)
    rw [hc] at HC
    clear hc
    go_enter Try.func21, Try.ntmps21
    go_wp2_with fail
    refine HC.out.mono ?_
    rintro e w1 ⟨rfl, hb⟩
    go_wp2_with fail
    go_ret
    exact ⟨ret_str (by rw [HF.out]), hb⟩
  | true =>
    have hm := cellsB_mem hc
    have hl4 := cellsB_len hc
    by_cases h0 : l = []
    · subst h0
      have HF := Lib.hid (show fmtC [] = [45] by rfl)
      rw [hc] at HC
      clear hc
      go_enter Try.func21, Try.ntmps21
      go_wp2_with fail
      refine HC.out.mono ?_
      rintro e w1 ⟨rfl, hb⟩
      go_wp2_with fail
      go_ret
      exact ⟨ret_str (by rw [HF.out]), hb⟩
    · have hpos : 0 < l.length := List.length_pos_iff.2 h0
      have hne : ((l.length : Int) == 0) = false := by rw [beq_eq_false_iff_ne]; omega
      have HF := Lib.hid (show fmtC l = joinL (l.map cellT) [44] by unfold fmtC; rw [if_pos hc, if_neg h0])
      have HSM := Lib.hid (fmt_small l hm hl4)
      have HM := Lib.hid hm
      rw [hc] at HC
      clear hc h0 hm
      go_enter Try.func21, Try.ntmps21
      go_wp2_with fail
      refine HC.out.mono ?_
      rintro e w1 ⟨rfl, hb⟩
      have HB := Lib.hid hb
      have HX1 := Lib.hid (FlatAt.below HX.out hb (Nat.le_refl _))
      clear hb
      have HO := Lib.hid (owns_new w1)
      have HS1 := Lib.hid HB.out.size
      go_wp2_with fail
      go_loopw [3, 5, 15] (fun ov _ i wr => ∃ k : Nat, k ≤ l.length ∧ i = .int .i64 k ∧ Owns wr w1.heap.size ov ((l.take k).map cellT) ∧ Below w.heap.size w wr ∧ Below w1.heap.size w1 wr) (fun _ _ i _ => l.length - (intOf i).toNat)
      case atStart => exact ⟨0, Nat.zero_le _, rfl, HO.out, HB.out.alloc HB.out.size _, (Below.refl _ _).alloc (Nat.le_refl _) _⟩
      case round =>
        obtain ⟨k, hk, rfl, hO, hb, hb1⟩ := hrel
        have HO2 := Lib.hid hO
        have HB2 := Lib.hid hb
        have HB3 := Lib.hid hb1
        have HXr := Lib.hid (FlatAt.below HX1.out hb1 (Nat.le_refl _))
        clear hO hb hb1
        by_cases hlt : k < l.length
        · obtain ⟨b, o, rfl, hbl, hd⟩ := flatAt_cell cCell_len HXr.out k hlt (by decide)
          have d0 := hd 0 (by decide)
          have d1 := hd 1 (by decide)
          clear hd
          have HSN := Lib.hid (map_cellT_snoc l k hlt)
          have hmm := HM.out l[k] (List.getElem_mem hlt)
          obtain ⟨z, hz, hz9⟩ := numB_nat hmm.2
          have HN8 := Lib.hid (nameB_len8 hmm.1)
          have HZ3 := Lib.hid (numL_len hz9)
          have HCT := Lib.hid (show joinL [(l[k]).fKey, numL z] [61] = cellT l[k] by rw [joinL_two]; unfold cellT; rw [hz])
          have HFM := Lib.hid (fun w0 => implFormat_any z w0 (by omega) (by omega))
          clear hmm
          generalize l[k] = p at *
          obtain ⟨a0, a1⟩ := p
          simp only [cCell, List.getElem?_cons_zero, List.getElem?_cons_succ, Nat.add_zero] at d0 d1 hz
          subst hz
          have HJ := Lib.hid (fun (w0 : World) (n0 : Nat) (h : n0 = w0.heap.size) => implJoin_any (.slice (some ⟨n0, 0, none⟩) 2 2) [a0, numL z] ⟨#[61]⟩ _ (by subst h; exact row_lit2 w0 a0 (numL z) 2) (by have := HN8.out; have := HZ3.out; simp only at *; rw [joinL_two]; simp; omega) (by decide))
          rw [HCT.out] at HJ
          have HLT := Lib.hid (show ∀ g, u3.ownBlock = some g → g < wr.heap.size from fun g h => (World.ownsRow.lt HO2.out g h).2)
          go_wp2_with fail
          go_region_held3 (fun w' => w'.cell? ⟨wr.heap.size, 0, none⟩ = some (.string ⟨a0.toArray⟩) ∧ w'.cell? ⟨wr.heap.size, 1, none⟩ = some (.int .i64 z))
            (first
              | go_keep
              | (rw [hb1.cell (p := ⟨wr.heap.size, 0, none⟩) (by simp), hb1.cell (p := ⟨wr.heap.size, 1, none⟩) (by simp)]; assumption)
              | (rw [hb2.cell (p := ⟨wr.heap.size, 0, none⟩) (by have := hb1.size; simp at this; simp; omega), hb2.cell (p := ⟨wr.heap.size, 1, none⟩) (by have := hb1.size; simp at this; simp; omega)]; assumption)
              | (rw [hg1.cell_far ⟨wr.heap.size, 0, none⟩ (by have := hb1.size; have := hb2.size; simp at *; omega) (by intro e; have := HLT.out _ e.symm; simp at this), hg1.cell_far ⟨wr.heap.size, 1, none⟩ (by have := hb1.size; have := hb2.size; simp at *; omega) (by intro e; have := HLT.out _ e.symm; simp at this)]; assumption))
            (first
              | (go_at_call 59; refine (HFM.out _).mono ?_; rintro e w2 ⟨rfl, hb1⟩)
              | (go_at_call 58; refine (HJ.out _ _ rfl).mono ?_; rintro e w3 ⟨rfl, hb2⟩)
              | (refine step_strs rfl _ _ rfl w1.heap.size u3 ((l.take k).map cellT) (cellT ⟨a0, z⟩) _ w3.heap.size rfl (owns_alloc (owns_below (owns_alloc (owns_below (owns_drew (owns_alloc HO2.out _)) hb1 (Nat.le_refl _)) _) hb2 (Nat.le_refl _)) _) rfl (cell_new _ _ _) ?_ ?_ ?_; (simp; omega); (have h1 := hb1.size; have h2 := hb2.size; have h3 := HB3.out.size; simp at h1 h2 h3; simp; omega); intro v' w4 hO4 hg1))
          have HA := Lib.hid (below_drew ((Below.refl wr.heap.size wr).alloc (Nat.le_refl _) (.cells #[.string ⟨a0.toArray⟩, .int .i64 z] 49)))
          have HA1 := Lib.hid ((HA.out.trans (hb1.mono HA.out.size)).alloc (HA.out.trans (hb1.mono HA.out.size)).size (.cells #[.string ⟨a0.toArray⟩, .string ⟨(numL z).toArray⟩] 9))
          have HA2 := Lib.hid ((HA1.out.trans (hb2.mono HA1.out.size)).alloc (HA1.out.trans (hb2.mono HA1.out.size)).size (.cells #[.string ⟨(cellT ⟨a0, z⟩).toArray⟩] 9))
          have HA3 := Lib.hid (below_append (HB3.out.trans (HA2.out.mono HB3.out.size)) (owns_alloc (owns_below (owns_alloc (owns_below (owns_drew (owns_alloc HO2.out _)) hb1 (Nat.le_refl _)) _) hb2 (Nat.le_refl _)) _) hg1 (HB3.out.trans (HA2.out.mono HB3.out.size)).size)
          have HO4' := Lib.hid hO4
          rename_i hheld
          clear hb1 hb2 hg1 hO4 hheld
          go_wp2_with fail
          exact ⟨⟨k + 1, by omega, by go_num, by rw [HSN.out]; exact HO4'.out, HB.out.trans (HA3.out.mono HS1.out), HA3.out⟩, by simp [intOf]; omega⟩
        · have HN := Lib.hid (show (l.take k).map cellT = l.map cellT from by rw [List.take_of_length_le (by omega)])
          have HJ := Lib.hid (implJoin_any u3 (l.map cellT) ⟨#[44]⟩ wr (by rw [← HN.out]; exact owns_row HO2.out (by simp; omega)) (by have := HSM.out; simp only at *; omega) (by decide))
          go_wp2_with fail
          refine HJ.out.mono ?_
          rintro e w2 ⟨rfl, hb⟩
          go_wp2_with fail
          go_ret
          exact ⟨ret_str HF.out.symm, HB2.out.trans (hb.mono HB2.out.size)⟩
end Go.Proofs.Ytghebbndfpbkcac
/- Contracts of chapter 3: the program's readCells, ParseCells. -/
namespace Go.Proofs.Ytghebbndfpbkcac
set_option linter.unusedVariables false
open Go.RowKit
theorem append_cell {ops : Array Oper} {rest : List Oper} {o : Oper} {a : Act} {Q : Exit → Act → World → Prop} (hgd : o.guard = none) (s x : Operand)
    (ho : o.op = .call { callee := .builtin .append, args := #[s, x], argTypes := #[42, 42] }) (B : Nat) (v : Value) (l : List CellD) (y : CellD) (w : World) (blk : Nat)
    (hs : a.eval s = v) (hO : OwnsF cCell 49 2 w B v l) (hx : a.eval x = .slice (some ⟨blk, 0, none⟩) 1 1) (hc : ∀ j, j < 2 → w.cell? ⟨blk, j, none⟩ = (cCell y)[j]?) (hl : l.length ≤ 4194304) (hB : B ≤ w.heap.size)
    (h : ∀ v' w', OwnsF cCell 49 2 w' B v' (l ++ [y]) → w.grownBy w' v.ownBlock → wpList Try.prog ops Q rest (a.put o.dst v') w') : wpList Try.prog ops Q (o :: rest) a w :=
  append_flat cCell_len cCell_one cell_info rfl (by decide) (by decide) Try.underlying42 hgd s x ho B v l y w blk hs hO hx hc hl hB h
theorem map_rdC_snoc (l : List (List UInt8)) (k : Nat) (h : k < l.length) : (l.take (k + 1)).map rdC = (l.take k).map rdC ++ [rdC l[k]] := by
  rw [List.take_succ_eq_append_getElem h, List.map_append]; rfl
set_option maxRecDepth 100000 in
set_option maxHeartbeats 1600000 in
theorem implReadCells_any (s : ByteArray) (m : Int) (w : World) (hm : w.cell? ⟨0, 0, none⟩ = some (.int .i64 m)) (hs : s.size ≤ 1048576) :
    Calls Try.prog 57 #[.string s] w fun e w' => GivesF cCell 49 2 (rdCs s.data.toList) w e w' := by
  have HG := Lib.hid (World.block_lt_of_cell? w _ hm)
  have HM := Lib.hid hm
  have HO := Lib.hid (ownsF_new cCell 49 2 w)
  clear hm
  by_cases hd : s.data.toList = [45]
  · have hb : (s.toList == [45]) = true := by rw [Lib.toList_data, hd]; rfl
    have HR := Lib.hid (show rdCs s.data.toList = [] from if_pos hd)
    clear hd
    go_enter Try.func57, Try.ntmps57
    go_wp2_with fail
    go_ret
    exact ⟨_, rfl, by rw [HR.out]; exact HO.out, (Below.refl _ _).alloc (Nat.le_refl _) _⟩
  · have hb : (s.toList == [45]) = false := by rw [Lib.toList_data]; simpa using hd
    have HR := Lib.hid (show rdCs s.data.toList = (splitL s.data.toList [44]).map rdC from if_neg hd)
    have HA := Lib.hid (show ∀ o, Below w.heap.size w (w.alloc o) from fun o => (Below.refl w.heap.size w).alloc (Nat.le_refl _) o)
    have HSP := Lib.hid (fun o => implSplit_any s ⟨#[44]⟩ m (w.alloc o) (((HA.out o).cell (p := ⟨0, 0, none⟩) HG.out).trans HM.out) hs (by decide))
    have hxl : (splitL s.data.toList [44]).length ≤ 1048577 := by have := splitL_len s.data.toList [44]; rw [size_list] at this; omega
    have HP := Lib.hid (fun p (hp : p ∈ splitL s.data.toList [44]) => show p.length ≤ 1048576 from by have := split_part _ _ p hp; rw [size_list] at this; omega)
    clear hd
    rw [show (⟨#[44]⟩ : ByteArray).data.toList = [44] from rfl] at HSP
    generalize splitL s.data.toList [44] = x at *
    go_enter Try.func57, Try.ntmps57
    go_wp2_with fail
    refine (HSP.out _).mono ?_
    rintro e w1 ⟨u, rfl, ho, hb1⟩
    have HO1 := Lib.hid (ownsF_below HO.out hb1 (Nat.le_refl _))
    have HB := Lib.hid ((HA.out _).trans (hb1.mono (HA.out _).size))
    have HX := Lib.hid (show Owns w1 (w.heap.size + 1) u x from by simpa using ho)
    obtain ⟨a, c, rfl, _⟩ := rowAt_len (owns_row ho (by omega))
    rw [List.length_map] at *
    clear ho hb1
    go_wp2_with fail
    go_loopw [3, 5, 6, 7, 8, 9, 10, 18] (fun ov _ _ _ _ _ _ i wr => ∃ k : Nat, k ≤ x.length ∧ i = .int .i64 k ∧ OwnsF cCell 49 2 wr w.heap.size ov ((x.take k).map rdC) ∧ Below w.heap.size w wr ∧ Owns wr (w.heap.size + 1) (.slice a x.length c) x) (fun _ _ _ _ _ _ _ i _ => x.length - (intOf i).toNat)
    case atStart => exact ⟨0, Nat.zero_le _, rfl, HO1.out, HB.out, HX.out⟩
    case round =>
      obtain ⟨k, hk, rfl, hO, hb, hX⟩ := hrel
      have HO2 := Lib.hid hO
      have HB2 := Lib.hid hb
      have HXr := Lib.hid hX
      clear hO hb hX
      by_cases hlt : k < x.length
      · obtain ⟨b, o, rfl, hbl, d1⟩ := rowAt_cell (owns_row HXr.out (by omega)) k (by simpa using hlt)
        rw [getElem_map_strV] at d1
        unfold strV at d1
        have HSN := Lib.hid (map_rdC_snoc x k hlt)
        have hp := HP.out x[k] (List.getElem_mem hlt)
        have HMr := Lib.hid ((HB2.out.cell (p := ⟨0, 0, none⟩) HG.out).trans HM.out)
        generalize x[k] = p at *
        have hcl := cut_len p [61]
        have HCT := Lib.hid (Try.strings_Cut ⟨p.toArray⟩ ⟨#[61]⟩ m wr (by rw [size_strB]; omega) HMr.out)
        rw [dataL, show (⟨#[61]⟩ : ByteArray).data.toList = [61] from rfl] at HCT
        have HRD := Lib.hid (show rdC p = ⟨(Lib.cut p [61]).1, pnum (Lib.cut p [61]).2.1⟩ from rfl)
        generalize Lib.cut p [61] = t at *
        obtain ⟨t1, t2, t3⟩ := t
        simp only at HCT HRD hcl
        have HPN := Lib.hid (fun w0 => implParse_any ⟨t2.toArray⟩ w0 (by rw [size_strB]; unfold maxLen; omega))
        simp only at HPN
        have HCP := Lib.hid (fun w0 => copyText_any ⟨t1.toArray⟩ w0 (by rw [size_strB]; omega))
        go_wp2_with fail
        refine HCT.out.mono ?_
        rintro e w2 ⟨rfl, nd, rfl⟩
        go_wp2_with fail
        refine (HPN.out _).mono ?_
        rintro e w2 ⟨rfl, rfl⟩
        go_wp2_with fail
        refine (HCP.out _).mono ?_
        rintro e w3 ⟨rfl, hb3⟩
        have HB3 := Lib.hid ((below_drewN HB2.out nd).trans (hb3.mono HB2.out.size))
        have HB4 := Lib.hid (HB3.out.alloc HB3.out.size (.cells #[.string ⟨t1.toArray⟩, .int .i64 (pnum t2)] 49))
        have HX4 := Lib.hid (owns_alloc (owns_below (show Owns (wr.drewN nd) (w.heap.size + 1) _ x from HXr.out) hb3 (Nat.le_refl _)) (.cells #[.string ⟨t1.toArray⟩, .int .i64 (pnum t2)] 49))
        have HO3 := Lib.hid (show OwnsF cCell 49 2 w3 w.heap.size u3 _ from ownsF_below (show OwnsF cCell 49 2 (wr.drewN nd) w.heap.size u3 _ from HO2.out) hb3 (Nat.le_refl _))
        clear hb3
        go_wp2_with (at_builtin; refine append_cell rfl _ _ rfl w.heap.size _ ((x.take k).map rdC) ⟨t1, pnum t2⟩ _ w3.heap.size rfl (ownsF_alloc HO3.out _) rfl (cell_newC w3 ⟨t1, pnum t2⟩ _ rfl) (by simp; omega) (by have := HB3.out.size; simp; omega) ?_; intro v' w4 hO4 hg4)
        have HB5 := Lib.hid (below_appendF HB4.out (ownsF_alloc HO3.out _) hg4 HB4.out.size)
        refine ⟨⟨k + 1, by omega, by go_num, by rw [HSN.out, HRD.out]; exact hO4, HB5.out, owns_keptF HX4.out (ownsF_alloc HO3.out _) hg4 (by decide)⟩, by simp [intOf]; omega⟩
      · have HN := Lib.hid (show (x.take k).map rdC = x.map rdC from by rw [List.take_of_length_le (by omega)])
        go_wp2_with fail
        go_ret
        exact ⟨_, rfl, by rw [HR.out, ← HN.out]; exact HO2.out, HB2.out⟩
end Go.Proofs.Ytghebbndfpbkcac
/- the model's l3Put -/
namespace Go.Proofs.Ytghebbndfpbkcac
set_option linter.unusedVariables false
set_option linter.unusedSimpArgs false
open Go.RowKit
/-- what is put out behind the first i cells -/
def outTo (l : List CellD) (k : List UInt8) (v : Int) (i : Nat) : List CellD :=
  if plc l k < i then l.take (plc l k) ++ ⟨k, v⟩ :: (l.take i).drop (if fnd l k = true then plc l k + 1 else plc l k) else l.take i
theorem outTo_low (l : List CellD) (k : List UInt8) (v : Int) (i : Nat) (hi : i < l.length) (h : i < plc l k) : outTo l k v (i + 1) = outTo l k v i ++ [l[i]] := by
  unfold outTo
  rw [if_neg (by omega), if_neg (by omega), List.take_succ_eq_append_getElem hi]
theorem outTo_high (l : List CellD) (k : List UInt8) (v : Int) (i : Nat) (hi : i < l.length) (h : plc l k < i) : outTo l k v (i + 1) = outTo l k v i ++ [l[i]] := by
  unfold outTo
  rw [if_pos (by omega), if_pos h, List.take_succ_eq_append_getElem hi, List.drop_append_of_le_length (by rw [List.length_take]; split <;> omega)]
  simp
theorem outTo_at (l : List CellD) (k : List UInt8) (v : Int) (hi : plc l k < l.length) : outTo l k v (plc l k + 1) = outTo l k v (plc l k) ++ ⟨k, v⟩ :: (if (l[plc l k]).fKey = k then [] else [l[plc l k]]) := by
  have hf := (fnd_at l k hi).1
  unfold outTo
  rw [if_pos (Nat.lt_succ_self (plc l k)), if_neg (Nat.lt_irrefl (plc l k)), List.take_succ_eq_append_getElem hi]
  congr 2
  have hl : (l.take (plc l k)).length = plc l k := by rw [List.length_take]; omega
  by_cases he : (l[plc l k]).fKey = k
  · rw [if_pos he, if_pos (by rw [hf]; simpa using he)]
    rw [List.drop_eq_nil_of_le (by simp [hl]; omega)]
  · rw [if_neg he, if_neg (by rw [hf]; simpa using he)]
    conv => lhs; arg 1; rw [← hl]
    rw [List.drop_left]
theorem outTo_end (l : List CellD) (k : List UInt8) (v : Int) (hi : plc l k < l.length) : outTo l k v l.length = putC l k v := by
  unfold outTo
  rw [if_pos hi, List.take_length]
  cases hf : fnd l k with
  | true => rw [putC_found l k v hf, if_pos rfl, List.set_eq_take_append_cons_drop, if_pos hi]
  | false => rw [putC_new l k v hf, if_neg (by simp)]
theorem outTo_last (l : List CellD) (k : List UInt8) (v : Int) (hi : plc l k = l.length) : outTo l k v l.length ++ [⟨k, v⟩] = putC l k v := by
  unfold outTo
  rw [if_neg (by omega), putC_new l k v (fnd_end l k hi), hi, List.drop_length]
theorem outTo_len (l : List CellD) (k : List UInt8) (v : Int) (i : Nat) (hi : i ≤ l.length) : (outTo l k v i).length ≤ i + 1 := by
  unfold outTo
  have := plc_le l k
  split
  · simp; split <;> omega
  · simp; omega
set_option maxRecDepth 100000 in
set_option maxHeartbeats 3200000 in
theorem l3Put_any (vv : Value) (l : List CellD) (key : List UInt8) (v : Int) (w : World) (hx : FlatAt cCell 2 w vv l) (hm : l.length ≤ 1000) (hs : SortC l) :
    Calls Try.prog 144 #[vv, .string ⟨key.toArray⟩, .int .i64 v] w fun e w' => ∃ u, e = .returned u ∧ OwnsF cCell 49 2 w' w.heap.size u (putC l key v) ∧ Below w.heap.size w w' := by
  obtain ⟨a, c, rfl, hl⟩ := flatAt_len hx
  have HX := Lib.hid hx
  clear hx
  unfold maxLen at hl
  have HSA := Lib.hid (fun i h1 h2 => sort_after hs key i h1 h2)
  have HLO := Lib.hid (outTo_low l key v)
  have HHI := Lib.hid (outTo_high l key v)
  have HAT := Lib.hid (outTo_at l key v)
  have HEN := Lib.hid (outTo_end l key v)
  have HLA := Lib.hid (outTo_last l key v)
  have HLN := Lib.hid (outTo_len l key v)
  have HPB := Lib.hid (plc_below l key)
  have HPA := Lib.hid (plc_at l key)
  have hple := plc_le l key
  have H0 := Lib.hid (show outTo l key v 0 = [] from by unfold outTo; rw [if_neg (by omega)]; rfl)
  generalize putC l key v = res at *
  generalize hq : plc l key = q at *
  clear hq hs
  have HO0 := Lib.hid (show OwnsF cCell 49 2 (w.alloc (.cells #[] 49)) w.heap.size (.slice (some ⟨w.heap.size, 0, none⟩) 0 0) (outTo l key v 0) from by rw [H0.out]; exact ownsF_new cCell 49 2 w)
  go_enter Try.func144, Try.ntmps144
  go_wp2_with fail
  go_loopw [7, 8, 10, 14] (fun u dn _ i wr => ∃ k : Nat, k ≤ l.length ∧ i = .int .i64 k ∧ dn = .bool (decide (q < k)) ∧ OwnsF cCell 49 2 wr w.heap.size u (outTo l key v k) ∧ Below w.heap.size w wr) (fun _ _ _ i _ => l.length - (intOf i).toNat)
  case atStart => exact ⟨0, Nat.zero_le _, rfl, by simp, HO0.out, (Below.refl _ _).alloc (Nat.le_refl _) _⟩
  case round =>
    obtain ⟨k, hk, rfl, rfl, hO, hb⟩ := hrel
    have HO := Lib.hid hO
    have HB := Lib.hid hb
    have HXr := Lib.hid (FlatAt.below HX.out hb (Nat.le_refl _))
    have hLk := HLN.out k hk
    clear hO hb
    by_cases hlt : k < l.length
    · obtain ⟨b, o, rfl, hbl, hd⟩ := flatAt_cell cCell_len HXr.out k hlt (by decide)
      have d0 := hd 0 (by decide)
      have d1 := hd 1 (by decide)
      clear hd
      rcases Nat.lt_trichotomy k q with hkq | hkq | hkq
      · have hg : decide (q < k) = false := decide_eq_false (by omega)
        have hg2 : decide (q < k + 1) = false := decide_eq_false (by omega)
        have HN := Lib.hid (HLO.out k hlt hkq)
        have hlt2 := HPB.out k hlt hkq
        have hx1 : Op.bytesLess (l[k]).fKey key = true := by rw [bytes_lt2]; simpa using hlt2
        have hx2 : ((l[k]).fKey != key) = true := by simp only [bne_iff_ne, ne_eq]; intro e; rw [e] at hlt2; exact key_irr _ hlt2
        have hx3 : ((l[k]).fKey == key) = false := by simpa using hx2
        clear hlt2
        generalize l[k] = p at *
        obtain ⟨a0, a1⟩ := p
        simp only [cCell, List.getElem?_cons_zero, List.getElem?_cons_succ, Nat.add_zero] at d0 d1
        rw [hg]
        go_wp2_with (at_builtin; refine append_cell rfl _ _ rfl w.heap.size _ (outTo l key v k) ⟨a0, a1⟩ _ (wr.heap.size + 1) (by rfl) (ownsF_alloc (ownsF_alloc HO.out _) _) (by rfl) (cell_newC (wr.alloc _) ⟨a0, a1⟩ _ (by simp)) (by omega) (by have := HB.out.size; simp; omega) ?_; intro v' w' ho hgr)
        have HA := Lib.hid (below_appendF (((HB.out.alloc HB.out.size _).alloc (by have := HB.out.size; simp; omega) _)) (ownsF_alloc (ownsF_alloc HO.out _) _) hgr (by have := HB.out.size; simp; omega))
        refine ⟨⟨k + 1, by omega, by go_num, by rw [hg2], by rw [HN.out]; exact ho, HA.out⟩, by simp [intOf]; omega⟩
      · have hg : decide (q < k) = false := decide_eq_false (by omega)
        have hg2 : decide (q < k + 1) = true := decide_eq_true (by omega)
        have HN := Lib.hid (show outTo l key v (k + 1) = outTo l key v k ++ ⟨key, v⟩ :: (if (l[k]).fKey = key then [] else [l[k]]) from by have h := HAT.out (by omega); simp only [← hkq] at h; exact h)
        have hx1 : Op.bytesLess (l[k]).fKey key = false := by rw [bytes_lt2]; have h := HPA.out (by omega); simp only [← hkq] at h; simpa using h
        have HKQ := Lib.hid hkq
        clear hkq
        cases hx3 : ((l[k]).fKey == key) with
        | true =>
          have HN1 := Lib.hid (show outTo l key v (k + 1) = outTo l key v k ++ [⟨key, v⟩] from by rw [HN.out, if_pos (by simpa using hx3)])
          clear HN HAT
          generalize l[k] = p at *
          obtain ⟨a0, a1⟩ := p
          simp only [cCell, List.getElem?_cons_zero, List.getElem?_cons_succ, Nat.add_zero] at d0 d1
          rw [hg]
          go_wp2_with (at_builtin; refine append_cell rfl (.tmp 26) (.tmp 30) rfl w.heap.size _ (outTo l key v k) ⟨key, v⟩ _ (wr.heap.size + 1) (by rfl) (ownsF_alloc (ownsF_alloc HO.out _) _) (by rfl) (cell_newC (wr.alloc _) ⟨key, v⟩ _ (by simp)) (by omega) (by have := HB.out.size; simp; omega) ?_; intro v' w' ho hgr; have b0 : w'.cell? ⟨wr.heap.size, 0, none⟩ = some (.string ⟨a0.toArray⟩) := (hgr.cell_far ⟨wr.heap.size, 0, none⟩ (by simp; try omega) (fun e => by have := (World.ownsRow.lt HO.out _ e.symm).2; simp at this)).trans (by simp [go_sem]); have b1 : w'.cell? ⟨wr.heap.size, 1, none⟩ = some (.int .i64 a1) := (hgr.cell_far ⟨wr.heap.size, 1, none⟩ (by simp; try omega) (fun e => by have := (World.ownsRow.lt HO.out _ e.symm).2; simp at this)).trans (by simp [go_sem]))
          have HA := Lib.hid (below_appendF (((HB.out.alloc HB.out.size _).alloc (by have := HB.out.size; simp; omega) _)) (ownsF_alloc (ownsF_alloc HO.out _) _) hgr (by have := HB.out.size; simp; omega))
          refine ⟨⟨k + 1, by omega, by go_num, by rw [hg2], by rw [HN1.out]; exact ho, HA.out⟩, by simp [intOf]; omega⟩
        | false =>
          have HN1 := Lib.hid (show outTo l key v (k + 1) = (outTo l key v k ++ [⟨key, v⟩]) ++ [l[k]] from by rw [HN.out, if_neg (by simpa using hx3)]; simp)
          clear HN HAT
          generalize l[k] = p at *
          obtain ⟨a0, a1⟩ := p
          simp only [cCell, List.getElem?_cons_zero, List.getElem?_cons_succ, Nat.add_zero] at d0 d1
          rw [hg]
          go_wp2_with (first | (at_builtin; refine append_cell rfl (.tmp 26) (.tmp 30) rfl w.heap.size _ (outTo l key v k) ⟨key, v⟩ _ (wr.heap.size + 1) (by rfl) (ownsF_alloc (ownsF_alloc HO.out _) _) (by rfl) (cell_newC (wr.alloc _) ⟨key, v⟩ _ (by simp)) (by omega) (by have := HB.out.size; simp; omega) ?_; intro v' w' ho hgr; have b0 : w'.cell? ⟨wr.heap.size, 0, none⟩ = some (.string ⟨a0.toArray⟩) := (hgr.cell_far ⟨wr.heap.size, 0, none⟩ (by simp; try omega) (fun e => by have := (World.ownsRow.lt HO.out _ e.symm).2; simp at this)).trans (by simp [go_sem]); have b1 : w'.cell? ⟨wr.heap.size, 1, none⟩ = some (.int .i64 a1) := (hgr.cell_far ⟨wr.heap.size, 1, none⟩ (by simp; try omega) (fun e => by have := (World.ownsRow.lt HO.out _ e.symm).2; simp at this)).trans (by simp [go_sem])) | (at_builtin; refine append_cell rfl (.tmp 36) (.tmp 38) rfl w.heap.size _ (outTo l key v k ++ [⟨key, v⟩]) ⟨a0, a1⟩ _ w'.heap.size (by rfl) (ownsF_alloc ho _) (by rfl) (cell_newC w' ⟨a0, a1⟩ _ rfl) (by simp; omega) (by have := HB.out.size; have := hgr.size; simp at *; omega) ?_; intro v2 w2 ho2 hgr2))
          have HA := Lib.hid (below_appendF (((HB.out.alloc HB.out.size _).alloc (by have := HB.out.size; simp; omega) _)) (ownsF_alloc (ownsF_alloc HO.out _) _) hgr (by have := HB.out.size; simp; omega))
          have HA2 := Lib.hid (below_appendF (HA.out.alloc HA.out.size _) (ownsF_alloc ho _) hgr2 (by have := HA.out.size; simp; omega))
          refine ⟨⟨k + 1, by omega, by go_num, by rw [hg2], by rw [HN1.out]; exact ho2, HA2.out⟩, by simp [intOf]; omega⟩
      · have hg : decide (q < k) = true := decide_eq_true (by omega)
        have hg2 : decide (q < k + 1) = true := decide_eq_true (by omega)
        have HN := Lib.hid (HHI.out k hlt hkq)
        have hlt2 := HSA.out k hlt hkq
        have hx3 : ((l[k]).fKey == key) = false := by simp only [beq_eq_false_iff_ne, ne_eq]; intro e; rw [e] at hlt2; exact key_irr _ hlt2
        clear hlt2
        generalize l[k] = p at *
        obtain ⟨a0, a1⟩ := p
        simp only [cCell, List.getElem?_cons_zero, List.getElem?_cons_succ, Nat.add_zero] at d0 d1
        rw [hg]
        go_wp2_with (at_builtin; refine append_cell rfl _ _ rfl w.heap.size _ (outTo l key v k) ⟨a0, a1⟩ _ (wr.heap.size + 1) (by rfl) (ownsF_alloc (ownsF_alloc HO.out _) _) (by rfl) (cell_newC (wr.alloc _) ⟨a0, a1⟩ _ (by simp)) (by omega) (by have := HB.out.size; simp; omega) ?_; intro v' w' ho hgr)
        have HA := Lib.hid (below_appendF (((HB.out.alloc HB.out.size _).alloc (by have := HB.out.size; simp; omega) _)) (ownsF_alloc (ownsF_alloc HO.out _) _) hgr (by have := HB.out.size; simp; omega))
        refine ⟨⟨k + 1, by omega, by go_num, by rw [hg2], by rw [HN.out]; exact ho, HA.out⟩, by simp [intOf]; omega⟩
    · have hkl : k = l.length := by omega
      by_cases hql : q < l.length
      · have hg : decide (q < k) = true := decide_eq_true (by omega)
        have HR := Lib.hid (show outTo l key v k = res from by rw [hkl]; exact HEN.out hql)
        rw [hg]
        go_wp2_with fail
        go_ret
        exact ⟨_, rfl, by rw [← HR.out]; exact HO.out, HB.out⟩
      · have hg : decide (q < k) = false := decide_eq_false (by omega)
        have HR := Lib.hid (show outTo l key v k ++ [⟨key, v⟩] = res from by rw [hkl]; exact HLA.out (by omega))
        rw [hg]
        go_wp2_with (at_builtin; refine append_cell rfl _ _ rfl w.heap.size _ (outTo l key v k) ⟨key, v⟩ _ wr.heap.size (by rfl) (ownsF_alloc HO.out _) (by rfl) (cell_newC wr ⟨key, v⟩ _ rfl) (by omega) (by have := HB.out.size; simp; omega) ?_; intro v' w' ho hgr)
        go_ret
        exact ⟨_, rfl, by rw [← HR.out]; exact ho, below_appendF (HB.out.alloc HB.out.size _) (ownsF_alloc HO.out _) hgr (by have := HB.out.size; simp; omega)⟩
end Go.Proofs.Ytghebbndfpbkcac
/- The draws of chapter 3: kinds, keys, cells. -/
namespace Go.Proofs.Ytghebbndfpbkcac
set_option linter.unusedVariables false
set_option linter.unusedSimpArgs false
open Go.RowKit
set_option maxHeartbeats 800000 in
theorem l3Key_any (b : Nat) (v : Value) (l : List UInt8) (w : World) (hC : Cur w b v l) :
    Calls Try.prog 114 #[.pointer (some ⟨b, 0, none⟩)] w fun e w' => DrawnStr (fun x => x.size ≤ 9) b v l w e w' := by
  have HC := Lib.hid hC
  clear hC
  go_enter Try.func114, Try.ntmps114
  go_wp2_with fail
  refine (l1Str_new b v l w _ _ _ _ 9 HC.out (by rfl) (by decide) (by decide) (by decide)).mono ?_
  rintro e w1 ⟨x, rfl, hx, hg1, hC1⟩
  have HG := Lib.hid hg1
  have HC1 := Lib.hid hC1
  clear hg1 hC1
  go_wp2_with fail
  go_ret
  exact ⟨_, rfl, hx, HG.out, HC1.out⟩
set_option maxHeartbeats 800000 in
theorem l3Kind_any (b : Nat) (v : Value) (l : List UInt8) (w : World) (hC : Cur w b v l) :
    Calls Try.prog 126 #[.pointer (some ⟨b, 0, none⟩)] w fun e w' => DrawnStr (fun x => x.size ≤ 9) b v l w e w' := by
  have HC0 := Lib.hid hC
  clear hC
  go_enter Try.func126, Try.ntmps126
  go_wp2_with fail
  refine (l1Once_any b v l _ w HC0.out (by omega) (by omega)).mono ?_
  rintro e w1 ⟨x, rfl, hg, hC⟩
  have HG1 := Lib.hid (hg)
  have HC1 := Lib.hid hC
  clear hg hC
  cases x
  · go_wp2_with fail
    refine (l1Str_new b v l w1 _ _ _ _ 9 HC1.out (by rfl) (by decide) (by decide) (by decide)).mono ?_
    rintro e w2 ⟨x, rfl, hx, hg1, hC1⟩
    have HG := Lib.hid (grown_trans HG1.out hg1)
    have HC2 := Lib.hid hC1
    clear hg1 hC1
    go_wp2_with fail
    go_ret
    exact ⟨_, rfl, hx, HG.out, HC2.out⟩
  · go_wp2_with fail
    refine (l1Str_new b v l w1 _ _ _ _ 9 HC1.out (by rfl) (by decide) (by decide) (by decide)).mono ?_
    rintro e w2 ⟨x, rfl, hx, hg1, hC1⟩
    have HG := Lib.hid (grown_trans HG1.out hg1)
    have HC2 := Lib.hid hC1
    clear hg1 hC1
    go_wp2_with fail
    go_ret
    exact ⟨_, rfl, hx, HG.out, HC2.out⟩
def SmallC (x : List CellD) : Prop := x.length ≤ 6 ∧ ∀ c ∈ x, c.fKey.length ≤ 9 ∧ I64 c.fValue
def DrawnCells (b : Nat) (v : Value) (l : List UInt8) (w : World) (e : Ending) (w' : World) : Prop := ∃ u x, e = .returned u ∧ OwnsF cCell 49 2 w' w.heap.size u x ∧ SmallC x ∧ w.grownBy w' (some b) ∧ Cur w' b v l
theorem ownsF_grownC {α : Type} {f : α → List Value} {E k : Nat} {w w' : World} {B b : Nat} {v : Value} {l : List α} (h : OwnsF f E k w B v l) (hg : w.grownBy w' (some b)) (hb : b < B) : OwnsF f E k w' B v l :=
  World.ownsRow.kept h hg (Or.inr fun e => by have := (World.ownsRow.lt h b e).1; omega)
theorem smallC_put {x : List CellD} {k : List UInt8} {n : Int} (h : SmallC x) (hl : x.length ≤ 5) (hk : k.length ≤ 9) (hn : I64 n) : SmallC (putC x k n) := by
  refine ⟨by rw [putC_len]; split <;> omega, fun c hc => ?_⟩
  rcases putC_mem hc with rfl | hc
  · exact ⟨hk, hn⟩
  · exact h.2 c hc
set_option maxRecDepth 100000 in
set_option maxHeartbeats 3200000 in
theorem l3Cells_any (b : Nat) (v : Value) (l : List UInt8) (w : World) (hC : Cur w b v l) :
    Calls Try.prog 128 #[.pointer (some ⟨b, 0, none⟩)] w fun e w' => DrawnCells b v l w e w' := by
  have hbl := hC.lt
  have HC := Lib.hid (cur_alloc hC (.cells #[] 49))
  have HO := Lib.hid (ownsF_new cCell 49 2 w)
  have HG0 := Lib.hid (grown_alloc (grown_refl w (some b)) (.cells #[] 49))
  clear hC
  go_enter Try.func128, Try.ntmps128
  go_wp2_with fail
  refine (l1Below_any b v l _ _ HC.out (by omega) (by omega)).mono ?_
  rintro e w1 ⟨x, rfl, ⟨h0, h1, h6⟩, hg1, hC1⟩
  have h6' : x < 6 := h6 (by omega)
  have HO1 := Lib.hid (ownsF_grownC HO.out hg1 hbl)
  have HG1 := Lib.hid (grown_trans HG0.out hg1)
  have HC1 := Lib.hid hC1
  clear hg1 hC1 h6 h1
  go_wp2_with fail
  go_loopw [3, 4] (fun lv nv wr => ∃ (n : Int) (u : Value) (y : List CellD), lv = u ∧ nv = .int .i64 n ∧ 0 ≤ n ∧ (y.length : Int) + n ≤ 5 ∧ OwnsF cCell 49 2 wr w.heap.size u y ∧ SortC y ∧ SmallC y ∧ w.grownBy wr (some b) ∧ Cur wr b v l) (fun _ nv _ => (intOf nv).toNat)
  case atStart => exact ⟨x, _, [], rfl, rfl, by omega, by simp; omega, HO1.out, List.Pairwise.nil, ⟨by simp, by simp⟩, HG1.out, HC1.out⟩
  case round =>
    obtain ⟨n, u, y, rfl, rfl, hn0, hn6, hO, hS, hM, hg, hC⟩ := hrel
    have HO := Lib.hid hO
    have HS := Lib.hid hS
    have HM := Lib.hid hM
    have HG := Lib.hid hg
    have HC2 := Lib.hid hC
    clear hO hS hM hg hC
    by_cases hp : 0 < n
    · go_wp2_with fail
      refine (l3Key_any b v l _ HC2.out).mono ?_
      rintro e w2 ⟨z, rfl, hz, hg2, hC2⟩
      obtain ⟨⟨zl⟩⟩ := z
      have hzl : zl.length ≤ 9 := hz
      have HG3 := Lib.hid (grown_trans HG.out hg2)
      have HC3 := Lib.hid hC2
      have HO3 := Lib.hid (ownsF_grownC HO.out hg2 hbl)
      clear hg2 hC2 hz
      have HAT := Lib.hid (l3At_any _ y zl w2 (ownsF_at HO3.out (by omega)))
      generalize hat : atK y zl = at0 at *
      obtain ⟨ua, uc, rfl⟩ := slice_of HO3.out
      go_wp2_with fail
      refine HAT.out.mono ?_
      rintro e w3 ⟨rfl, hb⟩
      have HG4 := Lib.hid (grown_below HG3.out hb HG3.out.size)
      have HC4 := Lib.hid (HC3.out.below hb HC3.out.lt)
      have HO4 := Lib.hid (ownsF_below HO3.out hb (Nat.le_refl _))
      clear hb hat HAT
      have HPUT := Lib.hid (fun n W (h : OwnsF cCell 49 2 W w.heap.size (.slice ua y.length uc) y) => l3Put_any _ y zl n W (ownsF_at h (by omega)) (by omega) HS.out)
      by_cases hq : (0 ≤ at0 ∨ y.length < 4)
      · have hgo : (decide (0 ≤ at0) || decide ((y.length : Int) < 4)) = true := by simp only [Bool.or_eq_true, decide_eq_true_eq]; omega
        by_cases ha : 0 ≤ at0
        · clear hgo hq
          go_wp2_with fail
          refine (l1Below_any b v l _ _ HC4.out (by omega) (by omega)).mono ?_
          rintro e w4 ⟨t, rfl, ⟨t0, t1, _⟩, hg5, hC5⟩
          have HG5 := Lib.hid (grown_trans HG4.out hg5)
          have HC5 := Lib.hid hC5
          have HO5 := Lib.hid (ownsF_grownC HO4.out hg5 hbl)
          clear hg5 hC5
          go_wp2_with fail
          refine (HPUT.out t _ HO5.out).mono ?_
          rintro e w5 ⟨u2, rfl, ho, hb⟩
          have HG6 := Lib.hid (grown_below HG5.out hb HG5.out.size)
          have HC6 := Lib.hid (HC5.out.below hb HC5.out.lt)
          have HO6 := Lib.hid (ownsF_base ho HG5.out.size)
          clear hb ho
          go_wp2_with fail
          exact ⟨⟨n - 1, _, _, rfl, rfl, by omega, by rw [putC_len]; split <;> push_cast <;> omega, HO6.out, putC_sort _ _ HS.out, smallC_put HM.out (by omega) hzl ⟨by omega, by omega⟩, HG6.out, HC6.out⟩, by simp [intOf]; omega⟩
        · have hlt : (y.length : Int) < 4 := by omega
          clear hgo hq
          go_wp2_with fail
          refine (l1Below_any b v l _ _ HC4.out (by omega) (by omega)).mono ?_
          rintro e w4 ⟨t, rfl, ⟨t0, t1, _⟩, hg5, hC5⟩
          have HG5 := Lib.hid (grown_trans HG4.out hg5)
          have HC5 := Lib.hid hC5
          have HO5 := Lib.hid (ownsF_grownC HO4.out hg5 hbl)
          clear hg5 hC5
          go_wp2_with fail
          refine (HPUT.out t _ HO5.out).mono ?_
          rintro e w5 ⟨u2, rfl, ho, hb⟩
          have HG6 := Lib.hid (grown_below HG5.out hb HG5.out.size)
          have HC6 := Lib.hid (HC5.out.below hb HC5.out.lt)
          have HO6 := Lib.hid (ownsF_base ho HG5.out.size)
          clear hb ho
          go_wp2_with fail
          exact ⟨⟨n - 1, _, _, rfl, rfl, by omega, by rw [putC_len]; split <;> push_cast <;> omega, HO6.out, putC_sort _ _ HS.out, smallC_put HM.out (by omega) hzl ⟨by omega, by omega⟩, HG6.out, HC6.out⟩, by simp [intOf]; omega⟩
      · have ha : ¬ (0 ≤ at0) := by omega
        have hlt : ¬ ((y.length : Int) < 4) := by omega
        clear hq
        go_wp2_with fail
        exact ⟨⟨n - 1, _, _, rfl, rfl, by omega, by omega, HO4.out, HS.out, HM.out, HG4.out, HC4.out⟩, by simp [intOf]; omega⟩
    · go_wp2_with fail
      go_ret
      exact ⟨_, _, rfl, HO.out, HM.out, HG.out, HC2.out⟩
end Go.Proofs.Ytghebbndfpbkcac
/- Contracts of chapter 3: the model's IsCore. -/
namespace Go.Proofs.Ytghebbndfpbkcac
set_option linter.unusedVariables false
open Go.RowKit
theorem l2Has_0 (f : Int) (x : Bool) (h : hasI f 0 = x) (hf : isF f = true) (w : World) :
    Calls Try.prog 123 #[.int .i64 f, .int .i64 0] w fun e w' => e = .returned (.bool x) ∧ w = w' := l2Has_b f 0 x h hf (by decide) w
theorem l2Has_1 (f : Int) (x : Bool) (h : hasI f 1 = x) (hf : isF f = true) (w : World) :
    Calls Try.prog 123 #[.int .i64 f, .int .i64 1] w fun e w' => e = .returned (.bool x) ∧ w = w' := l2Has_b f 1 x h hf (by decide) w
set_option maxRecDepth 100000 in
set_option maxHeartbeats 6400000 in
theorem specIsCore_any (v : Value) (d : CoreD) (w : World) (hx : CoreAt w v d) (hs : ∀ c ∈ d.fCells, c.fKey.length ≤ maxLen) :
    Calls Try.prog 170 #[v] w fun e w' => e = .returned (.bool (coreB d)) ∧ Below w.heap.size w w' := by
  obtain ⟨cv, rfl, hx⟩ := hx
  have HKD := Lib.hid (specKind_b d.fKind)
  have HH0 := Lib.hid (l2Has_0 (kfI (kindI d.fKind)) _ rfl (kfI_face _))
  have HH1 := Lib.hid (l2Has_1 (kfI (kindI d.fKind)) _ rfl (kfI_face _))
  have HR := Lib.hid (show coreB d = (decide (0 ≤ kindI d.fKind) && cellsB d.fCells && (decide (d.fCells.length = 0) || hasI (kfI (kindI d.fKind)) 1) && (!(d.fOn || d.fBroken) || hasI (kfI (kindI d.fKind)) 0) && numB d.fCount && !(d.fOn && d.fBroken)) from rfl)
  generalize coreB d = res at *
  obtain ⟨kd, on, br, l, cnt⟩ := d
  unfold vCore
  simp only at *
  obtain ⟨a, c, rfl, hl⟩ := flatAt_len hx
  unfold maxLen at hl
  have HB0 := Lib.hid (show ∀ o, Below w.heap.size w (w.alloc o) from fun o => (Below.refl w.heap.size w).alloc (Nat.le_refl _) o)
  have HIC := Lib.hid (fun w0 hb => specIsCells_any _ l w0 (hx.below hb (Nat.le_refl _)) hs)
  clear hx hs
  have HK := Lib.hid (HKD.out _ rfl)
  generalize hasI (kfI (kindI kd)) 1 = h1 at *
  generalize hasI (kfI (kindI kd)) 0 = h0 at *
  generalize kfI (kindI kd) = f at *
  generalize decide (0 ≤ kindI kd) = kk at *
  generalize cellsB l = cb at *
  have HN0 := Lib.hid (show cnt < 0 → numB cnt = false from fun h => by simp [numB]; omega)
  have HN1 := Lib.hid (show 999 < cnt → numB cnt = false from fun h => by simp [numB]; omega)
  have HN2 := Lib.hid (show 0 ≤ cnt → cnt ≤ 999 → numB cnt = true from fun h h2 => by simp [numB]; omega)
  generalize numB cnt = nb at *
  clear HKD
  go_enter Try.func170, Try.ntmps170
  go_wp2_with fail
  refine (HK.out _).mono ?_
  rintro e w1 ⟨rfl, hb⟩
  have HB1 := Lib.hid ((HB0.out _).trans (hb.mono (HB0.out _).size))
  obtain ⟨hcc, _⟩ := bcell hb
  simp at hcc
  have hc0 := hcc w.heap.size 0 (by omega)
  have hc1 := hcc w.heap.size 1 (by omega)
  have hc2 := hcc w.heap.size 2 (by omega)
  have hc3 := hcc w.heap.size 3 (by omega)
  have hc4 := hcc w.heap.size 4 (by omega)
  simp at hc0 hc1 hc2 hc3 hc4
  have HLT := Lib.hid (show w.heap.size < w1.heap.size from by have := hb.size; simp at this; omega)
  clear hb hcc
  cases kk with
  | false =>
    go_wp2_with (first | (go_at_call 123; (with_reducible refine (HH0.out _).mono ?_); rintro e w' ⟨rfl, rfl⟩))
    go_ret
    exact ⟨ret_bool (by rw [HR.out]; rfl), HB1.out⟩
  | true =>
    go_wp2_with (first | (go_at_call 123; (with_reducible refine (HH0.out _).mono ?_); rintro e w' ⟨rfl, rfl⟩))
    refine (HIC.out _ HB1.out).mono ?_
    rintro e w2 ⟨rfl, hb⟩
    have HB := Lib.hid (HB1.out.trans (hb.mono HB1.out.size))
    have c0 := (hb.cell (p := ⟨w.heap.size, 0, none⟩) HLT.out).trans hc0
    have c1 := (hb.cell (p := ⟨w.heap.size, 1, none⟩) HLT.out).trans hc1
    have c2 := (hb.cell (p := ⟨w.heap.size, 2, none⟩) HLT.out).trans hc2
    have c3 := (hb.cell (p := ⟨w.heap.size, 3, none⟩) HLT.out).trans hc3
    have c4 := (hb.cell (p := ⟨w.heap.size, 4, none⟩) HLT.out).trans hc4
    clear hb hc0 hc1 hc2 hc3 hc4
    cases cb with
    | false =>
      go_wp2_with fail
      go_ret
      exact ⟨ret_bool (by rw [HR.out]; rfl), HB.out⟩
    | true =>
      by_cases hn : 0 < l.length
      · have hg : decide ((0 : Int) < (l.length : Int)) = true := decide_eq_true (by omega)
        rw [show decide (l.length = 0) = false from decide_eq_false (by omega)] at HR
        cases h1 with
        | false =>
          go_wp2_with (first | (go_at_call 123; (with_reducible refine (HH1.out _).mono ?_); rintro e w' ⟨rfl, rfl⟩))
          go_ret
          exact ⟨ret_bool (by rw [HR.out]; rfl), HB.out⟩
        | true =>
          by_cases hv : cnt < 0
          · rw [HN0.out hv] at HR
            go_wp2_with (first | (go_at_call 123; (with_reducible refine (HH1.out _).mono ?_); rintro e w' ⟨rfl, rfl⟩))
            go_ret
            exact ⟨ret_bool (by rw [HR.out]; cases on <;> cases br <;> cases h0 <;> rfl), HB.out⟩
          · by_cases hv2 : 999 < cnt
            · rw [HN1.out hv2] at HR
              go_wp2_with (first | (go_at_call 123; (with_reducible refine (HH1.out _).mono ?_); rintro e w' ⟨rfl, rfl⟩))
              go_ret
              exact ⟨ret_bool (by rw [HR.out]; cases on <;> cases br <;> cases h0 <;> rfl), HB.out⟩
            · rw [HN2.out (by omega) (by omega)] at HR
              cases on <;> cases br <;> cases h0
              all_goals
                go_wp2_with (first | (go_at_call 123; (with_reducible refine (HH1.out _).mono ?_); rintro e w' ⟨rfl, rfl⟩))
                go_ret
                exact ⟨ret_bool (by rw [HR.out]; rfl), HB.out⟩
      · have hg : decide ((0 : Int) < (l.length : Int)) = false := decide_eq_false (by omega)
        rw [show decide (l.length = 0) = true from decide_eq_true (by omega)] at HR
        have hg2 : (l.length : Int) ≤ 0 := by omega
        clear hn
        by_cases hv : cnt < 0
        · rw [HN0.out hv] at HR
          go_wp2_with fail
          go_ret
          exact ⟨ret_bool (by rw [HR.out]; cases on <;> cases br <;> cases h0 <;> rfl), HB.out⟩
        · by_cases hv2 : 999 < cnt
          · rw [HN1.out hv2] at HR
            go_wp2_with fail
            go_ret
            exact ⟨ret_bool (by rw [HR.out]; cases on <;> cases br <;> cases h0 <;> rfl), HB.out⟩
          · rw [HN2.out (by omega) (by omega)] at HR
            cases on <;> cases br <;> cases h0
            all_goals
              go_wp2_with fail
              go_ret
              exact ⟨ret_bool (by rw [HR.out]; rfl), HB.out⟩
end Go.Proofs.Ytghebbndfpbkcac
/- A region that draws its order, in which a condition on the world holds behind every operation but one, and that one waits for all that lean on it. -/
namespace Go.Proofs.Ytghebbndfpbkcac
open Go
section
variable {P : Program} {ops : Array Oper} {Q : Exit → Act → World → Prop} {md : Region.Mode} {S : World → Prop} {t : Nat}
/-- what has come up has come up behind all that it waits for -/
def ClosedL (md : Region.Mode) (ops : Array Oper) (listed : Array Bool) : Prop :=
  ∀ k o, ops[k]? = some o → k < ops.size → listed.getD k false = true → ∀ e ∈ o.after, Region.binds md e = true → listed.getD e.on false = true
def closedB (md : Region.Mode) (ops : Array Oper) (listed : Array Bool) : Bool :=
  (List.range ops.size).all fun k => !listed.getD k false || match ops[k]? with
    | some o => o.after.all fun e => !Region.binds md e || listed.getD e.on false
    | none => true
/-- t waits for i, by however many steps -/
def reachB (md : Region.Mode) (ops : Array Oper) (i : Nat) : Nat → Nat → Bool
  | 0, _ => false
  | n + 1, t => match ops[t]? with
    | some o => o.after.any fun e => Region.binds md e && (e.on == i || reachB md ops i n e.on)
    | none => false
theorem closed_of {listed : Array Bool} (h : closedB md ops listed = true) : ClosedL md ops listed := by
  intro k o hk hlt hl e he hb
  have h1 := List.all_eq_true.1 h k (List.mem_range.2 hlt)
  simp only [hl, hk, Bool.not_true, Bool.false_or] at h1
  have h2 := Array.all_eq_true_iff_forall_mem.1 h1 e he
  simpa [hb] using h2
theorem closed_set {listed : Array Bool} {j : Nat} (hc : ClosedL md ops listed) (hj : j ∈ Region.ready md ops listed) : ClosedL md ops (listed.setIfInBounds j true) := by
  intro k o hk hlt hl e he hb
  obtain ⟨_, oj, hoj, hall⟩ := mem_ready.1 hj
  by_cases hjk : j = k
  · subst hjk
    rw [hoj] at hk; injection hk with hk; subst hk
    exact getD_set_true (hall e he hb)
  · rw [getD_set_ne false hjk] at hl
    exact getD_set_true (hc k o hk hlt hl e he hb)
theorem reach_listed {listed : Array Bool} (hc : ClosedL md ops listed) (i : Nat) : ∀ n s, reachB md ops i n s = true →
    (∀ o, ops[s]? = some o → ∀ e ∈ o.after, Region.binds md e = true → listed.getD e.on false = true) → listed.getD i false = true := by
  intro n
  induction n with
  | zero => intro s h; cases h
  | succ n ih =>
    intro s h hall
    unfold reachB at h
    split at h
    case h_2 => cases h
    rename_i o ho
    obtain ⟨e, he, h1⟩ := Array.any_eq_true'.1 h
    rw [Bool.and_eq_true, Bool.or_eq_true, beq_iff_eq] at h1
    have h2 := hall o ho e he h1.1
    rcases h1.2 with h3 | h3
    · rw [← h3]; exact h2
    · refine ih e.on h3 fun o' ho' => ?_
      exact hc e.on o' ho' (Array.getElem?_eq_some_iff.1 ho').1 h2
/-- whatever order is picked from here on; S holds behind every operation but t -/
def wpAnyT (P : Program) (md : Region.Mode) (ops : Array Oper) (Q : Exit → Act → World → Prop) (S : World → Prop) (t : Nat) : Nat → Array Bool → Act → World → Prop
  | 0, listed, a, w => Region.ready md ops listed = [] ∧ Q .normal a w
  | fuel + 1, listed, a, w =>
    (Region.ready md ops listed = [] → Q .normal a w) ∧
    ∀ i ∈ Region.ready md ops listed, wpOp P ops Q i (fun a' w' => (i ≠ t → S w') ∧ wpAnyT P md ops Q S t fuel (listed.setIfInBounds i true) a' w') a w
theorem any_of_T : ∀ (fuel : Nat) (listed : Array Bool) (a : Act) (w : World), wpAnyT P md ops Q S t fuel listed a w → wpAny P md ops Q fuel listed a w
  | 0, _, _, _, h => h
  | fuel + 1, _, _, _, h => ⟨h.1, fun i hi => wpOp_mono (fun a' w' h' => any_of_T fuel _ a' w' h'.2) (h.2 i hi)⟩
theorem anyT_first {i n : Nat} {oi : Oper} {v : Value} (hi : ops[i]? = some oi) (hsel : ∀ (j : Nat) (o : Oper) cs b, ops[j]? = some o → o.op ≠ .select cs b)
    (hQ : ∀ c a w, Q (.panic c) (a.put oi.dst v) w → Q (.panic c) a w) (hre : reachB md ops i n t = true) :
    ∀ (fuel : Nat) (listed : Array Bool) (a : Act) (w : World), ClosedL md ops listed →
      (∀ j oj, ops[j]? = some oj → j ≠ i → listed.getD j true = false → (∀ e ∈ oj.after, Region.binds md e = true → e.on ≠ i) → oi.apart ops oj = true) →
      i ∈ Region.ready md ops listed → YieldsIf P ops S oi v a → S w →
      wpAnyT P md ops Q S t fuel (listed.setIfInBounds i true) (a.put oi.dst v) w → wpAnyT P md ops Q S t (fuel + 1) listed a w := by
  intro fuel
  have unl : ∀ listed : Array Bool, i ∈ Region.ready md ops listed → listed.getD i false = false := fun listed hr => by
    have h0 := (mem_ready.1 hr).1
    rcases Nat.lt_or_ge i listed.size with h' | h'
    · simp [h'] at h0 ⊢; exact h0
    · simp [Array.getElem?_eq_none h']
  induction fuel with
  | zero =>
    intro listed a w hc _ hr hy hS H
    refine ⟨fun h => (by rw [h] at hr; cases hr), fun j hj => ?_⟩
    by_cases hji : j = i
    · subst hji; exact hy.wpOp hi hS ⟨fun _ => hS, H⟩
    · have := ready_mono hj hji
      rw [H.1] at this; cases this
  | succ fuel ih =>
    intro listed a w hc hfree hr hy hS H
    refine ⟨fun h => (by rw [h] at hr; cases hr), fun j hj => ?_⟩
    by_cases hji : j = i
    · subst hji; exact hy.wpOp hi hS ⟨fun _ => hS, H⟩
    · obtain ⟨hjun, oj, hoj, hall⟩ := mem_ready.1 hj
      have hjt : j ≠ t := fun e => by
        have := reach_listed hc i n t hre (fun o ho e' he' hb' => by rw [← e, hoj] at ho; injection ho with ho; subst ho; exact hall e' he' hb')
        rw [unl listed hr] at this; cases this
      have hnot : ∀ e ∈ oj.after, Region.binds md e = true → e.on ≠ i := fun e he hb heq => by
        have h1 := hall e he hb
        rw [heq, unl listed hr] at h1; cases h1
      have h2 := wpOp_putIf hoj (hfree j oj hoj hji hjun hnot) (fun cs b => hsel i oi cs b hi) (fun cs b => hsel j oj cs b hoj) hQ hy (H.2 j (ready_mono hj hji))
      refine wpOp_mono (fun a' w' h3 => ⟨fun _ => h3.2.1 hjt, ih (listed.setIfInBounds j true) a' w' (closed_set hc hj) ?_ (ready_mono hr (Ne.symm hji)) h3.1 (h3.2.1 hjt) ?_⟩) h2
      · intro k ok hk hki hun hno
        refine hfree k ok hk hki ?_ hno
        by_cases hjk : j = k
        · subst hjk; exact hjun
        · rw [getD_set_ne true hjk] at hun; exact hun
      · rw [Array.setIfInBounds_comm _ _ hji]; exact h3.2.2
theorem anyT_take {i : Nat} {oi : Oper} {v : Value} {fuel : Nat} {listed : Array Bool} {a : Act} {w : World} (hi : ops[i]? = some oi)
    (hs : Region.noSelect ops = true) (hf : Region.free md ops listed i = true) (hr : (Region.ready md ops listed).contains i = true) (hre : reachB md ops i ops.size t = true) (hc : closedB md ops listed = true)
    (hQ : ∀ c a w, Q (.panic c) (a.put oi.dst v) w → Q (.panic c) a w) (hy : YieldsIf P ops S oi v a) (hS : S w)
    (h : wpAnyT P md ops Q S t fuel (listed.setIfInBounds i true) (a.put oi.dst v) w) : wpAnyT P md ops Q S t (fuel + 1) listed a w :=
  anyT_first hi (Region.noSelect_spec hs) hQ hre fuel listed a w (closed_of hc) (Region.free_spec hi hf) (by simpa using hr) hy hS h
/-- the only one that may come up comes up: behind it S is to be shown anew -/
theorem anyT_only {i : Nat} {o : Oper} {fuel : Nat} {listed : Array Bool} {a : Act} {w : World} (hr : Region.ready md ops listed = [i]) (ho : ops[i]? = some o)
    (h : ∀ K' : Act → World → Prop, Shut (∀ a w, S w → (S w → wpAnyT P md ops Q S t fuel (listed.setIfInBounds i true) a w) → K' a w) → if Region.wanted o (yielded ops a.tmps) = true then Oper.wp P o a w K' Q else K' (a.put o.dst undef) w) :
    wpAnyT P md ops Q S t (fuel + 1) listed a w := by
  refine ⟨fun h0 => (by rw [h0] at hr; cases hr), fun j hj => ?_⟩
  rw [hr] at hj
  obtain rfl : j = i := by simpa using hj
  exact wpOp_step ho (fun K' hK => h K' (fun a w hS hW => hK a w ⟨fun _ => hS, hW hS⟩))
/-- t comes up, the last but for nothing -/
theorem anyT_tail {o : Oper} {fuel : Nat} {listed : Array Bool} {a : Act} {w : World} (hr : Region.ready md ops listed = [t]) (ho : ops[t]? = some o)
    (h : ∀ K' : Act → World → Prop, Shut (∀ a w, wpAnyT P md ops Q S t fuel (listed.setIfInBounds t true) a w → K' a w) → if Region.wanted o (yielded ops a.tmps) = true then Oper.wp P o a w K' Q else K' (a.put o.dst undef) w) :
    wpAnyT P md ops Q S t (fuel + 1) listed a w := by
  refine ⟨fun h0 => (by rw [h0] at hr; cases hr), fun j hj => ?_⟩
  rw [hr] at hj
  obtain rfl : j = t := by simpa using hj
  exact wpOp_step ho (fun K' hK => h K' (fun a w hW => hK a w ⟨fun h => absurd rfl h, hW⟩))
theorem anyT_done {listed : Array Bool} {a : Act} {w : World} (hr : Region.ready md ops listed = []) (h : Q .normal a w) : ∀ fuel, wpAnyT P md ops Q S t fuel listed a w
  | 0 => ⟨hr, h⟩
  | _ + 1 => ⟨fun _ => h, by rw [hr]; simp⟩
theorem region_T {id : Nat} {a : Act} {w : World} (hm : P.follows .mixedOrders = true) (hS : S w.drew)
    (h : S w.drew → wpAnyT P .any ops Q S t ops.size (Array.replicate ops.size false) a w.drew) : (Code.region id ops true).wp P Q a w :=
  wp_region_any hm (any_of_T _ _ _ _ (h hS))
end
end Go.Proofs.Ytghebbndfpbkcac
/- A row of cells is not a box of another kind. -/
namespace Go.Proofs.Ytghebbndfpbkcac
set_option linter.unusedVariables false
open Go.RowKit
theorem past_cellN {b : Nat} (W : World) (o : Obj) (k : Nat) (h : b < W.heap.size) : (W.alloc o).cell? ⟨b, k, none⟩ = W.cell? ⟨b, k, none⟩ := ((Below.refl W.heap.size W).alloc (Nat.le_refl _) o).cell (p := ⟨b, k, none⟩) h
theorem row_not_bool {w : World} {N b : Nat} {v : Value} {l : List CellD} {x : Bool} (h : OwnsF cCell 49 2 w N v l) (hl : 0 < l.length) (hb : w.cell? ⟨b, 1, none⟩ = some (.bool x)) : v.ownBlock ≠ some b := by
  rcases h.2 with ⟨rfl, _⟩ | ⟨g, cap, cur, rfl, _⟩
  · simp [Value.ownBlock]
  · intro e
    simp [Value.ownBlock] at e
    subst e
    have h1 := World.ownsRow.cellAt h 1 (by omega)
    rw [hb] at h1
    cases l with
    | nil => simp at hl
    | cons d r => simp [cCell] at h1
theorem row_not_int {w : World} {N b : Nat} {v : Value} {l : List CellD} {x : Int} (h : OwnsF cCell 49 2 w N v l) (hl : 0 < l.length) (hb : w.cell? ⟨b, 0, none⟩ = some (.int .i64 x)) : v.ownBlock ≠ some b := by
  rcases h.2 with ⟨rfl, _⟩ | ⟨g, cap, cur, rfl, _⟩
  · simp [Value.ownBlock]
  · intro e
    simp [Value.ownBlock] at e
    subst e
    have h1 := World.ownsRow.cellAt h 0 (by omega)
    rw [hb] at h1
    cases l with
    | nil => simp at hl
    | cons d r => simp [cCell] at h1
end Go.Proofs.Ytghebbndfpbkcac
/- The draws of chapter 3: cores. Written by gen/ch3dr.py. -/
namespace Go.Proofs.Ytghebbndfpbkcac
set_option linter.unusedVariables false
set_option linter.unusedSimpArgs false
open Go.RowKit
theorem ownsF_nil {α : Type} (f : α → List Value) (E k : Nat) (w : World) (B : Nat) : OwnsF f E k w B (.slice none 0 0) [] := ⟨by simp, Or.inl ⟨rfl, rfl⟩⟩
theorem bx_grownC {w w' : World} {c b : Nat} {cs : List Value} (h : Bx w c cs) (hg : w.grownBy w' (some b)) (hne : c ≠ b) : Bx w' c cs :=
  ⟨Nat.lt_of_lt_of_le h.lt hg.size, fun j hj => (World.cell?_of_block (a := ⟨c, j, none⟩) (hg.block c h.lt (fun e => hne (by injection e)))).trans (h.cell j hj), fun j hj => (World.frozen?_of_block (a := ⟨c, j, none⟩) (hg.block c h.lt (fun e => hne (by injection e)))).trans (h.froz j hj)⟩
theorem grown_setO {a w : World} {b c : Nat} (h : a.grownBy w (some b)) (hc : a.heap.size ≤ c) (o : Nat) (u : Value) : a.grownBy (w.setCell ⟨c, o, none⟩ u) (some b) :=
  ⟨h.os, h.tape, h.output, by simpa [World.setCell] using h.size, fun j hj hne => (Below.heap_setCell w ⟨c, o, none⟩ u j (fun e => by have e2 : j = c := e; omega)).trans (h.block j hj hne)⟩
theorem cur_setO {w : World} {b c : Nat} {v : Value} {l : List UInt8} (hC : Cur w b v l) (hb : b < c) (o : Nat) (u : Value) : Cur (w.setCell ⟨c, o, none⟩ u) b v l := hC.far (grown_set (grown_refl w (some c)) o u) hb
def okDr (n : Nat) (d : CoreD) : Prop := d.fKind.length ≤ 9 ∧ d.fCells.length ≤ n ∧ (∀ c ∈ d.fCells, c.fKey.length ≤ 9 ∧ I64 c.fValue) ∧ I64 d.fCount
def DrawnCore (n : Nat) (b : Nat) (v : Value) (l : List UInt8) (w : World) (e : Ending) (w' : World) : Prop := ∃ d cv, e = .returned (vCore d cv) ∧ OwnsF cCell 49 2 w' w.heap.size cv d.fCells ∧ okDr n d ∧ w.grownBy w' (some b) ∧ Cur w' b v l
abbrev zCoreV : List Value := [.string ⟨#[]⟩, .bool false, .bool false, .slice none 0 0, .int .i64 0]
abbrev cCoreV (d : CoreD) (cv : Value) : List Value := [.string ⟨d.fKind.toArray⟩, .bool d.fOn, .bool d.fBroken, cv, .int .i64 d.fCount]
/-- a core that is being drawn: its variable in block B, the result's in block R -/
structure DSt (w : World) (b : Nat) (v : Value) (l : List UInt8) (R B : Nat) (d : CoreD) (cv : Value) (wx : World) : Prop where
  grown : w.grownBy wx (some b)
  cur : Cur wx b v l
  res : Bx wx R zCoreV
  box : Bx wx B (cCoreV d cv)
  own : OwnsF cCell 49 2 wx w.heap.size cv d.fCells
  bw : b < w.heap.size
  wR : w.heap.size ≤ R
  RB : R < B
  nB : cv.ownBlock ≠ some B
  nR : cv.ownBlock ≠ some R
theorem DSt.draw {w : World} {b : Nat} {v : Value} {l : List UInt8} {R B : Nat} {d : CoreD} {cv : Value} {wx w' : World} (h : DSt w b v l R B d cv wx) (hg : wx.grownBy w' (some b)) (hC : Cur w' b v l) : DSt w b v l R B d cv w' :=
  ⟨grown_trans h.grown hg, hC, bx_grownC h.res hg (by have := h.bw; have := h.wR; omega), bx_grownC h.box hg (by have := h.bw; have := h.wR; have := h.RB; omega), ownsF_grownC h.own hg h.bw, h.bw, h.wR, h.RB, h.nB, h.nR⟩
theorem DSt.below {w : World} {b : Nat} {v : Value} {l : List UInt8} {R B : Nat} {d : CoreD} {cv : Value} {wx w' : World} (h : DSt w b v l R B d cv wx) (hb : Below wx.heap.size wx w') : DSt w b v l R B d cv w' :=
  ⟨grown_below h.grown hb h.grown.size, h.cur.below hb h.cur.lt, h.res.below hb, h.box.below hb, ownsF_below h.own hb (Nat.le_refl _), h.bw, h.wR, h.RB, h.nB, h.nR⟩
theorem DSt.drew {w : World} {b : Nat} {v : Value} {l : List UInt8} {R B : Nat} {d : CoreD} {cv : Value} {wx : World} (h : DSt w b v l R B d cv wx) : DSt w b v l R B d cv wx.drew := h.below ((Below.refl _ _).drew)
/-- a cell of the variable is stored, not the row of cells -/
theorem DSt.set {w : World} {b : Nat} {v : Value} {l : List UInt8} {R B : Nat} {d d' : CoreD} {cv : Value} {wx : World} (h : DSt w b v l R B d cv wx) (j : Nat) (hj : j < 5) (u : Value) (hd : (cCoreV d cv).set j u = cCoreV d' cv) (hc : d'.fCells = d.fCells) : DSt w b v l R B d' cv (wx.setCell ⟨B, j, none⟩ u) :=
  ⟨grown_setO h.grown (by have := h.wR; have := h.RB; omega) j u, cur_setO h.cur (by have := h.bw; have := h.wR; have := h.RB; omega) j u, h.res.other (by have := h.RB; omega) j u, by rw [← hd]; exact h.box.set j hj u, by
    rw [hc]; exact World.ownsRow.kept h.own (row := some B) ⟨rfl, rfl, rfl, by simp, fun i hi hne => Below.heap_setCell wx ⟨B, j, none⟩ u i (fun e => hne (by rw [e]))⟩ (Or.inr h.nB), h.bw, h.wR, h.RB, h.nB, h.nR⟩
/-- the row of cells is stored -/
theorem DSt.setC {w : World} {b : Nat} {v : Value} {l : List UInt8} {R B : Nat} {d : CoreD} {cv : Value} {wx : World} (h : DSt w b v l R B d cv wx) (u : Value) (y : List CellD) (ho : OwnsF cCell 49 2 wx w.heap.size u y) (n1 : u.ownBlock ≠ some B) (n2 : u.ownBlock ≠ some R) : DSt w b v l R B { d with fCells := y } u (wx.setCell ⟨B, 3, none⟩ u) :=
  ⟨grown_setO h.grown (by have := h.wR; have := h.RB; omega) 3 u, cur_setO h.cur (by have := h.bw; have := h.wR; have := h.RB; omega) 3 u, h.res.other (by have := h.RB; omega) 3 u, h.box.set 3 (by simp) u,
    World.ownsRow.kept ho (row := some B) ⟨rfl, rfl, rfl, by simp, fun i hi hne => Below.heap_setCell wx ⟨B, 3, none⟩ u i (fun e => hne (by rw [e]))⟩ (Or.inr n1), h.bw, h.wR, h.RB, n1, n2⟩
theorem DSt.fin {w : World} {b : Nat} {v : Value} {l : List UInt8} {R B : Nat} {d : CoreD} {cv : Value} {wx : World} {n : Nat} (h : DSt w b v l R B d cv wx) (hk : okDr n d) (u0 u1 u2 u3 u4 : Value) :
    DrawnCore n b v l w (.returned (vCore d cv)) (((((wx.setCell ⟨R, 0, none⟩ u0).setCell ⟨R, 1, none⟩ u1).setCell ⟨R, 2, none⟩ u2).setCell ⟨R, 3, none⟩ u3).setCell ⟨R, 4, none⟩ u4) := by
  have hb : b < R := Nat.lt_of_lt_of_le h.bw h.wR
  have hs : ∀ {W : World} (o : Nat) (u : Value), OwnsF cCell 49 2 W w.heap.size cv d.fCells → OwnsF cCell 49 2 (W.setCell ⟨R, o, none⟩ u) w.heap.size cv d.fCells := fun o u ho =>
    World.ownsRow.kept ho (row := some R) ⟨rfl, rfl, rfl, by simp, fun i hi hne => Below.heap_setCell _ ⟨R, o, none⟩ u i (fun e => hne (by rw [e]))⟩ (Or.inr h.nR)
  exact ⟨d, cv, rfl, hs 4 u4 (hs 3 u3 (hs 2 u2 (hs 1 u1 (hs 0 u0 h.own)))), hk, grown_setO (grown_setO (grown_setO (grown_setO (grown_setO h.grown h.wR 0 u0) h.wR 1 u1) h.wR 2 u2) h.wR 3 u3) h.wR 4 u4, cur_setO (cur_setO (cur_setO (cur_setO (cur_setO h.cur hb 0 u0) hb 1 u1) hb 2 u2) hb 3 u3) hb 4 u4⟩
theorem DSt.setC2 {w : World} {b : Nat} {v : Value} {l : List UInt8} {R B : Nat} {d : CoreD} {cv : Value} {w0 wx : World} (h : DSt w b v l R B d cv w0) (hg : w.grownBy wx (some b)) (hC : Cur wx b v l) (hr : Bx wx R zCoreV) (hb : Bx wx B (cCoreV d cv)) (u : Value) (y : List CellD) (ho : OwnsF cCell 49 2 wx w.heap.size u y) (n1 : u.ownBlock ≠ some B) (n2 : u.ownBlock ≠ some R) : DSt w b v l R B { d with fCells := y } u (wx.setCell ⟨B, 3, none⟩ u) :=
  ⟨grown_setO hg (by have := h.wR; have := h.RB; omega) 3 u, cur_setO hC (by have := h.bw; have := h.wR; have := h.RB; omega) 3 u, hr.other (by have := h.RB; omega) 3 u, hb.set 3 (by simp) u,
    World.ownsRow.kept ho (row := some B) ⟨rfl, rfl, rfl, by simp, fun i hi hne => Below.heap_setCell wx ⟨B, 3, none⟩ u i (fun e => hne (by rw [e]))⟩ (Or.inr n1), h.bw, h.wR, h.RB, n1, n2⟩
/-- what an append to the row of one's own leaves of the rest -/
theorem DSt.app {w : World} {b : Nat} {v : Value} {l : List UInt8} {R B : Nat} {d : CoreD} {cv : Value} {wx w' : World} (h : DSt w b v l R B d cv wx) (hg : wx.grownBy w' cv.ownBlock) :
    w.grownBy w' (some b) ∧ Cur w' b v l ∧ Bx w' R zCoreV ∧ Bx w' B (cCoreV d cv) := by
  have hge : ∀ g, cv.ownBlock = some g → w.heap.size ≤ g := fun g e => (World.ownsRow.lt h.own g e).1
  have hsz := h.grown.size
  refine ⟨⟨hg.os.trans h.grown.os, hg.tape.trans h.grown.tape, hg.output.trans h.grown.output, Nat.le_trans h.grown.size hg.size, fun k hk hne => (hg.block k (by omega) (fun e => by have := hge k e.symm; omega)).trans (h.grown.block k hk hne)⟩, ?_, ?_, ?_⟩
  · cases ho : cv.ownBlock with
    | none => rw [ho] at hg; exact h.cur.below (B := wx.heap.size) ⟨hg.os, hg.tape, hg.output, hg.size, fun k hk => hg.block k hk (by simp)⟩ h.cur.lt
    | some g => rw [ho] at hg; exact h.cur.far hg (by have := hge g ho; have := h.bw; omega)
  · exact ⟨Nat.lt_of_lt_of_le h.res.lt hg.size, fun j hj => (World.cell?_of_block (a := ⟨R, j, none⟩) (hg.block R h.res.lt (fun e => h.nR e.symm))).trans (h.res.cell j hj), fun j hj => (World.frozen?_of_block (a := ⟨R, j, none⟩) (hg.block R h.res.lt (fun e => h.nR e.symm))).trans (h.res.froz j hj)⟩
  · exact ⟨Nat.lt_of_lt_of_le h.box.lt hg.size, fun j hj => (World.cell?_of_block (a := ⟨B, j, none⟩) (hg.block B h.box.lt (fun e => h.nB e.symm))).trans (h.box.cell j hj), fun j hj => (World.frozen?_of_block (a := ⟨B, j, none⟩) (hg.block B h.box.lt (fun e => h.nB e.symm))).trans (h.box.froz j hj)⟩
theorem kfI_face2 (k : List UInt8) : isF (kfI (kindI k)) = true := kfI_face _
set_option maxRecDepth 100000 in
set_option maxHeartbeats 6400000 in
theorem l3Draw_any (b : Nat) (v : Value) (l : List UInt8) (w : World) (hC : Cur w b v l) :
    Calls Try.prog 97 #[.pointer (some ⟨b, 0, none⟩)] w fun e w' => DrawnCore 6 b v l w e w' := by
  have hbl := hC.lt
  have HC0 := Lib.hid (cur_alloc hC (.cells #[.string ⟨#[]⟩, .bool false, .bool false, .slice none 0 0, .int .i64 0] 83))
  have BR0 := Lib.hid (Bx.new w zCoreV 83)
  have HG0 := Lib.hid (grown_alloc (grown_refl w (some b)) (.cells #[.string ⟨#[]⟩, .bool false, .bool false, .slice none 0 0, .int .i64 0] 83))
  clear hC
  go_enter Try.func97, Try.ntmps97
  go_wp2_with fail
  refine (l3Kind_any b v l _ HC0.out).mono ?_
  rintro e w1 ⟨z, rfl, hz, hg, hC⟩
  obtain ⟨⟨kl⟩⟩ := z
  have hkl := Lib.hid (show kl.length ≤ 9 from hz)
  have HG1 := Lib.hid (grown_trans HG0.out hg)
  have HC1 := Lib.hid hC
  have BR1 := Lib.hid (bx_grownC BR0.out hg (by omega))
  clear hg hC hz HG0 HC0 BR0
  have HKF := Lib.hid (fun W => specKind_b kl _ rfl W)
  have hff := Lib.hid (kfI_face2 kl)
  generalize kfI (kindI kl) = f at *
  generalize decide (0 ≤ kindI kl) = q at *
  go_wp2_with fail
  refine (HKF.out _).mono ?_
  rintro e w2 ⟨rfl, hb⟩
  have HG2 := Lib.hid (grown_below HG1.out hb HG1.out.size)
  have HC2 := Lib.hid (HC1.out.below hb HC1.out.lt)
  have BR2 := Lib.hid (BR1.out.below hb)
  clear hb HG1 HC1 BR1 HKF
  cases q
  case false =>
    go_wp2_with fail
    refine (l1Below_any b v l _ _ HC2.out (by omega) (by omega)).mono ?_
    rintro e w3 ⟨cnt, rfl, ⟨c0, c1, c2⟩, hg, hC⟩
    have c3 := c2 (by omega)
    clear c2 c1
    have hRl : w.heap.size < w3.heap.size := Nat.lt_of_lt_of_le BR2.out.lt hg.size
    have S := Lib.hid (show DSt w b v l w.heap.size w3.heap.size ⟨[114, 111, 98, 111, 116], false, false, [], cnt⟩ (.slice none 0 0) (w3.alloc (.cells #[.string ⟨#[114, 111, 98, 111, 116]⟩, .bool false, .bool false, .slice none 0 0, .int .i64 cnt] 83)) from ⟨grown_alloc (grown_trans HG2.out hg) _, cur_alloc hC _, (bx_grownC BR2.out hg (by omega)).alloc _, Bx.new w3 (cCoreV ⟨[114, 111, 98, 111, 116], false, false, [], cnt⟩ (.slice none 0 0)) 83, ownsF_nil _ _ _ _ _, hbl, Nat.le_refl _, hRl, by simp [Value.ownBlock], by simp [Value.ownBlock]⟩)
    clear hg hC HG2 HC2 BR2
    have HH0 := Lib.hid (fun W => l2Has_0 63 _ rfl rfl W)
    have HH1 := Lib.hid (fun W => l2Has_1 63 _ rfl rfl W)
    generalize hasI 63 0 = h0 at *
    generalize hasI 63 1 = h1 at *
    go_wp2_with fail
    generalize w3.alloc (.cells #[.string ⟨#[114, 111, 98, 111, 116]⟩, .bool false, .bool false, .slice none 0 0, .int .i64 cnt] 83) = w4 at *
    refine (HH0.out _).mono ?_
    rintro e w' ⟨rfl, rfl⟩
    cases h0
    case false =>
      go_wp2_with fail
      refine (HH1.out _).mono ?_
      rintro e w' ⟨rfl, rfl⟩
      cases h1
      case false =>
        go_wp2_with fail
        refine (l1Once_any b v l _ _ S.out.cur (by omega) (by omega)).mono ?_
        rintro e w1 ⟨o, rfl, hg, hC⟩
        have S := Lib.hid (S.out.draw hg hC)
        clear hg hC
        cases o
        case false =>
          have BP := Lib.hid S.out.box
          have BR := Lib.hid S.out.res
          have p0 := BP.out.cell 0 (by simp)
          have p1 := BP.out.cell 1 (by simp)
          have p2 := BP.out.cell 2 (by simp)
          have p3 := BP.out.cell 3 (by simp)
          have p4 := BP.out.cell 4 (by simp)
          simp only [List.getElem_cons_zero, List.getElem_cons_succ] at p0 p1 p2 p3 p4
          have x0 := BP.out.froz 0 (by simp)
          have x1 := BP.out.froz 1 (by simp)
          have x2 := BP.out.froz 2 (by simp)
          have x3 := BP.out.froz 3 (by simp)
          have x4 := BP.out.froz 4 (by simp)
          have r0 := BR.out.cell 0 (by simp)
          have r1 := BR.out.cell 1 (by simp)
          have r2 := BR.out.cell 2 (by simp)
          have r3 := BR.out.cell 3 (by simp)
          have r4 := BR.out.cell 4 (by simp)
          simp only [List.getElem_cons_zero, List.getElem_cons_succ] at r0 r1 r2 r3 r4
          have y0 := BR.out.froz 0 (by simp)
          have y1 := BR.out.froz 1 (by simp)
          have y2 := BR.out.froz 2 (by simp)
          have y3 := BR.out.froz 3 (by simp)
          have y4 := BR.out.froz 4 (by simp)
          have lB := BP.out.lt
          have lR := BR.out.lt
          have hRB := S.out.RB
          go_wp2_with fail
          refine bodyPost_ret (v := .agg #[.string ⟨#[114, 111, 98, 111, 116]⟩, .bool false, .bool false, (.slice none 0 0), .int .i64 cnt]) (by simp [results, Try.results97, go_sem, cell_set_at, cell_set_ne, r0, r1, r2, r3, r4]) rfl ?_
          exact DSt.fin (d := ⟨[114, 111, 98, 111, 116], false, false, [], cnt⟩) S.out ⟨by simp, by simp, by simp, show I64 cnt from ⟨by omega, by omega⟩⟩ _ _ _ _ _
        case true =>
          go_wp2_with fail
          refine (l1Below_any b v l _ _ S.out.cur (by omega) (by omega)).mono ?_
          rintro e w1 ⟨k, rfl, ⟨k0, k1, k2⟩, hg, hC⟩
          have k3 := k2 (by omega)
          have hk9 : IntKind.i64.wrap (999 - k) = 999 - k := by rw [IntKind.wrap_i64]; omega
          have S := Lib.hid (S.out.draw hg hC)
          clear hg hC k1 k2
          have BP := Lib.hid S.out.box
          have BR := Lib.hid S.out.res
          have p0 := BP.out.cell 0 (by simp)
          have p1 := BP.out.cell 1 (by simp)
          have p2 := BP.out.cell 2 (by simp)
          have p3 := BP.out.cell 3 (by simp)
          have p4 := BP.out.cell 4 (by simp)
          simp only [List.getElem_cons_zero, List.getElem_cons_succ] at p0 p1 p2 p3 p4
          have x0 := BP.out.froz 0 (by simp)
          have x1 := BP.out.froz 1 (by simp)
          have x2 := BP.out.froz 2 (by simp)
          have x3 := BP.out.froz 3 (by simp)
          have x4 := BP.out.froz 4 (by simp)
          have r0 := BR.out.cell 0 (by simp)
          have r1 := BR.out.cell 1 (by simp)
          have r2 := BR.out.cell 2 (by simp)
          have r3 := BR.out.cell 3 (by simp)
          have r4 := BR.out.cell 4 (by simp)
          simp only [List.getElem_cons_zero, List.getElem_cons_succ] at r0 r1 r2 r3 r4
          have y0 := BR.out.froz 0 (by simp)
          have y1 := BR.out.froz 1 (by simp)
          have y2 := BR.out.froz 2 (by simp)
          have y3 := BR.out.froz 3 (by simp)
          have y4 := BR.out.froz 4 (by simp)
          have lB := BP.out.lt
          have lR := BR.out.lt
          have hRB := S.out.RB
          have S9 := Lib.hid (DSt.set (d' := ⟨[114, 111, 98, 111, 116], false, false, [], 999 - k⟩) S.out 4 (by decide) (.int .i64 (999 - k)) rfl rfl)
          go_wp2_with fail
          refine bodyPost_ret (v := .agg #[.string ⟨#[114, 111, 98, 111, 116]⟩, .bool false, .bool false, (.slice none 0 0), .int .i64 (999 - k)]) (by simp [results, Try.results97, go_sem, cell_set_at, cell_set_ne, r0, r1, r2, r3, r4]) rfl ?_
          exact DSt.fin (d := ⟨[114, 111, 98, 111, 116], false, false, [], 999 - k⟩) S9.out ⟨by simp, by simp, by simp, show I64 (999 - k) from ⟨by omega, by omega⟩⟩ _ _ _ _ _
      case true =>
        go_wp2_with fail
        have hsz := S.out.box.lt
        have hRB0 := S.out.RB
        refine (l3Cells_any b v l _ S.out.cur).mono ?_
        rintro e w1 ⟨u, y, rfl, ho, hsm, hg, hC⟩
        have HSM := Lib.hid hsm
        obtain ⟨ua, uc, rfl⟩ := slice_of ho
        have n1 : (Value.slice ua y.length uc).ownBlock ≠ some w3.heap.size := fun e => by have := (World.ownsRow.lt ho _ e).1; omega
        have n2 : (Value.slice ua y.length uc).ownBlock ≠ some w.heap.size := fun e => by have := (World.ownsRow.lt ho _ e).1; omega
        have hgs := S.out.grown.size
        have S1 := Lib.hid (S.out.draw hg hC)
        have S := Lib.hid (S1.out.setC _ y (ownsF_base ho hgs) n1 n2)
        have BP1 := Lib.hid S1.out.box
        have p0 := BP1.out.cell 0 (by simp)
        have p1 := BP1.out.cell 1 (by simp)
        have p2 := BP1.out.cell 2 (by simp)
        have p3 := BP1.out.cell 3 (by simp)
        have p4 := BP1.out.cell 4 (by simp)
        simp only [List.getElem_cons_zero, List.getElem_cons_succ] at p0 p1 p2 p3 p4
        have x0 := BP1.out.froz 0 (by simp)
        have x1 := BP1.out.froz 1 (by simp)
        have x2 := BP1.out.froz 2 (by simp)
        have x3 := BP1.out.froz 3 (by simp)
        have x4 := BP1.out.froz 4 (by simp)
        have lB := BP1.out.lt
        clear ho hsm hg hC hsz hRB0 n1 n2 hgs
        go_wp2_with fail
        clear p0 p1 p2 p3 p4 x0 x1 x2 x3 x4 lB BP1 S1
        refine (l1Once_any b v l _ _ S.out.cur (by omega) (by omega)).mono ?_
        rintro e w1 ⟨o, rfl, hg, hC⟩
        have S := Lib.hid (S.out.draw hg hC)
        clear hg hC
        cases o
        case false =>
          have BP := Lib.hid S.out.box
          have BR := Lib.hid S.out.res
          have p0 := BP.out.cell 0 (by simp)
          have p1 := BP.out.cell 1 (by simp)
          have p2 := BP.out.cell 2 (by simp)
          have p3 := BP.out.cell 3 (by simp)
          have p4 := BP.out.cell 4 (by simp)
          simp only [List.getElem_cons_zero, List.getElem_cons_succ] at p0 p1 p2 p3 p4
          have x0 := BP.out.froz 0 (by simp)
          have x1 := BP.out.froz 1 (by simp)
          have x2 := BP.out.froz 2 (by simp)
          have x3 := BP.out.froz 3 (by simp)
          have x4 := BP.out.froz 4 (by simp)
          have r0 := BR.out.cell 0 (by simp)
          have r1 := BR.out.cell 1 (by simp)
          have r2 := BR.out.cell 2 (by simp)
          have r3 := BR.out.cell 3 (by simp)
          have r4 := BR.out.cell 4 (by simp)
          simp only [List.getElem_cons_zero, List.getElem_cons_succ] at r0 r1 r2 r3 r4
          have y0 := BR.out.froz 0 (by simp)
          have y1 := BR.out.froz 1 (by simp)
          have y2 := BR.out.froz 2 (by simp)
          have y3 := BR.out.froz 3 (by simp)
          have y4 := BR.out.froz 4 (by simp)
          have lB := BP.out.lt
          have lR := BR.out.lt
          have hRB := S.out.RB
          go_wp2_with fail
          refine bodyPost_ret (v := .agg #[.string ⟨#[114, 111, 98, 111, 116]⟩, .bool false, .bool false, (.slice ua y.length uc), .int .i64 cnt]) (by simp [results, Try.results97, go_sem, cell_set_at, cell_set_ne, r0, r1, r2, r3, r4]) rfl ?_
          exact DSt.fin (d := ⟨[114, 111, 98, 111, 116], false, false, y, cnt⟩) S.out ⟨by simp, HSM.out.1, HSM.out.2, show I64 cnt from ⟨by omega, by omega⟩⟩ _ _ _ _ _
        case true =>
          go_wp2_with fail
          refine (l1Below_any b v l _ _ S.out.cur (by omega) (by omega)).mono ?_
          rintro e w1 ⟨k, rfl, ⟨k0, k1, k2⟩, hg, hC⟩
          have k3 := k2 (by omega)
          have hk9 : IntKind.i64.wrap (999 - k) = 999 - k := by rw [IntKind.wrap_i64]; omega
          have S := Lib.hid (S.out.draw hg hC)
          clear hg hC k1 k2
          have BP := Lib.hid S.out.box
          have BR := Lib.hid S.out.res
          have p0 := BP.out.cell 0 (by simp)
          have p1 := BP.out.cell 1 (by simp)
          have p2 := BP.out.cell 2 (by simp)
          have p3 := BP.out.cell 3 (by simp)
          have p4 := BP.out.cell 4 (by simp)
          simp only [List.getElem_cons_zero, List.getElem_cons_succ] at p0 p1 p2 p3 p4
          have x0 := BP.out.froz 0 (by simp)
          have x1 := BP.out.froz 1 (by simp)
          have x2 := BP.out.froz 2 (by simp)
          have x3 := BP.out.froz 3 (by simp)
          have x4 := BP.out.froz 4 (by simp)
          have r0 := BR.out.cell 0 (by simp)
          have r1 := BR.out.cell 1 (by simp)
          have r2 := BR.out.cell 2 (by simp)
          have r3 := BR.out.cell 3 (by simp)
          have r4 := BR.out.cell 4 (by simp)
          simp only [List.getElem_cons_zero, List.getElem_cons_succ] at r0 r1 r2 r3 r4
          have y0 := BR.out.froz 0 (by simp)
          have y1 := BR.out.froz 1 (by simp)
          have y2 := BR.out.froz 2 (by simp)
          have y3 := BR.out.froz 3 (by simp)
          have y4 := BR.out.froz 4 (by simp)
          have lB := BP.out.lt
          have lR := BR.out.lt
          have hRB := S.out.RB
          have S9 := Lib.hid (DSt.set (d' := ⟨[114, 111, 98, 111, 116], false, false, y, 999 - k⟩) S.out 4 (by decide) (.int .i64 (999 - k)) rfl rfl)
          go_wp2_with fail
          refine bodyPost_ret (v := .agg #[.string ⟨#[114, 111, 98, 111, 116]⟩, .bool false, .bool false, (.slice ua y.length uc), .int .i64 (999 - k)]) (by simp [results, Try.results97, go_sem, cell_set_at, cell_set_ne, r0, r1, r2, r3, r4]) rfl ?_
          exact DSt.fin (d := ⟨[114, 111, 98, 111, 116], false, false, y, 999 - k⟩) S9.out ⟨by simp, HSM.out.1, HSM.out.2, show I64 (999 - k) from ⟨by omega, by omega⟩⟩ _ _ _ _ _
    case true =>
      go_wp2_with fail
      refine (l1Below_any b v l _ _ S.out.cur (by omega) (by omega)).mono ?_
      rintro e w5 ⟨n, rfl, ⟨n0, n1, n2⟩, hg, hC⟩
      have S0 := Lib.hid (S.out.draw hg hC)
      clear hg hC n1 n2
      by_cases hn : 0 < n
      · skip
        have hdn : decide (0 < n) = true := by simpa using hn
        have S1 := Lib.hid (DSt.set (d' := ⟨[114, 111, 98, 111, 116], true, false, [], cnt⟩) S0.out 1 (by decide) (.bool true) rfl rfl)
        have BP := Lib.hid S0.out.box
        have p0 := BP.out.cell 0 (by simp)
        have p1 := BP.out.cell 1 (by simp)
        have p2 := BP.out.cell 2 (by simp)
        have p3 := BP.out.cell 3 (by simp)
        have p4 := BP.out.cell 4 (by simp)
        simp only [List.getElem_cons_zero, List.getElem_cons_succ] at p0 p1 p2 p3 p4
        have x0 := BP.out.froz 0 (by simp)
        have x1 := BP.out.froz 1 (by simp)
        have x2 := BP.out.froz 2 (by simp)
        have x3 := BP.out.froz 3 (by simp)
        have x4 := BP.out.froz 4 (by simp)
        have lB := BP.out.lt
        go_wp2_with fail
        have S := Lib.hid (DSt.set (d' := ⟨[114, 111, 98, 111, 116], true, false, [], cnt⟩) S1.out 2 (by decide) (.bool false) rfl rfl)
        clear S0 S1 BP p0 p1 p2 p3 p4 x0 x1 x2 x3 x4 lB
        refine (HH1.out _).mono ?_
        rintro e w' ⟨rfl, rfl⟩
        cases h1
        case false =>
          go_wp2_with fail
          refine (l1Once_any b v l _ _ S.out.cur (by omega) (by omega)).mono ?_
          rintro e w1 ⟨o, rfl, hg, hC⟩
          have S := Lib.hid (S.out.draw hg hC)
          clear hg hC
          cases o
          case false =>
            have BP := Lib.hid S.out.box
            have BR := Lib.hid S.out.res
            have p0 := BP.out.cell 0 (by simp)
            have p1 := BP.out.cell 1 (by simp)
            have p2 := BP.out.cell 2 (by simp)
            have p3 := BP.out.cell 3 (by simp)
            have p4 := BP.out.cell 4 (by simp)
            simp only [List.getElem_cons_zero, List.getElem_cons_succ] at p0 p1 p2 p3 p4
            have x0 := BP.out.froz 0 (by simp)
            have x1 := BP.out.froz 1 (by simp)
            have x2 := BP.out.froz 2 (by simp)
            have x3 := BP.out.froz 3 (by simp)
            have x4 := BP.out.froz 4 (by simp)
            have r0 := BR.out.cell 0 (by simp)
            have r1 := BR.out.cell 1 (by simp)
            have r2 := BR.out.cell 2 (by simp)
            have r3 := BR.out.cell 3 (by simp)
            have r4 := BR.out.cell 4 (by simp)
            simp only [List.getElem_cons_zero, List.getElem_cons_succ] at r0 r1 r2 r3 r4
            have y0 := BR.out.froz 0 (by simp)
            have y1 := BR.out.froz 1 (by simp)
            have y2 := BR.out.froz 2 (by simp)
            have y3 := BR.out.froz 3 (by simp)
            have y4 := BR.out.froz 4 (by simp)
            have lB := BP.out.lt
            have lR := BR.out.lt
            have hRB := S.out.RB
            go_wp2_with fail
            refine bodyPost_ret (v := .agg #[.string ⟨#[114, 111, 98, 111, 116]⟩, .bool true, .bool false, (.slice none 0 0), .int .i64 cnt]) (by simp [results, Try.results97, go_sem, cell_set_at, cell_set_ne, r0, r1, r2, r3, r4]) rfl ?_
            exact DSt.fin (d := ⟨[114, 111, 98, 111, 116], true, false, [], cnt⟩) S.out ⟨by simp, by simp, by simp, show I64 cnt from ⟨by omega, by omega⟩⟩ _ _ _ _ _
          case true =>
            go_wp2_with fail
            refine (l1Below_any b v l _ _ S.out.cur (by omega) (by omega)).mono ?_
            rintro e w1 ⟨k, rfl, ⟨k0, k1, k2⟩, hg, hC⟩
            have k3 := k2 (by omega)
            have hk9 : IntKind.i64.wrap (999 - k) = 999 - k := by rw [IntKind.wrap_i64]; omega
            have S := Lib.hid (S.out.draw hg hC)
            clear hg hC k1 k2
            have BP := Lib.hid S.out.box
            have BR := Lib.hid S.out.res
            have p0 := BP.out.cell 0 (by simp)
            have p1 := BP.out.cell 1 (by simp)
            have p2 := BP.out.cell 2 (by simp)
            have p3 := BP.out.cell 3 (by simp)
            have p4 := BP.out.cell 4 (by simp)
            simp only [List.getElem_cons_zero, List.getElem_cons_succ] at p0 p1 p2 p3 p4
            have x0 := BP.out.froz 0 (by simp)
            have x1 := BP.out.froz 1 (by simp)
            have x2 := BP.out.froz 2 (by simp)
            have x3 := BP.out.froz 3 (by simp)
            have x4 := BP.out.froz 4 (by simp)
            have r0 := BR.out.cell 0 (by simp)
            have r1 := BR.out.cell 1 (by simp)
            have r2 := BR.out.cell 2 (by simp)
            have r3 := BR.out.cell 3 (by simp)
            have r4 := BR.out.cell 4 (by simp)
            simp only [List.getElem_cons_zero, List.getElem_cons_succ] at r0 r1 r2 r3 r4
            have y0 := BR.out.froz 0 (by simp)
            have y1 := BR.out.froz 1 (by simp)
            have y2 := BR.out.froz 2 (by simp)
            have y3 := BR.out.froz 3 (by simp)
            have y4 := BR.out.froz 4 (by simp)
            have lB := BP.out.lt
            have lR := BR.out.lt
            have hRB := S.out.RB
            have S9 := Lib.hid (DSt.set (d' := ⟨[114, 111, 98, 111, 116], true, false, [], 999 - k⟩) S.out 4 (by decide) (.int .i64 (999 - k)) rfl rfl)
            go_wp2_with fail
            refine bodyPost_ret (v := .agg #[.string ⟨#[114, 111, 98, 111, 116]⟩, .bool true, .bool false, (.slice none 0 0), .int .i64 (999 - k)]) (by simp [results, Try.results97, go_sem, cell_set_at, cell_set_ne, r0, r1, r2, r3, r4]) rfl ?_
            exact DSt.fin (d := ⟨[114, 111, 98, 111, 116], true, false, [], 999 - k⟩) S9.out ⟨by simp, by simp, by simp, show I64 (999 - k) from ⟨by omega, by omega⟩⟩ _ _ _ _ _
        case true =>
          go_wp2_with fail
          have hsz := S.out.box.lt
          have hRB0 := S.out.RB
          refine (l3Cells_any b v l _ S.out.cur).mono ?_
          rintro e w1 ⟨u, y, rfl, ho, hsm, hg, hC⟩
          have HSM := Lib.hid hsm
          obtain ⟨ua, uc, rfl⟩ := slice_of ho
          have n1 : (Value.slice ua y.length uc).ownBlock ≠ some w3.heap.size := fun e => by have := (World.ownsRow.lt ho _ e).1; omega
          have n2 : (Value.slice ua y.length uc).ownBlock ≠ some w.heap.size := fun e => by have := (World.ownsRow.lt ho _ e).1; omega
          have hgs := S.out.grown.size
          have S1 := Lib.hid (S.out.draw hg hC)
          have S := Lib.hid (S1.out.setC _ y (ownsF_base ho hgs) n1 n2)
          have BP1 := Lib.hid S1.out.box
          have p0 := BP1.out.cell 0 (by simp)
          have p1 := BP1.out.cell 1 (by simp)
          have p2 := BP1.out.cell 2 (by simp)
          have p3 := BP1.out.cell 3 (by simp)
          have p4 := BP1.out.cell 4 (by simp)
          simp only [List.getElem_cons_zero, List.getElem_cons_succ] at p0 p1 p2 p3 p4
          have x0 := BP1.out.froz 0 (by simp)
          have x1 := BP1.out.froz 1 (by simp)
          have x2 := BP1.out.froz 2 (by simp)
          have x3 := BP1.out.froz 3 (by simp)
          have x4 := BP1.out.froz 4 (by simp)
          have lB := BP1.out.lt
          clear ho hsm hg hC hsz hRB0 n1 n2 hgs
          go_wp2_with fail
          clear p0 p1 p2 p3 p4 x0 x1 x2 x3 x4 lB BP1 S1
          refine (l1Once_any b v l _ _ S.out.cur (by omega) (by omega)).mono ?_
          rintro e w1 ⟨o, rfl, hg, hC⟩
          have S := Lib.hid (S.out.draw hg hC)
          clear hg hC
          cases o
          case false =>
            have BP := Lib.hid S.out.box
            have BR := Lib.hid S.out.res
            have p0 := BP.out.cell 0 (by simp)
            have p1 := BP.out.cell 1 (by simp)
            have p2 := BP.out.cell 2 (by simp)
            have p3 := BP.out.cell 3 (by simp)
            have p4 := BP.out.cell 4 (by simp)
            simp only [List.getElem_cons_zero, List.getElem_cons_succ] at p0 p1 p2 p3 p4
            have x0 := BP.out.froz 0 (by simp)
            have x1 := BP.out.froz 1 (by simp)
            have x2 := BP.out.froz 2 (by simp)
            have x3 := BP.out.froz 3 (by simp)
            have x4 := BP.out.froz 4 (by simp)
            have r0 := BR.out.cell 0 (by simp)
            have r1 := BR.out.cell 1 (by simp)
            have r2 := BR.out.cell 2 (by simp)
            have r3 := BR.out.cell 3 (by simp)
            have r4 := BR.out.cell 4 (by simp)
            simp only [List.getElem_cons_zero, List.getElem_cons_succ] at r0 r1 r2 r3 r4
            have y0 := BR.out.froz 0 (by simp)
            have y1 := BR.out.froz 1 (by simp)
            have y2 := BR.out.froz 2 (by simp)
            have y3 := BR.out.froz 3 (by simp)
            have y4 := BR.out.froz 4 (by simp)
            have lB := BP.out.lt
            have lR := BR.out.lt
            have hRB := S.out.RB
            go_wp2_with fail
            refine bodyPost_ret (v := .agg #[.string ⟨#[114, 111, 98, 111, 116]⟩, .bool true, .bool false, (.slice ua y.length uc), .int .i64 cnt]) (by simp [results, Try.results97, go_sem, cell_set_at, cell_set_ne, r0, r1, r2, r3, r4]) rfl ?_
            exact DSt.fin (d := ⟨[114, 111, 98, 111, 116], true, false, y, cnt⟩) S.out ⟨by simp, HSM.out.1, HSM.out.2, show I64 cnt from ⟨by omega, by omega⟩⟩ _ _ _ _ _
          case true =>
            go_wp2_with fail
            refine (l1Below_any b v l _ _ S.out.cur (by omega) (by omega)).mono ?_
            rintro e w1 ⟨k, rfl, ⟨k0, k1, k2⟩, hg, hC⟩
            have k3 := k2 (by omega)
            have hk9 : IntKind.i64.wrap (999 - k) = 999 - k := by rw [IntKind.wrap_i64]; omega
            have S := Lib.hid (S.out.draw hg hC)
            clear hg hC k1 k2
            have BP := Lib.hid S.out.box
            have BR := Lib.hid S.out.res
            have p0 := BP.out.cell 0 (by simp)
            have p1 := BP.out.cell 1 (by simp)
            have p2 := BP.out.cell 2 (by simp)
            have p3 := BP.out.cell 3 (by simp)
            have p4 := BP.out.cell 4 (by simp)
            simp only [List.getElem_cons_zero, List.getElem_cons_succ] at p0 p1 p2 p3 p4
            have x0 := BP.out.froz 0 (by simp)
            have x1 := BP.out.froz 1 (by simp)
            have x2 := BP.out.froz 2 (by simp)
            have x3 := BP.out.froz 3 (by simp)
            have x4 := BP.out.froz 4 (by simp)
            have r0 := BR.out.cell 0 (by simp)
            have r1 := BR.out.cell 1 (by simp)
            have r2 := BR.out.cell 2 (by simp)
            have r3 := BR.out.cell 3 (by simp)
            have r4 := BR.out.cell 4 (by simp)
            simp only [List.getElem_cons_zero, List.getElem_cons_succ] at r0 r1 r2 r3 r4
            have y0 := BR.out.froz 0 (by simp)
            have y1 := BR.out.froz 1 (by simp)
            have y2 := BR.out.froz 2 (by simp)
            have y3 := BR.out.froz 3 (by simp)
            have y4 := BR.out.froz 4 (by simp)
            have lB := BP.out.lt
            have lR := BR.out.lt
            have hRB := S.out.RB
            have S9 := Lib.hid (DSt.set (d' := ⟨[114, 111, 98, 111, 116], true, false, y, 999 - k⟩) S.out 4 (by decide) (.int .i64 (999 - k)) rfl rfl)
            go_wp2_with fail
            refine bodyPost_ret (v := .agg #[.string ⟨#[114, 111, 98, 111, 116]⟩, .bool true, .bool false, (.slice ua y.length uc), .int .i64 (999 - k)]) (by simp [results, Try.results97, go_sem, cell_set_at, cell_set_ne, r0, r1, r2, r3, r4]) rfl ?_
            exact DSt.fin (d := ⟨[114, 111, 98, 111, 116], true, false, y, 999 - k⟩) S9.out ⟨by simp, HSM.out.1, HSM.out.2, show I64 (999 - k) from ⟨by omega, by omega⟩⟩ _ _ _ _ _
      · skip
        have hdn : decide (0 < n) = false := by simpa using hn
        have S1 := Lib.hid (DSt.set (d' := ⟨[114, 111, 98, 111, 116], false, false, [], cnt⟩) S0.out 1 (by decide) (.bool false) rfl rfl)
        have BP := Lib.hid S0.out.box
        have p0 := BP.out.cell 0 (by simp)
        have p1 := BP.out.cell 1 (by simp)
        have p2 := BP.out.cell 2 (by simp)
        have p3 := BP.out.cell 3 (by simp)
        have p4 := BP.out.cell 4 (by simp)
        simp only [List.getElem_cons_zero, List.getElem_cons_succ] at p0 p1 p2 p3 p4
        have x0 := BP.out.froz 0 (by simp)
        have x1 := BP.out.froz 1 (by simp)
        have x2 := BP.out.froz 2 (by simp)
        have x3 := BP.out.froz 3 (by simp)
        have x4 := BP.out.froz 4 (by simp)
        have lB := BP.out.lt
        go_wp2_with fail
        refine (l1Once_any b v l _ _ S1.out.cur (by omega) (by omega)).mono ?_
        rintro e w6 ⟨o, rfl, hg, hC⟩
        have S2 := Lib.hid (S1.out.draw hg hC)
        have S := Lib.hid (DSt.set (d' := ⟨[114, 111, 98, 111, 116], false, o, [], cnt⟩) S2.out 2 (by decide) (.bool o) rfl rfl)
        clear hg hC BP p0 p1 p2 p3 p4 x0 x1 x2 x3 x4 lB
        have BP := Lib.hid S2.out.box
        have p0 := BP.out.cell 0 (by simp)
        have p1 := BP.out.cell 1 (by simp)
        have p2 := BP.out.cell 2 (by simp)
        have p3 := BP.out.cell 3 (by simp)
        have p4 := BP.out.cell 4 (by simp)
        simp only [List.getElem_cons_zero, List.getElem_cons_succ] at p0 p1 p2 p3 p4
        have x0 := BP.out.froz 0 (by simp)
        have x1 := BP.out.froz 1 (by simp)
        have x2 := BP.out.froz 2 (by simp)
        have x3 := BP.out.froz 3 (by simp)
        have x4 := BP.out.froz 4 (by simp)
        have lB := BP.out.lt
        go_wp2_with fail
        clear S0 S1 S2 BP p0 p1 p2 p3 p4 x0 x1 x2 x3 x4 lB
        refine (HH1.out _).mono ?_
        rintro e w' ⟨rfl, rfl⟩
        cases h1
        case false =>
          go_wp2_with fail
          refine (l1Once_any b v l _ _ S.out.cur (by omega) (by omega)).mono ?_
          rintro e w1 ⟨o, rfl, hg, hC⟩
          have S := Lib.hid (S.out.draw hg hC)
          clear hg hC
          cases o
          case false =>
            have BP := Lib.hid S.out.box
            have BR := Lib.hid S.out.res
            have p0 := BP.out.cell 0 (by simp)
            have p1 := BP.out.cell 1 (by simp)
            have p2 := BP.out.cell 2 (by simp)
            have p3 := BP.out.cell 3 (by simp)
            have p4 := BP.out.cell 4 (by simp)
            simp only [List.getElem_cons_zero, List.getElem_cons_succ] at p0 p1 p2 p3 p4
            have x0 := BP.out.froz 0 (by simp)
            have x1 := BP.out.froz 1 (by simp)
            have x2 := BP.out.froz 2 (by simp)
            have x3 := BP.out.froz 3 (by simp)
            have x4 := BP.out.froz 4 (by simp)
            have r0 := BR.out.cell 0 (by simp)
            have r1 := BR.out.cell 1 (by simp)
            have r2 := BR.out.cell 2 (by simp)
            have r3 := BR.out.cell 3 (by simp)
            have r4 := BR.out.cell 4 (by simp)
            simp only [List.getElem_cons_zero, List.getElem_cons_succ] at r0 r1 r2 r3 r4
            have y0 := BR.out.froz 0 (by simp)
            have y1 := BR.out.froz 1 (by simp)
            have y2 := BR.out.froz 2 (by simp)
            have y3 := BR.out.froz 3 (by simp)
            have y4 := BR.out.froz 4 (by simp)
            have lB := BP.out.lt
            have lR := BR.out.lt
            have hRB := S.out.RB
            go_wp2_with fail
            refine bodyPost_ret (v := .agg #[.string ⟨#[114, 111, 98, 111, 116]⟩, .bool false, .bool o, (.slice none 0 0), .int .i64 cnt]) (by simp [results, Try.results97, go_sem, cell_set_at, cell_set_ne, r0, r1, r2, r3, r4]) rfl ?_
            exact DSt.fin (d := ⟨[114, 111, 98, 111, 116], false, o, [], cnt⟩) S.out ⟨by simp, by simp, by simp, show I64 cnt from ⟨by omega, by omega⟩⟩ _ _ _ _ _
          case true =>
            go_wp2_with fail
            refine (l1Below_any b v l _ _ S.out.cur (by omega) (by omega)).mono ?_
            rintro e w1 ⟨k, rfl, ⟨k0, k1, k2⟩, hg, hC⟩
            have k3 := k2 (by omega)
            have hk9 : IntKind.i64.wrap (999 - k) = 999 - k := by rw [IntKind.wrap_i64]; omega
            have S := Lib.hid (S.out.draw hg hC)
            clear hg hC k1 k2
            have BP := Lib.hid S.out.box
            have BR := Lib.hid S.out.res
            have p0 := BP.out.cell 0 (by simp)
            have p1 := BP.out.cell 1 (by simp)
            have p2 := BP.out.cell 2 (by simp)
            have p3 := BP.out.cell 3 (by simp)
            have p4 := BP.out.cell 4 (by simp)
            simp only [List.getElem_cons_zero, List.getElem_cons_succ] at p0 p1 p2 p3 p4
            have x0 := BP.out.froz 0 (by simp)
            have x1 := BP.out.froz 1 (by simp)
            have x2 := BP.out.froz 2 (by simp)
            have x3 := BP.out.froz 3 (by simp)
            have x4 := BP.out.froz 4 (by simp)
            have r0 := BR.out.cell 0 (by simp)
            have r1 := BR.out.cell 1 (by simp)
            have r2 := BR.out.cell 2 (by simp)
            have r3 := BR.out.cell 3 (by simp)
            have r4 := BR.out.cell 4 (by simp)
            simp only [List.getElem_cons_zero, List.getElem_cons_succ] at r0 r1 r2 r3 r4
            have y0 := BR.out.froz 0 (by simp)
            have y1 := BR.out.froz 1 (by simp)
            have y2 := BR.out.froz 2 (by simp)
            have y3 := BR.out.froz 3 (by simp)
            have y4 := BR.out.froz 4 (by simp)
            have lB := BP.out.lt
            have lR := BR.out.lt
            have hRB := S.out.RB
            have S9 := Lib.hid (DSt.set (d' := ⟨[114, 111, 98, 111, 116], false, o, [], 999 - k⟩) S.out 4 (by decide) (.int .i64 (999 - k)) rfl rfl)
            go_wp2_with fail
            refine bodyPost_ret (v := .agg #[.string ⟨#[114, 111, 98, 111, 116]⟩, .bool false, .bool o, (.slice none 0 0), .int .i64 (999 - k)]) (by simp [results, Try.results97, go_sem, cell_set_at, cell_set_ne, r0, r1, r2, r3, r4]) rfl ?_
            exact DSt.fin (d := ⟨[114, 111, 98, 111, 116], false, o, [], 999 - k⟩) S9.out ⟨by simp, by simp, by simp, show I64 (999 - k) from ⟨by omega, by omega⟩⟩ _ _ _ _ _
        case true =>
          go_wp2_with fail
          have hsz := S.out.box.lt
          have hRB0 := S.out.RB
          refine (l3Cells_any b v l _ S.out.cur).mono ?_
          rintro e w1 ⟨u, y, rfl, ho, hsm, hg, hC⟩
          have HSM := Lib.hid hsm
          obtain ⟨ua, uc, rfl⟩ := slice_of ho
          have n1 : (Value.slice ua y.length uc).ownBlock ≠ some w3.heap.size := fun e => by have := (World.ownsRow.lt ho _ e).1; omega
          have n2 : (Value.slice ua y.length uc).ownBlock ≠ some w.heap.size := fun e => by have := (World.ownsRow.lt ho _ e).1; omega
          have hgs := S.out.grown.size
          have S1 := Lib.hid (S.out.draw hg hC)
          have S := Lib.hid (S1.out.setC _ y (ownsF_base ho hgs) n1 n2)
          have BP1 := Lib.hid S1.out.box
          have p0 := BP1.out.cell 0 (by simp)
          have p1 := BP1.out.cell 1 (by simp)
          have p2 := BP1.out.cell 2 (by simp)
          have p3 := BP1.out.cell 3 (by simp)
          have p4 := BP1.out.cell 4 (by simp)
          simp only [List.getElem_cons_zero, List.getElem_cons_succ] at p0 p1 p2 p3 p4
          have x0 := BP1.out.froz 0 (by simp)
          have x1 := BP1.out.froz 1 (by simp)
          have x2 := BP1.out.froz 2 (by simp)
          have x3 := BP1.out.froz 3 (by simp)
          have x4 := BP1.out.froz 4 (by simp)
          have lB := BP1.out.lt
          clear ho hsm hg hC hsz hRB0 n1 n2 hgs
          go_wp2_with fail
          clear p0 p1 p2 p3 p4 x0 x1 x2 x3 x4 lB BP1 S1
          refine (l1Once_any b v l _ _ S.out.cur (by omega) (by omega)).mono ?_
          rintro e w1 ⟨o, rfl, hg, hC⟩
          have S := Lib.hid (S.out.draw hg hC)
          clear hg hC
          cases o
          case false =>
            have BP := Lib.hid S.out.box
            have BR := Lib.hid S.out.res
            have p0 := BP.out.cell 0 (by simp)
            have p1 := BP.out.cell 1 (by simp)
            have p2 := BP.out.cell 2 (by simp)
            have p3 := BP.out.cell 3 (by simp)
            have p4 := BP.out.cell 4 (by simp)
            simp only [List.getElem_cons_zero, List.getElem_cons_succ] at p0 p1 p2 p3 p4
            have x0 := BP.out.froz 0 (by simp)
            have x1 := BP.out.froz 1 (by simp)
            have x2 := BP.out.froz 2 (by simp)
            have x3 := BP.out.froz 3 (by simp)
            have x4 := BP.out.froz 4 (by simp)
            have r0 := BR.out.cell 0 (by simp)
            have r1 := BR.out.cell 1 (by simp)
            have r2 := BR.out.cell 2 (by simp)
            have r3 := BR.out.cell 3 (by simp)
            have r4 := BR.out.cell 4 (by simp)
            simp only [List.getElem_cons_zero, List.getElem_cons_succ] at r0 r1 r2 r3 r4
            have y0 := BR.out.froz 0 (by simp)
            have y1 := BR.out.froz 1 (by simp)
            have y2 := BR.out.froz 2 (by simp)
            have y3 := BR.out.froz 3 (by simp)
            have y4 := BR.out.froz 4 (by simp)
            have lB := BP.out.lt
            have lR := BR.out.lt
            have hRB := S.out.RB
            go_wp2_with fail
            refine bodyPost_ret (v := .agg #[.string ⟨#[114, 111, 98, 111, 116]⟩, .bool false, .bool o, (.slice ua y.length uc), .int .i64 cnt]) (by simp [results, Try.results97, go_sem, cell_set_at, cell_set_ne, r0, r1, r2, r3, r4]) rfl ?_
            exact DSt.fin (d := ⟨[114, 111, 98, 111, 116], false, o, y, cnt⟩) S.out ⟨by simp, HSM.out.1, HSM.out.2, show I64 cnt from ⟨by omega, by omega⟩⟩ _ _ _ _ _
          case true =>
            go_wp2_with fail
            refine (l1Below_any b v l _ _ S.out.cur (by omega) (by omega)).mono ?_
            rintro e w1 ⟨k, rfl, ⟨k0, k1, k2⟩, hg, hC⟩
            have k3 := k2 (by omega)
            have hk9 : IntKind.i64.wrap (999 - k) = 999 - k := by rw [IntKind.wrap_i64]; omega
            have S := Lib.hid (S.out.draw hg hC)
            clear hg hC k1 k2
            have BP := Lib.hid S.out.box
            have BR := Lib.hid S.out.res
            have p0 := BP.out.cell 0 (by simp)
            have p1 := BP.out.cell 1 (by simp)
            have p2 := BP.out.cell 2 (by simp)
            have p3 := BP.out.cell 3 (by simp)
            have p4 := BP.out.cell 4 (by simp)
            simp only [List.getElem_cons_zero, List.getElem_cons_succ] at p0 p1 p2 p3 p4
            have x0 := BP.out.froz 0 (by simp)
            have x1 := BP.out.froz 1 (by simp)
            have x2 := BP.out.froz 2 (by simp)
            have x3 := BP.out.froz 3 (by simp)
            have x4 := BP.out.froz 4 (by simp)
            have r0 := BR.out.cell 0 (by simp)
            have r1 := BR.out.cell 1 (by simp)
            have r2 := BR.out.cell 2 (by simp)
            have r3 := BR.out.cell 3 (by simp)
            have r4 := BR.out.cell 4 (by simp)
            simp only [List.getElem_cons_zero, List.getElem_cons_succ] at r0 r1 r2 r3 r4
            have y0 := BR.out.froz 0 (by simp)
            have y1 := BR.out.froz 1 (by simp)
            have y2 := BR.out.froz 2 (by simp)
            have y3 := BR.out.froz 3 (by simp)
            have y4 := BR.out.froz 4 (by simp)
            have lB := BP.out.lt
            have lR := BR.out.lt
            have hRB := S.out.RB
            have S9 := Lib.hid (DSt.set (d' := ⟨[114, 111, 98, 111, 116], false, o, y, 999 - k⟩) S.out 4 (by decide) (.int .i64 (999 - k)) rfl rfl)
            go_wp2_with fail
            refine bodyPost_ret (v := .agg #[.string ⟨#[114, 111, 98, 111, 116]⟩, .bool false, .bool o, (.slice ua y.length uc), .int .i64 (999 - k)]) (by simp [results, Try.results97, go_sem, cell_set_at, cell_set_ne, r0, r1, r2, r3, r4]) rfl ?_
            exact DSt.fin (d := ⟨[114, 111, 98, 111, 116], false, o, y, 999 - k⟩) S9.out ⟨by simp, HSM.out.1, HSM.out.2, show I64 (999 - k) from ⟨by omega, by omega⟩⟩ _ _ _ _ _
  case true =>
    go_wp2_with fail
    refine (l1Below_any b v l _ _ HC2.out (by omega) (by omega)).mono ?_
    rintro e w3 ⟨cnt, rfl, ⟨c0, c1, c2⟩, hg, hC⟩
    have c3 := c2 (by omega)
    clear c2 c1
    have hRl : w.heap.size < w3.heap.size := Nat.lt_of_lt_of_le BR2.out.lt hg.size
    have S := Lib.hid (show DSt w b v l w.heap.size w3.heap.size ⟨kl, false, false, [], cnt⟩ (.slice none 0 0) (w3.alloc (.cells #[.string ⟨kl.toArray⟩, .bool false, .bool false, .slice none 0 0, .int .i64 cnt] 83)) from ⟨grown_alloc (grown_trans HG2.out hg) _, cur_alloc hC _, (bx_grownC BR2.out hg (by omega)).alloc _, Bx.new w3 (cCoreV ⟨kl, false, false, [], cnt⟩ (.slice none 0 0)) 83, ownsF_nil _ _ _ _ _, hbl, Nat.le_refl _, hRl, by simp [Value.ownBlock], by simp [Value.ownBlock]⟩)
    clear hg hC HG2 HC2 BR2
    have HH0 := Lib.hid (fun W => l2Has_0 f _ rfl hff.out W)
    have HH1 := Lib.hid (fun W => l2Has_1 f _ rfl hff.out W)
    generalize hasI f 0 = h0 at *
    generalize hasI f 1 = h1 at *
    go_wp2_with fail
    generalize w3.alloc (.cells #[.string ⟨kl.toArray⟩, .bool false, .bool false, .slice none 0 0, .int .i64 cnt] 83) = w4 at *
    refine (HH0.out _).mono ?_
    rintro e w' ⟨rfl, rfl⟩
    cases h0
    case false =>
      go_wp2_with fail
      refine (HH1.out _).mono ?_
      rintro e w' ⟨rfl, rfl⟩
      cases h1
      case false =>
        go_wp2_with fail
        refine (l1Once_any b v l _ _ S.out.cur (by omega) (by omega)).mono ?_
        rintro e w1 ⟨o, rfl, hg, hC⟩
        have S := Lib.hid (S.out.draw hg hC)
        clear hg hC
        cases o
        case false =>
          have BP := Lib.hid S.out.box
          have BR := Lib.hid S.out.res
          have p0 := BP.out.cell 0 (by simp)
          have p1 := BP.out.cell 1 (by simp)
          have p2 := BP.out.cell 2 (by simp)
          have p3 := BP.out.cell 3 (by simp)
          have p4 := BP.out.cell 4 (by simp)
          simp only [List.getElem_cons_zero, List.getElem_cons_succ] at p0 p1 p2 p3 p4
          have x0 := BP.out.froz 0 (by simp)
          have x1 := BP.out.froz 1 (by simp)
          have x2 := BP.out.froz 2 (by simp)
          have x3 := BP.out.froz 3 (by simp)
          have x4 := BP.out.froz 4 (by simp)
          have r0 := BR.out.cell 0 (by simp)
          have r1 := BR.out.cell 1 (by simp)
          have r2 := BR.out.cell 2 (by simp)
          have r3 := BR.out.cell 3 (by simp)
          have r4 := BR.out.cell 4 (by simp)
          simp only [List.getElem_cons_zero, List.getElem_cons_succ] at r0 r1 r2 r3 r4
          have y0 := BR.out.froz 0 (by simp)
          have y1 := BR.out.froz 1 (by simp)
          have y2 := BR.out.froz 2 (by simp)
          have y3 := BR.out.froz 3 (by simp)
          have y4 := BR.out.froz 4 (by simp)
          have lB := BP.out.lt
          have lR := BR.out.lt
          have hRB := S.out.RB
          go_wp2_with fail
          refine bodyPost_ret (v := .agg #[.string ⟨kl.toArray⟩, .bool false, .bool false, (.slice none 0 0), .int .i64 cnt]) (by simp [results, Try.results97, go_sem, cell_set_at, cell_set_ne, r0, r1, r2, r3, r4]) rfl ?_
          exact DSt.fin (d := ⟨kl, false, false, [], cnt⟩) S.out ⟨hkl.out, by simp, by simp, show I64 cnt from ⟨by omega, by omega⟩⟩ _ _ _ _ _
        case true =>
          go_wp2_with fail
          refine (l1Below_any b v l _ _ S.out.cur (by omega) (by omega)).mono ?_
          rintro e w1 ⟨k, rfl, ⟨k0, k1, k2⟩, hg, hC⟩
          have k3 := k2 (by omega)
          have hk9 : IntKind.i64.wrap (999 - k) = 999 - k := by rw [IntKind.wrap_i64]; omega
          have S := Lib.hid (S.out.draw hg hC)
          clear hg hC k1 k2
          have BP := Lib.hid S.out.box
          have BR := Lib.hid S.out.res
          have p0 := BP.out.cell 0 (by simp)
          have p1 := BP.out.cell 1 (by simp)
          have p2 := BP.out.cell 2 (by simp)
          have p3 := BP.out.cell 3 (by simp)
          have p4 := BP.out.cell 4 (by simp)
          simp only [List.getElem_cons_zero, List.getElem_cons_succ] at p0 p1 p2 p3 p4
          have x0 := BP.out.froz 0 (by simp)
          have x1 := BP.out.froz 1 (by simp)
          have x2 := BP.out.froz 2 (by simp)
          have x3 := BP.out.froz 3 (by simp)
          have x4 := BP.out.froz 4 (by simp)
          have r0 := BR.out.cell 0 (by simp)
          have r1 := BR.out.cell 1 (by simp)
          have r2 := BR.out.cell 2 (by simp)
          have r3 := BR.out.cell 3 (by simp)
          have r4 := BR.out.cell 4 (by simp)
          simp only [List.getElem_cons_zero, List.getElem_cons_succ] at r0 r1 r2 r3 r4
          have y0 := BR.out.froz 0 (by simp)
          have y1 := BR.out.froz 1 (by simp)
          have y2 := BR.out.froz 2 (by simp)
          have y3 := BR.out.froz 3 (by simp)
          have y4 := BR.out.froz 4 (by simp)
          have lB := BP.out.lt
          have lR := BR.out.lt
          have hRB := S.out.RB
          have S9 := Lib.hid (DSt.set (d' := ⟨kl, false, false, [], 999 - k⟩) S.out 4 (by decide) (.int .i64 (999 - k)) rfl rfl)
          go_wp2_with fail
          refine bodyPost_ret (v := .agg #[.string ⟨kl.toArray⟩, .bool false, .bool false, (.slice none 0 0), .int .i64 (999 - k)]) (by simp [results, Try.results97, go_sem, cell_set_at, cell_set_ne, r0, r1, r2, r3, r4]) rfl ?_
          exact DSt.fin (d := ⟨kl, false, false, [], 999 - k⟩) S9.out ⟨hkl.out, by simp, by simp, show I64 (999 - k) from ⟨by omega, by omega⟩⟩ _ _ _ _ _
      case true =>
        go_wp2_with fail
        have hsz := S.out.box.lt
        have hRB0 := S.out.RB
        refine (l3Cells_any b v l _ S.out.cur).mono ?_
        rintro e w1 ⟨u, y, rfl, ho, hsm, hg, hC⟩
        have HSM := Lib.hid hsm
        obtain ⟨ua, uc, rfl⟩ := slice_of ho
        have n1 : (Value.slice ua y.length uc).ownBlock ≠ some w3.heap.size := fun e => by have := (World.ownsRow.lt ho _ e).1; omega
        have n2 : (Value.slice ua y.length uc).ownBlock ≠ some w.heap.size := fun e => by have := (World.ownsRow.lt ho _ e).1; omega
        have hgs := S.out.grown.size
        have S1 := Lib.hid (S.out.draw hg hC)
        have S := Lib.hid (S1.out.setC _ y (ownsF_base ho hgs) n1 n2)
        have BP1 := Lib.hid S1.out.box
        have p0 := BP1.out.cell 0 (by simp)
        have p1 := BP1.out.cell 1 (by simp)
        have p2 := BP1.out.cell 2 (by simp)
        have p3 := BP1.out.cell 3 (by simp)
        have p4 := BP1.out.cell 4 (by simp)
        simp only [List.getElem_cons_zero, List.getElem_cons_succ] at p0 p1 p2 p3 p4
        have x0 := BP1.out.froz 0 (by simp)
        have x1 := BP1.out.froz 1 (by simp)
        have x2 := BP1.out.froz 2 (by simp)
        have x3 := BP1.out.froz 3 (by simp)
        have x4 := BP1.out.froz 4 (by simp)
        have lB := BP1.out.lt
        clear ho hsm hg hC hsz hRB0 n1 n2 hgs
        go_wp2_with fail
        clear p0 p1 p2 p3 p4 x0 x1 x2 x3 x4 lB BP1 S1
        refine (l1Once_any b v l _ _ S.out.cur (by omega) (by omega)).mono ?_
        rintro e w1 ⟨o, rfl, hg, hC⟩
        have S := Lib.hid (S.out.draw hg hC)
        clear hg hC
        cases o
        case false =>
          have BP := Lib.hid S.out.box
          have BR := Lib.hid S.out.res
          have p0 := BP.out.cell 0 (by simp)
          have p1 := BP.out.cell 1 (by simp)
          have p2 := BP.out.cell 2 (by simp)
          have p3 := BP.out.cell 3 (by simp)
          have p4 := BP.out.cell 4 (by simp)
          simp only [List.getElem_cons_zero, List.getElem_cons_succ] at p0 p1 p2 p3 p4
          have x0 := BP.out.froz 0 (by simp)
          have x1 := BP.out.froz 1 (by simp)
          have x2 := BP.out.froz 2 (by simp)
          have x3 := BP.out.froz 3 (by simp)
          have x4 := BP.out.froz 4 (by simp)
          have r0 := BR.out.cell 0 (by simp)
          have r1 := BR.out.cell 1 (by simp)
          have r2 := BR.out.cell 2 (by simp)
          have r3 := BR.out.cell 3 (by simp)
          have r4 := BR.out.cell 4 (by simp)
          simp only [List.getElem_cons_zero, List.getElem_cons_succ] at r0 r1 r2 r3 r4
          have y0 := BR.out.froz 0 (by simp)
          have y1 := BR.out.froz 1 (by simp)
          have y2 := BR.out.froz 2 (by simp)
          have y3 := BR.out.froz 3 (by simp)
          have y4 := BR.out.froz 4 (by simp)
          have lB := BP.out.lt
          have lR := BR.out.lt
          have hRB := S.out.RB
          go_wp2_with fail
          refine bodyPost_ret (v := .agg #[.string ⟨kl.toArray⟩, .bool false, .bool false, (.slice ua y.length uc), .int .i64 cnt]) (by simp [results, Try.results97, go_sem, cell_set_at, cell_set_ne, r0, r1, r2, r3, r4]) rfl ?_
          exact DSt.fin (d := ⟨kl, false, false, y, cnt⟩) S.out ⟨hkl.out, HSM.out.1, HSM.out.2, show I64 cnt from ⟨by omega, by omega⟩⟩ _ _ _ _ _
        case true =>
          go_wp2_with fail
          refine (l1Below_any b v l _ _ S.out.cur (by omega) (by omega)).mono ?_
          rintro e w1 ⟨k, rfl, ⟨k0, k1, k2⟩, hg, hC⟩
          have k3 := k2 (by omega)
          have hk9 : IntKind.i64.wrap (999 - k) = 999 - k := by rw [IntKind.wrap_i64]; omega
          have S := Lib.hid (S.out.draw hg hC)
          clear hg hC k1 k2
          have BP := Lib.hid S.out.box
          have BR := Lib.hid S.out.res
          have p0 := BP.out.cell 0 (by simp)
          have p1 := BP.out.cell 1 (by simp)
          have p2 := BP.out.cell 2 (by simp)
          have p3 := BP.out.cell 3 (by simp)
          have p4 := BP.out.cell 4 (by simp)
          simp only [List.getElem_cons_zero, List.getElem_cons_succ] at p0 p1 p2 p3 p4
          have x0 := BP.out.froz 0 (by simp)
          have x1 := BP.out.froz 1 (by simp)
          have x2 := BP.out.froz 2 (by simp)
          have x3 := BP.out.froz 3 (by simp)
          have x4 := BP.out.froz 4 (by simp)
          have r0 := BR.out.cell 0 (by simp)
          have r1 := BR.out.cell 1 (by simp)
          have r2 := BR.out.cell 2 (by simp)
          have r3 := BR.out.cell 3 (by simp)
          have r4 := BR.out.cell 4 (by simp)
          simp only [List.getElem_cons_zero, List.getElem_cons_succ] at r0 r1 r2 r3 r4
          have y0 := BR.out.froz 0 (by simp)
          have y1 := BR.out.froz 1 (by simp)
          have y2 := BR.out.froz 2 (by simp)
          have y3 := BR.out.froz 3 (by simp)
          have y4 := BR.out.froz 4 (by simp)
          have lB := BP.out.lt
          have lR := BR.out.lt
          have hRB := S.out.RB
          have S9 := Lib.hid (DSt.set (d' := ⟨kl, false, false, y, 999 - k⟩) S.out 4 (by decide) (.int .i64 (999 - k)) rfl rfl)
          go_wp2_with fail
          refine bodyPost_ret (v := .agg #[.string ⟨kl.toArray⟩, .bool false, .bool false, (.slice ua y.length uc), .int .i64 (999 - k)]) (by simp [results, Try.results97, go_sem, cell_set_at, cell_set_ne, r0, r1, r2, r3, r4]) rfl ?_
          exact DSt.fin (d := ⟨kl, false, false, y, 999 - k⟩) S9.out ⟨hkl.out, HSM.out.1, HSM.out.2, show I64 (999 - k) from ⟨by omega, by omega⟩⟩ _ _ _ _ _
    case true =>
      go_wp2_with fail
      refine (l1Below_any b v l _ _ S.out.cur (by omega) (by omega)).mono ?_
      rintro e w5 ⟨n, rfl, ⟨n0, n1, n2⟩, hg, hC⟩
      have S0 := Lib.hid (S.out.draw hg hC)
      clear hg hC n1 n2
      by_cases hn : 0 < n
      · skip
        have hdn : decide (0 < n) = true := by simpa using hn
        have S1 := Lib.hid (DSt.set (d' := ⟨kl, true, false, [], cnt⟩) S0.out 1 (by decide) (.bool true) rfl rfl)
        have BP := Lib.hid S0.out.box
        have p0 := BP.out.cell 0 (by simp)
        have p1 := BP.out.cell 1 (by simp)
        have p2 := BP.out.cell 2 (by simp)
        have p3 := BP.out.cell 3 (by simp)
        have p4 := BP.out.cell 4 (by simp)
        simp only [List.getElem_cons_zero, List.getElem_cons_succ] at p0 p1 p2 p3 p4
        have x0 := BP.out.froz 0 (by simp)
        have x1 := BP.out.froz 1 (by simp)
        have x2 := BP.out.froz 2 (by simp)
        have x3 := BP.out.froz 3 (by simp)
        have x4 := BP.out.froz 4 (by simp)
        have lB := BP.out.lt
        go_wp2_with fail
        have S := Lib.hid (DSt.set (d' := ⟨kl, true, false, [], cnt⟩) S1.out 2 (by decide) (.bool false) rfl rfl)
        clear S0 S1 BP p0 p1 p2 p3 p4 x0 x1 x2 x3 x4 lB
        refine (HH1.out _).mono ?_
        rintro e w' ⟨rfl, rfl⟩
        cases h1
        case false =>
          go_wp2_with fail
          refine (l1Once_any b v l _ _ S.out.cur (by omega) (by omega)).mono ?_
          rintro e w1 ⟨o, rfl, hg, hC⟩
          have S := Lib.hid (S.out.draw hg hC)
          clear hg hC
          cases o
          case false =>
            have BP := Lib.hid S.out.box
            have BR := Lib.hid S.out.res
            have p0 := BP.out.cell 0 (by simp)
            have p1 := BP.out.cell 1 (by simp)
            have p2 := BP.out.cell 2 (by simp)
            have p3 := BP.out.cell 3 (by simp)
            have p4 := BP.out.cell 4 (by simp)
            simp only [List.getElem_cons_zero, List.getElem_cons_succ] at p0 p1 p2 p3 p4
            have x0 := BP.out.froz 0 (by simp)
            have x1 := BP.out.froz 1 (by simp)
            have x2 := BP.out.froz 2 (by simp)
            have x3 := BP.out.froz 3 (by simp)
            have x4 := BP.out.froz 4 (by simp)
            have r0 := BR.out.cell 0 (by simp)
            have r1 := BR.out.cell 1 (by simp)
            have r2 := BR.out.cell 2 (by simp)
            have r3 := BR.out.cell 3 (by simp)
            have r4 := BR.out.cell 4 (by simp)
            simp only [List.getElem_cons_zero, List.getElem_cons_succ] at r0 r1 r2 r3 r4
            have y0 := BR.out.froz 0 (by simp)
            have y1 := BR.out.froz 1 (by simp)
            have y2 := BR.out.froz 2 (by simp)
            have y3 := BR.out.froz 3 (by simp)
            have y4 := BR.out.froz 4 (by simp)
            have lB := BP.out.lt
            have lR := BR.out.lt
            have hRB := S.out.RB
            go_wp2_with fail
            refine bodyPost_ret (v := .agg #[.string ⟨kl.toArray⟩, .bool true, .bool false, (.slice none 0 0), .int .i64 cnt]) (by simp [results, Try.results97, go_sem, cell_set_at, cell_set_ne, r0, r1, r2, r3, r4]) rfl ?_
            exact DSt.fin (d := ⟨kl, true, false, [], cnt⟩) S.out ⟨hkl.out, by simp, by simp, show I64 cnt from ⟨by omega, by omega⟩⟩ _ _ _ _ _
          case true =>
            go_wp2_with fail
            refine (l1Below_any b v l _ _ S.out.cur (by omega) (by omega)).mono ?_
            rintro e w1 ⟨k, rfl, ⟨k0, k1, k2⟩, hg, hC⟩
            have k3 := k2 (by omega)
            have hk9 : IntKind.i64.wrap (999 - k) = 999 - k := by rw [IntKind.wrap_i64]; omega
            have S := Lib.hid (S.out.draw hg hC)
            clear hg hC k1 k2
            have BP := Lib.hid S.out.box
            have BR := Lib.hid S.out.res
            have p0 := BP.out.cell 0 (by simp)
            have p1 := BP.out.cell 1 (by simp)
            have p2 := BP.out.cell 2 (by simp)
            have p3 := BP.out.cell 3 (by simp)
            have p4 := BP.out.cell 4 (by simp)
            simp only [List.getElem_cons_zero, List.getElem_cons_succ] at p0 p1 p2 p3 p4
            have x0 := BP.out.froz 0 (by simp)
            have x1 := BP.out.froz 1 (by simp)
            have x2 := BP.out.froz 2 (by simp)
            have x3 := BP.out.froz 3 (by simp)
            have x4 := BP.out.froz 4 (by simp)
            have r0 := BR.out.cell 0 (by simp)
            have r1 := BR.out.cell 1 (by simp)
            have r2 := BR.out.cell 2 (by simp)
            have r3 := BR.out.cell 3 (by simp)
            have r4 := BR.out.cell 4 (by simp)
            simp only [List.getElem_cons_zero, List.getElem_cons_succ] at r0 r1 r2 r3 r4
            have y0 := BR.out.froz 0 (by simp)
            have y1 := BR.out.froz 1 (by simp)
            have y2 := BR.out.froz 2 (by simp)
            have y3 := BR.out.froz 3 (by simp)
            have y4 := BR.out.froz 4 (by simp)
            have lB := BP.out.lt
            have lR := BR.out.lt
            have hRB := S.out.RB
            have S9 := Lib.hid (DSt.set (d' := ⟨kl, true, false, [], 999 - k⟩) S.out 4 (by decide) (.int .i64 (999 - k)) rfl rfl)
            go_wp2_with fail
            refine bodyPost_ret (v := .agg #[.string ⟨kl.toArray⟩, .bool true, .bool false, (.slice none 0 0), .int .i64 (999 - k)]) (by simp [results, Try.results97, go_sem, cell_set_at, cell_set_ne, r0, r1, r2, r3, r4]) rfl ?_
            exact DSt.fin (d := ⟨kl, true, false, [], 999 - k⟩) S9.out ⟨hkl.out, by simp, by simp, show I64 (999 - k) from ⟨by omega, by omega⟩⟩ _ _ _ _ _
        case true =>
          go_wp2_with fail
          have hsz := S.out.box.lt
          have hRB0 := S.out.RB
          refine (l3Cells_any b v l _ S.out.cur).mono ?_
          rintro e w1 ⟨u, y, rfl, ho, hsm, hg, hC⟩
          have HSM := Lib.hid hsm
          obtain ⟨ua, uc, rfl⟩ := slice_of ho
          have n1 : (Value.slice ua y.length uc).ownBlock ≠ some w3.heap.size := fun e => by have := (World.ownsRow.lt ho _ e).1; omega
          have n2 : (Value.slice ua y.length uc).ownBlock ≠ some w.heap.size := fun e => by have := (World.ownsRow.lt ho _ e).1; omega
          have hgs := S.out.grown.size
          have S1 := Lib.hid (S.out.draw hg hC)
          have S := Lib.hid (S1.out.setC _ y (ownsF_base ho hgs) n1 n2)
          have BP1 := Lib.hid S1.out.box
          have p0 := BP1.out.cell 0 (by simp)
          have p1 := BP1.out.cell 1 (by simp)
          have p2 := BP1.out.cell 2 (by simp)
          have p3 := BP1.out.cell 3 (by simp)
          have p4 := BP1.out.cell 4 (by simp)
          simp only [List.getElem_cons_zero, List.getElem_cons_succ] at p0 p1 p2 p3 p4
          have x0 := BP1.out.froz 0 (by simp)
          have x1 := BP1.out.froz 1 (by simp)
          have x2 := BP1.out.froz 2 (by simp)
          have x3 := BP1.out.froz 3 (by simp)
          have x4 := BP1.out.froz 4 (by simp)
          have lB := BP1.out.lt
          clear ho hsm hg hC hsz hRB0 n1 n2 hgs
          go_wp2_with fail
          clear p0 p1 p2 p3 p4 x0 x1 x2 x3 x4 lB BP1 S1
          refine (l1Once_any b v l _ _ S.out.cur (by omega) (by omega)).mono ?_
          rintro e w1 ⟨o, rfl, hg, hC⟩
          have S := Lib.hid (S.out.draw hg hC)
          clear hg hC
          cases o
          case false =>
            have BP := Lib.hid S.out.box
            have BR := Lib.hid S.out.res
            have p0 := BP.out.cell 0 (by simp)
            have p1 := BP.out.cell 1 (by simp)
            have p2 := BP.out.cell 2 (by simp)
            have p3 := BP.out.cell 3 (by simp)
            have p4 := BP.out.cell 4 (by simp)
            simp only [List.getElem_cons_zero, List.getElem_cons_succ] at p0 p1 p2 p3 p4
            have x0 := BP.out.froz 0 (by simp)
            have x1 := BP.out.froz 1 (by simp)
            have x2 := BP.out.froz 2 (by simp)
            have x3 := BP.out.froz 3 (by simp)
            have x4 := BP.out.froz 4 (by simp)
            have r0 := BR.out.cell 0 (by simp)
            have r1 := BR.out.cell 1 (by simp)
            have r2 := BR.out.cell 2 (by simp)
            have r3 := BR.out.cell 3 (by simp)
            have r4 := BR.out.cell 4 (by simp)
            simp only [List.getElem_cons_zero, List.getElem_cons_succ] at r0 r1 r2 r3 r4
            have y0 := BR.out.froz 0 (by simp)
            have y1 := BR.out.froz 1 (by simp)
            have y2 := BR.out.froz 2 (by simp)
            have y3 := BR.out.froz 3 (by simp)
            have y4 := BR.out.froz 4 (by simp)
            have lB := BP.out.lt
            have lR := BR.out.lt
            have hRB := S.out.RB
            go_wp2_with fail
            refine bodyPost_ret (v := .agg #[.string ⟨kl.toArray⟩, .bool true, .bool false, (.slice ua y.length uc), .int .i64 cnt]) (by simp [results, Try.results97, go_sem, cell_set_at, cell_set_ne, r0, r1, r2, r3, r4]) rfl ?_
            exact DSt.fin (d := ⟨kl, true, false, y, cnt⟩) S.out ⟨hkl.out, HSM.out.1, HSM.out.2, show I64 cnt from ⟨by omega, by omega⟩⟩ _ _ _ _ _
          case true =>
            go_wp2_with fail
            refine (l1Below_any b v l _ _ S.out.cur (by omega) (by omega)).mono ?_
            rintro e w1 ⟨k, rfl, ⟨k0, k1, k2⟩, hg, hC⟩
            have k3 := k2 (by omega)
            have hk9 : IntKind.i64.wrap (999 - k) = 999 - k := by rw [IntKind.wrap_i64]; omega
            have S := Lib.hid (S.out.draw hg hC)
            clear hg hC k1 k2
            have BP := Lib.hid S.out.box
            have BR := Lib.hid S.out.res
            have p0 := BP.out.cell 0 (by simp)
            have p1 := BP.out.cell 1 (by simp)
            have p2 := BP.out.cell 2 (by simp)
            have p3 := BP.out.cell 3 (by simp)
            have p4 := BP.out.cell 4 (by simp)
            simp only [List.getElem_cons_zero, List.getElem_cons_succ] at p0 p1 p2 p3 p4
            have x0 := BP.out.froz 0 (by simp)
            have x1 := BP.out.froz 1 (by simp)
            have x2 := BP.out.froz 2 (by simp)
            have x3 := BP.out.froz 3 (by simp)
            have x4 := BP.out.froz 4 (by simp)
            have r0 := BR.out.cell 0 (by simp)
            have r1 := BR.out.cell 1 (by simp)
            have r2 := BR.out.cell 2 (by simp)
            have r3 := BR.out.cell 3 (by simp)
            have r4 := BR.out.cell 4 (by simp)
            simp only [List.getElem_cons_zero, List.getElem_cons_succ] at r0 r1 r2 r3 r4
            have y0 := BR.out.froz 0 (by simp)
            have y1 := BR.out.froz 1 (by simp)
            have y2 := BR.out.froz 2 (by simp)
            have y3 := BR.out.froz 3 (by simp)
            have y4 := BR.out.froz 4 (by simp)
            have lB := BP.out.lt
            have lR := BR.out.lt
            have hRB := S.out.RB
            have S9 := Lib.hid (DSt.set (d' := ⟨kl, true, false, y, 999 - k⟩) S.out 4 (by decide) (.int .i64 (999 - k)) rfl rfl)
            go_wp2_with fail
            refine bodyPost_ret (v := .agg #[.string ⟨kl.toArray⟩, .bool true, .bool false, (.slice ua y.length uc), .int .i64 (999 - k)]) (by simp [results, Try.results97, go_sem, cell_set_at, cell_set_ne, r0, r1, r2, r3, r4]) rfl ?_
            exact DSt.fin (d := ⟨kl, true, false, y, 999 - k⟩) S9.out ⟨hkl.out, HSM.out.1, HSM.out.2, show I64 (999 - k) from ⟨by omega, by omega⟩⟩ _ _ _ _ _
      · skip
        have hdn : decide (0 < n) = false := by simpa using hn
        have S1 := Lib.hid (DSt.set (d' := ⟨kl, false, false, [], cnt⟩) S0.out 1 (by decide) (.bool false) rfl rfl)
        have BP := Lib.hid S0.out.box
        have p0 := BP.out.cell 0 (by simp)
        have p1 := BP.out.cell 1 (by simp)
        have p2 := BP.out.cell 2 (by simp)
        have p3 := BP.out.cell 3 (by simp)
        have p4 := BP.out.cell 4 (by simp)
        simp only [List.getElem_cons_zero, List.getElem_cons_succ] at p0 p1 p2 p3 p4
        have x0 := BP.out.froz 0 (by simp)
        have x1 := BP.out.froz 1 (by simp)
        have x2 := BP.out.froz 2 (by simp)
        have x3 := BP.out.froz 3 (by simp)
        have x4 := BP.out.froz 4 (by simp)
        have lB := BP.out.lt
        go_wp2_with fail
        refine (l1Once_any b v l _ _ S1.out.cur (by omega) (by omega)).mono ?_
        rintro e w6 ⟨o, rfl, hg, hC⟩
        have S2 := Lib.hid (S1.out.draw hg hC)
        have S := Lib.hid (DSt.set (d' := ⟨kl, false, o, [], cnt⟩) S2.out 2 (by decide) (.bool o) rfl rfl)
        clear hg hC BP p0 p1 p2 p3 p4 x0 x1 x2 x3 x4 lB
        have BP := Lib.hid S2.out.box
        have p0 := BP.out.cell 0 (by simp)
        have p1 := BP.out.cell 1 (by simp)
        have p2 := BP.out.cell 2 (by simp)
        have p3 := BP.out.cell 3 (by simp)
        have p4 := BP.out.cell 4 (by simp)
        simp only [List.getElem_cons_zero, List.getElem_cons_succ] at p0 p1 p2 p3 p4
        have x0 := BP.out.froz 0 (by simp)
        have x1 := BP.out.froz 1 (by simp)
        have x2 := BP.out.froz 2 (by simp)
        have x3 := BP.out.froz 3 (by simp)
        have x4 := BP.out.froz 4 (by simp)
        have lB := BP.out.lt
        go_wp2_with fail
        clear S0 S1 S2 BP p0 p1 p2 p3 p4 x0 x1 x2 x3 x4 lB
        refine (HH1.out _).mono ?_
        rintro e w' ⟨rfl, rfl⟩
        cases h1
        case false =>
          go_wp2_with fail
          refine (l1Once_any b v l _ _ S.out.cur (by omega) (by omega)).mono ?_
          rintro e w1 ⟨o, rfl, hg, hC⟩
          have S := Lib.hid (S.out.draw hg hC)
          clear hg hC
          cases o
          case false =>
            have BP := Lib.hid S.out.box
            have BR := Lib.hid S.out.res
            have p0 := BP.out.cell 0 (by simp)
            have p1 := BP.out.cell 1 (by simp)
            have p2 := BP.out.cell 2 (by simp)
            have p3 := BP.out.cell 3 (by simp)
            have p4 := BP.out.cell 4 (by simp)
            simp only [List.getElem_cons_zero, List.getElem_cons_succ] at p0 p1 p2 p3 p4
            have x0 := BP.out.froz 0 (by simp)
            have x1 := BP.out.froz 1 (by simp)
            have x2 := BP.out.froz 2 (by simp)
            have x3 := BP.out.froz 3 (by simp)
            have x4 := BP.out.froz 4 (by simp)
            have r0 := BR.out.cell 0 (by simp)
            have r1 := BR.out.cell 1 (by simp)
            have r2 := BR.out.cell 2 (by simp)
            have r3 := BR.out.cell 3 (by simp)
            have r4 := BR.out.cell 4 (by simp)
            simp only [List.getElem_cons_zero, List.getElem_cons_succ] at r0 r1 r2 r3 r4
            have y0 := BR.out.froz 0 (by simp)
            have y1 := BR.out.froz 1 (by simp)
            have y2 := BR.out.froz 2 (by simp)
            have y3 := BR.out.froz 3 (by simp)
            have y4 := BR.out.froz 4 (by simp)
            have lB := BP.out.lt
            have lR := BR.out.lt
            have hRB := S.out.RB
            go_wp2_with fail
            refine bodyPost_ret (v := .agg #[.string ⟨kl.toArray⟩, .bool false, .bool o, (.slice none 0 0), .int .i64 cnt]) (by simp [results, Try.results97, go_sem, cell_set_at, cell_set_ne, r0, r1, r2, r3, r4]) rfl ?_
            exact DSt.fin (d := ⟨kl, false, o, [], cnt⟩) S.out ⟨hkl.out, by simp, by simp, show I64 cnt from ⟨by omega, by omega⟩⟩ _ _ _ _ _
          case true =>
            go_wp2_with fail
            refine (l1Below_any b v l _ _ S.out.cur (by omega) (by omega)).mono ?_
            rintro e w1 ⟨k, rfl, ⟨k0, k1, k2⟩, hg, hC⟩
            have k3 := k2 (by omega)
            have hk9 : IntKind.i64.wrap (999 - k) = 999 - k := by rw [IntKind.wrap_i64]; omega
            have S := Lib.hid (S.out.draw hg hC)
            clear hg hC k1 k2
            have BP := Lib.hid S.out.box
            have BR := Lib.hid S.out.res
            have p0 := BP.out.cell 0 (by simp)
            have p1 := BP.out.cell 1 (by simp)
            have p2 := BP.out.cell 2 (by simp)
            have p3 := BP.out.cell 3 (by simp)
            have p4 := BP.out.cell 4 (by simp)
            simp only [List.getElem_cons_zero, List.getElem_cons_succ] at p0 p1 p2 p3 p4
            have x0 := BP.out.froz 0 (by simp)
            have x1 := BP.out.froz 1 (by simp)
            have x2 := BP.out.froz 2 (by simp)
            have x3 := BP.out.froz 3 (by simp)
            have x4 := BP.out.froz 4 (by simp)
            have r0 := BR.out.cell 0 (by simp)
            have r1 := BR.out.cell 1 (by simp)
            have r2 := BR.out.cell 2 (by simp)
            have r3 := BR.out.cell 3 (by simp)
            have r4 := BR.out.cell 4 (by simp)
            simp only [List.getElem_cons_zero, List.getElem_cons_succ] at r0 r1 r2 r3 r4
            have y0 := BR.out.froz 0 (by simp)
            have y1 := BR.out.froz 1 (by simp)
            have y2 := BR.out.froz 2 (by simp)
            have y3 := BR.out.froz 3 (by simp)
            have y4 := BR.out.froz 4 (by simp)
            have lB := BP.out.lt
            have lR := BR.out.lt
            have hRB := S.out.RB
            have S9 := Lib.hid (DSt.set (d' := ⟨kl, false, o, [], 999 - k⟩) S.out 4 (by decide) (.int .i64 (999 - k)) rfl rfl)
            go_wp2_with fail
            refine bodyPost_ret (v := .agg #[.string ⟨kl.toArray⟩, .bool false, .bool o, (.slice none 0 0), .int .i64 (999 - k)]) (by simp [results, Try.results97, go_sem, cell_set_at, cell_set_ne, r0, r1, r2, r3, r4]) rfl ?_
            exact DSt.fin (d := ⟨kl, false, o, [], 999 - k⟩) S9.out ⟨hkl.out, by simp, by simp, show I64 (999 - k) from ⟨by omega, by omega⟩⟩ _ _ _ _ _
        case true =>
          go_wp2_with fail
          have hsz := S.out.box.lt
          have hRB0 := S.out.RB
          refine (l3Cells_any b v l _ S.out.cur).mono ?_
          rintro e w1 ⟨u, y, rfl, ho, hsm, hg, hC⟩
          have HSM := Lib.hid hsm
          obtain ⟨ua, uc, rfl⟩ := slice_of ho
          have n1 : (Value.slice ua y.length uc).ownBlock ≠ some w3.heap.size := fun e => by have := (World.ownsRow.lt ho _ e).1; omega
          have n2 : (Value.slice ua y.length uc).ownBlock ≠ some w.heap.size := fun e => by have := (World.ownsRow.lt ho _ e).1; omega
          have hgs := S.out.grown.size
          have S1 := Lib.hid (S.out.draw hg hC)
          have S := Lib.hid (S1.out.setC _ y (ownsF_base ho hgs) n1 n2)
          have BP1 := Lib.hid S1.out.box
          have p0 := BP1.out.cell 0 (by simp)
          have p1 := BP1.out.cell 1 (by simp)
          have p2 := BP1.out.cell 2 (by simp)
          have p3 := BP1.out.cell 3 (by simp)
          have p4 := BP1.out.cell 4 (by simp)
          simp only [List.getElem_cons_zero, List.getElem_cons_succ] at p0 p1 p2 p3 p4
          have x0 := BP1.out.froz 0 (by simp)
          have x1 := BP1.out.froz 1 (by simp)
          have x2 := BP1.out.froz 2 (by simp)
          have x3 := BP1.out.froz 3 (by simp)
          have x4 := BP1.out.froz 4 (by simp)
          have lB := BP1.out.lt
          clear ho hsm hg hC hsz hRB0 n1 n2 hgs
          go_wp2_with fail
          clear p0 p1 p2 p3 p4 x0 x1 x2 x3 x4 lB BP1 S1
          refine (l1Once_any b v l _ _ S.out.cur (by omega) (by omega)).mono ?_
          rintro e w1 ⟨o, rfl, hg, hC⟩
          have S := Lib.hid (S.out.draw hg hC)
          clear hg hC
          cases o
          case false =>
            have BP := Lib.hid S.out.box
            have BR := Lib.hid S.out.res
            have p0 := BP.out.cell 0 (by simp)
            have p1 := BP.out.cell 1 (by simp)
            have p2 := BP.out.cell 2 (by simp)
            have p3 := BP.out.cell 3 (by simp)
            have p4 := BP.out.cell 4 (by simp)
            simp only [List.getElem_cons_zero, List.getElem_cons_succ] at p0 p1 p2 p3 p4
            have x0 := BP.out.froz 0 (by simp)
            have x1 := BP.out.froz 1 (by simp)
            have x2 := BP.out.froz 2 (by simp)
            have x3 := BP.out.froz 3 (by simp)
            have x4 := BP.out.froz 4 (by simp)
            have r0 := BR.out.cell 0 (by simp)
            have r1 := BR.out.cell 1 (by simp)
            have r2 := BR.out.cell 2 (by simp)
            have r3 := BR.out.cell 3 (by simp)
            have r4 := BR.out.cell 4 (by simp)
            simp only [List.getElem_cons_zero, List.getElem_cons_succ] at r0 r1 r2 r3 r4
            have y0 := BR.out.froz 0 (by simp)
            have y1 := BR.out.froz 1 (by simp)
            have y2 := BR.out.froz 2 (by simp)
            have y3 := BR.out.froz 3 (by simp)
            have y4 := BR.out.froz 4 (by simp)
            have lB := BP.out.lt
            have lR := BR.out.lt
            have hRB := S.out.RB
            go_wp2_with fail
            refine bodyPost_ret (v := .agg #[.string ⟨kl.toArray⟩, .bool false, .bool o, (.slice ua y.length uc), .int .i64 cnt]) (by simp [results, Try.results97, go_sem, cell_set_at, cell_set_ne, r0, r1, r2, r3, r4]) rfl ?_
            exact DSt.fin (d := ⟨kl, false, o, y, cnt⟩) S.out ⟨hkl.out, HSM.out.1, HSM.out.2, show I64 cnt from ⟨by omega, by omega⟩⟩ _ _ _ _ _
          case true =>
            go_wp2_with fail
            refine (l1Below_any b v l _ _ S.out.cur (by omega) (by omega)).mono ?_
            rintro e w1 ⟨k, rfl, ⟨k0, k1, k2⟩, hg, hC⟩
            have k3 := k2 (by omega)
            have hk9 : IntKind.i64.wrap (999 - k) = 999 - k := by rw [IntKind.wrap_i64]; omega
            have S := Lib.hid (S.out.draw hg hC)
            clear hg hC k1 k2
            have BP := Lib.hid S.out.box
            have BR := Lib.hid S.out.res
            have p0 := BP.out.cell 0 (by simp)
            have p1 := BP.out.cell 1 (by simp)
            have p2 := BP.out.cell 2 (by simp)
            have p3 := BP.out.cell 3 (by simp)
            have p4 := BP.out.cell 4 (by simp)
            simp only [List.getElem_cons_zero, List.getElem_cons_succ] at p0 p1 p2 p3 p4
            have x0 := BP.out.froz 0 (by simp)
            have x1 := BP.out.froz 1 (by simp)
            have x2 := BP.out.froz 2 (by simp)
            have x3 := BP.out.froz 3 (by simp)
            have x4 := BP.out.froz 4 (by simp)
            have r0 := BR.out.cell 0 (by simp)
            have r1 := BR.out.cell 1 (by simp)
            have r2 := BR.out.cell 2 (by simp)
            have r3 := BR.out.cell 3 (by simp)
            have r4 := BR.out.cell 4 (by simp)
            simp only [List.getElem_cons_zero, List.getElem_cons_succ] at r0 r1 r2 r3 r4
            have y0 := BR.out.froz 0 (by simp)
            have y1 := BR.out.froz 1 (by simp)
            have y2 := BR.out.froz 2 (by simp)
            have y3 := BR.out.froz 3 (by simp)
            have y4 := BR.out.froz 4 (by simp)
            have lB := BP.out.lt
            have lR := BR.out.lt
            have hRB := S.out.RB
            have S9 := Lib.hid (DSt.set (d' := ⟨kl, false, o, y, 999 - k⟩) S.out 4 (by decide) (.int .i64 (999 - k)) rfl rfl)
            go_wp2_with fail
            refine bodyPost_ret (v := .agg #[.string ⟨kl.toArray⟩, .bool false, .bool o, (.slice ua y.length uc), .int .i64 (999 - k)]) (by simp [results, Try.results97, go_sem, cell_set_at, cell_set_ne, r0, r1, r2, r3, r4]) rfl ?_
            exact DSt.fin (d := ⟨kl, false, o, y, 999 - k⟩) S9.out ⟨hkl.out, HSM.out.1, HSM.out.2, show I64 (999 - k) from ⟨by omega, by omega⟩⟩ _ _ _ _ _
end Go.Proofs.Ytghebbndfpbkcac
/- The draws of chapter 3: cores that may be none. Written by gen/ch3dr.py. -/
namespace Go.Proofs.Ytghebbndfpbkcac
set_option linter.unusedVariables false
set_option linter.unusedSimpArgs false
open Go.RowKit
set_option maxRecDepth 100000 in
set_option maxHeartbeats 6400000 in
theorem l3Any_any (b : Nat) (v : Value) (l : List UInt8) (w : World) (hC : Cur w b v l) :
    Calls Try.prog 56 #[.pointer (some ⟨b, 0, none⟩)] w fun e w' => DrawnCore 7 b v l w e w' := by
  have hbl := hC.lt
  have HC0 := Lib.hid (cur_alloc hC (.cells #[.string ⟨#[]⟩, .bool false, .bool false, .slice none 0 0, .int .i64 0] 83))
  have BR0 := Lib.hid (Bx.new w zCoreV 83)
  have HG0 := Lib.hid (grown_alloc (grown_refl w (some b)) (.cells #[.string ⟨#[]⟩, .bool false, .bool false, .slice none 0 0, .int .i64 0] 83))
  clear hC
  go_enter Try.func56, Try.ntmps56
  go_wp2_with fail
  refine (l3Draw_any b v l _ HC0.out).mono ?_
  rintro e w1 ⟨⟨kd, on, br, y, cnt⟩, cv, rfl, ho, hok, hg, hC⟩
  have HOK := Lib.hid hok
  skip
  have hwl : w.heap.size < w1.heap.size := Nat.lt_of_lt_of_le BR0.out.lt hg.size
  obtain ⟨ua, uc, rfl⟩ := slice_of ho
  have ho1 : OwnsF cCell 49 2 w1 (w.heap.size + 1) (.slice ua y.length uc) y := by simpa using ho
  have S := Lib.hid (show DSt w b v l w.heap.size w1.heap.size ⟨kd, on, br, y, cnt⟩ (.slice ua y.length uc) (w1.alloc (.cells #[.string ⟨kd.toArray⟩, .bool on, .bool br, .slice ua y.length uc, .int .i64 cnt] 83)) from ⟨grown_alloc (grown_trans HG0.out hg) _, cur_alloc hC _, (bx_grownC BR0.out hg (by omega)).alloc _, Bx.new w1 (cCoreV ⟨kd, on, br, y, cnt⟩ (.slice ua y.length uc)) 83, ownsF_alloc (ownsF_base ho1 (by omega)) _, hbl, Nat.le_refl _, hwl, fun e => by have := (World.ownsRow.lt ho1 _ e).2; omega, fun e => by have := (World.ownsRow.lt ho1 _ e).1; omega⟩)
  clear ho ho1 hok hg hC HC0 BR0 HG0
  unfold vCore
  simp only
  go_wp2_with fail
  generalize w1.alloc (.cells #[.string ⟨kd.toArray⟩, .bool on, .bool br, .slice ua y.length uc, .int .i64 cnt] 83) = w2 at *
  refine (l1Below_any b v l _ _ S.out.cur (by omega) (by omega)).mono ?_
  rintro e w3 ⟨k, rfl, ⟨k0, k1, k2⟩, hg, hC⟩
  have S := Lib.hid (S.out.draw hg hC)
  clear hg hC k1 k2
  by_cases e0 : k = 0
  · subst e0
    go_wp2_with fail
    refine (l1Str_new b v l _ _ _ _ _ 9 S.out.cur (by rfl) (by decide) (by decide) (by decide)).mono ?_
    rintro e w4 ⟨z, rfl, hz, hg, hC⟩
    obtain ⟨⟨zl⟩⟩ := z
    have hzl : zl.length ≤ 9 := hz
    have S := Lib.hid (S.out.draw hg hC)
    clear hg hC hz
    have BP := Lib.hid S.out.box
    have BR := Lib.hid S.out.res
    have p0 := BP.out.cell 0 (by simp)
    have p1 := BP.out.cell 1 (by simp)
    have p2 := BP.out.cell 2 (by simp)
    have p3 := BP.out.cell 3 (by simp)
    have p4 := BP.out.cell 4 (by simp)
    simp only [List.getElem_cons_zero, List.getElem_cons_succ] at p0 p1 p2 p3 p4
    have x0 := BP.out.froz 0 (by simp)
    have x1 := BP.out.froz 1 (by simp)
    have x2 := BP.out.froz 2 (by simp)
    have x3 := BP.out.froz 3 (by simp)
    have x4 := BP.out.froz 4 (by simp)
    have r0 := BR.out.cell 0 (by simp)
    have r1 := BR.out.cell 1 (by simp)
    have r2 := BR.out.cell 2 (by simp)
    have r3 := BR.out.cell 3 (by simp)
    have r4 := BR.out.cell 4 (by simp)
    simp only [List.getElem_cons_zero, List.getElem_cons_succ] at r0 r1 r2 r3 r4
    have y0 := BR.out.froz 0 (by simp)
    have y1 := BR.out.froz 1 (by simp)
    have y2 := BR.out.froz 2 (by simp)
    have y3 := BR.out.froz 3 (by simp)
    have y4 := BR.out.froz 4 (by simp)
    have lB := BP.out.lt
    have lR := BR.out.lt
    have hRB := S.out.RB
    have S9 := Lib.hid (DSt.set (d' := ⟨zl, on, br, y, cnt⟩) S.out 0 (by decide) (.string ⟨zl.toArray⟩) rfl rfl)
    go_wp2_with fail
    refine bodyPost_ret (v := .agg #[.string ⟨zl.toArray⟩, .bool on, .bool br, (.slice ua y.length uc), .int .i64 cnt]) (by simp [results, Try.results56, go_sem, cell_set_at, cell_set_ne, r0, r1, r2, r3, r4]) rfl ?_
    exact DSt.fin (d := ⟨zl, on, br, y, cnt⟩) S9.out ⟨hzl, Nat.le_succ_of_le HOK.out.2.1, HOK.out.2.2.1, HOK.out.2.2.2⟩ _ _ _ _ _
  have E0 : (k == 0) = false := by simpa using e0
  by_cases e1 : k = 1
  · subst e1
    have BP := Lib.hid S.out.box
    have BR := Lib.hid S.out.res
    have p0 := BP.out.cell 0 (by simp)
    have p1 := BP.out.cell 1 (by simp)
    have p2 := BP.out.cell 2 (by simp)
    have p3 := BP.out.cell 3 (by simp)
    have p4 := BP.out.cell 4 (by simp)
    simp only [List.getElem_cons_zero, List.getElem_cons_succ] at p0 p1 p2 p3 p4
    have x0 := BP.out.froz 0 (by simp)
    have x1 := BP.out.froz 1 (by simp)
    have x2 := BP.out.froz 2 (by simp)
    have x3 := BP.out.froz 3 (by simp)
    have x4 := BP.out.froz 4 (by simp)
    have r0 := BR.out.cell 0 (by simp)
    have r1 := BR.out.cell 1 (by simp)
    have r2 := BR.out.cell 2 (by simp)
    have r3 := BR.out.cell 3 (by simp)
    have r4 := BR.out.cell 4 (by simp)
    simp only [List.getElem_cons_zero, List.getElem_cons_succ] at r0 r1 r2 r3 r4
    have y0 := BR.out.froz 0 (by simp)
    have y1 := BR.out.froz 1 (by simp)
    have y2 := BR.out.froz 2 (by simp)
    have y3 := BR.out.froz 3 (by simp)
    have y4 := BR.out.froz 4 (by simp)
    have lB := BP.out.lt
    have lR := BR.out.lt
    have hRB := S.out.RB
    have S9 := Lib.hid (DSt.set (d' := ⟨kd, true, br, y, cnt⟩) S.out 1 (by decide) (.bool true) rfl rfl)
    go_wp2_with fail
    refine bodyPost_ret (v := .agg #[.string ⟨kd.toArray⟩, .bool true, .bool br, (.slice ua y.length uc), .int .i64 cnt]) (by simp [results, Try.results56, go_sem, cell_set_at, cell_set_ne, r0, r1, r2, r3, r4]) rfl ?_
    exact DSt.fin (d := ⟨kd, true, br, y, cnt⟩) S9.out ⟨HOK.out.1, Nat.le_succ_of_le HOK.out.2.1, HOK.out.2.2.1, HOK.out.2.2.2⟩ _ _ _ _ _
  have E1 : (k == 1) = false := by simpa using e1
  by_cases e2 : k = 2
  · subst e2
    have BP := Lib.hid S.out.box
    have BR := Lib.hid S.out.res
    have p0 := BP.out.cell 0 (by simp)
    have p1 := BP.out.cell 1 (by simp)
    have p2 := BP.out.cell 2 (by simp)
    have p3 := BP.out.cell 3 (by simp)
    have p4 := BP.out.cell 4 (by simp)
    simp only [List.getElem_cons_zero, List.getElem_cons_succ] at p0 p1 p2 p3 p4
    have x0 := BP.out.froz 0 (by simp)
    have x1 := BP.out.froz 1 (by simp)
    have x2 := BP.out.froz 2 (by simp)
    have x3 := BP.out.froz 3 (by simp)
    have x4 := BP.out.froz 4 (by simp)
    have r0 := BR.out.cell 0 (by simp)
    have r1 := BR.out.cell 1 (by simp)
    have r2 := BR.out.cell 2 (by simp)
    have r3 := BR.out.cell 3 (by simp)
    have r4 := BR.out.cell 4 (by simp)
    simp only [List.getElem_cons_zero, List.getElem_cons_succ] at r0 r1 r2 r3 r4
    have y0 := BR.out.froz 0 (by simp)
    have y1 := BR.out.froz 1 (by simp)
    have y2 := BR.out.froz 2 (by simp)
    have y3 := BR.out.froz 3 (by simp)
    have y4 := BR.out.froz 4 (by simp)
    have lB := BP.out.lt
    have lR := BR.out.lt
    have hRB := S.out.RB
    have S9 := Lib.hid (DSt.set (d' := ⟨kd, on, true, y, cnt⟩) S.out 2 (by decide) (.bool true) rfl rfl)
    go_wp2_with fail
    refine bodyPost_ret (v := .agg #[.string ⟨kd.toArray⟩, .bool on, .bool true, (.slice ua y.length uc), .int .i64 cnt]) (by simp [results, Try.results56, go_sem, cell_set_at, cell_set_ne, r0, r1, r2, r3, r4]) rfl ?_
    exact DSt.fin (d := ⟨kd, on, true, y, cnt⟩) S9.out ⟨HOK.out.1, Nat.le_succ_of_le HOK.out.2.1, HOK.out.2.2.1, HOK.out.2.2.2⟩ _ _ _ _ _
  have E2 : (k == 2) = false := by simpa using e2
  by_cases e3 : k = 3
  · subst e3
    go_wp2_with fail
    have c3 := S.out.box.cell 3 (by simp)
    have S := Lib.hid S.out.drew
    refine region_T (S := fun w' => w'.cell? ⟨w1.heap.size, 3, none⟩ = some (.slice ua y.length uc)) (t := 10) (by kernel_rfl) ?_ (fun hHeld => ?_)
    · exact S.out.box.cell 3 (by simp)
    refine anyT_take (i := 0) (v := ?_) rfl (by kernel_rfl) (by kernel_rfl) (by kernel_rfl) (by kernel_rfl) (by kernel_rfl) (fun _ _ _ h => h) (Or.inl ⟨by rfl, ?_⟩) (by assumption) ?_
    rotate_left
    · intro w hSw; (try dsimp only at hSw); go_simp; with_reducible rfl
    try simp only [Act.put, List.getElem_toArray, List.getElem_cons_zero, List.getElem_cons_succ, List.setIfInBounds_toArray, List.set_cons_zero, List.set_cons_succ]
    refine anyT_take (i := 2) (v := ?_) rfl (by kernel_rfl) (by kernel_rfl) (by kernel_rfl) (by kernel_rfl) (by kernel_rfl) (fun _ _ _ h => h) (Or.inl ⟨by rfl, ?_⟩) (by assumption) ?_
    rotate_left
    · intro w hSw; (try dsimp only at hSw); go_simp; with_reducible rfl
    try simp only [Act.put, List.getElem_toArray, List.getElem_cons_zero, List.getElem_cons_succ, List.setIfInBounds_toArray, List.set_cons_zero, List.set_cons_succ]
    refine anyT_take (i := 4) (v := ?_) rfl (by kernel_rfl) (by kernel_rfl) (by kernel_rfl) (by kernel_rfl) (by kernel_rfl) (fun _ _ _ h => h) (Or.inl ⟨by rfl, ?_⟩) (by assumption) ?_
    rotate_left
    · intro w hSw; (try dsimp only at hSw); go_simp; with_reducible rfl
    try simp only [Act.put, List.getElem_toArray, List.getElem_cons_zero, List.getElem_cons_succ, List.setIfInBounds_toArray, List.set_cons_zero, List.set_cons_succ]
    refine anyT_take (i := 1) (v := ?_) rfl (by kernel_rfl) (by kernel_rfl) (by kernel_rfl) (by kernel_rfl) (by kernel_rfl) (fun _ _ _ h => h) (Or.inl ⟨by rfl, ?_⟩) (by assumption) ?_
    rotate_left
    · intro w hSw; (try dsimp only at hSw); go_simp; with_reducible rfl
    try simp only [Act.put, List.getElem_toArray, List.getElem_cons_zero, List.getElem_cons_succ, List.setIfInBounds_toArray, List.set_cons_zero, List.set_cons_succ]
    refine anyT_only (i := 3) (by kernel_rfl) rfl (fun K hK => ?_)
    go_simp
    go_at_call 98; refine (l1Word_any b v l _ S.out.cur).mono ?_; rintro e w5 ⟨z, rfl, hz, hg, hC⟩; obtain ⟨⟨zl⟩⟩ := z; have hzl : zl.length ≤ 9 := hz; have S := Lib.hid (S.out.draw hg hC); clear hg hC hz
    refine hK.out _ _ ?_ (fun hHeld => ?_)
    · exact S.out.box.cell 3 (by simp)
    clear hK K
    try simp only [Act.put, List.getElem_toArray, List.getElem_cons_zero, List.getElem_cons_succ, List.setIfInBounds_toArray, List.set_cons_zero, List.set_cons_succ]
    refine anyT_only (i := 5) (by kernel_rfl) rfl (fun K hK => ?_)
    go_simp
    go_at_call 99; refine (l1Odd_any b v l _ S.out.cur).mono ?_; rintro e w6 ⟨q, rfl, ⟨q0, q1⟩, hg, hC⟩; have S := Lib.hid (S.out.draw hg hC); clear hg hC
    refine hK.out _ _ ?_ (fun hHeld => ?_)
    · exact S.out.box.cell 3 (by simp)
    clear hK K
    try simp only [Act.put, List.getElem_toArray, List.getElem_cons_zero, List.getElem_cons_succ, List.setIfInBounds_toArray, List.set_cons_zero, List.set_cons_succ]
    refine anyT_take (i := 6) (v := ?_) rfl (by kernel_rfl) (by kernel_rfl) (by kernel_rfl) (by kernel_rfl) (by kernel_rfl) (fun _ _ _ h => h) (Or.inl ⟨by rfl, ?_⟩) (by assumption) ?_
    rotate_left
    · intro w hSw; (try dsimp only at hSw); go_simp; with_reducible rfl
    try simp only [Act.put, List.getElem_toArray, List.getElem_cons_zero, List.getElem_cons_succ, List.setIfInBounds_toArray, List.set_cons_zero, List.set_cons_succ]
    refine anyT_only (i := 7) (by kernel_rfl) rfl (fun K hK => ?_)
    go_simp
    have hba := bx_box w6 (.cells #[.string ⟨zl.toArray⟩, .int .i64 q] 49); have S7 := Lib.hid (S.out.below hba)
    refine hK.out _ _ ?_ (fun hHeld => ?_)
    · exact S7.out.box.cell 3 (by simp)
    clear hK K
    try simp only [Act.put, List.getElem_toArray, List.getElem_cons_zero, List.getElem_cons_succ, List.setIfInBounds_toArray, List.set_cons_zero, List.set_cons_succ]
    refine anyT_only (i := 8) (by kernel_rfl) rfl (fun K hK => ?_)
    refine step_cells rfl (.tmp 23) (.tmp 29) rfl w.heap.size (.slice ua y.length uc) y (⟨zl, q⟩ : CellD) _ w6.heap.size rfl S7.out.own rfl (cell_newC w6 (⟨zl, q⟩ : CellD) _ rfl) (by have := HOK.out.2.1; simp only at this; omega) S7.out.grown.size ?_
    intro u w8 ho hg
    obtain ⟨h1, h2, h3, h4⟩ := S7.out.app hg
    refine hK.out _ _ ?_ (fun hHeld => ?_)
    · exact h4.cell 3 (by simp)
    clear hK K
    try simp only [Act.put, List.getElem_toArray, List.getElem_cons_zero, List.getElem_cons_succ, List.setIfInBounds_toArray, List.set_cons_zero, List.set_cons_succ]
    have HOK2 := Lib.hid (show okDr 7 ⟨kd, on, br, y ++ [(⟨zl, q⟩ : CellD)], cnt⟩ from ⟨HOK.out.1, by have := HOK.out.2.1; simp only at this; simp; omega, fun c hc => by rcases List.mem_append.1 hc with hc | hc; exact HOK.out.2.2.1 c hc; rw [List.mem_singleton.1 hc]; exact ⟨hzl, q0, q1⟩, HOK.out.2.2.2⟩)
    have hpos : 0 < (y ++ [(⟨zl, q⟩ : CellD)]).length := by simp
    generalize y ++ [(⟨zl, q⟩ : CellD)] = yy at *
    obtain ⟨ub, ud, rfl⟩ := slice_of ho
    have hq1 := h4.cell 1 (by simp)
    have hq2 := h3.cell 1 (by simp)
    have n1 := row_not_bool ho hpos hq1
    have n2 := row_not_bool ho hpos hq2
    have S9 := Lib.hid (S7.out.setC2 h1 h2 h3 h4 _ _ ho n1 n2)
    have BP := Lib.hid h4
    have BR := Lib.hid h3
    clear h1 h2 h3 h4 ho hg hq1 hq2 n1 n2
    have p0 := BP.out.cell 0 (by simp)
    have p1 := BP.out.cell 1 (by simp)
    have p2 := BP.out.cell 2 (by simp)
    have p3 := BP.out.cell 3 (by simp)
    have p4 := BP.out.cell 4 (by simp)
    simp only [List.getElem_cons_zero, List.getElem_cons_succ] at p0 p1 p2 p3 p4
    have x0 := BP.out.froz 0 (by simp)
    have x1 := BP.out.froz 1 (by simp)
    have x2 := BP.out.froz 2 (by simp)
    have x3 := BP.out.froz 3 (by simp)
    have x4 := BP.out.froz 4 (by simp)
    have r0 := BR.out.cell 0 (by simp)
    have r1 := BR.out.cell 1 (by simp)
    have r2 := BR.out.cell 2 (by simp)
    have r3 := BR.out.cell 3 (by simp)
    have r4 := BR.out.cell 4 (by simp)
    simp only [List.getElem_cons_zero, List.getElem_cons_succ] at r0 r1 r2 r3 r4
    have y0 := BR.out.froz 0 (by simp)
    have y1 := BR.out.froz 1 (by simp)
    have y2 := BR.out.froz 2 (by simp)
    have y3 := BR.out.froz 3 (by simp)
    have y4 := BR.out.froz 4 (by simp)
    have lB := BP.out.lt
    have lR := BR.out.lt
    have hRB := S9.out.RB
    refine anyT_take (i := 9) (v := ?_) rfl (by kernel_rfl) (by kernel_rfl) (by kernel_rfl) (by kernel_rfl) (by kernel_rfl) (fun _ _ _ h => h) (Or.inl ⟨by rfl, ?_⟩) (by assumption) ?_
    rotate_left
    · intro w hSw; (try dsimp only at hSw); go_simp; with_reducible rfl
    try simp only [Act.put, List.getElem_toArray, List.getElem_cons_zero, List.getElem_cons_succ, List.setIfInBounds_toArray, List.set_cons_zero, List.set_cons_succ]
    refine anyT_tail (by kernel_rfl) rfl (fun K hK => ?_)
    go_simp
    refine hK.out _ _ ?_
    clear hK K
    try simp only [Act.put, List.getElem_toArray, List.getElem_cons_zero, List.getElem_cons_succ, List.setIfInBounds_toArray, List.set_cons_zero, List.set_cons_succ]
    refine anyT_done (by kernel_rfl) ?_ _
    go_wp2_with fail
    refine bodyPost_ret (v := .agg #[.string ⟨kd.toArray⟩, .bool on, .bool br, (.slice ub yy.length ud), .int .i64 cnt]) (by simp [results, Try.results56, go_sem, cell_set_at, cell_set_ne, r0, r1, r2, r3, r4]) rfl ?_
    exact DSt.fin (d := ⟨kd, on, br, yy, cnt⟩) S9.out HOK2.out _ _ _ _ _
  have E3 : (k == 3) = false := by simpa using e3
  by_cases e4 : k = 4
  · subst e4
    go_wp2_with fail
    refine (l1Odd_any b v l _ S.out.cur).mono ?_
    rintro e w4 ⟨z, rfl, ⟨z0, z1⟩, hg, hC⟩
    have S := Lib.hid (S.out.draw hg hC)
    clear hg hC
    have BP := Lib.hid S.out.box
    have BR := Lib.hid S.out.res
    have p0 := BP.out.cell 0 (by simp)
    have p1 := BP.out.cell 1 (by simp)
    have p2 := BP.out.cell 2 (by simp)
    have p3 := BP.out.cell 3 (by simp)
    have p4 := BP.out.cell 4 (by simp)
    simp only [List.getElem_cons_zero, List.getElem_cons_succ] at p0 p1 p2 p3 p4
    have x0 := BP.out.froz 0 (by simp)
    have x1 := BP.out.froz 1 (by simp)
    have x2 := BP.out.froz 2 (by simp)
    have x3 := BP.out.froz 3 (by simp)
    have x4 := BP.out.froz 4 (by simp)
    have r0 := BR.out.cell 0 (by simp)
    have r1 := BR.out.cell 1 (by simp)
    have r2 := BR.out.cell 2 (by simp)
    have r3 := BR.out.cell 3 (by simp)
    have r4 := BR.out.cell 4 (by simp)
    simp only [List.getElem_cons_zero, List.getElem_cons_succ] at r0 r1 r2 r3 r4
    have y0 := BR.out.froz 0 (by simp)
    have y1 := BR.out.froz 1 (by simp)
    have y2 := BR.out.froz 2 (by simp)
    have y3 := BR.out.froz 3 (by simp)
    have y4 := BR.out.froz 4 (by simp)
    have lB := BP.out.lt
    have lR := BR.out.lt
    have hRB := S.out.RB
    have S9 := Lib.hid (DSt.set (d' := ⟨kd, on, br, y, z⟩) S.out 4 (by decide) (.int .i64 z) rfl rfl)
    go_wp2_with fail
    refine bodyPost_ret (v := .agg #[.string ⟨kd.toArray⟩, .bool on, .bool br, (.slice ua y.length uc), .int .i64 z]) (by simp [results, Try.results56, go_sem, cell_set_at, cell_set_ne, r0, r1, r2, r3, r4]) rfl ?_
    exact DSt.fin (d := ⟨kd, on, br, y, z⟩) S9.out ⟨HOK.out.1, Nat.le_succ_of_le HOK.out.2.1, HOK.out.2.2.1, show I64 z from ⟨z0, z1⟩⟩ _ _ _ _ _
  have E4 : (k == 4) = false := by simpa using e4
  clear e0 e1 e2 e3 e4
  have BP := Lib.hid S.out.box
  have BR := Lib.hid S.out.res
  have p0 := BP.out.cell 0 (by simp)
  have p1 := BP.out.cell 1 (by simp)
  have p2 := BP.out.cell 2 (by simp)
  have p3 := BP.out.cell 3 (by simp)
  have p4 := BP.out.cell 4 (by simp)
  simp only [List.getElem_cons_zero, List.getElem_cons_succ] at p0 p1 p2 p3 p4
  have x0 := BP.out.froz 0 (by simp)
  have x1 := BP.out.froz 1 (by simp)
  have x2 := BP.out.froz 2 (by simp)
  have x3 := BP.out.froz 3 (by simp)
  have x4 := BP.out.froz 4 (by simp)
  have r0 := BR.out.cell 0 (by simp)
  have r1 := BR.out.cell 1 (by simp)
  have r2 := BR.out.cell 2 (by simp)
  have r3 := BR.out.cell 3 (by simp)
  have r4 := BR.out.cell 4 (by simp)
  simp only [List.getElem_cons_zero, List.getElem_cons_succ] at r0 r1 r2 r3 r4
  have y0 := BR.out.froz 0 (by simp)
  have y1 := BR.out.froz 1 (by simp)
  have y2 := BR.out.froz 2 (by simp)
  have y3 := BR.out.froz 3 (by simp)
  have y4 := BR.out.froz 4 (by simp)
  have lB := BP.out.lt
  have lR := BR.out.lt
  have hRB := S.out.RB
  go_wp2_with fail
  refine bodyPost_ret (v := .agg #[.string ⟨kd.toArray⟩, .bool on, .bool br, (.slice ua y.length uc), .int .i64 cnt]) (by simp [results, Try.results56, go_sem, cell_set_at, cell_set_ne, r0, r1, r2, r3, r4]) rfl ?_
  exact DSt.fin (d := ⟨kd, on, br, y, cnt⟩) S.out ⟨HOK.out.1, Nat.le_succ_of_le HOK.out.2.1, HOK.out.2.2.1, HOK.out.2.2.2⟩ _ _ _ _ _
end Go.Proofs.Ytghebbndfpbkcac
namespace Go.Proofs.Ytghebbndfpbkcac
set_option linter.unusedVariables false
open Go.RowKit
theorem cellT_cat (a0 : List UInt8) (z : Nat) : ((⟨a0.toArray⟩ ++ ⟨#[61]⟩ ++ ⟨(numL z).toArray⟩ : ByteArray)).data.toList = cellT ⟨a0, z⟩ := by
  rw [data_app, data_app]; simp [cellT]
theorem cell_cat (w : World) (a0 : List UInt8) (z : Nat) (t : TypeId) (blk : Nat) (h : blk = w.heap.size) : (w.alloc (.cells #[.string (⟨a0.toArray⟩ ++ ⟨#[61]⟩ ++ ⟨(numL z).toArray⟩ : ByteArray)] t)).cell? ⟨blk, 0, none⟩ = some (strV (cellT ⟨a0, z⟩)) := by
  rw [cell_newS _ _ _ _ h, cellT_cat]
set_option maxRecDepth 100000 in
set_option maxHeartbeats 1600000 in
theorem specFormatCells_any (v : Value) (l : List CellD) (w : World) (hx : FlatAt cCell 2 w v l) (hs : ∀ d ∈ l, d.fKey.length ≤ maxLen) :
    Calls Try.prog 133 #[v] w fun e w' => e = .returned (.string ⟨(fmtC l).toArray⟩) ∧ Below w.heap.size w w' := by
  have HC := Lib.hid (fun o => specIsCells_any v l (w.alloc o) (hx.below ((Below.refl w.heap.size w).alloc (Nat.le_refl _) o) (Nat.le_refl _)) hs)
  obtain ⟨a, c, rfl, hl⟩ := flatAt_len hx
  have HX := Lib.hid hx
  clear hx hs
  unfold maxLen at hl
  have HA0 := Lib.hid (show ∀ o, Below w.heap.size w (w.alloc o) from fun o => (Below.refl w.heap.size w).alloc (Nat.le_refl _) o)
  cases hc : cellsB l with
  | false =>
    have HF := Lib.hid (show fmtC l = [] by unfold fmtC; rw [hc]; rfl)
    rw [hc] at HC
    clear hc
    go_enter Try.func133, Try.ntmps133
    go_wp2_with fail
    refine (HC.out _).mono ?_
    rintro e w1 ⟨rfl, hb⟩
    go_wp2_with fail
    go_ret
    exact ⟨ret_str (by rw [HF.out]), (HA0.out _).trans (hb.mono (HA0.out _).size)⟩
  | true =>
    have hm := cellsB_mem hc
    have hl4 := cellsB_len hc
    have HSM := Lib.hid (fmt_small l hm hl4)
    have HM := Lib.hid hm
    have HF0 := Lib.hid (show l = [] → fmtC l = [45] by rintro rfl; rfl)
    have HF := Lib.hid (show l ≠ [] → fmtC l = joinL (l.map cellT) [44] from fun h0 => by unfold fmtC; rw [if_pos hc, if_neg h0])
    rw [hc] at HC
    clear hc hm
    have HO := Lib.hid (owns_new w)
    go_enter Try.func133, Try.ntmps133
    go_wp2_with fail
    refine (HC.out _).mono ?_
    rintro e w1 ⟨rfl, hb⟩
    have HO1 := Lib.hid (owns_below HO.out hb (Nat.le_refl _))
    have HB := Lib.hid ((HA0.out _).trans (hb.mono (HA0.out _).size))
    have HX1 := Lib.hid (FlatAt.below HX.out HB.out (Nat.le_refl _))
    clear hb
    go_wp2_with fail
    go_loopw [3, 5, 12] (fun ov _ i wr => ∃ k : Nat, k ≤ l.length ∧ i = .int .i64 k ∧ Owns wr w.heap.size ov ((l.take k).map cellT) ∧ Below w.heap.size w wr) (fun _ _ i _ => l.length - (intOf i).toNat)
    case atStart => exact ⟨0, Nat.zero_le _, rfl, HO1.out, HB.out⟩
    case round =>
      obtain ⟨k, hk, rfl, hO, hb⟩ := hrel
      have HO2 := Lib.hid hO
      have HB2 := Lib.hid hb
      have HXr := Lib.hid (FlatAt.below HX.out hb (Nat.le_refl _))
      clear hO hb
      by_cases hlt : k < l.length
      · obtain ⟨b, o, rfl, hbl, hd⟩ := flatAt_cell cCell_len HXr.out k hlt (by decide)
        have d0 := hd 0 (by decide)
        have d1 := hd 1 (by decide)
        clear hd
        have HSN := Lib.hid (map_cellT_snoc l k hlt)
        have hmm := HM.out l[k] (List.getElem_mem hlt)
        obtain ⟨z, hz, hz9⟩ := numB_nat hmm.2
        have HFM := Lib.hid (fun w0 => specFormat_any z w0 (by omega) (by omega))
        have hn8 := nameB_len8 hmm.1
        have hz3 := numL_len hz9
        clear hmm
        generalize l[k] = p at *
        obtain ⟨a0, a1⟩ := p
        simp only [cCell, List.getElem?_cons_zero, List.getElem?_cons_succ, Nat.add_zero] at d0 d1 hz
        subst hz
        have hc1 : ∀ w0, (Op.stringOp .add ⟨a0.toArray⟩ ⟨#[61]⟩).run Try.prog w0 = .ok (.string (⟨a0.toArray⟩ ++ ⟨#[61]⟩)) w0 := fun w0 => run_string_add_sum w0 _ _ (by rw [size_strB]; show a0.length + 1 ≤ _; simp only at hn8; omega)
        have hc2 : ∀ w0, (Op.stringOp .add (⟨a0.toArray⟩ ++ ⟨#[61]⟩) ⟨(numL z).toArray⟩).run Try.prog w0 = .ok (.string (⟨a0.toArray⟩ ++ ⟨#[61]⟩ ++ ⟨(numL z).toArray⟩)) w0 := fun w0 => run_string_add_sum w0 _ _ (by have h3 := size_strB (numL z); rw [ByteArray.size_append, size_strB]; show a0.length + 1 + _ ≤ _; simp only at hn8; omega)
        have HLT := Lib.hid (show ∀ g, u3.ownBlock = some g → g < wr.heap.size from fun g h => (World.ownsRow.lt HO2.out g h).2)
        go_wp2_with fail
        go_region_held3 (fun w' => w'.cell? ⟨wr.heap.size, 0, none⟩ = some (.string ⟨a0.toArray⟩) ∧ w'.cell? ⟨wr.heap.size, 1, none⟩ = some (.int .i64 z))
          (first
            | go_keep
            | (rw [hb1.cell (p := ⟨wr.heap.size, 0, none⟩) (by simp), hb1.cell (p := ⟨wr.heap.size, 1, none⟩) (by simp)]; assumption)
            | (rw [hg1.cell_far ⟨wr.heap.size, 0, none⟩ (by have := hb1.size; simp at *; omega) (by intro e; have := HLT.out _ e.symm; simp at this), hg1.cell_far ⟨wr.heap.size, 1, none⟩ (by have := hb1.size; simp at *; omega) (by intro e; have := HLT.out _ e.symm; simp at this)]; assumption))
          (first
            | (go_at_call 113; refine (HFM.out _).mono ?_; rintro e w2 ⟨rfl, hb1⟩)
            | (refine step_strs rfl _ _ rfl w.heap.size u3 ((l.take k).map cellT) (cellT ⟨a0, z⟩) _ w2.heap.size rfl (owns_alloc (owns_below (owns_drew (owns_alloc HO2.out _)) hb1 (Nat.le_refl _)) _) rfl (cell_cat _ a0 z _ _ rfl) ?_ ?_ ?_; (simp; omega); (have h1 := hb1.size; have h3 := HB2.out.size; simp at h1 h3; simp; omega); intro v' w4 hO4 hg1))
        have HA := Lib.hid (below_drew ((Below.refl wr.heap.size wr).alloc (Nat.le_refl _) (.cells #[.string ⟨a0.toArray⟩, .int .i64 z] 49)))
        have HA1 := Lib.hid ((HA.out.trans (hb1.mono HA.out.size)).alloc (HA.out.trans (hb1.mono HA.out.size)).size (.cells #[.string (⟨a0.toArray⟩ ++ ⟨#[61]⟩ ++ ⟨(numL z).toArray⟩ : ByteArray)] 9))
        have HA3 := Lib.hid (below_append (HB2.out.trans (HA1.out.mono HB2.out.size)) (owns_alloc (owns_below (owns_drew (owns_alloc HO2.out _)) hb1 (Nat.le_refl _)) _) hg1 (HB2.out.trans (HA1.out.mono HB2.out.size)).size)
        have HO4' := Lib.hid hO4
        rename_i hheld
        clear hb1 hg1 hO4 hheld
        go_wp2_with fail
        exact ⟨⟨k + 1, by omega, by go_num, by rw [HSN.out]; exact HO4'.out, HA3.out⟩, by simp [intOf]; omega⟩
      · have HN := Lib.hid (show (l.take k).map cellT = l.map cellT from by rw [List.take_of_length_le (by omega)])
        have hkl : k = l.length := by omega
        obtain ⟨a', c', e', _⟩ := rowAt_len (owns_row HO2.out (by simp; omega))
        rw [List.length_map, List.length_map, List.length_take, Nat.min_eq_left hk] at e'
        subst e'
        have HJ := Lib.hid (specJoin_any (.slice a' k c') (l.map cellT) ⟨#[44]⟩ wr (by rw [← HN.out]; exact owns_row HO2.out (by simp; omega)) (by have := HSM.out; simp only at *; omega) (by decide))
        by_cases h0 : k = 0
        · have hne : ((k : Int) == 0) = true := by rw [beq_iff_eq]; omega
          have HR := Lib.hid (HF0.out (List.eq_nil_of_length_eq_zero (by omega)))
          clear h0 hkl
          go_wp2_with fail
          go_ret
          exact ⟨ret_str (by rw [HR.out]), HB2.out⟩
        · have hne : ((k : Int) == 0) = false := by rw [beq_eq_false_iff_ne]; omega
          have HR := Lib.hid (HF.out (by intro h; rw [h] at hkl; exact h0 hkl))
          clear h0 hkl
          go_wp2_with fail
          refine HJ.out.mono ?_
          rintro e w2 ⟨rfl, hb⟩
          go_wp2_with fail
          go_ret
          exact ⟨ret_str HR.out.symm, HB2.out.trans (hb.mono HB2.out.size)⟩
end Go.Proofs.Ytghebbndfpbkcac
