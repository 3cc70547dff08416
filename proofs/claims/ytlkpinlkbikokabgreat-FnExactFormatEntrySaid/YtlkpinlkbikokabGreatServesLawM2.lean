/- A part as a value of an interface type: its face, and which assertions it meets. Written by gen/ch4if.py. -/
import Derived.Test.YtlkpinlkbikokabGreatServesLawM1
import Derived.Deep.AppendLies
import Derived.Test.YtlkpinlkbikokabGreatServesLawM0
import Derived.Stop.Asserts
import Derived.Shelf.Strings.BuilderK
import Derived.Test.YtlkpinlkbikokabGreatRows
/- Contracts of chapter 3: isNumber, IsCells, the program's and the model's. -/
namespace Go.Proofs.YtlkpinlkbikokabGreat
set_option linter.unusedVariables false
open Go.RowKit
set_option maxHeartbeats 400000 in
theorem isNumber_any (n : Int) (w : World) :
    Calls Tryz.prog 100 #[.int .i64 n] w fun e w' => e = .returned (.bool (numB n)) ∧ w = w' := by
  by_cases h0 : n < 0
  · go_enter Tryz.func100, Tryz.ntmps100
    go_wp2
    go_ret
    exact ⟨ret_bool (by simp [numB]; omega), rfl⟩
  · go_enter Tryz.func100, Tryz.ntmps100
    go_wp2
    go_ret
    exact ⟨ret_bool (by simp [numB]; omega), rfl⟩
theorem isNumber_b (n : Int) (x : Bool) (h : numB n = x) (w : World) :
    Calls Tryz.prog 100 #[.int .i64 n] w fun e w' => e = .returned (.bool x) ∧ w = w' := by
  subst h; exact isNumber_any n w
theorem implIsName_b (l : List UInt8) (x : Bool) (h : nameB l = x) (hs : l.length ≤ maxLen) (w : World) :
    Calls Tryz.prog 69 #[.string ⟨l.toArray⟩] w fun e w' => e = .returned (.bool x) ∧ w = w' := by
  subst h; have := implIsName_any ⟨l.toArray⟩ w (by rw [← size_list]; simpa using hs); simpa using this
theorem specIsName_b (l : List UInt8) (x : Bool) (h : nameB l = x) (hs : l.length ≤ maxLen) (w : World) :
    Calls Tryz.prog 67 #[.string ⟨l.toArray⟩] w fun e w' => e = .returned (.bool x) ∧ w = w' := by
  subst h; have := specIsName_any ⟨l.toArray⟩ w (by rw [← size_list]; simpa using hs); simpa using this
set_option maxRecDepth 100000 in
set_option maxHeartbeats 1600000 in
theorem implIsCells_any (v : Value) (l : List CellD) (w : World) (hx : FlatAt cCell 2 w v l) (hs : ∀ d ∈ l, d.fKey.length ≤ maxLen) :
    Calls Tryz.prog 172 #[v] w fun e w' => e = .returned (.bool (cellsB l)) ∧ Below w.heap.size w w' := by
  obtain ⟨a, c, rfl, hl⟩ := flatAt_len hx
  have HX := Lib.hid hx
  have HS := Lib.hid hs
  clear hx hs
  unfold maxLen at hl
  by_cases h4 : 4 < l.length
  · have HN := Lib.hid (cellsB_long l h4)
    go_enter Tryz.func172, Tryz.ntmps172
    go_wp2_with fail
    go_ret
    exact ⟨ret_bool HN.out.symm, Below.refl _ _⟩
  · have HL := Lib.hid (show decide (l.length ≤ 4) = true by simp; omega)
    go_enter Tryz.func172, Tryz.ntmps172
    go_wp2_with fail
    go_loopw [3, 4, 10] (fun _ _ i wr => ∃ k : Nat, k ≤ l.length ∧ i = .int .i64 k ∧ okTo l k = true ∧ Below w.heap.size w wr) (fun _ _ i _ => l.length - (intOf i).toNat)
    case atStart => exact ⟨0, Nat.zero_le _, rfl, rfl, Below.refl _ _⟩
    case round =>
      obtain ⟨k, hk, rfl, hok, hb⟩ := hrel
      have HO := Lib.hid hok
      have HB := Lib.hid hb
      have HXr := Lib.hid (FlatAt.below HX.out hb (Nat.le_refl _))
      clear hok hb
      by_cases hlt : k < l.length
      · obtain ⟨b, o, rfl, hbl, hd⟩ := flatAt_cell cCell_len HXr.out k hlt (by decide)
        have d0 := hd 0 (by decide)
        have d1 := hd 1 (by decide)
        clear hd
        have HA := Lib.hid (okAt_of l k hlt)
        have HBAD := Lib.hid (fun h => cellsB_bad l k hlt h)
        have HNX := Lib.hid (show okAt l k = true → okTo l (k + 1) = true from fun h => by rw [okTo_succ, HO.out, h]; rfl)
        have HNM := Lib.hid (implIsName_b (l[k]).fKey)
        have hlen := HS.out (l[k]) (List.getElem_mem hlt)
        have HNU := Lib.hid (isNumber_b (l[k]).fValue)
        have HBB := Lib.hid (show ∀ o1, Below w.heap.size w (wr.alloc o1) from fun o1 => HB.out.alloc HB.out.size _)
        cases hx : nameB (l[k]).fKey with
        | false =>
          have HR := Lib.hid (HBAD.out (by rw [HA.out _ _ _ hx rfl rfl]; rfl))
          have HN := Lib.hid (HNM.out _ hx hlen)
          clear hx
          generalize l[k] = p at *
          obtain ⟨a0, a1⟩ := p
          simp only [cCell, List.getElem?_cons_zero, List.getElem?_cons_succ, Nat.add_zero] at d0 d1
          go_wp2_with fail
          refine (HN.out _).mono ?_
          rintro e w1 ⟨rfl, rfl⟩
          go_wp2_with fail
          go_ret
          exact ⟨ret_bool HR.out.symm, HBB.out _⟩
        | true => 
          cases hy : numB (l[k]).fValue with
          | false =>
            have HR := Lib.hid (HBAD.out (by rw [HA.out _ _ _ hx hy rfl]; rfl))
            have HN := Lib.hid (HNM.out _ hx hlen)
            have HN2 := Lib.hid (HNU.out _ hy)
            clear hx hy
            generalize l[k] = p at *
            obtain ⟨a0, a1⟩ := p
            simp only [cCell, List.getElem?_cons_zero, List.getElem?_cons_succ, Nat.add_zero] at d0 d1
            go_wp2_with fail
            refine (HN.out _).mono ?_
            rintro e w1 ⟨rfl, rfl⟩
            go_wp2_with fail
            refine (HN2.out _).mono ?_
            rintro e w1 ⟨rfl, rfl⟩
            go_wp2_with fail
            go_ret
            exact ⟨ret_bool HR.out.symm, HBB.out _⟩
          | true =>
            have HN := Lib.hid (HNM.out _ hx hlen)
            have HN2 := Lib.hid (HNU.out _ hy)
            by_cases h0 : 0 < k
            · have hk1 : k - 1 < l.length := by omega
              obtain ⟨b', o', e', _, hd'⟩ := flatAt_cell cCell_len HXr.out (k - 1) hk1 (by decide)
              injection e' with e'
              injection e' with e1 e2
              subst e1 e2
              have q0 := hd' 0 (by decide)
              clear hd'
              have hg0 : (0 : Int) < (k : Int) := by omega
              have hk2 : (0 : Int) ≤ (k : Int) - 1 := by omega
              have hk3 : (k : Int) - 1 < (l.length : Int) := by omega
              cases hz : Op.bytesLess (l.getD (k - 1) default).fKey (l[k]).fKey with
              | false =>
                have HR := Lib.hid (HBAD.out (by rw [HA.out _ _ _ hx hy rfl, hz]; simp; omega))
                rw [getD_at l (k - 1) hk1] at hz
                clear hx hy
                generalize l[k] = p at *
                generalize l[k - 1] = q at *
                obtain ⟨a0, a1⟩ := p
                obtain ⟨b0, b1⟩ := q
                simp only [cCell, List.getElem?_cons_zero, List.getElem?_cons_succ, Nat.add_zero] at d0 d1 q0 hz
                go_wp2_with fail
                refine (HN.out _).mono ?_
                rintro e w1 ⟨rfl, rfl⟩
                go_wp2_with fail
                refine (HN2.out _).mono ?_
                rintro e w1 ⟨rfl, rfl⟩
                go_wp2_with fail
                go_quiet (fail)
                go_wp2_with fail
                go_ret
                exact ⟨ret_bool HR.out.symm, below_drewN (HBB.out _) _⟩
              | true =>
                have HR := Lib.hid (HNX.out (by rw [HA.out _ _ _ hx hy rfl, hz]; simp))
                rw [getD_at l (k - 1) hk1] at hz
                clear hx hy
                generalize l[k] = p at *
                generalize l[k - 1] = q at *
                obtain ⟨a0, a1⟩ := p
                obtain ⟨b0, b1⟩ := q
                simp only [cCell, List.getElem?_cons_zero, List.getElem?_cons_succ, Nat.add_zero] at d0 d1 q0 hz
                go_wp2_with fail
                refine (HN.out _).mono ?_
                rintro e w1 ⟨rfl, rfl⟩
                go_wp2_with fail
                refine (HN2.out _).mono ?_
                rintro e w1 ⟨rfl, rfl⟩
                go_wp2_with fail
                go_quiet (fail)
                go_wp2_with fail
                exact ⟨⟨k + 1, by omega, by go_num, HR.out, below_drewN (HBB.out _) _⟩, by simp [intOf]; omega⟩
            · have HR := Lib.hid (HNX.out (by rw [HA.out _ _ _ hx hy rfl, show decide (k = 0) = true by simp; omega]; rfl))
              have hg0 : (k : Int) ≤ 0 := by omega
              clear hx hy
              generalize l[k] = p at *
              obtain ⟨a0, a1⟩ := p
              simp only [cCell, List.getElem?_cons_zero, List.getElem?_cons_succ, Nat.add_zero] at d0 d1
              go_wp2_with fail
              refine (HN.out _).mono ?_
              rintro e w1 ⟨rfl, rfl⟩
              go_wp2_with fail
              refine (HN2.out _).mono ?_
              rintro e w1 ⟨rfl, rfl⟩
              go_wp2_with fail
              go_quiet (fail)
              go_wp2_with fail
              exact ⟨⟨k + 1, by omega, by go_num, HR.out, below_drewN (HBB.out _) _⟩, by simp [intOf]; omega⟩
      · have HN := Lib.hid (show cellsB l = true from by
          have h := HO.out
          rw [show k = l.length by omega] at h
          rw [cellsB_end l h, HL.out])
        go_wp2_with fail
        go_ret
        exact ⟨ret_bool HN.out.symm, HB.out⟩
end Go.Proofs.YtlkpinlkbikokabGreat
/- Contracts of chapter 3: the model's IsCells. -/
namespace Go.Proofs.YtlkpinlkbikokabGreat
set_option linter.unusedVariables false
open Go.RowKit
theorem specIsName_q (l : List UInt8) (x : Bool) (h : nameB l = x) (hs : l.length ≤ maxLen) (w : World) :
    Calls Tryz.prog 67 #[.string ⟨l.toArray⟩] w fun e w' => e = .returned (.bool x) ∧ w' = w := (specIsName_b l x h hs w).mono fun _ _ ⟨h1, h2⟩ => ⟨h1, h2.symm⟩
set_option maxRecDepth 100000 in
set_option maxHeartbeats 1600000 in
theorem specIsCells_any (v : Value) (l : List CellD) (w : World) (hx : FlatAt cCell 2 w v l) (hs : ∀ d ∈ l, d.fKey.length ≤ maxLen) :
    Calls Tryz.prog 170 #[v] w fun e w' => e = .returned (.bool (cellsB l)) ∧ Below w.heap.size w w' := by
  obtain ⟨a, c, rfl, hl⟩ := flatAt_len hx
  have HX := Lib.hid hx
  have HS := Lib.hid hs
  clear hx hs
  unfold maxLen at hl
  go_enter Tryz.func170, Tryz.ntmps170
  go_wp2_with fail
  go_loopw [3, 4, 7] (fun _ _ i wr => ∃ k : Nat, k ≤ l.length ∧ i = .int .i64 k ∧ okTo l k = true ∧ Below w.heap.size w wr) (fun _ _ i _ => l.length - (intOf i).toNat)
  case atStart => exact ⟨0, Nat.zero_le _, rfl, rfl, Below.refl _ _⟩
  case round =>
    obtain ⟨k, hk, rfl, hok, hb⟩ := hrel
    have HO := Lib.hid hok
    have HB := Lib.hid hb
    have HXr := Lib.hid (FlatAt.below HX.out hb (Nat.le_refl _))
    clear hok hb
    by_cases hlt : k < l.length
    · obtain ⟨b, o, rfl, hbl, hd⟩ := flatAt_cell cCell_len HXr.out k hlt (by decide)
      have d0 := hd 0 (by decide)
      have d1 := hd 1 (by decide)
      clear hd
      have HA := Lib.hid (okAt_of l k hlt)
      have HBAD := Lib.hid (fun h => cellsB_bad l k hlt h)
      have HNX := Lib.hid (show okAt l k = true → okTo l (k + 1) = true from fun h => by rw [okTo_succ, HO.out, h]; rfl)
      have HNM := Lib.hid (specIsName_q (l[k]).fKey)
      have hlen := HS.out (l[k]) (List.getElem_mem hlt)
      have HBB := Lib.hid (show ∀ o1, Below w.heap.size w (wr.alloc o1) from fun o1 => HB.out.alloc HB.out.size _)
      cases hx : nameB (l[k]).fKey with
      | false =>
        have HR := Lib.hid (HBAD.out (by rw [HA.out _ _ _ hx rfl rfl]; rfl))
        have HN := Lib.hid (HNM.out _ hx hlen)
        clear hx
        generalize l[k] = p at *
        obtain ⟨a0, a1⟩ := p
        simp only [cCell, List.getElem?_cons_zero, List.getElem?_cons_succ, Nat.add_zero] at d0 d1
        go_wp2_with fail
        go_quiet ((go_at_call 67; exact Calls.quiet_of_same (HN.out _)))
        go_wp2_with fail
        go_ret
        exact ⟨ret_bool HR.out.symm, below_drewN (HBB.out _) _⟩
      | true =>
        have HN := Lib.hid (HNM.out _ hx hlen)
        by_cases hv : (l[k]).fValue < 0
        · have HR := Lib.hid (HBAD.out (by rw [HA.out _ _ _ hx (show numB _ = false by simp [numB]; omega) rfl]; rfl))
          clear hx
          generalize l[k] = p at *
          obtain ⟨a0, a1⟩ := p
          simp only [cCell, List.getElem?_cons_zero, List.getElem?_cons_succ, Nat.add_zero] at d0 d1 hv
          go_wp2_with fail
          go_quiet ((go_at_call 67; exact Calls.quiet_of_same (HN.out _)))
          go_wp2_with fail
          go_ret
          exact ⟨ret_bool HR.out.symm, below_drewN (HBB.out _) _⟩
        · by_cases hv2 : 999 < (l[k]).fValue
          · have HR := Lib.hid (HBAD.out (by rw [HA.out _ _ _ hx (show numB _ = false by simp [numB]; omega) rfl]; rfl))
            clear hx
            generalize l[k] = p at *
            obtain ⟨a0, a1⟩ := p
            simp only [cCell, List.getElem?_cons_zero, List.getElem?_cons_succ, Nat.add_zero] at d0 d1 hv hv2
            have hvd : decide (a1 < 0) = false := by simpa using hv
            go_wp2_with fail
            go_quiet ((go_at_call 67; exact Calls.quiet_of_same (HN.out _)))
            go_wp2_with fail
            go_ret
            exact ⟨ret_bool HR.out.symm, below_drewN (HBB.out _) _⟩
          · have hy : numB (l[k]).fValue = true := by simp [numB]; omega
            by_cases h0 : 0 < k
            · have hk1 : k - 1 < l.length := by omega
              obtain ⟨b', o', e', _, hd'⟩ := flatAt_cell cCell_len HXr.out (k - 1) hk1 (by decide)
              injection e' with e'
              injection e' with e1 e2
              subst e1 e2
              have q0 := hd' 0 (by decide)
              clear hd'
              have hg0 : (0 : Int) < (k : Int) := by omega
              have hk2 : (0 : Int) ≤ (k : Int) - 1 := by omega
              have hk3 : (k : Int) - 1 < (l.length : Int) := by omega
              cases hz : Op.bytesLess (l.getD (k - 1) default).fKey (l[k]).fKey with
              | false =>
                have HR := Lib.hid (HBAD.out (by rw [HA.out _ _ _ hx hy rfl, hz]; simp; omega))
                rw [getD_at l (k - 1) hk1] at hz
                clear hx hy
                generalize l[k] = p at *
                generalize l[k - 1] = q at *
                obtain ⟨a0, a1⟩ := p
                obtain ⟨b0, b1⟩ := q
                simp only [cCell, List.getElem?_cons_zero, List.getElem?_cons_succ, Nat.add_zero] at d0 d1 q0 hz hv hv2
                have hvd : decide (a1 < 0) = false := by simpa using hv
                have hvd2 : decide (999 < a1) = false := by simpa using hv2
                go_wp2_with fail
                go_quiet ((go_at_call 67; exact Calls.quiet_of_same (HN.out _)))
                go_wp2_with fail
                go_ret
                exact ⟨ret_bool HR.out.symm, below_drewN (HBB.out _) _⟩
              | true =>
                have HR := Lib.hid (HNX.out (by rw [HA.out _ _ _ hx hy rfl, hz]; simp))
                rw [getD_at l (k - 1) hk1] at hz
                clear hx hy
                generalize l[k] = p at *
                generalize l[k - 1] = q at *
                obtain ⟨a0, a1⟩ := p
                obtain ⟨b0, b1⟩ := q
                simp only [cCell, List.getElem?_cons_zero, List.getElem?_cons_succ, Nat.add_zero] at d0 d1 q0 hz hv hv2
                have hvd : decide (a1 < 0) = false := by simpa using hv
                have hvd2 : decide (999 < a1) = false := by simpa using hv2
                go_wp2_with fail
                go_quiet ((go_at_call 67; exact Calls.quiet_of_same (HN.out _)))
                go_wp2_with fail
                exact ⟨⟨k + 1, by omega, by go_num, HR.out, below_drewN (HBB.out _) _⟩, by simp [intOf]; omega⟩
            · have HR := Lib.hid (HNX.out (by rw [HA.out _ _ _ hx hy rfl, show decide (k = 0) = true by simp; omega]; rfl))
              have hg0 : decide ((0 : Int) < (k : Int)) = false := by simp; omega
              clear hx hy
              generalize l[k] = p at *
              obtain ⟨a0, a1⟩ := p
              simp only [cCell, List.getElem?_cons_zero, List.getElem?_cons_succ, Nat.add_zero] at d0 d1 hv hv2
              have hvd : decide (a1 < 0) = false := by simpa using hv
              have hvd2 : decide (999 < a1) = false := by simpa using hv2
              go_wp2_with fail
              go_quiet ((go_at_call 67; exact Calls.quiet_of_same (HN.out _)))
              go_wp2_with fail
              exact ⟨⟨k + 1, by omega, by go_num, HR.out, below_drewN (HBB.out _) _⟩, by simp [intOf]; omega⟩
    · have HN := Lib.hid (show cellsB l = decide (l.length ≤ 4) from by
        have h := HO.out
        rw [show k = l.length by omega] at h
        exact cellsB_end l h)
      by_cases h4 : l.length ≤ 4
      · rw [show decide (l.length ≤ 4) = true by simpa using h4] at HN
        go_wp2_with fail
        go_ret
        exact ⟨ret_bool (by rw [HN.out]; simp; omega), HB.out⟩
      · rw [show decide (l.length ≤ 4) = false by simpa using h4] at HN
        go_wp2_with fail
        go_ret
        exact ⟨ret_bool (by rw [HN.out]; simp; omega), HB.out⟩
end Go.Proofs.YtlkpinlkbikokabGreat
/- Contracts of chapter 3: IsCore, the program's and the model's. -/
namespace Go.Proofs.YtlkpinlkbikokabGreat
set_option linter.unusedVariables false
open Go.RowKit
theorem off_fin : ∀ a : Fin 64, ∀ k : Fin 6, offersF ((a : Nat) : Int) (2 ^ (k : Nat)) = hasI ((a : Nat) : Int) (k : Nat) := by decide +kernel
theorem off_has {f : Int} (hf : isF f = true) (k : Nat) (hk : k < 6) : offersF f (2 ^ k) = hasI f k := by
  obtain ⟨a, rfl⟩ := isF_fin hf
  exact off_fin a ⟨k, hk⟩
/-- the kind, or -1, of a core; its face -/
def coreF (d : CoreD) : Int := kfI (kindI d.fKind)
def coreB (d : CoreD) : Bool := decide (0 ≤ kindI d.fKind) && cellsB d.fCells && (decide (d.fCells.length = 0) || hasI (coreF d) 1) && (!(d.fOn || d.fBroken) || hasI (coreF d) 0) && numB d.fCount && !(d.fOn && d.fBroken)
theorem kindOff_has (l : List UInt8) (h : decide (0 ≤ kindI l) = true) (k : Nat) (hk : k < 6) : kindOff l (2 ^ k) = hasI (kfI (kindI l)) k := by
  unfold kindOff; rw [h, Bool.true_and, off_has (kfI_face _) k hk]
theorem implKind_b (l : List UInt8) (x : Bool) (h : decide (0 ≤ kindI l) = x) (w : World) :
    Calls Tryz.prog 120 #[.string ⟨l.toArray⟩] w fun e w' => e = .returned (.tuple #[.int .i64 (kfI (kindI l)), .bool x]) ∧ w = w' := by
  subst h; exact implKind_any ⟨l.toArray⟩ w
theorem specKind_b (l : List UInt8) (x : Bool) (h : decide (0 ≤ kindI l) = x) (w : World) :
    Calls Tryz.prog 151 #[.string ⟨l.toArray⟩] w fun e w' => e = .returned (.tuple #[.int .i64 (kfI (kindI l)), .bool x]) ∧ Below w.heap.size w w' := by
  subst h; exact specKind_any ⟨l.toArray⟩ w
set_option maxRecDepth 100000 in
set_option maxHeartbeats 6400000 in
theorem implIsCore_any (v : Value) (d : CoreD) (w : World) (hx : CoreAt w v d) (hs : ∀ c ∈ d.fCells, c.fKey.length ≤ maxLen) :
    Calls Tryz.prog 164 #[v] w fun e w' => e = .returned (.bool (coreB d)) ∧ Below w.heap.size w w' := by
  obtain ⟨cv, rfl, hx⟩ := hx
  have HKD := Lib.hid (implKind_b d.fKind)
  have HOF := Lib.hid (kindOff_has d.fKind)
  have HKO := Lib.hid (kindOffers_b d.fKind)
  have HNU := Lib.hid (isNumber_b d.fCount)
  have HR := Lib.hid (show coreB d = (decide (0 ≤ kindI d.fKind) && cellsB d.fCells && (decide (d.fCells.length = 0) || hasI (kfI (kindI d.fKind)) 1) && (!(d.fOn || d.fBroken) || hasI (kfI (kindI d.fKind)) 0) && numB d.fCount && !(d.fOn && d.fBroken)) from rfl)
  generalize coreB d = res at *
  obtain ⟨kd, on, br, l, cnt⟩ := d
  unfold vCore
  simp only at *
  obtain ⟨a, c, rfl, hl⟩ := flatAt_len hx
  unfold maxLen at hl
  have HB0 := Lib.hid (show ∀ o, Below w.heap.size w (w.alloc o) from fun o => (Below.refl w.heap.size w).alloc (Nat.le_refl _) o)
  have HIC := Lib.hid (fun o => implIsCells_any _ l (w.alloc o) (hx.below (HB0.out o) (Nat.le_refl _)) hs)
  clear hx hs
  have HF := Lib.hid (show decide (0 ≤ kindI kd) = true → (∀ w, Calls Tryz.prog 173 #[.string ⟨kd.toArray⟩, .int .i64 2] w fun e w' => e = .returned (.bool (hasI (kfI (kindI kd)) 1)) ∧ w = w') ∧ ∀ w, Calls Tryz.prog 173 #[.string ⟨kd.toArray⟩, .int .i64 1] w fun e w' => e = .returned (.bool (hasI (kfI (kindI kd)) 0)) ∧ w = w' from fun h => ⟨HKO.out 2 _ (HOF.out h 1 (by decide)), HKO.out 1 _ (HOF.out h 0 (by decide))⟩)
  generalize hasI (kfI (kindI kd)) 1 = h1 at *
  generalize hasI (kfI (kindI kd)) 0 = h0 at *
  generalize numB cnt = nb at *
  have HNB := Lib.hid (HNU.out _ rfl)
  cases hk : decide (0 ≤ kindI kd) with
  | false =>
    have HK := Lib.hid (HKD.out _ hk)
    rw [hk] at HR
    clear hk HNU HKD HKO HOF HF
    go_enter Tryz.func164, Tryz.ntmps164
    go_wp2_with fail
    refine (HK.out _).mono ?_
    rintro e w1 ⟨rfl, rfl⟩
    go_wp2_with fail
    go_ret
    exact ⟨ret_bool HR.out.symm, HB0.out _⟩
  | true =>
    have HK := Lib.hid (HKD.out _ hk)
    have HK2 := Lib.hid (HF.out hk).1
    have HK1 := Lib.hid (HF.out hk).2
    rw [hk] at HR
    clear hk HNU HKD HKO HOF HF
    generalize cellsB l = cb at *
    go_enter Tryz.func164, Tryz.ntmps164
    go_wp2_with fail
    refine (HK.out _).mono ?_
    rintro e w1 ⟨rfl, rfl⟩
    go_wp2_with fail
    refine (HIC.out _).mono ?_
    rintro e w1 ⟨rfl, hb⟩
    have HB := Lib.hid ((HB0.out _).trans (hb.mono (HB0.out _).size))
    obtain ⟨hcc, _⟩ := bcell hb
    simp at hcc
    clear hb
    cases cb with
    | false =>
      go_wp2_with fail
      go_ret
      exact ⟨ret_bool (by rw [HR.out]; rfl), HB.out⟩
    | true =>
      by_cases hn : 0 < l.length
      · have hg : decide ((0 : Int) < (l.length : Int)) = true := decide_eq_true (by omega)
        rw [show decide (l.length = 0) = false from decide_eq_false (by omega)] at HR
        cases h1 with
        | false =>
          go_wp2_with (first | (go_at_call 173; (with_reducible refine (HK2.out _).mono ?_); rintro e w' ⟨rfl, rfl⟩))
          go_ret
          exact ⟨ret_bool (by rw [HR.out]; rfl), HB.out⟩
        | true =>
          cases on <;> cases br <;> cases h0 <;> cases nb
          all_goals
            go_wp2_with (first | (go_at_call 173; (with_reducible refine (HK2.out _).mono ?_); rintro e w' ⟨rfl, rfl⟩) | (go_at_call 173; (with_reducible refine (HK1.out _).mono ?_); rintro e w' ⟨rfl, rfl⟩) | (go_at_call 100; (with_reducible refine (HNB.out _).mono ?_); rintro e w' ⟨rfl, rfl⟩))
            go_ret
            exact ⟨ret_bool (by rw [HR.out]; rfl), HB.out⟩
      · have hg : decide ((0 : Int) < (l.length : Int)) = false := decide_eq_false (by omega)
        rw [show decide (l.length = 0) = true from decide_eq_true (by omega)] at HR
        have hg2 : (l.length : Int) ≤ 0 := by omega
        clear hn
        cases on <;> cases br <;> cases h0 <;> cases nb
        all_goals
          go_wp2_with (first | (go_at_call 173; (with_reducible refine (HK1.out _).mono ?_); rintro e w' ⟨rfl, rfl⟩) | (go_at_call 100; (with_reducible refine (HNB.out _).mono ?_); rintro e w' ⟨rfl, rfl⟩))
          go_ret
          exact ⟨ret_bool (by rw [HR.out]; rfl), HB.out⟩
end Go.Proofs.YtlkpinlkbikokabGreat
/- Contracts of chapter 3: the model's IsCore. -/
namespace Go.Proofs.YtlkpinlkbikokabGreat
set_option linter.unusedVariables false
open Go.RowKit
theorem l2Has_0 (f : Int) (x : Bool) (h : hasI f 0 = x) (hf : isF f = true) (w : World) :
    Calls Tryz.prog 76 #[.int .i64 f, .int .i64 0] w fun e w' => e = .returned (.bool x) ∧ w = w' := l2Has_b f 0 x h hf (by decide) w
theorem l2Has_1 (f : Int) (x : Bool) (h : hasI f 1 = x) (hf : isF f = true) (w : World) :
    Calls Tryz.prog 76 #[.int .i64 f, .int .i64 1] w fun e w' => e = .returned (.bool x) ∧ w = w' := l2Has_b f 1 x h hf (by decide) w
set_option maxRecDepth 100000 in
set_option maxHeartbeats 6400000 in
theorem specIsCore_any (v : Value) (d : CoreD) (w : World) (hx : CoreAt w v d) (hs : ∀ c ∈ d.fCells, c.fKey.length ≤ maxLen) :
    Calls Tryz.prog 153 #[v] w fun e w' => e = .returned (.bool (coreB d)) ∧ Below w.heap.size w w' := by
  obtain ⟨cv, rfl, hx⟩ := hx
  have HKD := Lib.hid (specKind_b d.fKind)
  have HH0 := Lib.hid (l2Has_0 (kfI (kindI d.fKind)) _ rfl (kfI_face _))
  have HH1 := Lib.hid (l2Has_1 (kfI (kindI d.fKind)) _ rfl (kfI_face _))
  have HR := Lib.hid (show coreB d = (decide (0 ≤ kindI d.fKind) && cellsB d.fCells && (decide (d.fCells.length = 0) || hasI (kfI (kindI d.fKind)) 1) && (!(d.fOn || d.fBroken) || hasI (kfI (kindI d.fKind)) 0) && numB d.fCount && !(d.fOn && d.fBroken)) from rfl)
  generalize coreB d = res at *
  obtain ⟨kd, on, br, l, cnt⟩ := d
  unfold vCore
  simp only at *
  obtain ⟨a, c, rfl, hl⟩ := flatAt_len hx
  unfold maxLen at hl
  have HB0 := Lib.hid (show ∀ o, Below w.heap.size w (w.alloc o) from fun o => (Below.refl w.heap.size w).alloc (Nat.le_refl _) o)
  have HIC := Lib.hid (fun w0 hb => specIsCells_any _ l w0 (hx.below hb (Nat.le_refl _)) hs)
  clear hx hs
  have HK := Lib.hid (HKD.out _ rfl)
  generalize hasI (kfI (kindI kd)) 1 = h1 at *
  generalize hasI (kfI (kindI kd)) 0 = h0 at *
  generalize kfI (kindI kd) = f at *
  generalize decide (0 ≤ kindI kd) = kk at *
  generalize cellsB l = cb at *
  have HN0 := Lib.hid (show cnt < 0 → numB cnt = false from fun h => by simp [numB]; omega)
  have HN1 := Lib.hid (show 999 < cnt → numB cnt = false from fun h => by simp [numB]; omega)
  have HN2 := Lib.hid (show 0 ≤ cnt → cnt ≤ 999 → numB cnt = true from fun h h2 => by simp [numB]; omega)
  generalize numB cnt = nb at *
  clear HKD
  go_enter Tryz.func153, Tryz.ntmps153
  go_wp2_with fail
  refine (HK.out _).mono ?_
  rintro e w1 ⟨rfl, hb⟩
  have HB1 := Lib.hid ((HB0.out _).trans (hb.mono (HB0.out _).size))
  obtain ⟨hcc, _⟩ := bcell hb
  simp at hcc
  have hc0 := hcc w.heap.size 0 (by omega)
  have hc1 := hcc w.heap.size 1 (by omega)
  have hc2 := hcc w.heap.size 2 (by omega)
  have hc3 := hcc w.heap.size 3 (by omega)
  have hc4 := hcc w.heap.size 4 (by omega)
  simp at hc0 hc1 hc2 hc3 hc4
  have HLT := Lib.hid (show w.heap.size < w1.heap.size from by have := hb.size; simp at this; omega)
  clear hb hcc
  cases kk with
  | false =>
    go_wp2_with (first | (go_at_call 76; (with_reducible refine (HH0.out _).mono ?_); rintro e w' ⟨rfl, rfl⟩))
    go_ret
    exact ⟨ret_bool (by rw [HR.out]; rfl), HB1.out⟩
  | true =>
    go_wp2_with (first | (go_at_call 76; (with_reducible refine (HH0.out _).mono ?_); rintro e w' ⟨rfl, rfl⟩))
    refine (HIC.out _ HB1.out).mono ?_
    rintro e w2 ⟨rfl, hb⟩
    have HB := Lib.hid (HB1.out.trans (hb.mono HB1.out.size))
    have c0 := (hb.cell (p := ⟨w.heap.size, 0, none⟩) HLT.out).trans hc0
    have c1 := (hb.cell (p := ⟨w.heap.size, 1, none⟩) HLT.out).trans hc1
    have c2 := (hb.cell (p := ⟨w.heap.size, 2, none⟩) HLT.out).trans hc2
    have c3 := (hb.cell (p := ⟨w.heap.size, 3, none⟩) HLT.out).trans hc3
    have c4 := (hb.cell (p := ⟨w.heap.size, 4, none⟩) HLT.out).trans hc4
    clear hb hc0 hc1 hc2 hc3 hc4
    cases cb with
    | false =>
      go_wp2_with fail
      go_ret
      exact ⟨ret_bool (by rw [HR.out]; rfl), HB.out⟩
    | true =>
      by_cases hn : 0 < l.length
      · have hg : decide ((0 : Int) < (l.length : Int)) = true := decide_eq_true (by omega)
        rw [show decide (l.length = 0) = false from decide_eq_false (by omega)] at HR
        cases h1 with
        | false =>
          go_wp2_with (first | (go_at_call 76; (with_reducible refine (HH1.out _).mono ?_); rintro e w' ⟨rfl, rfl⟩))
          go_ret
          exact ⟨ret_bool (by rw [HR.out]; rfl), HB.out⟩
        | true =>
          by_cases hv : cnt < 0
          · rw [HN0.out hv] at HR
            go_wp2_with (first | (go_at_call 76; (with_reducible refine (HH1.out _).mono ?_); rintro e w' ⟨rfl, rfl⟩))
            go_ret
            exact ⟨ret_bool (by rw [HR.out]; cases on <;> cases br <;> cases h0 <;> rfl), HB.out⟩
          · by_cases hv2 : 999 < cnt
            · rw [HN1.out hv2] at HR
              go_wp2_with (first | (go_at_call 76; (with_reducible refine (HH1.out _).mono ?_); rintro e w' ⟨rfl, rfl⟩))
              go_ret
              exact ⟨ret_bool (by rw [HR.out]; cases on <;> cases br <;> cases h0 <;> rfl), HB.out⟩
            · rw [HN2.out (by omega) (by omega)] at HR
              cases on <;> cases br <;> cases h0
              all_goals
                go_wp2_with (first | (go_at_call 76; (with_reducible refine (HH1.out _).mono ?_); rintro e w' ⟨rfl, rfl⟩))
                go_ret
                exact ⟨ret_bool (by rw [HR.out]; rfl), HB.out⟩
      · have hg : decide ((0 : Int) < (l.length : Int)) = false := decide_eq_false (by omega)
        rw [show decide (l.length = 0) = true from decide_eq_true (by omega)] at HR
        have hg2 : (l.length : Int) ≤ 0 := by omega
        clear hn
        by_cases hv : cnt < 0
        · rw [HN0.out hv] at HR
          go_wp2_with fail
          go_ret
          exact ⟨ret_bool (by rw [HR.out]; cases on <;> cases br <;> cases h0 <;> rfl), HB.out⟩
        · by_cases hv2 : 999 < cnt
          · rw [HN1.out hv2] at HR
            go_wp2_with fail
            go_ret
            exact ⟨ret_bool (by rw [HR.out]; cases on <;> cases br <;> cases h0 <;> rfl), HB.out⟩
          · rw [HN2.out (by omega) (by omega)] at HR
            cases on <;> cases br <;> cases h0
            all_goals
              go_wp2_with fail
              go_ret
              exact ⟨ret_bool (by rw [HR.out]; rfl), HB.out⟩
end Go.Proofs.YtlkpinlkbikokabGreat
/- Contracts of chapter 4: IsPart, both sides. -/
namespace Go.Proofs.YtlkpinlkbikokabGreat
set_option linter.unusedVariables false
set_option linter.unusedSimpArgs false
open Go.RowKit
def countedB (n : List UInt8) : Bool := n == [99, 111, 117, 110, 116, 115] || n == [104, 101, 97, 114, 115]
def cntB (y : LayerD) : Bool := if countedB y.fName = true then numB y.fCount else y.fCount == 0
def layOk (x : PartD) (i : Nat) : Bool := decide (0 ≤ layI (x.fLayers.getD i default).fName) && offersF (faceN x i) (needI (layI (x.fLayers.getD i default).fName)) && cntB (x.fLayers.getD i default)
def layTo (x : PartD) (k : Nat) : Bool := (List.range k).all (layOk x)
def partB (x : PartD) : Bool := coreB x.fCore && decide (x.fLayers.length ≤ 3) && layTo x x.fLayers.length
theorem layTo_succ (x : PartD) (k : Nat) : layTo x (k + 1) = (layTo x k && layOk x k) := by simp [layTo, List.range_succ, List.all_append]
theorem partB_bad {x : PartD} {k : Nat} (hk : k < x.fLayers.length) (h : layOk x k = false) : partB x = false := by
  have : layTo x x.fLayers.length = false := by
    unfold layTo
    rw [List.all_eq_false]
    exact ⟨k, List.mem_range.2 hk, by simp [h]⟩
  simp [partB, this]
theorem layOk_of (x : PartD) (i : Nat) (h : i < x.fLayers.length) (y : LayerD) (hy : x.fLayers[i] = y) : layOk x i = (decide (0 ≤ layI y.fName) && offersF (faceN x i) (needI (layI y.fName)) && cntB y) := by
  unfold layOk
  rw [List.getD_eq_getElem?_getD, List.getElem?_eq_getElem h, Option.getD_some, hy]
theorem faceN_take (c : CoreD) (l : List LayerD) (i : Nat) (h : i ≤ l.length) : faceP ⟨c, l.take i⟩ = faceN ⟨c, l⟩ i := by
  unfold faceP
  rw [show (⟨c, l.take i⟩ : PartD).fLayers.length = i by simp; omega]
  cases i with
  | zero => rfl
  | succ i =>
    unfold faceN
    simp only [List.getD_eq_getElem?_getD]
    rw [List.getElem?_take_of_lt (by omega)]
set_option maxRecDepth 100000 in
set_option maxHeartbeats 1600000 in
theorem insideOf_c (k : ByteArray) (on br : Bool) (ca sa : Option Addr) (cn cc sn sc : Nat) (ct : Int) (i : Nat) (w : World) (hi : i ≤ sc) (hs : i ≤ maxLen) :
    Calls Tryz.prog 165 #[.agg #[.string k, .bool on, .bool br, .slice ca cn cc, .int .i64 ct, .slice sa sn sc], .int .i64 i] w fun e w' => e = .returned (.agg #[.string k, .bool on, .bool br, .slice ca cn cc, .int .i64 ct, .slice sa i sc]) ∧ Below w.heap.size w w' := by
  unfold maxLen at hs
  go_enter Tryz.func165, Tryz.ntmps165
  go_wp2_with fail
  go_region
  all_goals (try go_wp2_with fail)
  all_goals
    refine bodyPost_ret (v := .agg #[.string k, .bool on, .bool br, .slice ca cn cc, .int .i64 ct, .slice sa i sc]) (by simp [results, Tryz.results165, go_sem]) rfl ⟨rfl, ?_⟩
    repeat (first | with_reducible exact Below.refl _ _ | with_reducible refine Below.alloc ?_ (by simp; try omega) _ | with_reducible refine Below.drew ?_ | with_reducible refine belD ?_)
set_option maxHeartbeats 1600000 in
theorem isLayerCount_c (n : List UInt8) (c : Int) (w : World) :
    Calls Tryz.prog 166 #[.agg #[.string ⟨n.toArray⟩, .int .i64 c]] w fun e w' => e = .returned (.bool (cntB ⟨n, c⟩)) ∧ Below w.heap.size w w' := by
  have HN := Lib.hid (isNumber_any c)
  by_cases h0 : n = [99, 111, 117, 110, 116, 115]
  · subst h0
    have HR := Lib.hid (show cntB ⟨[99, 111, 117, 110, 116, 115], c⟩ = numB c from rfl)
    generalize numB c = b at *
    go_enter Tryz.func166, Tryz.ntmps166
    go_wp2_with (first | (go_at_call 100; (with_reducible refine (HN.out _).mono ?_); rintro e w' ⟨rfl, rfl⟩))
    go_ret
    exact ⟨ret_bool HR.out.symm, part_box w _⟩
  · by_cases h1 : n = [104, 101, 97, 114, 115]
    · subst h1
      have HR := Lib.hid (show cntB ⟨[104, 101, 97, 114, 115], c⟩ = numB c from rfl)
      generalize numB c = b at *
      clear h0
      go_enter Tryz.func166, Tryz.ntmps166
      go_wp2_with (first | (go_at_call 100; (with_reducible refine (HN.out _).mono ?_); rintro e w' ⟨rfl, rfl⟩))
      go_ret
      exact ⟨ret_bool HR.out.symm, part_box w _⟩
    · have HR := Lib.hid (show cntB ⟨n, c⟩ = (c == 0) by unfold cntB countedB; simp [h0, h1])
      have g0 : (n == [99, 111, 117, 110, 116, 115]) = false := by simp [h0]
      have g1 : (n == [104, 101, 97, 114, 115]) = false := by simp [h1]
      clear h0 h1
      go_enter Tryz.func166, Tryz.ntmps166
      go_wp2_with (first | (go_at_call 100; (with_reducible refine (HN.out _).mono ?_); rintro e w' ⟨rfl, rfl⟩))
      go_ret
      exact ⟨ret_bool HR.out.symm, part_box w _⟩
end Go.Proofs.YtlkpinlkbikokabGreat
/- Contracts of chapter 4: IsPart, the program's. -/
namespace Go.Proofs.YtlkpinlkbikokabGreat
set_option linter.unusedVariables false
set_option linter.unusedSimpArgs false
open Go.RowKit
set_option maxRecDepth 100000 in
set_option maxHeartbeats 3200000 in
theorem implIsPart_any (v : Value) (x : PartD) (w : World) (hx : ValAt rPart 0 w v x) (hs : ∀ c ∈ x.fCore.fCells, c.fKey.length ≤ maxLen) :
    Calls Tryz.prog 148 #[v] w fun e w' => e = .returned (.bool (partB x)) ∧ Below w.heap.size w w' := by
  obtain ⟨_, rfl, hx⟩ := hx
  have HX := Lib.hid hx
  have HBAD := Lib.hid (fun k => partB_bad (x := x) (k := k))
  have HOK := Lib.hid (fun i h y hy => layOk_of x i h y hy)
  have HSU := Lib.hid (layTo_succ x)
  have HFN := Lib.hid (faceN_take x.fCore x.fLayers)
  have HP := Lib.hid (show partB x = (coreB x.fCore && decide (x.fLayers.length ≤ 3) && layTo x x.fLayers.length) from rfl)
  obtain ⟨xc, ls⟩ := x
  obtain ⟨v3, v5, rfl, h3, h5⟩ := hx
  have HC := Lib.hid (fun W (hb : Below w.heap.size w W) => implIsCore_any (vCore xc v3) xc W ⟨v3, rfl, FlatAt.below (flatAt_of_slice cCell_len (by decide) h3) hb (Nat.le_refl _)⟩ hs)
  obtain ⟨a0, a1, a2, a3, a4⟩ := xc
  unfold vCore at HC
  simp only at h3 h5 HX HC HP HFN HBAD HOK
  obtain ⟨ra, rc, rfl, _⟩ := sliceAt_len h3
  obtain ⟨sa, sc, rfl, hl, hcap⟩ := sliceAt_cap h5
  have H5 := Lib.hid h5
  have H3 := Lib.hid h3
  unfold maxLen at hl
  have HB0 := Lib.hid (show ∀ o, Below w.heap.size w (w.alloc o) from fun o => part_box w o)
  have HS0 := Lib.hid (Bx.new w [.string ⟨a0.toArray⟩, .bool a1, .bool a2, .slice ra a3.length rc, .int .i64 a4, .slice sa ls.length sc] 103)
  clear h3 h5
  have HPB := Lib.hid (show partB ⟨⟨a0, a1, a2, a3, a4⟩, ls⟩ = partB ⟨⟨a0, a1, a2, a3, a4⟩, ls⟩ from rfl)
  generalize partB ⟨⟨a0, a1, a2, a3, a4⟩, ls⟩ = pb at *
  have HCB := Lib.hid (show coreB ⟨a0, a1, a2, a3, a4⟩ = coreB ⟨a0, a1, a2, a3, a4⟩ from rfl)
  generalize coreB ⟨a0, a1, a2, a3, a4⟩ = cb at *
  clear HPB HCB HX
  cases cb with
  | false =>
    have HR := Lib.hid (show pb = false by rw [HP.out]; rfl)
    go_enter Tryz.func148, Tryz.ntmps148
    go_wp2_with fail
    refine (HC.out _ (HB0.out _)).mono ?_
    rintro e w1 ⟨rfl, hb⟩
    have HB := Lib.hid (belS (HB0.out _) hb)
    clear hb
    go_wp2_with fail
    go_ret
    exact ⟨ret_bool HR.out.symm, HB.out⟩
  | true =>
    by_cases h3 : 3 < ls.length
    · have HR := Lib.hid (show pb = false by rw [HP.out, show decide (ls.length ≤ 3) = false by simpa using h3]; rfl)
      go_enter Tryz.func148, Tryz.ntmps148
      go_wp2_with fail
      refine (HC.out _ (HB0.out _)).mono ?_
      rintro e w1 ⟨rfl, hb⟩
      have HB := Lib.hid (belS (HB0.out _) hb)
      have BX := Lib.hid (HS0.out.below hb)
      clear hb
      have e0 := BX.out.cell 0 (by simp)
      have e1 := BX.out.cell 1 (by simp)
      have e2 := BX.out.cell 2 (by simp)
      have e3 := BX.out.cell 3 (by simp)
      have e4 := BX.out.cell 4 (by simp)
      have e5 := BX.out.cell 5 (by simp)
      simp only [List.getElem_cons_zero, List.getElem_cons_succ] at e0 e1 e2 e3 e4 e5
      go_wp2_with fail
      go_ret
      exact ⟨ret_bool HR.out.symm, HB.out⟩
    · have HR := Lib.hid (show pb = layTo ⟨⟨a0, a1, a2, a3, a4⟩, ls⟩ ls.length by rw [HP.out, show decide (ls.length ≤ 3) = true by simpa using h3]; simp)
      go_enter Tryz.func148, Tryz.ntmps148
      go_wp2_with fail
      refine (HC.out _ (HB0.out _)).mono ?_
      rintro e w1 ⟨rfl, hb⟩
      have HB := Lib.hid (belS (HB0.out _) hb)
      have BX := Lib.hid (HS0.out.below hb)
      clear hb
      have e0 := BX.out.cell 0 (by simp)
      have e1 := BX.out.cell 1 (by simp)
      have e2 := BX.out.cell 2 (by simp)
      have e3 := BX.out.cell 3 (by simp)
      have e4 := BX.out.cell 4 (by simp)
      have e5 := BX.out.cell 5 (by simp)
      simp only [List.getElem_cons_zero, List.getElem_cons_succ] at e0 e1 e2 e3 e4 e5
      go_wp2_with fail
      clear e0 e1 e2 e3 e4 e5
      go_loopw [3, 4, 20] (fun _ _ i wr => ∃ k : Nat, k ≤ ls.length ∧ i = .int .i64 k ∧ layTo ⟨⟨a0, a1, a2, a3, a4⟩, ls⟩ k = true ∧ Below w.heap.size w wr ∧ Bx wr w.heap.size [.string ⟨a0.toArray⟩, .bool a1, .bool a2, .slice ra a3.length rc, .int .i64 a4, .slice sa ls.length sc]) (fun _ _ i _ => ls.length - (intOf i).toNat)
      case atStart => exact ⟨0, Nat.zero_le _, rfl, rfl, HB.out, BX.out⟩
      case round =>
        obtain ⟨k, hk, rfl, ht, hbr, hbx⟩ := hrel
        have HT := Lib.hid ht
        have HBr := Lib.hid hbr
        have BXr := Lib.hid hbx
        have HXr := Lib.hid (SliceAt.below H5.out (good_flat cLayer_len) hbr (Nat.le_refl _))
        clear ht hbr hbx
        by_cases hlt : k < ls.length
        · obtain ⟨b, o, cs, rfl, hbw, hat, hd⟩ := sliceAt_cell HXr.out k hlt
          have HLO := Lib.hid (HOK.out k hlt _ rfl)
          have HBD := Lib.hid (fun h => HBAD.out k hlt h)
          have HNX := Lib.hid (show layOk ⟨⟨a0, a1, a2, a3, a4⟩, ls⟩ k = true → layTo ⟨⟨a0, a1, a2, a3, a4⟩, ls⟩ (k + 1) = true from fun h => by rw [HSU.out, HT.out, h]; rfl)
          have HTK := Lib.hid (HFN.out k (Nat.le_of_lt hlt))
          have HFO := Lib.hid (fun W hW => implFaceOf_any (.agg #[.string ⟨a0.toArray⟩, .bool a1, .bool a2, .slice ra a3.length rc, .int .i64 a4, .slice (some ⟨b, o, none⟩) k sc]) ⟨⟨a0, a1, a2, a3, a4⟩, ls.take k⟩ W ⟨_, rfl, _, _, rfl, SliceAt.below H3.out (good_flat cCell_len) hW (Nat.le_refl _), sliceAt_take (SliceAt.below H5.out (good_flat cLayer_len) hW (Nat.le_refl _)) k (Nat.le_of_lt hlt) (by omega)⟩)
          rw [HTK.out] at HFO
          generalize ls[k] = z at *
          obtain ⟨z0, z1⟩ := z
          simp only [rFlat, cLayer] at hat HLO
          subst hat
          have d0 := hd 0 (by decide)
          have d1 := hd 1 (by decide)
          simp only [List.getElem?_cons_zero, List.getElem?_cons_succ, Nat.add_zero] at d0 d1
          have HLN := Lib.hid (implLayerNeeds_any ⟨z0.toArray⟩)
          simp only [ndV, List.toList_toArray] at HLN
          have HIO := Lib.hid (fun W => insideOf_c ⟨a0.toArray⟩ a1 a2 ra (some ⟨b, o, none⟩) a3.length rc ls.length sc a4 k W (by omega) (by unfold maxLen; omega))
          have HOF := Lib.hid (implOffers_any (faceN ⟨⟨a0, a1, a2, a3, a4⟩, ls⟩ k) (needI (layI z0)))
          have HIL := Lib.hid (isLayerCount_c z0 z1)
          have hkc : (k : Int) < (ls.length : Int) := by omega
          generalize layOk ⟨⟨a0, a1, a2, a3, a4⟩, ls⟩ k = lo at *
          generalize faceN ⟨⟨a0, a1, a2, a3, a4⟩, ls⟩ k = fc at *
          generalize needI (layI z0) = nd at *
          generalize offersF fc nd = ob at *
          generalize cntB ⟨z0, z1⟩ = cn at *
          generalize hge : decide (0 ≤ layI z0) = q at *
          clear hd hge HXr HTK
          have HW0 := Lib.hid (part_box wr (.cells #[.string ⟨z0.toArray⟩, .int .i64 z1] 142))
          have BL := Lib.hid (Bx.new wr [.string ⟨z0.toArray⟩, .int .i64 z1] 142)
          have BX1 := Lib.hid (BXr.out.alloc (.cells #[.string ⟨z0.toArray⟩, .int .i64 z1] 142))
          have HB1 := Lib.hid (belS HBr.out HW0.out)
          have e0 := BX1.out.cell 0 (by simp)
          have e1 := BX1.out.cell 1 (by simp)
          have e2 := BX1.out.cell 2 (by simp)
          have e3 := BX1.out.cell 3 (by simp)
          have e4 := BX1.out.cell 4 (by simp)
          have e5 := BX1.out.cell 5 (by simp)
          simp only [List.getElem_cons_zero, List.getElem_cons_succ] at e0 e1 e2 e3 e4 e5
          cases q with
          | false =>
            have HR2 := Lib.hid (show pb = false from HBD.out (by rw [HLO.out]; rfl))
            go_wp2_with (first | (go_at_call 147; (with_reducible refine (HLN.out _).mono ?_); rintro e w' ⟨rfl, rfl⟩))
            go_ret
            exact ⟨ret_bool HR2.out.symm, HB1.out⟩
          | true =>
            go_wp2_with (first | (go_at_call 147; (with_reducible refine (HLN.out _).mono ?_); rintro e w' ⟨rfl, rfl⟩))
            refine (HIO.out _).mono ?_
            rintro e w2 ⟨rfl, hb⟩
            have HB2 := Lib.hid (belS HB1.out hb)
            have BL2 := Lib.hid (BL.out.below hb)
            have BX2 := Lib.hid (BX1.out.below hb)
            clear hb
            clear e0 e1 e2 e3 e4 e5
            go_wp2_with fail
            refine (HFO.out _ HB2.out).mono ?_
            rintro e w3 ⟨rfl, hb⟩
            have HB3 := Lib.hid (belS HB2.out hb)
            have BL3 := Lib.hid (BL2.out.below hb)
            have BX3 := Lib.hid (BX2.out.below hb)
            clear hb
            have g0 := BL3.out.cell 0 (by simp)
            have g1 := BL3.out.cell 1 (by simp)
            simp only [List.getElem_cons_zero, List.getElem_cons_succ] at g0 g1
            cases ob with
            | false =>
              have HR2 := Lib.hid (show pb = false from HBD.out (by rw [HLO.out]; rfl))
              go_wp2_with (first | (go_at_call 46; (with_reducible refine (HOF.out _).mono ?_); rintro e w' ⟨rfl, rfl⟩))
              go_ret
              exact ⟨ret_bool HR2.out.symm, HB3.out⟩
            | true =>
              go_wp2_with (first | (go_at_call 46; (with_reducible refine (HOF.out _).mono ?_); rintro e w' ⟨rfl, rfl⟩))
              refine (HIL.out _).mono ?_
              rintro e w4 ⟨rfl, hb⟩
              have HB4 := Lib.hid (belS HB3.out hb)
              have BX4 := Lib.hid (BX3.out.below hb)
              clear hb g0 g1
              cases cn with
              | false =>
                have HR2 := Lib.hid (show pb = false from HBD.out (by rw [HLO.out]; rfl))
                go_wp2_with fail
                go_ret
                exact ⟨ret_bool HR2.out.symm, HB4.out⟩
              | true =>
                have HR2 := Lib.hid (HNX.out (by rw [HLO.out]; rfl))
                go_wp2_with fail
                exact ⟨⟨k + 1, by omega, by go_num, HR2.out, HB4.out, BX4.out⟩, by simp [intOf]; omega⟩
        · have HR2 := Lib.hid (show pb = true by rw [HR.out]; have h := HT.out; rwa [show k = ls.length by omega] at h)
          go_wp2
          go_ret
          exact ⟨ret_bool HR2.out.symm, HBr.out⟩
end Go.Proofs.YtlkpinlkbikokabGreat
/- Parts whose rows are one's own. -/
namespace Go.Proofs.YtlkpinlkbikokabGreat
set_option linter.unusedVariables false
set_option linter.unusedSimpArgs false
open Go.RowKit
theorem Bx.grown {w w' : World} {b : Nat} {cs : List Value} {r : Option Nat} (h : Bx w b cs) (hg : w.grownBy w' r) (hr : r ≠ some b) : Bx w' b cs :=
  ⟨Nat.lt_of_lt_of_le h.lt hg.size, fun j hj => (World.cell?_of_block (hg.block b h.lt (fun e => hr e.symm))).trans (h.cell j hj), fun j hj => (World.frozen?_of_block (hg.block b h.lt (fun e => hr e.symm))).trans (h.froz j hj)⟩
theorem Bx.belowK {w w' : World} {b B : Nat} {cs : List Value} (h : Bx w b cs) (hb : Below B w w') (hB : b < B) : Bx w' b cs :=
  ⟨Nat.lt_of_lt_of_le h.lt hb.size, fun j hj => (World.cell?_of_block (hb.block b hB)).trans (h.cell j hj), fun j hj => (World.frozen?_of_block (hb.block b hB)).trans (h.froz j hj)⟩
/-- six cells stored, one behind the other -/
theorem Bx.put6 {w : World} {b : Nat} {c0 c1 c2 c3 c4 c5 : Value} (h : Bx w b [c0, c1, c2, c3, c4, c5]) (u0 u1 u2 u3 u4 u5 : Value) :
    Bx ((((((w.setCell ⟨b, 0, none⟩ u0).setCell ⟨b, 1, none⟩ u1).setCell ⟨b, 2, none⟩ u2).setCell ⟨b, 3, none⟩ u3).setCell ⟨b, 4, none⟩ u4).setCell ⟨b, 5, none⟩ u5) b [u0, u1, u2, u3, u4, u5] :=
  ((((((h.set 0 (by simp) u0).set 1 (by simp) u1).set 2 (by simp) u2).set 3 (by simp) u3).set 4 (by simp) u4).set 5 (by simp) u5)
theorem below_put6 {B : Nat} {a w : World} (h : Below B a w) (b : Nat) (hb : B ≤ b) (u0 u1 u2 u3 u4 u5 : Value) :
    Below B a ((((((w.setCell ⟨b, 0, none⟩ u0).setCell ⟨b, 1, none⟩ u1).setCell ⟨b, 2, none⟩ u2).setCell ⟨b, 3, none⟩ u3).setCell ⟨b, 4, none⟩ u4).setCell ⟨b, 5, none⟩ u5) :=
  ((((((h.setCell (p := ⟨b, 0, none⟩) hb u0).setCell (p := ⟨b, 1, none⟩) hb u1).setCell (p := ⟨b, 2, none⟩) hb u2).setCell (p := ⟨b, 3, none⟩) hb u3).setCell (p := ⟨b, 4, none⟩) hb u4).setCell (p := ⟨b, 5, none⟩) hb u5)
theorem ownsF_put6 {α : Type} {f : α → List Value} {E k : Nat} {w : World} {B : Nat} {v : Value} {l : List α} (h : OwnsF f E k w B v l) (b : Nat) (hb : b < B) (u0 u1 u2 u3 u4 u5 : Value) :
    OwnsF f E k ((((((w.setCell ⟨b, 0, none⟩ u0).setCell ⟨b, 1, none⟩ u1).setCell ⟨b, 2, none⟩ u2).setCell ⟨b, 3, none⟩ u3).setCell ⟨b, 4, none⟩ u4).setCell ⟨b, 5, none⟩ u5) B v l :=
  ownsF_set (ownsF_set (ownsF_set (ownsF_set (ownsF_set (ownsF_set h hb) hb) hb) hb) hb) hb
theorem Bx.dr {w : World} {b : Nat} {cs : List Value} (h : Bx w b cs) : Bx w.drew b cs := ⟨h.lt, h.cell, h.froz⟩
/-- a part in cells, whose rows are one's own and lie in blocks from B on -/
def oPart (w : World) (B : Nat) (cs : List Value) (x : PartD) : Prop := ∃ v3 v5, cs = [.string ⟨x.fCore.fKind.toArray⟩, .bool x.fCore.fOn, .bool x.fCore.fBroken, v3, .int .i64 x.fCore.fCount, v5] ∧ OwnsF cCell 194 2 w B v3 x.fCore.fCells ∧ OwnsF cLayer 142 2 w B v5 x.fLayers
/-- sizes that no copy outgrows -/
structure SmallP (x : PartD) : Prop where
  z : zPart x ≤ 1048576
  kind : x.fCore.fKind.length ≤ 1048576
  cells : x.fCore.fCells.length ≤ 2097152
  keys : ∀ c ∈ x.fCore.fCells, c.fKey.length ≤ 1048576
  lays : x.fLayers.length ≤ 2097152
  names : ∀ y ∈ x.fLayers, y.fName.length ≤ 1048576
theorem smallP_of {x : PartD} (h : zPart x ≤ 1048576) : SmallP x := by
  unfold zPart zCore at h
  refine ⟨by unfold zPart zCore; exact h, by omega, by omega, fun c hc => ?_, by omega, fun y hy => ?_⟩
  · have := sumF_mem zCell x.fCore.fCells c hc
    have h2 : c.fKey.length ≤ zCell c := by unfold zCell; omega
    omega
  · have := sumF_mem zLayer x.fLayers y hy
    have h2 : y.fName.length ≤ zLayer y := by unfold zLayer; omega
    omega
def GivesOP (x : PartD) (w : World) (e : Ending) (w' : World) : Prop := ∃ cs, e = .returned (.agg cs.toArray) ∧ oPart w' w.heap.size cs x ∧ Below w.heap.size w w'
theorem oPart_r {w : World} {B : Nat} {cs : List Value} {x : PartD} (h : oPart w B cs x) (hs : SmallP x) : rPart B w cs x := by
  obtain ⟨v3, v5, rfl, h3, h5⟩ := h
  exact ⟨v3, v5, rfl, sliceAt_of_owns cCell_len h3 (Nat.le_trans hs.cells (by decide)), sliceAt_of_owns cLayer_len h5 (Nat.le_trans hs.lays (by decide))⟩
theorem oPart_below {w w' : World} {B B' : Nat} {cs : List Value} {x : PartD} (h : oPart w B cs x) (hb : Below B' w w') (hB : w.heap.size ≤ B') : oPart w' B cs x := by
  obtain ⟨v3, v5, rfl, h3, h5⟩ := h
  exact ⟨v3, v5, rfl, ownsF_below h3 hb hB, ownsF_below h5 hb hB⟩
theorem oPart_base {w : World} {B B' : Nat} {cs : List Value} {x : PartD} (h : oPart w B cs x) (hB : B' ≤ B) : oPart w B' cs x := by
  obtain ⟨v3, v5, rfl, h3, h5⟩ := h
  exact ⟨v3, v5, rfl, ownsF_base h3 hB, ownsF_base h5 hB⟩
theorem oPart_set {w : World} {B : Nat} {cs : List Value} {x : PartD} {p : Addr} {u : Value} (h : oPart w B cs x) (hp : p.block < B) : oPart (w.setCell p u) B cs x := by
  obtain ⟨v3, v5, rfl, h3, h5⟩ := h
  exact ⟨v3, v5, rfl, ownsF_set h3 hp, ownsF_set h5 hp⟩
theorem oPart_drew {w : World} {B : Nat} {cs : List Value} {x : PartD} (h : oPart w B cs x) : oPart w.drew B cs x := h
theorem infoLay : (Tryz.prog.info? 142).map (fun i => (i.zero, i.size, i.bytes)) = some (some (.agg #[.string ⟨#[]⟩, .int .i64 0]), 2, 24) := by kernel_rfl
/-- append of one layer to a row of one's own, at a step of a region that draws -/
theorem step_lays {ops : Array Oper} {o : Oper} {a : Act} {K : Act → World → Prop} {Q : Exit → Act → World → Prop} {E : Prop} (hgd : o.guard = none) (s x : Operand)
    (ho : o.op = .call { callee := .builtin .append, args := #[s, x], argTypes := #[101, 101] }) (B : Nat) (v : Value) (l : List LayerD) (y : LayerD) (w : World) (blk : Nat)
    (hs : a.eval s = v) (hO : OwnsF cLayer 142 2 w B v l) (hx : a.eval x = .slice (some ⟨blk, 0, none⟩) 1 1) (hc : ∀ j, j < 2 → w.cell? ⟨blk, j, none⟩ = (cLayer y)[j]?) (hl : l.length ≤ 4194304) (hB : B ≤ w.heap.size)
    (h : ∀ v' w', OwnsF cLayer 142 2 w' B v' (l ++ [y]) → w.grownBy w' v.ownBlock → K (a.put o.dst v') w') : if Region.wanted o (yielded ops a.tmps) = true then Oper.wp Tryz.prog o a w K Q else E := by
  obtain ⟨i0, hi, hz0, hz1, hz2⟩ := info_parts infoLay
  refine step_append_lies w hgd s x 101 ho B 142 i0 _ 2 24 Tryz.underlying101 hi hz0 hz1 hz2 rfl (by decide) v l.length (l.flatMap cLayer) hs hO ⟨blk, 0, none⟩ 1 1 (cLayer y) hx rfl ?_ (cLayer_one y) (by decide) (by unfold maxLen; omega) (by omega) hB _ rfl ?_
  · intro j u hj
    have hj2 : j < 2 := (List.getElem?_eq_some_iff.1 hj).1
    rw [Addr.add_lit, Nat.zero_add, hc j hj2]; exact hj
  · intro g cap w' h1 h2 _ _
    refine h _ w' ?_ h2
    unfold OwnsF; rw [List.flatMap_append, List.length_append]; simpa using h1
theorem cell_newL (w : World) (y : LayerD) (blk : Nat) (h : blk = w.heap.size) : ∀ j, j < 2 → (w.alloc (.cells #[.string ⟨y.fName.toArray⟩, .int .i64 y.fCount] 142)).cell? ⟨blk, j, none⟩ = (cLayer y)[j]? := by
  intro j hj
  subst h
  rw [cell_of_row _ _ _ _ 142 (0, 0) (heap_alloc_new w _)]
  rcases (show j = 0 ∨ j = 1 by omega) with rfl | rfl <;> rfl
end Go.Proofs.YtlkpinlkbikokabGreat
/- One-valued assertions to interface types: where the methods are there, and where one is missing (a panic). -/
namespace Go.Proofs.YtlkpinlkbikokabGreat
set_option linter.unusedVariables false
open Go.RowKit
section
variable {P : Program} {t xT asserted E : TypeId} {want : Array (String × TypeId)}
theorem ta_has (hu : P.underlying asserted = some (.interface want)) (h : (P.info? t).map (fun i => (lacking want i.methods).isEmpty) = some true)
    (v : Value) (xT : TypeId) (w : World) : (Instr.typeAssert (.iface t v) xT asserted false).run P w = .ok (.iface t v) w := by
  obtain ⟨i, hi, hl⟩ := Option.map_eq_some_iff.1 h
  simp [Instr.typeAssert, run_underlying hu, typeInfo, hi, missingMethod_none (List.isEmpty_iff.1 hl)]
theorem ta_lacks (hu : P.underlying asserted = some (.interface want)) (h : (P.info? t).map (fun i => (lacking want i.methods).isEmpty) = some false) (hE : P.underlying P.rt.typeAssertionError = some (.pointer E)) :
    ∃ c : Array Value, ∀ (v : Value) (xT : TypeId) (w : World), (Instr.typeAssert (.iface t v) xT asserted false).run P w = .halt (.panic (.iface P.rt.typeAssertionError (.pointer (some ⟨w.heap.size, 0, none⟩)))) (w.alloc (.cells c E)) := by
  obtain ⟨i, hi, hl⟩ := Option.map_eq_some_iff.1 h
  obtain ⟨m, hm⟩ := missingMethod_some (want := want) (got := i.methods) (fun e => by rw [e] at hl; cases hl)
  refine ⟨#[.pointer none, typeHandle P t, typeHandle P asserted, strVal m], fun v xT w => ?_⟩
  simp [Instr.typeAssert, run_underlying hu, typeInfo, hi, hm, runtimePanic, elemOf, run_underlying hE, newVar, newRow, Value.cells, goPanic]

end
theorem cell_set_at {w : World} {b o : Nat} {u : Value} (hb : (w.cell? ⟨b, o, none⟩).isSome = true) : (w.setCell ⟨b, o, none⟩ u).cell? ⟨b, o, none⟩ = some u := by
  obtain ⟨x, hx⟩ := Option.isSome_iff_exists.1 hb
  exact World.cell?_setCell_same w _ _ hx
theorem cell_set_ne {w : World} {b i j : Nat} {u : Value} (h : i ≠ j) : (w.setCell ⟨b, i, none⟩ u).cell? ⟨b, j, none⟩ = w.cell? ⟨b, j, none⟩ := World.cell?_setCell_other (a := ⟨b, i, none⟩) (b := ⟨b, j, none⟩) (h := fun e => h (by injection e)) ..
theorem rtE : ∃ E, Tryz.prog.underlying Tryz.prog.rt.typeAssertionError = some (.pointer E) := ⟨245, by kernel_rfl⟩
def Has (I T : TypeId) : Prop := ∀ (v : Value) (xT : TypeId) (w : World), (Instr.typeAssert (.iface T v) xT I false).run Tryz.prog w = .ok (.iface T v) w
def Fails (I T : TypeId) : Prop := ∃ (c : Array Value) (E : TypeId), ∀ (v : Value) (xT : TypeId) (w : World), (Instr.typeAssert (.iface T v) xT I false).run Tryz.prog w = .halt (.panic (.iface Tryz.prog.rt.typeAssertionError (.pointer (some ⟨w.heap.size, 0, none⟩)))) (w.alloc (.cells c E))
theorem fails_of {I T : TypeId} {want : Array (String × TypeId)} (hu : Tryz.prog.underlying I = some (.interface want)) (h : (Tryz.prog.info? T).map (fun i => (lacking want i.methods).isEmpty) = some false) : Fails I T := by
  obtain ⟨E, hE⟩ := rtE
  obtain ⟨c, hc⟩ := ta_lacks (t := T) hu h hE
  exact ⟨c, E, hc⟩
def Panics (w : World) (e : Ending) (w' : World) : Prop := ∃ pv, e = .panicked [{ v := .iface Tryz.prog.rt.typeAssertionError pv, recovered := false }] ∧ Below w.heap.size w w'
end Go.Proofs.YtlkpinlkbikokabGreat
/- The library's contracts of strings.Builder, laid at this program's numbers. -/
namespace Go.Proofs.YtlkpinlkbikokabGreat
set_option linter.unusedVariables false
open Go.Shelf Go.RowKit
def bRen : Go.Shelf.Ren := ⟨fun | 167 => 109 | 240 => 128 | 276 => 155 | 169 => 85 | n => n, fun | 9 => 9 | 0 => 0 | 72 => 116 | 70 => 113 | 37 => 114 | 127 => 133 | 3 => 3 | 4 => 4 | 5 => 5 | 20 => 20 | 75 => 131 | 80 => 118 | 164 => 174 | n => n, fun | n => n⟩
theorem bLays240 : Go.Proofs.Lays.n240 Tryz.prog bRen := {
  mixed := by kernel_rfl
  f240 := Tryz.func128.trans (congrArg some (by kernel_rfl))
  f276 := Tryz.func155.trans (congrArg some (by kernel_rfl))
  t0 := Tryz.underlying0
  a0 := Tryz.isAgg0
  z0 := Tryz.sizeOf0
  v0 := Tryz.zeroValue0
  t4 := Tryz.underlying4
  a4 := Tryz.isAgg4
  z4 := Tryz.sizeOf4
  v4 := Tryz.zeroValue4
  t9 := Tryz.underlying9
  a9 := Tryz.isAgg9
  z9 := Tryz.sizeOf9
  v9 := Tryz.zeroValue9
  t20 := Tryz.underlying20
  a20 := Tryz.isAgg20
  z20 := Tryz.sizeOf20
  v20 := Tryz.zeroValue20
  t70 := Tryz.underlying113
  a70 := Tryz.isAgg113
  z70 := Tryz.sizeOf113
  v70 := Tryz.zeroValue113
  t72 := Tryz.underlying116
  a72 := Tryz.isAgg116
  z72 := Tryz.sizeOf116
  v72 := Tryz.zeroValue116
  t164 := Tryz.underlying174
  a164 := Tryz.isAgg174
  z164 := Tryz.sizeOf174
  v164 := Tryz.zeroValue174 }
theorem bLays167 : Go.Proofs.Lays.n167 Tryz.prog bRen := {
  mixed := by kernel_rfl
  f167 := Tryz.func109.trans (congrArg some (by kernel_rfl))
  f240 := Tryz.func128.trans (congrArg some (by kernel_rfl))
  f276 := Tryz.func155.trans (congrArg some (by kernel_rfl))
  t0 := Tryz.underlying0
  a0 := Tryz.isAgg0
  z0 := Tryz.sizeOf0
  v0 := Tryz.zeroValue0
  t4 := Tryz.underlying4
  a4 := Tryz.isAgg4
  z4 := Tryz.sizeOf4
  v4 := Tryz.zeroValue4
  t5 := Tryz.underlying5
  a5 := Tryz.isAgg5
  z5 := Tryz.sizeOf5
  v5 := Tryz.zeroValue5
  t9 := Tryz.underlying9
  a9 := Tryz.isAgg9
  z9 := Tryz.sizeOf9
  v9 := Tryz.zeroValue9
  t20 := Tryz.underlying20
  a20 := Tryz.isAgg20
  z20 := Tryz.sizeOf20
  v20 := Tryz.zeroValue20
  t37 := Tryz.underlying114
  a37 := Tryz.isAgg114
  z37 := Tryz.sizeOf114
  v37 := Tryz.zeroValue114
  t70 := Tryz.underlying113
  a70 := Tryz.isAgg113
  z70 := Tryz.sizeOf113
  v70 := Tryz.zeroValue113
  t72 := Tryz.underlying116
  a72 := Tryz.isAgg116
  z72 := Tryz.sizeOf116
  v72 := Tryz.zeroValue116
  t75 := Tryz.underlying131
  a75 := Tryz.isAgg131
  z75 := Tryz.sizeOf131
  v75 := Tryz.zeroValue131
  t164 := Tryz.underlying174
  a164 := Tryz.isAgg174
  z164 := Tryz.sizeOf174
  v164 := Tryz.zeroValue174 }
theorem bLays169 : Go.Proofs.Lays.n169 Tryz.prog bRen := {
  mixed := by kernel_rfl
  f169 := Tryz.func85.trans (congrArg some (by kernel_rfl))
  t0 := Tryz.underlying0
  a0 := Tryz.isAgg0
  z0 := Tryz.sizeOf0
  v0 := Tryz.zeroValue0
  t3 := Tryz.underlying3
  a3 := Tryz.isAgg3
  z3 := Tryz.sizeOf3
  v3 := Tryz.zeroValue3
  t9 := Tryz.underlying9
  a9 := Tryz.isAgg9
  z9 := Tryz.sizeOf9
  v9 := Tryz.zeroValue9
  t37 := Tryz.underlying114
  a37 := Tryz.isAgg114
  z37 := Tryz.sizeOf114
  v37 := Tryz.zeroValue114
  t70 := Tryz.underlying113
  a70 := Tryz.isAgg113
  z70 := Tryz.sizeOf113
  v70 := Tryz.zeroValue113
  t72 := Tryz.underlying116
  a72 := Tryz.isAgg116
  z72 := Tryz.sizeOf116
  v72 := Tryz.zeroValue116
  t127 := Tryz.underlying133
  a127 := Tryz.isAgg133
  z127 := Tryz.sizeOf133
  v127 := Tryz.zeroValue133 }
theorem bExtra : Builder.Extra Tryz.prog bRen := {
  sizeBuilder := by kernel_rfl
  liesBuilder := by kernel_rfl
  t5 := Tryz.underlying5
  a5 := Tryz.isAgg5
  z5 := Tryz.sizeOf5
  v5 := Tryz.zeroValue5
  infoByte := by kernel_rfl
  cellsByte := by kernel_rfl
  sizeByte := by kernel_rfl
  neB5 := by decide }
theorem writeByte_k (B b : Nat) (bs : List Value) (c : Int) (w : World) (h : Lib.IsBuilderF 116 5 B b bs w) (hlen : bs.length + 1 ≤ 140737488355328) (hBw : B ≤ w.heap.size) :
    Calls Tryz.prog 109 #[.pointer (some ⟨b, 0, none⟩), .int .u8 c] w fun e w' => e = .returned .nilIface ∧ (Lib.BuilderAtF 116 5 B b (.pointer (some ⟨b, 0, none⟩)) (bs ++ [.int .u8 c]) w' ∧ Below B w w' ∧ Lib.OthersKept 5 (some b) w w') :=
  Any.Builder_WriteByte_k bLays167 bExtra B b bs c w h hlen hBw
theorem string_k (B b : Nat) (l : List UInt8) (w : World) (h : Lib.IsBuilderF 116 5 B b (Lib.byteCells l) w) (hBw : B ≤ w.heap.size) :
    Calls Tryz.prog 85 #[.pointer (some ⟨b, 0, none⟩)] w fun e w' => e = .returned (.string ⟨l.toArray⟩) ∧ (Lib.IsBuilderF 116 5 B b (Lib.byteCells l) w' ∧ Below B w w' ∧ Lib.OthersKept 5 (some b) w w') :=
  Any.Builder_String_any_k bLays169 bExtra B b l w h hBw
end Go.Proofs.YtlkpinlkbikokabGreat
/- Contracts of the program's FormatNumber. -/
namespace Go.Proofs.YtlkpinlkbikokabGreat
set_option linter.unusedVariables false
open Go.RowKit
theorem byteCells_one (x : UInt8) : Lib.byteCells [x] = [.int .u8 (x.toNat : Int)] := rfl
theorem bytes_more {T e : TypeId} {B b : Nat} {p : Value} {bs : List UInt8} {c : Int} {w : World} (h0 : 0 ≤ c) (h1 : c ≤ 255) (h : Lib.BuilderAtF T e B b p (Lib.byteCells bs ++ [.int .u8 c]) w) : Lib.BuilderAtF T e B b p (Lib.byteCells (bs ++ [UInt8.ofNat c.toNat])) w := by
  rw [Lib.byteCells_append, byteCells_one, show ((UInt8.ofNat c.toNat).toNat : Int) = c from by simp; omega]
  exact h
set_option maxHeartbeats 400000 in
theorem writeDigits_any (k : Nat) (hk50 : k ≤ 50) : ∀ (n : Int) (B b : Nat) (bs : List UInt8) (w : World), 0 ≤ n → n ≤ 18446744073709551615 → n.natAbs < 10 ^ (k + 1) →
    Lib.IsBuilderF 116 5 B b (Lib.byteCells bs) w → bs.length ≤ 1000 → B ≤ w.heap.size →
    Calls Tryz.prog 113 #[.pointer (some ⟨b, 0, none⟩), .int .u64 n] w fun e w' => e = .returned (.tuple #[]) ∧ Lib.IsBuilderF 116 5 B b (Lib.byteCells (bs ++ digs (k + 1) n.natAbs)) w' ∧ Below B w w' ∧ Lib.OthersKept 5 (some b) w w' := by
  induction k with
  | zero =>
    intro n B b bs w h0 h1 hn hI hl hB
    have HW := Lib.hid (writeByte_k B b (Lib.byteCells bs) (48 + n % 10) w hI (by rw [Lib.byteCells_length]; omega) hB)
    have h9 : n < 10 := by omega
    have HD := Lib.hid (digs_small 0 n.natAbs (by omega))
    clear hn hI hB
    go_enter Tryz.func113, Tryz.ntmps113
    go_wp2_with (go_at_call 109; refine (HW.out).mono ?_; rintro e w1 ⟨rfl, hb, hlo, hk⟩)
    go_end0
    refine ⟨rfl, Or.inr ?_, hlo, hk⟩
    rw [HD.out]
    have := bytes_more (by omega) (by omega) hb
    rwa [show (48 + n % 10).toNat = 48 + n.natAbs from by omega] at this
  | succ k ih =>
    intro n B b bs w h0 h1 hn hI hl hB
    by_cases h9 : n < 10
    · have HW := Lib.hid (writeByte_k B b (Lib.byteCells bs) (48 + n % 10) w hI (by rw [Lib.byteCells_length]; omega) hB)
      have HD := Lib.hid (digs_small (k + 1) n.natAbs (by omega))
      clear hn hI hB ih
      go_enter Tryz.func113, Tryz.ntmps113
      go_wp2_with (go_at_call 109; refine (HW.out).mono ?_; rintro e w1 ⟨rfl, hb, hlo, hk⟩)
      go_end0
      refine ⟨rfl, Or.inr ?_, hlo, hk⟩
      rw [HD.out]
      have := bytes_more (by omega) (by omega) hb
      rwa [show (48 + n % 10).toNat = 48 + n.natAbs from by omega] at this
    · have HD := Lib.hid (digs_big (k + 1) n.natAbs (by omega))
      have hdl := digs_len (k + 1) (n / 10).natAbs
      have IH := Lib.hid (ih (by omega) (n / 10) B b bs w (by omega) (by omega) (by rw [Nat.pow_succ] at hn; omega) hI hl hB)
      clear hn hI ih
      have hB' := Lib.hid hB
      clear hB
      go_enter Tryz.func113, Tryz.ntmps113
      go_wp2_with (go_at_call 113; refine (IH.out).mono ?_; rintro e w1 ⟨rfl, hb, hlo, hk⟩)
      have HW := Lib.hid (writeByte_k B b (Lib.byteCells (bs ++ digs (k + 1) (n / 10).natAbs)) (48 + n % 10) w1 hb (by rw [Lib.byteCells_length]; simp; omega) (Nat.le_trans hB'.out hlo.size))
      go_wp2_with (go_at_call 109; refine (HW.out).mono ?_; rintro e w2 ⟨rfl, hb2, hlo2, hk2⟩)
      go_end0
      refine ⟨rfl, Or.inr ?_, hlo.trans hlo2, hk.trans hk2⟩
      rw [HD.out, ← List.append_assoc]
      have := bytes_more (by omega) (by omega) hb2
      rwa [show (48 + n % 10).toNat = 48 + n.natAbs % 10 from by omega, show (n / 10).natAbs = n.natAbs / 10 from by omega] at this
theorem wrap_neg (n : Int) (h : -9223372036854775808 ≤ n) (h' : n < 0) : IntKind.u64.wrap (-IntKind.u64.wrap n) = -n := by
  simp only [IntKind.wrap, IntKind.bits, IntKind.signed]; simp; omega
set_option maxHeartbeats 400000 in
theorem implFormat_any (n : Int) (w : World) (h0 : -9223372036854775808 ≤ n) (h1 : n ≤ 9223372036854775807) :
    Calls Tryz.prog 91 #[.int .i64 n] w fun e w' => e = .returned (.string ⟨(numL n).toArray⟩) ∧ Below w.heap.size w w' := by
  by_cases hn : 0 ≤ n
  · have HE := Lib.hid (show numL n = digs (19 + 1) n.natAbs from by simp [numL, show ¬ n < 0 from by omega])
    have hl0 : numL n = numL n := rfl
    have hf := Lib.fresh_isBuilder 116 5 w
    have HW := Lib.hid (writeDigits_any 19 (by omega) n w.heap.size w.heap.size [] (w.alloc (.cells #[.pointer none, .slice none 0 0] 116)) hn (by omega) (by omega) (Lib.IsBuilderF.of hf) (by simp) (by simp))
    clear hl0 hf h0
    go_enter Tryz.func91, Tryz.ntmps91
    go_wp2_with (go_at_call 113; refine (HW.out).mono ?_; rintro e w1 ⟨rfl, hb, hlo, hk⟩)
    have HS := Lib.hid (string_k w.heap.size w.heap.size ([] ++ digs (19 + 1) n.natAbs) w1 hb (by have := hlo.size; simp at this; omega))
    go_wp2_with (go_at_call 85; refine (HS.out).mono ?_; rintro e w2 ⟨rfl, hb2, hlo2, hk2⟩)
    go_ret
    exact ⟨ret_str (by rw [HE.out]; try rfl), (((Below.refl _ _).alloc (Nat.le_refl _) _).trans hlo).trans hlo2⟩
  · have HE := Lib.hid (show numL n = 45 :: digs (19 + 1) n.natAbs from by simp [numL, show n < 0 from by omega])
    have h2 : n < 0 := by omega
    have hf := Lib.fresh_isBuilder 116 5 w
    have HW := Lib.hid (writeByte_k w.heap.size w.heap.size (Lib.byteCells []) 45 (w.alloc (.cells #[.pointer none, .slice none 0 0] 116)) (Lib.IsBuilderF.of hf) (by simp [Lib.byteCells]) (by simp))
    clear hf hn
    have WN := Lib.hid (wrap_neg n h0 h2)
    go_enter Tryz.func91, Tryz.ntmps91
    go_wp2_with (go_at_call 109; refine (HW.out).mono ?_; rintro e w1 ⟨rfl, hb, hlo, hk⟩)
    have hz : w.heap.size ≤ w1.heap.size := by have := hlo.size; simp at this; omega
    have HZ := Lib.hid hz
    have HV := Lib.hid (writeDigits_any 19 (by omega) (-n) w.heap.size w.heap.size [45] w1 (by omega) (by omega) (by omega) (Or.inr hb) (by simp) hz)
    clear hz hb
    rw [WN.out]
    refine (HV.out).mono ?_
    rintro e w2 ⟨rfl, hb2, hlo2, hk2⟩
    have HS := Lib.hid (string_k w.heap.size w.heap.size ([45] ++ digs (19 + 1) (-n).natAbs) w2 hb2 (by have := hlo2.size; have := HZ.out; omega))
    clear hb2
    go_wp2_with (go_at_call 85; refine (HS.out).mono ?_; rintro e w3 ⟨rfl, hb3, hlo3, hk3⟩)
    go_ret
    exact ⟨ret_str (by rw [HE.out]; try simp), ((((Below.refl _ _).alloc (Nat.le_refl _) _).trans hlo).trans hlo2).trans hlo3⟩
end Go.Proofs.YtlkpinlkbikokabGreat
/- JoinWith, the model's and the program's; the program's writeText and copyText. -/
namespace Go.Proofs.YtlkpinlkbikokabGreat
set_option linter.unusedVariables false
open Go.RowKit
/-- the first k texts with sep between them -/
def joinK (x : List (List UInt8)) (sep : List UInt8) : Nat → List UInt8
  | 0 => []
  | k + 1 => joinK x sep k ++ (if 0 < k then sep else []) ++ x.getD k []
def joinL (x : List (List UInt8)) (sep : List UInt8) : List UInt8 := joinK x sep x.length
theorem strEq {s : ByteArray} {l : List UInt8} (h : s.data.toList = l) : Value.string s = .string ⟨l.toArray⟩ := by subst h; simp
theorem joinK_mono (x : List (List UInt8)) (sep : List UInt8) (k m : Nat) (h : k ≤ m) : (joinK x sep k).length ≤ (joinK x sep m).length := by
  induction m with
  | zero => rw [show k = 0 from by omega]; exact Nat.le_refl _
  | succ m ih =>
    rcases Nat.lt_or_ge m k with h1 | h1
    · rw [show k = m + 1 from by omega]; exact Nat.le_refl _
    · have := ih h1; simp only [joinK, List.length_append]; omega
theorem joinK_len (x : List (List UInt8)) (sep : List UInt8) (k : Nat) (h : k ≤ x.length) : (joinK x sep k).length ≤ k * sep.length + total (x.take k) := by
  induction k with
  | zero => simp [joinK]
  | succ k ih =>
    have h1 := ih (by omega)
    have h2 := total_take_succ x k (by omega)
    have h3 : x.getD k [] = x[k] := by simp [List.getD, List.getElem?_eq_getElem (show k < x.length by omega)]
    simp only [joinK, List.length_append, h3, h2, Nat.succ_mul]
    split <;> simp <;> omega
set_option maxHeartbeats 400000 in
theorem writeText_any (B b : Nat) (bs : List UInt8) (s : ByteArray) (w : World) (hI : Lib.IsBuilderF 116 5 B b (Lib.byteCells bs) w) (hl : bs.length + s.size ≤ 140737488355328) (hB : B ≤ w.heap.size) :
    Calls Tryz.prog 84 #[.pointer (some ⟨b, 0, none⟩), .string s] w fun e w' => e = .returned (.tuple #[]) ∧ Lib.IsBuilderF 116 5 B b (Lib.byteCells (bs ++ s.data.toList)) w' ∧ Below B w w' ∧ Lib.OthersKept 5 (some b) w w' := by
  have HI := Lib.hid hI
  have HB := Lib.hid hB
  clear hI hB
  go_enter Tryz.func84, Tryz.ntmps84
  go_wp2_with fail
  go_loopw [4, 7] (fun _ i wr => ∃ k : Nat, k ≤ s.size ∧ i = .int .i64 k ∧ Lib.IsBuilderF 116 5 B b (Lib.byteCells (bs ++ s.data.toList.take k)) wr ∧ Below B w wr ∧ Lib.OthersKept 5 (some b) w wr) (fun _ i _ => s.size - (intOf i).toNat)
  case atStart => exact ⟨0, Nat.zero_le _, rfl, by simpa using HI.out, Below.refl _ _, Lib.OthersKept.refl _ _ _⟩
  case round =>
    obtain ⟨k, hk, rfl, hI, hb, ho⟩ := hrel
    have HI2 := Lib.hid hI
    have HB2 := Lib.hid hb
    have HO2 := Lib.hid ho
    clear hI hb ho
    by_cases hlt : k < s.size
    · have hu := (s[k]).toNat_lt
      have HN := Lib.hid (take_snoc s k hlt)
      go_wp2_with fail
      refine (writeByte_k B b (Lib.byteCells (bs ++ s.data.toList.take k)) _ wr HI2.out (by rw [Lib.byteCells_length]; simp; omega) (Nat.le_trans HB.out HB2.out.size)).mono ?_
      rintro e w1 ⟨rfl, h1, b1, o1⟩
      have H1 := Lib.hid (bytes_more (by omega) (by omega) h1)
      have B1 := Lib.hid (HB2.out.trans b1)
      have O1 := Lib.hid (HO2.out.trans o1)
      clear h1 b1 o1
      go_wp2_with fail
      refine ⟨⟨k + 1, by omega, by go_num, Or.inr ?_, B1.out, O1.out⟩, by simp [intOf]; omega⟩
      have h := H1.out
      rw [HN.out, ← List.append_assoc]
      simpa using h
    · have HN := Lib.hid (show s.data.toList.take k = s.data.toList from List.take_of_length_le (by rw [size_list]; omega))
      go_wp2_with fail
      go_end0
      exact ⟨rfl, by have h := HI2.out; rw [HN.out] at h; exact h, HB2.out, HO2.out⟩
set_option maxHeartbeats 400000 in
theorem copyText_any (s : ByteArray) (w : World) (hl : s.size ≤ 140737488355328) :
    Calls Tryz.prog 49 #[.string s] w fun e w' => e = .returned (.string s) ∧ Below w.heap.size w w' := by
  have hf := Lib.fresh_isBuilder 116 5 w
  have HW := Lib.hid (writeText_any w.heap.size w.heap.size [] s (w.alloc (.cells #[.pointer none, .slice none 0 0] 116)) (Lib.IsBuilderF.of hf) (by simpa using hl) (by simp))
  clear hf
  go_enter Tryz.func49, Tryz.ntmps49
  go_wp2_with fail
  refine HW.out.mono ?_
  rintro e w1 ⟨rfl, h1, b1, o1⟩
  have HS := Lib.hid (string_k w.heap.size w.heap.size ([] ++ s.data.toList) w1 h1 (by have := b1.size; simp at this; omega))
  have B1 := Lib.hid (((Below.refl w.heap.size w).alloc (Nat.le_refl _) _).trans b1)
  clear h1 b1 o1
  go_wp2_with fail
  refine HS.out.mono ?_
  rintro e w2 ⟨rfl, h2, b2, o2⟩
  go_wp2_with fail
  go_ret
  exact ⟨by simp, B1.out.trans b2⟩
set_option maxHeartbeats 400000 in
theorem specJoin_any (v : Value) (x : List (List UInt8)) (sep : ByteArray) (w : World) (hR : RowAt w v (x.map strV)) (hm : (joinL x sep.data.toList).length ≤ 70368744177664) (hsep : sep.size ≤ 70368744177664) :
    Calls Tryz.prog 58 #[v, .string sep] w fun e w' => e = .returned (.string ⟨(joinL x sep.data.toList).toArray⟩) ∧ Below w.heap.size w w' := by
  obtain ⟨a, c, rfl, hl⟩ := rowAt_len hR
  rw [List.length_map] at *
  have HR := Lib.hid hR
  have HM := Lib.hid (fun k hk => Nat.le_trans (joinK_mono x sep.data.toList k x.length hk) hm)
  clear hR hm
  unfold maxLen at hl
  go_enter Tryz.func58, Tryz.ntmps58
  go_wp2_with fail
  go_loopw [5, 6, 7, 10] (fun sv _ _ i wr => ∃ k : Nat, k ≤ x.length ∧ i = .int .i64 k ∧ sv = .string ⟨(joinK x sep.data.toList k).toArray⟩ ∧ ∃ nq, wr = w.drewN nq) (fun _ _ _ i _ => x.length - (intOf i).toNat)
  case atStart => exact ⟨0, Nat.zero_le _, rfl, rfl, 0, rfl⟩
  case round =>
    obtain ⟨k, hk, rfl, rfl, nq, rfl⟩ := hrel
    have hmk := HM.out k hk
    by_cases hlt : k < x.length
    · obtain ⟨b, o, rfl, hbw, d1⟩ := rowAt_cell HR.out k (by simpa using hlt)
      rw [getElem_map_strV] at d1
      unfold strV at d1
      have hmk1 := HM.out (k + 1) (by omega)
      have HX := Lib.hid (show x.getD k [] = x[k] by simp [List.getD, List.getElem?_eq_getElem hlt])
      have hxl : (joinK x sep.data.toList k).length + (x[k]).length ≤ 70368744177664 := by
        simp only [joinK, List.length_append, HX.out] at hmk1; omega
      clear hmk1
      by_cases h0 : 0 < k
      · go_wp2_with fail
        exact ⟨⟨k + 1, by omega, by go_num, strEq (by rw [data_app, data_app]; simp only [joinK, if_pos h0, HX.out]), _, rfl⟩, by simp [intOf]; omega⟩
      · go_wp2_with fail
        exact ⟨⟨k + 1, by omega, by go_num, strEq (by rw [data_app]; simp only [joinK, if_neg h0, HX.out, List.append_nil]), _, rfl⟩, by simp [intOf]; omega⟩
    · have HN := Lib.hid (show k = x.length by omega)
      go_wp2_with fail
      go_ret
      exact ⟨ret_str (by rw [HN.out]; rfl), below_drewN (Below.refl _ _) _⟩
set_option maxHeartbeats 800000 in
theorem implJoin_any (v : Value) (x : List (List UInt8)) (sep : ByteArray) (w : World) (hR : RowAt w v (x.map strV)) (hm : (joinL x sep.data.toList).length ≤ 70368744177664) (hsep : sep.size ≤ 70368744177664) :
    Calls Tryz.prog 62 #[v, .string sep] w fun e w' => e = .returned (.string ⟨(joinL x sep.data.toList).toArray⟩) ∧ Below w.heap.size w w' := by
  obtain ⟨a, c, rfl, hl⟩ := rowAt_len hR
  rw [List.length_map] at *
  have HR := Lib.hid hR
  have HM := Lib.hid (fun k hk => Nat.le_trans (joinK_mono x sep.data.toList k x.length hk) hm)
  have HF := Lib.hid (Lib.fresh_isBuilder 116 5 w)
  clear hR hm
  unfold maxLen at hl
  go_enter Tryz.func62, Tryz.ntmps62
  go_wp2_with fail
  go_loopw [6, 7, 10] (fun _ _ i wr => ∃ k : Nat, k ≤ x.length ∧ i = .int .i64 k ∧ Lib.IsBuilderF 116 5 w.heap.size w.heap.size (Lib.byteCells (joinK x sep.data.toList k)) wr ∧ Below w.heap.size w wr) (fun _ _ i _ => x.length - (intOf i).toNat)
  case atStart => exact ⟨0, Nat.zero_le _, rfl, Lib.IsBuilderF.of HF.out, (Below.refl _ _).alloc (Nat.le_refl _) _⟩
  case round =>
    obtain ⟨k, hk, rfl, hI, hb⟩ := hrel
    have HI := Lib.hid hI
    have HB := Lib.hid hb
    have HRr := Lib.hid (RowAt.below HR.out hb (Nat.le_refl _))
    clear hI hb
    have hmk := HM.out k hk
    by_cases hlt : k < x.length
    · obtain ⟨b, o, rfl, hbw, d1⟩ := rowAt_cell HRr.out k (by simpa using hlt)
      rw [getElem_map_strV] at d1
      unfold strV at d1
      have hmk1 := HM.out (k + 1) (by omega)
      have HX := Lib.hid (show x.getD k [] = x[k] by simp [List.getD, List.getElem?_eq_getElem hlt])
      have hss := size_list sep
      have hxl : (joinK x sep.data.toList k).length + (x[k]).length + (if 0 < k then sep.size else 0) ≤ 70368744177664 := by
        simp only [joinK, List.length_append, HX.out] at hmk1; split <;> rename_i h <;> simp [h] at hmk1 <;> omega
      have HSS := Lib.hid hss
      clear hmk1 hss
      by_cases h0 : 0 < k
      · simp only [if_pos h0] at hxl
        go_wp2_with fail
        refine (writeText_any w.heap.size w.heap.size _ sep wr HI.out (by omega) HB.out.size).mono ?_
        rintro e w1 ⟨rfl, hI1, hb1, ho1⟩
        have HI1 := Lib.hid hI1
        have HB1 := Lib.hid (HB.out.trans hb1)
        clear hI1 hb1 ho1
        go_wp2_with fail
        refine (writeText_any w.heap.size w.heap.size _ ⟨(x[k]).toArray⟩ w1 HI1.out (by have := HSS.out; simp [size_strB]; omega) HB1.out.size).mono ?_
        rintro e w2 ⟨rfl, hI2, hb2, ho2⟩
        have HI2 := Lib.hid hI2
        have HB2 := Lib.hid (HB1.out.trans hb2)
        clear hI2 hb2 ho2
        go_wp2_with fail
        refine ⟨⟨k + 1, by omega, by go_num, ?_, HB2.out⟩, by simp [intOf]; omega⟩
        have h := HI2.out
        simp only [joinK, if_pos h0, HX.out]
        exact h
      · simp only [if_neg h0] at hxl
        go_wp2_with fail
        refine (writeText_any w.heap.size w.heap.size _ ⟨(x[k]).toArray⟩ wr HI.out (by simp [size_strB]; omega) HB.out.size).mono ?_
        rintro e w2 ⟨rfl, hI2, hb2, ho2⟩
        have HI2 := Lib.hid hI2
        have HB2 := Lib.hid (HB.out.trans hb2)
        clear hI2 hb2 ho2
        go_wp2_with fail
        refine ⟨⟨k + 1, by omega, by go_num, ?_, HB2.out⟩, by simp [intOf]; omega⟩
        have h := HI2.out
        simp only [joinK, if_neg h0, HX.out, List.append_nil]
        exact h
    · have HN := Lib.hid (show k = x.length by omega)
      go_wp2_with fail
      refine (string_k w.heap.size w.heap.size _ wr HI.out HB.out.size).mono ?_
      rintro e w2 ⟨rfl, h2, b2, o2⟩
      have HB2 := Lib.hid (HB.out.trans b2)
      clear h2 b2 o2
      go_wp2_with fail
      go_ret
      exact ⟨ret_str (by rw [HN.out]; rfl), HB2.out⟩
end Go.Proofs.YtlkpinlkbikokabGreat
/- copyCore: new cells, new texts. -/
namespace Go.Proofs.YtlkpinlkbikokabGreat
set_option linter.unusedVariables false
set_option linter.unusedSimpArgs false
open Go.RowKit
/-- append of one cell to a row of one's own, at a step of a region that draws -/
theorem step_cells {ops : Array Oper} {o : Oper} {a : Act} {K : Act → World → Prop} {Q : Exit → Act → World → Prop} {E : Prop} (hgd : o.guard = none) (s x : Operand)
    (ho : o.op = .call { callee := .builtin .append, args := #[s, x], argTypes := #[98, 98] }) (B : Nat) (v : Value) (l : List CellD) (y : CellD) (w : World) (blk : Nat)
    (hs : a.eval s = v) (hO : OwnsF cCell 194 2 w B v l) (hx : a.eval x = .slice (some ⟨blk, 0, none⟩) 1 1) (hc : ∀ j, j < 2 → w.cell? ⟨blk, j, none⟩ = (cCell y)[j]?) (hl : l.length ≤ 4194304) (hB : B ≤ w.heap.size)
    (h : ∀ v' w', OwnsF cCell 194 2 w' B v' (l ++ [y]) → w.grownBy w' v.ownBlock → K (a.put o.dst v') w') : if Region.wanted o (yielded ops a.tmps) = true then Oper.wp Tryz.prog o a w K Q else E := by
  obtain ⟨i0, hi, hz0, hz1, hz2⟩ := info_parts cell_info
  refine step_append_lies w hgd s x 98 ho B 194 i0 _ 2 24 Tryz.underlying98 hi hz0 hz1 hz2 rfl (by decide) v l.length (l.flatMap cCell) hs hO ⟨blk, 0, none⟩ 1 1 (cCell y) hx rfl ?_ (cCell_one y) (by decide) (by unfold maxLen; omega) (by omega) hB _ rfl ?_
  · intro j u hj
    have hj2 : j < 2 := (List.getElem?_eq_some_iff.1 hj).1
    rw [Addr.add_lit, Nat.zero_add, hc j hj2]; exact hj
  · intro g cap w' h1 h2 _ _
    refine h _ w' ?_ h2
    unfold OwnsF; rw [List.flatMap_append, List.length_append]; simpa using h1
theorem ownsF_drew {α : Type} {f : α → List Value} {E k : Nat} {w : World} {B : Nat} {v : Value} {l : List α} (h : OwnsF f E k w B v l) : OwnsF f E k w.drew B v l := h
set_option maxRecDepth 100000 in
set_option maxHeartbeats 3200000 in
theorem copyCore_c (v : Value) (d : CoreD) (w : World) (hx : CoreAt w v d) (hm : d.fCells.length ≤ 2097152) (hs : ∀ c ∈ d.fCells, c.fKey.length ≤ 1048576) (hk : d.fKind.length ≤ 1048576) :
    Calls Tryz.prog 163 #[v] w fun e w' => GivesCore d w e w' := by
  obtain ⟨cv, rfl, hx⟩ := hx
  obtain ⟨i0, hi, hz0, hz1, hz2⟩ := info_parts cell_info
  obtain ⟨kd, on, br, l, cnt⟩ := d
  unfold vCore
  simp only at *
  obtain ⟨a, c, rfl, hl⟩ := flatAt_len hx
  have HX := Lib.hid hx
  have HS := Lib.hid hs
  clear hx hs
  unfold maxLen at hl
  have HB0 := Lib.hid (show ∀ o1 o2, Below w.heap.size w ((w.alloc o1).alloc o2) from fun o1 o2 => ((Below.refl _ _).alloc (Nat.le_refl _) _).alloc (by simp) _)
  have HKD := Lib.hid (fun W => copyText_any ⟨kd.toArray⟩ W (by rw [← size_list]; simp; omega))
  have hb2 : i0.bytes * l.length ≤ 281474976710656 := by rw [hz2]; omega
  have HB2 := Lib.hid hb2
  have HM := Lib.hid (show l.length ≤ maxLen from by unfold maxLen; omega)
  clear hb2
  go_enter Tryz.func163, Tryz.ntmps163
  go_wp2_with (refine wpList_make_own _ rfl _ _ 98 rfl (w.heap.size + 1 + 1) 194 i0 _ 2 Tryz.underlying98 hi hz0 hz1 .i64 .i64 _ l.length rfl rfl rfl HB2.out HM.out (by simp) ?_; intro w1 hown1 hgrow1; have q0 : w1.cell? ⟨w.heap.size, 0, none⟩ = some (.string ⟨kd.toArray⟩) := hgrow1.cell (a := ⟨w.heap.size, 0, none⟩) (by simp [go_sem]) (by simp); have q1 : w1.cell? ⟨w.heap.size, 1, none⟩ = some (.bool on) := hgrow1.cell (a := ⟨w.heap.size, 1, none⟩) (by simp [go_sem]) (by simp); have q2 : w1.cell? ⟨w.heap.size, 2, none⟩ = some (.bool br) := hgrow1.cell (a := ⟨w.heap.size, 2, none⟩) (by simp [go_sem]) (by simp); have q3 : w1.cell? ⟨w.heap.size, 3, none⟩ = some (.slice a l.length c) := hgrow1.cell (a := ⟨w.heap.size, 3, none⟩) (by simp [go_sem]) (by simp); have q4 : w1.cell? ⟨w.heap.size, 4, none⟩ = some (.int .i64 cnt) := hgrow1.cell (a := ⟨w.heap.size, 4, none⟩) (by simp [go_sem]) (by simp); have r0 : w1.cell? ⟨w.heap.size + 1, 0, none⟩ = some (.string ⟨#[]⟩) := hgrow1.cell (a := ⟨w.heap.size + 1, 0, none⟩) (by simp [go_sem]) (by simp); have r1 : w1.cell? ⟨w.heap.size + 1, 1, none⟩ = some (.bool false) := hgrow1.cell (a := ⟨w.heap.size + 1, 1, none⟩) (by simp [go_sem]) (by simp); have r2 : w1.cell? ⟨w.heap.size + 1, 2, none⟩ = some (.bool false) := hgrow1.cell (a := ⟨w.heap.size + 1, 2, none⟩) (by simp [go_sem]) (by simp); have r3 : w1.cell? ⟨w.heap.size + 1, 3, none⟩ = some (.slice none 0 0) := hgrow1.cell (a := ⟨w.heap.size + 1, 3, none⟩) (by simp [go_sem]) (by simp); have r4 : w1.cell? ⟨w.heap.size + 1, 4, none⟩ = some (.int .i64 0) := hgrow1.cell (a := ⟨w.heap.size + 1, 4, none⟩) (by simp [go_sem]) (by simp))
  have HO0 := Lib.hid (show OwnsF cCell 194 2 w1 (w.heap.size + 1 + 1) (.slice (some ⟨w.heap.size + 1 + 1, 0, none⟩) 0 l.length) (l.take 0) from by simpa [OwnsF] using hown1)
  have HW1 := Lib.hid (show Below w.heap.size w w1 from (HB0.out _ _).trans ⟨hgrow1.os, hgrow1.tape, hgrow1.output, hgrow1.size, fun i hi => hgrow1.block i (by simp; omega) (by simp)⟩)
  have HS1 := Lib.hid (show w.heap.size + 1 + 1 ≤ w1.heap.size from by simpa using hgrow1.size)
  have HQ := Lib.hid (And.intro q0 (And.intro q1 (And.intro q2 (And.intro q3 q4))))
  have HR := Lib.hid (And.intro r0 (And.intro r1 (And.intro r2 (And.intro r3 r4))))
  have HZ := Lib.hid (show ∀ i o, i < w.heap.size + 1 + 1 → w.heap.size ≤ i → w1.frozen? ⟨i, o, none⟩ = false from fun i o h1 h2 => by
    rw [World.frozen?_of_block (a := ⟨i, o, none⟩) (hgrow1.block i (by simpa using h1) (by simp))]
    rcases (show i = w.heap.size ∨ i = w.heap.size + 1 by omega) with rfl | rfl <;> simp [go_sem])
  clear hown1 hgrow1 hz0 hz1 hz2 HB2 hi r0 r1 r2 r3 r4
  go_loopw [3, 5, 13] (fun u _ i wr => ∃ k : Nat, k ≤ l.length ∧ i = .int .i64 k ∧ OwnsF cCell 194 2 wr (w.heap.size + 1 + 1) u (l.take k) ∧ Below (w.heap.size + 1 + 1) w1 wr) (fun _ _ i _ => l.length - (intOf i).toNat)
  case atStart => exact ⟨0, Nat.zero_le _, rfl, HO0.out, Below.refl _ _⟩
  case round =>
    obtain ⟨k, hk2, rfl, hO, hb⟩ := hrel
    have HO := Lib.hid hO
    have HB := Lib.hid hb
    have HBw := Lib.hid (show Below w.heap.size w wr from HW1.out.trans (hb.mono (by omega)))
    have HXr := Lib.hid (FlatAt.below HX.out HBw.out (Nat.le_refl _))
    have HLT := Lib.hid (show ∀ g, u3.ownBlock = some g → g < wr.heap.size from fun g h => (World.ownsRow.lt hO g h).2)
    have HSZ := Lib.hid (Nat.le_trans HS1.out hb.size)
    clear hO hb
    by_cases hlt : k < l.length
    · obtain ⟨b, o, rfl, hbl, hd⟩ := flatAt_cell cCell_len HXr.out k hlt (by decide)
      have d0 := hd 0 (by decide)
      have d1 := hd 1 (by decide)
      clear hd
      have HSN := Lib.hid (show l.take (k + 1) = l.take k ++ [l[k]] from by rw [List.take_succ_eq_append_getElem hlt])
      have hks := HS.out l[k] (List.getElem_mem hlt)
      generalize l[k] = p at *
      obtain ⟨a0, a1⟩ := p
      simp only [cCell, List.getElem?_cons_zero, List.getElem?_cons_succ, Nat.add_zero] at d0 d1 hks
      have HCT := Lib.hid (fun W => copyText_any ⟨a0.toArray⟩ W (by rw [← size_list]; simp; omega))
      clear hks
      go_wp2_with fail
      go_region_held3 (fun w' => w'.cell? ⟨wr.heap.size, 0, none⟩ = some (.string ⟨a0.toArray⟩) ∧ w'.cell? ⟨wr.heap.size, 1, none⟩ = some (.int .i64 a1))
        (first
          | go_keep
          | (rw [hb1.cell (p := ⟨wr.heap.size, 0, none⟩) (by simp), hb1.cell (p := ⟨wr.heap.size, 1, none⟩) (by simp)]; assumption)
          | (rw [hg1.cell_far ⟨wr.heap.size, 0, none⟩ (by have := hb1.size; simp at *; omega) (by intro e; have := HLT.out _ e.symm; simp at this), hg1.cell_far ⟨wr.heap.size, 1, none⟩ (by have := hb1.size; simp at *; omega) (by intro e; have := HLT.out _ e.symm; simp at this)]; assumption))
        (first
          | (go_at_call 49; (with_reducible refine (HCT.out _).mono ?_); rintro e w2 ⟨rfl, hb1⟩)
          | (refine step_cells rfl _ _ rfl (w.heap.size + 1 + 1) u3 (l.take k) ⟨a0, a1⟩ _ w2.heap.size rfl (ownsF_alloc (ownsF_below (ownsF_drew (ownsF_alloc HO.out _)) hb1 (Nat.le_refl _)) _) rfl (cell_newC w2 ⟨a0, a1⟩ _ rfl) ?_ ?_ ?_; (simp; omega); (have h1 := hb1.size; have h2 := HSZ.out; simp at h1; simp; omega); intro v' w4 hO4 hg1))
      have HA := Lib.hid (((Below.refl wr.heap.size wr).alloc (Nat.le_refl _) (.cells #[.string ⟨a0.toArray⟩, .int .i64 a1] 194)).drew)
      have HA1 := Lib.hid ((HA.out.trans (hb1.mono HA.out.size)).alloc (HA.out.trans (hb1.mono HA.out.size)).size (.cells #[.string ⟨a0.toArray⟩, .int .i64 a1] 194))
      have HA2 := Lib.hid (HB.out.trans (HA1.out.mono (HSZ.out)))
      have HA3 := Lib.hid (below_appendF HA2.out (ownsF_alloc (ownsF_below (ownsF_drew (ownsF_alloc HO.out _)) hb1 (Nat.le_refl _)) _) hg1 (Nat.le_trans HS1.out HA2.out.size))
      have HO4 := Lib.hid hO4
      rename_i hheld
      clear hb1 hg1 hO4 hheld
      go_wp2_with fail
      exact ⟨⟨k + 1, by omega, by go_num, by rw [HSN.out]; exact HO4.out, HA3.out⟩, by simp [intOf]; omega⟩
    · have HOl := Lib.hid (show OwnsF cCell 194 2 wr (w.heap.size + 1 + 1) u3 l from by have h := HO.out; rw [List.take_of_length_le (by omega)] at h; exact h)
      obtain ⟨ua, uc, rfl⟩ : ∃ ua uc, u3 = .slice ua l.length uc := by
        rcases HOl.out.2 with ⟨rfl, hn⟩ | ⟨g, cap, cur, rfl, _⟩
        · exact ⟨none, 0, by rw [hn]⟩
        · exact ⟨_, _, rfl⟩
      obtain ⟨q0, q1, q2, q3, q4⟩ := HQ.out
      obtain ⟨r0, r1, r2, r3, r4⟩ := HR.out
      replace q0 := (HB.out.cell (p := ⟨w.heap.size, 0, none⟩) (by simp; omega)).trans q0
      replace q1 := (HB.out.cell (p := ⟨w.heap.size, 1, none⟩) (by simp; omega)).trans q1
      replace q2 := (HB.out.cell (p := ⟨w.heap.size, 2, none⟩) (by simp; omega)).trans q2
      replace q3 := (HB.out.cell (p := ⟨w.heap.size, 3, none⟩) (by simp; omega)).trans q3
      replace q4 := (HB.out.cell (p := ⟨w.heap.size, 4, none⟩) (by simp; omega)).trans q4
      replace r0 := (HB.out.cell (p := ⟨w.heap.size + 1, 0, none⟩) (by simp)).trans r0
      replace r1 := (HB.out.cell (p := ⟨w.heap.size + 1, 1, none⟩) (by simp)).trans r1
      replace r2 := (HB.out.cell (p := ⟨w.heap.size + 1, 2, none⟩) (by simp)).trans r2
      replace r3 := (HB.out.cell (p := ⟨w.heap.size + 1, 3, none⟩) (by simp)).trans r3
      replace r4 := (HB.out.cell (p := ⟨w.heap.size + 1, 4, none⟩) (by simp)).trans r4
      have z0 : ∀ o, wr.frozen? ⟨w.heap.size, o, none⟩ = false := fun o => (HB.out.frozen (p := ⟨w.heap.size, o, none⟩) (by simp; omega)).trans (HZ.out _ o (by omega) (by omega))
      have z1 : ∀ o, wr.frozen? ⟨w.heap.size + 1, o, none⟩ = false := fun o => (HB.out.frozen (p := ⟨w.heap.size + 1, o, none⟩) (by simp)).trans (HZ.out _ o (by omega) (by omega))
      have hsz := HSZ.out
      have hl0 : w.heap.size < wr.heap.size := by omega
      have hl1 : w.heap.size + 1 < wr.heap.size := by omega
      go_wp2_with fail
      refine (HKD.out _).mono ?_
      rintro e w5 ⟨rfl, hb5⟩
      have HB5 := Lib.hid hb5
      obtain ⟨hcc, hff⟩ := bcell hb5
      clear hb5
      go_wp2_with fail
      refine bodyPost_ret (v := .agg #[.string ⟨kd.toArray⟩, .bool on, .bool br, .slice ua l.length uc, .int .i64 cnt]) (by simp [results, Tryz.results163, go_sem, cell_set_at, cell_set_ne, hcc, q0, q1, q2, q3, q4, r0, r1, r2, r3, r4, hl0, hl1]) rfl ?_
      refine ⟨_, rfl, ⟨_, rfl, ?_⟩, ?_⟩
      · refine ownsF_base (B := w.heap.size + 1 + 1) ?_ (by omega)
        repeat (with_reducible refine ownsF_set ?_ (by simp; try omega))
        exact ownsF_below HOl.out HB5.out (Nat.le_refl _)
      · repeat (with_reducible refine Below.setCell ?_ (by simp; try omega) _)
        exact HBw.out.trans (HB5.out.mono (by omega))
end Go.Proofs.YtlkpinlkbikokabGreat
/- copyPart: a part copied, its rows new. -/
namespace Go.Proofs.YtlkpinlkbikokabGreat
set_option linter.unusedVariables false
set_option linter.unusedSimpArgs false
open Go.RowKit
set_option maxRecDepth 100000 in
set_option maxHeartbeats 3200000 in
theorem copyPart_c (v : Value) (x : PartD) (w : World) (hx : ValAt rPart 0 w v x) (hs : SmallP x) :
    Calls Tryz.prog 146 #[v] w fun e w' => GivesOP x w e w' := by
  obtain ⟨_, rfl, hx⟩ := hx
  obtain ⟨i0, hi, hz0, hz1, hz2⟩ := info_parts infoLay
  obtain ⟨xc, l⟩ := x
  obtain ⟨v3, v5, rfl, h3, h5⟩ := hx
  have HCC := Lib.hid (fun W (hb : Below w.heap.size w W) => copyCore_c (vCore xc v3) xc W ⟨v3, rfl, FlatAt.below (flatAt_of_slice cCell_len (by decide) h3) hb (Nat.le_refl _)⟩ hs.cells hs.keys hs.kind)
  unfold GivesCore OwnsCore at HCC
  have HS := Lib.hid hs.names
  have hm := hs.lays
  simp only at h3 h5 HS hm
  obtain ⟨ra, rc, rfl, _⟩ := sliceAt_len h3
  obtain ⟨sa, sc, rfl, hl⟩ := sliceAt_len h5
  have H5 := Lib.hid h5
  obtain ⟨kd, on, br, cl, cnt⟩ := xc
  unfold vCore at HCC
  simp only at HCC h3 ⊢
  clear h3 h5 hs
  unfold maxLen at hl
  have hb2 : i0.bytes * l.length ≤ 281474976710656 := by rw [hz2]; omega
  have HB2 := Lib.hid hb2
  have HM := Lib.hid (show l.length ≤ maxLen from by unfold maxLen; omega)
  clear hb2
  have BS := Lib.hid (bx_start2 w [.string ⟨kd.toArray⟩, .bool on, .bool br, .slice ra cl.length rc, .int .i64 cnt, .slice sa l.length sc] [.string ⟨#[]⟩, .bool false, .bool false, .slice none 0 0, .int .i64 0, .slice none 0 0] 103 103)
  go_enter Tryz.func146, Tryz.ntmps146
  go_wp2_with (refine wpList_make_own _ rfl _ _ 101 rfl (w.heap.size + 1 + 1) 142 i0 _ 2 Tryz.underlying101 hi hz0 hz1 .i64 .i64 _ l.length rfl rfl rfl HB2.out HM.out (by simp) ?_; intro w1 hown1 hgrow1; have BP := Lib.hid (BS.out.1.grown hgrow1 (by simp)); have BR := Lib.hid (BS.out.2.1.grown hgrow1 (by simp)); have e5 := BP.out.cell 5 (by simp); simp only [List.getElem_cons_zero, List.getElem_cons_succ] at e5)
  have HO0 := Lib.hid (show OwnsF cLayer 142 2 w1 (w.heap.size + 1 + 1) (.slice (some ⟨w.heap.size + 1 + 1, 0, none⟩) 0 l.length) (l.take 0) from by simpa [OwnsF] using hown1)
  have HW1 := Lib.hid (show Below w.heap.size w w1 from BS.out.2.2.trans ⟨hgrow1.os, hgrow1.tape, hgrow1.output, hgrow1.size, fun i hi => hgrow1.block i (by simp; omega) (by simp)⟩)
  have HS1 := Lib.hid (show w.heap.size + 1 + 1 ≤ w1.heap.size from by simpa using hgrow1.size)
  clear hown1 hgrow1 hz0 hz1 hz2 HB2 hi e5
  go_loopw [3, 5, 13] (fun u _ i wr => ∃ k : Nat, k ≤ l.length ∧ i = .int .i64 k ∧ OwnsF cLayer 142 2 wr (w.heap.size + 1 + 1) u (l.take k) ∧ Below (w.heap.size + 1 + 1) w1 wr) (fun _ _ i _ => l.length - (intOf i).toNat)
  case atStart => exact ⟨0, Nat.zero_le _, rfl, HO0.out, Below.refl _ _⟩
  case round =>
    obtain ⟨k, hk2, rfl, hO, hb⟩ := hrel
    have HO := Lib.hid hO
    have HB := Lib.hid hb
    have HBw := Lib.hid (show Below w.heap.size w wr from HW1.out.trans (hb.mono (by omega)))
    have HXr := Lib.hid (SliceAt.below H5.out (good_flat cLayer_len) HBw.out (Nat.le_refl _))
    have HLT := Lib.hid (show ∀ g, u3.ownBlock = some g → g < wr.heap.size from fun g h => (World.ownsRow.lt hO g h).2)
    have HSZ := Lib.hid (Nat.le_trans HS1.out hb.size)
    clear hO hb
    by_cases hlt : k < l.length
    · obtain ⟨b, o, cs, rfl, hbl, hat, hd⟩ := sliceAt_cell HXr.out k hlt
      have HSN := Lib.hid (show l.take (k + 1) = l.take k ++ [l[k]] from by rw [List.take_succ_eq_append_getElem hlt])
      have hks := HS.out l[k] (List.getElem_mem hlt)
      generalize l[k] = p at *
      obtain ⟨a0, a1⟩ := p
      simp only [rFlat, cLayer] at hat
      subst hat
      have d0 := hd 0 (by decide)
      have d1 := hd 1 (by decide)
      simp only [List.getElem?_cons_zero, List.getElem?_cons_succ, Nat.add_zero] at d0 d1 hks
      have HCT := Lib.hid (fun W => copyText_any ⟨a0.toArray⟩ W (by rw [← size_list]; simp; omega))
      clear hks hd
      go_wp2_with fail
      go_region_held3 (fun w' => w'.cell? ⟨wr.heap.size, 0, none⟩ = some (.string ⟨a0.toArray⟩) ∧ w'.cell? ⟨wr.heap.size, 1, none⟩ = some (.int .i64 a1))
        (first
          | go_keep
          | (rw [hb1.cell (p := ⟨wr.heap.size, 0, none⟩) (by simp), hb1.cell (p := ⟨wr.heap.size, 1, none⟩) (by simp)]; assumption)
          | (rw [hg1.cell_far ⟨wr.heap.size, 0, none⟩ (by have := hb1.size; simp at *; omega) (by intro e; have := HLT.out _ e.symm; simp at this), hg1.cell_far ⟨wr.heap.size, 1, none⟩ (by have := hb1.size; simp at *; omega) (by intro e; have := HLT.out _ e.symm; simp at this)]; assumption))
        (first
          | (go_at_call 49; (with_reducible refine (HCT.out _).mono ?_); rintro e w2 ⟨rfl, hb1⟩)
          | (refine step_lays rfl _ _ rfl (w.heap.size + 1 + 1) u3 (l.take k) ⟨a0, a1⟩ _ w2.heap.size rfl (ownsF_alloc (ownsF_below (ownsF_drew (ownsF_alloc HO.out _)) hb1 (Nat.le_refl _)) _) rfl (cell_newL w2 ⟨a0, a1⟩ _ rfl) ?_ ?_ ?_; (simp; omega); (have h1 := hb1.size; have h2 := HSZ.out; simp at h1; simp; omega); intro v' w4 hO4 hg1))
      have HA := Lib.hid (((Below.refl wr.heap.size wr).alloc (Nat.le_refl _) (.cells #[.string ⟨a0.toArray⟩, .int .i64 a1] 142)).drew)
      have HA1 := Lib.hid ((HA.out.trans (hb1.mono HA.out.size)).alloc (HA.out.trans (hb1.mono HA.out.size)).size (.cells #[.string ⟨a0.toArray⟩, .int .i64 a1] 142))
      have HA2 := Lib.hid (HB.out.trans (HA1.out.mono (HSZ.out)))
      have HA3 := Lib.hid (below_appendF HA2.out (ownsF_alloc (ownsF_below (ownsF_drew (ownsF_alloc HO.out _)) hb1 (Nat.le_refl _)) _) hg1 (Nat.le_trans HS1.out HA2.out.size))
      have HO4 := Lib.hid hO4
      rename_i hheld
      clear hb1 hg1 hO4 hheld
      go_wp2_with fail
      exact ⟨⟨k + 1, by omega, by go_num, by rw [HSN.out]; exact HO4.out, HA3.out⟩, by simp [intOf]; omega⟩
    · have HOl := Lib.hid (show OwnsF cLayer 142 2 wr (w.heap.size + 1 + 1) u3 l from by have h := HO.out; rw [List.take_of_length_le (by omega)] at h; exact h)
      obtain ⟨ua, uc, rfl⟩ := slice_of HOl.out
      have hsz := HSZ.out
      have BP2 := Lib.hid (BP.out.belowK HB.out (by omega))
      have BR2 := Lib.hid (BR.out.belowK HB.out (by omega))
      have q0 := BP2.out.cell 0 (by simp)
      have q1 := BP2.out.cell 1 (by simp)
      have q2 := BP2.out.cell 2 (by simp)
      have q3 := BP2.out.cell 3 (by simp)
      have q4 := BP2.out.cell 4 (by simp)
      have q5 := BP2.out.cell 5 (by simp)
      simp only [List.getElem_cons_zero, List.getElem_cons_succ] at q0 q1 q2 q3 q4 q5
      go_wp2_with fail
      refine (HCC.out _ HBw.out).mono ?_
      rintro e w5 ⟨_, rfl, ⟨cv, rfl, ho5⟩, hb5⟩
      obtain ⟨ga, gc, rfl⟩ := slice_of ho5
      have HB5 := Lib.hid hb5
      have HO5 := Lib.hid ho5
      have BR3 := Lib.hid (BR2.out.below hb5)
      clear hb5 ho5 q0 q1 q2 q3 q4 q5
      have r0 := BR3.out.cell 0 (by simp)
      have r1 := BR3.out.cell 1 (by simp)
      have r2 := BR3.out.cell 2 (by simp)
      have r3 := BR3.out.cell 3 (by simp)
      have r4 := BR3.out.cell 4 (by simp)
      have r5 := BR3.out.cell 5 (by simp)
      simp only [List.getElem_cons_zero, List.getElem_cons_succ] at r0 r1 r2 r3 r4 r5
      have z0 := BR3.out.froz 0 (by simp)
      have z1 := BR3.out.froz 1 (by simp)
      have z2 := BR3.out.froz 2 (by simp)
      have z3 := BR3.out.froz 3 (by simp)
      have z4 := BR3.out.froz 4 (by simp)
      have z5 := BR3.out.froz 5 (by simp)
      go_wp2_with fail
      clear r0 r1 r2 r3 r4 r5 z0 z1 z2 z3 z4 z5
      have BR4 := Lib.hid (BR3.out.put6 (.string ⟨kd.toArray⟩) (.bool on) (.bool br) (.slice ga cl.length gc) (.int .i64 cnt) (.slice ua l.length uc))
      have HB6 := Lib.hid (below_put6 (HBw.out.trans (HB5.out.mono HBw.out.size)) (w.heap.size + 1) (by omega) (.string ⟨kd.toArray⟩) (.bool on) (.bool br) (.slice ga cl.length gc) (.int .i64 cnt) (.slice ua l.length uc))
      have OC := Lib.hid (ownsF_put6 HO5.out (w.heap.size + 1) (by omega) (.string ⟨kd.toArray⟩) (.bool on) (.bool br) (.slice ga cl.length gc) (.int .i64 cnt) (.slice ua l.length uc))
      have OL := Lib.hid (ownsF_put6 (ownsF_below HOl.out HB5.out (Nat.le_refl _)) (w.heap.size + 1) (by omega) (.string ⟨kd.toArray⟩) (.bool on) (.bool br) (.slice ga cl.length gc) (.int .i64 cnt) (.slice ua l.length uc))
      generalize ((((((w5.setCell ⟨w.heap.size + 1, 0, none⟩ (.string ⟨kd.toArray⟩)).setCell ⟨w.heap.size + 1, 1, none⟩ (.bool on)).setCell ⟨w.heap.size + 1, 2, none⟩ (.bool br)).setCell ⟨w.heap.size + 1, 3, none⟩ (.slice ga cl.length gc)).setCell ⟨w.heap.size + 1, 4, none⟩ (.int .i64 cnt)).setCell ⟨w.heap.size + 1, 5, none⟩ (.slice ua l.length uc)) = WE at *
      have r0 := BR4.out.cell 0 (by simp)
      have r1 := BR4.out.cell 1 (by simp)
      have r2 := BR4.out.cell 2 (by simp)
      have r3 := BR4.out.cell 3 (by simp)
      have r4 := BR4.out.cell 4 (by simp)
      have r5 := BR4.out.cell 5 (by simp)
      simp only [List.getElem_cons_zero, List.getElem_cons_succ] at r0 r1 r2 r3 r4 r5
      exact bodyPost_ret (v := .agg #[.string ⟨kd.toArray⟩, .bool on, .bool br, .slice ga cl.length gc, .int .i64 cnt, .slice ua l.length uc]) (by simp [results, Tryz.results146, go_sem, r0, r1, r2, r3, r4, r5]) rfl ⟨_, rfl, ⟨_, _, rfl, ownsF_base OC.out (by omega), ownsF_base OL.out (by omega)⟩, HB6.out⟩
end Go.Proofs.YtlkpinlkbikokabGreat
/- What partOf hands out, by kind. -/
namespace Go.Proofs.YtlkpinlkbikokabGreat
set_option linter.unusedVariables false
set_option linter.unusedSimpArgs false
open Go.RowKit
def ptrs (b n : Nat) : Value := .agg (Array.replicate n (.pointer (some ⟨b, 0, none⟩)))
def partV (b : Nat) : Nat → Value
  | 0 => .iface 243 (.agg #[.pointer (some ⟨b, 0, none⟩)])
  | 1 => .iface 224 (.agg #[.pointer (some ⟨b, 0, none⟩), .pointer (some ⟨b, 0, none⟩)])
  | 2 => .iface 227 (.agg #[.pointer (some ⟨b, 0, none⟩), .pointer (some ⟨b, 0, none⟩)])
  | 3 => .iface 230 (.agg #[.pointer (some ⟨b, 0, none⟩), .pointer (some ⟨b, 0, none⟩), .pointer (some ⟨b, 0, none⟩)])
  | 4 => .iface 232 (.agg #[.pointer (some ⟨b, 0, none⟩), .pointer (some ⟨b, 0, none⟩), .pointer (some ⟨b, 0, none⟩)])
  | 5 => .iface 235 (.agg #[.pointer (some ⟨b, 0, none⟩), .pointer (some ⟨b, 0, none⟩), .pointer (some ⟨b, 0, none⟩)])
  | 6 => .iface 238 (.agg #[.pointer (some ⟨b, 0, none⟩), .pointer (some ⟨b, 0, none⟩), .pointer (some ⟨b, 0, none⟩), .pointer (some ⟨b, 0, none⟩)])
  | _ => .iface 241 (.agg #[.pointer (some ⟨b, 0, none⟩), .pointer (some ⟨b, 0, none⟩), .pointer (some ⟨b, 0, none⟩), .pointer (some ⟨b, 0, none⟩), .pointer (some ⟨b, 0, none⟩), .pointer (some ⟨b, 0, none⟩), .pointer (some ⟨b, 0, none⟩)])
set_option maxRecDepth 100000 in
set_option maxHeartbeats 1600000 in
theorem partOf_k (j : Nat) (hj : j < 8) (b : Nat) (w : World) (h : w.cell? ⟨b, 0, none⟩ = some (.string ⟨(kindN j).toArray⟩)) :
    Calls Tryz.prog 169 #[.pointer (some ⟨b, 0, none⟩)] w fun e w' => e = .returned (partV b j) ∧ Below w.heap.size w w' := by
  have hl0 := World.block_lt_of_cell? w _ h
  simp only at hl0
  have hn0 : ¬ b = w.heap.size := by omega
  rcases (show j = 0 ∨ j = 1 ∨ j = 2 ∨ j = 3 ∨ j = 4 ∨ j = 5 ∨ j = 6 ∨ j = 7 by omega) with rfl | rfl | rfl | rfl | rfl | rfl | rfl | rfl
  all_goals
    simp only [kindN] at h
    unfold partV
    go_enter Tryz.func169, Tryz.ntmps169
    go_wp2_with fail
    go_ret
    exact ⟨rfl, (Below.refl _ _).alloc (Nat.le_refl _) _⟩
end Go.Proofs.YtlkpinlkbikokabGreat
namespace Go.Proofs.YtlkpinlkbikokabGreat
set_option linter.unusedVariables false
set_option linter.unusedSimpArgs false
open Go.RowKit

theorem bel_dr {B : Nat} {a w : World} (h : Below B a w) : Below B a w.drew := ⟨h.os, h.tape, h.output, h.size, h.block⟩
theorem off_bits : ∀ a : Fin 64, offersF ((a : Nat) : Int) 0 = true ∧ offersF ((a : Nat) : Int) 1 = hasI ((a : Nat) : Int) 0 ∧ offersF ((a : Nat) : Int) 2 = hasI ((a : Nat) : Int) 1 ∧ offersF ((a : Nat) : Int) 4 = hasI ((a : Nat) : Int) 2 ∧ offersF ((a : Nat) : Int) 3 = (hasI ((a : Nat) : Int) 0 && hasI ((a : Nat) : Int) 1) := by decide +kernel
/-- the type T meets an assertion to I, or it does not -/
def Meets (I T : TypeId) (b : Bool) : Prop := match b with | true => Has I T | false => Fails I T
structure Ass (T : TypeId) (f : Int) : Prop where
  face : isF f = true
  run : Meets 199 T (offersF f 1)
  keep : Meets 203 T (offersF f 2)
  tell : Meets 215 T (offersF f 4)
  both : Meets 208 T (offersF f 3)
theorem as_run_k0 : Meets 199 243 (offersF 0 1) := (show offersF 0 1 = false by decide +kernel) ▸ (show Fails 199 243 from fails_of Tryz.underlying199 (by kernel_rfl))
theorem as_keep_k0 : Meets 203 243 (offersF 0 2) := (show offersF 0 2 = false by decide +kernel) ▸ (show Fails 203 243 from fails_of Tryz.underlying203 (by kernel_rfl))
theorem as_tell_k0 : Meets 215 243 (offersF 0 4) := (show offersF 0 4 = false by decide +kernel) ▸ (show Fails 215 243 from fails_of Tryz.underlying215 (by kernel_rfl))
theorem as_both_k0 : Meets 208 243 (offersF 0 3) := (show offersF 0 3 = false by decide +kernel) ▸ (show Fails 208 243 from fails_of Tryz.underlying208 (by kernel_rfl))
theorem ass_k0 : Ass 243 0 := ⟨by decide, as_run_k0, as_keep_k0, as_tell_k0, as_both_k0⟩
theorem fk_0 (b : Nat) : ∀ (fuel : Nat) (w : World), (method (fuel + 1) 243 (.agg #[.pointer (some ⟨b, 0, none⟩)]) "loop.example/g03016/impl.face").run Tryz.prog w = .ok (199, .agg #[.pointer (some ⟨b, 0, none⟩)]) w := by intro fuel w; kernel_rfl
theorem fn_0 (b : Nat) : ∀ (fuel : Nat) (w : World), (nilAhead (fuel + 1) 243 (.agg #[.pointer (some ⟨b, 0, none⟩)]) "loop.example/g03016/impl.face").run Tryz.prog w = .ok (some false) w := by intro fuel w; kernel_rfl
theorem as_run_k1 : Meets 199 224 (offersF 1 1) := (show offersF 1 1 = true by decide +kernel) ▸ (show Has 199 224 from ta_has Tryz.underlying199 (by kernel_rfl))
theorem as_keep_k1 : Meets 203 224 (offersF 1 2) := (show offersF 1 2 = false by decide +kernel) ▸ (show Fails 203 224 from fails_of Tryz.underlying203 (by kernel_rfl))
theorem as_tell_k1 : Meets 215 224 (offersF 1 4) := (show offersF 1 4 = false by decide +kernel) ▸ (show Fails 215 224 from fails_of Tryz.underlying215 (by kernel_rfl))
theorem as_both_k1 : Meets 208 224 (offersF 1 3) := (show offersF 1 3 = false by decide +kernel) ▸ (show Fails 208 224 from fails_of Tryz.underlying208 (by kernel_rfl))
theorem ass_k1 : Ass 224 1 := ⟨by decide, as_run_k1, as_keep_k1, as_tell_k1, as_both_k1⟩
theorem fk_1 (b : Nat) : ∀ (fuel : Nat) (w : World), (method (fuel + 1) 224 (.agg #[.pointer (some ⟨b, 0, none⟩), .pointer (some ⟨b, 0, none⟩)]) "loop.example/g03016/impl.face").run Tryz.prog w = .ok (199, .agg #[.pointer (some ⟨b, 0, none⟩)]) w := by intro fuel w; kernel_rfl
theorem fn_1 (b : Nat) : ∀ (fuel : Nat) (w : World), (nilAhead (fuel + 1) 224 (.agg #[.pointer (some ⟨b, 0, none⟩), .pointer (some ⟨b, 0, none⟩)]) "loop.example/g03016/impl.face").run Tryz.prog w = .ok (some false) w := by intro fuel w; kernel_rfl
theorem as_run_k2 : Meets 199 227 (offersF 2 1) := (show offersF 2 1 = false by decide +kernel) ▸ (show Fails 199 227 from fails_of Tryz.underlying199 (by kernel_rfl))
theorem as_keep_k2 : Meets 203 227 (offersF 2 2) := (show offersF 2 2 = true by decide +kernel) ▸ (show Has 203 227 from ta_has Tryz.underlying203 (by kernel_rfl))
theorem as_tell_k2 : Meets 215 227 (offersF 2 4) := (show offersF 2 4 = false by decide +kernel) ▸ (show Fails 215 227 from fails_of Tryz.underlying215 (by kernel_rfl))
theorem as_both_k2 : Meets 208 227 (offersF 2 3) := (show offersF 2 3 = false by decide +kernel) ▸ (show Fails 208 227 from fails_of Tryz.underlying208 (by kernel_rfl))
theorem ass_k2 : Ass 227 2 := ⟨by decide, as_run_k2, as_keep_k2, as_tell_k2, as_both_k2⟩
theorem fk_2 (b : Nat) : ∀ (fuel : Nat) (w : World), (method (fuel + 1) 227 (.agg #[.pointer (some ⟨b, 0, none⟩), .pointer (some ⟨b, 0, none⟩)]) "loop.example/g03016/impl.face").run Tryz.prog w = .ok (199, .agg #[.pointer (some ⟨b, 0, none⟩)]) w := by intro fuel w; kernel_rfl
theorem fn_2 (b : Nat) : ∀ (fuel : Nat) (w : World), (nilAhead (fuel + 1) 227 (.agg #[.pointer (some ⟨b, 0, none⟩), .pointer (some ⟨b, 0, none⟩)]) "loop.example/g03016/impl.face").run Tryz.prog w = .ok (some false) w := by intro fuel w; kernel_rfl
theorem as_run_k3 : Meets 199 230 (offersF 5 1) := (show offersF 5 1 = true by decide +kernel) ▸ (show Has 199 230 from ta_has Tryz.underlying199 (by kernel_rfl))
theorem as_keep_k3 : Meets 203 230 (offersF 5 2) := (show offersF 5 2 = false by decide +kernel) ▸ (show Fails 203 230 from fails_of Tryz.underlying203 (by kernel_rfl))
theorem as_tell_k3 : Meets 215 230 (offersF 5 4) := (show offersF 5 4 = true by decide +kernel) ▸ (show Has 215 230 from ta_has Tryz.underlying215 (by kernel_rfl))
theorem as_both_k3 : Meets 208 230 (offersF 5 3) := (show offersF 5 3 = false by decide +kernel) ▸ (show Fails 208 230 from fails_of Tryz.underlying208 (by kernel_rfl))
theorem ass_k3 : Ass 230 5 := ⟨by decide, as_run_k3, as_keep_k3, as_tell_k3, as_both_k3⟩
theorem fk_3 (b : Nat) : ∀ (fuel : Nat) (w : World), (method (fuel + 1) 230 (.agg #[.pointer (some ⟨b, 0, none⟩), .pointer (some ⟨b, 0, none⟩), .pointer (some ⟨b, 0, none⟩)]) "loop.example/g03016/impl.face").run Tryz.prog w = .ok (199, .agg #[.pointer (some ⟨b, 0, none⟩)]) w := by intro fuel w; kernel_rfl
theorem fn_3 (b : Nat) : ∀ (fuel : Nat) (w : World), (nilAhead (fuel + 1) 230 (.agg #[.pointer (some ⟨b, 0, none⟩), .pointer (some ⟨b, 0, none⟩), .pointer (some ⟨b, 0, none⟩)]) "loop.example/g03016/impl.face").run Tryz.prog w = .ok (some false) w := by intro fuel w; kernel_rfl
theorem as_run_k4 : Meets 199 232 (offersF 3 1) := (show offersF 3 1 = true by decide +kernel) ▸ (show Has 199 232 from ta_has Tryz.underlying199 (by kernel_rfl))
theorem as_keep_k4 : Meets 203 232 (offersF 3 2) := (show offersF 3 2 = true by decide +kernel) ▸ (show Has 203 232 from ta_has Tryz.underlying203 (by kernel_rfl))
theorem as_tell_k4 : Meets 215 232 (offersF 3 4) := (show offersF 3 4 = false by decide +kernel) ▸ (show Fails 215 232 from fails_of Tryz.underlying215 (by kernel_rfl))
theorem as_both_k4 : Meets 208 232 (offersF 3 3) := (show offersF 3 3 = true by decide +kernel) ▸ (show Has 208 232 from ta_has Tryz.underlying208 (by kernel_rfl))
theorem ass_k4 : Ass 232 3 := ⟨by decide, as_run_k4, as_keep_k4, as_tell_k4, as_both_k4⟩
theorem fk_4 (b : Nat) : ∀ (fuel : Nat) (w : World), (method (fuel + 1) 232 (.agg #[.pointer (some ⟨b, 0, none⟩), .pointer (some ⟨b, 0, none⟩), .pointer (some ⟨b, 0, none⟩)]) "loop.example/g03016/impl.face").run Tryz.prog w = .ok (199, .agg #[.pointer (some ⟨b, 0, none⟩)]) w := by intro fuel w; kernel_rfl
theorem fn_4 (b : Nat) : ∀ (fuel : Nat) (w : World), (nilAhead (fuel + 1) 232 (.agg #[.pointer (some ⟨b, 0, none⟩), .pointer (some ⟨b, 0, none⟩), .pointer (some ⟨b, 0, none⟩)]) "loop.example/g03016/impl.face").run Tryz.prog w = .ok (some false) w := by intro fuel w; kernel_rfl
theorem as_run_k5 : Meets 199 235 (offersF 9 1) := (show offersF 9 1 = true by decide +kernel) ▸ (show Has 199 235 from ta_has Tryz.underlying199 (by kernel_rfl))
theorem as_keep_k5 : Meets 203 235 (offersF 9 2) := (show offersF 9 2 = false by decide +kernel) ▸ (show Fails 203 235 from fails_of Tryz.underlying203 (by kernel_rfl))
theorem as_tell_k5 : Meets 215 235 (offersF 9 4) := (show offersF 9 4 = false by decide +kernel) ▸ (show Fails 215 235 from fails_of Tryz.underlying215 (by kernel_rfl))
theorem as_both_k5 : Meets 208 235 (offersF 9 3) := (show offersF 9 3 = false by decide +kernel) ▸ (show Fails 208 235 from fails_of Tryz.underlying208 (by kernel_rfl))
theorem ass_k5 : Ass 235 9 := ⟨by decide, as_run_k5, as_keep_k5, as_tell_k5, as_both_k5⟩
theorem fk_5 (b : Nat) : ∀ (fuel : Nat) (w : World), (method (fuel + 1) 235 (.agg #[.pointer (some ⟨b, 0, none⟩), .pointer (some ⟨b, 0, none⟩), .pointer (some ⟨b, 0, none⟩)]) "loop.example/g03016/impl.face").run Tryz.prog w = .ok (199, .agg #[.pointer (some ⟨b, 0, none⟩)]) w := by intro fuel w; kernel_rfl
theorem fn_5 (b : Nat) : ∀ (fuel : Nat) (w : World), (nilAhead (fuel + 1) 235 (.agg #[.pointer (some ⟨b, 0, none⟩), .pointer (some ⟨b, 0, none⟩), .pointer (some ⟨b, 0, none⟩)]) "loop.example/g03016/impl.face").run Tryz.prog w = .ok (some false) w := by intro fuel w; kernel_rfl
theorem as_run_k6 : Meets 199 238 (offersF 19 1) := (show offersF 19 1 = true by decide +kernel) ▸ (show Has 199 238 from ta_has Tryz.underlying199 (by kernel_rfl))
theorem as_keep_k6 : Meets 203 238 (offersF 19 2) := (show offersF 19 2 = true by decide +kernel) ▸ (show Has 203 238 from ta_has Tryz.underlying203 (by kernel_rfl))
theorem as_tell_k6 : Meets 215 238 (offersF 19 4) := (show offersF 19 4 = false by decide +kernel) ▸ (show Fails 215 238 from fails_of Tryz.underlying215 (by kernel_rfl))
theorem as_both_k6 : Meets 208 238 (offersF 19 3) := (show offersF 19 3 = true by decide +kernel) ▸ (show Has 208 238 from ta_has Tryz.underlying208 (by kernel_rfl))
theorem ass_k6 : Ass 238 19 := ⟨by decide, as_run_k6, as_keep_k6, as_tell_k6, as_both_k6⟩
theorem fk_6 (b : Nat) : ∀ (fuel : Nat) (w : World), (method (fuel + 1) 238 (.agg #[.pointer (some ⟨b, 0, none⟩), .pointer (some ⟨b, 0, none⟩), .pointer (some ⟨b, 0, none⟩), .pointer (some ⟨b, 0, none⟩)]) "loop.example/g03016/impl.face").run Tryz.prog w = .ok (199, .agg #[.pointer (some ⟨b, 0, none⟩)]) w := by intro fuel w; kernel_rfl
theorem fn_6 (b : Nat) : ∀ (fuel : Nat) (w : World), (nilAhead (fuel + 1) 238 (.agg #[.pointer (some ⟨b, 0, none⟩), .pointer (some ⟨b, 0, none⟩), .pointer (some ⟨b, 0, none⟩), .pointer (some ⟨b, 0, none⟩)]) "loop.example/g03016/impl.face").run Tryz.prog w = .ok (some false) w := by intro fuel w; kernel_rfl
theorem as_run_k7 : Meets 199 241 (offersF 63 1) := (show offersF 63 1 = true by decide +kernel) ▸ (show Has 199 241 from ta_has Tryz.underlying199 (by kernel_rfl))
theorem as_keep_k7 : Meets 203 241 (offersF 63 2) := (show offersF 63 2 = true by decide +kernel) ▸ (show Has 203 241 from ta_has Tryz.underlying203 (by kernel_rfl))
theorem as_tell_k7 : Meets 215 241 (offersF 63 4) := (show offersF 63 4 = true by decide +kernel) ▸ (show Has 215 241 from ta_has Tryz.underlying215 (by kernel_rfl))
theorem as_both_k7 : Meets 208 241 (offersF 63 3) := (show offersF 63 3 = true by decide +kernel) ▸ (show Has 208 241 from ta_has Tryz.underlying208 (by kernel_rfl))
theorem ass_k7 : Ass 241 63 := ⟨by decide, as_run_k7, as_keep_k7, as_tell_k7, as_both_k7⟩
theorem fk_7 (b : Nat) : ∀ (fuel : Nat) (w : World), (method (fuel + 1) 241 (.agg #[.pointer (some ⟨b, 0, none⟩), .pointer (some ⟨b, 0, none⟩), .pointer (some ⟨b, 0, none⟩), .pointer (some ⟨b, 0, none⟩), .pointer (some ⟨b, 0, none⟩), .pointer (some ⟨b, 0, none⟩), .pointer (some ⟨b, 0, none⟩)]) "loop.example/g03016/impl.face").run Tryz.prog w = .ok (199, .agg #[.pointer (some ⟨b, 0, none⟩)]) w := by intro fuel w; kernel_rfl
theorem fn_7 (b : Nat) : ∀ (fuel : Nat) (w : World), (nilAhead (fuel + 1) 241 (.agg #[.pointer (some ⟨b, 0, none⟩), .pointer (some ⟨b, 0, none⟩), .pointer (some ⟨b, 0, none⟩), .pointer (some ⟨b, 0, none⟩), .pointer (some ⟨b, 0, none⟩), .pointer (some ⟨b, 0, none⟩), .pointer (some ⟨b, 0, none⟩)]) "loop.example/g03016/impl.face").run Tryz.prog w = .ok (some false) w := by intro fuel w; kernel_rfl
theorem as_run_l0 : Meets 199 219 (offersF 0 1) := (show offersF 0 1 = false by decide +kernel) ▸ (show Fails 199 219 from fails_of Tryz.underlying199 (by kernel_rfl))
theorem as_keep_l0 : Meets 203 219 (offersF 0 2) := (show offersF 0 2 = false by decide +kernel) ▸ (show Fails 203 219 from fails_of Tryz.underlying203 (by kernel_rfl))
theorem as_tell_l0 : Meets 215 219 (offersF 0 4) := (show offersF 0 4 = false by decide +kernel) ▸ (show Fails 215 219 from fails_of Tryz.underlying215 (by kernel_rfl))
theorem as_both_l0 : Meets 208 219 (offersF 0 3) := (show offersF 0 3 = false by decide +kernel) ▸ (show Fails 208 219 from fails_of Tryz.underlying208 (by kernel_rfl))
theorem ass_l0 : Ass 219 0 := ⟨by decide, as_run_l0, as_keep_l0, as_tell_l0, as_both_l0⟩
theorem fl_0 (b o : Nat) : ∀ (fuel : Nat) (w : World), (method (fuel + 1) 219 (.agg #[.pointer (some ⟨b, o, none⟩)]) "loop.example/g03016/impl.face").run Tryz.prog w = .ok (191, .agg #[.pointer (some ⟨b, o, none⟩)]) w := by intro fuel w; kernel_rfl
theorem fm_0 (b o : Nat) : ∀ (fuel : Nat) (w : World), (nilAhead (fuel + 1) 219 (.agg #[.pointer (some ⟨b, o, none⟩)]) "loop.example/g03016/impl.face").run Tryz.prog w = .ok (some false) w := by intro fuel w; kernel_rfl
theorem as_run_l1 : Meets 199 201 (offersF 1 1) := (show offersF 1 1 = true by decide +kernel) ▸ (show Has 199 201 from ta_has Tryz.underlying199 (by kernel_rfl))
theorem as_keep_l1 : Meets 203 201 (offersF 1 2) := (show offersF 1 2 = false by decide +kernel) ▸ (show Fails 203 201 from fails_of Tryz.underlying203 (by kernel_rfl))
theorem as_tell_l1 : Meets 215 201 (offersF 1 4) := (show offersF 1 4 = false by decide +kernel) ▸ (show Fails 215 201 from fails_of Tryz.underlying215 (by kernel_rfl))
theorem as_both_l1 : Meets 208 201 (offersF 1 3) := (show offersF 1 3 = false by decide +kernel) ▸ (show Fails 208 201 from fails_of Tryz.underlying208 (by kernel_rfl))
theorem ass_l1 : Ass 201 1 := ⟨by decide, as_run_l1, as_keep_l1, as_tell_l1, as_both_l1⟩
theorem fl_1 (b o : Nat) (T : TypeId) (V : Value) : ∀ (fuel : Nat) (w : World), (method (fuel + 1) 201 (.agg #[.pointer (some ⟨b, o, none⟩), .iface T V]) "loop.example/g03016/impl.face").run Tryz.prog w = .ok (191, .agg #[.pointer (some ⟨b, o, none⟩)]) w := by intro fuel w; kernel_rfl
theorem fm_1 (b o : Nat) (T : TypeId) (V : Value) : ∀ (fuel : Nat) (w : World), (nilAhead (fuel + 1) 201 (.agg #[.pointer (some ⟨b, o, none⟩), .iface T V]) "loop.example/g03016/impl.face").run Tryz.prog w = .ok (some false) w := by intro fuel w; kernel_rfl
theorem as_run_l2 : Meets 199 205 (offersF 2 1) := (show offersF 2 1 = false by decide +kernel) ▸ (show Fails 199 205 from fails_of Tryz.underlying199 (by kernel_rfl))
theorem as_keep_l2 : Meets 203 205 (offersF 2 2) := (show offersF 2 2 = true by decide +kernel) ▸ (show Has 203 205 from ta_has Tryz.underlying203 (by kernel_rfl))
theorem as_tell_l2 : Meets 215 205 (offersF 2 4) := (show offersF 2 4 = false by decide +kernel) ▸ (show Fails 215 205 from fails_of Tryz.underlying215 (by kernel_rfl))
theorem as_both_l2 : Meets 208 205 (offersF 2 3) := (show offersF 2 3 = false by decide +kernel) ▸ (show Fails 208 205 from fails_of Tryz.underlying208 (by kernel_rfl))
theorem ass_l2 : Ass 205 2 := ⟨by decide, as_run_l2, as_keep_l2, as_tell_l2, as_both_l2⟩
theorem fl_2 (b o : Nat) (T : TypeId) (V : Value) : ∀ (fuel : Nat) (w : World), (method (fuel + 1) 205 (.agg #[.pointer (some ⟨b, o, none⟩), .iface T V]) "loop.example/g03016/impl.face").run Tryz.prog w = .ok (191, .agg #[.pointer (some ⟨b, o, none⟩)]) w := by intro fuel w; kernel_rfl
theorem fm_2 (b o : Nat) (T : TypeId) (V : Value) : ∀ (fuel : Nat) (w : World), (nilAhead (fuel + 1) 205 (.agg #[.pointer (some ⟨b, o, none⟩), .iface T V]) "loop.example/g03016/impl.face").run Tryz.prog w = .ok (some false) w := by intro fuel w; kernel_rfl
theorem as_run_l3 : Meets 199 206 (offersF 6 1) := (show offersF 6 1 = false by decide +kernel) ▸ (show Fails 199 206 from fails_of Tryz.underlying199 (by kernel_rfl))
theorem as_keep_l3 : Meets 203 206 (offersF 6 2) := (show offersF 6 2 = true by decide +kernel) ▸ (show Has 203 206 from ta_has Tryz.underlying203 (by kernel_rfl))
theorem as_tell_l3 : Meets 215 206 (offersF 6 4) := (show offersF 6 4 = true by decide +kernel) ▸ (show Has 215 206 from ta_has Tryz.underlying215 (by kernel_rfl))
theorem as_both_l3 : Meets 208 206 (offersF 6 3) := (show offersF 6 3 = false by decide +kernel) ▸ (show Fails 208 206 from fails_of Tryz.underlying208 (by kernel_rfl))
theorem ass_l3 : Ass 206 6 := ⟨by decide, as_run_l3, as_keep_l3, as_tell_l3, as_both_l3⟩
theorem fl_3 (b o : Nat) (T : TypeId) (V : Value) : ∀ (fuel : Nat) (w : World), (method (fuel + 1) 206 (.agg #[.pointer (some ⟨b, o, none⟩), .iface T V]) "loop.example/g03016/impl.face").run Tryz.prog w = .ok (191, .agg #[.pointer (some ⟨b, o, none⟩)]) w := by intro fuel w; kernel_rfl
theorem fm_3 (b o : Nat) (T : TypeId) (V : Value) : ∀ (fuel : Nat) (w : World), (nilAhead (fuel + 1) 206 (.agg #[.pointer (some ⟨b, o, none⟩), .iface T V]) "loop.example/g03016/impl.face").run Tryz.prog w = .ok (some false) w := by intro fuel w; kernel_rfl
theorem as_run_l4 : Meets 199 210 (offersF 3 1) := (show offersF 3 1 = true by decide +kernel) ▸ (show Has 199 210 from ta_has Tryz.underlying199 (by kernel_rfl))
theorem as_keep_l4 : Meets 203 210 (offersF 3 2) := (show offersF 3 2 = true by decide +kernel) ▸ (show Has 203 210 from ta_has Tryz.underlying203 (by kernel_rfl))
theorem as_tell_l4 : Meets 215 210 (offersF 3 4) := (show offersF 3 4 = false by decide +kernel) ▸ (show Fails 215 210 from fails_of Tryz.underlying215 (by kernel_rfl))
theorem as_both_l4 : Meets 208 210 (offersF 3 3) := (show offersF 3 3 = true by decide +kernel) ▸ (show Has 208 210 from ta_has Tryz.underlying208 (by kernel_rfl))
theorem ass_l4 : Ass 210 3 := ⟨by decide, as_run_l4, as_keep_l4, as_tell_l4, as_both_l4⟩
theorem fl_4 (b o : Nat) (T : TypeId) (V : Value) : ∀ (fuel : Nat) (w : World), (method (fuel + 1) 210 (.agg #[.pointer (some ⟨b, o, none⟩), .iface T V]) "loop.example/g03016/impl.face").run Tryz.prog w = .ok (191, .agg #[.pointer (some ⟨b, o, none⟩)]) w := by intro fuel w; kernel_rfl
theorem fm_4 (b o : Nat) (T : TypeId) (V : Value) : ∀ (fuel : Nat) (w : World), (nilAhead (fuel + 1) 210 (.agg #[.pointer (some ⟨b, o, none⟩), .iface T V]) "loop.example/g03016/impl.face").run Tryz.prog w = .ok (some false) w := by intro fuel w; kernel_rfl
theorem as_run_l5 : Meets 199 211 (offersF 2 1) := (show offersF 2 1 = false by decide +kernel) ▸ (show Fails 199 211 from fails_of Tryz.underlying199 (by kernel_rfl))
theorem as_keep_l5 : Meets 203 211 (offersF 2 2) := (show offersF 2 2 = true by decide +kernel) ▸ (show Has 203 211 from ta_has Tryz.underlying203 (by kernel_rfl))
theorem as_tell_l5 : Meets 215 211 (offersF 2 4) := (show offersF 2 4 = false by decide +kernel) ▸ (show Fails 215 211 from fails_of Tryz.underlying215 (by kernel_rfl))
theorem as_both_l5 : Meets 208 211 (offersF 2 3) := (show offersF 2 3 = false by decide +kernel) ▸ (show Fails 208 211 from fails_of Tryz.underlying208 (by kernel_rfl))
theorem ass_l5 : Ass 211 2 := ⟨by decide, as_run_l5, as_keep_l5, as_tell_l5, as_both_l5⟩
theorem fl_5 (b o : Nat) (T : TypeId) (V : Value) : ∀ (fuel : Nat) (w : World), (method (fuel + 1) 211 (.agg #[.pointer (some ⟨b, o, none⟩), .iface T V]) "loop.example/g03016/impl.face").run Tryz.prog w = .ok (191, .agg #[.pointer (some ⟨b, o, none⟩)]) w := by intro fuel w; kernel_rfl
theorem fm_5 (b o : Nat) (T : TypeId) (V : Value) : ∀ (fuel : Nat) (w : World), (nilAhead (fuel + 1) 211 (.agg #[.pointer (some ⟨b, o, none⟩), .iface T V]) "loop.example/g03016/impl.face").run Tryz.prog w = .ok (some false) w := by intro fuel w; kernel_rfl
theorem as_run_l6 : Meets 199 212 (offersF 9 1) := (show offersF 9 1 = true by decide +kernel) ▸ (show Has 199 212 from ta_has Tryz.underlying199 (by kernel_rfl))
theorem as_keep_l6 : Meets 203 212 (offersF 9 2) := (show offersF 9 2 = false by decide +kernel) ▸ (show Fails 203 212 from fails_of Tryz.underlying203 (by kernel_rfl))
theorem as_tell_l6 : Meets 215 212 (offersF 9 4) := (show offersF 9 4 = false by decide +kernel) ▸ (show Fails 215 212 from fails_of Tryz.underlying215 (by kernel_rfl))
theorem as_both_l6 : Meets 208 212 (offersF 9 3) := (show offersF 9 3 = false by decide +kernel) ▸ (show Fails 208 212 from fails_of Tryz.underlying208 (by kernel_rfl))
theorem ass_l6 : Ass 212 9 := ⟨by decide, as_run_l6, as_keep_l6, as_tell_l6, as_both_l6⟩
theorem fl_6 (b o : Nat) (T : TypeId) (V : Value) : ∀ (fuel : Nat) (w : World), (method (fuel + 1) 212 (.agg #[.pointer (some ⟨b, o, none⟩), .iface T V]) "loop.example/g03016/impl.face").run Tryz.prog w = .ok (191, .agg #[.pointer (some ⟨b, o, none⟩)]) w := by intro fuel w; kernel_rfl
theorem fm_6 (b o : Nat) (T : TypeId) (V : Value) : ∀ (fuel : Nat) (w : World), (nilAhead (fuel + 1) 212 (.agg #[.pointer (some ⟨b, o, none⟩), .iface T V]) "loop.example/g03016/impl.face").run Tryz.prog w = .ok (some false) w := by intro fuel w; kernel_rfl
theorem as_run_l7 : Meets 199 213 (offersF 33 1) := (show offersF 33 1 = true by decide +kernel) ▸ (show Has 199 213 from ta_has Tryz.underlying199 (by kernel_rfl))
theorem as_keep_l7 : Meets 203 213 (offersF 33 2) := (show offersF 33 2 = false by decide +kernel) ▸ (show Fails 203 213 from fails_of Tryz.underlying203 (by kernel_rfl))
theorem as_tell_l7 : Meets 215 213 (offersF 33 4) := (show offersF 33 4 = false by decide +kernel) ▸ (show Fails 215 213 from fails_of Tryz.underlying215 (by kernel_rfl))
theorem as_both_l7 : Meets 208 213 (offersF 33 3) := (show offersF 33 3 = false by decide +kernel) ▸ (show Fails 208 213 from fails_of Tryz.underlying208 (by kernel_rfl))
theorem ass_l7 : Ass 213 33 := ⟨by decide, as_run_l7, as_keep_l7, as_tell_l7, as_both_l7⟩
theorem fl_7 (b o : Nat) (T : TypeId) (V : Value) : ∀ (fuel : Nat) (w : World), (method (fuel + 1) 213 (.agg #[.pointer (some ⟨b, o, none⟩), .iface T V]) "loop.example/g03016/impl.face").run Tryz.prog w = .ok (191, .agg #[.pointer (some ⟨b, o, none⟩)]) w := by intro fuel w; kernel_rfl
theorem fm_7 (b o : Nat) (T : TypeId) (V : Value) : ∀ (fuel : Nat) (w : World), (nilAhead (fuel + 1) 213 (.agg #[.pointer (some ⟨b, o, none⟩), .iface T V]) "loop.example/g03016/impl.face").run Tryz.prog w = .ok (some false) w := by intro fuel w; kernel_rfl
theorem as_run_l8 : Meets 199 217 (offersF 4 1) := (show offersF 4 1 = false by decide +kernel) ▸ (show Fails 199 217 from fails_of Tryz.underlying199 (by kernel_rfl))
theorem as_keep_l8 : Meets 203 217 (offersF 4 2) := (show offersF 4 2 = false by decide +kernel) ▸ (show Fails 203 217 from fails_of Tryz.underlying203 (by kernel_rfl))
theorem as_tell_l8 : Meets 215 217 (offersF 4 4) := (show offersF 4 4 = true by decide +kernel) ▸ (show Has 215 217 from ta_has Tryz.underlying215 (by kernel_rfl))
theorem as_both_l8 : Meets 208 217 (offersF 4 3) := (show offersF 4 3 = false by decide +kernel) ▸ (show Fails 208 217 from fails_of Tryz.underlying208 (by kernel_rfl))
theorem ass_l8 : Ass 217 4 := ⟨by decide, as_run_l8, as_keep_l8, as_tell_l8, as_both_l8⟩
theorem fl_8 (b o : Nat) (T : TypeId) (V : Value) : ∀ (fuel : Nat) (w : World), (method (fuel + 1) 217 (.agg #[.pointer (some ⟨b, o, none⟩), .iface T V]) "loop.example/g03016/impl.face").run Tryz.prog w = .ok (191, .agg #[.pointer (some ⟨b, o, none⟩)]) w := by intro fuel w; kernel_rfl
theorem fm_8 (b o : Nat) (T : TypeId) (V : Value) : ∀ (fuel : Nat) (w : World), (nilAhead (fuel + 1) 217 (.agg #[.pointer (some ⟨b, o, none⟩), .iface T V]) "loop.example/g03016/impl.face").run Tryz.prog w = .ok (some false) w := by intro fuel w; kernel_rfl
/-- the value (T, V) tells the face f, in each world that keeps what lies below -/
def FaceAt (w : World) (T : TypeId) (V : Value) (f : Int) : Prop := ∃ (F : FuncId) (rcv : Value), (F = 199 ∨ F = 191) ∧ (∀ (fuel : Nat) (w : World), (method (fuel + 1) T V "loop.example/g03016/impl.face").run Tryz.prog w = .ok (F, rcv) w) ∧ (∀ (fuel : Nat) (w : World), (nilAhead (fuel + 1) T V "loop.example/g03016/impl.face").run Tryz.prog w = .ok (some false) w) ∧
  ∀ W, Below w.heap.size w W → Calls Tryz.prog F #[rcv] W fun e w' => e = .returned (.int .i64 f) ∧ Below W.heap.size W w'
theorem FaceAt.below {w w' : World} {T : TypeId} {V : Value} {f : Int} (h : FaceAt w T V f) (hb : Below w.heap.size w w') : FaceAt w' T V f := by
  obtain ⟨F, r, h0, h1, h2, h3⟩ := h
  exact ⟨F, r, h0, h1, h2, fun W hW => h3 W (belS hb hW)⟩
def IfaceAt (w : World) (v : Value) (f : Int) : Prop := ∃ T V, v = .iface T V ∧ FaceAt w T V f ∧ Ass T f
theorem IfaceAt.below {w w' : World} {v : Value} {f : Int} (h : IfaceAt w v f) (hb : Below w.heap.size w w') : IfaceAt w' v f := by
  obtain ⟨T, V, h1, h2, h3⟩ := h
  exact ⟨T, V, h1, h2.below hb, h3⟩
set_option maxHeartbeats 800000 in
theorem bodyName_c (b : Nat) (k : List UInt8) (w : World) (h : w.cell? ⟨b, 0, none⟩ = some (.string ⟨k.toArray⟩)) :
    Calls Tryz.prog 200 #[.agg #[.pointer (some ⟨b, 0, none⟩)]] w fun e w' => e = .returned (.string ⟨k.toArray⟩) ∧ Below w.heap.size w w' := by
  have hl := World.block_lt_of_cell? w _ h
  simp only at hl
  have hne : ¬ b = w.heap.size := by omega
  go_enter Tryz.func200, Tryz.ntmps200
  go_wp2_with fail
  go_ret
  exact ⟨rfl, part_box w _⟩
set_option maxHeartbeats 800000 in
theorem bodyFace_c (b : Nat) (k : List UInt8) (w : World) (h : w.cell? ⟨b, 0, none⟩ = some (.string ⟨k.toArray⟩)) :
    Calls Tryz.prog 199 #[.agg #[.pointer (some ⟨b, 0, none⟩)]] w fun e w' => e = .returned (.int .i64 (kfI (kindI k))) ∧ Below w.heap.size w w' := by
  have hl := World.block_lt_of_cell? w _ h
  simp only at hl
  have HN := Lib.hid (bodyName_c b k (w.alloc (.cells #[.pointer (some ⟨b, 0, none⟩)] 221)) (((part_box w _).cell (p := ⟨b, 0, none⟩) hl).trans h))
  have HK := Lib.hid (implKind_any ⟨k.toArray⟩)
  simp only [List.toList_toArray] at HK
  unfold kfV at HK
  generalize kfI (kindI k) = f at *
  generalize decide (0 ≤ kindI k) = q at *
  clear h
  go_enter Tryz.func199, Tryz.ntmps199
  go_wp2_with fail
  refine HN.out.mono ?_
  rintro e w1 ⟨rfl, hb⟩
  have HB := Lib.hid (belS (part_box w _) hb)
  clear hb
  go_wp2_with (first | (go_at_call 120; (with_reducible refine (HK.out _).mono ?_); rintro e w' ⟨rfl, rfl⟩))
  go_ret
  exact ⟨rfl, HB.out⟩
set_option maxHeartbeats 800000 in
theorem coverName_c (b o : Nat) (k : List UInt8) (w : World) (h : w.cell? ⟨b, o, none⟩ = some (.string ⟨k.toArray⟩)) :
    Calls Tryz.prog 192 #[.agg #[.pointer (some ⟨b, o, none⟩)]] w fun e w' => e = .returned (.string ⟨k.toArray⟩) ∧ Below w.heap.size w w' := by
  have hl := World.block_lt_of_cell? w _ h
  simp only at hl
  have hne : ¬ b = w.heap.size := by omega
  go_enter Tryz.func192, Tryz.ntmps192
  go_wp2_with fail
  go_ret
  exact ⟨rfl, part_box w _⟩
set_option maxHeartbeats 800000 in
theorem coverFace_c (b o : Nat) (k : List UInt8) (w : World) (h : w.cell? ⟨b, o, none⟩ = some (.string ⟨k.toArray⟩)) :
    Calls Tryz.prog 191 #[.agg #[.pointer (some ⟨b, o, none⟩)]] w fun e w' => e = .returned (.int .i64 (giveI (layI k))) ∧ Below w.heap.size w w' := by
  have hl := World.block_lt_of_cell? w _ h
  simp only at hl
  have HN := Lib.hid (coverName_c b o k (w.alloc (.cells #[.pointer (some ⟨b, o, none⟩)] 197)) (((part_box w _).cell (p := ⟨b, o, none⟩) hl).trans h))
  have HK := Lib.hid (implLayerGives_any ⟨k.toArray⟩)
  simp only [List.toList_toArray] at HK
  unfold gvV at HK
  generalize giveI (layI k) = f at *
  generalize decide (0 ≤ layI k) = q at *
  clear h
  go_enter Tryz.func191, Tryz.ntmps191
  go_wp2_with fail
  refine HN.out.mono ?_
  rintro e w1 ⟨rfl, hb⟩
  have HB := Lib.hid (belS (part_box w _) hb)
  clear hb
  go_wp2_with (first | (go_at_call 121; (with_reducible refine (HK.out _).mono ?_); rintro e w' ⟨rfl, rfl⟩))
  go_ret
  exact ⟨rfl, HB.out⟩
theorem faceAt_body {b : Nat} {k : List UInt8} {w : World} {T : TypeId} {V : Value} {f : Int} (h : w.cell? ⟨b, 0, none⟩ = some (.string ⟨k.toArray⟩)) (hf : kfI (kindI k) = f) (h1 : ∀ (fuel : Nat) (w : World), (method (fuel + 1) T V "loop.example/g03016/impl.face").run Tryz.prog w = .ok (199, .agg #[.pointer (some ⟨b, 0, none⟩)]) w)
    (h2 : ∀ (fuel : Nat) (w : World), (nilAhead (fuel + 1) T V "loop.example/g03016/impl.face").run Tryz.prog w = .ok (some false) w) : FaceAt w T V f := by
  subst hf
  exact ⟨_, _, Or.inl rfl, h1, h2, fun W hW => bodyFace_c b k W ((hW.cell (p := ⟨b, 0, none⟩) (World.block_lt_of_cell? w _ h)).trans h)⟩
theorem faceAt_cover {b o : Nat} {k : List UInt8} {w : World} {T : TypeId} {V : Value} {f : Int} (h : w.cell? ⟨b, o, none⟩ = some (.string ⟨k.toArray⟩)) (hf : giveI (layI k) = f) (h1 : ∀ (fuel : Nat) (w : World), (method (fuel + 1) T V "loop.example/g03016/impl.face").run Tryz.prog w = .ok (191, .agg #[.pointer (some ⟨b, o, none⟩)]) w)
    (h2 : ∀ (fuel : Nat) (w : World), (nilAhead (fuel + 1) T V "loop.example/g03016/impl.face").run Tryz.prog w = .ok (some false) w) : FaceAt w T V f := by
  subst hf
  exact ⟨_, _, Or.inr rfl, h1, h2, fun W hW => coverFace_c b o k W ((hW.cell (p := ⟨b, o, none⟩) (World.block_lt_of_cell? w _ h)).trans h)⟩
theorem iface_kind {b : Nat} {w : World} (j : Nat) (hj : j < 8) (h : w.cell? ⟨b, 0, none⟩ = some (.string ⟨(kindN j).toArray⟩)) : IfaceAt w (partV b j) (kfN j) := by
  rcases (show j = 0 ∨ j = 1 ∨ j = 2 ∨ j = 3 ∨ j = 4 ∨ j = 5 ∨ j = 6 ∨ j = 7 by omega) with rfl | rfl | rfl | rfl | rfl | rfl | rfl | rfl
  · exact ⟨_, _, rfl, faceAt_body h (by decide +kernel) (fk_0 b) (fn_0 b), ass_k0⟩
  · exact ⟨_, _, rfl, faceAt_body h (by decide +kernel) (fk_1 b) (fn_1 b), ass_k1⟩
  · exact ⟨_, _, rfl, faceAt_body h (by decide +kernel) (fk_2 b) (fn_2 b), ass_k2⟩
  · exact ⟨_, _, rfl, faceAt_body h (by decide +kernel) (fk_3 b) (fn_3 b), ass_k3⟩
  · exact ⟨_, _, rfl, faceAt_body h (by decide +kernel) (fk_4 b) (fn_4 b), ass_k4⟩
  · exact ⟨_, _, rfl, faceAt_body h (by decide +kernel) (fk_5 b) (fn_5 b), ass_k5⟩
  · exact ⟨_, _, rfl, faceAt_body h (by decide +kernel) (fk_6 b) (fn_6 b), ass_k6⟩
  · exact ⟨_, _, rfl, faceAt_body h (by decide +kernel) (fk_7 b) (fn_7 b), ass_k7⟩
/-- what wrapping hands out, by adapter -/
def wrapV (b o : Nat) (v : Value) : Nat → Value
  | 0 => .iface 219 (.agg #[.pointer (some ⟨b, o, none⟩)])
  | 1 => .iface 201 (.agg #[.pointer (some ⟨b, o, none⟩), v])
  | 2 => .iface 205 (.agg #[.pointer (some ⟨b, o, none⟩), v])
  | 3 => .iface 206 (.agg #[.pointer (some ⟨b, o, none⟩), v])
  | 4 => .iface 210 (.agg #[.pointer (some ⟨b, o, none⟩), v])
  | 5 => .iface 211 (.agg #[.pointer (some ⟨b, o, none⟩), v])
  | 6 => .iface 212 (.agg #[.pointer (some ⟨b, o, none⟩), v])
  | 7 => .iface 213 (.agg #[.pointer (some ⟨b, o, none⟩), v])
  | _ => .iface 217 (.agg #[.pointer (some ⟨b, o, none⟩), v])
theorem iface_wrap {b o : Nat} {w : World} {T : TypeId} {V : Value} (i : Nat) (hi : i < 9) (h : w.cell? ⟨b, o, none⟩ = some (.string ⟨(layN i).toArray⟩)) : IfaceAt w (wrapV b o (.iface T V) i) (giveN i) := by
  rcases (show i = 0 ∨ i = 1 ∨ i = 2 ∨ i = 3 ∨ i = 4 ∨ i = 5 ∨ i = 6 ∨ i = 7 ∨ i = 8 by omega) with rfl | rfl | rfl | rfl | rfl | rfl | rfl | rfl | rfl
  · exact ⟨_, _, rfl, faceAt_cover h (by decide +kernel) (fl_0 b o) (fm_0 b o), ass_l0⟩
  · exact ⟨_, _, rfl, faceAt_cover h (by decide +kernel) (fl_1 b o T V) (fm_1 b o T V), ass_l1⟩
  · exact ⟨_, _, rfl, faceAt_cover h (by decide +kernel) (fl_2 b o T V) (fm_2 b o T V), ass_l2⟩
  · exact ⟨_, _, rfl, faceAt_cover h (by decide +kernel) (fl_3 b o T V) (fm_3 b o T V), ass_l3⟩
  · exact ⟨_, _, rfl, faceAt_cover h (by decide +kernel) (fl_4 b o T V) (fm_4 b o T V), ass_l4⟩
  · exact ⟨_, _, rfl, faceAt_cover h (by decide +kernel) (fl_5 b o T V) (fm_5 b o T V), ass_l5⟩
  · exact ⟨_, _, rfl, faceAt_cover h (by decide +kernel) (fl_6 b o T V) (fm_6 b o T V), ass_l6⟩
  · exact ⟨_, _, rfl, faceAt_cover h (by decide +kernel) (fl_7 b o T V) (fm_7 b o T V), ass_l7⟩
  · exact ⟨_, _, rfl, faceAt_cover h (by decide +kernel) (fl_8 b o T V) (fm_8 b o T V), ass_l8⟩
end Go.Proofs.YtlkpinlkbikokabGreat
