/- Contracts of chapter 3: isNumber, IsCells, the program's and the model's. -/
import Derived.Test.YtmoliamenekemaaCellQ
import Derived.Test.YtmoliamenekemaaFace1
namespace Go.Proofs.Ytmoliamenekemaa
set_option linter.unusedVariables false
open Go.RowKit
set_option maxHeartbeats 400000 in
theorem isNumber_any (n : Int) (w : World) :
    Calls Try.prog 73 #[.int .i64 n] w fun e w' => e = .returned (.bool (numB n)) ∧ w = w' := by
  by_cases h0 : n < 0
  · go_enter Try.func73, Try.ntmps73
    go_wp2
    go_ret
    exact ⟨ret_bool (by simp [numB]; omega), rfl⟩
  · go_enter Try.func73, Try.ntmps73
    go_wp2
    go_ret
    exact ⟨ret_bool (by simp [numB]; omega), rfl⟩
theorem isNumber_b (n : Int) (x : Bool) (h : numB n = x) (w : World) :
    Calls Try.prog 73 #[.int .i64 n] w fun e w' => e = .returned (.bool x) ∧ w = w' := by
  subst h; exact isNumber_any n w
theorem implIsName_b (l : List UInt8) (x : Bool) (h : nameB l = x) (hs : l.length ≤ maxLen) (w : World) :
    Calls Try.prog 93 #[.string ⟨l.toArray⟩] w fun e w' => e = .returned (.bool x) ∧ w = w' := by
  subst h; have := implIsName_any ⟨l.toArray⟩ w (by rw [← size_list]; simpa using hs); simpa using this
theorem specIsName_b (l : List UInt8) (x : Bool) (h : nameB l = x) (hs : l.length ≤ maxLen) (w : World) :
    Calls Try.prog 91 #[.string ⟨l.toArray⟩] w fun e w' => e = .returned (.bool x) ∧ w = w' := by
  subst h; have := specIsName_any ⟨l.toArray⟩ w (by rw [← size_list]; simpa using hs); simpa using this
set_option maxRecDepth 100000 in
set_option maxHeartbeats 1600000 in
theorem implIsCells_any (v : Value) (l : List CellD) (w : World) (hx : FlatAt cCell 2 w v l) (hs : ∀ d ∈ l, d.fKey.length ≤ maxLen) :
    Calls Try.prog 71 #[v] w fun e w' => e = .returned (.bool (cellsB l)) ∧ Below w.heap.size w w' := by
  obtain ⟨a, c, rfl, hl⟩ := flatAt_len hx
  have HX := Lib.hid hx
  have HS := Lib.hid hs
  clear hx hs
  unfold maxLen at hl
  by_cases h4 : 4 < l.length
  · have HN := Lib.hid (cellsB_long l h4)
    go_enter Try.func71, Try.ntmps71
    go_wp2_with fail
    go_ret
    exact ⟨ret_bool HN.out.symm, Below.refl _ _⟩
  · have HL := Lib.hid (show decide (l.length ≤ 4) = true by simp; omega)
    go_enter Try.func71, Try.ntmps71
    go_wp2_with fail
    go_loopw [3, 4, 10] (fun _ _ i wr => ∃ k : Nat, k ≤ l.length ∧ i = .int .i64 k ∧ okTo l k = true ∧ Below w.heap.size w wr) (fun _ _ i _ => l.length - (intOf i).toNat)
    case atStart => exact ⟨0, Nat.zero_le _, rfl, rfl, Below.refl _ _⟩
    case round =>
      obtain ⟨k, hk, rfl, hok, hb⟩ := hrel
      have HO := Lib.hid hok
      have HB := Lib.hid hb
      have HXr := Lib.hid (FlatAt.below HX.out hb (Nat.le_refl _))
      clear hok hb
      by_cases hlt : k < l.length
      · obtain ⟨b, o, rfl, hbl, hd⟩ := flatAt_cell cCell_len HXr.out k hlt (by decide)
        have d0 := hd 0 (by decide)
        have d1 := hd 1 (by decide)
        clear hd
        have HA := Lib.hid (okAt_of l k hlt)
        have HBAD := Lib.hid (fun h => cellsB_bad l k hlt h)
        have HNX := Lib.hid (show okAt l k = true → okTo l (k + 1) = true from fun h => by rw [okTo_succ, HO.out, h]; rfl)
        have HNM := Lib.hid (implIsName_b (l[k]).fKey)
        have hlen := HS.out (l[k]) (List.getElem_mem hlt)
        have HNU := Lib.hid (isNumber_b (l[k]).fValue)
        have HBB := Lib.hid (show ∀ o1, Below w.heap.size w (wr.alloc o1) from fun o1 => HB.out.alloc HB.out.size _)
        cases hx : nameB (l[k]).fKey with
        | false =>
          have HR := Lib.hid (HBAD.out (by rw [HA.out _ _ _ hx rfl rfl]; rfl))
          have HN := Lib.hid (HNM.out _ hx hlen)
          clear hx
          generalize l[k] = p at *
          obtain ⟨a0, a1⟩ := p
          simp only [cCell, List.getElem?_cons_zero, List.getElem?_cons_succ, Nat.add_zero] at d0 d1
          go_wp2_with fail
          refine (HN.out _).mono ?_
          rintro e w1 ⟨rfl, rfl⟩
          go_wp2_with fail
          go_ret
          exact ⟨ret_bool HR.out.symm, HBB.out _⟩
        | true => 
          cases hy : numB (l[k]).fValue with
          | false =>
            have HR := Lib.hid (HBAD.out (by rw [HA.out _ _ _ hx hy rfl]; rfl))
            have HN := Lib.hid (HNM.out _ hx hlen)
            have HN2 := Lib.hid (HNU.out _ hy)
            clear hx hy
            generalize l[k] = p at *
            obtain ⟨a0, a1⟩ := p
            simp only [cCell, List.getElem?_cons_zero, List.getElem?_cons_succ, Nat.add_zero] at d0 d1
            go_wp2_with fail
            refine (HN.out _).mono ?_
            rintro e w1 ⟨rfl, rfl⟩
            go_wp2_with fail
            refine (HN2.out _).mono ?_
            rintro e w1 ⟨rfl, rfl⟩
            go_wp2_with fail
            go_ret
            exact ⟨ret_bool HR.out.symm, HBB.out _⟩
          | true =>
            have HN := Lib.hid (HNM.out _ hx hlen)
            have HN2 := Lib.hid (HNU.out _ hy)
            by_cases h0 : 0 < k
            · have hk1 : k - 1 < l.length := by omega
              obtain ⟨b', o', e', _, hd'⟩ := flatAt_cell cCell_len HXr.out (k - 1) hk1 (by decide)
              injection e' with e'
              injection e' with e1 e2
              subst e1 e2
              have q0 := hd' 0 (by decide)
              clear hd'
              have hg0 : (0 : Int) < (k : Int) := by omega
              have hk2 : (0 : Int) ≤ (k : Int) - 1 := by omega
              have hk3 : (k : Int) - 1 < (l.length : Int) := by omega
              cases hz : Op.bytesLess (l.getD (k - 1) default).fKey (l[k]).fKey with
              | false =>
                have HR := Lib.hid (HBAD.out (by rw [HA.out _ _ _ hx hy rfl, hz]; simp; omega))
                rw [getD_at l (k - 1) hk1] at hz
                clear hx hy
                generalize l[k] = p at *
                generalize l[k - 1] = q at *
                obtain ⟨a0, a1⟩ := p
                obtain ⟨b0, b1⟩ := q
                simp only [cCell, List.getElem?_cons_zero, List.getElem?_cons_succ, Nat.add_zero] at d0 d1 q0 hz
                go_wp2_with fail
                refine (HN.out _).mono ?_
                rintro e w1 ⟨rfl, rfl⟩
                go_wp2_with fail
                refine (HN2.out _).mono ?_
                rintro e w1 ⟨rfl, rfl⟩
                go_wp2_with fail
                go_quiet (fail)
                go_wp2_with fail
                go_ret
                exact ⟨ret_bool HR.out.symm, below_drewN (HBB.out _) _⟩
              | true =>
                have HR := Lib.hid (HNX.out (by rw [HA.out _ _ _ hx hy rfl, hz]; simp))
                rw [getD_at l (k - 1) hk1] at hz
                clear hx hy
                generalize l[k] = p at *
                generalize l[k - 1] = q at *
                obtain ⟨a0, a1⟩ := p
                obtain ⟨b0, b1⟩ := q
                simp only [cCell, List.getElem?_cons_zero, List.getElem?_cons_succ, Nat.add_zero] at d0 d1 q0 hz
                go_wp2_with fail
                refine (HN.out _).mono ?_
                rintro e w1 ⟨rfl, rfl⟩
                go_wp2_with fail
                refine (HN2.out _).mono ?_
                rintro e w1 ⟨rfl, rfl⟩
                go_wp2_with fail
                go_quiet (fail)
                go_wp2_with fail
                exact ⟨⟨k + 1, by omega, by go_num, HR.out, below_drewN (HBB.out _) _⟩, by simp [intOf]; omega⟩
            · have HR := Lib.hid (HNX.out (by rw [HA.out _ _ _ hx hy rfl, show decide (k = 0) = true by simp; omega]; rfl))
              have hg0 : (k : Int) ≤ 0 := by omega
              clear hx hy
              generalize l[k] = p at *
              obtain ⟨a0, a1⟩ := p
              simp only [cCell, List.getElem?_cons_zero, List.getElem?_cons_succ, Nat.add_zero] at d0 d1
              go_wp2_with fail
              refine (HN.out _).mono ?_
              rintro e w1 ⟨rfl, rfl⟩
              go_wp2_with fail
              refine (HN2.out _).mono ?_
              rintro e w1 ⟨rfl, rfl⟩
              go_wp2_with fail
              go_quiet (fail)
              go_wp2_with fail
              exact ⟨⟨k + 1, by omega, by go_num, HR.out, below_drewN (HBB.out _) _⟩, by simp [intOf]; omega⟩
      · have HN := Lib.hid (show cellsB l = true from by
          have h := HO.out
          rw [show k = l.length by omega] at h
          rw [cellsB_end l h, HL.out])
        go_wp2_with fail
        go_ret
        exact ⟨ret_bool HN.out.symm, HB.out⟩
end Go.Proofs.Ytmoliamenekemaa
