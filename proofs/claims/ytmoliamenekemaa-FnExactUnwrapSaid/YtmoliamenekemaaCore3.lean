/- Contracts of chapter 3: IsCore, the program's and the model's. -/
import Derived.Test.YtmoliamenekemaaCore2
import Derived.Test.YtmoliamenekemaaCells2
import Derived.Test.YtmoliamenekemaaTCore
namespace Go.Proofs.Ytmoliamenekemaa
set_option linter.unusedVariables false
open Go.RowKit
theorem off_fin : ∀ a : Fin 64, ∀ k : Fin 6, offersF ((a : Nat) : Int) (2 ^ (k : Nat)) = hasI ((a : Nat) : Int) (k : Nat) := by decide +kernel
theorem off_has {f : Int} (hf : isF f = true) (k : Nat) (hk : k < 6) : offersF f (2 ^ k) = hasI f k := by
  obtain ⟨a, rfl⟩ := isF_fin hf
  exact off_fin a ⟨k, hk⟩
/-- the kind, or -1, of a core; its face -/
def coreF (d : CoreD) : Int := kfI (kindI d.fKind)
def coreB (d : CoreD) : Bool := decide (0 ≤ kindI d.fKind) && cellsB d.fCells && (decide (d.fCells.length = 0) || hasI (coreF d) 1) && (!(d.fOn || d.fBroken) || hasI (coreF d) 0) && numB d.fCount && !(d.fOn && d.fBroken)
theorem kindOff_has (l : List UInt8) (h : decide (0 ≤ kindI l) = true) (k : Nat) (hk : k < 6) : kindOff l (2 ^ k) = hasI (kfI (kindI l)) k := by
  unfold kindOff; rw [h, Bool.true_and, off_has (kfI_face _) k hk]
theorem implKind_b (l : List UInt8) (x : Bool) (h : decide (0 ≤ kindI l) = x) (w : World) :
    Calls Try.prog 70 #[.string ⟨l.toArray⟩] w fun e w' => e = .returned (.tuple #[.int .i64 (kfI (kindI l)), .bool x]) ∧ w = w' := by
  subst h; exact implKind_any ⟨l.toArray⟩ w
theorem specKind_b (l : List UInt8) (x : Bool) (h : decide (0 ≤ kindI l) = x) (w : World) :
    Calls Try.prog 64 #[.string ⟨l.toArray⟩] w fun e w' => e = .returned (.tuple #[.int .i64 (kfI (kindI l)), .bool x]) ∧ Below w.heap.size w w' := by
  subst h; exact specKind_any ⟨l.toArray⟩ w
set_option maxRecDepth 100000 in
set_option maxHeartbeats 6400000 in
theorem implIsCore_any (v : Value) (d : CoreD) (w : World) (hx : CoreAt w v d) (hs : ∀ c ∈ d.fCells, c.fKey.length ≤ maxLen) :
    Calls Try.prog 40 #[v] w fun e w' => e = .returned (.bool (coreB d)) ∧ Below w.heap.size w w' := by
  obtain ⟨cv, rfl, hx⟩ := hx
  have HKD := Lib.hid (implKind_b d.fKind)
  have HOF := Lib.hid (kindOff_has d.fKind)
  have HKO := Lib.hid (kindOffers_b d.fKind)
  have HNU := Lib.hid (isNumber_b d.fCount)
  have HR := Lib.hid (show coreB d = (decide (0 ≤ kindI d.fKind) && cellsB d.fCells && (decide (d.fCells.length = 0) || hasI (kfI (kindI d.fKind)) 1) && (!(d.fOn || d.fBroken) || hasI (kfI (kindI d.fKind)) 0) && numB d.fCount && !(d.fOn && d.fBroken)) from rfl)
  generalize coreB d = res at *
  obtain ⟨kd, on, br, l, cnt⟩ := d
  unfold vCore
  simp only at *
  obtain ⟨a, c, rfl, hl⟩ := flatAt_len hx
  unfold maxLen at hl
  have HB0 := Lib.hid (show ∀ o, Below w.heap.size w (w.alloc o) from fun o => (Below.refl w.heap.size w).alloc (Nat.le_refl _) o)
  have HIC := Lib.hid (fun o => implIsCells_any _ l (w.alloc o) (hx.below (HB0.out o) (Nat.le_refl _)) hs)
  clear hx hs
  have HF := Lib.hid (show decide (0 ≤ kindI kd) = true → (∀ w, Calls Try.prog 72 #[.string ⟨kd.toArray⟩, .int .i64 2] w fun e w' => e = .returned (.bool (hasI (kfI (kindI kd)) 1)) ∧ w = w') ∧ ∀ w, Calls Try.prog 72 #[.string ⟨kd.toArray⟩, .int .i64 1] w fun e w' => e = .returned (.bool (hasI (kfI (kindI kd)) 0)) ∧ w = w' from fun h => ⟨HKO.out 2 _ (HOF.out h 1 (by decide)), HKO.out 1 _ (HOF.out h 0 (by decide))⟩)
  generalize hasI (kfI (kindI kd)) 1 = h1 at *
  generalize hasI (kfI (kindI kd)) 0 = h0 at *
  generalize numB cnt = nb at *
  have HNB := Lib.hid (HNU.out _ rfl)
  cases hk : decide (0 ≤ kindI kd) with
  | false =>
    have HK := Lib.hid (HKD.out _ hk)
    rw [hk] at HR
    clear hk HNU HKD HKO HOF HF
    go_enter Try.func40, Try.ntmps40
    go_wp2_with fail
    refine (HK.out _).mono ?_
    rintro e w1 ⟨rfl, rfl⟩
    go_wp2_with fail
    go_ret
    exact ⟨ret_bool HR.out.symm, HB0.out _⟩
  | true =>
    have HK := Lib.hid (HKD.out _ hk)
    have HK2 := Lib.hid (HF.out hk).1
    have HK1 := Lib.hid (HF.out hk).2
    rw [hk] at HR
    clear hk HNU HKD HKO HOF HF
    generalize cellsB l = cb at *
    go_enter Try.func40, Try.ntmps40
    go_wp2_with fail
    refine (HK.out _).mono ?_
    rintro e w1 ⟨rfl, rfl⟩
    go_wp2_with fail
    refine (HIC.out _).mono ?_
    rintro e w1 ⟨rfl, hb⟩
    have HB := Lib.hid ((HB0.out _).trans (hb.mono (HB0.out _).size))
    obtain ⟨hcc, _⟩ := bcell hb
    simp at hcc
    clear hb
    cases cb with
    | false =>
      go_wp2_with fail
      go_ret
      exact ⟨ret_bool (by rw [HR.out]; rfl), HB.out⟩
    | true =>
      by_cases hn : 0 < l.length
      · have hg : decide ((0 : Int) < (l.length : Int)) = true := decide_eq_true (by omega)
        rw [show decide (l.length = 0) = false from decide_eq_false (by omega)] at HR
        cases h1 with
        | false =>
          go_wp2_with (first | (go_at_call 72; (with_reducible refine (HK2.out _).mono ?_); rintro e w' ⟨rfl, rfl⟩))
          go_ret
          exact ⟨ret_bool (by rw [HR.out]; rfl), HB.out⟩
        | true =>
          cases on <;> cases br <;> cases h0 <;> cases nb
          all_goals
            go_wp2_with (first | (go_at_call 72; (with_reducible refine (HK2.out _).mono ?_); rintro e w' ⟨rfl, rfl⟩) | (go_at_call 72; (with_reducible refine (HK1.out _).mono ?_); rintro e w' ⟨rfl, rfl⟩) | (go_at_call 73; (with_reducible refine (HNB.out _).mono ?_); rintro e w' ⟨rfl, rfl⟩))
            go_ret
            exact ⟨ret_bool (by rw [HR.out]; rfl), HB.out⟩
      · have hg : decide ((0 : Int) < (l.length : Int)) = false := decide_eq_false (by omega)
        rw [show decide (l.length = 0) = true from decide_eq_true (by omega)] at HR
        have hg2 : (l.length : Int) ≤ 0 := by omega
        clear hn
        cases on <;> cases br <;> cases h0 <;> cases nb
        all_goals
          go_wp2_with (first | (go_at_call 72; (with_reducible refine (HK1.out _).mono ?_); rintro e w' ⟨rfl, rfl⟩) | (go_at_call 73; (with_reducible refine (HNB.out _).mono ?_); rintro e w' ⟨rfl, rfl⟩))
          go_ret
          exact ⟨ret_bool (by rw [HR.out]; rfl), HB.out⟩
end Go.Proofs.Ytmoliamenekemaa
