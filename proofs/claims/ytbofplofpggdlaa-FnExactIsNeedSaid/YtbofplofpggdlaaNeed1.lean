/- Contracts of chapter 6: IsNeed, both sides. -/
import Derived.Test.YtbofplofpggdlaaTNeed
import Derived.Test.YtbofplofpggdlaaVer1
import Derived.Test.YtbofplofpggdlaaFace1
import Derived.Test.YtbofplofpggdlaaL01a
namespace Go.Proofs.Ytbofplofpggdlaa
set_option linter.unusedVariables false
set_option linter.unusedSimpArgs false
open Go.RowKit
theorem bel_toN {w w1 X : World} (h : Below w.heap.size w w1) (hb : Below w1.heap.size w1 X) : Below w.heap.size w X := h.trans (hb.mono h.size)
def needB (d : NeedD) : Bool := isF d.fFace && (!decide (d.fFace = 0) && ((decide (d.fFrom = []) || nameB d.fFrom) && verB ⟨d.fMajor, d.fMinor⟩))
set_option maxRecDepth 100000 in
set_option maxHeartbeats 1600000 in
theorem implIsNeed_any (d : NeedD) (w : World) (hs : d.fFrom.length ≤ maxLen) :
    Calls Try.prog 30 #[vNeed d] w fun e w' => e = .returned (.bool (needB d)) ∧ Below w.heap.size w w' := by
  obtain ⟨a0, a1, a2, a3⟩ := d
  have HI := Lib.hid (implIsFace_any a0)
  have HN := Lib.hid (fun w1 => implIsName_any ⟨a1.toArray⟩ w1 (by simpa [ByteArray.size] using hs))
  have HV := Lib.hid (fun w1 => implIsVer_any ⟨a2, a3⟩ w1)
  unfold vNeed needB
  simp only [vVersion, List.toList_toArray] at *
  generalize isF a0 = p at *
  generalize verB ⟨a2, a3⟩ = q at *
  generalize nameB a1 = n at *
  clear hs
  cases p with
  | false =>
    go_enter Try.func30, Try.ntmps30
    go_wp2_with (first | (go_at_call 56; (with_reducible refine (HI.out _).mono ?_); rintro e w' ⟨rfl, rfl⟩))
    go_ret
    exact ⟨ret_bool (by simp), box1 w _⟩
  | true =>
    by_cases h0 : a0 = 0
    · subst h0
      go_enter Try.func30, Try.ntmps30
      go_wp2_with (first | (go_at_call 56; (with_reducible refine (HI.out _).mono ?_); rintro e w' ⟨rfl, rfl⟩))
      go_ret
      exact ⟨ret_bool (by simp), box1 w _⟩
    · have HD := Lib.hid (show decide (a0 = 0) = false from decide_eq_false h0)
      have hne : (a0 == 0) = false := by simpa using h0
      have hnf : (a0 != 0) = true := by simpa using h0
      clear h0
      rw [HD.out]
      cases a1 with
      | nil =>
        go_enter Try.func30, Try.ntmps30
        go_wp2_with (first | (go_at_call 56; (with_reducible refine (HI.out _).mono ?_); rintro e w' ⟨rfl, rfl⟩))
        refine (HV.out _).mono ?_
        rintro e w1 ⟨rfl, hb⟩
        have HB := Lib.hid (bel_toN (box1 w _) hb)
        clear hb
        go_wp2_with fail
        go_ret
        exact ⟨ret_bool (by simp), HB.out⟩
      | cons c r =>
        cases n with
        | false =>
          go_enter Try.func30, Try.ntmps30
          go_wp2_with (first | (go_at_call 56; (with_reducible refine (HI.out _).mono ?_); rintro e w' ⟨rfl, rfl⟩) | (go_at_call 57; (with_reducible refine (HN.out _).mono ?_); rintro e w' ⟨rfl, rfl⟩))
          go_ret
          exact ⟨ret_bool (by simp), box1 w _⟩
        | true =>
          go_enter Try.func30, Try.ntmps30
          go_wp2_with (first | (go_at_call 56; (with_reducible refine (HI.out _).mono ?_); rintro e w' ⟨rfl, rfl⟩) | (go_at_call 57; (with_reducible refine (HN.out _).mono ?_); rintro e w' ⟨rfl, rfl⟩))
          refine (HV.out _).mono ?_
          rintro e w1 ⟨rfl, hb⟩
          have HB := Lib.hid (bel_toN (box1 w _) hb)
          clear hb
          go_wp2_with fail
          go_ret
          exact ⟨ret_bool (by simp), HB.out⟩
set_option maxRecDepth 100000 in
set_option maxHeartbeats 1600000 in
theorem specIsNeed_any (d : NeedD) (w : World) (hs : d.fFrom.length ≤ maxLen) :
    Calls Try.prog 28 #[vNeed d] w fun e w' => e = .returned (.bool (needB d)) ∧ Below w.heap.size w w' := by
  obtain ⟨a0, a1, a2, a3⟩ := d
  have HI := Lib.hid (specIsFace_any a0)
  have HN := Lib.hid (fun w1 => specIsName_any ⟨a1.toArray⟩ w1 (by simpa [ByteArray.size] using hs))
  have HV := Lib.hid (fun w1 => specIsVer_any ⟨a2, a3⟩ w1)
  unfold vNeed needB
  simp only [vVersion, List.toList_toArray] at *
  generalize isF a0 = p at *
  generalize verB ⟨a2, a3⟩ = q at *
  generalize nameB a1 = n at *
  clear hs
  cases p with
  | false =>
    go_enter Try.func28, Try.ntmps28
    go_wp2_with (first | (go_at_call 52; (with_reducible refine (HI.out _).mono ?_); rintro e w' ⟨rfl, rfl⟩))
    go_ret
    exact ⟨ret_bool (by simp), box1 w _⟩
  | true =>
    by_cases h0 : a0 = 0
    · subst h0
      go_enter Try.func28, Try.ntmps28
      go_wp2_with (first | (go_at_call 52; (with_reducible refine (HI.out _).mono ?_); rintro e w' ⟨rfl, rfl⟩))
      go_ret
      exact ⟨ret_bool (by simp), box1 w _⟩
    · have HD := Lib.hid (show decide (a0 = 0) = false from decide_eq_false h0)
      have hne : (a0 == 0) = false := by simpa using h0
      have hnf : (a0 != 0) = true := by simpa using h0
      clear h0
      rw [HD.out]
      cases a1 with
      | nil =>
        go_enter Try.func28, Try.ntmps28
        go_wp2_with (first | (go_at_call 52; (with_reducible refine (HI.out _).mono ?_); rintro e w' ⟨rfl, rfl⟩))
        refine (HV.out _).mono ?_
        rintro e w1 ⟨rfl, hb⟩
        have HB := Lib.hid (bel_toN (box1 w _) hb)
        clear hb
        go_wp2_with fail
        go_ret
        exact ⟨ret_bool (by simp), HB.out⟩
      | cons c r =>
        cases n with
        | false =>
          go_enter Try.func28, Try.ntmps28
          go_wp2_with (first | (go_at_call 52; (with_reducible refine (HI.out _).mono ?_); rintro e w' ⟨rfl, rfl⟩) | (go_at_call 53; (with_reducible refine (HN.out _).mono ?_); rintro e w' ⟨rfl, rfl⟩))
          go_ret
          exact ⟨ret_bool (by simp), box1 w _⟩
        | true =>
          go_enter Try.func28, Try.ntmps28
          go_wp2_with (first | (go_at_call 52; (with_reducible refine (HI.out _).mono ?_); rintro e w' ⟨rfl, rfl⟩) | (go_at_call 53; (with_reducible refine (HN.out _).mono ?_); rintro e w' ⟨rfl, rfl⟩))
          refine (HV.out _).mono ?_
          rintro e w1 ⟨rfl, hb⟩
          have HB := Lib.hid (bel_toN (box1 w _) hb)
          clear hb
          go_wp2_with fail
          go_ret
          exact ⟨ret_bool (by simp), HB.out⟩
end Go.Proofs.Ytbofplofpggdlaa
