/- Deals: when two are equal. -/
import Derived.Test.YtbofplofpggdlaaNeg4
import Derived.StillTailTactics
namespace Go.Proofs.Ytbofplofpggdlaa
set_option linter.unusedVariables false
open Go.RowKit
theorem bcellD {W w1 : World} (hb : Below W.heap.size W w1) : (∀ b o, b < W.heap.size → w1.cell? ⟨b, o, none⟩ = W.cell? ⟨b, o, none⟩) ∧ (∀ b o, b < W.heap.size → w1.frozen? ⟨b, o, none⟩ = W.frozen? ⟨b, o, none⟩) :=
  ⟨fun b o h => hb.cell (p := ⟨b, o, none⟩) h, fun b o h => hb.frozen (p := ⟨b, o, none⟩) h⟩
set_option maxRecDepth 100000 in
set_option maxHeartbeats 1600000 in
theorem eqDeal_any (x y : DealD) (w : World) :
    Calls Try.prog 13 #[vDeal x, vDeal y] w fun e w' => e = .returned (.bool (decide (x = y))) ∧ Below w.heap.size w w' := by
  obtain ⟨a0, a1, a2⟩ := x
  obtain ⟨b0, b1, b2⟩ := y
  unfold vDeal
  simp only
  have HC := Lib.hid (eqVersion_any ⟨a0, a1⟩ ⟨b0, b1⟩)
  have HQ := Lib.hid (show decide ((⟨a0, a1, a2⟩ : DealD) = ⟨b0, b1, b2⟩) = (decide ((⟨a0, a1⟩ : VersionD) = ⟨b0, b1⟩) && decide (a2 = b2)) by rw [Bool.eq_iff_iff]; simp [and_assoc])
  generalize decide ((⟨a0, a1, a2⟩ : DealD) = ⟨b0, b1, b2⟩) = q at *
  generalize decide ((⟨a0, a1⟩ : VersionD) = ⟨b0, b1⟩) = p at *
  simp only [vVersion] at HC
  cases p with
  | false =>
    have HN := Lib.hid (show q = false from HQ.out)
    go_enter Try.func13, Try.ntmps13
    go_wp2_with fail
    refine (HC.out _).mono ?_
    rintro e w2 ⟨rfl, hb⟩
    have HB3 := Lib.hid (bel_to (box2 w _ _) hb)
    clear hb
    go_wp2_with fail
    go_ret
    exact ⟨ret_bool HN.out.symm, HB3.out⟩
  | true =>
    by_cases h : a2 = b2
    · have HN := Lib.hid (show q = true from by rw [HQ.out, h]; simp)
      subst h
      go_enter Try.func13, Try.ntmps13
      go_wp2_with fail
      refine (HC.out _).mono ?_
      rintro e w2 ⟨rfl, hb⟩
      have HB3 := Lib.hid (bel_to (box2 w _ _) hb)
      obtain ⟨hcc, hff⟩ := bcellD hb
      clear hb
      go_wp2_with fail
      go_ret
      exact ⟨ret_bool HN.out.symm, HB3.out⟩
    · have HN := Lib.hid (show q = false from by rw [HQ.out]; simpa using h)
      have hne : (a2 == b2) = false := by simpa using h
      have hnf : (a2 != b2) = true := by simpa using h
      clear h
      go_enter Try.func13, Try.ntmps13
      go_wp2_with fail
      refine (HC.out _).mono ?_
      rintro e w2 ⟨rfl, hb⟩
      have HB3 := Lib.hid (bel_to (box2 w _ _) hb)
      obtain ⟨hcc, hff⟩ := bcellD hb
      clear hb
      go_wp2_with fail
      go_ret
      exact ⟨ret_bool HN.out.symm, HB3.out⟩
end Go.Proofs.Ytbofplofpggdlaa
