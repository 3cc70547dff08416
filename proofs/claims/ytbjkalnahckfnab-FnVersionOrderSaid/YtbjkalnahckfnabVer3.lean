/- Contracts of chapter 5: FormatVersion, the program's and the model's. -/
import Derived.Test.YtbjkalnahckfnabVerT
import Derived.Test.YtbjkalnahckfnabVer2
import Derived.Test.YtbjkalnahckfnabJoin
namespace Go.Proofs.Ytbjkalnahckfnab
set_option linter.unusedVariables false
open Go.RowKit
theorem rowT2 (w : World) (a b : List UInt8) (c : Nat) : RowAt (w.alloc (.cells #[.string ⟨a.toArray⟩, .string ⟨b.toArray⟩] 9)) (.slice (some ⟨w.heap.size, 0, none⟩) 2 c) ([a, b].map strV) := by
  refine ⟨_, c, rfl, by unfold maxLen; simp, Or.inr ⟨w.heap.size, 0, rfl, by simp, fun i hi => ?_⟩⟩
  rw [cell_of_row _ _ _ _ 9 (0, 0) (heap_alloc_new w _)]
  simp [strV]
theorem vcell {W w1 : World} (hb : Below W.heap.size W w1) : ∀ b o, b < W.heap.size → w1.cell? ⟨b, o, none⟩ = W.cell? ⟨b, o, none⟩ := fun b o h => hb.cell (p := ⟨b, o, none⟩) h
theorem bel_drew {B : Nat} {a w : World} (h : Below B a w) : Below B a w.drew := ⟨h.os, h.tape, h.output, h.size, h.block⟩
theorem bel_al {B : Nat} {w w1 : World} (h : Below B w w1) (hB : B ≤ w1.heap.size) (o) : Below B w (w1.alloc o) := h.alloc hB o
set_option maxRecDepth 100000 in
set_option maxHeartbeats 1600000 in
theorem implFmtVer_any (d : VersionD) (w : World) :
    Calls Try.prog 28 #[vVersion d] w fun e w' => e = .returned (.string ⟨(fmtVer d).toArray⟩) ∧ Below w.heap.size w w' := by
  cases hv : verB d with
  | false =>
    have HI := Lib.hid (implIsVer_b d false hv)
    rw [fmtVer_no hv]
    obtain ⟨a, b⟩ := d
    unfold vVersion at *
    clear hv
    simp only at *
    go_enter Try.func28, Try.ntmps28
    go_wp2_with fail
    refine (HI.out _).mono ?_
    rintro e w1 ⟨rfl, hb⟩
    have HB := Lib.hid (bel_to (box1 _ _) hb)
    clear hb
    go_wp2_with fail
    go_ret
    exact ⟨rfl, HB.out⟩
  | true =>
    have HI := Lib.hid (implIsVer_b d true hv)
    have HF := Lib.hid (fmtVer_yes hv)
    obtain ⟨h1, h2⟩ := verB_parts hv
    obtain ⟨a, b⟩ := d
    simp only at h1 h2
    have l1 := vn_len h1
    have l2 := vn_len h2
    have k1 := of_decide_eq_true h1
    have k2 := of_decide_eq_true h2
    have HA := Lib.hid (fun w0 => implFormat_any a w0 (by omega) (by omega))
    have HC := Lib.hid (fun w0 => implFormat_any b w0 (by omega) (by omega))
    have HJ := Lib.hid (fun (w0 : World) (n0 : Nat) (h : n0 = w0.heap.size) => implJoin_any (.slice (some ⟨n0, 0, none⟩) 2 2) [numL a, numL b] ⟨#[46]⟩ _ (by subst h; exact rowT2 w0 (numL a) (numL b) 2) (by simp only; rw [joinL_two]; simp; omega) (by decide))
    unfold vVersion at *
    generalize fmtVer ⟨a, b⟩ = res at *
    clear hv h1 h2 k1 k2 l1 l2
    simp only at *
    go_enter Try.func28, Try.ntmps28
    go_wp2_with fail
    refine (HI.out _).mono ?_
    rintro e w1 ⟨rfl, hb⟩
    have HB := Lib.hid (bel_to (box1 _ _) hb)
    have hcc := vcell hb
    simp at hcc
    have c0 := hcc w.heap.size 0 (by omega)
    have c1 := hcc w.heap.size 1 (by omega)
    simp at c0 c1
    have hsz := hb.size
    simp at hsz
    have HS := Lib.hid (show w.heap.size < w1.heap.size by omega)
    clear hb hcc hsz
    go_wp2_with fail
    go_region_held3 (fun w' => w'.cell? ⟨w.heap.size, 0, none⟩ = some (.int .i64 a) ∧ w'.cell? ⟨w.heap.size, 1, none⟩ = some (.int .i64 b))
      (first
        | go_keep
        | (rw [hb1.cell (p := ⟨w.heap.size, 0, none⟩) (by have := HS.out; simp; omega), hb1.cell (p := ⟨w.heap.size, 1, none⟩) (by have := HS.out; simp; omega)]; first | assumption | exact ⟨by assumption, by assumption⟩)
        | (rw [hb2.cell (p := ⟨w.heap.size, 0, none⟩) (by have := HS.out; have := hb1.size; simp at *; omega), hb2.cell (p := ⟨w.heap.size, 1, none⟩) (by have := HS.out; have := hb1.size; simp at *; omega)]; assumption)
        | (rw [hb3.cell (p := ⟨w.heap.size, 0, none⟩) (by have := HS.out; have := hb1.size; have := hb2.size; simp at *; omega), hb3.cell (p := ⟨w.heap.size, 1, none⟩) (by have := HS.out; have := hb1.size; have := hb2.size; simp at *; omega)]; assumption))
      (first
        | (go_at_call 54; (with_reducible refine (HA.out _).mono ?_); rintro e w2 ⟨rfl, hb1⟩)
        | (go_at_call 54; (with_reducible refine (HC.out _).mono ?_); rintro e w3 ⟨rfl, hb2⟩)
        | (go_at_call 53; refine (HJ.out _ _ rfl).mono ?_; rintro e w4 ⟨rfl, hb3⟩))
    have HB1 := Lib.hid (bel_drew HB.out)
    have HB2 := Lib.hid (HB1.out.trans (hb1.mono HB1.out.size))
    have HB3 := Lib.hid (HB2.out.trans (hb2.mono HB2.out.size))
    have HB4 := Lib.hid (bel_al HB3.out HB3.out.size (.cells #[.string ⟨(numL a).toArray⟩, .string ⟨(numL b).toArray⟩] 9))
    have HB5 := Lib.hid (HB4.out.trans (hb3.mono HB4.out.size))
    rename_i hheld
    clear hb1 hb2 hb3 hheld
    go_wp2_with fail
    go_ret
    exact ⟨ret_str HF.out.symm, HB5.out⟩
theorem verT_cat (a b : Int) : ((⟨(numL a).toArray⟩ ++ ⟨#[46]⟩ ++ ⟨(numL b).toArray⟩ : ByteArray)).data.toList = joinL [numL a, numL b] [46] := by
  rw [data_app, data_app, joinL_two]; simp
theorem sizeT (l : List UInt8) : (⟨l.toArray⟩ : ByteArray).size = l.length := by simp [ByteArray.size]
end Go.Proofs.Ytbjkalnahckfnab
