/- Contracts of chapter 3: FormatReply, the program's and the model's. -/
import Derived.Test.YtmgfokikkhfibabTReply
import Derived.Test.YtmgfokikkhfibabCells3
import Derived.Test.YtmgfokikkhfibabFmt1
import Derived.Test.YtmgfokikkhfibabFace7
import Derived.Test.YtmgfokikkhfibabTCore
import Derived.Deep.RegionHeld3
namespace Go.Proofs.Ytmgfokikkhfibab
set_option linter.unusedVariables false
open Go.RowKit
def codeT : Nat → List UInt8
  | 2 => [111, 102, 102]
  | 3 => [98, 114, 111, 107, 101, 110]
  | 4 => [110, 111, 110, 101]
  | 5 => [102, 117, 108, 108]
  | 6 => [114, 101, 102, 117, 115, 101, 100]
  | 7 => [98, 97, 100]
  | _ => []
def okW : List UInt8 := [111, 107]
def fmtReply (d : ReplyD) : List UInt8 :=
  if d.fCode = 0 then joinL ([[111, 107], numL d.fValue] ++ if d.fText = [] then [] else [d.fText]) [32]
  else if d.fCode = 1 then joinL [[97, 115, 115, 101, 114, 116], fmtF d.fWant, [111, 102], fmtF d.fHad] [32]
  else if d.fCode < 0 then [] else codeT d.fCode.toNat
theorem numL_len21 (n : Int) : (numL n).length ≤ 21 := by
  have := digs_len 20 n.natAbs
  unfold numL; split <;> simp <;> omega
theorem row_lit4 (w : World) (a b c d : List UInt8) (k : Nat) : RowAt (w.alloc (.cells #[.string ⟨a.toArray⟩, .string ⟨b.toArray⟩, .string ⟨c.toArray⟩, .string ⟨d.toArray⟩] 9)) (.slice (some ⟨w.heap.size, 0, none⟩) 4 k) ([a, b, c, d].map strV) := by
  refine ⟨_, k, rfl, by unfold maxLen; simp, Or.inr ⟨w.heap.size, 0, rfl, by simp, fun i hi => ?_⟩⟩
  rw [cell_of_row _ _ _ _ 9 (0, 0) (heap_alloc_new w _)]
  simp [strV]
theorem owns_two (w : World) (B : Nat) (a b : List UInt8) (h : B ≤ w.heap.size) : Owns (w.alloc (.cells #[.string ⟨a.toArray⟩, .string ⟨b.toArray⟩] 9)) B (.slice (some ⟨w.heap.size, 0, none⟩) 2 2) [a, b] :=
  ⟨rfl, .inr ⟨w.heap.size, 2, #[.string ⟨a.toArray⟩, .string ⟨b.toArray⟩], rfl, h, heap_alloc_new w _, Nat.le_refl _, by decide, rfl, by simp [strV]⟩⟩
theorem belD9 {B : Nat} {a w : World} (h : Below B a w) : Below B a w.drew := ⟨h.os, h.tape, h.output, h.size, h.block⟩
theorem join4 (a b c d : List UInt8) : joinL [a, b, c, d] [32] = a ++ [32] ++ (b ++ [32] ++ (c ++ 32 :: d)) := by
  rw [joinL_cons a [b, c, d] [32] (by simp), joinL_cons b [c, d] [32] (by simp), joinL_two]
set_option maxRecDepth 100000 in
set_option maxHeartbeats 3200000 in
theorem implFormatReply_any (d : ReplyD) (w : World) (h0 : -9223372036854775808 ≤ d.fValue) (h1 : d.fValue ≤ 9223372036854775807) (ht : d.fText.length ≤ 1048576) :
    Calls Try.prog 28 #[vReply d] w fun e w' => e = .returned (.string ⟨(fmtReply d).toArray⟩) ∧ Below w.heap.size w w' := by
  obtain ⟨code, v, text, want, had⟩ := d
  unfold vReply
  simp only at *
  have HB0 := Lib.hid (show ∀ o, Below w.heap.size w (w.alloc o) from fun o => (Below.refl w.heap.size w).alloc (Nat.le_refl _) o)
  by_cases k0 : code = 0
  · subst k0
    have HF := Lib.hid (show fmtReply ⟨0, v, text, want, had⟩ = joinL ([[111, 107], numL v] ++ if text = [] then [] else [text]) [32] from if_pos rfl)
    have HFN := Lib.hid (fun w0 => implFormat_any v w0 h0 h1)
    have hl := numL_len21 v
    clear h0 h1
    cases text with
    | nil =>
      go_enter Try.func28, Try.ntmps28
      go_wp2_with fail
      refine (HFN.out _).mono ?_
      rintro e w1 ⟨rfl, hb⟩
      have HB := Lib.hid ((HB0.out _).trans (hb.mono (HB0.out _).size))
      obtain ⟨hcc, _⟩ := bcell hb
      simp at hcc
      have c2 := hcc w.heap.size 2 (by omega)
      simp at c2
      have hlt : w.heap.size < w1.heap.size := by have h := hb.size; simp at h; omega
      clear hb hcc
      go_wp2_with fail
      refine (implJoin_any _ [[111, 107], numL v] ⟨#[32]⟩ _ (row_lit2 w1 [111, 107] (numL v) 2) (by rw [join2_len]; simp; omega) (by decide)).mono ?_
      rintro e w2 ⟨rfl, hb⟩
      go_wp2_with fail
      go_ret
      exact ⟨ret_str HF.out.symm, HB.out.trans ((((Below.refl w1.heap.size w1).alloc (Nat.le_refl _) _).trans (hb.mono (by simp))).mono HB.out.size)⟩
    | cons a r =>
      go_enter Try.func28, Try.ntmps28
      go_wp2_with fail
      refine (HFN.out _).mono ?_
      rintro e w1 ⟨rfl, hb⟩
      have HB := Lib.hid ((HB0.out _).trans (hb.mono (HB0.out _).size))
      obtain ⟨hcc, _⟩ := bcell hb
      simp at hcc
      have c2 := hcc w.heap.size 2 (by omega)
      simp at c2
      have hlt : w.heap.size < w1.heap.size := by have h := hb.size; simp at h; omega
      clear hb hcc
      have HO0 := Lib.hid (owns_two w1 w1.heap.size [111, 107] (numL v) (Nat.le_refl _))
      have HA0 := Lib.hid (show ∀ o, Below w1.heap.size w1 (w1.alloc o) from fun o => (Below.refl w1.heap.size w1).alloc (Nat.le_refl _) o)
      go_wp2_with (at_builtin; refine append_strs rfl _ _ rfl w1.heap.size _ [[111, 107], numL v] (a :: r) _ (w1.heap.size + 1) (by rfl) (owns_alloc HO0.out _) rfl (cell_newS _ _ ⟨(a :: r).toArray⟩ _ (by simp)) (by simp) (by simp; omega) ?_; intro v3 w3 hO3 hg3)
      have B3 := Lib.hid (below_append ((HA0.out _).alloc (HA0.out _).size _) (owns_alloc HO0.out _) hg3 (by simp; omega))
      refine (implJoin_any _ [[111, 107], numL v, a :: r] ⟨#[32]⟩ _ (owns_row hO3 (by simp)) (by rw [join3_len]; simp at *; omega) (by decide)).mono ?_
      rintro e w4 ⟨rfl, hb⟩
      clear hO3 hg3
      go_wp2_with fail
      go_ret
      exact ⟨ret_str (by rw [HF.out]; rfl), HB.out.trans ((B3.out.trans (hb.mono B3.out.size)).mono HB.out.size)⟩
  · by_cases k1 : code = 1
    · subst k1
      have HF := Lib.hid (show fmtReply ⟨1, v, text, want, had⟩ = joinL [[97, 115, 115, 101, 114, 116], fmtF want, [111, 102], fmtF had] [32] from rfl)
      have HW := Lib.hid (implFormatFace_any want)
      have HH := Lib.hid (implFormatFace_any had)
      have l1 := fmtF_len want
      have l2 := fmtF_len had
      generalize fmtF want = x at *
      generalize fmtF had = y at *
      have HJ := Lib.hid (fun (w0 : World) (n0 : Nat) (h : n0 = w0.heap.size) => implJoin_any (.slice (some ⟨n0, 0, none⟩) 4 4) [[97, 115, 115, 101, 114, 116], x, [111, 102], y] ⟨#[32]⟩ _ (by subst h; exact row_lit4 w0 _ x _ y 4) (by rw [join4]; simp; omega) (by decide))
      clear h0 h1 k0
      go_enter Try.func28, Try.ntmps28
      go_wp2_with fail
      go_region_held3 (fun w' => w'.cell? ⟨w.heap.size, 3, none⟩ = some (.int .i64 want) ∧ w'.cell? ⟨w.heap.size, 4, none⟩ = some (.int .i64 had))
        (first
          | go_keep
          | (rw [hb3.cell (p := ⟨w.heap.size, 3, none⟩) (by have := hb1.size; have := hb2.size; simp at *; omega), hb3.cell (p := ⟨w.heap.size, 4, none⟩) (by have := hb1.size; have := hb2.size; simp at *; omega)]; assumption)
          | (rw [hb2.cell (p := ⟨w.heap.size, 3, none⟩) (by have := hb1.size; simp at *; omega), hb2.cell (p := ⟨w.heap.size, 4, none⟩) (by have := hb1.size; simp at *; omega)]; assumption)
          | (rw [hb1.cell (p := ⟨w.heap.size, 3, none⟩) (by simp), hb1.cell (p := ⟨w.heap.size, 4, none⟩) (by simp)]; assumption))
        (first
          | (go_at_call 50; (with_reducible refine (HW.out _).mono ?_); rintro e w1 ⟨rfl, hb1⟩)
          | (go_at_call 50; (with_reducible refine (HH.out _).mono ?_); rintro e w2 ⟨rfl, hb2⟩)
          | (go_at_call 43; refine (HJ.out _ _ rfl).mono ?_; rintro e w3 ⟨rfl, hb3⟩))
      have B1 := (belD9 (HB0.out _)).trans (hb1.mono (belD9 (HB0.out _)).size)
      have B2 := B1.trans (hb2.mono B1.size)
      have B3 := Lib.hid ((B2.alloc B2.size _).trans (hb3.mono (B2.alloc B2.size _).size))
      rename_i hheld
      clear hb1 hb2 hb3 B1 B2 hheld
      go_wp2_with fail
      go_ret
      exact ⟨ret_str HF.out.symm, B3.out⟩
    · have b0 : (code == 0) = false := by simpa using k0
      have b1 : (code == 1) = false := by simpa using k1
      have HF := Lib.hid (show fmtReply ⟨code, v, text, want, had⟩ = if code < 0 then [] else codeT code.toNat from by unfold fmtReply; simp only; rw [if_neg k0, if_neg k1])
      clear h0 h1
      rcases (show code = 2 ∨ code = 3 ∨ code = 4 ∨ code = 5 ∨ code = 6 ∨ code = 7 ∨ code < 0 ∨ 7 < code by omega) with rfl | rfl | rfl | rfl | rfl | rfl | hc | hc
      iterate 6
        · clear k0 k1 b0 b1
          go_enter Try.func28, Try.ntmps28
          go_wp2_with fail
          go_ret
          exact ⟨ret_str (by rw [HF.out]; rfl), HB0.out _⟩
      · rw [if_pos hc] at HF
        have b2 : (code == 2) = false := by simp; omega
        have b3 : (code == 3) = false := by simp; omega
        have b4 : (code == 4) = false := by simp; omega
        have b5 : (code == 5) = false := by simp; omega
        have b6 : (code == 6) = false := by simp; omega
        have b7 : (code == 7) = false := by simp; omega
        clear k0 k1 hc
        go_enter Try.func28, Try.ntmps28
        go_wp2_with fail
        go_ret
        exact ⟨ret_str (by rw [HF.out]), HB0.out _⟩
      · rw [if_neg (by omega), show codeT code.toNat = [] by unfold codeT; split <;> first | rfl | (exfalso; omega)] at HF
        have b2 : (code == 2) = false := by simp; omega
        have b3 : (code == 3) = false := by simp; omega
        have b4 : (code == 4) = false := by simp; omega
        have b5 : (code == 5) = false := by simp; omega
        have b6 : (code == 6) = false := by simp; omega
        have b7 : (code == 7) = false := by simp; omega
        clear k0 k1 hc
        go_enter Try.func28, Try.ntmps28
        go_wp2_with fail
        go_ret
        exact ⟨ret_str (by rw [HF.out]), HB0.out _⟩
end Go.Proofs.Ytmgfokikkhfibab
