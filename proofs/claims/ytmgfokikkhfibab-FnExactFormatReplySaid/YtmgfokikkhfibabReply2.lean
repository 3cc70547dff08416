/- Contracts of chapter 3: the model's FormatReply. -/
import Derived.Test.YtmgfokikkhfibabReply1
namespace Go.Proofs.Ytmgfokikkhfibab
set_option linter.unusedVariables false
open Go.RowKit
theorem codes_cell (w : World) (c : Int) (h0 : 2 ≤ c) (h1 : c ≤ 7) : (w.alloc (.cells #[.string ⟨#[]⟩, .string ⟨#[]⟩, .string ⟨#[111, 102, 102]⟩, .string ⟨#[98, 114, 111, 107, 101, 110]⟩, .string ⟨#[110, 111, 110, 101]⟩, .string ⟨#[102, 117, 108, 108]⟩, .string ⟨#[114, 101, 102, 117, 115, 101, 100]⟩, .string ⟨#[98, 97, 100]⟩] 9)).cell? ⟨w.heap.size, c.toNat, none⟩ = some (.string ⟨(codeT c.toNat).toArray⟩) := by
  rw [cell_of_row _ _ _ _ 9 (0, 0) (heap_alloc_new w _)]
  rcases (show c = 2 ∨ c = 3 ∨ c = 4 ∨ c = 5 ∨ c = 6 ∨ c = 7 by omega) with rfl | rfl | rfl | rfl | rfl | rfl <;> rfl
set_option maxRecDepth 100000 in
set_option maxHeartbeats 3200000 in
theorem specFormatReply_any (d : ReplyD) (w : World) (h0 : -9223372036854775808 ≤ d.fValue) (h1 : d.fValue ≤ 9223372036854775807) (ht : d.fText.length ≤ 1048576) :
    Calls Try.prog 26 #[vReply d] w fun e w' => e = .returned (.string ⟨(fmtReply d).toArray⟩) ∧ Below w.heap.size w w' := by
  obtain ⟨code, v, text, want, had⟩ := d
  unfold vReply
  simp only at *
  have HB0 := Lib.hid (show ∀ o, Below w.heap.size w (w.alloc o) from fun o => (Below.refl w.heap.size w).alloc (Nat.le_refl _) o)
  by_cases k0 : code = 0
  · subst k0
    have HF := Lib.hid (show fmtReply ⟨0, v, text, want, had⟩ = joinL ([[111, 107], numL v] ++ if text = [] then [] else [text]) [32] from if_pos rfl)
    have HFN := Lib.hid (fun w0 => specFormat_any v w0 h0 h1)
    have hl := numL_len21 v
    have hs1 := size_strB (numL v)
    clear h0 h1
    cases text with
    | nil =>
      go_enter Try.func26, Try.ntmps26
      go_wp2_with fail
      refine (HFN.out _).mono ?_
      rintro e w1 ⟨rfl, hb⟩
      have HB := Lib.hid ((HB0.out _).trans (hb.mono (HB0.out _).size))
      clear hb
      go_wp2_with fail
      go_ret
      exact ⟨ret_strB (by rw [HF.out, data_app]; show _ = joinL [[111, 107], numL v] [32]; rw [joinL_two]; simp), HB.out⟩
    | cons a r =>
      have hs2 := size_strB (a :: r)
      have HF2 := Lib.hid (show fmtReply ⟨0, v, a :: r, want, had⟩ = joinL [[111, 107], numL v, a :: r] [32] from HF.out)
      have he : (a :: r).isEmpty = false := rfl
      clear HF
      generalize a :: r = t at *
      have hq1 : ∀ w0, (Op.stringOp .add ⟨#[111, 107, 32]⟩ ⟨(numL v).toArray⟩).run Try.prog w0 = .ok (.string (⟨#[111, 107, 32]⟩ ++ ⟨(numL v).toArray⟩)) w0 := fun w0 => run_string_add_sum w0 _ _ (by rw [hs1]; show 3 + _ ≤ _; omega)
      have hq2 : ∀ w0, (Op.stringOp .add (⟨#[111, 107, 32]⟩ ++ ⟨(numL v).toArray⟩) ⟨#[32]⟩).run Try.prog w0 = .ok (.string (⟨#[111, 107, 32]⟩ ++ ⟨(numL v).toArray⟩ ++ ⟨#[32]⟩)) w0 := fun w0 => run_string_add_sum w0 _ _ (by rw [ByteArray.size_append, hs1]; show 3 + _ + 1 ≤ _; omega)
      have hq3 : ∀ w0, (Op.stringOp .add (⟨#[111, 107, 32]⟩ ++ ⟨(numL v).toArray⟩ ++ ⟨#[32]⟩) ⟨t.toArray⟩).run Try.prog w0 = .ok (.string (⟨#[111, 107, 32]⟩ ++ ⟨(numL v).toArray⟩ ++ ⟨#[32]⟩ ++ ⟨t.toArray⟩)) w0 := fun w0 => run_string_add_sum w0 _ _ (by rw [ByteArray.size_append, ByteArray.size_append, hs1, hs2]; show 3 + _ + 1 + _ ≤ _; omega)
      clear hs1 hs2
      go_enter Try.func26, Try.ntmps26
      go_wp2_with fail
      go_region_held3 (fun w' => w'.cell? ⟨w.heap.size, 1, none⟩ = some (.int .i64 v) ∧ w'.cell? ⟨w.heap.size, 2, none⟩ = some (.string ⟨t.toArray⟩))
        (first
          | go_keep
          | (rw [hb1.cell (p := ⟨w.heap.size, 1, none⟩) (by simp), hb1.cell (p := ⟨w.heap.size, 2, none⟩) (by simp)]; assumption))
        (first
          | (go_at_call 41; refine (HFN.out _).mono ?_; rintro e w1 ⟨rfl, hb1⟩))
      have HB := Lib.hid ((belD9 (HB0.out _)).trans (hb1.mono (belD9 (HB0.out _)).size))
      clear hb1
      go_wp2_with fail
      go_ret
      exact ⟨ret_strB (by rw [HF2.out, data_app, data_app, data_app, joinL_cons _ _ _ (by simp), joinL_two]; simp), HB.out⟩
  · by_cases k1 : code = 1
    · subst k1
      have HF := Lib.hid (show fmtReply ⟨1, v, text, want, had⟩ = joinL [[97, 115, 115, 101, 114, 116], fmtF want, [111, 102], fmtF had] [32] from rfl)
      have HW := Lib.hid (specFormatFace_any want)
      have HH := Lib.hid (specFormatFace_any had)
      have l1 := fmtF_len want
      have l2 := fmtF_len had
      have s1 := size_strB (fmtF want)
      have s2 := size_strB (fmtF had)
      generalize fmtF want = x at *
      generalize fmtF had = y at *
      have hq1 : ∀ w0, (Op.stringOp .add ⟨#[97, 115, 115, 101, 114, 116, 32]⟩ ⟨x.toArray⟩).run Try.prog w0 = .ok (.string (⟨#[97, 115, 115, 101, 114, 116, 32]⟩ ++ ⟨x.toArray⟩)) w0 := fun w0 => run_string_add_sum w0 _ _ (by rw [s1]; show 7 + _ ≤ _; omega)
      have hq2 : ∀ w0, (Op.stringOp .add (⟨#[97, 115, 115, 101, 114, 116, 32]⟩ ++ ⟨x.toArray⟩) ⟨#[32, 111, 102, 32]⟩).run Try.prog w0 = .ok (.string (⟨#[97, 115, 115, 101, 114, 116, 32]⟩ ++ ⟨x.toArray⟩ ++ ⟨#[32, 111, 102, 32]⟩)) w0 := fun w0 => run_string_add_sum w0 _ _ (by rw [ByteArray.size_append, s1]; show 7 + _ + 4 ≤ _; omega)
      have hq3 : ∀ w0, (Op.stringOp .add (⟨#[97, 115, 115, 101, 114, 116, 32]⟩ ++ ⟨x.toArray⟩ ++ ⟨#[32, 111, 102, 32]⟩) ⟨y.toArray⟩).run Try.prog w0 = .ok (.string (⟨#[97, 115, 115, 101, 114, 116, 32]⟩ ++ ⟨x.toArray⟩ ++ ⟨#[32, 111, 102, 32]⟩ ++ ⟨y.toArray⟩)) w0 := fun w0 => run_string_add_sum w0 _ _ (by rw [ByteArray.size_append, ByteArray.size_append, s1, s2]; show 7 + _ + 4 + _ ≤ _; omega)
      clear h0 h1 k0 s1 s2
      go_enter Try.func26, Try.ntmps26
      go_wp2_with fail
      go_region_held3 (fun w' => w'.cell? ⟨w.heap.size, 3, none⟩ = some (.int .i64 want) ∧ w'.cell? ⟨w.heap.size, 4, none⟩ = some (.int .i64 had))
        (first
          | go_keep
          | (rw [hb2.cell (p := ⟨w.heap.size, 3, none⟩) (by have := hb1.size; simp at *; omega), hb2.cell (p := ⟨w.heap.size, 4, none⟩) (by have := hb1.size; simp at *; omega)]; assumption)
          | (rw [hb1.cell (p := ⟨w.heap.size, 3, none⟩) (by simp), hb1.cell (p := ⟨w.heap.size, 4, none⟩) (by simp)]; assumption))
        (first
          | (go_at_call 49; (with_reducible refine (HW.out _).mono ?_); rintro e w1 ⟨rfl, hb1⟩)
          | (go_at_call 49; (with_reducible refine (HH.out _).mono ?_); rintro e w2 ⟨rfl, hb2⟩))
      have B1 := (belD9 (HB0.out _)).trans (hb1.mono (belD9 (HB0.out _)).size)
      have B2 := Lib.hid (B1.trans (hb2.mono B1.size))
      rename_i hheld
      clear hb1 hb2 B1 hheld
      go_wp2_with fail
      go_ret
      exact ⟨ret_strB (by rw [HF.out, data_app, data_app, data_app, join4]; simp), B2.out⟩
    · have b0 : (code == 0) = false := by simpa using k0
      have b1 : (code == 1) = false := by simpa using k1
      have HF := Lib.hid (show fmtReply ⟨code, v, text, want, had⟩ = if code < 0 then [] else codeT code.toNat from by unfold fmtReply; simp only; rw [if_neg k0, if_neg k1])
      clear h0 h1
      by_cases hc : code < 0
      · rw [if_pos hc] at HF
        clear k0 k1
        go_enter Try.func26, Try.ntmps26
        go_wp2_with fail
        go_ret
        exact ⟨ret_str (by rw [HF.out]), HB0.out _⟩
      · by_cases hc7 : 7 < code
        · rw [if_neg hc, show codeT code.toNat = [] by unfold codeT; split <;> first | rfl | (exfalso; omega)] at HF
          clear k0 k1
          go_enter Try.func26, Try.ntmps26
          go_wp2_with fail
          go_ret
          exact ⟨ret_str (by rw [HF.out]), HB0.out _⟩
        · rw [if_neg hc] at HF
          rcases (show code = 2 ∨ code = 3 ∨ code = 4 ∨ code = 5 ∨ code = 6 ∨ code = 7 by omega) with rfl | rfl | rfl | rfl | rfl | rfl
          all_goals
            clear k0 k1 b0 b1 hc hc7
            go_enter Try.func26, Try.ntmps26
            go_wp2_with fail
            go_ret
            exact ⟨ret_str (by rw [HF.out]; rfl), (HB0.out _).alloc (HB0.out _).size _⟩
end Go.Proofs.Ytmgfokikkhfibab
