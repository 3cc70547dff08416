/- the model's l3Copy -/
import Derived.Test.YtmoliamenekemaaCopy
namespace Go.Proofs.Ytmoliamenekemaa
set_option linter.unusedVariables false
set_option linter.unusedSimpArgs false
open Go.RowKit
set_option maxRecDepth 100000 in
set_option maxHeartbeats 3200000 in
theorem l3Copy_any (v : Value) (d : CoreD) (w : World) (hx : CoreAt w v d) (hm : d.fCells.length ≤ 2097152) :
    Calls Try.prog 79 #[v] w fun e w' => GivesCore d w e w' := by
  obtain ⟨cv, rfl, hx⟩ := hx
  obtain ⟨i0, hi, hz0, hz1, hz2⟩ := info_parts cell_info
  obtain ⟨kd, on, br, l, cnt⟩ := d
  unfold vCore
  simp only at *
  have HX := Lib.hid hx
  obtain ⟨a, c, rfl, hml⟩ := flatAt_len hx
  clear hx
  have HB3 := Lib.hid (show ∀ o1 o2 o3, Below w.heap.size w (((w.alloc o1).alloc o2).alloc o3) from fun o1 o2 o3 => (((Below.refl _ _).alloc (Nat.le_refl _) _).alloc (by simp) _).alloc (by simp; omega) _)
  have HO3 := Lib.hid (show ∀ o1 o2, OwnsF cCell 115 2 (((w.alloc o1).alloc o2).alloc (.cells #[] 115)) (w.heap.size + 1 + 1) (.slice (some ⟨w.heap.size + 1 + 1, 0, none⟩) 0 0) [] from fun o1 o2 => by have h := ownsF_new cCell 115 2 ((w.alloc o1).alloc o2); simpa using h)
  cases a with
  | none =>
    have hl0 : l = [] := by
      obtain ⟨a', c', e, _, _, h⟩ := HX.out
      injection e with e1 e2
      rcases h with h | ⟨b, o, rfl, _⟩
      · exact List.eq_nil_of_length_eq_zero h
      · simp at e1
    subst hl0
    simp only [List.length_nil] at *
    go_enter Try.func79, Try.ntmps79
    go_wp2_with fail
    refine bodyPost_ret (v := .agg #[.string ⟨kd.toArray⟩, .bool on, .bool br, .slice (some ⟨w.heap.size + 1 + 1, 0, none⟩) 0 0, .int .i64 cnt]) (by simp [results, Try.results79, go_sem, cell_set_at, cell_set_ne]) rfl ?_
    exact ⟨_, rfl, ⟨_, rfl, ownsF_base (HO3.out _ _) (by omega)⟩, HB3.out _ _ _⟩
  | some ad =>
    have HN := Lib.hid (fun o1 o2 o3 => show ∀ j u, (l.flatMap cCell)[j]? = some u → (((w.alloc o1).alloc o2).alloc o3).cell? (ad.add j) = some u from fun j u hj => by
      have h9 := HX.out.below (HB3.out o1 o2 o3) (Nat.le_refl _)
      obtain ⟨a', c', e, _, _, h⟩ := h9
      injection e with e1 e2
      have hjl : j < (l.flatMap cCell).length := (List.getElem?_eq_some_iff.1 hj).1
      rw [flat_len cCell 2 cCell_len] at hjl
      rcases h with h | ⟨b, o, rfl, _, h⟩
      · omega
      · injection e1 with e1
        subst e1
        rw [Addr.add_lit, h j hjl]; exact hj)
    have h1c : ∀ u ∈ l.flatMap cCell, u.oneCell' = true := fun u hu => by
      obtain ⟨y, _, hy⟩ := List.mem_flatMap.1 hu
      exact cCell_one y u hy
    have hfl := flat_len cCell 2 cCell_len l
    have H1 := Lib.hid h1c
    have HFL := Lib.hid hfl
    clear h1c hfl
    go_enter Try.func79, Try.ntmps79
    go_wp2_with (at_builtin; refine wpList_append_own _ rfl _ _ 30 rfl (w.heap.size + 1 + 1) 115 i0 _ 2 24 Try.underlying30 hi hz0 hz1 hz2 rfl (by decide) (.slice (some ⟨w.heap.size + 1 + 1, 0, none⟩) 0 0) 0 [] (by rfl) (HO3.out _ _) ad l.length c (l.flatMap cCell) (by rfl) HFL.out (HN.out _ _ _) H1.out (by unfold maxLen; omega) (by omega) (by simp; try omega) ?_; intro v' w' ho hgr hnil; clear hnil; have q0 : w'.cell? ⟨w.heap.size, 0, none⟩ = some (.string ⟨kd.toArray⟩) := (hgr.cell_far ⟨w.heap.size, 0, none⟩ (by simp <;> omega) (by simp [Value.ownBlock] <;> omega)).trans (by simp [go_sem]); have q1 : w'.cell? ⟨w.heap.size, 1, none⟩ = some (.bool on) := (hgr.cell_far ⟨w.heap.size, 1, none⟩ (by simp <;> omega) (by simp [Value.ownBlock] <;> omega)).trans (by simp [go_sem]); have q2 : w'.cell? ⟨w.heap.size, 2, none⟩ = some (.bool br) := (hgr.cell_far ⟨w.heap.size, 2, none⟩ (by simp <;> omega) (by simp [Value.ownBlock] <;> omega)).trans (by simp [go_sem]); have q3 : w'.cell? ⟨w.heap.size, 3, none⟩ = some (.slice (some ad) l.length c) := (hgr.cell_far ⟨w.heap.size, 3, none⟩ (by simp <;> omega) (by simp [Value.ownBlock] <;> omega)).trans (by simp [go_sem]); have q4 : w'.cell? ⟨w.heap.size, 4, none⟩ = some (.int .i64 cnt) := (hgr.cell_far ⟨w.heap.size, 4, none⟩ (by simp <;> omega) (by simp [Value.ownBlock] <;> omega)).trans (by simp [go_sem]); have r0 : w'.cell? ⟨w.heap.size + 1, 0, none⟩ = some (.string ⟨#[]⟩) := (hgr.cell_far ⟨w.heap.size + 1, 0, none⟩ (by simp <;> omega) (by simp [Value.ownBlock] <;> omega)).trans (by simp [go_sem]); have r1 : w'.cell? ⟨w.heap.size + 1, 1, none⟩ = some (.bool false) := (hgr.cell_far ⟨w.heap.size + 1, 1, none⟩ (by simp <;> omega) (by simp [Value.ownBlock] <;> omega)).trans (by simp [go_sem]); have r2 : w'.cell? ⟨w.heap.size + 1, 2, none⟩ = some (.bool false) := (hgr.cell_far ⟨w.heap.size + 1, 2, none⟩ (by simp <;> omega) (by simp [Value.ownBlock] <;> omega)).trans (by simp [go_sem]); have r3 : w'.cell? ⟨w.heap.size + 1, 3, none⟩ = some (.slice none 0 0) := (hgr.cell_far ⟨w.heap.size + 1, 3, none⟩ (by simp <;> omega) (by simp [Value.ownBlock] <;> omega)).trans (by simp [go_sem]); have r4 : w'.cell? ⟨w.heap.size + 1, 4, none⟩ = some (.int .i64 0) := (hgr.cell_far ⟨w.heap.size + 1, 4, none⟩ (by simp <;> omega) (by simp [Value.ownBlock] <;> omega)).trans (by simp [go_sem]); have y0 : ∀ o, w'.frozen? ⟨w.heap.size, o, none⟩ = false := (fun o => (hgr.frozen_far ⟨w.heap.size, o, none⟩ (by simp <;> omega) (by simp [Value.ownBlock] <;> omega)).trans (by simp [go_sem])); have y1 : ∀ o, w'.frozen? ⟨w.heap.size + 1, o, none⟩ = false := (fun o => (hgr.frozen_far ⟨w.heap.size + 1, o, none⟩ (by simp <;> omega) (by simp [Value.ownBlock] <;> omega)).trans (by simp [go_sem])); have HG := Lib.hid hgr; have HO := Lib.hid (show OwnsF cCell 115 2 w' (w.heap.size + 1 + 1) v' l from by simpa [OwnsF] using ho); obtain ⟨ua, uc, rfl⟩ := slice_of HO.out)
    refine bodyPost_ret (v := .agg #[.string ⟨kd.toArray⟩, .bool on, .bool br, .slice ua l.length uc, .int .i64 cnt]) (by simp [results, Try.results79, go_sem, cell_set_at, cell_set_ne, q0, q1, q2, q3, q4, r0, r1, r2, r3, r4]) rfl ?_
    refine ⟨_, rfl, ⟨_, rfl, ?_⟩, ?_⟩
    · refine ownsF_base (B := w.heap.size + 1 + 1) ?_ (by omega)
      repeat (with_reducible refine ownsF_set ?_ (by simp; try omega))
      exact HO.out
    · repeat (with_reducible refine Below.setCell ?_ (by simp; try omega) _)
      exact (HB3.out _ _ _).grown HG.out (by simp; omega) (fun k h => by simp [Value.ownBlock] at h; omega)
end Go.Proofs.Ytmoliamenekemaa
