/- Ascending: the model's. -/
import Derived.Test.YtmoliamenekemabAsc
namespace Go.Proofs.Ytmoliamenekemab
set_option linter.unusedVariables false
open Go.RowKit
theorem asc_snoc (x : List (List UInt8)) (k : Nat) (h : k < x.length) : ascL (x.take (k + 1)) = ins x[k] (ascL (x.take k)) := by
  rw [List.take_succ_eq_append_getElem h]; unfold ascL; rw [List.foldl_append]; rfl
theorem total_mem (x : List (List UInt8)) (s : List UInt8) (h : s ∈ x) : s.length ≤ total x := by
  induction x with
  | nil => simp at h
  | cons a r ih =>
    rcases List.mem_cons.1 h with h | h
    · subst h; simp only [total]; omega
    · have := ih h; simp only [total]; omega
def GivesAt (x : List (List UInt8)) (w : World) (e : Ending) (w' : World) : Prop := ∃ v, e = .returned v ∧ RowAt w' v (x.map strV) ∧ Below w.heap.size w w'
set_option maxRecDepth 100000 in
set_option maxHeartbeats 800000 in
theorem specAsc_any (v : Value) (x : List (List UInt8)) (w : World) (hR : RowAt w v (x.map strV)) (hm : x.length ≤ 2097152) :
    Calls Try.prog 20 #[v] w fun e w' => GivesAt (ascL x) w e w' := by
  obtain ⟨a, c, rfl, hl⟩ := rowAt_len hR
  rw [List.length_map] at *
  have HR := Lib.hid hR
  have HO := Lib.hid (owns_row (owns_new w) (by simp))
  clear hR hl
  go_enter Try.func20, Try.ntmps20
  go_wp2_with fail
  go_loopw [3, 5, 9] (fun ov _ i wr => ∃ k : Nat, k ≤ x.length ∧ i = .int .i64 k ∧ RowAt wr ov ((ascL (x.take k)).map strV) ∧ Below w.heap.size w wr) (fun _ _ i _ => x.length - (intOf i).toNat)
  case atStart => exact ⟨0, Nat.zero_le _, rfl, HO.out, (Below.refl _ _).alloc (Nat.le_refl _) _⟩
  case round =>
    obtain ⟨k, hk, rfl, hO, hb⟩ := hrel
    have HO2 := Lib.hid hO
    have HB := Lib.hid hb
    have HRr := Lib.hid (RowAt.below HR.out hb (Nat.le_refl _))
    clear hO hb
    by_cases hlt : k < x.length
    · obtain ⟨b, o, rfl, hbw, d1⟩ := rowAt_cell HRr.out k (by simpa using hlt)
      rw [getElem_map_strV] at d1
      unfold strV at d1
      have HT := Lib.hid (asc_snoc x k hlt)
      have HL := Lib.hid (show (ascL (x.take k)).length ≤ 2097151 by have := asc_len (x.take k); simp at this; omega)
      go_wp2_with fail
      refine (l1Put_any _ (ascL (x.take k)) ⟨(x[k]).toArray⟩ wr HO2.out (by have := HL.out; omega)).mono ?_
      rintro e w2 ⟨v2, rfl, ho2, hb2⟩
      have HO3 := Lib.hid (owns_row ho2 (by have := ins_len (x[k]) (ascL (x.take k)); have := HL.out; simp; omega))
      have HB3 := Lib.hid (HB.out.trans (hb2.mono HB.out.size))
      clear ho2 hb2
      go_wp2_with fail
      exact ⟨⟨k + 1, by omega, by go_num, by rw [HT.out]; exact HO3.out, HB3.out⟩, by simp [intOf]; omega⟩
    · have HT := Lib.hid (show x.take k = x from List.take_of_length_le (by omega))
      go_wp2_with fail
      go_ret
      exact ⟨_, rfl, by have h := HO2.out; rw [HT.out] at h; exact h, HB.out⟩
end Go.Proofs.Ytmoliamenekemab
