/- Lists of integers: what the laws' own helpers do with them. -/
import Derived.Test.YtkoocddbfjaiaaaStr
namespace Go.Proofs.Ytkoocddbfjaiaaa
set_option linter.unusedVariables false
open Go.RowKit
theorem take_eq_stepI (x y : List Int) (hl : x.length = y.length) (k : Nat) (hk : k < x.length) (h : x.take k = y.take k) : (x[k] = y[k]) → x.take (k + 1) = y.take (k + 1) := by
  intro e
  rw [List.take_succ_eq_append_getElem hk, List.take_succ_eq_append_getElem (by omega), h, e]
def intV (n : Int) : Value := .int .i64 n
theorem getElem_map_intV (l : List Int) (k : Nat) (h : k < (l.map intV).length) : (l.map intV)[k] = intV (l[k]'(by simpa using h)) := by simp
theorem int_info : (Try.prog.info? 3).map (fun i => (i.zero, i.size, i.bytes)) = some (some (.int .i64 0), 1, 8) := by kernel_rfl
set_option maxHeartbeats 400000 in
theorem eqIntS_any (v u : Value) (x y : List Int) (w : World) (hx : RowAt w v (x.map intV)) (hy : RowAt w u (y.map intV)) :
    Calls Try.prog 16 #[v, u] w fun e w' => e = .returned (.bool (decide (x = y))) ∧ Below w.heap.size w w' := by
  obtain ⟨a, c, rfl, hl⟩ := rowAt_len hx
  obtain ⟨a2, c2, rfl, hl2⟩ := rowAt_len hy
  simp only [List.length_map] at *
  have HX := Lib.hid hx
  have HY := Lib.hid hy
  clear hx hy
  unfold maxLen at hl hl2
  by_cases he : x.length = y.length
  · have hb : ((x.length : Int) == y.length) = true := beq_iff_eq.2 (by omega)
    have hbn : ((x.length : Int) != y.length) = false := by rw [bne_eq_false_iff_eq]; omega
    have HE := Lib.hid he
    clear he
    go_enter Try.func16, Try.ntmps16
    go_wp2
    go_loopw [5] (fun i wr => ∃ k : Nat, k ≤ x.length ∧ i = .int .i64 k ∧ x.take k = y.take k ∧ ∃ nq, wr = w.drewN nq) (fun i _ => x.length - (intOf i).toNat)
    case atStart => exact ⟨0, Nat.zero_le _, rfl, rfl, 0, rfl⟩
    case round =>
      obtain ⟨k, hk, rfl, ht, nq, rfl⟩ := hrel
      have HT := Lib.hid ht
      clear ht
      by_cases hlt : k < x.length
      · have hky : k < y.length := by have := HE.out; omega
        obtain ⟨b, o, rfl, _, d1⟩ := rowAt_cell HX.out k (by simpa using hlt)
        obtain ⟨b2, o2, rfl, _, d2⟩ := rowAt_cell HY.out k (by simpa using hky)
        rw [getElem_map_intV] at d1 d2
        unfold intV at d1 d2
        have HS := Lib.hid (take_eq_stepI x y HE.out k hlt HT.out)
        have HD := Lib.hid (show x[k] ≠ y[k] → ¬ x = y from fun h e => h (by subst e; rfl))
        generalize x[k] = p at *
        generalize y[k] = q at *
        by_cases heq : p = q
        · have HN := Lib.hid (HS.out heq)
          subst heq
          have hbeq : (p == p) = true := by simp
          have hbne : (p != p) = false := by simp
          go_wp2
          go_quiet (fail)
          go_wp2
          exact ⟨⟨k + 1, by omega, by go_num, HN.out, _, rfl⟩, by simp [intOf]; omega⟩
        · have hbeq : (p == q) = false := by simpa using heq
          have hbne : (p != q) = true := by simpa using heq
          have HN := Lib.hid (HD.out heq)
          clear heq
          go_wp2
          go_quiet (fail)
          go_wp2
          go_ret
          exact ⟨ret_bool (by simp [HN.out]), below_drewN (below_drewN (Below.refl _ _) _) _⟩
      · have HN := Lib.hid (show x = y from by
          have h := HT.out
          rw [List.take_of_length_le (by omega), List.take_of_length_le (by have := HE.out; omega)] at h
          exact h)
        go_wp2
        go_ret
        exact ⟨ret_bool (by simp [HN.out]), below_drewN (Below.refl _ _) _⟩
  · have hb : ((x.length : Int) == y.length) = false := beq_eq_false_iff_ne.2 (by omega)
    have hbn : ((x.length : Int) != y.length) = true := by rw [bne_iff_ne]; omega
    have HN := Lib.hid (show ¬ x = y from fun e => he (by rw [e]))
    clear he
    go_enter Try.func16, Try.ntmps16
    go_wp2
    go_ret
    exact ⟨ret_bool (by simp [HN.out]), Below.refl _ _⟩
/-- the slice v is a row of the call's own, of integers -/
def OwnsI (w : World) (B : Nat) (v : Value) (xs : List Int) : Prop := w.ownsRow B 3 1 v xs.length (xs.map intV)
theorem ownsI_row {w : World} {B : Nat} {v : Value} {x : List Int} (h : OwnsI w B v x) (hm : x.length ≤ 4194304) : RowAt w v (x.map intV) := ownsRow_rowAt h (by unfold maxLen; omega)
theorem ownsI_new (w : World) : OwnsI (w.alloc (.cells #[] 3)) w.heap.size (.slice (some ⟨w.heap.size, 0, none⟩) 0 0) [] :=
  World.ownsRow_made w #[] 0 (Nat.le_refl _) (Nat.zero_le _) rfl
theorem ownsI_alloc {w : World} {B : Nat} {v : Value} {xs : List Int} (h : OwnsI w B v xs) (o : Obj) : OwnsI (w.alloc o) B v xs := World.ownsRow.alloc h o
theorem ownsI_below {w w' : World} {B B' : Nat} {v : Value} {xs : List Int} (h : OwnsI w B v xs) (hb : Below B' w w') (hB : w.heap.size ≤ B') : OwnsI w' B v xs := ownsRow_below h hb hB
theorem below_appendI {a w w' : World} {B : Nat} {v : Value} {xs : List Int} (hb : Below B a w) (hO : OwnsI w B v xs) (hg : w.grownBy w' v.ownBlock) (hB : B ≤ w.heap.size) : Below B a w' :=
  hb.grown hg hB (fun k hk => (World.ownsRow.lt hO k hk).1)
/-- a new row of integers -/
def GivesRowI (x : List Int) (w : World) (e : Ending) (w' : World) : Prop := ∃ v, e = .returned v ∧ OwnsI w' w.heap.size v x ∧ Below w.heap.size w w'
theorem append_ints {ops : Array Oper} {rest : List Oper} {o : Oper} {a : Act} {Q : Exit → Act → World → Prop} (hgd : o.guard = none) (s x : Operand)
    (ho : o.op = .call { callee := .builtin .append, args := #[s, x], argTypes := #[27, 27] }) (B : Nat) (v : Value) (xs : List Int) (y : Int) (w : World) (blk : Nat)
    (hs : a.eval s = v) (hO : OwnsI w B v xs) (hx : a.eval x = .slice (some ⟨blk, 0, none⟩) 1 1) (hc : w.cell? ⟨blk, 0, none⟩ = some (intV y)) (hl : xs.length ≤ 4194304) (hB : B ≤ w.heap.size)
    (h : ∀ v' w', OwnsI w' B v' (xs ++ [y]) → w.grownBy w' v.ownBlock → wpList Try.prog ops Q rest (a.put o.dst v') w') : wpList Try.prog ops Q (o :: rest) a w := by
  obtain ⟨i0, hi, hz0, hz1, hz2⟩ := info_parts int_info
  refine wpList_append_own _ hgd s x 27 ho B 3 i0 (.int .i64 0) 1 8 Try.underlying27 hi hz0 hz1 hz2 rfl (by decide) v xs.length (xs.map intV) hs hO ⟨blk, 0, none⟩ 1 1 [intV y] hx rfl ?_ ?_ (by unfold maxLen; omega) (by omega) hB ?_
  · intro j u hj
    cases j with
    | zero => simp at hj; subst hj; rw [Addr.add_lit]; exact hc
    | succ j => simp at hj
  · intro u hu; simp at hu; subst hu; rfl
  · intro v' w' h1 h2 _
    refine h v' w' ?_ h2
    unfold OwnsI; rw [List.map_append, List.length_append]; exact h1
/-- the marks from k on, n of them -/
def marksI (k : Int) (n : Nat) : List Int := (List.range n).map fun i : Nat => k + i
theorem marksI_len (k : Int) (n : Nat) : (marksI k n).length = n := by simp [marksI]
theorem marksI_get (k : Int) (n i : Nat) (h : i < n) : (marksI k n)[i]'(by rw [marksI_len]; exact h) = k + i := by simp [marksI]
set_option maxHeartbeats 400000 in
theorem markIntS_any (B : Nat) (v : Value) (x : List Int) (k : Int) (w : World) (hO : OwnsI w B v x) (hm : x.length ≤ 4194304) (h0 : 1 ≤ k) (h1 : k ≤ 4194304) :
    Calls Try.prog 17 #[v, .int .i64 k] w fun e w' => e = .returned (.int .i64 (k + x.length)) ∧ OwnsI w' B v (marksI k x.length) ∧ w.grownBy w' v.ownBlock := by
  unfold OwnsI at hO
  rcases hO.2 with ⟨rfl, hn⟩ | ⟨g, cap, cur, rfl, _⟩
  · have hx : x = [] := List.eq_nil_of_length_eq_zero hn
    subst hx
    go_enter Try.func17, Try.ntmps17
    go_wp2_with fail
    refine wp_loop_rounds 1 ?_
    rw [rounds_succ]
    go_wp2_with fail
    go_ret
    exact ⟨ret_int (by simp), by simpa [OwnsI, marksI] using hO, grownBy_refl _ _⟩
  · have HO := Lib.hid (show ∃ xs, w.ownsRow B 3 1 (.slice (some ⟨g, 0, none⟩) x.length cap) x.length xs ∧ xs.take 0 = ((marksI k x.length).map intV).take 0 from ⟨_, hO, rfl⟩)
    have hgw : g < w.heap.size := (hO.lt g rfl).2
    clear hO
    go_enter Try.func17, Try.ntmps17
    go_wp2_with fail
    go_loopw [1, 5] (fun kv i wr => ∃ j : Nat, j ≤ x.length ∧ i = .int .i64 j ∧ kv = .int .i64 (k + j) ∧ (∃ xs, wr.ownsRow B 3 1 (.slice (some ⟨g, 0, none⟩) x.length cap) x.length xs ∧ xs.take j = ((marksI k x.length).map intV).take j) ∧ w.grownBy wr (some g)) (fun _ i _ => x.length - (intOf i).toNat)
    case atStart => exact ⟨0, Nat.zero_le _, rfl, by simp, HO.out, grownBy_refl _ _⟩
    case round =>
      obtain ⟨j, hj, rfl, rfl, ⟨xs, hown, htake⟩, hg⟩ := hrel
      have HG := Lib.hid hg
      have HOw := Lib.hid hown
      have HT := Lib.hid htake
      have HXL := Lib.hid (show xs.length = x.length by simpa using hown.1)
      clear hg hown htake
      by_cases hlt : j < x.length
      · obtain ⟨u, d2⟩ : ∃ u, wr.cell? ⟨g, j, none⟩ = some u := by
          have := World.ownsRow.cellAt HOw.out j (by omega)
          rw [this, List.getElem?_eq_getElem (by have := HXL.out; omega)]
          exact ⟨_, rfl⟩
        have f2 := World.ownsRow.frozenAt HOw.out j
        have HN := Lib.hid (take_set_succ xs ((marksI k x.length).map intV) j (by have := HXL.out; omega) (by simp [marksI_len]; omega) HT.out)
        have HS := Lib.hid (World.ownsRow.stored HOw.out j (intV (k + j)))
        go_wp2_with fail
        refine ⟨⟨j + 1, by omega, by go_num, ?_, ⟨_, HS.out.1, ?_⟩, ?_⟩, by simp [intOf]; omega⟩
        · congr 1; omega
        · have := HN.out; rwa [getElem_map_intV, marksI_get k _ j hlt] at this
        · exact grownBy_trans HG.out HS.out.2
      · have HN := Lib.hid (show xs = (marksI k x.length).map intV from by
          have h := HT.out
          rw [List.take_of_length_le (by have := HXL.out; omega), List.take_of_length_le (by simp [marksI_len]; omega)] at h
          exact h)
        go_wp2_with fail
        go_ret
        exact ⟨ret_int (by omega), by have h := HOw.out; rw [HN.out] at h; unfold OwnsI; rw [marksI_len]; exact h, HG.out⟩
set_option maxHeartbeats 400000 in
theorem heldIntS_any (v : Value) (n : Nat) (k : Int) (w : World) (hR : RowAt w v ((marksI k n).map intV)) (hm : n ≤ 4194304) (h0 : 1 ≤ k) (h1 : k ≤ 4194304) :
    Calls Try.prog 18 #[v, .int .i64 k] w fun e w' => e = .returned (.int .i64 (k + n)) ∧ Below w.heap.size w w' := by
  obtain ⟨a, c, rfl, hl⟩ := rowAt_len hR
  rw [List.length_map, marksI_len] at *
  have HR := Lib.hid hR
  clear hR
  unfold maxLen at hl
  go_enter Try.func18, Try.ntmps18
  go_wp2_with fail
  go_loop [1, 5] (fun kv i => ∃ j : Nat, j ≤ n ∧ i = .int .i64 j ∧ kv = .int .i64 (k + j)) (fun _ i => n - (intOf i).toNat)
  case atStart => exact ⟨0, Nat.zero_le _, rfl, by simp⟩
  case round =>
    obtain ⟨j, hj, rfl, rfl⟩ := hrel
    by_cases hlt : j < n
    · obtain ⟨b, o, rfl, hbw, d1⟩ := rowAt_cell HR.out j (by simp [marksI_len]; omega)
      rw [getElem_map_intV, marksI_get k n j hlt] at d1
      unfold intV at d1
      go_wp2_with fail
      exact ⟨⟨j + 1, by omega, by go_num, by congr 1; omega⟩, by simp [intOf]; omega⟩
    · go_wp2_with fail
      go_ret
      exact ⟨ret_int (by omega), Below.refl _ _⟩
end Go.Proofs.Ytkoocddbfjaiaaa
