/- Contracts of chapter 5: LeastVersion, the program's. -/
import Derived.Test.YtbjkalnahckfnabVer6
import Derived.Test.YtbjkalnahckfnabSort
namespace Go.Proofs.Ytbjkalnahckfnab
set_option linter.unusedVariables false
open Go.RowKit Go.Shelf
open Go.Sort (HoldsK putRowK putRowK_self flatK size_flatK get_flatK grow alloc_eq_grow grow_grow)
def sincesL (f : Int) : List VersionD := ⟨0, 0⟩ :: (abilL f).map sinceN
theorem sinces_sorted : ∀ F : Fin 64, ∀ j : Fin 6, (j : Nat) + 1 < (sincesL (F : Nat)).length → decide (cmpV ((sincesL (F : Nat)).toArray[(j : Nat) + 1]!) ((sincesL (F : Nat)).toArray[(j : Nat)]!) < 0) = false := by decide +kernel
theorem sinces_last : ∀ F : Fin 64, (sincesL (F : Nat))[(sincesL (F : Nat)).length - 1]? = some (leastV (F : Nat)) := by decide +kernel
theorem sincesL_len (f : Int) : 1 ≤ (sincesL f).length ∧ (sincesL f).length ≤ 7 := by
  have := abilL_len f; unfold sincesL; simp; omega
theorem ins_id {α : Type} [Inhabited α] (lt : α → α → Bool) (d : Array α) (b : Nat) (h : ∀ j, j + 1 < b → lt d[j + 1]! d[j]! = false) : ∀ n i, 1 ≤ i → b - i = n → Sort.insOuter lt 0 b i d = d := by
  intro n
  induction n with
  | zero =>
    intro i _ hn
    rw [Sort.insOuter, if_neg (by omega)]
  | succ n ih =>
    intro i h1 hn
    rw [Sort.insOuter, if_pos (by omega)]
    obtain ⟨j, rfl⟩ : ∃ j, i = j + 1 := ⟨i - 1, by omega⟩
    have : Sort.insInner lt 0 (j + 1) d = d := by
      unfold Sort.insInner
      rw [if_neg]
      rw [h j (by omega)]; simp
    rw [this]
    exact ih (j + 1 + 1) (by omega) (by omega)
theorem ins_sinces {f : Int} (hf : isF f = true) : Sort.insertionSort (ltOf cmpV) (sincesL f).toArray 0 (sincesL f).toArray.size = (sincesL f).toArray := by
  obtain ⟨F, rfl⟩ := isF_fin hf
  unfold Sort.insertionSort
  refine ins_id _ _ _ (fun j hj => ?_) _ 1 (by omega) rfl
  have hl := (sincesL_len ((F : Nat) : Int)).2
  have hj' : j + 1 < (sincesL ((F : Nat) : Int)).length := by simpa using hj
  exact sinces_sorted F ⟨j, by omega⟩ hj'
theorem sinces_end {f : Int} (hf : isF f = true) : (sincesL f)[(sincesL f).length - 1]? = some (leastV f) := by
  obtain ⟨F, rfl⟩ := isF_fin hf
  exact sinces_last F
/-- CompareVersions, to the block -/
theorem implCmp_lays (x y : VersionD) (W : World) : Calls Try.prog 25 #[.agg (cVersion x).toArray, .agg (cVersion y).toArray] W fun e w' => e = .returned (.int .i64 (cmpV x y)) ∧ ∃ q os', w' = Sort.grow (W.drewN q) os' := by
  obtain ⟨a0, a1⟩ := x
  obtain ⟨b0, b1⟩ := y
  unfold cVersion
  show Calls Try.prog 25 #[.agg #[.int .i64 a0, .int .i64 a1], .agg #[.int .i64 b0, .int .i64 b1]] W _
  unfold cmpV
  simp only
  rcases cmpI_cases a0 b0 with ⟨h1, h2⟩ | ⟨h1, h2⟩ | ⟨h1, h2⟩
  · have HM := Lib.hid (compare_b a0 b0 _ h2)
    rw [if_neg (by omega), h2]
    clear h1 h2
    go_enter Try.func25, Try.ntmps25
    go_wp2_with (first | (go_at_call 51; (with_reducible refine (HM.out _).mono ?_); rintro e w' ⟨rfl, rfl⟩))
    go_ret
    exact ⟨rfl, 0, _, by rw [alloc_eq_grow, alloc_eq_grow, grow_grow]; rfl⟩
  · have HM := Lib.hid (compare_b a0 b0 _ h2)
    have HN := Lib.hid (compare_b a1 b1 _ rfl)
    rw [if_pos h1]
    clear h1 h2
    generalize Lib.compareInt a1 b1 = r at *
    go_enter Try.func25, Try.ntmps25
    go_wp2_with (first | (go_at_call 51; (with_reducible refine (HM.out _).mono ?_); rintro e w' ⟨rfl, rfl⟩) | (go_at_call 51; (with_reducible refine (HN.out _).mono ?_); rintro e w' ⟨rfl, rfl⟩))
    go_ret
    exact ⟨rfl, 0, _, by rw [alloc_eq_grow, alloc_eq_grow, grow_grow]; rfl⟩
  · have HM := Lib.hid (compare_b a0 b0 _ h2)
    rw [if_neg (by omega), h2]
    clear h1 h2
    go_enter Try.func25, Try.ntmps25
    go_wp2_with (first | (go_at_call 51; (with_reducible refine (HM.out _).mono ?_); rintro e w' ⟨rfl, rfl⟩))
    go_ret
    exact ⟨rfl, 0, _, by rw [alloc_eq_grow, alloc_eq_grow, grow_grow]; rfl⟩
theorem bitsLen_some (n : Nat) (W : World) (h : n ≤ 12) : Calls Try.prog 59 #[.int .u64 n] W fun e w' => (∃ l : Int, e = .returned (.int .i64 l)) ∧ w' = W :=
  (Any.bits_Len Try.bitsLen n W (by omega) (by omega)).mono fun _ _ ⟨he, hw⟩ => ⟨⟨_, he⟩, hw⟩
theorem ver_info : (Try.prog.info? 25).map (fun i => (i.zero, i.size, i.bytes)) = some (some (.agg #[.int .i64 0, .int .i64 0]), 2, 16) := by kernel_rfl
theorem append_ver {ops : Array Oper} {rest : List Oper} {o : Oper} {a : Act} {Q : Exit → Act → World → Prop} (hgd : o.guard = none) (s x : Operand)
    (ho : o.op = .call { callee := .builtin .append, args := #[s, x], argTypes := #[39, 39] }) (B : Nat) (v : Value) (l : List VersionD) (y : VersionD) (w : World) (blk : Nat)
    (hs : a.eval s = v) (hO : OwnsF cVersion 25 2 w B v l) (hx : a.eval x = .slice (some ⟨blk, 0, none⟩) 1 1) (hc : ∀ j, j < 2 → w.cell? ⟨blk, j, none⟩ = (cVersion y)[j]?) (hl : l.length ≤ 4194304) (hB : B ≤ w.heap.size)
    (h : ∀ v' w', OwnsF cVersion 25 2 w' B v' (l ++ [y]) → w.grownBy w' v.ownBlock → wpList Try.prog ops Q rest (a.put o.dst v') w') : wpList Try.prog ops Q (o :: rest) a w :=
  append_flat cVersion_len cVersion_one ver_info rfl (by decide) (by decide) Try.underlying39 hgd s x ho B v l y w blk hs hO hx hc hl hB h
theorem ver_newC (w : World) (y : VersionD) (blk : Nat) (h : blk = w.heap.size) : ∀ j, j < 2 → (w.alloc (.cells #[.int .i64 y.fMajor, .int .i64 y.fMinor] 25)).cell? ⟨blk, j, none⟩ = (cVersion y)[j]? := by
  subst h
  intro j hj
  rw [cell_of_row _ _ _ _ 25 (0, 0) (heap_alloc_new w _)]
  simp [cVersion]
theorem ver_lit1 (w : World) (x y : Int) : OwnsF cVersion 25 2 (w.alloc (.cells #[.int .i64 x, .int .i64 y] 25)) w.heap.size (.slice (some ⟨w.heap.size, 0, none⟩) 1 1) [⟨x, y⟩] := by
  refine ⟨by simp [cVersion], Or.inr ⟨w.heap.size, 1, _, rfl, Nat.le_refl _, heap_alloc_new w _, Nat.le_refl _, by unfold maxLen; omega, by simp, by simp [cVersion]⟩⟩
/-- a row of one's own, in the sort's words -/
theorem holdsK_own {w : World} {B : Nat} {v : Value} {l : List VersionD} (h : OwnsF cVersion 25 2 w B v l) (hne : l ≠ []) :
    ∃ g cap, v = .slice (some ⟨g, 0, none⟩) l.length cap ∧ B ≤ g ∧ g < w.heap.size ∧ HoldsK cVersion 2 w g 0 l.toArray := by
  rcases h.2 with ⟨rfl, hn⟩ | ⟨g, cap, cur, rfl, hb, hg, hn, hc, hs, ht⟩
  · exact absurd (List.eq_nil_of_length_eq_zero hn) hne
  · have hlt := (Array.getElem?_eq_some_iff.1 hg).1
    refine ⟨g, cap, rfl, hb, hlt, fun j hj => ?_⟩
    rw [size_flatK, List.size_toArray] at hj
    refine ⟨?_, by simp [World.frozen?, hg]⟩
    have hcell := World.ownsRow.cellAt h j hj
    rw [Nat.zero_add]
    rw [hcell, get_flatK _ _ _ j (by simpa using hj)]
    have hq : j / 2 < l.length := by omega
    have hget := flat_get cVersion 2 cVersion_len l (j / 2) hq (j % 2) (by omega)
    rw [show j / 2 * 2 + j % 2 = j by omega] at hget
    rw [hget]
    have e1 : l.toArray[j / 2]! = l[j / 2] := by simp [hq]
    rw [e1]
    have e2 : j % 2 < (cVersion l[j / 2]).length := by rw [cVersion_len]; omega
    rw [List.getElem?_eq_getElem e2]
    simp [getElem!_pos, e2]
theorem sort_self (w : World) (g n : Nat) (d : Array VersionD) (os : Array Obj) (h : HoldsK cVersion 2 w g 0 d) : sortWorldK cVersion 2 w g 0 n d os = grow (Sort.ahead w n) os := by
  unfold sortWorldK
  rw [putRowK_self (w := Sort.ahead w n) (h := h) ..]
theorem below_sorted (w : World) (n : Nat) (os : Array Obj) : Below w.heap.size w (grow (Sort.ahead w n) os) := by
  refine ⟨rfl, rfl, rfl, by simp [grow, Sort.ahead], fun k hk => ?_⟩
  show (w.heap ++ os)[k]? = w.heap[k]?
  rw [Array.getElem?_append_left hk]
theorem ownsI_keptF {α : Type} {f : α → List Value} {E k : Nat} {w w' : World} {B B' : Nat} {v u : Value} {xs : List Int} {l : List α} (h : OwnsI w B v xs) (h' : OwnsF f E k w B' u l) (hg : w.grownBy w' u.ownBlock) (hne : 3 ≠ E) : OwnsI w' B v xs :=
  World.ownsRow.kept h hg (rows_apart h h' hne)
theorem own_ne {α : Type} {f : α → List Value} {E k : Nat} {w : World} {B b : Nat} {v : Value} {l : List α} (h : OwnsF f E k w B v l) (hb : b < B) : some b ≠ v.ownBlock := by
  intro e
  have := (World.ownsRow.lt h b e.symm).1
  omega
theorem getElem_intsN7 (L : List Nat) (j : Nat) (h : j < L.length) : (intsN L)[j]'(by rw [intsN_len]; exact h) = ((L[j] : Nat) : Int) := by simp [intsN]
theorem holdsK_last {w : World} {g : Nat} {l : List VersionD} {i : Nat} (h : HoldsK cVersion 2 w g 0 l.toArray) (hi : i < l.length) :
    w.cell? ⟨g, i * 2, none⟩ = some (.int .i64 (l[i]).fMajor) ∧ w.cell? ⟨g, i * 2 + 1, none⟩ = some (.int .i64 (l[i]).fMinor) := by
  have e1 : l.toArray[i]! = l[i] := by simp [hi]
  constructor
  · have h1 := (h (i * 2) (by rw [size_flatK, List.size_toArray]; omega)).1
    rw [Nat.zero_add, get_flatK _ _ _ _ (by simp; omega), show i * 2 / 2 = i by omega, show i * 2 % 2 = 0 by omega, e1] at h1
    rw [h1]; rfl
  · have h1 := (h (i * 2 + 1) (by rw [size_flatK, List.size_toArray]; omega)).1
    rw [Nat.zero_add, get_flatK _ _ _ _ (by simp; omega), show (i * 2 + 1) / 2 = i by omega, show (i * 2 + 1) % 2 = 1 by omega, e1] at h1
    rw [h1]; rfl
theorem since_snoc (L : List Nat) (j : Nat) (h : j < L.length) : (⟨0, 0⟩ :: (L.take (j + 1)).map sinceN : List VersionD) = (⟨0, 0⟩ :: (L.take j).map sinceN) ++ [sinceN L[j]] := by
  rw [List.take_succ_eq_append_getElem h, List.map_append]; rfl
set_option maxRecDepth 100000 in
set_option maxHeartbeats 1600000 in
theorem implLeast_any (f : Int) (w : World) :
    Calls Try.prog 13 #[.int .i64 f] w fun e w' => GivesLeast f w e w' := by
  unfold GivesLeast
  have HX := Lib.hid (box1 w (.cells #[.int .i64 0, .int .i64 0] 25))
  have V0 := Lib.hid (Var2.new w 0 0 25)
  cases hf : isF f with
  | false =>
    have HI := Lib.hid (implIsFace_b f false hf)
    rw [leastV_no hf]
    clear hf
    go_enter Try.func13, Try.ntmps13
    go_wp2_with (go_at_call 32; (with_reducible refine (HI.out _).mono ?_); rintro e w' ⟨rfl, rfl⟩)
    exact bodyPost_ret (v := .tuple #[.agg #[.int .i64 0, .int .i64 0], .bool false]) (by simp [results, Try.results13, go_sem]) rfl ⟨rfl, HX.out⟩
  | true =>
    have HI := Lib.hid (implIsFace_b f true hf)
    have HA := Lib.hid (abilitiesOf_any f)
    have HLT := Lib.hid (abilL_lt f)
    have hl := abilL_len f
    have HSL := Lib.hid (show sincesL f = ⟨0, 0⟩ :: (abilL f).map sinceN from rfl)
    have HINS := Lib.hid (ins_sinces hf)
    have HEND := Lib.hid (sinces_end hf)
    have HSZ := Lib.hid (sincesL_len f)
    generalize leastV f = res at *
    generalize sincesL f = S at *
    generalize abilL f = L at *
    clear hf
    have HO := Lib.hid (ver_lit1 (w.alloc (.cells #[.int .i64 0, .int .i64 0] 25)) 0 0)
    have V1 := Lib.hid (V0.out.alloc (.cells #[.int .i64 0, .int .i64 0] 25))
    have HX2 := Lib.hid (box2 w (.cells #[.int .i64 0, .int .i64 0] 25) (.cells #[.int .i64 0, .int .i64 0] 25))
    have hB : (w.alloc (.cells #[.int .i64 0, .int .i64 0] 25)).heap.size = w.heap.size + 1 := by simp
    rw [hB] at HO
    clear hB
    go_enter Try.func13, Try.ntmps13
    go_wp2_with (go_at_call 32; (with_reducible refine (HI.out _).mono ?_); rintro e w' ⟨rfl, rfl⟩)
    refine (HA.out _).mono ?_
    rintro e w1 ⟨u, rfl, hI, hb⟩
    have HI2 := Lib.hid hI
    have V2 := Lib.hid (V1.out.below hb)
    have HB := Lib.hid (bel_to HX2.out hb)
    have HO1 := Lib.hid (ownsF_below HO.out hb (Nat.le_refl _))
    obtain ⟨a, c, rfl, _⟩ := rowAt_len (ownsI_row hI (by rw [intsN_len]; omega))
    rw [List.length_map, intsN_len] at *
    have HBB := Lib.hid (show w.heap.size + 1 < ((w.alloc (.cells #[.int .i64 0, .int .i64 0] 25)).alloc (.cells #[.int .i64 0, .int .i64 0] 25)).heap.size by simp)
    generalize ((w.alloc (.cells #[.int .i64 0, .int .i64 0] 25)).alloc (.cells #[.int .i64 0, .int .i64 0] 25)).heap.size = N at *
    clear hI hb HA
    go_wp2_with fail
    go_loopw [4, 6, 7, 8, 18] (fun sv _ _ _ i wr => ∃ j : Nat, j ≤ L.length ∧ i = .int .i64 j ∧ OwnsF cVersion 25 2 wr (w.heap.size + 1) sv (⟨0, 0⟩ :: (L.take j).map sinceN) ∧ OwnsI wr N (.slice a L.length c) (intsN L) ∧ Var2 wr w.heap.size 0 0 ∧ Below w.heap.size w wr) (fun _ _ _ _ i _ => L.length - (intOf i).toNat)
    case atStart => exact ⟨0, Nat.zero_le _, rfl, HO1.out, HI2.out, V2.out, HB.out⟩
    case round =>
      obtain ⟨j, hj, rfl, hO, hI, hv, hb⟩ := hrel
      have HOr := Lib.hid hO
      have HIr := Lib.hid hI
      have HVr := Lib.hid hv
      have HBr := Lib.hid hb
      have HSr := Lib.hid (show w.heap.size + 1 ≤ wr.heap.size by have := hv.lt; omega)
      clear hO hI hv hb
      by_cases hlt : j < L.length
      · obtain ⟨b, o, rfl, hbw, d1⟩ := rowAt_cell (ownsI_row HIr.out (by rw [intsN_len]; omega)) j (by simpa [intsN_len] using hlt)
        rw [getElem_map_intV, getElem_intsN7 L j hlt] at d1
        unfold intV at d1
        have HSN := Lib.hid (since_snoc L j hlt)
        have HSI := Lib.hid (implSince_nat L[j] (HLT.out _ (List.getElem_mem hlt)))
        have hlen : (⟨0, 0⟩ :: (L.take j).map sinceN : List VersionD).length ≤ 7 := by simp; omega
        generalize (⟨0, 0⟩ :: (L.take j).map sinceN : List VersionD) = T at *
        generalize sinceN L[j] = sk at *
        obtain ⟨s0, s1⟩ := sk
        unfold vVersion at HSI
        simp only at HSI
        go_wp2_with fail
        refine (HSI.out _).mono ?_
        rintro e w2 ⟨rfl, hb⟩
        have HO2 := Lib.hid (ownsF_alloc (ownsF_alloc (ownsF_below HOr.out hb (Nat.le_refl _)) (.cells #[.int .i64 s0, .int .i64 s1] 25)) (.cells #[.int .i64 s0, .int .i64 s1] 25))
        have HI3 := Lib.hid (ownsI_alloc (ownsI_alloc (ownsI_below HIr.out hb (Nat.le_refl _)) (.cells #[.int .i64 s0, .int .i64 s1] 25)) (.cells #[.int .i64 s0, .int .i64 s1] 25))
        have HV2 := Lib.hid (((HVr.out.below hb).alloc (.cells #[.int .i64 s0, .int .i64 s1] 25)).alloc (.cells #[.int .i64 s0, .int .i64 s1] 25))
        have HB2 := Lib.hid (HBr.out.trans ((bel_to hb (box2 w2 (.cells #[.int .i64 s0, .int .i64 s1] 25) (.cells #[.int .i64 s0, .int .i64 s1] 25))).mono HBr.out.size))
        have HS2 := Lib.hid (show w.heap.size + 1 ≤ w2.heap.size by have := hb.size; have := HSr.out; omega)
        clear hb
        go_wp2_with (at_builtin; (refine append_ver rfl _ _ rfl (w.heap.size + 1) _ T ⟨s0, s1⟩ _ (w2.heap.size + 1) rfl HO2.out rfl (ver_newC (w2.alloc (.cells #[.int .i64 s0, .int .i64 s1] 25)) ⟨s0, s1⟩ _ (by simp)) (by omega) (by have := HS2.out; simp; omega) ?_; intro v' w3 hO4 hg4))
        refine ⟨⟨j + 1, by omega, by go_num, by rw [HSN.out]; exact hO4, ownsI_keptF HI3.out HO2.out hg4 (by decide), HV2.out.grown hg4 (own_ne HO2.out (by omega)), below_appendF HB2.out (ownsF_base HO2.out (by omega)) hg4 HB2.out.size⟩, by simp [intOf]; omega⟩
      · have HT := Lib.hid (show (⟨0, 0⟩ :: (L.take j).map sinceN : List VersionD) = S from by rw [HSL.out, List.take_of_length_le (by omega)])
        rw [HT.out] at HOr
        obtain ⟨g, cap, rfl, hgB, hgw, hH⟩ := holdsK_own HOr.out (by intro e; have := HSZ.out.1; rw [e] at this; simp at this)
        have HC := Lib.hid (AnyQ.slices_SortFunc_small Try.sortFn 2 Try.isAgg25 Try.sizeOf25 cVersion cVersion_len cVersion_one cmpV 25 #[] g 0 cap S.toArray wr (fun args w => enters_of Try.func25 (by kernel_rfl) rfl args w) (fun _ _ _ _ x y => implCmp_lays x y _) hH hgw (by have := HSZ.out.2; simp; omega) bitsLen_some)
        have hlast := holdsK_last hH (show S.length - 1 < S.length by have := HSZ.out.1; omega)
        rw [HINS.out] at HC
        have HC2 := Lib.hid (show Calls Try.prog 42 #[.slice (some ⟨g, 0, none⟩) S.length cap, .func (.func 25) #[] #[]] wr fun e w' => e = .returned (.tuple #[]) ∧ Below wr.heap.size wr w' from
          HC.out.mono fun e w' ⟨he, n, os, hw⟩ => ⟨he, by rw [hw, sort_self _ _ _ _ _ hH]; exact below_sorted _ _ _⟩)
        have HE := Lib.hid HEND.out
        rw [List.getElem?_eq_getElem (show S.length - 1 < S.length by have := HSZ.out.1; omega)] at HE
        have hres := Option.some.inj HE.out
        rw [hres] at hlast
        obtain ⟨r0, r1⟩ := res
        obtain ⟨l0, l1⟩ := hlast
        simp only at l0 l1
        have hpos : (1 : Int) ≤ (S.length : Int) := by have := HSZ.out.1; omega
        have HZ := HSZ.out.2
        obtain ⟨n, hn⟩ : ∃ n : Nat, S.length = n + 1 := ⟨S.length - 1, by have := HSZ.out.1; omega⟩
        rw [hn] at HC2 l0 l1 hpos HZ
        rw [hn]
        simp only [Nat.add_sub_cancel] at l0 l1
        clear hH HC HE hres hn HINS HEND HSL HSZ hpos HI
        go_wp2_with fail
        refine HC2.out.mono ?_
        rintro e w2 ⟨rfl, hb⟩
        have q0 := pastC hb hgw l0
        have q1 := pastC hb hgw l1
        obtain ⟨hl0, a0, a1, f0, f1⟩ := HVr.out.below hb
        have HB2 := Lib.hid (HBr.out.trans (hb.mono HBr.out.size))
        clear hb l0 l1
        go_wp2_with fail
        exact bodyPost_ret (v := .tuple #[.agg #[.int .i64 r0, .int .i64 r1], .bool true]) (by simp [results, Try.results13, go_sem, a0, a1]) rfl ⟨rfl, (HB2.out.setCell (by simp) _).setCell (by simp) _⟩
end Go.Proofs.Ytbjkalnahckfnab
