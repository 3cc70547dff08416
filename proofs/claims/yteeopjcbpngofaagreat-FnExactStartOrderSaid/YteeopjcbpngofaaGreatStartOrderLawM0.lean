/- Arguments opened: slices of entries. -/
import Derived.Test.YteeopjcbpngofaaGreatLinksOfLawM3
import Derived.Test.YteeopjcbpngofaaGreatLinksOfLawM1
import Derived.Test.YteeopjcbpngofaaGreatLinksOfLawM2
import Derived.Test.YteeopjcbpngofaaGreatLinksOfLawM0
import Derived.ArgAppend
import Derived.Test.YteeopjcbpngofaaGreatLinksOfLawM4
import Derived.Deep.Slices
import Derived.StillTailTactics
/- Contracts of chapter 6: addReached, reachedFrom. Written by gen/ch6r2.py. -/
namespace Go.Proofs.YteeopjcbpngofaaGreat
set_option linter.unusedVariables false
set_option linter.unusedSimpArgs false
open Go.RowKit
theorem dfs_sub (E : Edges) : ∀ (f : Nat) (a : Nm) (acc : List Nm), ∀ x ∈ acc, x ∈ dfs E f a acc := by
  intro f
  induction f with
  | zero => intro a acc x hx; exact hx
  | succ f ih =>
    intro a acc
    show ∀ x ∈ acc, x ∈ (nxt E a).foldl _ acc
    generalize nxt E a = l
    induction l generalizing acc with
    | nil => intro x hx; exact hx
    | cons y t iht =>
      intro x hx
      rw [List.foldl_cons]
      refine iht _ x ?_
      split
      · exact hx
      · exact ih y (acc ++ [y]) x (List.mem_append.2 (Or.inl hx))
/-- what is reached while the links of a name are gone through -/
def accK (E : Edges) (f : Nat) (a : Nm) (acc : List Nm) (k : Nat) : List Nm := ((nxt E a).take k).foldl (fun r b => if b ∈ r then r else dfs E f b (r ++ [b])) acc
theorem accK_succ (E : Edges) (f : Nat) (a : Nm) (acc : List Nm) (k : Nat) (h : k < (nxt E a).length) : accK E f a acc (k + 1) = if (nxt E a)[k] ∈ accK E f a acc k then accK E f a acc k else dfs E f (nxt E a)[k] (accK E f a acc k ++ [(nxt E a)[k]]) := by
  unfold accK
  rw [List.take_succ_eq_append_getElem h, List.foldl_append]; rfl
theorem accK_end (E : Edges) (f : Nat) (a : Nm) (acc : List Nm) (k : Nat) (h : (nxt E a).length ≤ k) : accK E f a acc k = dfs E (f + 1) a acc := by
  unfold accK
  rw [List.take_of_length_le h]; rfl
theorem accK_sub (E : Edges) (f : Nat) (a : Nm) (acc : List Nm) (k : Nat) : ∀ x ∈ acc, x ∈ accK E f a acc k := by
  unfold accK
  generalize (nxt E a).take k = l
  induction l generalizing acc with
  | nil => intro x hx; exact hx
  | cons y t iht =>
    intro x hx
    rw [List.foldl_cons]
    refine iht _ x ?_
    split
    · exact hx
    · exact dfs_sub E f y (acc ++ [y]) x (List.mem_append.2 (Or.inl hx))
theorem step_lack {E : Edges} {a b : Nm} {r : List Nm} (he : (a, b) ∈ E) (hb : b ∉ r) : lack E (r ++ [b]) < lack E r := lack_lt (fun x hx => List.mem_append.2 (Or.inl hx)) he hb (by simp)
theorem dfs_len (E : Edges) (M : Nat) : ∀ (f : Nat) (a : Nm) (acc : List Nm), acc.length + lack E acc ≤ M → (dfs E f a acc).length + lack E (dfs E f a acc) ≤ M := by
  intro f
  induction f with
  | zero => intro a acc h; exact h
  | succ f ih =>
    intro a acc h
    show ((nxt E a).foldl _ acc).length + lack E ((nxt E a).foldl _ acc) ≤ M
    have key : ∀ (l : List Nm) (r : List Nm), (∀ b ∈ l, (a, b) ∈ E) → r.length + lack E r ≤ M → (l.foldl (fun r b => if b ∈ r then r else dfs E f b (r ++ [b])) r).length + lack E (l.foldl (fun r b => if b ∈ r then r else dfs E f b (r ++ [b])) r) ≤ M := by
      intro l
      induction l with
      | nil => intro r _ h; exact h
      | cons y t iht =>
        intro r hl hr
        rw [List.foldl_cons]
        refine iht _ (fun b hb => hl b (List.mem_cons_of_mem _ hb)) ?_
        split
        · exact hr
        · rename_i hy
          refine ih y (r ++ [y]) ?_
          have := step_lack (hl y (List.mem_cons_self ..)) hy
          rw [List.length_append, List.length_singleton]; omega
    exact key _ _ (fun b hb => mem_nxt.1 hb) h
theorem accK_len (E : Edges) (M f : Nat) (a : Nm) (acc : List Nm) (k : Nat) (h : acc.length + lack E acc ≤ M) : (accK E f a acc k).length + lack E (accK E f a acc k) ≤ M := by
  induction k with
  | zero => unfold accK; simpa using h
  | succ k ih =>
    by_cases hk : k < (nxt E a).length
    · rw [accK_succ E f a acc k hk]
      split
      · exact ih
      · rename_i hb
        refine dfs_len E M f _ _ ?_
        have := step_lack (mem_nxt.1 (List.getElem_mem hk)) hb
        rw [List.length_append, List.length_singleton]; omega
    · have e : accK E f a acc (k + 1) = accK E f a acc k := by unfold accK; rw [List.take_of_length_le (by omega), List.take_of_length_le (by omega)]
      rw [e]; exact ih
theorem gr_comp {w w1 w2 : World} {r r1 : Option Nat} (h : w.grownBy w1 r) (k : w1.grownBy w2 r1) (hr : ∀ c, c < w.heap.size → r ≠ some c → r1 ≠ some c) : w.grownBy w2 r :=
  ⟨k.os.trans h.os, k.tape.trans h.tape, k.output.trans h.output, Nat.le_trans h.size k.size, fun i hi hne => (k.block i (Nat.lt_of_lt_of_le hi h.size) (fun e => hr i hi (fun e2 => hne e2.symm) e.symm)).trans (h.block i hi hne)⟩
theorem gr_belowR {w w1 w2 : World} {r : Option Nat} {B : Nat} (h : w.grownBy w1 r) (k : Below B w1 w2) (hB : w1.heap.size ≤ B) : w.grownBy w2 r :=
  ⟨k.os.trans h.os, k.tape.trans h.tape, k.output.trans h.output, Nat.le_trans h.size k.size, fun i hi hne => (k.block i (by have := h.size; omega)).trans (h.block i hi hne)⟩
theorem ownR_kept2 {α : Type} {f : α → List Value} {E k : Nat} {w w' : World} {lo hi : Nat} {v : Value} {l : List α} {r : Option Nat} (h : OwnR f E k w lo hi v l) (hg : w.grownBy w' r) (hr : ∀ g, lo ≤ g → g < hi → r = some g → False) : OwnR f E k w' lo hi v l := by
  refine ⟨World.ownsRow.kept h.1 hg ?_, h.2⟩
  cases he : v.ownBlock with
  | none => exact Or.inl rfl
  | some c => exact Or.inr fun e => hr c (World.ownsRow.lt h.1 c he).1 (h.2 c he) e.symm
set_option maxRecDepth 100000 in
set_option maxHeartbeats 3200000 in
theorem addReached_c (L : List LinkD) (b lo hi B M : Nat) (hM : M ≤ 4194000) (hT : ∀ x ∈ L, x.fTo.length ≤ maxLen) (hLL : L.length ≤ 4194304) : ∀ (f : Nat) (nm : Nm) (acc : List Nm) (v : Value) (w : World), lack (edg L) acc < f → acc.length + lack (edg L) acc ≤ M → nm.length ≤ maxLen →
    LnkAt w lo hi b L → hi ≤ w.heap.size → B ≤ w.heap.size → Owns w B v acc → (∀ c, lo ≤ c → c < hi → v.ownBlock ≠ some c) →
    Calls Tryz.prog 124 #[.map (some b), .string ⟨nm.toArray⟩, v] w fun e w' => ∃ v', e = .returned v' ∧ Owns w' B v' (dfs (edg L) f nm acc) ∧ w.grownBy w' v.ownBlock ∧ ∀ c, c < w.heap.size → v.ownBlock ≠ some c → v'.ownBlock ≠ some c := by
  intro f
  induction f with
  | zero => intro nm acc v w h; omega
  | succ f ih =>
    intro nm acc v w hlk hlen hnm hL hhi hB hO hap
    have HIH := Lib.hid ih
    have HL := Lib.hid hL
    have HAP := Lib.hid hap
    have HOv := Lib.hid hO
    obtain ⟨n, f0, hm, _, hf⟩ := hL
    have hlk2 := hm.look Tryz.underlying102 (zeroLinks _) nm hnm
    have HR0 := Lib.hid (hf nm)
    obtain ⟨fa, fc, hfa⟩ := slice_of (hf nm).1
    rw [hfa] at hlk2 HR0
    have HFM := Lib.hid (show (frm L nm).length ≤ 4194304 from Nat.le_trans (frm_len L nm) hLL)
    have HNX := Lib.hid (nxt_edg L nm)
    have HNL := Lib.hid (show (nxt (edg L) nm).length = (frm L nm).length by rw [nxt_edg, List.length_map])
    have HST := Lib.hid (fun k h => accK_succ (edg L) f nm acc k h)
    have HEN := Lib.hid (fun k h => accK_end (edg L) f nm acc k h)
    have HSB := Lib.hid (fun k => lack_le (E := edg L) (accK_sub (edg L) f nm acc k))
    have HLE := Lib.hid (fun k => accK_len (edg L) M f nm acc k hlen)
    have HA0 := Lib.hid (show accK (edg L) f nm acc 0 = acc from rfl)
    have HTT := Lib.hid hT
    obtain ⟨ac, hac⟩ : ∃ ac, ac = accK (edg L) f nm acc := ⟨_, rfl⟩
    rw [← hac] at HST HEN HSB HLE HA0
    clear hac ih hap hm hf hfa hO
    go_enter Tryz.func124, Tryz.ntmps124
    go_wp2_with fail
    clear hlk2
    go_loopw [2, 8, 13] (fun u2 _ i wr => ∃ k : Nat, k ≤ (frm L nm).length ∧ i = .int .i64 k ∧ Owns wr B u2 (ac k) ∧ w.grownBy wr v.ownBlock ∧ ∀ c, c < w.heap.size → v.ownBlock ≠ some c → u2.ownBlock ≠ some c) (fun _ _ i _ => (frm L nm).length - (intOf i).toNat)
    case atStart => exact ⟨0, Nat.zero_le _, rfl, by rw [HA0.out]; exact HOv.out, grownBy_refl _ _, fun c _ h => h⟩
    case round =>
      obtain ⟨k, hk, rfl, hO, hg, hl⟩ := hrel
      have HO := Lib.hid hO
      have HG := Lib.hid hg
      have HRL := Lib.hid hl
      have HLr := Lib.hid (HL.out.grown hg (fun g e => by by_cases h : lo ≤ g ∧ g < hi; exact absurd e (HAP.out g h.1 h.2); omega))
      have HRr := Lib.hid (ownR_kept2 HR0.out hg (fun g h1 h2 e => HAP.out g h1 h2 e))
      clear hO hg hl
      by_cases hlt : k < (frm L nm).length
      · obtain ⟨bb, o, rfl, hbw, hd⟩ := flatAt_cell cLink_len (ownR_at HRr.out HFM.out) k hlt (by decide)
        have d0 := hd 0 (by decide)
        have d1 := hd 1 (by decide)
        have d2 := hd 2 (by decide)
        have hkn : k < (nxt (edg L) nm).length := by have := HNL.out; omega
        have HMM := Lib.hid (show (nm, (nxt (edg L) nm)[k]) ∈ edg L from mem_nxt.1 (List.getElem_mem hkn))
        have HTO := Lib.hid (show (nxt (edg L) nm)[k] = ((frm L nm)[k]).fTo by have h := HNX.out; simp only [h, List.getElem_map])
        have HT1 := Lib.hid (show ((frm L nm)[k]).fTo.length ≤ maxLen from HTT.out _ (List.mem_filter.1 (List.getElem_mem hlt)).1)
        have HS1 := Lib.hid (HST.out k hkn)
        rw [HTO.out] at HMM HS1
        clear hd HTO
        generalize (frm L nm)[k] = z at *
        obtain ⟨t0, t1, t2⟩ := z
        simp only [cLink, List.getElem?_cons_zero, List.getElem?_cons_succ, Nat.add_zero] at d0 d1 d2 HMM HS1 HT1
        have BX := Lib.hid (Bx.new wr [.string ⟨t0.toArray⟩, .string ⟨t1.toArray⟩, .int .i64 t2] 100)
        have hb := bx_box wr (.cells #[.string ⟨t0.toArray⟩, .string ⟨t1.toArray⟩, .int .i64 t2] 100)
        have HO1 := Lib.hid (owns_below HO.out hb (Nat.le_refl _))
        have HG1 := Lib.hid (gr_belowR HG.out hb (Nat.le_refl _))
        have HRX := Lib.hid (show u2.ownBlock ≠ some wr.heap.size from fun e => by have := (World.ownsRow.lt HO.out _ e).2; omega)
        have HLN := Lib.hid (show (ac k).length ≤ 4194000 by have := HLE.out k; omega)
        have HRW := Lib.hid (owns_row HO1.out (by have := HLN.out; omega))
        have HCO := Lib.hid (fun W (h : RowAt W u2 ((ac k).map strV)) => contains_any u2 (ac k) ⟨t1.toArray⟩ W h)
        have hfm := HFM.out
        have hkl : (k : Int) < ((frm L nm).length : Int) := by omega
        clear hb
        have x0 := BX.out.cell 0 (by simp)
        have x1 := BX.out.cell 1 (by simp)
        have x2 := BX.out.cell 2 (by simp)
        simp only [List.getElem_cons_zero, List.getElem_cons_succ] at x0 x1 x2
        go_wp2_with fail
        generalize wr.alloc (.cells #[.string ⟨t0.toArray⟩, .string ⟨t1.toArray⟩, .int .i64 t2] 100) = w3 at *
        have HO3 := HO1
        have HG3 := HG1
        have BX3 := BX
        refine (HCO.out _ HRW.out).mono ?_
        rintro e _ ⟨rfl, rfl⟩
        by_cases hin : t1 ∈ ac k
        · have HN1 := Lib.hid (show ac (k + 1) = ac k by rw [HS1.out, if_pos hin])
          have hdin : decide (t1 ∈ ac k) = true := by simpa using hin
          simp only [hdin]
          clear HS1
          go_wp2_with fail
          exact ⟨⟨k + 1, by omega, by go_num, by rw [HN1.out]; exact HO1.out, HG1.out, HRL.out⟩, by simp [intOf]; omega⟩
        · have HN1 := Lib.hid (show ac (k + 1) = dfs (edg L) f t1 (ac k ++ [t1]) by rw [HS1.out, if_neg hin])
          have hdin : decide (t1 ∈ ac k) = false := by simpa using hin
          have HLC := Lib.hid (show lack (edg L) (ac k ++ [t1]) < f by have h1 := step_lack HMM.out hin; have h2 := HSB.out k; omega)
          have HLM := Lib.hid (show (ac k ++ [t1]).length + lack (edg L) (ac k ++ [t1]) ≤ M by have h1 := step_lack HMM.out hin; have h2 := HLE.out k; rw [List.length_append, List.length_singleton]; omega)
          simp only [hdin]
          clear HS1 hin hdin
          go_wp2_with fail
          refine wp_region_held_drew (S := (fun w' => w'.cell? ⟨wr.heap.size, 1, none⟩ = some (.string ⟨t1.toArray⟩))) (by kernel_rfl) ?_ (fun hHeld => ?_)
          · exact x1
          have hbd := belD (Below.refl w3.heap.size w3)
          have HBD3 := Lib.hid hbd
          clear hbd
          generalize w3.drew = wD at *
          refine wpAnyH_take (i := 0) (v := ?_) rfl (by kernel_rfl) (by kernel_rfl) (by kernel_rfl) (fun _ _ _ h => h) (Or.inl ⟨by rfl, ?_⟩) (by assumption) ?_
          rotate_left
          · intro w hSw; (try dsimp only at hSw); go_simp; with_reducible rfl
          try simp only [Act.put, List.getElem_toArray, List.getElem_cons_zero, List.getElem_cons_succ, List.setIfInBounds_toArray, List.set_cons_zero, List.set_cons_succ]
          refine wpAnyH_take (i := 1) (v := ?_) rfl (by kernel_rfl) (by kernel_rfl) (by kernel_rfl) (fun _ _ _ h => h) (Or.inl ⟨by rfl, ?_⟩) (by assumption) ?_
          rotate_left
          · intro w hSw; (try dsimp only at hSw); go_simp; with_reducible rfl
          try simp only [Act.put, List.getElem_toArray, List.getElem_cons_zero, List.getElem_cons_succ, List.setIfInBounds_toArray, List.set_cons_zero, List.set_cons_succ]
          refine wpAnyH_take (i := 2) (v := ?_) rfl (by kernel_rfl) (by kernel_rfl) (by kernel_rfl) (fun _ _ _ h => h) (Or.inl ⟨by rfl, ?_⟩) (by assumption) ?_
          rotate_left
          · intro w hSw; (try dsimp only at hSw); go_simp; with_reducible rfl
          try simp only [Act.put, List.getElem_toArray, List.getElem_cons_zero, List.getElem_cons_succ, List.setIfInBounds_toArray, List.set_cons_zero, List.set_cons_succ]
          refine wpAnyH_take (i := 3) (v := ?_) rfl (by kernel_rfl) (by kernel_rfl) (by kernel_rfl) (fun _ _ _ h => h) (Or.inl ⟨by rfl, ?_⟩) (by assumption) ?_
          rotate_left
          · intro w hSw; (try dsimp only at hSw); go_simp; with_reducible rfl
          try simp only [Act.put, List.getElem_toArray, List.getElem_cons_zero, List.getElem_cons_succ, List.setIfInBounds_toArray, List.set_cons_zero, List.set_cons_succ]
          refine wpAnyH_take (i := 4) (v := ?_) rfl (by kernel_rfl) (by kernel_rfl) (by kernel_rfl) (fun _ _ _ h => h) (Or.inl ⟨by rfl, ?_⟩) (by assumption) ?_
          rotate_left
          · intro w hSw; (try dsimp only at hSw); go_simp; with_reducible rfl
          try simp only [Act.put, List.getElem_toArray, List.getElem_cons_zero, List.getElem_cons_succ, List.setIfInBounds_toArray, List.set_cons_zero, List.set_cons_succ]
          refine wpAnyH_take (i := 5) (v := ?_) rfl (by kernel_rfl) (by kernel_rfl) (by kernel_rfl) (fun _ _ _ h => h) (Or.inl ⟨by rfl, ?_⟩) (by assumption) ?_
          rotate_left
          · intro w hSw; (try dsimp only at hSw); go_simp; with_reducible rfl
          try simp only [Act.put, List.getElem_toArray, List.getElem_cons_zero, List.getElem_cons_succ, List.setIfInBounds_toArray, List.set_cons_zero, List.set_cons_succ]
          refine wpAnyH_ready (rs := [6]) (by kernel_rfl) (by simp) ?_
          refine AllReadyH.cons rfl (fun K hK => ?_) AllReadyH.nil
          go_simp
          have HB4 := Lib.hid (HBD3.out.trans ((bx_box wD (.cells #[.string ⟨t1.toArray⟩] 9)).mono HBD3.out.size))
          have HCB := Lib.hid (show ∀ i, i < 1 → (wD.alloc (.cells #[.string ⟨t1.toArray⟩] 9)).cell? ⟨wD.heap.size, i, none⟩ = (cStr t1)[i]? from fun i hi => by rw [cell_of_row _ _ _ _ 9 (0, 0) (heap_alloc_new _ _)]; obtain rfl : i = 0 := (by omega); rfl)
          refine hK.out _ _ ?_ (fun hHeld => ?_)
          · exact (HB4.out.cell (p := ⟨wr.heap.size, 1, none⟩) BX3.out.lt).trans x1
          clear hK K
          try simp only [Act.put, List.getElem_toArray, List.getElem_cons_zero, List.getElem_cons_succ, List.setIfInBounds_toArray, List.set_cons_zero, List.set_cons_succ]
          generalize wD.alloc (.cells #[.string ⟨t1.toArray⟩] 9) = w4 at *
          refine wpAnyH_ready (rs := [7]) (by kernel_rfl) (by simp) ?_
          refine AllReadyH.cons rfl (fun K hK => ?_) AllReadyH.nil
          refine step_flat cStr_len cStr_one infoStrB rfl (by decide) (by decide) Tryz.underlying24 rfl _ _ rfl B u2 (ac k) t1 _ wD.heap.size (by rfl) (ownsF_below (ownsF_str HO3.out) HB4.out (Nat.le_refl _)) (by rfl) HCB.out (by have := HLN.out; omega) (by have h1 := HG3.out.size; have h2 := HB4.out.size; omega) ?_
          intro v5 w5 hO5 hg5 hl5
          have HO5 := Lib.hid hO5
          have HG5 := Lib.hid hg5
          have HL5 := Lib.hid hl5
          clear hO5 hg5 hl5
          have BX5 := Lib.hid ((BX3.out.below HB4.out).grown HG5.out HRX.out)
          refine hK.out _ _ ?_ (fun hHeld => ?_)
          · exact BX5.out.cell 1 (by simp)
          clear hK K
          try simp only [Act.put, List.getElem_toArray, List.getElem_cons_zero, List.getElem_cons_succ, List.setIfInBounds_toArray, List.set_cons_zero, List.set_cons_succ]
          have HW5 := Lib.hid (gr_comp (gr_belowR HG3.out HB4.out (Nat.le_refl _)) HG5.out (fun c hc hne => HRL.out c hc hne))
          have HV5 := Lib.hid (fun c (hc : c < w.heap.size) (hne : v.ownBlock ≠ some c) => HL5.out c (by have h1 := HG3.out.size; have h2 := HB4.out.size; omega) (HRL.out c hc hne))
          have HLK5 := Lib.hid (HL.out.grown HW5.out (fun g e => by by_cases h : lo ≤ g ∧ g < hi; exact absurd e (HAP.out g h.1 h.2); omega))
          refine wpAnyH_ready (rs := [8]) (by kernel_rfl) (by simp) ?_
          refine AllReadyH.cons rfl (fun K hK => ?_) AllReadyH.nil
          go_simp
          go_at_call 124
          refine (HIH.out t1 (ac k ++ [t1]) v5 w5 HLC.out HLM.out HT1.out HLK5.out (by have h1 := HG3.out.size; have h2 := HB4.out.size; have h3 := HG5.out.size; omega) (by have h1 := HG3.out.size; have h2 := HB4.out.size; have h3 := HG5.out.size; omega) (owns_strF HO5.out) (fun c h1 h2 => HV5.out c (by omega) (HAP.out c h1 h2))).mono ?_
          rintro e w6 ⟨v6, rfl, ho6, hg6, hl6⟩
          have HO6 := Lib.hid ho6
          have HG6 := Lib.hid hg6
          have HL6 := Lib.hid hl6
          clear ho6 hg6 hl6
          have HVX := Lib.hid (show v5.ownBlock ≠ some wr.heap.size from HL5.out wr.heap.size (Nat.lt_of_lt_of_le BX3.out.lt HB4.out.size) HRX.out)
          refine hK.out _ _ ?_ (fun hHeld => ?_)
          · exact (BX5.out.grown HG6.out HVX.out).cell 1 (by simp)
          clear hK K
          try simp only [Act.put, List.getElem_toArray, List.getElem_cons_zero, List.getElem_cons_succ, List.setIfInBounds_toArray, List.set_cons_zero, List.set_cons_succ]
          refine wpAnyH_take (i := 9) (v := ?_) rfl (by kernel_rfl) (by kernel_rfl) (by kernel_rfl) (fun _ _ _ h => h) (Or.inl ⟨by rfl, ?_⟩) (by assumption) ?_
          rotate_left
          · intro w hSw; (try dsimp only at hSw); go_simp; with_reducible rfl
          try simp only [Act.put, List.getElem_toArray, List.getElem_cons_zero, List.getElem_cons_succ, List.setIfInBounds_toArray, List.set_cons_zero, List.set_cons_succ]
          refine wpAnyH_done (by kernel_rfl) ?_ _
          go_wp2_with fail
          exact ⟨⟨k + 1, by omega, by go_num, by rw [HN1.out]; exact HO6.out, gr_comp HW5.out HG6.out (fun c hc hne => HV5.out c hc hne), fun c hc hne => HL6.out c (by have h1 := HW5.out.size; omega) (HV5.out c hc hne)⟩, by simp [intOf]; omega⟩
      · have HN1 := Lib.hid (show ac k = dfs (edg L) (f + 1) nm acc from HEN.out k (by have := HNL.out; omega))
        have hkl : ¬ (k : Int) < ((frm L nm).length : Int) := by omega
        go_wp2_with fail
        go_ret
        exact ⟨_, rfl, by rw [← HN1.out]; exact HO.out, HG.out, HRL.out⟩
end Go.Proofs.YteeopjcbpngofaaGreat
/- A queue of texts: a slice of one's own that loses its head and grows at its end. Written by gen/ch6w.py. -/
namespace Go.Proofs.YteeopjcbpngofaaGreat
set_option linter.unusedVariables false
set_option linter.unusedSimpArgs false
open Go.RowKit
/-- the slice v holds the texts x, in a block of one's own, at whatever place; what lies behind it may be written -/
def OwnsQ (w : World) (B : Nat) (v : Value) (x : List (List UInt8)) : Prop :=
  ∃ g o c, v = .slice (some ⟨g, o, none⟩) x.length (x.length + c) ∧ B ≤ g ∧ g < w.heap.size ∧ (∀ j (h : j < x.length), w.cell? ⟨g, o + j, none⟩ = some (strV (x[j]'h))) ∧
    ∀ j, j < c → (w.cell? ⟨g, o + x.length + j, none⟩).isSome = true ∧ w.frozen? ⟨g, o + x.length + j, none⟩ = false
theorem ownsQ_kept {w w' : World} {B : Nat} {v : Value} {x : List (List UInt8)} {r : Option Nat} (h : OwnsQ w B v x) (hg : w.grownBy w' r) (hne : v.ownBlock ≠ r) : OwnsQ w' B v x := by
  obtain ⟨g, o, c, rfl, hB, hlt, h1, h2⟩ := h
  have hb := hg.block g hlt hne
  exact ⟨g, o, c, rfl, hB, Nat.lt_of_lt_of_le hlt hg.size, fun j hj => (World.cell?_of_block (a := ⟨g, o + j, none⟩) hb).trans (h1 j hj), fun j hj => ⟨by rw [World.cell?_of_block (a := ⟨g, o + x.length + j, none⟩) hb]; exact (h2 j hj).1, by rw [World.frozen?_of_block (a := ⟨g, o + x.length + j, none⟩) hb]; exact (h2 j hj).2⟩⟩
theorem ownsQ_below {w w' : World} {B B' : Nat} {v : Value} {x : List (List UInt8)} (h : OwnsQ w B v x) (hb : Below B' w w') (hB : w.heap.size ≤ B') : OwnsQ w' B v x :=
  ownsQ_kept h (r := none) ⟨hb.os, hb.tape, hb.output, hb.size, fun k hk _ => hb.block k (Nat.lt_of_lt_of_le hk hB)⟩ (by obtain ⟨g, o, c, rfl, _⟩ := h; simp [Value.ownBlock])
theorem ownsQ_base {w : World} {B B' : Nat} {v : Value} {x : List (List UInt8)} (h : OwnsQ w B v x) (hB : B' ≤ B) : OwnsQ w B' v x := by
  obtain ⟨g, o, c, rfl, h0, h1⟩ := h; exact ⟨g, o, c, rfl, Nat.le_trans hB h0, h1⟩
theorem ownsQ_of {w : World} {B : Nat} {g n cap : Nat} {x : List (List UInt8)} (h : Owns w B (.slice (some ⟨g, 0, none⟩) n cap) x) (hn : n = x.length) : OwnsQ w B (.slice (some ⟨g, 0, none⟩) n cap) x := by
  subst hn
  have hlt := (World.ownsRow.lt h g rfl)
  rcases h.2 with ⟨h1, _⟩ | ⟨g', cap', cur, e, hB, hg, hc, hm, hs, ht⟩
  · cases h1
  · injection e with e1 e2 e3
    injection e1 with e1; injection e1 with e1 _
    subst e1; subst e3
    refine ⟨g, 0, cap - x.length, by rw [Nat.add_sub_of_le hc], hB, hlt.2, fun j hj => ?_, fun j hj => ?_⟩
    · have := World.ownsRow.cellAt h j (by omega)
      rw [Nat.zero_add, this]
      simp [hj]
    · rw [Nat.zero_add]
      refine ⟨?_, by rw [World.ownsRow.frozenAt h]⟩
      rw [cell_of_row _ _ _ _ 9 (0, 0) hg]
      have : x.length + j < cur.size := by omega
      simp [this]
theorem ownsQ_tail {w : World} {B g o n c : Nat} {y : List UInt8} {x : List (List UInt8)} (h : OwnsQ w B (.slice (some ⟨g, o, none⟩) (n + 1) (n + 1 + c)) (y :: x)) (hn : n = x.length) : OwnsQ w B (.slice (some ⟨g, o + 1, none⟩) n (n + c)) x := by
  subst hn
  obtain ⟨g', o', c', e, h0, h1, h2, h3⟩ := h
  injection e with e1 e2 e3
  injection e1 with e1; injection e1 with e1 e4
  subst e1; subst e4
  obtain rfl : c' = c := by simp at e3; omega
  refine ⟨g, o + 1, c', rfl, h0, h1, fun j hj => ?_, fun j hj => ?_⟩
  · have := h2 (j + 1) (by simp; omega)
    rw [show o + 1 + j = o + (j + 1) by omega]; exact this
  · have := h3 j hj
    rw [show o + 1 + x.length + j = o + (y :: x).length + j by simp; omega]; exact this
/-- one text more at the end -/
theorem append_que {ops : Array Oper} {rest : List Oper} {o : Oper} {a : Act} {Q : Exit → Act → World → Prop} (hgd : o.guard = none) (s x : Operand)
    (ho : o.op = .call { callee := .builtin .append, args := #[s, x], argTypes := #[24, 24] }) (B : Nat) (v : Value) (xs : List (List UInt8)) (y : List UInt8) (w : World) (blk : Nat)
    (hs : a.eval s = v) (hO : OwnsQ w B v xs) (hx : a.eval x = .slice (some ⟨blk, 0, none⟩) 1 1) (hc : w.cell? ⟨blk, 0, none⟩ = some (strV y)) (hl : xs.length ≤ 4194304) (hB : B ≤ w.heap.size)
    (h : ∀ v' w', OwnsQ w' B v' (xs ++ [y]) → w.grownBy w' v.ownBlock → (∀ c, c < w.heap.size → v.ownBlock ≠ some c → v'.ownBlock ≠ some c) → wpList Tryz.prog ops Q rest (a.put o.dst v') w') : wpList Tryz.prog ops Q (o :: rest) a w := by
  obtain ⟨i0, hi, hz0, hz1, hz2⟩ := info_parts infoStrB
  obtain ⟨g, of, c, rfl, hBg, hlt, h1, h2⟩ := hO
  have hn : ∀ j u, [strV y][j]? = some u → w.cell? ((⟨blk, 0, none⟩ : Addr).add j) = some u := by
    intro j u hj
    cases j with
    | zero => simp at hj; subst hj; rw [Addr.add_lit]; exact hc
    | succ j => simp at hj
  have h1c : ∀ u ∈ [strV y], u.oneCell' = true := by intro u hu; simp at hu; subst hu; rfl
  refine wpList_plain hgd fun _ hK => ?_
  by_cases hc0 : c = 0
  · subst hc0
    obtain ⟨v', w', hr, r1, r2⟩ := run_append_arg_grows (P := Tryz.prog) w 24 o.type 9 i0 (.string ⟨#[]⟩) 1 16 Tryz.underlying24 hi hz0 hz1 hz2 rfl (by decide) ⟨g, of, none⟩ xs.length (xs.length + 0) (xs.map strV) (by simp) (by
      intro j u hj
      have hj2 : j < xs.length := by have := (List.getElem?_eq_some_iff.1 hj).1; simpa using this
      rw [Addr.add_lit, h1 j hj2]
      rw [List.getElem?_map, List.getElem?_eq_getElem hj2] at hj
      simpa using hj) ⟨blk, 0, none⟩ 1 1 [strV y] rfl hn (by omega) (by unfold maxLen; omega) (by omega)
    unfold Oper.wp execOp
    simp only [ho, resolve, invoke, builtin, Sem.run_bind, Sem.run_pure, Result.andThen_ok, List.map_toArray, List.map_cons, List.map_nil, hs, hx, hr]
    have hOw : Owns w' w.heap.size v' (xs ++ [y]) := by unfold Owns; rw [List.map_append, List.length_append]; exact r1
    have hg2 : w.grownBy w' (Value.slice (some ⟨g, of, none⟩) xs.length (xs.length + 0)).ownBlock := ⟨r2.os, r2.tape, r2.output, r2.size, fun k hk hne => r2.block k hk (by simp)⟩
    obtain ⟨g2, cap2, hv2, hcap2⟩ : ∃ g2 cap2, v' = .slice (some ⟨g2, 0, none⟩) (xs ++ [y]).length cap2 ∧ w.heap.size ≤ g2 := by
      rcases hOw.2 with ⟨_, h0⟩ | ⟨g2, cap2, cur, h0, h3, _⟩
      · simp at h0
      · exact ⟨g2, cap2, h0, h3⟩
    subst hv2
    exact hK _ _ (h _ w' (ownsQ_base (ownsQ_of hOw rfl) hB) hg2 (fun c hc _ e => by simp [Value.ownBlock] at e; omega))
  · have hh := h2 0 (by omega)
    have hi1 : i0.size = 1 := hz1
    have hr := run_append_room_cells (P := Tryz.prog) w 24 o.type 9 i0 Tryz.underlying24 hi g of xs.length (xs.length + c) ⟨blk, 0, none⟩ 1 1 [strV y] (by rw [hi1]; rfl) hn h1c (by omega) (by intro j hj; obtain rfl : j = 0 := (by simp at hj; omega); rw [hi1, Nat.mul_one]; exact hh.1) (by intro j hj; obtain rfl : j = 0 := (by simp at hj; omega); rw [hi1, Nat.mul_one]; exact hh.2)
    rw [hi1, Nat.mul_one] at hr
    unfold Oper.wp execOp
    simp only [ho, resolve, invoke, builtin, Sem.run_bind, Sem.run_pure, Result.andThen_ok, List.map_toArray, List.map_cons, List.map_nil, hs, hx, hr]
    have e1 : w.setCells g (of + xs.length) [strV y] = w.setCell ⟨g, of + xs.length, none⟩ (strV y) := rfl
    rw [e1]
    have hsz : (w.setCell ⟨g, of + xs.length, none⟩ (strV y)).heap.size = w.heap.size := by simp
    refine hK _ _ (h _ _ ⟨g, of, c - 1, by rw [List.length_append, List.length_singleton, show xs.length + 1 + (c - 1) = xs.length + c by omega], hBg, by rw [hsz]; exact hlt, fun j hj => ?_, fun j hj => ?_⟩ ⟨rfl, rfl, rfl, by simp, fun k hk hne => Below.heap_setCell w ⟨g, of + xs.length, none⟩ _ k (fun e => hne (by simp [Value.ownBlock, e]))⟩ (fun c _ hne => hne))
    · by_cases hj2 : j < xs.length
      · rw [bx_set_ne (Or.inr (by omega)), h1 j hj2, List.getElem_append_left hj2]
      · have hj3 : j = xs.length := by simp at hj; omega
        subst hj3
        have := World.cell?_setCell_same' w ⟨g, of + xs.length, none⟩ (strV y) (by have := hh.1; rw [Nat.add_zero] at this; exact this)
        rw [this]; simp
    · have h3 := h2 (j + 1) (by omega)
      rw [List.length_append, List.length_singleton, show of + (xs.length + 1) + j = of + xs.length + (j + 1) by omega]
      refine ⟨?_, by simpa using h3.2⟩
      rw [bx_set_ne (Or.inr (by omega))]
      exact h3.1
theorem ownsQ_none {w : World} {B g o c : Nat} {x : List (List UInt8)} (h : OwnsQ w B (.slice (some ⟨g, o + 1, none⟩) x.length (x.length + c)) x) (hz : x.length + 1 + c = 1) : OwnsQ w B (.slice (some ⟨g, o, none⟩) x.length (x.length + c)) x := by
  obtain ⟨g', o', c', e, h0, h1, _⟩ := h
  injection e with e1 e2 e3
  injection e1 with e1; injection e1 with e1 _
  subst e1
  exact ⟨g, o, c, rfl, h0, h1, fun j hj => by omega, fun j hj => by omega⟩
theorem ownsQ_lt {w : World} {B : Nat} {v : Value} {x : List (List UInt8)} (h : OwnsQ w B v x) (q : Nat) (e : v.ownBlock = some q) : q < w.heap.size := by
  obtain ⟨g, o, c, rfl, h0, h1, _⟩ := h
  simp [Value.ownBlock] at e; omega
theorem ownsQ_ge {w : World} {B : Nat} {v : Value} {x : List (List UInt8)} (h : OwnsQ w B v x) (q : Nat) (e : v.ownBlock = some q) : B ≤ q := by
  obtain ⟨g, o, c, rfl, h0, h1, _⟩ := h
  simp [Value.ownBlock] at e; omega
def lenV : Value → Nat
  | .slice _ n _ => n
  | _ => 0
end Go.Proofs.YteeopjcbpngofaaGreat
/- Contracts of chapter 6: l6Walk, the model's. Written by gen/ch6w.py. -/
namespace Go.Proofs.YteeopjcbpngofaaGreat
set_option linter.unusedVariables false
set_option linter.unusedSimpArgs false
open Go.RowKit
theorem nodup_le {α : Type} [DecidableEq α] : ∀ (a b : List α), a.Nodup → (∀ x ∈ a, x ∈ b) → a.length ≤ b.length := by
  intro a
  induction a with
  | nil => intro b _ _; exact Nat.zero_le _
  | cons x t ih =>
    intro b hn hs
    obtain ⟨h1, h2⟩ := List.nodup_cons.1 hn
    have hx := hs x (List.mem_cons_self ..)
    have := ih (b.erase x) h2 fun y hy => (List.mem_erase_of_ne (fun e => h1 (by rw [← e]; exact hy))).2 (hs y (List.mem_cons_of_mem _ hy))
    rw [List.length_erase_of_mem hx] at this
    have : 0 < b.length := List.length_pos_of_mem hx
    rw [List.length_cons]; omega
theorem strict_nodup {a : List Nm} (h : Strict a) : a.Nodup := List.Pairwise.imp (fun {x y} hxy => fun e => by subst e; exact List.lt_irrefl _ hxy) h
theorem strict_le {a b : List Nm} (ha : Strict a) (hb : Strict b) (h : ∀ x ∈ a, x ∈ b) : a.length ≤ b.length := nodup_le a b (strict_nodup ha) h
theorem edg_get (L : List LinkD) (k : Nat) (h : k < L.length) : (edg L)[k]? = some (L[k].fFrom, L[k].fTo) := by simp [edg, h]
theorem edg_rev (L : List LinkD) (k : Nat) (h : k < L.length) : (revE (edg L))[k]? = some (L[k].fTo, L[k].fFrom) := by simp [edg, revE, h]
theorem bfsIn_skip2 {E : Edges} {a t : Nm} {k : Nat} {seen nx : List Nm} {x : Nm × Nm} (h : BfsIn E a t k seen nx) (he : E[k]? = some x) (hn : x.1 ≠ t ∨ x.2 ∈ seen) : BfsIn E a t (k + 1) seen nx := by
  obtain ⟨hk, rfl⟩ := List.getElem?_eq_some_iff.1 he
  exact bfsIn_skip h hk hn
theorem bfsIn_add2 {E : Edges} {a t : Nm} {k : Nat} {seen nx : List Nm} {x : Nm × Nm} (h : BfsIn E a t k seen nx) (he : E[k]? = some x) (hn : x.1 = t) (hs : x.2 ∉ seen) : BfsIn E a t (k + 1) (ins x.2 seen) (nx ++ [x.2]) := by
  obtain ⟨hk, rfl⟩ := List.getElem?_eq_some_iff.1 he
  exact bfsIn_add h hk hn hs
theorem ins_len1 (s : Nm) {l : List Nm} (hs : Strict l) (h : s ∉ l) : (ins s l).length = l.length + 1 := by
  have h1 := ins_len s l
  have h2 := nodup_le (s :: l) (ins s l) (List.nodup_cons.2 ⟨h, strict_nodup hs⟩) fun x hx => (mem_ins s l x).2 (by rcases List.mem_cons.1 hx with h | h; exact Or.inl h; exact Or.inr h)
  rw [List.length_cons] at h2; omega
set_option maxRecDepth 100000 in
set_option maxHeartbeats 3200000 in
theorem walkF_any (v : Value) (L : List LinkD) (nm : Nm) (w : World) (hx : FlatAt cLink 3 w v L) (hl : L.length ≤ 1048576) :
    Calls Tryz.prog 80 #[v, .string ⟨nm.toArray⟩, .bool false] w fun e w' => GivesRow (reachL (edg L) nm) w e w' := by
  obtain ⟨a, c, rfl, hlm⟩ := flatAt_len hx
  unfold maxLen at hlm
  have HX := Lib.hid hx
  have HE := Lib.hid (fun k (hlt : k < L.length) => (edg_get L k hlt))
  have HEL := Lib.hid (show (edg L).length = L.length by simp [edg, revE])
  have HB0 := Lib.hid (bfs_0 (edg L) nm)
  have HEN := Lib.hid (fun seen (h : BfsOk (edg L) nm seen []) => bfs_end h)
  have HSL := Lib.hid (fun seen nx (h : BfsOk (edg L) nm seen nx) => (show seen.length ≤ (ascL ((edg L).map (·.2))).length from strict_le h.st (asc_strict _) fun x hx => (asc_mem _ _).2 (h.rch x hx).target))
  have HSI := Lib.hid (fun t k seen nx (h : BfsIn (edg L) nm t k seen nx) => (show seen.length ≤ (ascL ((edg L).map (·.2))).length from strict_le h.st (asc_strict _) fun x hx => (asc_mem _ _).2 (h.rch x hx).target))
  have HTB := Lib.hid (show (ascL ((edg L).map (·.2))).length ≤ 1048576 from Nat.le_trans (asc_len _) (by rw [List.length_map, HEL.out]; exact hl))
  obtain ⟨E, hE⟩ : ∃ E, E = edg L := ⟨_, rfl⟩
  have HRR := Lib.hid (show reachL (edg L) nm = reachL E nm by rw [hE])
  rw [← hE] at HE HEL HB0 HEN HSL HSI HTB
  clear hE hx
  generalize (ascL (E.map (·.2))).length = T at *
  have HS0 := Lib.hid (owns_new w)
  have HZ0 := Lib.hid (show (w.alloc (.cells #[] 9)).heap.size = w.heap.size + 1 by simp)
  have HW0 := Lib.hid (bx_box w (.cells #[] 9))
  have HQ0 := Lib.hid (show OwnsQ ((w.alloc (.cells #[] 9)).alloc (.cells #[.string ⟨nm.toArray⟩] 9)) w.heap.size (.slice (some ⟨w.heap.size + 1, 0, none⟩) 1 1) [nm] from by
    have h := owns_strF (ownsF_lit (f := cStr) (E := 9) (k := 1) (w.alloc (.cells #[] 9)) w.heap.size #[.string ⟨nm.toArray⟩] [nm] rfl cStr_len (by simp) (by simp))
    rw [show (w.alloc (.cells #[] 9)).heap.size = w.heap.size + 1 by simp] at h
    exact ownsQ_of h rfl)
  have HS1 := Lib.hid (owns_alloc HS0.out (.cells #[.string ⟨nm.toArray⟩] 9))
  have HW1 := Lib.hid (belS HW0.out (bx_box _ (.cells #[.string ⟨nm.toArray⟩] 9)))
  go_enter Tryz.func80, Tryz.ntmps80
  go_wp2_with fail
  generalize (w.alloc (.cells #[] 9)).alloc (.cells #[.string ⟨nm.toArray⟩] 9) = wS at *
  go_loopw [7, 8, 9, 11, 12, 13] (fun sv qv _ _ _ _ wr => ∃ seen nx, Owns wr w.heap.size sv seen ∧ OwnsQ wr w.heap.size qv nx ∧ sv.ownBlock ≠ qv.ownBlock ∧ BfsOk E nm seen nx ∧ nx.length ≤ seen.length + 1 ∧ Below w.heap.size w wr) (fun sv qv _ _ _ _ _ => lenV qv + (T - lenV sv))
  case atStart => exact ⟨[], [nm], HS1.out, HQ0.out, by simp [Value.ownBlock], HB0.out, by simp, HW1.out⟩
  case round =>
    obtain ⟨seen, nx, hs, hq, hne, hbf, hln, hbr⟩ := hrel
    obtain ⟨sa, sc, rfl⟩ := slice_of (ownsF_str hs)
    obtain ⟨g, o, qc, rfl, hq0, hq1, hq2, hq3⟩ := hq
    have HQ := Lib.hid (show OwnsQ wr w.heap.size (.slice (some ⟨g, o, none⟩) nx.length (nx.length + qc)) nx from ⟨g, o, qc, rfl, hq0, hq1, hq2, hq3⟩)
    have HS := Lib.hid hs
    have HNE := Lib.hid hne
    have HBF := Lib.hid hbf
    have HBr := Lib.hid hbr
    have HQB := Lib.hid hq0
    have HQL := Lib.hid hq1
    have HLN := Lib.hid hln
    have HSB := Lib.hid (HSL.out seen nx hbf)
    cases nx with
    | nil =>
      have HR := Lib.hid (HEN.out seen hbf)
      clear hq0 hq1 hq2 hq3 hs hne hbf hbr hln
      go_wp2_with fail
      go_ret
      exact ⟨_, rfl, by rw [HRR.out, ← HR.out]; exact HS.out, HBr.out⟩
    | cons t r =>
      have d0 := hq2 0 (by simp)
      simp only [Nat.add_zero, List.getElem_cons_zero] at d0
      unfold strV at d0
      have HQT := Lib.hid (ownsQ_tail (show OwnsQ wr w.heap.size (.slice (some ⟨g, o, none⟩) (r.length + 1) (r.length + 1 + qc)) (t :: r) from HQ.out) rfl)
      have HI0 := Lib.hid (bfsIn_0 hbf)
      have HQZ := Lib.hid (fun (h : r.length + 1 + qc = 1) => ownsQ_none (c := qc) HQT.out h)
      have hrl : r.length ≤ 2097154 := by have h1 := HSB.out; have h2 := HTB.out; simp at hln; omega
      clear hq0 hq1 hq2 hq3 hs hne hbf hbr hln
      simp only [List.length_cons] at HLN HSB ⊢
      have hpos : (0 : Int) < ((r.length + 1 : Nat) : Int) := by omega
      go_wp2_with fail
      all_goals
        go_loopw [7, 8, 11, 12, 13, 27] (fun sv qv _ _ _ i wr => ∃ k seen2 nx2, k ≤ L.length ∧ i = .int .i64 (k : Int) ∧ Owns wr w.heap.size sv seen2 ∧ OwnsQ wr w.heap.size qv nx2 ∧ sv.ownBlock ≠ qv.ownBlock ∧ BfsIn E nm t k seen2 nx2 ∧ nx2.length + seen.length = r.length + seen2.length ∧ Below w.heap.size w wr) (fun _ _ _ _ _ i _ => L.length - (intOf i).toNat)
        case atStart => exact ⟨0, seen, r, Nat.zero_le _, rfl, HS.out, (by first | exact HQT.out | exact HQZ.out (by assumption)), HNE.out, HI0.out, rfl, HBr.out⟩
        case round =>
          obtain ⟨k, seen2, nx2, hk, rfl, hs, hq, hne, hbi, hbal, hbr⟩ := hrel
          have HQ2 := Lib.hid hq
          have HS2 := Lib.hid hs
          have HNE2 := Lib.hid hne
          have HBI := Lib.hid hbi
          have HBr2 := Lib.hid hbr
          have HSB2 := Lib.hid (HSI.out t k seen2 nx2 hbi)
          have HBAL := Lib.hid hbal
          have hx2 := FlatAt.below HX.out hbr (Nat.le_refl _)
          clear hs hq hne hbi hbr hbal
          by_cases hlt : k < L.length
          · obtain ⟨bb, oo, rfl, hbw, hd⟩ := flatAt_cell cLink_len hx2 k hlt (by decide)
            have e0 := hd 0 (by decide)
            have e1 := hd 1 (by decide)
            have e2 := hd 2 (by decide)
            have HEK := Lib.hid (HE.out k hlt)
            clear hd hx2
            generalize L[k] = z at *
            obtain ⟨t0, t1, t2⟩ := z
            simp only [cLink, List.getElem?_cons_zero, List.getElem?_cons_succ, Nat.add_zero] at e0 e1 e2 HEK
            have BX := Lib.hid (Bx.new wr [.string ⟨t0.toArray⟩, .string ⟨t1.toArray⟩, .int .i64 t2] 100)
            have hb := bx_box wr (.cells #[.string ⟨t0.toArray⟩, .string ⟨t1.toArray⟩, .int .i64 t2] 100)
            have HS3 := Lib.hid (owns_below HS2.out hb (Nat.le_refl _))
            have HQ3 := Lib.hid (ownsQ_below HQ2.out hb (Nat.le_refl _))
            have HB3 := Lib.hid (belS HBr2.out hb)
            have hs2 : seen2.length ≤ 1048576 := Nat.le_trans HSB2.out HTB.out
            have HRW := Lib.hid (owns_row HS3.out (by omega))
            have HHT := Lib.hid (fun v W (h : RowAt W v (seen2.map strV)) => l1HasText_any v seen2 ⟨t1.toArray⟩ W h)
            have hkl : (k : Int) < (L.length : Int) := by omega
            clear hb
            have x0 := BX.out.cell 0 (by simp)
            have x1 := BX.out.cell 1 (by simp)
            have x2 := BX.out.cell 2 (by simp)
            simp only [List.getElem_cons_zero, List.getElem_cons_succ] at x0 x1 x2
            by_cases heq : t0 = t
            · have hbeq : (t0 == t) = true := by simp [heq]
              have HEQ := Lib.hid heq
              clear heq
              go_wp2_with fail
              refine (HHT.out _ _ HRW.out).mono ?_
              rintro e _ ⟨rfl, rfl⟩
              by_cases hin : t1 ∈ seen2
              · have hdin : decide (t1 ∈ seen2) = true := by simpa using hin
                have HN := Lib.hid (bfsIn_skip2 HBI.out HEK.out (Or.inr hin))
                simp only [hdin]
                go_wp2_with fail
                exact ⟨⟨k + 1, seen2, nx2, by omega, by go_num, HS3.out, HQ3.out, HNE2.out, HN.out, HBAL.out, HB3.out⟩, by simp [intOf]; omega⟩
              · have hdin : decide (t1 ∈ seen2) = false := by simpa using hin
                have HN := Lib.hid (bfsIn_add2 HBI.out HEK.out HEQ.out hin)
                have HIL := Lib.hid (ins_len1 t1 HBI.out.st hin)
                simp only [hdin]
                clear hdin hbeq
                generalize wr.alloc (.cells #[.string ⟨t0.toArray⟩, .string ⟨t1.toArray⟩, .int .i64 t2] 100) = w3 at *
                have HPT := Lib.hid (fun v W (h : RowAt W v (seen2.map strV)) => l1Put_any v seen2 ⟨t1.toArray⟩ W h (by omega))
                go_wp2_with fail
                refine (HPT.out _ _ HRW.out).mono ?_
                rintro e w4 ⟨u, rfl, hu, hb⟩
                have HU := Lib.hid (show Owns w4 w3.heap.size u (ins t1 seen2) from hu)
                have HQ4 := Lib.hid (ownsQ_below HQ3.out hb (Nat.le_refl _))
                have HB4 := Lib.hid (belS HB3.out hb)
                have HGQ := Lib.hid (show ∀ q, u8.ownBlock = some q → q < w3.heap.size from fun q e => ownsQ_lt HQ3.out q e)
                clear hb hu
                have hq3 : nx2.length ≤ 4194304 := by have h1 := HBAL.out; have h2 := HSB.out; have h3 := HTB.out; omega
                go_wp2_with (at_builtin; (refine append_que rfl _ _ rfl w.heap.size _ nx2 t1 _ w4.heap.size (by rfl) (ownsQ_below HQ4.out (bx_box w4 _) (Nat.le_refl _)) rfl (cell_newS _ _ ⟨t1.toArray⟩ _ rfl) hq3 (by have := HB4.out.size; simp; omega) ?_; intro v5 w5 hO5 hg5 hl5; have HO5 := Lib.hid hO5; have HG5 := Lib.hid hg5; have HL5 := Lib.hid hl5; clear hO5 hg5 hl5))
                have HUB := Lib.hid (show ∀ q, u.ownBlock = some q → w3.heap.size ≤ q ∧ q < w4.heap.size from fun q e => World.ownsRow.lt HU.out q e)
                have HU5 := Lib.hid (show Owns w5 w.heap.size u (ins t1 seen2) from World.ownsRow.kept (owns_alloc (owns_strF (ownsF_base (ownsF_str HU.out) HB3.out.size)) _) HG5.out (by
                  cases hq : u.ownBlock with
                  | none => exact Or.inl rfl
                  | some q => exact Or.inr fun e => by have h1 := HUB.out q hq; have h2 := HGQ.out q e.symm; omega))
                refine ⟨⟨k + 1, ins t1 seen2, nx2 ++ [t1], by omega, by go_num, HU5.out, HO5.out, fun e => ?_, HN.out, by have h1 := HBAL.out; have h2 := HIL.out; rw [List.length_append, List.length_singleton, h2]; omega, Below.grown (HB4.out.alloc HB4.out.size _) HG5.out (by have := HB4.out.size; simp; omega) (fun q e => ownsQ_ge HQ3.out q e)⟩, by simp [intOf]; omega⟩
                obtain ⟨g5, o5, c5, hv5, _⟩ := HO5.out
                have h1 := HUB.out g5 (by rw [e, hv5]; rfl)
                exact HL5.out g5 (by simp; omega) (fun e2 => by have := HGQ.out g5 e2; omega) (by rw [hv5]; rfl)
            · have hbeq : (t0 == t) = false := by simp [heq]
              have HN := Lib.hid (bfsIn_skip2 HBI.out HEK.out (Or.inl heq))
              clear heq
              go_wp2_with fail
              exact ⟨⟨k + 1, seen2, nx2, by omega, by go_num, HS3.out, HQ3.out, HNE2.out, HN.out, HBAL.out, HB3.out⟩, by simp [intOf]; omega⟩
          · have HKE := Lib.hid (show BfsIn E nm t E.length seen2 nx2 by rw [HEL.out, show L.length = k by omega]; exact HBI.out)
            have HBO := Lib.hid (bfsIn_end HKE.out)
            have hkl : ¬ (k : Int) < (L.length : Int) := by omega
            obtain ⟨sa2, sc2, hsv⟩ := slice_of (ownsF_str HS2.out)
            obtain ⟨g2, o2, c2, hqv, _⟩ := HQ2.out
            go_wp2_with fail
            refine ⟨⟨seen2, nx2, HS2.out, HQ2.out, HNE2.out, HBO.out, by have h1 := HBAL.out; have h2 := HSB.out; have h3 := HTB.out; have h4 := HSB2.out; have h5 := HLN.out; omega, HBr2.out⟩, ?_⟩
            rw [hsv, hqv]
            have h1 := HBAL.out; have h2 := HSB.out; have h3 := HTB.out; have h4 := HSB2.out
            simp only [lenV]
            omega
set_option maxRecDepth 100000 in
set_option maxHeartbeats 3200000 in
theorem walkB_any (v : Value) (L : List LinkD) (nm : Nm) (w : World) (hx : FlatAt cLink 3 w v L) (hl : L.length ≤ 1048576) :
    Calls Tryz.prog 80 #[v, .string ⟨nm.toArray⟩, .bool true] w fun e w' => GivesRow (reachL (revE (edg L)) nm) w e w' := by
  obtain ⟨a, c, rfl, hlm⟩ := flatAt_len hx
  unfold maxLen at hlm
  have HX := Lib.hid hx
  have HE := Lib.hid (fun k (hlt : k < L.length) => (edg_rev L k hlt))
  have HEL := Lib.hid (show (revE (edg L)).length = L.length by simp [edg, revE])
  have HB0 := Lib.hid (bfs_0 (revE (edg L)) nm)
  have HEN := Lib.hid (fun seen (h : BfsOk (revE (edg L)) nm seen []) => bfs_end h)
  have HSL := Lib.hid (fun seen nx (h : BfsOk (revE (edg L)) nm seen nx) => (show seen.length ≤ (ascL ((revE (edg L)).map (·.2))).length from strict_le h.st (asc_strict _) fun x hx => (asc_mem _ _).2 (h.rch x hx).target))
  have HSI := Lib.hid (fun t k seen nx (h : BfsIn (revE (edg L)) nm t k seen nx) => (show seen.length ≤ (ascL ((revE (edg L)).map (·.2))).length from strict_le h.st (asc_strict _) fun x hx => (asc_mem _ _).2 (h.rch x hx).target))
  have HTB := Lib.hid (show (ascL ((revE (edg L)).map (·.2))).length ≤ 1048576 from Nat.le_trans (asc_len _) (by rw [List.length_map, HEL.out]; exact hl))
  obtain ⟨E, hE⟩ : ∃ E, E = revE (edg L) := ⟨_, rfl⟩
  have HRR := Lib.hid (show reachL (revE (edg L)) nm = reachL E nm by rw [hE])
  rw [← hE] at HE HEL HB0 HEN HSL HSI HTB
  clear hE hx
  generalize (ascL (E.map (·.2))).length = T at *
  have HS0 := Lib.hid (owns_new w)
  have HZ0 := Lib.hid (show (w.alloc (.cells #[] 9)).heap.size = w.heap.size + 1 by simp)
  have HW0 := Lib.hid (bx_box w (.cells #[] 9))
  have HQ0 := Lib.hid (show OwnsQ ((w.alloc (.cells #[] 9)).alloc (.cells #[.string ⟨nm.toArray⟩] 9)) w.heap.size (.slice (some ⟨w.heap.size + 1, 0, none⟩) 1 1) [nm] from by
    have h := owns_strF (ownsF_lit (f := cStr) (E := 9) (k := 1) (w.alloc (.cells #[] 9)) w.heap.size #[.string ⟨nm.toArray⟩] [nm] rfl cStr_len (by simp) (by simp))
    rw [show (w.alloc (.cells #[] 9)).heap.size = w.heap.size + 1 by simp] at h
    exact ownsQ_of h rfl)
  have HS1 := Lib.hid (owns_alloc HS0.out (.cells #[.string ⟨nm.toArray⟩] 9))
  have HW1 := Lib.hid (belS HW0.out (bx_box _ (.cells #[.string ⟨nm.toArray⟩] 9)))
  go_enter Tryz.func80, Tryz.ntmps80
  go_wp2_with fail
  generalize (w.alloc (.cells #[] 9)).alloc (.cells #[.string ⟨nm.toArray⟩] 9) = wS at *
  go_loopw [7, 8, 9, 11, 12, 13] (fun sv qv _ _ _ _ wr => ∃ seen nx, Owns wr w.heap.size sv seen ∧ OwnsQ wr w.heap.size qv nx ∧ sv.ownBlock ≠ qv.ownBlock ∧ BfsOk E nm seen nx ∧ nx.length ≤ seen.length + 1 ∧ Below w.heap.size w wr) (fun sv qv _ _ _ _ _ => lenV qv + (T - lenV sv))
  case atStart => exact ⟨[], [nm], HS1.out, HQ0.out, by simp [Value.ownBlock], HB0.out, by simp, HW1.out⟩
  case round =>
    obtain ⟨seen, nx, hs, hq, hne, hbf, hln, hbr⟩ := hrel
    obtain ⟨sa, sc, rfl⟩ := slice_of (ownsF_str hs)
    obtain ⟨g, o, qc, rfl, hq0, hq1, hq2, hq3⟩ := hq
    have HQ := Lib.hid (show OwnsQ wr w.heap.size (.slice (some ⟨g, o, none⟩) nx.length (nx.length + qc)) nx from ⟨g, o, qc, rfl, hq0, hq1, hq2, hq3⟩)
    have HS := Lib.hid hs
    have HNE := Lib.hid hne
    have HBF := Lib.hid hbf
    have HBr := Lib.hid hbr
    have HQB := Lib.hid hq0
    have HQL := Lib.hid hq1
    have HLN := Lib.hid hln
    have HSB := Lib.hid (HSL.out seen nx hbf)
    cases nx with
    | nil =>
      have HR := Lib.hid (HEN.out seen hbf)
      clear hq0 hq1 hq2 hq3 hs hne hbf hbr hln
      go_wp2_with fail
      go_ret
      exact ⟨_, rfl, by rw [HRR.out, ← HR.out]; exact HS.out, HBr.out⟩
    | cons t r =>
      have d0 := hq2 0 (by simp)
      simp only [Nat.add_zero, List.getElem_cons_zero] at d0
      unfold strV at d0
      have HQT := Lib.hid (ownsQ_tail (show OwnsQ wr w.heap.size (.slice (some ⟨g, o, none⟩) (r.length + 1) (r.length + 1 + qc)) (t :: r) from HQ.out) rfl)
      have HI0 := Lib.hid (bfsIn_0 hbf)
      have HQZ := Lib.hid (fun (h : r.length + 1 + qc = 1) => ownsQ_none (c := qc) HQT.out h)
      have hrl : r.length ≤ 2097154 := by have h1 := HSB.out; have h2 := HTB.out; simp at hln; omega
      clear hq0 hq1 hq2 hq3 hs hne hbf hbr hln
      simp only [List.length_cons] at HLN HSB ⊢
      have hpos : (0 : Int) < ((r.length + 1 : Nat) : Int) := by omega
      go_wp2_with fail
      all_goals
        go_loopw [7, 8, 11, 12, 13, 27] (fun sv qv _ _ _ i wr => ∃ k seen2 nx2, k ≤ L.length ∧ i = .int .i64 (k : Int) ∧ Owns wr w.heap.size sv seen2 ∧ OwnsQ wr w.heap.size qv nx2 ∧ sv.ownBlock ≠ qv.ownBlock ∧ BfsIn E nm t k seen2 nx2 ∧ nx2.length + seen.length = r.length + seen2.length ∧ Below w.heap.size w wr) (fun _ _ _ _ _ i _ => L.length - (intOf i).toNat)
        case atStart => exact ⟨0, seen, r, Nat.zero_le _, rfl, HS.out, (by first | exact HQT.out | exact HQZ.out (by assumption)), HNE.out, HI0.out, rfl, HBr.out⟩
        case round =>
          obtain ⟨k, seen2, nx2, hk, rfl, hs, hq, hne, hbi, hbal, hbr⟩ := hrel
          have HQ2 := Lib.hid hq
          have HS2 := Lib.hid hs
          have HNE2 := Lib.hid hne
          have HBI := Lib.hid hbi
          have HBr2 := Lib.hid hbr
          have HSB2 := Lib.hid (HSI.out t k seen2 nx2 hbi)
          have HBAL := Lib.hid hbal
          have hx2 := FlatAt.below HX.out hbr (Nat.le_refl _)
          clear hs hq hne hbi hbr hbal
          by_cases hlt : k < L.length
          · obtain ⟨bb, oo, rfl, hbw, hd⟩ := flatAt_cell cLink_len hx2 k hlt (by decide)
            have e0 := hd 0 (by decide)
            have e1 := hd 1 (by decide)
            have e2 := hd 2 (by decide)
            have HEK := Lib.hid (HE.out k hlt)
            clear hd hx2
            generalize L[k] = z at *
            obtain ⟨t0, t1, t2⟩ := z
            simp only [cLink, List.getElem?_cons_zero, List.getElem?_cons_succ, Nat.add_zero] at e0 e1 e2 HEK
            have BX := Lib.hid (Bx.new wr [.string ⟨t0.toArray⟩, .string ⟨t1.toArray⟩, .int .i64 t2] 100)
            have hb := bx_box wr (.cells #[.string ⟨t0.toArray⟩, .string ⟨t1.toArray⟩, .int .i64 t2] 100)
            have HS3 := Lib.hid (owns_below HS2.out hb (Nat.le_refl _))
            have HQ3 := Lib.hid (ownsQ_below HQ2.out hb (Nat.le_refl _))
            have HB3 := Lib.hid (belS HBr2.out hb)
            have hs2 : seen2.length ≤ 1048576 := Nat.le_trans HSB2.out HTB.out
            have HRW := Lib.hid (owns_row HS3.out (by omega))
            have HHT := Lib.hid (fun v W (h : RowAt W v (seen2.map strV)) => l1HasText_any v seen2 ⟨t0.toArray⟩ W h)
            have hkl : (k : Int) < (L.length : Int) := by omega
            clear hb
            have x0 := BX.out.cell 0 (by simp)
            have x1 := BX.out.cell 1 (by simp)
            have x2 := BX.out.cell 2 (by simp)
            simp only [List.getElem_cons_zero, List.getElem_cons_succ] at x0 x1 x2
            by_cases heq : t1 = t
            · have hbeq : (t1 == t) = true := by simp [heq]
              have HEQ := Lib.hid heq
              clear heq
              go_wp2_with fail
              refine (HHT.out _ _ HRW.out).mono ?_
              rintro e _ ⟨rfl, rfl⟩
              by_cases hin : t0 ∈ seen2
              · have hdin : decide (t0 ∈ seen2) = true := by simpa using hin
                have HN := Lib.hid (bfsIn_skip2 HBI.out HEK.out (Or.inr hin))
                simp only [hdin]
                go_wp2_with fail
                exact ⟨⟨k + 1, seen2, nx2, by omega, by go_num, HS3.out, HQ3.out, HNE2.out, HN.out, HBAL.out, HB3.out⟩, by simp [intOf]; omega⟩
              · have hdin : decide (t0 ∈ seen2) = false := by simpa using hin
                have HN := Lib.hid (bfsIn_add2 HBI.out HEK.out HEQ.out hin)
                have HIL := Lib.hid (ins_len1 t0 HBI.out.st hin)
                simp only [hdin]
                clear hdin hbeq
                generalize wr.alloc (.cells #[.string ⟨t0.toArray⟩, .string ⟨t1.toArray⟩, .int .i64 t2] 100) = w3 at *
                have HPT := Lib.hid (fun v W (h : RowAt W v (seen2.map strV)) => l1Put_any v seen2 ⟨t0.toArray⟩ W h (by omega))
                go_wp2_with fail
                refine (HPT.out _ _ HRW.out).mono ?_
                rintro e w4 ⟨u, rfl, hu, hb⟩
                have HU := Lib.hid (show Owns w4 w3.heap.size u (ins t0 seen2) from hu)
                have HQ4 := Lib.hid (ownsQ_below HQ3.out hb (Nat.le_refl _))
                have HB4 := Lib.hid (belS HB3.out hb)
                have HGQ := Lib.hid (show ∀ q, u8.ownBlock = some q → q < w3.heap.size from fun q e => ownsQ_lt HQ3.out q e)
                clear hb hu
                have hq3 : nx2.length ≤ 4194304 := by have h1 := HBAL.out; have h2 := HSB.out; have h3 := HTB.out; omega
                go_wp2_with (at_builtin; (refine append_que rfl _ _ rfl w.heap.size _ nx2 t0 _ w4.heap.size (by rfl) (ownsQ_below HQ4.out (bx_box w4 _) (Nat.le_refl _)) rfl (cell_newS _ _ ⟨t0.toArray⟩ _ rfl) hq3 (by have := HB4.out.size; simp; omega) ?_; intro v5 w5 hO5 hg5 hl5; have HO5 := Lib.hid hO5; have HG5 := Lib.hid hg5; have HL5 := Lib.hid hl5; clear hO5 hg5 hl5))
                have HUB := Lib.hid (show ∀ q, u.ownBlock = some q → w3.heap.size ≤ q ∧ q < w4.heap.size from fun q e => World.ownsRow.lt HU.out q e)
                have HU5 := Lib.hid (show Owns w5 w.heap.size u (ins t0 seen2) from World.ownsRow.kept (owns_alloc (owns_strF (ownsF_base (ownsF_str HU.out) HB3.out.size)) _) HG5.out (by
                  cases hq : u.ownBlock with
                  | none => exact Or.inl rfl
                  | some q => exact Or.inr fun e => by have h1 := HUB.out q hq; have h2 := HGQ.out q e.symm; omega))
                refine ⟨⟨k + 1, ins t0 seen2, nx2 ++ [t0], by omega, by go_num, HU5.out, HO5.out, fun e => ?_, HN.out, by have h1 := HBAL.out; have h2 := HIL.out; rw [List.length_append, List.length_singleton, h2]; omega, Below.grown (HB4.out.alloc HB4.out.size _) HG5.out (by have := HB4.out.size; simp; omega) (fun q e => ownsQ_ge HQ3.out q e)⟩, by simp [intOf]; omega⟩
                obtain ⟨g5, o5, c5, hv5, _⟩ := HO5.out
                have h1 := HUB.out g5 (by rw [e, hv5]; rfl)
                exact HL5.out g5 (by simp; omega) (fun e2 => by have := HGQ.out g5 e2; omega) (by rw [hv5]; rfl)
            · have hbeq : (t1 == t) = false := by simp [heq]
              have HN := Lib.hid (bfsIn_skip2 HBI.out HEK.out (Or.inl heq))
              clear heq
              go_wp2_with fail
              exact ⟨⟨k + 1, seen2, nx2, by omega, by go_num, HS3.out, HQ3.out, HNE2.out, HN.out, HBAL.out, HB3.out⟩, by simp [intOf]; omega⟩
          · have HKE := Lib.hid (show BfsIn E nm t E.length seen2 nx2 by rw [HEL.out, show L.length = k by omega]; exact HBI.out)
            have HBO := Lib.hid (bfsIn_end HKE.out)
            have hkl : ¬ (k : Int) < (L.length : Int) := by omega
            obtain ⟨sa2, sc2, hsv⟩ := slice_of (ownsF_str HS2.out)
            obtain ⟨g2, o2, c2, hqv, _⟩ := HQ2.out
            go_wp2_with fail
            refine ⟨⟨seen2, nx2, HS2.out, HQ2.out, HNE2.out, HBO.out, by have h1 := HBAL.out; have h2 := HSB.out; have h3 := HTB.out; have h4 := HSB2.out; have h5 := HLN.out; omega, HBr2.out⟩, ?_⟩
            rw [hsv, hqv]
            have h1 := HBAL.out; have h2 := HSB.out; have h3 := HTB.out; have h4 := HSB2.out
            simp only [lenV]
            omega
end Go.Proofs.YteeopjcbpngofaaGreat
/- Contracts of chapter 6: Serves, the model's. Written by gen/ch6s.py. -/
namespace Go.Proofs.YteeopjcbpngofaaGreat
set_option linter.unusedVariables false
set_option linter.unusedSimpArgs false
open Go.RowKit
set_option maxRecDepth 100000 in
set_option maxHeartbeats 3200000 in
theorem specServes_any (v : Value) (x : EntryD) (d : NeedD) (w : World) (hx : ValAt rEntry 0 w v x) (hn : x.fName.length ≤ maxLen) (hk : ∀ d ∈ x.fNeeds, d.fFrom.length ≤ maxLen) (hr : ∀ s ∈ x.fRecipe, s.length ≤ 1048576) (hf : d.fFrom.length ≤ maxLen) :
    Calls Tryz.prog 114 #[v, vNeed d] w fun e w' => e = .returned (.bool (servesB x d)) ∧ Below w.heap.size w w' := by
  have HRF := Lib.hid (fun v W (h : RowAt W v (x.fRecipe.map strV)) => specRecipeFace_any v x.fRecipe W h hr)
  have HIN := Lib.hid (fun W => specIsNeed_any d W hf)
  have HME := Lib.hid (fun W => specMeets_any x.fVersion ⟨d.fMajor, d.fMinor⟩ W)
  have HIE := Lib.hid (fun cs W (h : rEntry 0 W cs x) => specIsEntry_any (.agg cs.toArray) x W ⟨cs, rfl, h⟩ hn hk hr)
  have HOF := Lib.hid (fun W => specOffers_any (recI x.fRecipe) d.fFace W)
  unfold servesB
  generalize needB d = nb at *
  generalize meetsB x.fVersion ⟨d.fMajor, d.fMinor⟩ = mb at *
  generalize entryB x = eb at *
  generalize recI x.fRecipe = ri at *
  generalize recB x.fRecipe = rb at *
  generalize offersF ri d.fFace = ob at *
  obtain ⟨_, rfl, hx⟩ := hx
  have HX := Lib.hid (fun W (hb : Below w.heap.size w W) => goodEntry.keep hx (kept_below hb (Nat.le_refl _)))
  obtain ⟨a0, a1, ⟨a2, a3⟩, l⟩ := x
  obtain ⟨m0, m1, m2, m3⟩ := d
  obtain ⟨v1, v4, rfl, h1, h4⟩ := hx
  simp only at h1 h4 hk hn hr hf
  obtain ⟨ra, rc, rfl, _⟩ := sliceAt_len h1
  obtain ⟨sa, sc, rfl, hl⟩ := sliceAt_len h4
  have H1 := Lib.hid h1
  unfold maxLen at hl
  have BS := Lib.hid (bx_start2 w [.string ⟨a0.toArray⟩, .slice ra a1.length rc, .int .i64 a2, .int .i64 a3, .slice sa l.length sc] [.int .i64 m0, .string ⟨m1.toArray⟩, .int .i64 m2, .int .i64 m3] 95 97)
  have BX0 := Lib.hid BS.out.1
  have BN0 := Lib.hid BS.out.2.1
  have HB0 := Lib.hid BS.out.2.2
  clear h1 h4 hk hn hr hf BS
  simp only [vVersion, vNeed] at *
  cases eb
  · simp only [Bool.false_and]
    go_enter Tryz.func114, Tryz.ntmps114
    have x0 := BX0.out.cell 0 (by simp)
    have x1 := BX0.out.cell 1 (by simp)
    have x2 := BX0.out.cell 2 (by simp)
    have x3 := BX0.out.cell 3 (by simp)
    have x4 := BX0.out.cell 4 (by simp)
    simp only [List.getElem_cons_zero, List.getElem_cons_succ] at x0 x1 x2 x3 x4
    have n0 := BN0.out.cell 0 (by simp)
    have n1 := BN0.out.cell 1 (by simp)
    have n2 := BN0.out.cell 2 (by simp)
    have n3 := BN0.out.cell 3 (by simp)
    simp only [List.getElem_cons_zero, List.getElem_cons_succ] at n0 n1 n2 n3
    go_wp2_with fail
    refine (HRF.out _ _ (row_of_slice (SliceAt.below H1.out good_str HB0.out (Nat.le_refl _)))).mono ?_
    rintro e w1 ⟨rfl, hb⟩
    have HB1 := Lib.hid (belS HB0.out hb)
    have BX1 := Lib.hid (BX0.out.below hb)
    have BN1 := Lib.hid (BN0.out.below hb)
    clear hb
    clear x0 x1 x2 x3 x4 n0 n1 n2 n3
    have x0 := BX1.out.cell 0 (by simp)
    have x1 := BX1.out.cell 1 (by simp)
    have x2 := BX1.out.cell 2 (by simp)
    have x3 := BX1.out.cell 3 (by simp)
    have x4 := BX1.out.cell 4 (by simp)
    simp only [List.getElem_cons_zero, List.getElem_cons_succ] at x0 x1 x2 x3 x4
    have n0 := BN1.out.cell 0 (by simp)
    have n1 := BN1.out.cell 1 (by simp)
    have n2 := BN1.out.cell 2 (by simp)
    have n3 := BN1.out.cell 3 (by simp)
    simp only [List.getElem_cons_zero, List.getElem_cons_succ] at n0 n1 n2 n3
    go_wp2_with fail
    refine (HIE.out _ _ (HX.out _ HB1.out)).mono ?_
    rintro e w2 ⟨rfl, hb⟩
    have HB2 := Lib.hid (belS HB1.out hb)
    have BX2 := Lib.hid (BX1.out.below hb)
    have BN2 := Lib.hid (BN1.out.below hb)
    clear hb
    clear x0 x1 x2 x3 x4 n0 n1 n2 n3
    have x0 := BX2.out.cell 0 (by simp)
    have x1 := BX2.out.cell 1 (by simp)
    have x2 := BX2.out.cell 2 (by simp)
    have x3 := BX2.out.cell 3 (by simp)
    have x4 := BX2.out.cell 4 (by simp)
    simp only [List.getElem_cons_zero, List.getElem_cons_succ] at x0 x1 x2 x3 x4
    have n0 := BN2.out.cell 0 (by simp)
    have n1 := BN2.out.cell 1 (by simp)
    have n2 := BN2.out.cell 2 (by simp)
    have n3 := BN2.out.cell 3 (by simp)
    simp only [List.getElem_cons_zero, List.getElem_cons_succ] at n0 n1 n2 n3
    go_wp2_with fail
    go_ret
    exact ⟨rfl, HB2.out⟩
  cases nb
  · simp only [Bool.and_false, Bool.false_and]
    go_enter Tryz.func114, Tryz.ntmps114
    have x0 := BX0.out.cell 0 (by simp)
    have x1 := BX0.out.cell 1 (by simp)
    have x2 := BX0.out.cell 2 (by simp)
    have x3 := BX0.out.cell 3 (by simp)
    have x4 := BX0.out.cell 4 (by simp)
    simp only [List.getElem_cons_zero, List.getElem_cons_succ] at x0 x1 x2 x3 x4
    have n0 := BN0.out.cell 0 (by simp)
    have n1 := BN0.out.cell 1 (by simp)
    have n2 := BN0.out.cell 2 (by simp)
    have n3 := BN0.out.cell 3 (by simp)
    simp only [List.getElem_cons_zero, List.getElem_cons_succ] at n0 n1 n2 n3
    go_wp2_with fail
    refine (HRF.out _ _ (row_of_slice (SliceAt.below H1.out good_str HB0.out (Nat.le_refl _)))).mono ?_
    rintro e w1 ⟨rfl, hb⟩
    have HB1 := Lib.hid (belS HB0.out hb)
    have BX1 := Lib.hid (BX0.out.below hb)
    have BN1 := Lib.hid (BN0.out.below hb)
    clear hb
    clear x0 x1 x2 x3 x4 n0 n1 n2 n3
    have x0 := BX1.out.cell 0 (by simp)
    have x1 := BX1.out.cell 1 (by simp)
    have x2 := BX1.out.cell 2 (by simp)
    have x3 := BX1.out.cell 3 (by simp)
    have x4 := BX1.out.cell 4 (by simp)
    simp only [List.getElem_cons_zero, List.getElem_cons_succ] at x0 x1 x2 x3 x4
    have n0 := BN1.out.cell 0 (by simp)
    have n1 := BN1.out.cell 1 (by simp)
    have n2 := BN1.out.cell 2 (by simp)
    have n3 := BN1.out.cell 3 (by simp)
    simp only [List.getElem_cons_zero, List.getElem_cons_succ] at n0 n1 n2 n3
    go_wp2_with fail
    refine (HIE.out _ _ (HX.out _ HB1.out)).mono ?_
    rintro e w2 ⟨rfl, hb⟩
    have HB2 := Lib.hid (belS HB1.out hb)
    have BX2 := Lib.hid (BX1.out.below hb)
    have BN2 := Lib.hid (BN1.out.below hb)
    clear hb
    clear x0 x1 x2 x3 x4 n0 n1 n2 n3
    have x0 := BX2.out.cell 0 (by simp)
    have x1 := BX2.out.cell 1 (by simp)
    have x2 := BX2.out.cell 2 (by simp)
    have x3 := BX2.out.cell 3 (by simp)
    have x4 := BX2.out.cell 4 (by simp)
    simp only [List.getElem_cons_zero, List.getElem_cons_succ] at x0 x1 x2 x3 x4
    have n0 := BN2.out.cell 0 (by simp)
    have n1 := BN2.out.cell 1 (by simp)
    have n2 := BN2.out.cell 2 (by simp)
    have n3 := BN2.out.cell 3 (by simp)
    simp only [List.getElem_cons_zero, List.getElem_cons_succ] at n0 n1 n2 n3
    go_wp2_with fail
    refine (HIN.out _).mono ?_
    rintro e w3 ⟨rfl, hb⟩
    have HB3 := Lib.hid (belS HB2.out hb)
    have BX3 := Lib.hid (BX2.out.below hb)
    have BN3 := Lib.hid (BN2.out.below hb)
    clear hb
    clear x0 x1 x2 x3 x4 n0 n1 n2 n3
    have x0 := BX3.out.cell 0 (by simp)
    have x1 := BX3.out.cell 1 (by simp)
    have x2 := BX3.out.cell 2 (by simp)
    have x3 := BX3.out.cell 3 (by simp)
    have x4 := BX3.out.cell 4 (by simp)
    simp only [List.getElem_cons_zero, List.getElem_cons_succ] at x0 x1 x2 x3 x4
    have n0 := BN3.out.cell 0 (by simp)
    have n1 := BN3.out.cell 1 (by simp)
    have n2 := BN3.out.cell 2 (by simp)
    have n3 := BN3.out.cell 3 (by simp)
    simp only [List.getElem_cons_zero, List.getElem_cons_succ] at n0 n1 n2 n3
    go_wp2_with fail
    go_ret
    exact ⟨rfl, HB3.out⟩
  cases m1 with
  | nil =>
    rw [show (true && true && (decide (([] : List UInt8) = []) || ([] : List UInt8) == a0) && ob && mb) = (ob && mb) by simp]
    cases ob
    · simp only [Bool.false_and]
      go_enter Tryz.func114, Tryz.ntmps114
      have x0 := BX0.out.cell 0 (by simp)
      have x1 := BX0.out.cell 1 (by simp)
      have x2 := BX0.out.cell 2 (by simp)
      have x3 := BX0.out.cell 3 (by simp)
      have x4 := BX0.out.cell 4 (by simp)
      simp only [List.getElem_cons_zero, List.getElem_cons_succ] at x0 x1 x2 x3 x4
      have n0 := BN0.out.cell 0 (by simp)
      have n1 := BN0.out.cell 1 (by simp)
      have n2 := BN0.out.cell 2 (by simp)
      have n3 := BN0.out.cell 3 (by simp)
      simp only [List.getElem_cons_zero, List.getElem_cons_succ] at n0 n1 n2 n3
      go_wp2_with fail
      refine (HRF.out _ _ (row_of_slice (SliceAt.below H1.out good_str HB0.out (Nat.le_refl _)))).mono ?_
      rintro e w1 ⟨rfl, hb⟩
      have HB1 := Lib.hid (belS HB0.out hb)
      have BX1 := Lib.hid (BX0.out.below hb)
      have BN1 := Lib.hid (BN0.out.below hb)
      clear hb
      clear x0 x1 x2 x3 x4 n0 n1 n2 n3
      have x0 := BX1.out.cell 0 (by simp)
      have x1 := BX1.out.cell 1 (by simp)
      have x2 := BX1.out.cell 2 (by simp)
      have x3 := BX1.out.cell 3 (by simp)
      have x4 := BX1.out.cell 4 (by simp)
      simp only [List.getElem_cons_zero, List.getElem_cons_succ] at x0 x1 x2 x3 x4
      have n0 := BN1.out.cell 0 (by simp)
      have n1 := BN1.out.cell 1 (by simp)
      have n2 := BN1.out.cell 2 (by simp)
      have n3 := BN1.out.cell 3 (by simp)
      simp only [List.getElem_cons_zero, List.getElem_cons_succ] at n0 n1 n2 n3
      go_wp2_with fail
      refine (HIE.out _ _ (HX.out _ HB1.out)).mono ?_
      rintro e w2 ⟨rfl, hb⟩
      have HB2 := Lib.hid (belS HB1.out hb)
      have BX2 := Lib.hid (BX1.out.below hb)
      have BN2 := Lib.hid (BN1.out.below hb)
      clear hb
      clear x0 x1 x2 x3 x4 n0 n1 n2 n3
      have x0 := BX2.out.cell 0 (by simp)
      have x1 := BX2.out.cell 1 (by simp)
      have x2 := BX2.out.cell 2 (by simp)
      have x3 := BX2.out.cell 3 (by simp)
      have x4 := BX2.out.cell 4 (by simp)
      simp only [List.getElem_cons_zero, List.getElem_cons_succ] at x0 x1 x2 x3 x4
      have n0 := BN2.out.cell 0 (by simp)
      have n1 := BN2.out.cell 1 (by simp)
      have n2 := BN2.out.cell 2 (by simp)
      have n3 := BN2.out.cell 3 (by simp)
      simp only [List.getElem_cons_zero, List.getElem_cons_succ] at n0 n1 n2 n3
      go_wp2_with fail
      refine (HIN.out _).mono ?_
      rintro e w3 ⟨rfl, hb⟩
      have HB3 := Lib.hid (belS HB2.out hb)
      have BX3 := Lib.hid (BX2.out.below hb)
      have BN3 := Lib.hid (BN2.out.below hb)
      clear hb
      clear x0 x1 x2 x3 x4 n0 n1 n2 n3
      have x0 := BX3.out.cell 0 (by simp)
      have x1 := BX3.out.cell 1 (by simp)
      have x2 := BX3.out.cell 2 (by simp)
      have x3 := BX3.out.cell 3 (by simp)
      have x4 := BX3.out.cell 4 (by simp)
      simp only [List.getElem_cons_zero, List.getElem_cons_succ] at x0 x1 x2 x3 x4
      have n0 := BN3.out.cell 0 (by simp)
      have n1 := BN3.out.cell 1 (by simp)
      have n2 := BN3.out.cell 2 (by simp)
      have n3 := BN3.out.cell 3 (by simp)
      simp only [List.getElem_cons_zero, List.getElem_cons_succ] at n0 n1 n2 n3
      go_wp2_with (first | (go_at_call 139; (with_reducible refine (HOF.out _).mono ?_); rintro e w' ⟨rfl, rfl⟩))
      go_ret
      exact ⟨rfl, HB3.out⟩
    simp only [Bool.true_and]
    go_enter Tryz.func114, Tryz.ntmps114
    have x0 := BX0.out.cell 0 (by simp)
    have x1 := BX0.out.cell 1 (by simp)
    have x2 := BX0.out.cell 2 (by simp)
    have x3 := BX0.out.cell 3 (by simp)
    have x4 := BX0.out.cell 4 (by simp)
    simp only [List.getElem_cons_zero, List.getElem_cons_succ] at x0 x1 x2 x3 x4
    have n0 := BN0.out.cell 0 (by simp)
    have n1 := BN0.out.cell 1 (by simp)
    have n2 := BN0.out.cell 2 (by simp)
    have n3 := BN0.out.cell 3 (by simp)
    simp only [List.getElem_cons_zero, List.getElem_cons_succ] at n0 n1 n2 n3
    go_wp2_with fail
    refine (HRF.out _ _ (row_of_slice (SliceAt.below H1.out good_str HB0.out (Nat.le_refl _)))).mono ?_
    rintro e w1 ⟨rfl, hb⟩
    have HB1 := Lib.hid (belS HB0.out hb)
    have BX1 := Lib.hid (BX0.out.below hb)
    have BN1 := Lib.hid (BN0.out.below hb)
    clear hb
    clear x0 x1 x2 x3 x4 n0 n1 n2 n3
    have x0 := BX1.out.cell 0 (by simp)
    have x1 := BX1.out.cell 1 (by simp)
    have x2 := BX1.out.cell 2 (by simp)
    have x3 := BX1.out.cell 3 (by simp)
    have x4 := BX1.out.cell 4 (by simp)
    simp only [List.getElem_cons_zero, List.getElem_cons_succ] at x0 x1 x2 x3 x4
    have n0 := BN1.out.cell 0 (by simp)
    have n1 := BN1.out.cell 1 (by simp)
    have n2 := BN1.out.cell 2 (by simp)
    have n3 := BN1.out.cell 3 (by simp)
    simp only [List.getElem_cons_zero, List.getElem_cons_succ] at n0 n1 n2 n3
    go_wp2_with fail
    refine (HIE.out _ _ (HX.out _ HB1.out)).mono ?_
    rintro e w2 ⟨rfl, hb⟩
    have HB2 := Lib.hid (belS HB1.out hb)
    have BX2 := Lib.hid (BX1.out.below hb)
    have BN2 := Lib.hid (BN1.out.below hb)
    clear hb
    clear x0 x1 x2 x3 x4 n0 n1 n2 n3
    have x0 := BX2.out.cell 0 (by simp)
    have x1 := BX2.out.cell 1 (by simp)
    have x2 := BX2.out.cell 2 (by simp)
    have x3 := BX2.out.cell 3 (by simp)
    have x4 := BX2.out.cell 4 (by simp)
    simp only [List.getElem_cons_zero, List.getElem_cons_succ] at x0 x1 x2 x3 x4
    have n0 := BN2.out.cell 0 (by simp)
    have n1 := BN2.out.cell 1 (by simp)
    have n2 := BN2.out.cell 2 (by simp)
    have n3 := BN2.out.cell 3 (by simp)
    simp only [List.getElem_cons_zero, List.getElem_cons_succ] at n0 n1 n2 n3
    go_wp2_with fail
    refine (HIN.out _).mono ?_
    rintro e w3 ⟨rfl, hb⟩
    have HB3 := Lib.hid (belS HB2.out hb)
    have BX3 := Lib.hid (BX2.out.below hb)
    have BN3 := Lib.hid (BN2.out.below hb)
    clear hb
    clear x0 x1 x2 x3 x4 n0 n1 n2 n3
    have x0 := BX3.out.cell 0 (by simp)
    have x1 := BX3.out.cell 1 (by simp)
    have x2 := BX3.out.cell 2 (by simp)
    have x3 := BX3.out.cell 3 (by simp)
    have x4 := BX3.out.cell 4 (by simp)
    simp only [List.getElem_cons_zero, List.getElem_cons_succ] at x0 x1 x2 x3 x4
    have n0 := BN3.out.cell 0 (by simp)
    have n1 := BN3.out.cell 1 (by simp)
    have n2 := BN3.out.cell 2 (by simp)
    have n3 := BN3.out.cell 3 (by simp)
    simp only [List.getElem_cons_zero, List.getElem_cons_succ] at n0 n1 n2 n3
    go_wp2_with (first | (go_at_call 139; (with_reducible refine (HOF.out _).mono ?_); rintro e w' ⟨rfl, rfl⟩))
    refine (HME.out _).mono ?_
    rintro e w4 ⟨rfl, hb⟩
    have HB4 := Lib.hid (belS HB3.out hb)
    have BX4 := Lib.hid (BX3.out.below hb)
    have BN4 := Lib.hid (BN3.out.below hb)
    clear hb
    go_wp2_with fail
    go_ret
    exact ⟨rfl, HB4.out⟩
  | cons c r =>
    by_cases he : (c :: r) = a0
    · rw [show (true && true && (decide ((c :: r) = ([] : List UInt8)) || (c :: r) == a0) && ob && mb) = (ob && mb) by simp [he]]
      have heq : ((c :: r) == a0) = true := by simp [he]
      clear he
      cases ob
      · simp only [Bool.false_and]
        go_enter Tryz.func114, Tryz.ntmps114
        have x0 := BX0.out.cell 0 (by simp)
        have x1 := BX0.out.cell 1 (by simp)
        have x2 := BX0.out.cell 2 (by simp)
        have x3 := BX0.out.cell 3 (by simp)
        have x4 := BX0.out.cell 4 (by simp)
        simp only [List.getElem_cons_zero, List.getElem_cons_succ] at x0 x1 x2 x3 x4
        have n0 := BN0.out.cell 0 (by simp)
        have n1 := BN0.out.cell 1 (by simp)
        have n2 := BN0.out.cell 2 (by simp)
        have n3 := BN0.out.cell 3 (by simp)
        simp only [List.getElem_cons_zero, List.getElem_cons_succ] at n0 n1 n2 n3
        go_wp2_with fail
        refine (HRF.out _ _ (row_of_slice (SliceAt.below H1.out good_str HB0.out (Nat.le_refl _)))).mono ?_
        rintro e w1 ⟨rfl, hb⟩
        have HB1 := Lib.hid (belS HB0.out hb)
        have BX1 := Lib.hid (BX0.out.below hb)
        have BN1 := Lib.hid (BN0.out.below hb)
        clear hb
        clear x0 x1 x2 x3 x4 n0 n1 n2 n3
        have x0 := BX1.out.cell 0 (by simp)
        have x1 := BX1.out.cell 1 (by simp)
        have x2 := BX1.out.cell 2 (by simp)
        have x3 := BX1.out.cell 3 (by simp)
        have x4 := BX1.out.cell 4 (by simp)
        simp only [List.getElem_cons_zero, List.getElem_cons_succ] at x0 x1 x2 x3 x4
        have n0 := BN1.out.cell 0 (by simp)
        have n1 := BN1.out.cell 1 (by simp)
        have n2 := BN1.out.cell 2 (by simp)
        have n3 := BN1.out.cell 3 (by simp)
        simp only [List.getElem_cons_zero, List.getElem_cons_succ] at n0 n1 n2 n3
        go_wp2_with fail
        refine (HIE.out _ _ (HX.out _ HB1.out)).mono ?_
        rintro e w2 ⟨rfl, hb⟩
        have HB2 := Lib.hid (belS HB1.out hb)
        have BX2 := Lib.hid (BX1.out.below hb)
        have BN2 := Lib.hid (BN1.out.below hb)
        clear hb
        clear x0 x1 x2 x3 x4 n0 n1 n2 n3
        have x0 := BX2.out.cell 0 (by simp)
        have x1 := BX2.out.cell 1 (by simp)
        have x2 := BX2.out.cell 2 (by simp)
        have x3 := BX2.out.cell 3 (by simp)
        have x4 := BX2.out.cell 4 (by simp)
        simp only [List.getElem_cons_zero, List.getElem_cons_succ] at x0 x1 x2 x3 x4
        have n0 := BN2.out.cell 0 (by simp)
        have n1 := BN2.out.cell 1 (by simp)
        have n2 := BN2.out.cell 2 (by simp)
        have n3 := BN2.out.cell 3 (by simp)
        simp only [List.getElem_cons_zero, List.getElem_cons_succ] at n0 n1 n2 n3
        go_wp2_with fail
        refine (HIN.out _).mono ?_
        rintro e w3 ⟨rfl, hb⟩
        have HB3 := Lib.hid (belS HB2.out hb)
        have BX3 := Lib.hid (BX2.out.below hb)
        have BN3 := Lib.hid (BN2.out.below hb)
        clear hb
        clear x0 x1 x2 x3 x4 n0 n1 n2 n3
        have x0 := BX3.out.cell 0 (by simp)
        have x1 := BX3.out.cell 1 (by simp)
        have x2 := BX3.out.cell 2 (by simp)
        have x3 := BX3.out.cell 3 (by simp)
        have x4 := BX3.out.cell 4 (by simp)
        simp only [List.getElem_cons_zero, List.getElem_cons_succ] at x0 x1 x2 x3 x4
        have n0 := BN3.out.cell 0 (by simp)
        have n1 := BN3.out.cell 1 (by simp)
        have n2 := BN3.out.cell 2 (by simp)
        have n3 := BN3.out.cell 3 (by simp)
        simp only [List.getElem_cons_zero, List.getElem_cons_succ] at n0 n1 n2 n3
        go_wp2_with (first | (go_at_call 139; (with_reducible refine (HOF.out _).mono ?_); rintro e w' ⟨rfl, rfl⟩))
        go_ret
        exact ⟨rfl, HB3.out⟩
      simp only [Bool.true_and]
      go_enter Tryz.func114, Tryz.ntmps114
      have x0 := BX0.out.cell 0 (by simp)
      have x1 := BX0.out.cell 1 (by simp)
      have x2 := BX0.out.cell 2 (by simp)
      have x3 := BX0.out.cell 3 (by simp)
      have x4 := BX0.out.cell 4 (by simp)
      simp only [List.getElem_cons_zero, List.getElem_cons_succ] at x0 x1 x2 x3 x4
      have n0 := BN0.out.cell 0 (by simp)
      have n1 := BN0.out.cell 1 (by simp)
      have n2 := BN0.out.cell 2 (by simp)
      have n3 := BN0.out.cell 3 (by simp)
      simp only [List.getElem_cons_zero, List.getElem_cons_succ] at n0 n1 n2 n3
      go_wp2_with fail
      refine (HRF.out _ _ (row_of_slice (SliceAt.below H1.out good_str HB0.out (Nat.le_refl _)))).mono ?_
      rintro e w1 ⟨rfl, hb⟩
      have HB1 := Lib.hid (belS HB0.out hb)
      have BX1 := Lib.hid (BX0.out.below hb)
      have BN1 := Lib.hid (BN0.out.below hb)
      clear hb
      clear x0 x1 x2 x3 x4 n0 n1 n2 n3
      have x0 := BX1.out.cell 0 (by simp)
      have x1 := BX1.out.cell 1 (by simp)
      have x2 := BX1.out.cell 2 (by simp)
      have x3 := BX1.out.cell 3 (by simp)
      have x4 := BX1.out.cell 4 (by simp)
      simp only [List.getElem_cons_zero, List.getElem_cons_succ] at x0 x1 x2 x3 x4
      have n0 := BN1.out.cell 0 (by simp)
      have n1 := BN1.out.cell 1 (by simp)
      have n2 := BN1.out.cell 2 (by simp)
      have n3 := BN1.out.cell 3 (by simp)
      simp only [List.getElem_cons_zero, List.getElem_cons_succ] at n0 n1 n2 n3
      go_wp2_with fail
      refine (HIE.out _ _ (HX.out _ HB1.out)).mono ?_
      rintro e w2 ⟨rfl, hb⟩
      have HB2 := Lib.hid (belS HB1.out hb)
      have BX2 := Lib.hid (BX1.out.below hb)
      have BN2 := Lib.hid (BN1.out.below hb)
      clear hb
      clear x0 x1 x2 x3 x4 n0 n1 n2 n3
      have x0 := BX2.out.cell 0 (by simp)
      have x1 := BX2.out.cell 1 (by simp)
      have x2 := BX2.out.cell 2 (by simp)
      have x3 := BX2.out.cell 3 (by simp)
      have x4 := BX2.out.cell 4 (by simp)
      simp only [List.getElem_cons_zero, List.getElem_cons_succ] at x0 x1 x2 x3 x4
      have n0 := BN2.out.cell 0 (by simp)
      have n1 := BN2.out.cell 1 (by simp)
      have n2 := BN2.out.cell 2 (by simp)
      have n3 := BN2.out.cell 3 (by simp)
      simp only [List.getElem_cons_zero, List.getElem_cons_succ] at n0 n1 n2 n3
      go_wp2_with fail
      refine (HIN.out _).mono ?_
      rintro e w3 ⟨rfl, hb⟩
      have HB3 := Lib.hid (belS HB2.out hb)
      have BX3 := Lib.hid (BX2.out.below hb)
      have BN3 := Lib.hid (BN2.out.below hb)
      clear hb
      clear x0 x1 x2 x3 x4 n0 n1 n2 n3
      have x0 := BX3.out.cell 0 (by simp)
      have x1 := BX3.out.cell 1 (by simp)
      have x2 := BX3.out.cell 2 (by simp)
      have x3 := BX3.out.cell 3 (by simp)
      have x4 := BX3.out.cell 4 (by simp)
      simp only [List.getElem_cons_zero, List.getElem_cons_succ] at x0 x1 x2 x3 x4
      have n0 := BN3.out.cell 0 (by simp)
      have n1 := BN3.out.cell 1 (by simp)
      have n2 := BN3.out.cell 2 (by simp)
      have n3 := BN3.out.cell 3 (by simp)
      simp only [List.getElem_cons_zero, List.getElem_cons_succ] at n0 n1 n2 n3
      go_wp2_with (first | (go_at_call 139; (with_reducible refine (HOF.out _).mono ?_); rintro e w' ⟨rfl, rfl⟩))
      refine (HME.out _).mono ?_
      rintro e w4 ⟨rfl, hb⟩
      have HB4 := Lib.hid (belS HB3.out hb)
      have BX4 := Lib.hid (BX3.out.below hb)
      have BN4 := Lib.hid (BN3.out.below hb)
      clear hb
      go_wp2_with fail
      go_ret
      exact ⟨rfl, HB4.out⟩
    · rw [show (true && true && (decide ((c :: r) = ([] : List UInt8)) || (c :: r) == a0) && ob && mb) = false by simp [he]]
      have heq : ((c :: r) == a0) = false := by simp [he]
      clear he
      go_enter Tryz.func114, Tryz.ntmps114
      have x0 := BX0.out.cell 0 (by simp)
      have x1 := BX0.out.cell 1 (by simp)
      have x2 := BX0.out.cell 2 (by simp)
      have x3 := BX0.out.cell 3 (by simp)
      have x4 := BX0.out.cell 4 (by simp)
      simp only [List.getElem_cons_zero, List.getElem_cons_succ] at x0 x1 x2 x3 x4
      have n0 := BN0.out.cell 0 (by simp)
      have n1 := BN0.out.cell 1 (by simp)
      have n2 := BN0.out.cell 2 (by simp)
      have n3 := BN0.out.cell 3 (by simp)
      simp only [List.getElem_cons_zero, List.getElem_cons_succ] at n0 n1 n2 n3
      go_wp2_with fail
      refine (HRF.out _ _ (row_of_slice (SliceAt.below H1.out good_str HB0.out (Nat.le_refl _)))).mono ?_
      rintro e w1 ⟨rfl, hb⟩
      have HB1 := Lib.hid (belS HB0.out hb)
      have BX1 := Lib.hid (BX0.out.below hb)
      have BN1 := Lib.hid (BN0.out.below hb)
      clear hb
      clear x0 x1 x2 x3 x4 n0 n1 n2 n3
      have x0 := BX1.out.cell 0 (by simp)
      have x1 := BX1.out.cell 1 (by simp)
      have x2 := BX1.out.cell 2 (by simp)
      have x3 := BX1.out.cell 3 (by simp)
      have x4 := BX1.out.cell 4 (by simp)
      simp only [List.getElem_cons_zero, List.getElem_cons_succ] at x0 x1 x2 x3 x4
      have n0 := BN1.out.cell 0 (by simp)
      have n1 := BN1.out.cell 1 (by simp)
      have n2 := BN1.out.cell 2 (by simp)
      have n3 := BN1.out.cell 3 (by simp)
      simp only [List.getElem_cons_zero, List.getElem_cons_succ] at n0 n1 n2 n3
      go_wp2_with fail
      refine (HIE.out _ _ (HX.out _ HB1.out)).mono ?_
      rintro e w2 ⟨rfl, hb⟩
      have HB2 := Lib.hid (belS HB1.out hb)
      have BX2 := Lib.hid (BX1.out.below hb)
      have BN2 := Lib.hid (BN1.out.below hb)
      clear hb
      clear x0 x1 x2 x3 x4 n0 n1 n2 n3
      have x0 := BX2.out.cell 0 (by simp)
      have x1 := BX2.out.cell 1 (by simp)
      have x2 := BX2.out.cell 2 (by simp)
      have x3 := BX2.out.cell 3 (by simp)
      have x4 := BX2.out.cell 4 (by simp)
      simp only [List.getElem_cons_zero, List.getElem_cons_succ] at x0 x1 x2 x3 x4
      have n0 := BN2.out.cell 0 (by simp)
      have n1 := BN2.out.cell 1 (by simp)
      have n2 := BN2.out.cell 2 (by simp)
      have n3 := BN2.out.cell 3 (by simp)
      simp only [List.getElem_cons_zero, List.getElem_cons_succ] at n0 n1 n2 n3
      go_wp2_with fail
      refine (HIN.out _).mono ?_
      rintro e w3 ⟨rfl, hb⟩
      have HB3 := Lib.hid (belS HB2.out hb)
      have BX3 := Lib.hid (BX2.out.below hb)
      have BN3 := Lib.hid (BN2.out.below hb)
      clear hb
      clear x0 x1 x2 x3 x4 n0 n1 n2 n3
      have x0 := BX3.out.cell 0 (by simp)
      have x1 := BX3.out.cell 1 (by simp)
      have x2 := BX3.out.cell 2 (by simp)
      have x3 := BX3.out.cell 3 (by simp)
      have x4 := BX3.out.cell 4 (by simp)
      simp only [List.getElem_cons_zero, List.getElem_cons_succ] at x0 x1 x2 x3 x4
      have n0 := BN3.out.cell 0 (by simp)
      have n1 := BN3.out.cell 1 (by simp)
      have n2 := BN3.out.cell 2 (by simp)
      have n3 := BN3.out.cell 3 (by simp)
      simp only [List.getElem_cons_zero, List.getElem_cons_succ] at n0 n1 n2 n3
      go_wp2_with fail
      go_ret
      exact ⟨rfl, HB3.out⟩
end Go.Proofs.YteeopjcbpngofaaGreat
/- Contracts of chapter 6: ProviderOf, the model's. Written by gen/ch6s.py. -/
namespace Go.Proofs.YteeopjcbpngofaaGreat
set_option linter.unusedVariables false
set_option linter.unusedSimpArgs false
open Go.RowKit
set_option maxRecDepth 100000 in
set_option maxHeartbeats 3200000 in
theorem specProv_any (v : Value) (l : List EntryD) (t : List UInt8) (d : NeedD) (w : World) (hx : SliceAt rEntry 5 0 w v l) (hg : ∀ e ∈ l, e.fName.length ≤ 1048576 ∧ (∀ d ∈ e.fNeeds, d.fFrom.length ≤ maxLen) ∧ ∀ s ∈ e.fRecipe, s.length ≤ 1048576) (hf : d.fFrom.length ≤ maxLen) :
    Calls Tryz.prog 70 #[v, .string ⟨t.toArray⟩, vNeed d] w fun e w' => e = .returned (.string ⟨(provL l t d).toArray⟩) ∧ Below w.heap.size w w' := by
  obtain ⟨a, c, rfl, hl⟩ := sliceAt_len hx
  have HX := Lib.hid hx
  have HG := Lib.hid hg
  have HSV := Lib.hid (fun cs (x : EntryD) W (h : rEntry 0 W cs x) (hq : x ∈ l) => specServes_any (.agg cs.toArray) x d W ⟨cs, rfl, h⟩ (Nat.le_trans (hg x hq).1 (by decide)) (hg x hq).2.1 (hg x hq).2.2 hf)
  unfold maxLen at hl
  generalize hres : provL l t d = res
  have HRES := Lib.hid hres.symm
  clear hx hg hf hres
  obtain ⟨m0, m1, m2, m3⟩ := d
  simp only [vNeed] at HSV ⊢
  have HCT := Lib.hid (fun (s : ByteArray) W (h : s.size ≤ 140737488355328) => copyText_any s W h)
  have BS := Lib.hid (bx_start1 w [.int .i64 m0, .string ⟨m1.toArray⟩, .int .i64 m2, .int .i64 m3] 97)
  go_enter Tryz.func70, Tryz.ntmps70
  go_wp2_with fail
  go_loopw [8, 11] (fun _ i wr => ∃ k : Nat, k ≤ l.length ∧ i = .int .i64 k ∧ res = provL (l.drop k) t ⟨m0, m1, m2, m3⟩ ∧ Below w.heap.size w wr ∧ Bx wr w.heap.size [.int .i64 m0, .string ⟨m1.toArray⟩, .int .i64 m2, .int .i64 m3]) (fun _ i _ => l.length - (intOf i).toNat)
  case atStart => exact ⟨0, Nat.zero_le _, rfl, HRES.out, BS.out.2, BS.out.1⟩
  case round =>
    obtain ⟨k, hk, rfl, hres, hbr, hbx⟩ := hrel
    have HRS := Lib.hid hres
    have HBr := Lib.hid hbr
    have BNr := Lib.hid hbx
    have HXr := Lib.hid (SliceAt.below HX.out goodEntry hbr (Nat.le_refl _))
    have hszr := hbr.size
    clear hres hbr hbx
    by_cases hlt : k < l.length
    · obtain ⟨b, o, cs, rfl, hbw, hat, hd⟩ := sliceAt_cell HXr.out k hlt
      have HM := Lib.hid (List.getElem_mem hlt)
      have HDR := Lib.hid (show l.drop k = l[k] :: l.drop (k + 1) from List.drop_eq_getElem_cons hlt)
      have HS1 := Lib.hid (fun W (h : rEntry 0 W cs l[k]) => HSV.out cs l[k] W h HM.out)
      have HNL := Lib.hid (HG.out _ HM.out).1
      have HAT := Lib.hid (fun W (hb : Below wr.heap.size wr W) => goodEntry.keep hat (kept_below hb (Nat.le_refl _)))
      clear HM
      generalize l[k] = z at *
      obtain ⟨a0, a1, ⟨a2, a3⟩, l2⟩ := z
      obtain ⟨v1, v4, rfl, h1, h4⟩ := hat
      simp only at h1 h4
      obtain ⟨ra, rc, rfl, _⟩ := sliceAt_len h1
      obtain ⟨sa, sc, rfl, _⟩ := sliceAt_len h4
      have d0 := hd 0 (by decide)
      have d1 := hd 1 (by decide)
      have d2 := hd 2 (by decide)
      have d3 := hd 3 (by decide)
      have d4 := hd 4 (by decide)
      simp only [List.getElem?_cons_zero, List.getElem?_cons_succ, Nat.add_zero] at d0 d1 d2 d3 d4
      have HRS2 := Lib.hid (show res = if a0 ≠ t ∧ servesB ⟨a0, a1, ⟨a2, a3⟩, l2⟩ ⟨m0, m1, m2, m3⟩ = true then a0 else provL (l.drop (k + 1)) t ⟨m0, m1, m2, m3⟩ by rw [HRS.out, HDR.out]; rfl)
      generalize servesB ⟨a0, a1, ⟨a2, a3⟩, l2⟩ ⟨m0, m1, m2, m3⟩ = sb at *
      have BE := Lib.hid (Bx.new wr [.string ⟨a0.toArray⟩, .slice ra a1.length rc, .int .i64 a2, .int .i64 a3, .slice sa l2.length sc] 95)
      have HBN := Lib.hid (belS HBr.out (bx_box wr (.cells #[.string ⟨a0.toArray⟩, .slice ra a1.length rc, .int .i64 a2, .int .i64 a3, .slice sa l2.length sc] 95)))
      have BN1 := Lib.hid (BNr.out.alloc (.cells #[.string ⟨a0.toArray⟩, .slice ra a1.length rc, .int .i64 a2, .int .i64 a3, .slice sa l2.length sc] 95))
      have HAT1 := Lib.hid (HAT.out _ (bx_box wr (.cells #[.string ⟨a0.toArray⟩, .slice ra a1.length rc, .int .i64 a2, .int .i64 a3, .slice sa l2.length sc] 95)))
      have hkl : (k : Int) < (l.length : Int) := by omega
      clear hd HRS HDR h1 h4 HAT
      by_cases he : a0 = t
      · have HR3 := Lib.hid (show res = provL (l.drop (k + 1)) t ⟨m0, m1, m2, m3⟩ by have h := HRS2.out; rw [if_neg (by simp [he])] at h; exact h)
        have heq : (a0 == t) = true := by simp [he]
        have hne : (a0 != t) = false := by simp [he]
        clear HRS2 he
        have e0 := BE.out.cell 0 (by simp)
        have e1 := BE.out.cell 1 (by simp)
        have e2 := BE.out.cell 2 (by simp)
        have e3 := BE.out.cell 3 (by simp)
        have e4 := BE.out.cell 4 (by simp)
        simp only [List.getElem_cons_zero, List.getElem_cons_succ] at e0 e1 e2 e3 e4
        go_wp2_with fail
        exact ⟨⟨k + 1, by omega, by go_num, HR3.out, HBN.out, BN1.out⟩, by simp [intOf]; omega⟩
      · have heq : (a0 == t) = false := by simp [he]
        have hne : (a0 != t) = true := by simp [he]
        cases sb
        · have HR3 := Lib.hid (show res = provL (l.drop (k + 1)) t ⟨m0, m1, m2, m3⟩ by have h := HRS2.out; rw [if_neg (by simp)] at h; exact h)
          clear HRS2 he
          have e0 := BE.out.cell 0 (by simp)
          have e1 := BE.out.cell 1 (by simp)
          have e2 := BE.out.cell 2 (by simp)
          have e3 := BE.out.cell 3 (by simp)
          have e4 := BE.out.cell 4 (by simp)
          simp only [List.getElem_cons_zero, List.getElem_cons_succ] at e0 e1 e2 e3 e4
          have n0 := BN1.out.cell 0 (by simp)
          have n1 := BN1.out.cell 1 (by simp)
          have n2 := BN1.out.cell 2 (by simp)
          have n3 := BN1.out.cell 3 (by simp)
          simp only [List.getElem_cons_zero, List.getElem_cons_succ] at n0 n1 n2 n3
          go_wp2_with fail
          refine (HS1.out _ HAT1.out).mono ?_
          rintro e w2 ⟨rfl, hb⟩
          have HB2 := Lib.hid (belS HBN.out hb)
          have BN2 := Lib.hid (BN1.out.below hb)
          clear hb
          go_wp2_with fail
          exact ⟨⟨k + 1, by omega, by go_num, HR3.out, HB2.out, BN2.out⟩, by simp [intOf]; omega⟩
        · obtain rfl : res = a0 := by have h := HRS2.out; rw [if_pos ⟨he, rfl⟩] at h; exact h
          clear HRS2 he
          have e0 := BE.out.cell 0 (by simp)
          have e1 := BE.out.cell 1 (by simp)
          have e2 := BE.out.cell 2 (by simp)
          have e3 := BE.out.cell 3 (by simp)
          have e4 := BE.out.cell 4 (by simp)
          simp only [List.getElem_cons_zero, List.getElem_cons_succ] at e0 e1 e2 e3 e4
          have n0 := BN1.out.cell 0 (by simp)
          have n1 := BN1.out.cell 1 (by simp)
          have n2 := BN1.out.cell 2 (by simp)
          have n3 := BN1.out.cell 3 (by simp)
          simp only [List.getElem_cons_zero, List.getElem_cons_succ] at n0 n1 n2 n3
          go_wp2_with fail
          refine (HS1.out _ HAT1.out).mono ?_
          rintro e w2 ⟨rfl, hb⟩
          have HB2 := Lib.hid (belS HBN.out hb)
          have BE2 := Lib.hid (BE.out.below hb)
          clear hb e0 e1 e2 e3 e4
          have e0 := BE2.out.cell 0 (by simp)
          have e1 := BE2.out.cell 1 (by simp)
          have e2 := BE2.out.cell 2 (by simp)
          have e3 := BE2.out.cell 3 (by simp)
          have e4 := BE2.out.cell 4 (by simp)
          simp only [List.getElem_cons_zero, List.getElem_cons_succ] at e0 e1 e2 e3 e4
          go_wp2_with fail
          go_ret
          exact ⟨rfl, HB2.out⟩
    · obtain rfl : res = [] := by have h := HRS.out; rw [List.drop_eq_nil_of_le (by omega)] at h; exact h
      have hkl : ¬ (k : Int) < (l.length : Int) := by omega
      go_wp2_with fail
      go_ret
      exact ⟨rfl, HBr.out⟩
end Go.Proofs.YteeopjcbpngofaaGreat
/- Contracts of chapter 6: LinksOf, the model's. Written by gen/ch6m.py. -/
namespace Go.Proofs.YteeopjcbpngofaaGreat
set_option linter.unusedVariables false
set_option linter.unusedSimpArgs false
open Go.RowKit
set_option maxRecDepth 100000 in
set_option maxHeartbeats 3200000 in
theorem specLinksOf_any (v : Value) (l : List EntryD) (w : World) (hx : SliceAt rEntry 5 0 w v l) (hg : RegOk l) :
    Calls Tryz.prog 26 #[v] w fun e w' => GivesF cLink 100 3 (lnkL l) w e w' := by
  have hl0 := sliceAt_len hx
  have HX := Lib.hid hx
  have HG := Lib.hid hg
  have HIR := Lib.hid (fun W (h : SliceAt rEntry 5 0 W v l) => specIsReg_any v l W h hg.each)
  have HPV := Lib.hid (fun (t : Nm) (d : NeedD) W (h : SliceAt rEntry 5 0 W v l) (hf : d.fFrom.length ≤ maxLen) => specProv_any v l t d W h hg.each hf)
  obtain ⟨a, c, rfl, hl⟩ := hl0
  unfold maxLen at hl
  clear hx hg
  have HO0 := Lib.hid (ownsF_new cLink 100 3 w)
  have HB0 := Lib.hid (bx_box w (.cells #[] 100))
  go_enter Tryz.func26, Tryz.ntmps26
  go_wp2_with fail
  generalize w.alloc (.cells #[] 100) = wS at *
  refine (HIR.out _ (HX.out.below goodEntry HB0.out (Nat.le_refl _))).mono ?_
  rintro e w1 ⟨rfl, hb⟩
  have HB1 := Lib.hid (belS HB0.out hb)
  have HO1 := Lib.hid (ownsF_below HO0.out hb (Nat.le_refl _))
  clear hb
  cases hrb : regB l
  · have HR := Lib.hid (show lnkL l = [] by unfold lnkL; rw [hrb]; rfl)
    clear hrb
    go_wp2_with fail
    go_ret
    exact ⟨_, rfl, by rw [HR.out]; exact HO1.out, HB1.out⟩
  · have HR := Lib.hid (show lnkL l = lnkA l by unfold lnkL; rw [hrb]; rfl)
    clear hrb
    go_wp2_with fail
    go_loopw [3, 5, 7, 8, 16] (fun ov _ _ _ i wr => ∃ k : Nat, k ≤ l.length ∧ i = .int .i64 k ∧ OwnsF cLink 100 3 wr w.heap.size ov ((l.take k).flatMap (lnkE l)) ∧ Below w.heap.size w wr) (fun _ _ _ _ i _ => l.length - (intOf i).toNat)
    case atStart => exact ⟨0, Nat.zero_le _, rfl, HO1.out, HB1.out⟩
    case round =>
      obtain ⟨k, hk, rfl, hO, hbr⟩ := hrel
      have HO := Lib.hid hO
      have HBr := Lib.hid hbr
      clear hO hbr
      by_cases hlt : k < l.length
      · skip
        obtain ⟨b, o, cs, rfl, hbw, hat, hd⟩ := sliceAt_cell HX.out k hlt
        have HM := Lib.hid (List.getElem_mem hlt)
        have HGE := Lib.hid (HG.out.each _ HM.out)
        have HTK := Lib.hid (show (l.take (k + 1)).flatMap (lnkE l) = (l.take k).flatMap (lnkE l) ++ lnkE l l[k] by rw [List.take_succ_eq_append_getElem hlt, List.flatMap_append]; simp)
        have HBD := Lib.hid (fun j => lnk_bound HG.out k j hlt)
        generalize l[k] = z at *
        obtain ⟨a0, a1, ⟨a2, a3⟩, l2⟩ := z
        have HAT := Lib.hid (fun W (hb : Below w.heap.size w W) => goodEntry.keep hat (kept_below hb (Nat.le_refl _)))
        obtain ⟨v1, v4, rfl, h1, h4⟩ := hat
        simp only at h1 h4 HGE
        obtain ⟨ra, rc, rfl, _⟩ := sliceAt_len h1
        obtain ⟨sa, sc, rfl, hl4⟩ := sliceAt_len h4
        unfold maxLen at hl4
        have HN4 := Lib.hid h4
        have d0 := (HBr.out.cell (p := ⟨b, o + k * 5 + 0, none⟩) hbw).trans (hd 0 (by decide))
        have d1 := (HBr.out.cell (p := ⟨b, o + k * 5 + 1, none⟩) hbw).trans (hd 1 (by decide))
        have d2 := (HBr.out.cell (p := ⟨b, o + k * 5 + 2, none⟩) hbw).trans (hd 2 (by decide))
        have d3 := (HBr.out.cell (p := ⟨b, o + k * 5 + 3, none⟩) hbw).trans (hd 3 (by decide))
        have d4 := (HBr.out.cell (p := ⟨b, o + k * 5 + 4, none⟩) hbw).trans (hd 4 (by decide))
        simp only [List.getElem?_cons_zero, List.getElem?_cons_succ, Nat.add_zero] at d0 d1 d2 d3 d4
        have hkl : (k : Int) < (l.length : Int) := by omega
        clear hd h1 h4 HM
        have BE := Lib.hid (Bx.new wr [.string ⟨a0.toArray⟩, .slice ra a1.length rc, .int .i64 a2, .int .i64 a3, .slice sa l2.length sc] 95)
        have HBE := Lib.hid (belS HBr.out (bx_box wr (.cells #[.string ⟨a0.toArray⟩, .slice ra a1.length rc, .int .i64 a2, .int .i64 a3, .slice sa l2.length sc] 95)))
        have HOE := Lib.hid (show OwnsF cLink 100 3 (wr.alloc (.cells #[.string ⟨a0.toArray⟩, .slice ra a1.length rc, .int .i64 a2, .int .i64 a3, .slice sa l2.length sc] 95)) w.heap.size u3 ((l.take k).flatMap (lnkE l) ++ (l2.take 0).flatMap (lnkN l ⟨a0, a1, ⟨a2, a3⟩, l2⟩)) ∧ u3.ownBlock ≠ some wr.heap.size from ⟨by rw [List.take_zero, List.flatMap_nil, List.append_nil]; exact ownsF_below HO.out (bx_box wr _) (Nat.le_refl _), fun e => by have := (World.ownsRow.lt HO.out _ e).2; omega⟩)
        generalize hP0 : (l.take k).flatMap (lnkE l) = P0 at *
        obtain ⟨bE, hbE⟩ : ∃ q, q = wr.heap.size := ⟨_, rfl⟩
        rw [← hbE] at BE
        try rw [← hbE] at HOE
        have e0 := BE.out.cell 0 (by simp)
        have e1 := BE.out.cell 1 (by simp)
        have e2 := BE.out.cell 2 (by simp)
        have e3 := BE.out.cell 3 (by simp)
        have e4 := BE.out.cell 4 (by simp)
        simp only [List.getElem_cons_zero, List.getElem_cons_succ] at e0 e1 e2 e3 e4
        rw [hbE] at e0 e1 e2 e3 e4
        go_wp2_with fail
        rw [← hbE]
        clear hbE
        clear e0 e1 e2 e3 e4 d0 d1 d2 d3 d4
        generalize wr.alloc (.cells #[.string ⟨a0.toArray⟩, .slice ra a1.length rc, .int .i64 a2, .int .i64 a3, .slice sa l2.length sc] 95) = wE at *
        go_loopw [3, 7, 8, 23] (fun ov _ _ i wr => ∃ j : Nat, j ≤ l2.length ∧ i = .int .i64 j ∧ (OwnsF cLink 100 3 wr w.heap.size ov (P0 ++ (l2.take j).flatMap (lnkN l ⟨a0, a1, ⟨a2, a3⟩, l2⟩)) ∧ ov.ownBlock ≠ some bE) ∧ Below w.heap.size w wr ∧ Bx wr bE [.string ⟨a0.toArray⟩, .slice ra a1.length rc, .int .i64 a2, .int .i64 a3, .slice sa l2.length sc]) (fun _ _ _ i _ => l2.length - (intOf i).toNat)
        case atStart => exact ⟨0, Nat.zero_le _, rfl, HOE.out, HBE.out, BE.out⟩
        case round =>
          obtain ⟨j, hj, rfl, hO2, hb2, hbe⟩ := hrel
          have HO2 := Lib.hid hO2
          have HB2 := Lib.hid hb2
          have BE2 := Lib.hid hbe
          clear hO2 hb2 hbe
          have hbz := HB2.out.size
          by_cases hlj : j < l2.length
          · skip
            obtain ⟨q, o2, cs2, rfl, hq, hat2, hd2⟩ := sliceAt_cell HN4.out j hlj
            have HFJ := Lib.hid (HGE.out.2.1 _ (List.getElem_mem hlj))
            have HLB := Lib.hid (HBD.out j)
            have HYS := Lib.hid (fun (h : provL l a0 l2[j] ≠ []) => (show P0 ++ (l2.take (j + 1)).flatMap (lnkN l ⟨a0, a1, ⟨a2, a3⟩, l2⟩) = P0 ++ (l2.take j).flatMap (lnkN l ⟨a0, a1, ⟨a2, a3⟩, l2⟩) ++ [⟨a0, provL l a0 l2[j], l2[j].fFace⟩] by rw [lnk_some (l := l) (x := ⟨a0, a1, ⟨a2, a3⟩, l2⟩) hlj h, List.append_assoc]))
            have HNO := Lib.hid (fun (h : provL l a0 l2[j] = []) => (show P0 ++ (l2.take (j + 1)).flatMap (lnkN l ⟨a0, a1, ⟨a2, a3⟩, l2⟩) = P0 ++ (l2.take j).flatMap (lnkN l ⟨a0, a1, ⟨a2, a3⟩, l2⟩) by rw [lnk_none (l := l) (x := ⟨a0, a1, ⟨a2, a3⟩, l2⟩) hlj h]))
            try simp only at HLB
            generalize hL1 : P0 ++ (l2.take (j + 1)).flatMap (lnkN l ⟨a0, a1, ⟨a2, a3⟩, l2⟩) = L1 at HYS HNO
            have HE1 := Lib.hid hL1
            clear hL1
            generalize P0 ++ (l2.take j).flatMap (lnkN l ⟨a0, a1, ⟨a2, a3⟩, l2⟩) = L at *
            generalize l2[j] = y at *
            obtain ⟨m0, m1, m2, m3⟩ := y
            simp only [rFlat, cNeed] at hat2
            subst hat2
            have d0 := (HB2.out.cell (p := ⟨q, o2 + j * 4 + 0, none⟩) hq).trans (hd2 0 (by decide))
            have d1 := (HB2.out.cell (p := ⟨q, o2 + j * 4 + 1, none⟩) hq).trans (hd2 1 (by decide))
            have d2 := (HB2.out.cell (p := ⟨q, o2 + j * 4 + 2, none⟩) hq).trans (hd2 2 (by decide))
            have d3 := (HB2.out.cell (p := ⟨q, o2 + j * 4 + 3, none⟩) hq).trans (hd2 3 (by decide))
            simp only [List.getElem?_cons_zero, List.getElem?_cons_succ, Nat.add_zero] at d0 d1 d2 d3
            have hkj : (j : Int) < (l2.length : Int) := by omega
            have BN := Lib.hid (Bx.new wr [.int .i64 m0, .string ⟨m1.toArray⟩, .int .i64 m2, .int .i64 m3] 97)
            have HBN := Lib.hid (belS HB2.out (bx_box wr (.cells #[.int .i64 m0, .string ⟨m1.toArray⟩, .int .i64 m2, .int .i64 m3] 97)))
            have BEN := Lib.hid (BE2.out.alloc (.cells #[.int .i64 m0, .string ⟨m1.toArray⟩, .int .i64 m2, .int .i64 m3] 97))
            have HP := Lib.hid (HPV.out a0 ⟨m0, m1, m2, m3⟩)
            simp only [vNeed] at HP HYS HNO
            try simp only at HFJ
            generalize provL l a0 ⟨m0, m1, m2, m3⟩ = p at *
            have HXN := Lib.hid (HX.out.below goodEntry HBN.out (Nat.le_refl _))
            clear hd2
            have HON := Lib.hid (ownsF_below HO2.out.1 (bx_box wr (.cells #[.int .i64 m0, .string ⟨m1.toArray⟩, .int .i64 m2, .int .i64 m3] 97)) (Nat.le_refl _))
            have e0 := BEN.out.cell 0 (by simp)
            have e1 := BEN.out.cell 1 (by simp)
            have e2 := BEN.out.cell 2 (by simp)
            have e3 := BEN.out.cell 3 (by simp)
            have e4 := BEN.out.cell 4 (by simp)
            simp only [List.getElem_cons_zero, List.getElem_cons_succ] at e0 e1 e2 e3 e4
            have n0 := BN.out.cell 0 (by simp)
            have n1 := BN.out.cell 1 (by simp)
            have n2 := BN.out.cell 2 (by simp)
            have n3 := BN.out.cell 3 (by simp)
            simp only [List.getElem_cons_zero, List.getElem_cons_succ] at n0 n1 n2 n3
            go_wp2_with fail
            refine (HP.out _ HXN.out HFJ.out).mono ?_
            rintro e w3 ⟨rfl, hb⟩
            have HB3 := Lib.hid (belS HBN.out hb)
            have BE3 := Lib.hid (BEN.out.below hb)
            have BN3 := Lib.hid (BN.out.below hb)
            have HO3 := Lib.hid (ownsF_below HON.out hb (Nat.le_refl _))
            have HW3 := Lib.hid (belS (bx_box wr (.cells #[.int .i64 m0, .string ⟨m1.toArray⟩, .int .i64 m2, .int .i64 m3] 97)) hb)
            clear hb e0 e1 e2 e3 e4 n0 n1 n2 n3 d0 d1 d2 d3 HXN BEN BN HBN
            cases p with
            | nil =>
              have HL1 := Lib.hid (HNO.out rfl)
              clear HNO HYS
              go_wp2_with fail
              exact ⟨⟨j + 1, by omega, by go_num, ⟨by rw [HE1.out, HL1.out]; exact HO3.out, HO2.out.2⟩, HB3.out, BE3.out⟩, by simp [intOf]; omega⟩
            | cons c r =>
              have HL1 := Lib.hid (HYS.out (by simp))
              clear HNO HYS
              have HCB := Lib.hid (show ∀ i, i < 3 → (w3.alloc (.cells #[.string ⟨a0.toArray⟩, .string ⟨(c :: r).toArray⟩, .int .i64 m0] 100)).cell? ⟨w3.heap.size, i, none⟩ = (cLink ⟨a0, c :: r, m0⟩)[i]? from fun i hi => by rw [cell_of_row _ _ _ _ 100 (0, 0) (heap_alloc_new _ _)]; rcases (show i = 0 ∨ i = 1 ∨ i = 2 by omega) with rfl | rfl | rfl <;> rfl)
              have HB5 := Lib.hid (HB3.out.alloc HB3.out.size (.cells #[.string ⟨a0.toArray⟩, .string ⟨(c :: r).toArray⟩, .int .i64 m0] 100))
              have BE5 := Lib.hid (BE3.out.alloc (.cells #[.string ⟨a0.toArray⟩, .string ⟨(c :: r).toArray⟩, .int .i64 m0] 100))
              have e0 := BE3.out.cell 0 (by simp)
              have e1 := BE3.out.cell 1 (by simp)
              have e2 := BE3.out.cell 2 (by simp)
              have e3 := BE3.out.cell 3 (by simp)
              have e4 := BE3.out.cell 4 (by simp)
              simp only [List.getElem_cons_zero, List.getElem_cons_succ] at e0 e1 e2 e3 e4
              have n0 := BN3.out.cell 0 (by simp)
              have n1 := BN3.out.cell 1 (by simp)
              have n2 := BN3.out.cell 2 (by simp)
              have n3 := BN3.out.cell 3 (by simp)
              simp only [List.getElem_cons_zero, List.getElem_cons_succ] at n0 n1 n2 n3
              go_wp2_with (at_builtin; (refine append_flatN cLink_len oneCellLink infoLinkL rfl (by decide) (by decide) Tryz.underlying47 rfl _ _ rfl w.heap.size _ L ⟨a0, c :: r, m0⟩ _ w3.heap.size (by rfl) (ownsF_alloc HO3.out _) (by rfl) HCB.out (by have := HLB.out; omega) HB5.out.size ?_; intro v3 w5 hO3 hg3 hl3; have HO5 := Lib.hid hO3; have HG5 := Lib.hid hg3; have HL5 := Lib.hid hl3; clear hO3 hg3 hl3))
              exact ⟨⟨j + 1, by omega, by go_num, ⟨by rw [HE1.out, HL1.out]; exact HO5.out, HL5.out bE BE5.out.lt HO2.out.2⟩, Below.grown HB5.out HG5.out HB5.out.size (fun g e => (World.ownsRow.lt HO3.out g e).1), BE5.out.grown HG5.out HO2.out.2⟩, by simp [intOf]; omega⟩
          · have hkj : ¬ (j : Int) < (l2.length : Int) := by omega
            have HTL := Lib.hid (show P0 ++ (l2.take j).flatMap (lnkN l ⟨a0, a1, ⟨a2, a3⟩, l2⟩) = (l.take (k + 1)).flatMap (lnkE l) by rw [HTK.out, List.take_of_length_le (by omega)]; rfl)
            go_wp2_with fail
            exact ⟨⟨k + 1, by omega, by go_num, by rw [← HTL.out]; exact HO2.out.1, HB2.out⟩, by simp [intOf]; omega⟩
      · have HTL := Lib.hid (show (l.take k).flatMap (lnkE l) = lnkL l by rw [HR.out, List.take_of_length_le (by omega)]; rfl)
        have hkl : ¬ (k : Int) < (l.length : Int) := by omega
        go_wp2_with fail
        go_ret
        exact ⟨_, rfl, by rw [← HTL.out]; exact HO.out, HBr.out⟩
end Go.Proofs.YteeopjcbpngofaaGreat
/- Contracts of chapter 6: reachedFrom, ReachOf, NeedersOf of the model. Written by gen/ch6n.py. -/
namespace Go.Proofs.YteeopjcbpngofaaGreat
set_option linter.unusedVariables false
set_option linter.unusedSimpArgs false
open Go.RowKit
/-- what is reached from a name, in the order of the program -/
def rchD (L : List LinkD) (nm : Nm) : List Nm := dfs (edg L) (lack (edg L) [] + 1) nm []
def rchL (l : List EntryD) (nm : Nm) : List Nm := reachL (edg (lnkL l)) nm
def ndL (l : List EntryD) (nm : Nm) : List Nm := reachL (revE (edg (lnkL l))) nm
theorem rchD_asc (L : List LinkD) (nm : Nm) : ascL (rchD L nm) = reachL (edg L) nm := rfl
theorem lack_len (L : List LinkD) : lack (edg L) [] ≤ L.length := by
  unfold lack
  refine Nat.le_trans (List.length_filter_le ..) (Nat.le_trans (asc_len _) ?_)
  simp [edg]
theorem rchD_len (L : List LinkD) (nm : Nm) : (rchD L nm).length ≤ L.length := by
  have := dfs_len (edg L) (lack (edg L) []) (lack (edg L) [] + 1) nm [] (by simp)
  have h2 := lack_len L
  unfold rchD; omega
theorem dfs_to (E : Edges) : ∀ (f : Nat) (a : Nm) (acc : List Nm), ∀ x ∈ dfs E f a acc, x ∈ acc ∨ x ∈ E.map (·.2) := by
  intro f
  induction f with
  | zero => intro a acc x hx; exact Or.inl hx
  | succ f ih =>
    intro a acc
    show ∀ x ∈ (nxt E a).foldl _ acc, _
    have key : ∀ (l : List Nm) (r : List Nm), (∀ b ∈ l, (a, b) ∈ E) → ∀ x ∈ l.foldl (fun r b => if b ∈ r then r else dfs E f b (r ++ [b])) r, x ∈ r ∨ x ∈ E.map (·.2) := by
      intro l
      induction l with
      | nil => intro r _ x hx; exact Or.inl hx
      | cons y t iht =>
        intro r hl x hx
        rw [List.foldl_cons] at hx
        rcases iht _ (fun b hb => hl b (List.mem_cons_of_mem _ hb)) x hx with h | h
        · split at h
          · exact Or.inl h
          · rcases ih y (r ++ [y]) x h with h | h
            · rcases List.mem_append.1 h with h | h
              · exact Or.inl h
              · rw [List.mem_singleton.1 h]; exact Or.inr (List.mem_map.2 ⟨_, hl y (List.mem_cons_self ..), rfl⟩)
            · exact Or.inr h
        · exact Or.inr h
    exact key _ _ (fun b hb => mem_nxt.1 hb)
theorem lnkA_to {l : List EntryD} (h : RegOk l) : ∀ x ∈ lnkA l, x.fTo.length ≤ 1048576 := by
  intro x hx
  obtain ⟨e, he, hx⟩ := List.mem_flatMap.1 hx
  obtain ⟨d, hd, hx⟩ := List.mem_flatMap.1 hx
  unfold lnkN at hx
  split at hx
  · cases hx
  · rw [List.mem_singleton.1 hx]
    exact provL_len l _ _ 1048576 fun e he => (h.each e he).1
theorem rchD_small {l : List EntryD} (h : RegOk l) (nm : Nm) : ∀ s ∈ rchD (lnkA l) nm, s.length ≤ 140737488355328 := by
  intro s hs
  rcases dfs_to _ _ _ _ s hs with h1 | h1
  · cases h1
  · unfold edg at h1
    rw [List.map_map] at h1
    obtain ⟨x, hx, rfl⟩ := List.mem_map.1 h1
    exact Nat.le_trans (lnkA_to h x hx) (by decide)
theorem lnkL_yes {l : List EntryD} (h : regB l = true) : lnkL l = lnkA l := if_pos h
theorem lnkL_no {l : List EntryD} (h : regB l = false) : lnkL l = [] := if_neg (by simp [h])
theorem edg_len (L : List LinkD) : (edg L).length = L.length := by simp [edg]
theorem reachL_len (E : Edges) (nm : Nm) : (reachL E nm).length ≤ E.length := by
  refine Nat.le_trans (strict_le (reachL_strict E nm) (asc_strict (E.map (·.2))) fun x hx => (asc_mem _ _).2 ((mem_reachL E nm x).1 hx).target) (Nat.le_trans (asc_len _) (by simp))
theorem lnkL_len {l : List EntryD} (h : RegOk l) : (lnkL l).length ≤ 1048576 := by unfold lnkL; split; exact lnkA_bound2 h; exact Nat.zero_le _
theorem rchL_len {l : List EntryD} (h : RegOk l) (nm : Nm) : (rchL l nm).length ≤ 1048576 := Nat.le_trans (reachL_len _ _) (by rw [edg_len]; exact lnkL_len h)
theorem ndL_len {l : List EntryD} (h : RegOk l) (nm : Nm) : (ndL l nm).length ≤ 1048576 := Nat.le_trans (reachL_len _ _) (by unfold revE; rw [List.length_map, edg_len]; exact lnkL_len h)
theorem rchL_no {l : List EntryD} (h : regB l = false) (nm : Nm) : rchL l nm = [] := by unfold rchL; rw [lnkL_no h]; rfl
theorem ndL_no {l : List EntryD} (h : regB l = false) (nm : Nm) : ndL l nm = [] := by unfold ndL; rw [lnkL_no h]; rfl
theorem rchL_yes {l : List EntryD} (h : regB l = true) (nm : Nm) : rchL l nm = ascL (rchD (lnkA l) nm) := by unfold rchL; rw [lnkL_yes h]; rfl
set_option maxRecDepth 100000 in
set_option maxHeartbeats 3200000 in
theorem reachedFrom_c (L : List LinkD) (b lo hi : Nat) (hT : ∀ x ∈ L, x.fTo.length ≤ maxLen) (hLL : L.length ≤ 1048576) (nm : Nm) (w : World) (hnm : nm.length ≤ maxLen) (hL : LnkAt w lo hi b L) (hhi : hi ≤ w.heap.size) :
    Calls Tryz.prog 81 #[.map (some b), .string ⟨nm.toArray⟩] w fun e w' => GivesRow (rchD L nm) w e w' := by
  have hb := bx_box w (.cells #[] 9)
  have HB := Lib.hid hb
  have HO := Lib.hid (owns_new w)
  have HL := Lib.hid (hL.below hb (Nat.le_refl _))
  have HZ := Lib.hid (show (w.alloc (.cells #[] 9)).heap.size = w.heap.size + 1 by simp)
  have HLK := Lib.hid (lack_len L)
  have HAD := Lib.hid (fun v W => addReached_c L b lo hi w.heap.size 1048576 (by decide) hT (by omega) (lack (edg L) [] + 1) nm [] v W (by omega) (by have := HLK.out; simp; omega) hnm)
  clear hb hL
  go_enter Tryz.func81, Tryz.ntmps81
  go_wp2_with fail
  generalize w.alloc (.cells #[] 9) = w1 at *
  refine (HAD.out _ w1 HL.out (by have := HZ.out; omega) (by have := HZ.out; omega) HO.out (fun c h1 h2 e => by simp [Value.ownBlock] at e; omega)).mono ?_
  rintro e w2 ⟨v', rfl, ho, hg, _⟩
  have HO2 := Lib.hid (show Owns w2 w.heap.size v' (rchD L nm) from ho)
  have HB2 := Lib.hid (Below.grown HB.out hg HB.out.size (fun g e => by simp [Value.ownBlock] at e; omega))
  clear ho hg
  go_wp2_with fail
  go_ret
  exact ⟨_, rfl, HO2.out, HB2.out⟩
set_option maxRecDepth 100000 in
set_option maxHeartbeats 3200000 in
theorem implReach_any (v : Value) (l : List EntryD) (nm : Nm) (w : World) (hx : SliceAt rEntry 5 0 w v l) (hg : RegOk l) (hnm : nm.length ≤ maxLen) :
    Calls Tryz.prog 40 #[v, .string ⟨nm.toArray⟩] w fun e w' => GivesRow (rchL l nm) w e w' := by
  have HX := Lib.hid hx
  have HIR := Lib.hid (implIsReg_any v l w hx hg.each)
  have HLN := Lib.hid (fun W (h : SliceAt rEntry 5 0 W v l) => linksByName_c v l W h hg)
  have HRF := Lib.hid (fun b lo hi W (h : LnkAt W lo hi b (lnkA l)) (h2 : hi ≤ W.heap.size) => reachedFrom_c (lnkA l) b lo hi (fun x hx => Nat.le_trans (lnkA_to hg x hx) (by decide)) (lnkA_bound2 hg) nm W hnm h h2)
  have HAS := Lib.hid (fun v W (h : RowAt W v ((rchD (lnkA l) nm).map strV)) => implAsc_any v (rchD (lnkA l) nm) W h (Nat.le_trans (rchD_len _ _) (Nat.le_trans (lnkA_bound2 hg) (by decide))) (rchD_small hg nm))
  have HRW := Lib.hid (show (rchD (lnkA l) nm).length ≤ 4194304 from Nat.le_trans (rchD_len _ _) (lnkA_bound hg))
  obtain ⟨a, c, rfl, hl⟩ := sliceAt_len hx
  clear hx hg
  go_enter Tryz.func40, Tryz.ntmps40
  go_wp2_with fail
  refine HIR.out.mono ?_
  rintro e w1 ⟨rfl, hb⟩
  have HB1 := Lib.hid hb
  clear hb
  cases hrb : regB l
  · have HR := Lib.hid (rchL_no hrb nm)
    have HO := Lib.hid (owns_new w1)
    have HB2 := Lib.hid (belS HB1.out (bx_box w1 (.cells #[] 9)))
    clear hrb
    go_wp2_with fail
    go_ret
    exact ⟨_, rfl, by rw [HR.out]; exact owns_strF (ownsF_base (ownsF_str HO.out) HB1.out.size), HB2.out⟩
  · have HR := Lib.hid (rchL_yes hrb nm)
    clear hrb
    go_wp2_with fail
    refine (HLN.out _ (HX.out.below goodEntry HB1.out (Nat.le_refl _))).mono ?_
    rintro e w2 ⟨bM, rfl, hL, hb⟩
    have HB2 := Lib.hid (belS HB1.out hb)
    have HL2 := Lib.hid hL
    clear hb hL
    go_wp2_with fail
    refine (HRF.out _ _ _ _ HL2.out (Nat.le_refl _)).mono ?_
    rintro e w3 ⟨u, rfl, hu, hb⟩
    have HB3 := Lib.hid (belS HB2.out hb)
    have HU := Lib.hid (owns_row hu HRW.out)
    clear hb hu
    go_wp2_with fail
    refine (HAS.out _ _ HU.out).mono ?_
    rintro e w4 ⟨u2, rfl, hu, hb⟩
    have HB4 := Lib.hid (belS HB3.out hb)
    have HU2 := Lib.hid (owns_strF (ownsF_base (ownsF_str hu) HB3.out.size))
    clear hb hu
    go_wp2_with fail
    go_ret
    exact ⟨_, rfl, by rw [HR.out]; exact HU2.out, HB4.out⟩
set_option maxRecDepth 100000 in
set_option maxHeartbeats 3200000 in
theorem specReach_any (v : Value) (l : List EntryD) (nm : Nm) (w : World) (hx : SliceAt rEntry 5 0 w v l) (hg : RegOk l) :
    Calls Tryz.prog 39 #[v, .string ⟨nm.toArray⟩] w fun e w' => GivesRow (rchL l nm) w e w' := by
  have HLN := Lib.hid (specLinksOf_any v l w hx hg)
  have HLL := Lib.hid (show (lnkL l).length ≤ 1048576 from by unfold lnkL; split; exact lnkA_bound2 hg; exact Nat.zero_le _)
  have HWK := Lib.hid (fun v W (h : FlatAt cLink 3 W v (lnkL l)) => walkF_any v (lnkL l) nm W h HLL.out)
  obtain ⟨a, c, rfl, hl⟩ := sliceAt_len hx
  clear hx hg
  go_enter Tryz.func39, Tryz.ntmps39
  go_wp2_with fail
  refine HLN.out.mono ?_
  rintro e w1 ⟨u, rfl, hu, hb⟩
  have HB1 := Lib.hid hb
  have HU := Lib.hid (ownsF_at hu (by have := HLL.out; omega))
  clear hb hu
  go_wp2_with fail
  refine (HWK.out _ _ HU.out).mono ?_
  rintro e w2 ⟨u2, rfl, hu, hb⟩
  have HB2 := Lib.hid (belS HB1.out hb)
  have HU2 := Lib.hid (owns_strF (ownsF_base (ownsF_str hu) HB1.out.size))
  clear hb hu
  go_wp2_with fail
  go_ret
  exact ⟨_, rfl, HU2.out, HB2.out⟩
set_option maxRecDepth 100000 in
set_option maxHeartbeats 3200000 in
theorem specNeeders_any (v : Value) (l : List EntryD) (nm : Nm) (w : World) (hx : SliceAt rEntry 5 0 w v l) (hg : RegOk l) :
    Calls Tryz.prog 41 #[v, .string ⟨nm.toArray⟩] w fun e w' => GivesRow (ndL l nm) w e w' := by
  have HLN := Lib.hid (specLinksOf_any v l w hx hg)
  have HLL := Lib.hid (show (lnkL l).length ≤ 1048576 from by unfold lnkL; split; exact lnkA_bound2 hg; exact Nat.zero_le _)
  have HWK := Lib.hid (fun v W (h : FlatAt cLink 3 W v (lnkL l)) => walkB_any v (lnkL l) nm W h HLL.out)
  obtain ⟨a, c, rfl, hl⟩ := sliceAt_len hx
  clear hx hg
  go_enter Tryz.func41, Tryz.ntmps41
  go_wp2_with fail
  refine HLN.out.mono ?_
  rintro e w1 ⟨u, rfl, hu, hb⟩
  have HB1 := Lib.hid hb
  have HU := Lib.hid (ownsF_at hu (by have := HLL.out; omega))
  clear hb hu
  go_wp2_with fail
  refine (HWK.out _ _ HU.out).mono ?_
  rintro e w2 ⟨u2, rfl, hu, hb⟩
  have HB2 := Lib.hid (belS HB1.out hb)
  have HU2 := Lib.hid (owns_strF (ownsF_base (ownsF_str hu) HB1.out.size))
  clear hb hu
  go_wp2_with fail
  go_ret
  exact ⟨_, rfl, HU2.out, HB2.out⟩
end Go.Proofs.YteeopjcbpngofaaGreat
/- Contracts of chapter 6: isNext, StartOrder, the program's. Written by gen/ch6n.py. -/
namespace Go.Proofs.YteeopjcbpngofaaGreat
set_option linter.unusedVariables false
set_option linter.unusedSimpArgs false
open Go.RowKit
theorem ups_inj : ∀ {l : List EntryD}, ups l → ∀ {x y : EntryD}, x ∈ l → y ∈ l → x.fName = y.fName → x = y := by
  intro l
  induction l with
  | nil => intro _ x y hx; cases hx
  | cons z r ih =>
    intro hu x y hx hy e
    unfold ups at hu
    rw [List.map_cons] at hu
    obtain ⟨h1, h2⟩ := List.pairwise_cons.1 hu
    rcases List.mem_cons.1 hx with h3 | h3 <;> rcases List.mem_cons.1 hy with h4 | h4
    · rw [h3, h4]
    · exact absurd (h1 _ (List.mem_map.2 ⟨y, h4, rfl⟩)) (by rw [← e, h3]; exact List.lt_irrefl _)
    · exact absurd (h1 _ (List.mem_map.2 ⟨x, h3, rfl⟩)) (by rw [e, h4]; exact List.lt_irrefl _)
    · exact ih h2 h3 h4 e
def rdyB (L : List LinkD) (out : List Nm) (nm : Nm) : Bool := (frm L nm).all fun x => decide (x.fTo ∈ out)
/-- an entry is the next one if it is not there yet, misses nothing, and all that it needs is there -/
def nextB (l : List EntryD) (out : List Nm) (e : EntryD) : Bool := !decide (e.fName ∈ out) && !lacksB l e && rdyB (lnkA l) out e.fName
def nextN (l : List EntryD) (out : List Nm) (nm : Nm) : Bool := !decide (nm ∈ out) && !decide (nm ∈ missN l l) && rdyB (lnkA l) out nm
def ordL (l : List EntryD) : List Nm := if regB l = true then ordGo (l.map (·.fName)) (nextN l) (l.length + 1) [] else []
theorem miss_iff {l : List EntryD} (h : regB l = true) {e : EntryD} (he : e ∈ l) : e.fName ∈ missN l l ↔ lacksB l e = true := by
  unfold missN
  simp only [List.mem_map, List.mem_filter]
  constructor
  · rintro ⟨x, ⟨hx, h1⟩, h2⟩
    have : x = e := ups_inj (reg_ups h) hx he h2
    rwa [this] at h1
  · intro h1; exact ⟨e, ⟨he, h1⟩, rfl⟩
theorem next_iff {l : List EntryD} (h : regB l = true) {e : EntryD} (he : e ∈ l) (out : List Nm) : nextN l out e.fName = nextB l out e := by
  unfold nextN nextB
  congr 2
  have := miss_iff h he
  cases hl : lacksB l e with
  | true => rw [hl] at this; simp [this]
  | false => rw [hl] at this; simp [this]
structure OrdInv (l : List EntryD) (out : List Nm) : Prop where
  nd : out.Nodup
  sub : ∀ x ∈ out, x ∈ l.map (·.fName)
  eq : ordGo (l.map (·.fName)) (nextN l) (l.length + 1 - out.length) out = ordGo (l.map (·.fName)) (nextN l) (l.length + 1) []
theorem ordInv_0 (l : List EntryD) : OrdInv l [] := ⟨List.nodup_nil, fun x h => (by cases h), rfl⟩
theorem OrdInv.len {l : List EntryD} {out : List Nm} (h : OrdInv l out) : out.length ≤ l.length := by
  have := nodup_le out (l.map (·.fName)) h.nd h.sub
  simpa using this
theorem find_next {l : List EntryD} (h : regB l = true) (out : List Nm) {k : Nat} (hk : k < l.length) (hn : ∀ i (hi : i < l.length), i < k → nextB l out l[i] = false) (hy : nextB l out l[k] = true) : (l.map (·.fName)).find? (nextN l out) = some l[k].fName := by
  rw [List.find?_eq_some_iff_getElem]
  refine ⟨by rw [next_iff h (List.getElem_mem hk)]; exact hy, k, by simpa using hk, by simp, fun j hj => ?_⟩
  have hj2 : j < l.length := by omega
  rw [List.getElem_map, next_iff h (List.getElem_mem hj2), hn j hj2 hj]; rfl
theorem find_none {l : List EntryD} (h : regB l = true) (out : List Nm) (hn : ∀ i (hi : i < l.length), nextB l out l[i] = false) : (l.map (·.fName)).find? (nextN l out) = none := by
  rw [List.find?_eq_none]
  intro x hx
  obtain ⟨e, he, rfl⟩ := List.mem_map.1 hx
  obtain ⟨i, hi, rfl⟩ := List.getElem_of_mem he
  rw [next_iff h (List.getElem_mem hi), hn i hi]; simp
theorem OrdInv.next {l : List EntryD} {out : List Nm} (h : OrdInv l out) (hr : regB l = true) {k : Nat} (hk : k < l.length) (hn : ∀ i (hi : i < l.length), i < k → nextB l out l[i] = false) (hy : nextB l out l[k] = true) : OrdInv l (out ++ [l[k].fName]) := by
  have hni : l[k].fName ∉ out := by
    unfold nextB at hy
    simp only [Bool.and_eq_true, Bool.not_eq_true', decide_eq_false_iff_not] at hy
    exact hy.1.1
  refine ⟨?_, fun x hx => ?_, ?_⟩
  · rw [List.nodup_append]
    exact ⟨h.nd, by simp, fun x hx y hy e => by rw [List.mem_singleton.1 hy] at e; exact hni (e ▸ hx)⟩
  · rcases List.mem_append.1 hx with h1 | h1
    · exact h.sub x h1
    · rw [List.mem_singleton.1 h1]; exact List.mem_map.2 ⟨_, List.getElem_mem hk, rfl⟩
  · have hl := h.len
    rw [← h.eq, List.length_append, List.length_singleton, show l.length + 1 - out.length = (l.length + 1 - (out.length + 1)) + 1 by omega]
    exact (ordGo_next (find_next hr out hk hn hy)).symm
theorem OrdInv.stop {l : List EntryD} {out : List Nm} (h : OrdInv l out) (hr : regB l = true) (hn : ∀ i (hi : i < l.length), nextB l out l[i] = false) : out = ordL l := by
  unfold ordL
  rw [if_pos hr, ← h.eq, ordGo_stop (find_none hr out hn)]
theorem ordL_no {l : List EntryD} (h : regB l = false) : ordL l = [] := if_neg (by simp [h])
set_option maxRecDepth 100000 in
set_option maxHeartbeats 3200000 in
theorem isNext_c (l : List EntryD) (b lo hi : Nat) (ov v : Value) (out : List Nm) (x : EntryD) (w : World) (hL : LnkAt w lo hi b (lnkA l)) (hLL : (lnkA l).length ≤ 4194304) (ho : RowAt w ov (out.map strV)) (hx : ValAt rEntry 0 w v x) (hn : x.fName.length ≤ 1048576) :
    Calls Tryz.prog 90 #[.map (some b), ov, v] w fun e w' => e = .returned (.bool (nextB l out x)) ∧ Below w.heap.size w w' := by
  obtain ⟨cs, rfl, hx⟩ := hx
  have HXX := Lib.hid (fun W (hb : Below w.heap.size w W) => goodEntry.keep hx (kept_below hb (Nat.le_refl _)))
  have HNB := Lib.hid (show nextB l out x = (!decide (x.fName ∈ out) && !lacksB l x && rdyB (lnkA l) out x.fName) from rfl)
  have HLB := Lib.hid (show lacksB l x = decide ((frm (lnkA l) x.fName).length < x.fNeeds.length) from rfl)
  have HRB := Lib.hid (show rdyB (lnkA l) out x.fName = (frm (lnkA l) x.fName).all (fun y => decide (y.fTo ∈ out)) from rfl)
  have HLC := Lib.hid (fun v W (h : LnkAt W lo hi b (lnkA l)) (h2 : ValAt rEntry 0 W v x) => lacks_c b lo hi (lnkA l) x v W h h2 hn)
  obtain ⟨a0, a1, ⟨a2, a3⟩, l2⟩ := x
  obtain ⟨v1, v4, rfl, h1, h4⟩ := hx
  simp only at h1 h4 hn HLC HNB HLB HRB
  rw [← HLB.out] at HLC
  generalize lacksB l ⟨a0, a1, ⟨a2, a3⟩, l2⟩ = lk at *
  generalize rdyB (lnkA l) out a0 = rb at *
  obtain ⟨ra, rc, rfl, _⟩ := sliceAt_len h1
  obtain ⟨sa, sc, rfl, hl4⟩ := sliceAt_len h4
  unfold maxLen at hl4
  have hb := bx_box w (.cells #[.string ⟨a0.toArray⟩, .slice ra a1.length rc, .int .i64 a2, .int .i64 a3, .slice sa l2.length sc] 95)
  have BX := Lib.hid (Bx.new w [.string ⟨a0.toArray⟩, .slice ra a1.length rc, .int .i64 a2, .int .i64 a3, .slice sa l2.length sc] 95)
  have HB := Lib.hid hb
  have HL1 := Lib.hid (hL.below hb (Nat.le_refl _))
  have HO1 := Lib.hid (ho.below hb (Nat.le_refl _))
  have HX1 := Lib.hid (HXX.out _ hb)
  have HCO := Lib.hid (fun (t : Nm) W (h : RowAt W ov (out.map strV)) => (show Calls Tryz.prog 82 #[ov, .string ⟨t.toArray⟩] W fun e w' => e = .returned (.bool (decide (t ∈ out))) ∧ W = w' from contains_any ov out ⟨t.toArray⟩ W h))
  clear hb hL ho h1 h4
  have e0 := BX.out.cell 0 (by simp)
  have e1 := BX.out.cell 1 (by simp)
  have e2 := BX.out.cell 2 (by simp)
  have e3 := BX.out.cell 3 (by simp)
  have e4 := BX.out.cell 4 (by simp)
  simp only [List.getElem_cons_zero, List.getElem_cons_succ] at e0 e1 e2 e3 e4
  by_cases hin : a0 ∈ out
  · have hdin : decide (a0 ∈ out) = true := by simpa using hin
    have HR := Lib.hid (show nextB l out ⟨a0, a1, ⟨a2, a3⟩, l2⟩ = false by rw [HNB.out, hdin]; rfl)
    go_enter Tryz.func90, Tryz.ntmps90
    go_wp2_with fail
    refine (HCO.out a0 _ HO1.out).mono ?_
    rintro e _ ⟨rfl, rfl⟩
    simp only [hdin]
    go_wp2_with fail
    go_ret
    exact ⟨ret_bool HR.out.symm, HB.out⟩
  · have hdin : decide (a0 ∈ out) = false := by simpa using hin
    cases lk
    · have HR := Lib.hid (show nextB l out ⟨a0, a1, ⟨a2, a3⟩, l2⟩ = rb by rw [HNB.out, hdin]; simp)
      go_enter Tryz.func90, Tryz.ntmps90
      go_wp2_with fail
      refine (HCO.out a0 _ HO1.out).mono ?_
      rintro e _ ⟨rfl, rfl⟩
      simp only [hdin]
      go_wp2_with fail
      refine (HLC.out _ _ HL1.out ⟨_, rfl, HX1.out⟩).mono ?_
      rintro e w2 ⟨rfl, hb⟩
      have HB2 := Lib.hid (belS HB.out hb)
      have HL2 := Lib.hid (HL1.out.below hb (Nat.le_refl _))
      have HO2 := Lib.hid (HO1.out.below hb (Nat.le_refl _))
      have BX2 := Lib.hid (BX.out.below hb)
      obtain ⟨n, f, hm, _, hf⟩ := HL2.out
      have hlk := hm.look Tryz.underlying102 (zeroLinks _) a0 (Nat.le_trans hn (by decide))
      have HF := Lib.hid (ownR_at (hf a0) (Nat.le_trans (frm_len _ _) hLL))
      obtain ⟨fa, fc, hfa⟩ := slice_of (hf a0).1
      rw [hfa] at hlk HF
      have HFL := Lib.hid (show (frm (lnkA l) a0).length ≤ 4194304 from Nat.le_trans (frm_len _ _) hLL)
      generalize frm (lnkA l) a0 = F at *
      clear hb hm hf hfa hin hdin e0 e1 e2 e3 e4
      have e0 := BX2.out.cell 0 (by simp)
      have e1 := BX2.out.cell 1 (by simp)
      have e2 := BX2.out.cell 2 (by simp)
      have e3 := BX2.out.cell 3 (by simp)
      have e4 := BX2.out.cell 4 (by simp)
      simp only [List.getElem_cons_zero, List.getElem_cons_succ] at e0 e1 e2 e3 e4
      go_wp2_with fail
      clear hlk e0 e1 e2 e3 e4
      go_loopw [8, 23] (fun _ i wr => ∃ k : Nat, k ≤ F.length ∧ i = .int .i64 k ∧ (F.take k).all (fun y => decide (y.fTo ∈ out)) = true ∧ Below w2.heap.size w2 wr) (fun _ i _ => F.length - (intOf i).toNat)
      case atStart => exact ⟨0, Nat.zero_le _, rfl, by simp, Below.refl _ _⟩
      case round =>
        obtain ⟨k, hk, rfl, hall, hbr⟩ := hrel
        have HAL := Lib.hid hall
        have HBr := Lib.hid hbr
        have hfl := HFL.out
        clear hall hbr
        by_cases hlt : k < F.length
        · obtain ⟨bb, o, rfl, hbw, hd⟩ := flatAt_cell cLink_len (HF.out.below HBr.out (Nat.le_refl _)) k hlt (by decide)
          have d0 := hd 0 (by decide)
          have d1 := hd 1 (by decide)
          have d2 := hd 2 (by decide)
          have HTK := Lib.hid (show (F.take (k + 1)).all (fun y => decide (y.fTo ∈ out)) = ((F.take k).all (fun y => decide (y.fTo ∈ out)) && decide (F[k].fTo ∈ out)) by rw [List.take_succ_eq_append_getElem hlt, List.all_append]; simp)
          have HMM := Lib.hid (List.getElem_mem hlt)
          clear hd
          generalize F[k] = z at *
          obtain ⟨t0, t1, t2⟩ := z
          simp only [cLink, List.getElem?_cons_zero, List.getElem?_cons_succ, Nat.add_zero] at d0 d1 d2 HTK
          have BZ := Lib.hid (Bx.new wr [.string ⟨t0.toArray⟩, .string ⟨t1.toArray⟩, .int .i64 t2] 100)
          have hb := bx_box wr (.cells #[.string ⟨t0.toArray⟩, .string ⟨t1.toArray⟩, .int .i64 t2] 100)
          have HB3 := Lib.hid (belS HBr.out hb)
          have HO3 := Lib.hid (HO2.out.below HB3.out (Nat.le_refl _))
          have hkl : (k : Int) < (F.length : Int) := by omega
          clear hb
          have x0 := BZ.out.cell 0 (by simp)
          have x1 := BZ.out.cell 1 (by simp)
          have x2 := BZ.out.cell 2 (by simp)
          simp only [List.getElem_cons_zero, List.getElem_cons_succ] at x0 x1 x2
          go_wp2_with fail
          refine (HCO.out t1 _ HO3.out).mono ?_
          rintro e _ ⟨rfl, rfl⟩
          by_cases hi : t1 ∈ out
          · have hdi : decide (t1 ∈ out) = true := by simpa using hi
            have HN := Lib.hid (show (F.take (k + 1)).all (fun y => decide (y.fTo ∈ out)) = true by rw [HTK.out, HAL.out, hdi]; rfl)
            simp only [hdi]
            go_wp2_with fail
            exact ⟨⟨k + 1, by omega, by go_num, HN.out, HB3.out⟩, by simp [intOf]; omega⟩
          · have hdi : decide (t1 ∈ out) = false := by simpa using hi
            have HN := Lib.hid (show nextB l out ⟨a0, a1, ⟨a2, a3⟩, l2⟩ = false by
              rw [HR.out, HRB.out, List.all_eq_false]
              exact ⟨_, HMM.out, by simpa using hi⟩)
            simp only [hdi]
            go_wp2_with fail
            go_ret
            exact ⟨ret_bool HN.out.symm, belS HB2.out HB3.out⟩
        · have HN := Lib.hid (show nextB l out ⟨a0, a1, ⟨a2, a3⟩, l2⟩ = true by
            have h := HAL.out
            rw [List.take_of_length_le (by omega)] at h
            rw [HR.out, HRB.out]; exact h)
          have hkl : ¬ (k : Int) < (F.length : Int) := by omega
          go_wp2_with fail
          go_ret
          exact ⟨ret_bool HN.out.symm, belS HB2.out HBr.out⟩
    · have HR := Lib.hid (show nextB l out ⟨a0, a1, ⟨a2, a3⟩, l2⟩ = false by rw [HNB.out]; simp)
      go_enter Tryz.func90, Tryz.ntmps90
      go_wp2_with fail
      refine (HCO.out a0 _ HO1.out).mono ?_
      rintro e _ ⟨rfl, rfl⟩
      simp only [hdin]
      go_wp2_with fail
      refine (HLC.out _ _ HL1.out ⟨_, rfl, HX1.out⟩).mono ?_
      rintro e w2 ⟨rfl, hb⟩
      have HB2 := Lib.hid (belS HB.out hb)
      clear hb
      go_wp2_with fail
      go_ret
      exact ⟨ret_bool HR.out.symm, HB2.out⟩
end Go.Proofs.YteeopjcbpngofaaGreat
/- Contracts of chapter 6: the closure of StartOrder, IndexFunc over it. Written by gen/ch6n.py. -/
namespace Go.Proofs.YteeopjcbpngofaaGreat
set_option linter.unusedVariables false
set_option linter.unusedSimpArgs false
open Go.RowKit
set_option maxRecDepth 100000 in
set_option maxHeartbeats 3200000 in
theorem closO_c (l : List EntryD) (b lo hi b4 b3 : Nat) (ov v : Value) (out : List Nm) (x : EntryD) (w : World) (h4 : w.cell? ⟨b4, 0, none⟩ = some (.map (some b))) (h3 : w.cell? ⟨b3, 0, none⟩ = some ov) (hb4 : b4 < w.heap.size) (hb3 : b3 < w.heap.size)
    (hL : LnkAt w lo hi b (lnkA l)) (hLL : (lnkA l).length ≤ 4194304) (ho : RowAt w ov (out.map strV)) (hx : ValAt rEntry 0 w v x) (hn : x.fName.length ≤ 1048576) :
    Calls Tryz.prog 89 #[v, .pointer (some ⟨b4, 0, none⟩), .pointer (some ⟨b3, 0, none⟩)] w fun e w' => e = .returned (.bool (nextB l out x)) ∧ Below w.heap.size w w' := by
  obtain ⟨cs, rfl, hx⟩ := hx
  have HN := Lib.hid (fun W v (h : LnkAt W lo hi b (lnkA l)) (h2 : RowAt W ov (out.map strV)) (h3 : ValAt rEntry 0 W v x) => isNext_c l b lo hi ov v out x W h hLL h2 h3 hn)
  have HXX := Lib.hid (fun W (hb : Below w.heap.size w W) => goodEntry.keep hx (kept_below hb (Nat.le_refl _)))
  generalize nextB l out x = nb at *
  obtain ⟨a0, a1, ⟨a2, a3⟩, l2⟩ := x
  obtain ⟨v1, v4, rfl, h1, h4b⟩ := hx
  simp only at h1 h4b
  obtain ⟨ra, rc, rfl, _⟩ := sliceAt_len h1
  obtain ⟨sa, sc, rfl, hl4⟩ := sliceAt_len h4b
  obtain ⟨oa, oc, rfl, _⟩ := rowAt_len ho
  rw [List.length_map] at *
  have hb := bx_box w (.cells #[.string ⟨a0.toArray⟩, .slice ra a1.length rc, .int .i64 a2, .int .i64 a3, .slice sa l2.length sc] 95)
  have BX := Lib.hid (Bx.new w [.string ⟨a0.toArray⟩, .slice ra a1.length rc, .int .i64 a2, .int .i64 a3, .slice sa l2.length sc] 95)
  have HB := Lib.hid hb
  have HL1 := Lib.hid (hL.below hb (Nat.le_refl _))
  have HO1 := Lib.hid (ho.below hb (Nat.le_refl _))
  have HX1 := Lib.hid (HXX.out _ hb)
  have c4 := (hb.cell (p := ⟨b4, 0, none⟩) hb4).trans h4
  have c3 := (hb.cell (p := ⟨b3, 0, none⟩) hb3).trans h3
  clear hb hL ho h1 h4b h4 h3
  have e0 := BX.out.cell 0 (by simp)
  have e1 := BX.out.cell 1 (by simp)
  have e2 := BX.out.cell 2 (by simp)
  have e3 := BX.out.cell 3 (by simp)
  have e4 := BX.out.cell 4 (by simp)
  simp only [List.getElem_cons_zero, List.getElem_cons_succ] at e0 e1 e2 e3 e4
  go_enter Tryz.func89, Tryz.ntmps89
  go_wp2_with fail
  refine (HN.out _ _ HL1.out HO1.out ⟨_, rfl, HX1.out⟩).mono ?_
  rintro e w2 ⟨rfl, hb⟩
  have HB2 := Lib.hid (belS HB.out hb)
  clear hb
  go_wp2_with fail
  go_ret
  exact ⟨rfl, HB2.out⟩
/-- the place of the first one that is next -/
def IdxN (l : List EntryD) (p : EntryD → Bool) (r : Int) : Prop := (∃ k, ∃ h : k < l.length, r = (k : Int) ∧ (∀ i (hi : i < l.length), i < k → p l[i] = false) ∧ p l[k] = true) ∨ (r = -1 ∧ ∀ i (hi : i < l.length), p l[i] = false)
set_option maxRecDepth 100000 in
set_option maxHeartbeats 3200000 in
theorem indexO_c (l : List EntryD) (b lo hi b4 b3 : Nat) (ov v : Value) (out : List Nm) (w : World) (hx : SliceAt rEntry 5 0 w v l) (hg : RegOk l) (h4 : w.cell? ⟨b4, 0, none⟩ = some (.map (some b))) (h3 : w.cell? ⟨b3, 0, none⟩ = some ov) (hb4 : b4 < w.heap.size) (hb3 : b3 < w.heap.size)
    (hL : LnkAt w lo hi b (lnkA l)) (ho : RowAt w ov (out.map strV)) :
    Calls Tryz.prog 88 #[v, .func (.func 89) #[] #[.pointer (some ⟨b4, 0, none⟩), .pointer (some ⟨b3, 0, none⟩)]] w fun e w' => ∃ r, e = .returned (.int .i64 r) ∧ IdxN l (nextB l out) r ∧ Below w.heap.size w w' := by
  have HX := Lib.hid hx
  have HG := Lib.hid hg
  have HCL := Lib.hid (fun x v W (hb : Below w.heap.size w W) (h : ValAt rEntry 0 W v x) (hn : x.fName.length ≤ 1048576) => closO_c l b lo hi b4 b3 ov v out x W ((hb.cell (p := ⟨b4, 0, none⟩) hb4).trans h4) ((hb.cell (p := ⟨b3, 0, none⟩) hb3).trans h3) (Nat.lt_of_lt_of_le hb4 hb.size) (Nat.lt_of_lt_of_le hb3 hb.size) (hL.below hb (Nat.le_refl _)) (lnkA_bound hg) (ho.below hb (Nat.le_refl _)) h hn)
  obtain ⟨a, c, rfl, hl⟩ := sliceAt_len hx
  unfold maxLen at hl
  clear hx hg h4 h3 hL ho
  obtain ⟨p, hp⟩ : ∃ p, p = nextB l out := ⟨_, rfl⟩
  have HPR := Lib.hid (fun r (h : IdxN l p r) => (show IdxN l (nextB l out) r by rw [← hp]; exact h))
  simp only [← hp] at HCL
  clear hp
  go_enter Tryz.func88, Tryz.ntmps88
  go_wp2_with fail
  go_loopw [5, 8] (fun _ i wr => ∃ k : Nat, k ≤ l.length ∧ i = .int .i64 k ∧ (∀ i (hi : i < l.length), i < k → p l[i] = false) ∧ Below w.heap.size w wr) (fun _ i _ => l.length - (intOf i).toNat)
  case atStart => exact ⟨0, Nat.zero_le _, rfl, fun i _ h => absurd h (Nat.not_lt_zero _), Below.refl _ _⟩
  case round =>
    obtain ⟨k, hk, rfl, hno, hbr⟩ := hrel
    have HNO := Lib.hid hno
    have HBr := Lib.hid hbr
    clear hno hbr
    by_cases hlt : k < l.length
    · skip
      obtain ⟨bb, o, cs, rfl, hbw, hat, hd⟩ := sliceAt_cell HX.out k hlt
      have HM := Lib.hid (List.getElem_mem hlt)
      have HGE := Lib.hid (HG.out.each _ HM.out)
      have HY := Lib.hid (fun (h : p l[k] = true) => (show IdxN l (nextB l out) (k : Int) from HPR.out _ (Or.inl ⟨k, hlt, rfl, HNO.out, h⟩)))
      have HN := Lib.hid (fun (h : p l[k] = false) => (show ∀ i (hi : i < l.length), i < k + 1 → p l[i] = false from fun i hi hik => by
        by_cases e : i = k
        · subst e; exact h
        · exact HNO.out i hi (by omega)))
      generalize l[k] = z at *
      obtain ⟨a0, a1, ⟨a2, a3⟩, l2⟩ := z
      have HAT := Lib.hid (fun W (hb : Below w.heap.size w W) => goodEntry.keep hat (kept_below hb (Nat.le_refl _)))
      obtain ⟨v1, v4, rfl, h1, h4⟩ := hat
      simp only at h1 h4 HGE
      obtain ⟨ra, rc, rfl, _⟩ := sliceAt_len h1
      obtain ⟨sa, sc, rfl, hl4⟩ := sliceAt_len h4
      unfold maxLen at hl4
      have HN4 := Lib.hid h4
      have d0 := (HBr.out.cell (p := ⟨bb, o + k * 5 + 0, none⟩) hbw).trans (hd 0 (by decide))
      have d1 := (HBr.out.cell (p := ⟨bb, o + k * 5 + 1, none⟩) hbw).trans (hd 1 (by decide))
      have d2 := (HBr.out.cell (p := ⟨bb, o + k * 5 + 2, none⟩) hbw).trans (hd 2 (by decide))
      have d3 := (HBr.out.cell (p := ⟨bb, o + k * 5 + 3, none⟩) hbw).trans (hd 3 (by decide))
      have d4 := (HBr.out.cell (p := ⟨bb, o + k * 5 + 4, none⟩) hbw).trans (hd 4 (by decide))
      simp only [List.getElem?_cons_zero, List.getElem?_cons_succ, Nat.add_zero] at d0 d1 d2 d3 d4
      have hkl : (k : Int) < (l.length : Int) := by omega
      clear hd h1 h4 HM
      have HC := Lib.hid (HCL.out ⟨a0, a1, ⟨a2, a3⟩, l2⟩ (.agg #[.string ⟨a0.toArray⟩, .slice ra a1.length rc, .int .i64 a2, .int .i64 a3, .slice sa l2.length sc]) wr HBr.out ⟨_, rfl, HAT.out _ HBr.out⟩ HGE.out.1)
      cases hpv : p ⟨a0, a1, ⟨a2, a3⟩, l2⟩
      · rw [hpv] at HC
        have HN2 := Lib.hid (HN.out hpv)
        clear HY HN hpv
        go_wp2_with fail
        refine HC.out.mono ?_
        rintro e w1 ⟨rfl, hb⟩
        have HB1 := Lib.hid (belS HBr.out hb)
        clear hb
        go_wp2_with fail
        exact ⟨⟨k + 1, by omega, by go_num, HN2.out, HB1.out⟩, by simp [intOf]; omega⟩
      · rw [hpv] at HC
        have HY2 := Lib.hid (HY.out hpv)
        clear HY HN hpv
        go_wp2_with fail
        refine HC.out.mono ?_
        rintro e w1 ⟨rfl, hb⟩
        have HB1 := Lib.hid (belS HBr.out hb)
        clear hb
        go_wp2_with fail
        go_ret
        exact ⟨_, rfl, HY2.out, HB1.out⟩
    · have HR := Lib.hid (show IdxN l (nextB l out) (-1) from HPR.out _ (Or.inr ⟨rfl, fun i hi => HNO.out i hi (by omega)⟩))
      have hkl : ¬ (k : Int) < (l.length : Int) := by omega
      go_wp2_with fail
      go_ret
      exact ⟨_, rfl, HR.out, HBr.out⟩
end Go.Proofs.YteeopjcbpngofaaGreat
/- Contracts of chapter 6: StartOrder, the program's. Written by gen/ch6n.py. -/
namespace Go.Proofs.YteeopjcbpngofaaGreat
set_option linter.unusedVariables false
set_option linter.unusedSimpArgs false
open Go.RowKit
set_option maxRecDepth 100000 in
set_option maxHeartbeats 3200000 in
theorem implOrder_any (v : Value) (l : List EntryD) (w : World) (hx : SliceAt rEntry 5 0 w v l) (hg : RegOk l) :
    Calls Tryz.prog 46 #[v] w fun e w' => GivesRow (ordL l) w e w' := by
  have hl0 := sliceAt_len hx
  have HX := Lib.hid hx
  have HG := Lib.hid hg
  have HIR := Lib.hid (fun W (h : SliceAt rEntry 5 0 W v l) => implIsReg_any v l W h hg.each)
  have HLN := Lib.hid (fun W (h : SliceAt rEntry 5 0 W v l) => linksByName_c v l W h hg)
  have HCT := Lib.hid (fun (s : ByteArray) W (h : s.size ≤ 140737488355328) => copyText_any s W h)
  have HIX := Lib.hid (fun b lo hi b4 b3 ov out W (h : SliceAt rEntry 5 0 W v l) => indexO_c l b lo hi b4 b3 ov v out W h hg)
  obtain ⟨a, c, rfl, hl⟩ := hl0
  unfold maxLen at hl
  clear hx hg
  have HO0 := Lib.hid (owns_alloc (owns_new w) (.cells #[.slice (some ⟨w.heap.size, 0, none⟩) 0 0] 24))
  have HB0 := Lib.hid (belS (bx_box w (.cells #[] 9)) (bx_box _ (.cells #[.slice (some ⟨w.heap.size, 0, none⟩) 0 0] 24)))
  have BX0 := Lib.hid (show Bx ((w.alloc (.cells #[] 9)).alloc (.cells #[.slice (some ⟨w.heap.size, 0, none⟩) 0 0] 24)) (w.heap.size + 1) [.slice (some ⟨w.heap.size, 0, none⟩) 0 0] from by
    have h := Bx.new (w.alloc (.cells #[] 9)) [.slice (some ⟨w.heap.size, 0, none⟩) 0 0] 24
    rwa [show (w.alloc (.cells #[] 9)).heap.size = w.heap.size + 1 by simp] at h)
  go_enter Tryz.func46, Tryz.ntmps46
  go_wp2_with fail
  generalize (w.alloc (.cells #[] 9)).alloc (.cells #[.slice (some ⟨w.heap.size, 0, none⟩) 0 0] 24) = wS at *
  refine (HIR.out _ (HX.out.below goodEntry HB0.out (Nat.le_refl _))).mono ?_
  rintro e w1 ⟨rfl, hb⟩
  have HB1 := Lib.hid (belS HB0.out hb)
  have HO1 := Lib.hid (owns_below HO0.out hb (Nat.le_refl _))
  have BX1 := Lib.hid (BX0.out.below hb)
  have HZ1 := Lib.hid (show w.heap.size + 2 ≤ w1.heap.size by have h1 := hb.size; have h2 := BX0.out.lt; omega)
  clear hb
  cases hrb : regB l
  · have HR := Lib.hid (ordL_no hrb)
    clear hrb
    have y0 := BX1.out.cell 0 (by simp)
    simp only [List.getElem_cons_zero] at y0
    go_wp2_with fail
    go_ret
    exact ⟨_, rfl, by rw [HR.out]; exact HO1.out, HB1.out⟩
  · have HR := Lib.hid hrb
    have HL6 := Lib.hid (reg_len hrb)
    clear hrb
    go_wp2_with fail
    refine (HLN.out _ (HX.out.below goodEntry HB1.out (Nat.le_refl _))).mono ?_
    rintro e w2 ⟨bM, rfl, hL, hb⟩
    have HB2 := Lib.hid (belS HB1.out hb)
    have HO2 := Lib.hid (owns_below HO1.out hb (Nat.le_refl _))
    have BX2 := Lib.hid (BX1.out.below hb)
    have HL2 := Lib.hid hL
    have HZ2 := Lib.hid hb.size
    clear hb hL
    have BY3 := Lib.hid (Bx.new w2 [.map (some bM)] 102)
    have hb3 := bx_box w2 (.cells #[.map (some bM)] 102)
    have HB3 := Lib.hid (belS HB2.out hb3)
    have HO3 := Lib.hid (owns_below HO2.out hb3 (Nat.le_refl _))
    have BX3 := Lib.hid (BX2.out.below hb3)
    have HL3a := Lib.hid (HL2.out.below hb3 (Nat.le_refl _))
    have HZ3 := Lib.hid hb3.size
    clear hb3
    go_wp2_with fail
    generalize w2.alloc (.cells #[.map (some bM)] 102) = w3 at *
    go_loopw [5] (fun _ wr => ∃ out ov, Owns wr w.heap.size ov out ∧ Bx wr (w.heap.size + 1) [ov] ∧ Bx wr w2.heap.size [.map (some bM)] ∧ ov.ownBlock ≠ some (w.heap.size + 1) ∧ ov.ownBlock ≠ some w2.heap.size ∧ (∀ q, ov.ownBlock = some q → q < w1.heap.size ∨ w2.heap.size ≤ q) ∧ LnkAt wr w1.heap.size w2.heap.size bM (lnkA l) ∧ OrdInv l out ∧ Below w.heap.size w wr ∧ w2.heap.size ≤ wr.heap.size) (fun _ wr => l.length + 1 - lenV ((wr.cell? ⟨w.heap.size + 1, 0, none⟩).getD undef))
    case atStart => exact ⟨[], _, HO3.out, BX3.out, BY3.out, by simp [Value.ownBlock], fun e => by have h1 := HZ1.out; have h2 := HZ2.out; simp [Value.ownBlock] at e; omega, fun q e => by have h1 := HZ1.out; simp [Value.ownBlock] at e; omega, HL3a.out, ordInv_0 l, HB3.out, HZ3.out⟩
    case round =>
      obtain ⟨out, ov, ho, hbx, hby, hn3, hn4, hro, hL, hiv, hbr, hzr⟩ := hrel
      obtain ⟨oa, oc, rfl⟩ := slice_of (ownsF_str ho)
      have HO := Lib.hid ho
      have BX := Lib.hid hbx
      have BY := Lib.hid hby
      have HN3 := Lib.hid hn3
      have HN4b := Lib.hid hn4
      have HRO := Lib.hid hro
      have HL := Lib.hid hL
      have HIV0 := Lib.hid hiv
      have HBr := Lib.hid hbr
      have HOL := Lib.hid (show out.length ≤ 6 by have h1 := hiv.len; have h2 := HL6.out; omega)
      have HC3 := Lib.hid (show wr.cell? ⟨w.heap.size + 1, 0, none⟩ = some (.slice oa out.length oc) from hbx.cell 0 (by simp))
      have HRW := Lib.hid (owns_row ho (by have := HOL.out; omega))
      clear ho hbx hby hn3 hn4 hro hL hiv hbr
      have HI := Lib.hid (HIX.out bM w1.heap.size w2.heap.size w2.heap.size (w.heap.size + 1) (.slice oa out.length oc) out wr (HX.out.below goodEntry HBr.out (Nat.le_refl _)) (BY.out.cell 0 (by simp)) HC3.out BY.out.lt BX.out.lt HL.out HRW.out)
      go_wp2_with fail
      refine HI.out.mono ?_
      rintro e w4 ⟨r, rfl, hidx, hb⟩
      have HW4 := Lib.hid (belS HBr.out hb)
      have HOF := Lib.hid (ownsF_str (owns_below HO.out hb (Nat.le_refl _)))
      have BX4 := Lib.hid (BX.out.below hb)
      have BY4 := Lib.hid (BY.out.below hb)
      have HL4 := Lib.hid (HL.out.below hb (Nat.le_refl _))
      have HZ4 := Lib.hid (show w2.heap.size ≤ w4.heap.size by have := hb.size; omega)
      have c3 := BX4.out.cell 0 (by simp)
      simp only [List.getElem_cons_zero] at c3
      clear hb HI
      rcases hidx with ⟨k, hlt, rfl, hno, hyes⟩ | ⟨rfl, hno⟩
      · have HIV1 := Lib.hid (HIV0.out.next HR.out hlt hno hyes)
        clear hno hyes
        obtain ⟨bb, o, cs, rfl, hbw, hat, hd⟩ := sliceAt_cell HX.out k hlt
        have HGE := Lib.hid (HG.out.each _ (List.getElem_mem hlt))
        have HIV := HIV1
        clear HIV1
        generalize l[k] = z at *
        obtain ⟨a0, a1, ⟨a2, a3⟩, l2⟩ := z
        obtain ⟨v1, v4, rfl, h1, h4⟩ := hat
        have HD0 := Lib.hid (show w.cell? ⟨bb, o + k * 5, none⟩ = some (.string ⟨a0.toArray⟩) from hd 0 (by decide))
        have d0 := (HW4.out.cell (p := ⟨bb, o + k * 5, none⟩) hbw).trans HD0.out
        simp only at HIV HGE
        clear hd h1 h4
        have HNL := Lib.hid (show a0.length ≤ 140737488355328 from Nat.le_trans HGE.out.1 (by decide))
        have HL3 := Lib.hid BX4.out.lt
        have HLb := Lib.hid (show bb < w4.heap.size by have := HW4.out.size; omega)
        have HNE := Lib.hid (show w2.heap.size ≠ w.heap.size + 1 by have h1 := HZ1.out; have h2 := HZ2.out; omega)
        have HB3w := Lib.hid (show w.heap.size ≤ w.heap.size + 1 by omega)
        have H3lo := Lib.hid (show w.heap.size + 1 < w1.heap.size by have h1 := HZ1.out; omega)
        have hk0 : (0 : Int) ≤ (k : Int) := Int.natCast_nonneg _
        have hkn : ¬ (k : Int) < 0 := by omega
        have hkl : (k : Int) < (l.length : Int) := by omega
        go_wp2_with fail
        refine region_T (S := (fun w' => w'.cell? ⟨w.heap.size + 1, 0, none⟩ = some (.slice oa out.length oc) ∧ w'.cell? ⟨bb, o + k * 5, none⟩ = some (.string ⟨a0.toArray⟩))) (t := 9) (by kernel_rfl) ?_ (fun hHeld => ?_)
        · exact ⟨c3, d0⟩
        have hbd := belD (Below.refl w4.heap.size w4)
        have HBD4 := Lib.hid hbd
        clear hbd
        generalize w4.drew = wD at *
        refine anyT_take (i := 0) (v := ?_) rfl (by kernel_rfl) (by kernel_rfl) (by kernel_rfl) (by kernel_rfl) (by kernel_rfl) (fun _ _ _ h => h) (Or.inl ⟨by rfl, ?_⟩) (by assumption) ?_
        rotate_left
        · intro w hSw; (try dsimp only at hSw); go_simp; with_reducible rfl
        try simp only [Act.put, List.getElem_toArray, List.getElem_cons_zero, List.getElem_cons_succ, List.setIfInBounds_toArray, List.set_cons_zero, List.set_cons_succ]
        refine anyT_take (i := 1) (v := ?_) rfl (by kernel_rfl) (by kernel_rfl) (by kernel_rfl) (by kernel_rfl) (by kernel_rfl) (fun _ _ _ h => h) (Or.inl ⟨by rfl, ?_⟩) (by assumption) ?_
        rotate_left
        · intro w hSw; (try dsimp only at hSw); go_simp; with_reducible rfl
        try simp only [Act.put, List.getElem_toArray, List.getElem_cons_zero, List.getElem_cons_succ, List.setIfInBounds_toArray, List.set_cons_zero, List.set_cons_succ]
        refine anyT_take (i := 2) (v := ?_) rfl (by kernel_rfl) (by kernel_rfl) (by kernel_rfl) (by kernel_rfl) (by kernel_rfl) (fun _ _ _ h => h) (Or.inl ⟨by rfl, ?_⟩) (by assumption) ?_
        rotate_left
        · intro w hSw; (try dsimp only at hSw); go_simp; with_reducible rfl
        try simp only [Act.put, List.getElem_toArray, List.getElem_cons_zero, List.getElem_cons_succ, List.setIfInBounds_toArray, List.set_cons_zero, List.set_cons_succ]
        refine anyT_take (i := 3) (v := ?_) rfl (by kernel_rfl) (by kernel_rfl) (by kernel_rfl) (by kernel_rfl) (by kernel_rfl) (fun _ _ _ h => h) (Or.inl ⟨by rfl, ?_⟩) (by assumption) ?_
        rotate_left
        · intro w hSw; (try dsimp only at hSw); go_simp; with_reducible rfl
        try simp only [Act.put, List.getElem_toArray, List.getElem_cons_zero, List.getElem_cons_succ, List.setIfInBounds_toArray, List.set_cons_zero, List.set_cons_succ]
        refine anyT_take (i := 4) (v := ?_) rfl (by kernel_rfl) (by kernel_rfl) (by kernel_rfl) (by kernel_rfl) (by kernel_rfl) (fun _ _ _ h => h) (Or.inl ⟨by rfl, ?_⟩) (by assumption) ?_
        rotate_left
        · intro w hSw; (try dsimp only at hSw); go_simp; with_reducible rfl
        try simp only [Act.put, List.getElem_toArray, List.getElem_cons_zero, List.getElem_cons_succ, List.setIfInBounds_toArray, List.set_cons_zero, List.set_cons_succ]
        refine anyT_take (i := 5) (v := ?_) rfl (by kernel_rfl) (by kernel_rfl) (by kernel_rfl) (by kernel_rfl) (by kernel_rfl) (fun _ _ _ h => h) (Or.inl ⟨by rfl, ?_⟩) (by assumption) ?_
        rotate_left
        · intro w hSw; (try dsimp only at hSw); go_simp; with_reducible rfl
        try simp only [Act.put, List.getElem_toArray, List.getElem_cons_zero, List.getElem_cons_succ, List.setIfInBounds_toArray, List.set_cons_zero, List.set_cons_succ]
        refine anyT_only (i := 6) (by kernel_rfl) rfl (fun K hK => ?_)
        go_simp
        go_at_call 91
        refine (HCT.out ⟨a0.toArray⟩ _ HNL.out).mono ?_
        rintro e w5 ⟨rfl, hb⟩
        have HB5 := Lib.hid (HBD4.out.trans (hb.mono HBD4.out.size))
        clear hb
        refine hK.out _ _ ?_ (fun hHeld => ?_)
        · exact ⟨(HB5.out.cell (p := ⟨w.heap.size + 1, 0, none⟩) HL3.out).trans c3, (HB5.out.cell (p := ⟨bb, o + k * 5, none⟩) HLb.out).trans d0⟩
        clear hK K
        try simp only [Act.put, List.getElem_toArray, List.getElem_cons_zero, List.getElem_cons_succ, List.setIfInBounds_toArray, List.set_cons_zero, List.set_cons_succ]
        refine anyT_only (i := 7) (by kernel_rfl) rfl (fun K hK => ?_)
        go_simp
        have HB6 := Lib.hid (HB5.out.alloc HB5.out.size (.cells #[.string ⟨a0.toArray⟩] 9))
        have HCB := Lib.hid (show ∀ j, j < 1 → (w5.alloc (.cells #[.string ⟨a0.toArray⟩] 9)).cell? ⟨w5.heap.size, j, none⟩ = (cStr a0)[j]? from fun j hj => by rw [cell_of_row _ _ _ _ 9 (0, 0) (heap_alloc_new _ _)]; obtain rfl : j = 0 := (by omega); rfl)
        refine hK.out _ _ ?_ (fun hHeld => ?_)
        · exact ⟨(HB6.out.cell (p := ⟨w.heap.size + 1, 0, none⟩) HL3.out).trans c3, (HB6.out.cell (p := ⟨bb, o + k * 5, none⟩) HLb.out).trans d0⟩
        clear hK K
        try simp only [Act.put, List.getElem_toArray, List.getElem_cons_zero, List.getElem_cons_succ, List.setIfInBounds_toArray, List.set_cons_zero, List.set_cons_succ]
        generalize w5.alloc (.cells #[.string ⟨a0.toArray⟩] 9) = w6 at *
        refine anyT_only (i := 8) (by kernel_rfl) rfl (fun K hK => ?_)
        refine step_flat cStr_len cStr_one infoStrB rfl (by decide) (by decide) Tryz.underlying24 rfl _ _ rfl w.heap.size (.slice oa out.length oc) out a0 _ w5.heap.size (by rfl) (ownsF_below HOF.out HB6.out (Nat.le_refl _)) (by rfl) HCB.out (by have := HOL.out; omega) (by have h1 := HB6.out.size; have h2 := HW4.out.size; omega) ?_
        intro v7 w7 ho7 hg7 hl7
        have HO7 := Lib.hid ho7
        have HG7 := Lib.hid hg7
        have HL7 := Lib.hid hl7
        clear ho7 hg7 hl7
        have HFL := Lib.hid (show ∀ q, (Value.slice oa out.length oc).ownBlock = some q → w.heap.size ≤ q ∧ q < w4.heap.size from fun q h => World.ownsRow.lt HOF.out q h)
        have BX7 := Lib.hid ((BX4.out.below HB6.out).grown HG7.out HN3.out)
        have BY7 := Lib.hid ((BY4.out.below HB6.out).grown HG7.out HN4b.out)
        have HB7 := Lib.hid (Below.grown (belS HW4.out HB6.out) HG7.out (by have h1 := HB6.out.size; have h2 := HW4.out.size; omega) (fun q h => (HFL.out q h).1))
        refine hK.out _ _ ?_ (fun hHeld => ?_)
        · exact ⟨BX7.out.cell 0 (by simp), (HB7.out.cell (p := ⟨bb, o + k * 5, none⟩) hbw).trans HD0.out⟩
        clear hK K
        try simp only [Act.put, List.getElem_toArray, List.getElem_cons_zero, List.getElem_cons_succ, List.setIfInBounds_toArray, List.set_cons_zero, List.set_cons_succ]
        obtain ⟨na, nc, hv7⟩ := slice_lenB (m := out.length + 1) HO7.out (by simp)
        subst hv7
        have y0 := BX7.out.cell 0 (by simp)
        have z0 := BX7.out.froz 0 (by simp)
        simp only [List.getElem_cons_zero] at y0
        refine anyT_tail (by kernel_rfl) rfl (fun K hK => ?_)
        go_simp
        refine hK.out _ _ ?_
        clear hK K
        try simp only [Act.put, List.getElem_toArray, List.getElem_cons_zero, List.getElem_cons_succ, List.setIfInBounds_toArray, List.set_cons_zero, List.set_cons_succ]
        refine anyT_done (by kernel_rfl) ?_ _
        clear y0 z0
        have BX8 := Lib.hid (BX7.out.set 0 (by simp) (.slice na (out.length + 1) nc))
        have BY8 := Lib.hid (BY7.out.other (c := w.heap.size + 1) HNE.out 0 (.slice na (out.length + 1) nc))
        have HO8 := Lib.hid (ownsF_so HO7.out (show (Value.slice na (out.length + 1) nc).ownBlock ≠ some (w.heap.size + 1) from HL7.out (w.heap.size + 1) (Nat.lt_of_lt_of_le HL3.out HB6.out.size) HN3.out) 0 (.slice na (out.length + 1) nc))
        have HB8 := Lib.hid (HB7.out.setCell (p := ⟨w.heap.size + 1, 0, none⟩) HB3w.out (.slice na (out.length + 1) nc))
        have HG8 := Lib.hid (show (w7.setCell ⟨w.heap.size + 1, 0, none⟩ (.slice na (out.length + 1) nc)).heap.size = w7.heap.size by simp)
        have HK8 := Lib.hid ((((HL4.out.below HB6.out (Nat.le_refl _)).grown HG7.out (fun q e => (HRO.out q e))).grown (w' := w7.setCell ⟨w.heap.size + 1, 0, none⟩ (.slice na (out.length + 1) nc)) (r := some (w.heap.size + 1)) ⟨rfl, rfl, rfl, by simp, fun i hi hne => Below.heap_setCell w7 ⟨w.heap.size + 1, 0, none⟩ _ i (fun e => hne (by rw [e]))⟩ (fun q e => by injection e with e; have := H3lo.out; omega)))
        simp only [List.set_cons_zero] at BX8
        generalize w7.setCell ⟨w.heap.size + 1, 0, none⟩ (.slice na (out.length + 1) nc) = w8 at *
        go_wp2_with fail
        refine ⟨⟨out ++ [a0], .slice na (out.length + 1) nc, owns_strF HO8.out, BX8.out, BY8.out, fun e => HL7.out (w.heap.size + 1) (Nat.lt_of_lt_of_le HL3.out HB6.out.size) HN3.out e, fun e => HL7.out w2.heap.size (Nat.lt_of_lt_of_le BY4.out.lt HB6.out.size) HN4b.out e, fun q e => ?_, HK8.out, HIV.out, HB8.out, by have h1 := HB6.out.size; have h2 := HG7.out.size; have h3 := HG8.out; have h4 := HZ4.out; omega⟩, ?_⟩
        · by_cases h : q < w2.heap.size ∧ w1.heap.size ≤ q
          · exact absurd e (HL7.out q (by have h1 := HB6.out.size; have h4 := HZ4.out; omega) (fun e2 => by have := HRO.out q e2; omega))
          · omega
        · have h1 := BX8.out.cell 0 (by simp)
          have h2 := HIV.out.len
          simp only [List.getElem_cons_zero] at h1
          rw [h1, HC3.out]
          simp only [Option.getD_some, lenV, List.length_append, List.length_singleton] at h2 ⊢
          omega
      · have HS := Lib.hid (HIV0.out.stop HR.out hno)
        clear hno
        go_wp2_with fail
        go_ret
        exact ⟨_, rfl, by rw [← HS.out]; exact owns_strF HOF.out, HW4.out⟩
end Go.Proofs.YteeopjcbpngofaaGreat
/- Contracts of chapter 6: MissingOf, the model's. Written by gen/ch6m.py. -/
namespace Go.Proofs.YteeopjcbpngofaaGreat
set_option linter.unusedVariables false
set_option linter.unusedSimpArgs false
open Go.RowKit
def putN (l : List EntryD) (nm : Nm) (acc : List Nm) (d : NeedD) : List Nm := if provL l nm d = [] then ins nm acc else acc
def putE (l : List EntryD) (acc : List Nm) (x : EntryD) : List Nm := x.fNeeds.foldl (putN l x.fName) acc
theorem putN_fold (l : List EntryD) (nm : Nm) : ∀ (ds : List NeedD) (acc : List Nm), Strict acc → Strict (ds.foldl (putN l nm) acc) ∧ (∀ z, z ∈ ds.foldl (putN l nm) acc ↔ z ∈ acc ∨ (z = nm ∧ ∃ d ∈ ds, provL l nm d = [])) ∧ (ds.foldl (putN l nm) acc).length ≤ acc.length + ds.length := by
  intro ds
  induction ds with
  | nil => intro acc h; exact ⟨h, fun z => by simp, by simp⟩
  | cons d r ih =>
    intro acc h
    rw [List.foldl_cons]
    by_cases hd : provL l nm d = []
    · have e : putN l nm acc d = ins nm acc := if_pos hd
      rw [e]
      obtain ⟨k1, k2, k3⟩ := ih _ (strict_ins nm acc h)
      refine ⟨k1, fun z => ?_, by have := ins_len nm acc; rw [List.length_cons]; omega⟩
      rw [k2, mem_ins]
      constructor
      · rintro ((h1 | h1) | ⟨h1, d2, h2, h3⟩)
        · exact Or.inr ⟨h1, d, List.mem_cons_self .., hd⟩
        · exact Or.inl h1
        · exact Or.inr ⟨h1, d2, List.mem_cons_of_mem _ h2, h3⟩
      · rintro (h1 | ⟨h1, _⟩)
        · exact Or.inl (Or.inr h1)
        · exact Or.inl (Or.inl h1)
    · have e : putN l nm acc d = acc := if_neg hd
      rw [e]
      obtain ⟨k1, k2, k3⟩ := ih _ h
      refine ⟨k1, fun z => ?_, by rw [List.length_cons]; omega⟩
      rw [k2]
      constructor
      · rintro (h1 | ⟨h1, d2, h2, h3⟩)
        · exact Or.inl h1
        · exact Or.inr ⟨h1, d2, List.mem_cons_of_mem _ h2, h3⟩
      · rintro (h1 | ⟨h1, d2, h2, h3⟩)
        · exact Or.inl h1
        · rcases List.mem_cons.1 h2 with rfl | h2
          · exact absurd h3 hd
          · exact Or.inr ⟨h1, d2, h2, h3⟩
theorem putE_fold (l : List EntryD) : ∀ (m : List EntryD) (acc : List Nm), Strict acc → Strict (m.foldl (putE l) acc) ∧ (∀ z, z ∈ m.foldl (putE l) acc ↔ z ∈ acc ∨ ∃ x ∈ m, x.fName = z ∧ ∃ d ∈ x.fNeeds, provL l x.fName d = []) ∧ (m.foldl (putE l) acc).length ≤ acc.length + (m.map fun e => e.fNeeds.length).sum := by
  intro m
  induction m with
  | nil => intro acc h; exact ⟨h, fun z => by simp, by simp⟩
  | cons x r ih =>
    intro acc h
    rw [List.foldl_cons]
    obtain ⟨j1, j2, j3⟩ := putN_fold l x.fName x.fNeeds acc h
    obtain ⟨k1, k2, k3⟩ := ih (putE l acc x) j1
    refine ⟨k1, fun z => ?_, by have j4 : (putE l acc x).length ≤ acc.length + x.fNeeds.length := j3; rw [List.map_cons, List.sum_cons]; omega⟩
    rw [k2]
    unfold putE
    rw [j2]
    constructor
    · rintro ((h1 | ⟨rfl, h1⟩) | ⟨y, h1, h2⟩)
      · exact Or.inl h1
      · exact Or.inr ⟨x, List.mem_cons_self .., rfl, h1⟩
      · exact Or.inr ⟨y, List.mem_cons_of_mem _ h1, h2⟩
    · rintro (h1 | ⟨y, h1, rfl, h2⟩)
      · exact Or.inl (Or.inl h1)
      · rcases List.mem_cons.1 h1 with rfl | h1
        · exact Or.inl (Or.inr ⟨rfl, h2⟩)
        · exact Or.inr ⟨y, h1, rfl, h2⟩
/-- fewer links than needs: some need has none -/
theorem lnkN_few (l : List EntryD) (x : EntryD) : ∀ ds : List NeedD, (ds.flatMap (lnkN l x)).length < ds.length ↔ ∃ d ∈ ds, provL l x.fName d = [] := by
  intro ds
  induction ds with
  | nil => simp
  | cons d r ih =>
    rw [List.flatMap_cons, List.length_append, List.length_cons]
    by_cases hd : provL l x.fName d = []
    · have e : lnkN l x d = [] := if_pos hd
      rw [e]
      have := flatMap_len (lnkN l x) 1 r fun d _ => lnkN_len l x d
      constructor
      · intro _; exact ⟨d, List.mem_cons_self .., hd⟩
      · intro _; rw [List.length_nil]; omega
    · have e : (lnkN l x d).length = 1 := by unfold lnkN; rw [if_neg hd]; rfl
      rw [e]
      constructor
      · intro h
        obtain ⟨d2, h1, h2⟩ := ih.1 (by omega)
        exact ⟨d2, List.mem_cons_of_mem _ h1, h2⟩
      · rintro ⟨d2, h1, h2⟩
        rcases List.mem_cons.1 h1 with rfl | h1
        · exact absurd h2 hd
        · have := ih.2 ⟨d2, h1, h2⟩; omega
theorem lacksB_iff {l : List EntryD} (h : regB l = true) {x : EntryD} (hx : x ∈ l) : lacksB l x = true ↔ ∃ d ∈ x.fNeeds, provL l x.fName d = [] := by
  unfold lacksB
  rw [decide_eq_true_iff, frm_lnkA h x hx]
  exact lnkN_few l x x.fNeeds
theorem missL_fold {l : List EntryD} (h : regB l = true) : l.foldl (putE l) [] = missL l := by
  obtain ⟨k1, k2, _⟩ := putE_fold l l [] List.Pairwise.nil
  unfold missL
  rw [if_pos h]
  refine strict_unique k1 (asc_strict _) fun z => ?_
  rw [k2, asc_mem]
  unfold missN
  simp only [List.mem_map, List.mem_filter]
  constructor
  · rintro (h1 | ⟨x, h1, h2, h3⟩)
    · cases h1
    · exact ⟨x, ⟨h1, (lacksB_iff h h1).2 h3⟩, h2⟩
  · rintro ⟨x, ⟨h1, h2⟩, h3⟩
    exact Or.inr ⟨x, h1, h3, (lacksB_iff h h1).1 h2⟩
set_option maxRecDepth 100000 in
set_option maxHeartbeats 3200000 in
theorem specMissing_any (v : Value) (l : List EntryD) (w : World) (hx : SliceAt rEntry 5 0 w v l) (hg : RegOk l) :
    Calls Tryz.prog 34 #[v] w fun e w' => GivesRow (missL l) w e w' := by
  have hl0 := sliceAt_len hx
  have HX := Lib.hid hx
  have HG := Lib.hid hg
  have HIR := Lib.hid (fun W (h : SliceAt rEntry 5 0 W v l) => specIsReg_any v l W h hg.each)
  have HPV := Lib.hid (fun (t : Nm) (d : NeedD) W (h : SliceAt rEntry 5 0 W v l) (hf : d.fFrom.length ≤ maxLen) => specProv_any v l t d W h hg.each hf)
  obtain ⟨a, c, rfl, hl⟩ := hl0
  unfold maxLen at hl
  clear hx hg
  have HO0 := Lib.hid (owns_new w)
  have HB0 := Lib.hid (bx_box w (.cells #[] 9))
  go_enter Tryz.func34, Tryz.ntmps34
  go_wp2_with fail
  generalize w.alloc (.cells #[] 9) = wS at *
  refine (HIR.out _ (HX.out.below goodEntry HB0.out (Nat.le_refl _))).mono ?_
  rintro e w1 ⟨rfl, hb⟩
  have HB1 := Lib.hid (belS HB0.out hb)
  have HO1 := Lib.hid (owns_below HO0.out hb (Nat.le_refl _))
  clear hb
  cases hrb : regB l
  · have HR := Lib.hid (show missL l = [] by unfold missL; rw [hrb]; rfl)
    clear hrb
    go_wp2_with fail
    go_ret
    exact ⟨_, rfl, by rw [HR.out]; exact HO1.out, HB1.out⟩
  · have HR := Lib.hid (missL_fold hrb)
    clear hrb
    go_wp2_with fail
    go_loopw [3, 5, 7, 15] (fun ov _ _ i wr => ∃ k : Nat, k ≤ l.length ∧ i = .int .i64 k ∧ Owns wr w.heap.size ov ((l.take k).foldl (putE l) []) ∧ Below w.heap.size w wr) (fun _ _ _ i _ => l.length - (intOf i).toNat)
    case atStart => exact ⟨0, Nat.zero_le _, rfl, HO1.out, HB1.out⟩
    case round =>
      obtain ⟨k, hk, rfl, hO, hbr⟩ := hrel
      have HO := Lib.hid hO
      have HBr := Lib.hid hbr
      clear hO hbr
      by_cases hlt : k < l.length
      · skip
        obtain ⟨b, o, cs, rfl, hbw, hat, hd⟩ := sliceAt_cell HX.out k hlt
        have HM := Lib.hid (List.getElem_mem hlt)
        have HGE := Lib.hid (HG.out.each _ HM.out)
        have HTK := Lib.hid (show (l.take (k + 1)).foldl (putE l) [] = (l[k].fNeeds).foldl (putN l l[k].fName) ((l.take k).foldl (putE l) []) by rw [List.take_succ_eq_append_getElem hlt, List.foldl_append]; rfl)
        have HBD := Lib.hid (show ∀ j, ((l[k].fNeeds.take j).foldl (putN l l[k].fName) ((l.take k).foldl (putE l) [])).length ≤ 1048576 from fun j => by
          obtain ⟨k1, _, k3⟩ := putE_fold l (l.take k) [] List.Pairwise.nil
          obtain ⟨_, _, j3⟩ := putN_fold l l[k].fName (l[k].fNeeds.take j) _ k1
          have h3 := HG.out.many
          have h4 : l.map (fun e => e.fNeeds.length) = (l.take k).map (fun e => e.fNeeds.length) ++ l[k].fNeeds.length :: (l.drop (k + 1)).map (fun e => e.fNeeds.length) := by
            conv => lhs; rw [← List.take_append_drop k l, List.map_append, List.drop_eq_getElem_cons hlt, List.map_cons]
          rw [h4, List.sum_append, List.sum_cons] at h3
          simp only [List.length_take, List.length_nil] at j3 k3
          omega)
        generalize l[k] = z at *
        obtain ⟨a0, a1, ⟨a2, a3⟩, l2⟩ := z
        have HAT := Lib.hid (fun W (hb : Below w.heap.size w W) => goodEntry.keep hat (kept_below hb (Nat.le_refl _)))
        obtain ⟨v1, v4, rfl, h1, h4⟩ := hat
        simp only at h1 h4 HGE
        obtain ⟨ra, rc, rfl, _⟩ := sliceAt_len h1
        obtain ⟨sa, sc, rfl, hl4⟩ := sliceAt_len h4
        unfold maxLen at hl4
        have HN4 := Lib.hid h4
        have d0 := (HBr.out.cell (p := ⟨b, o + k * 5 + 0, none⟩) hbw).trans (hd 0 (by decide))
        have d1 := (HBr.out.cell (p := ⟨b, o + k * 5 + 1, none⟩) hbw).trans (hd 1 (by decide))
        have d2 := (HBr.out.cell (p := ⟨b, o + k * 5 + 2, none⟩) hbw).trans (hd 2 (by decide))
        have d3 := (HBr.out.cell (p := ⟨b, o + k * 5 + 3, none⟩) hbw).trans (hd 3 (by decide))
        have d4 := (HBr.out.cell (p := ⟨b, o + k * 5 + 4, none⟩) hbw).trans (hd 4 (by decide))
        simp only [List.getElem?_cons_zero, List.getElem?_cons_succ, Nat.add_zero] at d0 d1 d2 d3 d4
        have hkl : (k : Int) < (l.length : Int) := by omega
        clear hd h1 h4 HM
        have BE := Lib.hid (Bx.new wr [.string ⟨a0.toArray⟩, .slice ra a1.length rc, .int .i64 a2, .int .i64 a3, .slice sa l2.length sc] 95)
        have HBE := Lib.hid (belS HBr.out (bx_box wr (.cells #[.string ⟨a0.toArray⟩, .slice ra a1.length rc, .int .i64 a2, .int .i64 a3, .slice sa l2.length sc] 95)))
        have HOE := Lib.hid (show Owns (wr.alloc (.cells #[.string ⟨a0.toArray⟩, .slice ra a1.length rc, .int .i64 a2, .int .i64 a3, .slice sa l2.length sc] 95)) w.heap.size u3 ((l2.take 0).foldl (putN l a0) ((l.take k).foldl (putE l) [])) from by rw [List.take_zero, List.foldl_nil]; exact owns_below HO.out (bx_box wr _) (Nat.le_refl _))
        simp only at HBD HTK
        generalize hP0 : (l.take k).foldl (putE l) [] = P0 at *
        obtain ⟨bE, hbE⟩ : ∃ q, q = wr.heap.size := ⟨_, rfl⟩
        rw [← hbE] at BE
        try rw [← hbE] at HOE
        have e0 := BE.out.cell 0 (by simp)
        have e1 := BE.out.cell 1 (by simp)
        have e2 := BE.out.cell 2 (by simp)
        have e3 := BE.out.cell 3 (by simp)
        have e4 := BE.out.cell 4 (by simp)
        simp only [List.getElem_cons_zero, List.getElem_cons_succ] at e0 e1 e2 e3 e4
        rw [hbE] at e0 e1 e2 e3 e4
        go_wp2_with fail
        rw [← hbE]
        clear hbE
        clear e0 e1 e2 e3 e4 d0 d1 d2 d3 d4
        generalize wr.alloc (.cells #[.string ⟨a0.toArray⟩, .slice ra a1.length rc, .int .i64 a2, .int .i64 a3, .slice sa l2.length sc] 95) = wE at *
        go_loopw [3, 7, 22] (fun ov _ i wr => ∃ j : Nat, j ≤ l2.length ∧ i = .int .i64 j ∧ Owns wr w.heap.size ov ((l2.take j).foldl (putN l a0) P0) ∧ Below w.heap.size w wr ∧ Bx wr bE [.string ⟨a0.toArray⟩, .slice ra a1.length rc, .int .i64 a2, .int .i64 a3, .slice sa l2.length sc]) (fun _ _ i _ => l2.length - (intOf i).toNat)
        case atStart => exact ⟨0, Nat.zero_le _, rfl, HOE.out, HBE.out, BE.out⟩
        case round =>
          obtain ⟨j, hj, rfl, hO2, hb2, hbe⟩ := hrel
          have HO2 := Lib.hid hO2
          have HB2 := Lib.hid hb2
          have BE2 := Lib.hid hbe
          clear hO2 hb2 hbe
          have hbz := HB2.out.size
          by_cases hlj : j < l2.length
          · skip
            obtain ⟨q, o2, cs2, rfl, hq, hat2, hd2⟩ := sliceAt_cell HN4.out j hlj
            have HFJ := Lib.hid (HGE.out.2.1 _ (List.getElem_mem hlj))
            have HLB := Lib.hid (HBD.out j)
            have HST := Lib.hid (show (l2.take (j + 1)).foldl (putN l a0) P0 = (if provL l a0 l2[j] = [] then ins a0 ((l2.take j).foldl (putN l a0) P0) else (l2.take j).foldl (putN l a0) P0) by rw [List.take_succ_eq_append_getElem hlj, List.foldl_append]; rfl)
            generalize hL1 : (l2.take (j + 1)).foldl (putN l a0) P0 = L1 at HST
            have HE1 := Lib.hid hL1
            clear hL1
            generalize (l2.take j).foldl (putN l a0) P0 = L at *
            generalize l2[j] = y at *
            obtain ⟨m0, m1, m2, m3⟩ := y
            simp only [rFlat, cNeed] at hat2
            subst hat2
            have d0 := (HB2.out.cell (p := ⟨q, o2 + j * 4 + 0, none⟩) hq).trans (hd2 0 (by decide))
            have d1 := (HB2.out.cell (p := ⟨q, o2 + j * 4 + 1, none⟩) hq).trans (hd2 1 (by decide))
            have d2 := (HB2.out.cell (p := ⟨q, o2 + j * 4 + 2, none⟩) hq).trans (hd2 2 (by decide))
            have d3 := (HB2.out.cell (p := ⟨q, o2 + j * 4 + 3, none⟩) hq).trans (hd2 3 (by decide))
            simp only [List.getElem?_cons_zero, List.getElem?_cons_succ, Nat.add_zero] at d0 d1 d2 d3
            have hkj : (j : Int) < (l2.length : Int) := by omega
            have BN := Lib.hid (Bx.new wr [.int .i64 m0, .string ⟨m1.toArray⟩, .int .i64 m2, .int .i64 m3] 97)
            have HBN := Lib.hid (belS HB2.out (bx_box wr (.cells #[.int .i64 m0, .string ⟨m1.toArray⟩, .int .i64 m2, .int .i64 m3] 97)))
            have BEN := Lib.hid (BE2.out.alloc (.cells #[.int .i64 m0, .string ⟨m1.toArray⟩, .int .i64 m2, .int .i64 m3] 97))
            have HP := Lib.hid (HPV.out a0 ⟨m0, m1, m2, m3⟩)
            simp only [vNeed] at HP HST
            try simp only at HFJ
            generalize provL l a0 ⟨m0, m1, m2, m3⟩ = p at *
            have HXN := Lib.hid (HX.out.below goodEntry HBN.out (Nat.le_refl _))
            clear hd2
            have HON := Lib.hid (owns_below HO2.out (bx_box wr (.cells #[.int .i64 m0, .string ⟨m1.toArray⟩, .int .i64 m2, .int .i64 m3] 97)) (Nat.le_refl _))
            have e0 := BEN.out.cell 0 (by simp)
            have e1 := BEN.out.cell 1 (by simp)
            have e2 := BEN.out.cell 2 (by simp)
            have e3 := BEN.out.cell 3 (by simp)
            have e4 := BEN.out.cell 4 (by simp)
            simp only [List.getElem_cons_zero, List.getElem_cons_succ] at e0 e1 e2 e3 e4
            have n0 := BN.out.cell 0 (by simp)
            have n1 := BN.out.cell 1 (by simp)
            have n2 := BN.out.cell 2 (by simp)
            have n3 := BN.out.cell 3 (by simp)
            simp only [List.getElem_cons_zero, List.getElem_cons_succ] at n0 n1 n2 n3
            go_wp2_with fail
            refine (HP.out _ HXN.out HFJ.out).mono ?_
            rintro e w3 ⟨rfl, hb⟩
            have HB3 := Lib.hid (belS HBN.out hb)
            have BE3 := Lib.hid (BEN.out.below hb)
            have BN3 := Lib.hid (BN.out.below hb)
            have HO3 := Lib.hid (owns_below HON.out hb (Nat.le_refl _))
            clear hb e0 e1 e2 e3 e4 n0 n1 n2 n3 d0 d1 d2 d3 HXN BEN BN HBN
            cases p with
            | nil =>
              have HL1 := Lib.hid (show L1 = ins a0 L by rw [HST.out]; exact if_pos rfl)
              clear HST
              have HPT := Lib.hid (fun v W (h : RowAt W v (L.map strV)) => l1Put_any v L ⟨a0.toArray⟩ W h (by have := HLB.out; omega))
              have HRR := Lib.hid (owns_row HO3.out (by have := HLB.out; omega))
              have e0 := BE3.out.cell 0 (by simp)
              have e1 := BE3.out.cell 1 (by simp)
              have e2 := BE3.out.cell 2 (by simp)
              have e3 := BE3.out.cell 3 (by simp)
              have e4 := BE3.out.cell 4 (by simp)
              simp only [List.getElem_cons_zero, List.getElem_cons_succ] at e0 e1 e2 e3 e4
              go_wp2_with fail
              refine (HPT.out _ _ HRR.out).mono ?_
              rintro e w4 ⟨u, rfl, hu, hb⟩
              have HB4 := Lib.hid (belS HB3.out hb)
              have HU := Lib.hid (show Owns w4 w.heap.size u (ins a0 L) from owns_strF (ownsF_base (ownsF_str hu) HB3.out.size))
              have BE4 := Lib.hid (BE3.out.below hb)
              clear hb hu
              go_wp2_with fail
              exact ⟨⟨j + 1, by omega, by go_num, by rw [HE1.out, HL1.out]; exact HU.out, HB4.out, BE4.out⟩, by simp [intOf]; omega⟩
            | cons c r =>
              have HL1 := Lib.hid (show L1 = L by rw [HST.out]; exact if_neg (by simp))
              clear HST
              go_wp2_with fail
              exact ⟨⟨j + 1, by omega, by go_num, by rw [HE1.out, HL1.out]; exact HO3.out, HB3.out, BE3.out⟩, by simp [intOf]; omega⟩
          · have hkj : ¬ (j : Int) < (l2.length : Int) := by omega
            have HTL := Lib.hid (show (l2.take j).foldl (putN l a0) P0 = (l.take (k + 1)).foldl (putE l) [] by rw [HTK.out, List.take_of_length_le (by omega)])
            go_wp2_with fail
            exact ⟨⟨k + 1, by omega, by go_num, by rw [← HTL.out]; exact HO2.out, HB2.out⟩, by simp [intOf]; omega⟩
      · have HTL := Lib.hid (show (l.take k).foldl (putE l) [] = missL l by rw [List.take_of_length_le (by omega)]; exact HR.out)
        have hkl : ¬ (k : Int) < (l.length : Int) := by omega
        go_wp2_with fail
        go_ret
        exact ⟨_, rfl, by rw [← HTL.out]; exact HO.out, HBr.out⟩
theorem missL_len (l : List EntryD) : (missL l).length ≤ 6 := by
  unfold missL
  split
  · rename_i h
    exact Nat.le_trans (asc_len _) (Nat.le_trans (missN_len l l) (reg_len h))
  · exact Nat.zero_le _
end Go.Proofs.YteeopjcbpngofaaGreat
/- Contracts of chapter 6: l6Ready, StartOrder, the model's. Written by gen/ch6n.py. -/
namespace Go.Proofs.YteeopjcbpngofaaGreat
set_option linter.unusedVariables false
set_option linter.unusedSimpArgs false
open Go.RowKit
theorem ordGo_len (l : List Nm) (rd : List Nm → Nm → Bool) : ∀ (f : Nat) (out : List Nm), (ordGo l rd f out).length ≤ out.length + f := by
  intro f
  induction f with
  | zero => intro out; exact Nat.le_refl _
  | succ f ih =>
    intro out
    cases h : l.find? (rd out) with
    | none => rw [ordGo_stop h]; omega
    | some x =>
      rw [ordGo_next h]
      have := ih (out ++ [x])
      rw [List.length_append, List.length_singleton] at this
      omega
theorem ordL_len (l : List EntryD) : (ordL l).length ≤ 7 := by
  unfold ordL
  split
  · rename_i h
    have h1 := ordGo_len (l.map (·.fName)) (nextN l) (l.length + 1) []
    have h2 := reg_len h
    rw [List.length_nil] at h1
    omega
  · exact Nat.zero_le _
theorem ownR_wide {α : Type} {f : α → List Value} {E k : Nat} {w : World} {lo hi lo2 hi2 : Nat} {v : Value} {l : List α} (h : OwnR f E k w lo2 hi2 v l) (h1 : lo ≤ lo2) (h2 : hi2 ≤ hi) : OwnR f E k w lo hi v l := ⟨ownsF_base h.1 h1, fun g e => Nat.lt_of_lt_of_le (h.2 g e) h2⟩
theorem frm_take (L : List LinkD) (nm : Nm) {k : Nat} (h : k < L.length) : frm (L.take (k + 1)) nm = frm (L.take k) nm ++ (if L[k].fFrom = nm then [L[k]] else []) := by
  rw [List.take_succ_eq_append_getElem h, frm_append]
  congr 1
  by_cases e : L[k].fFrom = nm <;> simp [frm, e]
set_option maxRecDepth 100000 in
set_option maxHeartbeats 3200000 in
theorem l6Ready_c (u ov : Value) (L : List LinkD) (out : List Nm) (nm : Nm) (w : World) (hx : FlatAt cLink 3 w u L) (ho : RowAt w ov (out.map strV)) (hl : L.length ≤ 1048576) :
    Calls Tryz.prog 87 #[u, .string ⟨nm.toArray⟩, ov] w fun e w' => e = .returned (.bool (rdyB L out nm)) ∧ Below w.heap.size w w' := by
  obtain ⟨a, c, rfl, _⟩ := flatAt_len hx
  have HX := Lib.hid hx
  have HO := Lib.hid ho
  have HHT := Lib.hid (fun (t : Nm) W (h : RowAt W ov (out.map strV)) => (show Calls Tryz.prog 83 #[ov, .string ⟨t.toArray⟩] W fun e w' => e = .returned (.bool (decide (t ∈ out))) ∧ W = w' from l1HasText_any ov out ⟨t.toArray⟩ W h))
  obtain ⟨rb, hrb⟩ : ∃ rb, rb = rdyB L out nm := ⟨_, rfl⟩
  have HRB := Lib.hid (show rb = (frm L nm).all (fun y => decide (y.fTo ∈ out)) from hrb)
  rw [← hrb]
  clear hx ho hrb
  go_enter Tryz.func87, Tryz.ntmps87
  go_wp2_with fail
  go_loopw [8, 11] (fun _ i wr => ∃ k : Nat, k ≤ L.length ∧ i = .int .i64 k ∧ (frm (L.take k) nm).all (fun y => decide (y.fTo ∈ out)) = true ∧ Below w.heap.size w wr) (fun _ i _ => L.length - (intOf i).toNat)
  case atStart => exact ⟨0, Nat.zero_le _, rfl, by simp [frm], Below.refl _ _⟩
  case round =>
    obtain ⟨k, hk, rfl, hall, hbr⟩ := hrel
    have HAL := Lib.hid hall
    have HBr := Lib.hid hbr
    clear hall hbr
    by_cases hlt : k < L.length
    · obtain ⟨bb, o, rfl, hbw, hd⟩ := flatAt_cell cLink_len (HX.out.below HBr.out (Nat.le_refl _)) k hlt (by decide)
      have d0 := hd 0 (by decide)
      have d1 := hd 1 (by decide)
      have d2 := hd 2 (by decide)
      have HTK := Lib.hid (frm_take L nm hlt)
      have HMM := Lib.hid (List.getElem_mem hlt)
      clear hd
      generalize L[k] = z at *
      obtain ⟨t0, t1, t2⟩ := z
      simp only [cLink, List.getElem?_cons_zero, List.getElem?_cons_succ, Nat.add_zero] at d0 d1 d2 HTK
      have BZ := Lib.hid (Bx.new wr [.string ⟨t0.toArray⟩, .string ⟨t1.toArray⟩, .int .i64 t2] 100)
      have hb := bx_box wr (.cells #[.string ⟨t0.toArray⟩, .string ⟨t1.toArray⟩, .int .i64 t2] 100)
      have HB3 := Lib.hid (belS HBr.out hb)
      have HO3 := Lib.hid (HO.out.below HB3.out (Nat.le_refl _))
      have hkl : (k : Int) < (L.length : Int) := by omega
      clear hb
      have x0 := BZ.out.cell 0 (by simp)
      have x1 := BZ.out.cell 1 (by simp)
      have x2 := BZ.out.cell 2 (by simp)
      simp only [List.getElem_cons_zero, List.getElem_cons_succ] at x0 x1 x2
      by_cases heq : t0 = nm
      · have hbeq : (t0 == nm) = true := by simp [heq]
        have HEQ := Lib.hid heq
        clear heq
        go_wp2_with fail
        refine (HHT.out t1 _ HO3.out).mono ?_
        rintro e _ ⟨rfl, rfl⟩
        by_cases hi : t1 ∈ out
        · have hdi : decide (t1 ∈ out) = true := by simpa using hi
          have HN := Lib.hid (show (frm (L.take (k + 1)) nm).all (fun y => decide (y.fTo ∈ out)) = true by rw [HTK.out, if_pos HEQ.out, List.all_append, HAL.out]; simpa using hi)
          simp only [hdi]
          go_wp2_with fail
          exact ⟨⟨k + 1, by omega, by go_num, HN.out, HB3.out⟩, by simp [intOf]; omega⟩
        · have hdi : decide (t1 ∈ out) = false := by simpa using hi
          have HN := Lib.hid (show rb = false by
            rw [HRB.out, List.all_eq_false]
            exact ⟨⟨t0, t1, t2⟩, List.mem_filter.2 ⟨HMM.out, by simp [HEQ.out]⟩, by simpa using hi⟩)
          simp only [hdi]
          go_wp2_with fail
          go_ret
          exact ⟨ret_bool HN.out.symm, HB3.out⟩
      · have hbeq : (t0 == nm) = false := by simp [heq]
        have HN := Lib.hid (show (frm (L.take (k + 1)) nm).all (fun y => decide (y.fTo ∈ out)) = true by rw [HTK.out, if_neg heq, List.append_nil]; exact HAL.out)
        clear heq
        go_wp2_with fail
        exact ⟨⟨k + 1, by omega, by go_num, HN.out, HB3.out⟩, by simp [intOf]; omega⟩
    · have HN := Lib.hid (show rb = true by
        have h := HAL.out
        rw [List.take_of_length_le (by omega)] at h
        rw [HRB.out]; exact h)
      have hkl : ¬ (k : Int) < (L.length : Int) := by omega
      go_wp2_with fail
      go_ret
      exact ⟨ret_bool HN.out.symm, HBr.out⟩
set_option maxRecDepth 100000 in
set_option maxHeartbeats 3200000 in
theorem specOrder_any (v : Value) (l : List EntryD) (w : World) (hx : SliceAt rEntry 5 0 w v l) (hg : RegOk l) :
    Calls Tryz.prog 45 #[v] w fun e w' => GivesRow (ordL l) w e w' := by
  have hl0 := sliceAt_len hx
  have HX := Lib.hid hx
  have HG := Lib.hid hg
  have HIR := Lib.hid (fun W (h : SliceAt rEntry 5 0 W v l) => specIsReg_any v l W h hg.each)
  have HLN := Lib.hid (fun W (h : SliceAt rEntry 5 0 W v l) => specLinksOf_any v l W h hg)
  have HMS := Lib.hid (fun W (h : SliceAt rEntry 5 0 W v l) => specMissing_any v l W h hg)
  have HLL := Lib.hid (lnkL_len hg)
  have HML := Lib.hid (missL_len l)
  have HHT := Lib.hid (fun (t : Nm) ov (out : List Nm) W (h : RowAt W ov (out.map strV)) => (show Calls Tryz.prog 83 #[ov, .string ⟨t.toArray⟩] W fun e w' => e = .returned (.bool (decide (t ∈ out))) ∧ W = w' from l1HasText_any ov out ⟨t.toArray⟩ W h))
  have HRD := Lib.hid (fun u ov out nm W (h : FlatAt cLink 3 W u (lnkL l)) (h2 : RowAt W ov (out.map strV)) => l6Ready_c u ov (lnkL l) out nm W h h2 (lnkL_len hg))
  obtain ⟨a, c, rfl, hl⟩ := hl0
  unfold maxLen at hl
  clear hx hg
  have HO0 := Lib.hid (owns_new w)
  have HB0 := Lib.hid (bx_box w (.cells #[] 9))
  have HZ0 := Lib.hid (show (w.alloc (.cells #[] 9)).heap.size = w.heap.size + 1 by simp)
  go_enter Tryz.func45, Tryz.ntmps45
  go_wp2_with fail
  generalize w.alloc (.cells #[] 9) = w1 at *
  refine (HLN.out _ (HX.out.below goodEntry HB0.out (Nat.le_refl _))).mono ?_
  rintro e w2 ⟨uL, rfl, hL, hb⟩
  have HB2 := Lib.hid (belS HB0.out hb)
  have HO2 := Lib.hid (owns_below HO0.out hb (Nat.le_refl _))
  have HL2 := Lib.hid (ownR_of hL)
  have HZ2 := Lib.hid hb.size
  clear hb hL
  go_wp2_with fail
  refine (HMS.out _ (HX.out.below goodEntry HB2.out (Nat.le_refl _))).mono ?_
  rintro e w3 ⟨uM, rfl, hM, hb⟩
  have HB3 := Lib.hid (belS HB2.out hb)
  have HO3 := Lib.hid (owns_below HO2.out hb (Nat.le_refl _))
  have HL3 := Lib.hid (ownR_wide (lo := w1.heap.size) (hi := w3.heap.size) (ownR_below HL2.out hb (Nat.le_refl _)) (Nat.le_refl _) hb.size)
  have HM3 := Lib.hid (ownR_wide (lo := w1.heap.size) (hi := w3.heap.size) (ownR_of (ownsF_str hM)) HZ2.out (Nat.le_refl _))
  have HZ3 := Lib.hid (Nat.le_trans HZ2.out hb.size)
  clear hb hM
  go_wp2_with fail
  refine (HIR.out _ (HX.out.below goodEntry HB3.out (Nat.le_refl _))).mono ?_
  rintro e w4 ⟨rfl, hb⟩
  have HB4 := Lib.hid (belS HB3.out hb)
  have HO4 := Lib.hid (owns_below HO3.out hb (Nat.le_refl _))
  have HL4 := Lib.hid (ownR_below HL3.out hb (Nat.le_refl _))
  have HM4 := Lib.hid (ownR_below HM3.out hb (Nat.le_refl _))
  have HZ4 := Lib.hid hb.size
  clear hb
  have HR0 := Lib.hid (fun h : regB l = false => ordL_no h)
  have HNX := Lib.hid (fun (h : regB l = true) (out : List Nm) (e : EntryD) (he : e ∈ l) => (show nextB l out e = (!decide (e.fName ∈ out) && !decide (e.fName ∈ missL l) && rdyB (lnkL l) out e.fName) from by
    rw [← next_iff h he, lnkL_yes h]
    unfold nextN missL
    rw [if_pos h]
    simp only [asc_mem]))
  go_wp2_with fail
  go_loopw [3, 6, 8] (fun ov mv _ wr => ∃ (out : List Nm) (mb : Bool), mv = .bool mb ∧ (regB l = true → OrdInv l out) ∧ (mb = true → regB l = true) ∧ (mb = false → out = ordL l) ∧ (Owns wr w.heap.size ov out ∧ ∀ q, ov.ownBlock = some q → q < w1.heap.size ∨ w3.heap.size ≤ q) ∧ OwnR cLink 100 3 wr w1.heap.size w3.heap.size uL (lnkL l) ∧ OwnR cStr 9 1 wr w1.heap.size w3.heap.size uM (missL l) ∧ Below w.heap.size w wr ∧ w3.heap.size ≤ wr.heap.size) (fun ov mv _ _ => (l.length + 1 - lenV ov) + (match mv with | .bool true => 1 | _ => 0))
  case atStart => exact ⟨[], regB l, rfl, fun _ => ordInv_0 l, fun h => h, fun h => (HR0.out h).symm, ⟨HO4.out, fun q e => by have h1 := HZ0.out; simp [Value.ownBlock] at e; omega⟩, HL4.out, HM4.out, HB4.out, HZ4.out⟩
  case round =>
    obtain ⟨out, mb, rfl, hiv, hmr, hme, ⟨ho, hro⟩, hL, hM, hbr, hzr⟩ := hrel
    have HO := Lib.hid ho
    have HRO := Lib.hid hro
    have HL := Lib.hid hL
    have HM := Lib.hid hM
    have HBr := Lib.hid hbr
    clear hro hL hM hbr
    cases mb
    · have HE := Lib.hid (hme rfl)
      clear hiv hmr hme ho
      go_wp2_with fail
      go_ret
      exact ⟨_, rfl, by rw [← HE.out]; exact HO.out, HBr.out⟩
    · have HR := Lib.hid (hmr rfl)
      have HIV := Lib.hid (hiv (hmr rfl))
      have HL6 := Lib.hid (reg_len (hmr rfl))
      have HOL := Lib.hid (show out.length ≤ 6 by have h1 := (hiv (hmr rfl)).len; have h2 := reg_len (hmr rfl); omega)
      obtain ⟨oa, oc, hov⟩ := slice_of (ownsF_str ho)
      have HOV := Lib.hid hov
      clear hiv hmr hme ho hov
      go_wp2_with fail
      go_loopw [3, 6, 8, 19] (fun ov2 mv _ i wr => ∃ k : Nat, k ≤ l.length ∧ i = .int .i64 k ∧ (((mv = .bool false ∧ (∀ i (hi : i < l.length), i < k → nextB l out l[i] = false) ∧ Owns wr w.heap.size ov2 out) ∨ (mv = .bool true ∧ ∃ out2, out2.length = out.length + 1 ∧ OrdInv l out2 ∧ Owns wr w.heap.size ov2 out2)) ∧ ∀ q, ov2.ownBlock = some q → q < w1.heap.size ∨ w3.heap.size ≤ q) ∧ OwnR cLink 100 3 wr w1.heap.size w3.heap.size uL (lnkL l) ∧ OwnR cStr 9 1 wr w1.heap.size w3.heap.size uM (missL l) ∧ Below w.heap.size w wr ∧ w3.heap.size ≤ wr.heap.size) (fun _ _ _ i _ => l.length - (intOf i).toNat)
      case atStart => exact ⟨0, Nat.zero_le _, rfl, ⟨Or.inl ⟨rfl, fun i _ h => absurd h (Nat.not_lt_zero _), HO.out⟩, HRO.out⟩, HL.out, HM.out, HBr.out, hzr⟩
      case round =>
        obtain ⟨k, hk, rfl, ⟨hst, hro⟩, hL, hM, hbr, hzr2⟩ := hrel
        have HRO2 := Lib.hid hro
        have HL2b := Lib.hid hL
        have HM2b := Lib.hid hM
        have HBr2 := Lib.hid hbr
        clear hro hL hM hbr
        by_cases hlt : k < l.length
        · skip
          obtain ⟨bb, o, cs, rfl, hbw, hat, hd⟩ := sliceAt_cell HX.out k hlt
          have HMq := Lib.hid (List.getElem_mem hlt)
          have HGE := Lib.hid (HG.out.each _ HMq.out)
          have HNB := Lib.hid (HNX.out HR.out out _ HMq.out)
          have HNE := Lib.hid (fun (h : nextB l out l[k] = false) (hno : ∀ i (hi : i < l.length), i < k → nextB l out l[i] = false) => (show ∀ i (hi : i < l.length), i < k + 1 → nextB l out l[i] = false from fun i hi hik => by
            by_cases e : i = k
            · subst e; exact h
            · exact hno i hi (by omega)))
          have HNY := Lib.hid (fun (h : nextB l out l[k] = true) (hno : ∀ i (hi : i < l.length), i < k → nextB l out l[i] = false) => HIV.out.next HR.out hlt hno h)
          generalize l[k] = z at *
          obtain ⟨a0, a1, ⟨a2, a3⟩, l2⟩ := z
          have HAT := Lib.hid (fun W (hb : Below w.heap.size w W) => goodEntry.keep hat (kept_below hb (Nat.le_refl _)))
          obtain ⟨v1, v4, rfl, h1, h4⟩ := hat
          simp only at h1 h4 HGE HNB HNY
          obtain ⟨ra, rc, rfl, _⟩ := sliceAt_len h1
          obtain ⟨sa, sc, rfl, hl4⟩ := sliceAt_len h4
          unfold maxLen at hl4
          have HN4 := Lib.hid h4
          have d0 := (HBr2.out.cell (p := ⟨bb, o + k * 5 + 0, none⟩) hbw).trans (hd 0 (by decide))
          have d1 := (HBr2.out.cell (p := ⟨bb, o + k * 5 + 1, none⟩) hbw).trans (hd 1 (by decide))
          have d2 := (HBr2.out.cell (p := ⟨bb, o + k * 5 + 2, none⟩) hbw).trans (hd 2 (by decide))
          have d3 := (HBr2.out.cell (p := ⟨bb, o + k * 5 + 3, none⟩) hbw).trans (hd 3 (by decide))
          have d4 := (HBr2.out.cell (p := ⟨bb, o + k * 5 + 4, none⟩) hbw).trans (hd 4 (by decide))
          simp only [List.getElem?_cons_zero, List.getElem?_cons_succ, Nat.add_zero] at d0 d1 d2 d3 d4
          have hkl : (k : Int) < (l.length : Int) := by omega
          clear hd h1 h4 HMq
          have hb := bx_box wr (.cells #[.string ⟨a0.toArray⟩, .slice ra a1.length rc, .int .i64 a2, .int .i64 a3, .slice sa l2.length sc] 95)
          have HB5 := Lib.hid (belS HBr2.out hb)
          have HL5 := Lib.hid (ownR_below HL2b.out hb (Nat.le_refl _))
          have HM5 := Lib.hid (ownR_below HM2b.out hb (Nat.le_refl _))
          have BX := Lib.hid (Bx.new wr [.string ⟨a0.toArray⟩, .slice ra a1.length rc, .int .i64 a2, .int .i64 a3, .slice sa l2.length sc] 95)
          have HZ5 := Lib.hid (show w3.heap.size ≤ (wr.alloc (.cells #[.string ⟨a0.toArray⟩, .slice ra a1.length rc, .int .i64 a2, .int .i64 a3, .slice sa l2.length sc] 95)).heap.size by have := hb.size; omega)
          have HBB := Lib.hid hb
          clear hb
          rcases hst with ⟨rfl, hno, ho⟩ | ⟨rfl, out2, ho2, hiv2, ho⟩
          · have HNO := Lib.hid hno
            have HO5 := Lib.hid (owns_below ho HBB.out (Nat.le_refl _))
            have HRW := Lib.hid (owns_row HO5.out (by have := HOL.out; omega))
            have HRM := Lib.hid (row_of_flat (ownR_at HM5.out (by have := HML.out; omega)))
            have HFL := Lib.hid (ownR_at HL5.out (by have := HLL.out; omega))
            obtain ⟨oa2, oc2, rfl⟩ := slice_of (ownsF_str ho)
            clear hno ho
            have e0 := BX.out.cell 0 (by simp)
            have e1 := BX.out.cell 1 (by simp)
            have e2 := BX.out.cell 2 (by simp)
            have e3 := BX.out.cell 3 (by simp)
            have e4 := BX.out.cell 4 (by simp)
            simp only [List.getElem_cons_zero, List.getElem_cons_succ] at e0 e1 e2 e3 e4
            by_cases hin : a0 ∈ out
            · have hdin : decide (a0 ∈ out) = true := by simpa using hin
              have HNF := Lib.hid (HNE.out (by rw [HNB.out, hdin]; rfl) HNO.out)
              go_wp2_with fail
              refine (HHT.out a0 _ out _ HRW.out).mono ?_
              rintro e _ ⟨rfl, rfl⟩
              simp only [hdin]
              go_wp2_with fail
              exact ⟨⟨k + 1, by omega, by go_num, ⟨Or.inl ⟨rfl, HNF.out, HO5.out⟩, HRO2.out⟩, HL5.out, HM5.out, HB5.out, HZ5.out⟩, by simp [intOf]; omega⟩
            · have hdin : decide (a0 ∈ out) = false := by simpa using hin
              by_cases him : a0 ∈ missL l
              · have hdim : decide (a0 ∈ missL l) = true := by simpa using him
                have HNF := Lib.hid (HNE.out (by rw [HNB.out, hdim]; simp) HNO.out)
                go_wp2_with fail
                refine (HHT.out a0 _ out _ HRW.out).mono ?_
                rintro e _ ⟨rfl, rfl⟩
                simp only [hdin]
                go_wp2_with fail
                refine (HHT.out a0 _ (missL l) _ HRM.out).mono ?_
                rintro e _ ⟨rfl, rfl⟩
                simp only [hdim]
                go_wp2_with fail
                exact ⟨⟨k + 1, by omega, by go_num, ⟨Or.inl ⟨rfl, HNF.out, HO5.out⟩, HRO2.out⟩, HL5.out, HM5.out, HB5.out, HZ5.out⟩, by simp [intOf]; omega⟩
              · have hdim : decide (a0 ∈ missL l) = false := by simpa using him
                have HRY := Lib.hid (HRD.out uL (.slice oa2 out.length oc2) out a0 _ HFL.out HRW.out)
                have HNQ := Lib.hid (show nextB l out ⟨a0, a1, ⟨a2, a3⟩, l2⟩ = rdyB (lnkL l) out a0 by rw [HNB.out, hdin, hdim]; rfl)
                rw [← HNQ.out] at HRY
                cases hnb : nextB l out ⟨a0, a1, ⟨a2, a3⟩, l2⟩
                · have HNF := Lib.hid (HNE.out hnb HNO.out)
                  rw [hnb] at HRY
                  clear hnb
                  go_wp2_with fail
                  refine (HHT.out a0 _ out _ HRW.out).mono ?_
                  rintro e _ ⟨rfl, rfl⟩
                  simp only [hdin]
                  go_wp2_with fail
                  refine (HHT.out a0 _ (missL l) _ HRM.out).mono ?_
                  rintro e _ ⟨rfl, rfl⟩
                  simp only [hdim]
                  go_wp2_with fail
                  refine HRY.out.mono ?_
                  rintro e w6 ⟨rfl, hb⟩
                  have HB6 := Lib.hid (belS HB5.out hb)
                  have HO6 := Lib.hid (owns_below HO5.out hb (Nat.le_refl _))
                  have HL6b := Lib.hid (ownR_below HL5.out hb (Nat.le_refl _))
                  have HM6 := Lib.hid (ownR_below HM5.out hb (Nat.le_refl _))
                  have HZ6 := Lib.hid (Nat.le_trans HZ5.out hb.size)
                  clear hb
                  go_wp2_with fail
                  exact ⟨⟨k + 1, by omega, by go_num, ⟨Or.inl ⟨rfl, HNF.out, HO6.out⟩, HRO2.out⟩, HL6b.out, HM6.out, HB6.out, HZ6.out⟩, by simp [intOf]; omega⟩
                · have HNT := Lib.hid (HNY.out hnb HNO.out)
                  rw [hnb] at HRY
                  clear hnb
                  go_wp2_with fail
                  refine (HHT.out a0 _ out _ HRW.out).mono ?_
                  rintro e _ ⟨rfl, rfl⟩
                  simp only [hdin]
                  go_wp2_with fail
                  refine (HHT.out a0 _ (missL l) _ HRM.out).mono ?_
                  rintro e _ ⟨rfl, rfl⟩
                  simp only [hdim]
                  go_wp2_with fail
                  refine HRY.out.mono ?_
                  rintro e w6 ⟨rfl, hb⟩
                  have HB6 := Lib.hid (belS HB5.out hb)
                  have HO6 := Lib.hid (ownsF_str (owns_below HO5.out hb (Nat.le_refl _)))
                  have HL6b := Lib.hid (ownR_below HL5.out hb (Nat.le_refl _))
                  have HM6 := Lib.hid (ownR_below HM5.out hb (Nat.le_refl _))
                  have BX6 := Lib.hid (BX.out.below hb)
                  have HZ6 := Lib.hid (Nat.le_trans HZ5.out hb.size)
                  clear hb e0 e1 e2 e3 e4
                  have e0 := BX6.out.cell 0 (by simp)
                  have e1 := BX6.out.cell 1 (by simp)
                  have e2 := BX6.out.cell 2 (by simp)
                  have e3 := BX6.out.cell 3 (by simp)
                  have e4 := BX6.out.cell 4 (by simp)
                  simp only [List.getElem_cons_zero, List.getElem_cons_succ] at e0 e1 e2 e3 e4
                  have HCB := Lib.hid (show ∀ j, j < 1 → (w6.alloc (.cells #[.string ⟨a0.toArray⟩] 9)).cell? ⟨w6.heap.size, j, none⟩ = (cStr a0)[j]? from fun j hj => by rw [cell_of_row _ _ _ _ 9 (0, 0) (heap_alloc_new _ _)]; obtain rfl : j = 0 := (by omega); rfl)
                  have HB7 := Lib.hid (HB6.out.alloc HB6.out.size (.cells #[.string ⟨a0.toArray⟩] 9))
                  go_wp2_with (at_builtin; (refine append_flatN cStr_len cStr_one infoStrB rfl (by decide) (by decide) Tryz.underlying24 rfl _ _ rfl w.heap.size _ out a0 _ w6.heap.size (by rfl) (ownsF_alloc HO6.out _) (by rfl) HCB.out (by have := HOL.out; omega) HB7.out.size ?_; intro v7 w7 hO7 hg7 hl7; have HO7 := Lib.hid hO7; have HG7 := Lib.hid hg7; have HL7 := Lib.hid hl7; clear hO7 hg7 hl7))
                  refine ⟨⟨k + 1, by omega, by go_num, ⟨Or.inr ⟨rfl, out ++ [a0], by simp, HNT.out, owns_strF HO7.out⟩, fun q e => ?_⟩, ownR_kept2 (ownR_below HL6b.out (bx_box w6 _) (Nat.le_refl _)) HG7.out (fun g h1 h2 e => by have := HRO2.out g e; omega), ownR_kept2 (ownR_below HM6.out (bx_box w6 _) (Nat.le_refl _)) HG7.out (fun g h1 h2 e => by have := HRO2.out g e; omega), Below.grown HB7.out HG7.out HB7.out.size (fun g e => (World.ownsRow.lt HO6.out g e).1), by have h1 := HG7.out.size; have h2 := HZ6.out; simp at h1; omega⟩, by simp [intOf]; omega⟩
                  by_cases h : w1.heap.size ≤ q ∧ q < w3.heap.size
                  · exact absurd e (HL7.out q (by have h2 := HZ6.out; simp; omega) (fun e2 => by have := HRO2.out q e2; omega))
                  · omega
          · have HO5 := Lib.hid (owns_below ho HBB.out (Nat.le_refl _))
            clear ho
            have e0 := BX.out.cell 0 (by simp)
            have e1 := BX.out.cell 1 (by simp)
            have e2 := BX.out.cell 2 (by simp)
            have e3 := BX.out.cell 3 (by simp)
            have e4 := BX.out.cell 4 (by simp)
            simp only [List.getElem_cons_zero, List.getElem_cons_succ] at e0 e1 e2 e3 e4
            go_wp2_with fail
            exact ⟨⟨k + 1, by omega, by go_num, ⟨Or.inr ⟨rfl, out2, ho2, hiv2, HO5.out⟩, HRO2.out⟩, HL5.out, HM5.out, HB5.out, HZ5.out⟩, by simp [intOf]; omega⟩
        · have hkl : ¬ (k : Int) < (l.length : Int) := by omega
          rcases hst with ⟨rfl, hno, ho⟩ | ⟨rfl, out2, ho2, hiv2, ho⟩
          · have HST := Lib.hid (HIV.out.stop HR.out fun i hi => hno i hi (by omega))
            have HOq := Lib.hid ho
            obtain ⟨oa2, oc2, hov2⟩ := slice_of (ownsF_str ho)
            clear hno ho
            go_wp2_with fail
            refine ⟨⟨out, false, rfl, fun _ => HIV.out, fun h => (by cases h), fun _ => HST.out, ⟨HOq.out, HRO2.out⟩, HL2b.out, HM2b.out, HBr2.out, hzr2⟩, ?_⟩
            rw [hov2, HOV.out]
            simp only [lenV]
            omega
          · have HOq := Lib.hid ho
            obtain ⟨oa2, oc2, hov2⟩ := slice_of (ownsF_str ho)
            have h6 := hiv2.len
            clear ho
            go_wp2_with fail
            refine ⟨⟨out2, true, rfl, fun _ => hiv2, fun _ => HR.out, fun h => (by cases h), ⟨HOq.out, HRO2.out⟩, HL2b.out, HM2b.out, HBr2.out, hzr2⟩, ?_⟩
            rw [hov2, HOV.out]
            simp only [lenV]
            omega
end Go.Proofs.YteeopjcbpngofaaGreat
/- Parts of one's own: how a law makes them, keeps them beside marks, marks them. Written by gen/ch4om.py. -/
namespace Go.Proofs.YteeopjcbpngofaaGreat
set_option linter.unusedVariables false
set_option linter.unusedSimpArgs false
open Go.RowKit
/-- a row of one's own in blocks from F on, said as a reading is -/
structure OSl {α : Type} (f : α → List Value) (E k F : Nat) (w : World) (v : Value) (l : List α) : Prop where
  own : OwnsF f E k w F v l
theorem ownsF_kept {α : Type} {f : α → List Value} {E k : Nat} {w w' : World} {F : Nat} {v : Value} {l : List α} (h : OwnsF f E k w F v l) (hk : Kept F w w') : OwnsF f E k w' F v l := by
  refine ⟨h.1, ?_⟩
  rcases h.2 with h1 | ⟨g, cap, cur, rfl, h2, h3, h4⟩
  · exact Or.inl h1
  · exact Or.inr ⟨g, cap, cur, rfl, h2, (hk.block g h2 (Array.getElem?_eq_some_iff.1 h3).1).trans h3, h4⟩
theorem OSl.keep {α : Type} {f : α → List Value} {E k F m : Nat} {w w' : World} {v : Value} {l : List α} {R : Nat → World → List Value → α → Prop} (h : OSl f E k F w v l) (g : Good R m) (hk : Kept F w w') : OSl f E k F w' v l := ⟨ownsF_kept h.own hk⟩
theorem OSl.below {α : Type} {f : α → List Value} {E k F B m : Nat} {w w' : World} {v : Value} {l : List α} {R : Nat → World → List Value → α → Prop} (h : OSl f E k F w v l) (g : Good R m) (hb : Below B w w') (hB : w.heap.size ≤ B) : OSl f E k F w' v l := ⟨ownsF_below h.own hb hB⟩
theorem OSl.mono {α : Type} {f : α → List Value} {E k F F' m : Nat} {w : World} {v : Value} {l : List α} {R : Nat → World → List Value → α → Prop} (h : OSl f E k F w v l) (g : Good R m) (hF : F' ≤ F) : OSl f E k F' w v l := ⟨ownsF_base h.own hF⟩
/-- a part of one's own, in the blocks from lo on and below hi -/
def OwnP (w : World) (lo hi : Nat) (cs : List Value) (x : PartD) : Prop := ∃ v3 v5, cs = [.string ⟨x.fCore.fKind.toArray⟩, .bool x.fCore.fOn, .bool x.fCore.fBroken, v3, .int .i64 x.fCore.fCount, v5] ∧ OwnR cCell 135 2 w lo hi v3 x.fCore.fCells ∧ OwnR cLayer 137 2 w lo hi v5 x.fLayers
theorem ownP_of {w : World} {lo : Nat} {cs : List Value} {x : PartD} (h : oPart w lo cs x) : OwnP w lo w.heap.size cs x := by
  obtain ⟨v3, v5, rfl, h3, h5⟩ := h; exact ⟨v3, v5, rfl, ownR_of h3, ownR_of h5⟩
theorem ownP_below {w w' : World} {lo hi B' : Nat} {cs : List Value} {x : PartD} (h : OwnP w lo hi cs x) (hb : Below B' w w') (hB : w.heap.size ≤ B') : OwnP w' lo hi cs x := by
  obtain ⟨v3, v5, rfl, h3, h5⟩ := h; exact ⟨v3, v5, rfl, ownR_below h3 hb hB, ownR_below h5 hb hB⟩
theorem ownP_betw {w w' : World} {lo hi lo2 hi2 : Nat} {cs : List Value} {x : PartD} (h : OwnP w lo hi cs x) (hb : Betw lo2 hi2 w w') (hd : hi ≤ lo2 ∨ hi2 ≤ lo) : OwnP w' lo hi cs x := by
  obtain ⟨v3, v5, rfl, h3, h5⟩ := h; exact ⟨v3, v5, rfl, ownR_betw h3 hb hd, ownR_betw h5 hb hd⟩
theorem ownP_at {w : World} {lo hi : Nat} {cs : List Value} {x : PartD} (h : OwnP w lo hi cs x) (h1 : x.fCore.fCells.length ≤ 4194304) (h2 : x.fLayers.length ≤ 4194304) : rPart 0 w cs x := by
  obtain ⟨v3, v5, rfl, h3, h5⟩ := h
  exact ⟨v3, v5, rfl, (sliceAt_of_owns cCell_len h3.1 h1).mono (good_flat cCell_len) (Nat.zero_le _), (sliceAt_of_owns cLayer_len h5.1 h2).mono (good_flat cLayer_len) (Nat.zero_le _)⟩
/-- what marks make of a part -/
def marksP (k : Int) (x : PartD) : PartD := ⟨{ x.fCore with fCells := marksCell k x.fCore.fCells.length }, marksLayer (k + x.fCore.fCells.length * 2) x.fLayers.length⟩
def countP (x : PartD) : Int := x.fCore.fCells.length * 2 + x.fLayers.length * 2
end Go.Proofs.YteeopjcbpngofaaGreat
/- Marks of a part, and what holds them. -/
namespace Go.Proofs.YteeopjcbpngofaaGreat
set_option linter.unusedVariables false
set_option linter.unusedSimpArgs false
open Go.RowKit
theorem betw_grown {lo hi : Nat} {w w' : World} {r : Option Nat} (h : w.grownBy w' r) (hr : ∀ g, r = some g → lo ≤ g ∧ g < hi) : Betw lo hi w w' :=
  ⟨h.os, h.tape, h.output, h.size, fun k hk hd => h.block k hk (fun e => by have := hr k e.symm; omega)⟩
theorem betw_trans {lo hi : Nat} {a b c : World} (h : Betw lo hi a b) (k : Betw lo hi b c) : Betw lo hi a c :=
  ⟨k.os.trans h.os, k.tape.trans h.tape, k.output.trans h.output, Nat.le_trans h.size k.size, fun i hi hd => (k.block i (Nat.lt_of_lt_of_le hi h.size) hd).trans (h.block i hi hd)⟩
theorem betw_alloc {lo hi : Nat} (w : World) (o : Obj) : Betw lo hi w (w.alloc o) := ⟨(bx_box w o).os, (bx_box w o).tape, (bx_box w o).output, (bx_box w o).size, fun k hk _ => (bx_box w o).block k hk⟩
theorem ownR_mk {α : Type} {f : α → List Value} {E k : Nat} {w : World} {lo hi : Nat} {v : Value} {l : List α} (h : OwnsF f E k w lo v l) (h2 : ∀ g, v.ownBlock = some g → g < hi) : OwnR f E k w lo hi v l := ⟨h, h2⟩
theorem own_loP {w : World} {B : Nat} {cs : List Value} {x : PartD} (ho : oPart w B cs x) : ∃ L, L = B ∧ oPart w L cs x := ⟨B, rfl, ho⟩
theorem oPart_0 {w : World} {B : Nat} {cs : List Value} {x : PartD} (h : oPart w B cs x) (hs : SmallP x) : rPart 0 w cs x := goodPart.mono (oPart_r h hs) (Nat.zero_le _)
end Go.Proofs.YteeopjcbpngofaaGreat
/- Lists of entries of one's own: how a law makes them, keeps them, marks them. Written by gen/ch6om.py. -/
namespace Go.Proofs.YteeopjcbpngofaaGreat
set_option linter.unusedVariables false
set_option linter.unusedSimpArgs false
open Go.RowKit
theorem toStringS_o (v : Value) (x : List (List UInt8)) (w : World) (hx : SliceAt rStr 1 0 w v x) (hm : x.length + sumF List.length x ≤ 2097152) : Calls Tryz.prog 53 #[v] w fun e w' => ∃ u, e = .returned u ∧ OSl cStr 9 1 w.heap.size w' u x ∧ Below w.heap.size w w' :=
  (toStringS_f v x w (flatAt_of_slice cStr_len (by decide) hx) (by omega)).mono fun e w' ⟨h1, h2, h3⟩ => ⟨_, h1, ⟨h2⟩, h3⟩
theorem toNeedS_o (v : Value) (x : List NeedD) (w : World) (hx : SliceAt (rFlat cNeed) 4 0 w v x) (hm : x.length + sumF zNeed x ≤ 2097152) : Calls Tryz.prog 116 #[v] w fun e w' => ∃ u, e = .returned u ∧ OSl cNeed 97 4 w.heap.size w' u x ∧ Below w.heap.size w w' :=
  (toNeedS_any v x w (flatAt_of_slice cNeed_len (by decide) hx) (by omega)).mono fun e w' ⟨h1, h2, h3⟩ => ⟨_, h1, ⟨h2⟩, h3⟩
def rEntO : Nat → World → List Value → EntryD → Prop := fun F w cs x => ∃ v1 v4, cs = [.string ⟨x.fName.toArray⟩, v1, .int .i64 x.fVersion.fMajor, .int .i64 x.fVersion.fMinor, v4] ∧ OwnsF cStr 9 1 w F v1 x.fRecipe ∧ OwnsF cNeed 97 4 w F v4 x.fNeeds
theorem goodEntO : Good rEntO 5 := by
  refine ⟨?_, ?_, ?_⟩
  · rintro F w cs x ⟨v1, v4, rfl, h1, h4⟩; rfl
  · rintro F w w' cs x ⟨v1, v4, rfl, h1, h4⟩ hk; exact ⟨v1, v4, rfl, ownsF_kept h1 hk, ownsF_kept h4 hk⟩
  · rintro F F' w cs x ⟨v1, v4, rfl, h1, h4⟩ hF; exact ⟨v1, v4, rfl, ownsF_base h1 hF, ownsF_base h4 hF⟩
def GivesOE (x : EntryD) (w : World) (e : Ending) (w' : World) : Prop := ∃ cs, e = .returned (.agg cs.toArray) ∧ rEntO w.heap.size w' cs x ∧ Below w.heap.size w w'
/-- the rows at place p of n elements of k cells lie in blocks of their own -/
def ApC (k p n : Nat) (xs : List Value) : Prop := ∀ i j u v, i < n → j < n → i ≠ j → xs[i * k + p]? = some u → xs[j * k + p]? = some v → u.ownBlock = none ∨ u.ownBlock ≠ v.ownBlock
theorem apC_0 (k p : Nat) (xs : List Value) : ApC k p 0 xs := fun i j u v hi => absurd hi (Nat.not_lt_zero _)
theorem apC_snoc {k p n N : Nat} {xs ys : List Value} {u : Value} (h : ApC k p n xs) (hp : p < k) (hs : ∀ i, i < n * k → ys[i]? = xs[i]?) (hn : ys[n * k + p]? = some u)
    (ho : ∀ i v, i < n → xs[i * k + p]? = some v → ∀ g, v.ownBlock = some g → g < N) (hu : ∀ g, u.ownBlock = some g → N ≤ g) : ApC k p (n + 1) ys := by
  have hlt : ∀ i, i < n → i * k + p < n * k := fun i hi => by
    have h3 : (i + 1) * k ≤ n * k := Nat.mul_le_mul_right k hi
    rw [Nat.succ_mul] at h3; omega
  have hap : ∀ i v, i < n → xs[i * k + p]? = some v → (v.ownBlock = none ∨ v.ownBlock ≠ u.ownBlock) ∧ (u.ownBlock = none ∨ u.ownBlock ≠ v.ownBlock) := fun i v hi hv => by
    cases hvb : v.ownBlock with
    | none => exact ⟨Or.inl rfl, by cases hub : u.ownBlock with | none => exact Or.inl rfl | some g => exact Or.inr (by simp)⟩
    | some g =>
      have h1 := ho i v hi hv g hvb
      cases hub : u.ownBlock with
      | none => exact ⟨Or.inr (by simp), Or.inl rfl⟩
      | some g2 =>
        have h2 := hu g2 hub
        exact ⟨Or.inr (fun e => by injection e with e; omega), Or.inr (fun e => by injection e with e; omega)⟩
  intro i j a b hi hj hij ha hb
  by_cases h1 : i < n
  · rw [hs _ (hlt i h1)] at ha
    by_cases h2 : j < n
    · rw [hs _ (hlt j h2)] at hb
      exact h i j a b h1 h2 hij ha hb
    · obtain rfl : j = n := by omega
      rw [hn] at hb; injection hb with hb; subst hb
      exact (hap i a h1 ha).1
  · obtain rfl : i = n := by omega
    rw [hn] at ha; injection ha with ha; subst ha
    have h2 : j < i := by omega
    rw [hs _ (hlt j h2)] at hb
    exact (hap j b h2 hb).2
theorem cells_lt1 {F : Nat} {w : World} {xs : List Value} {l : List EntryD} (h : Cells rEntO 5 F w xs l) : ∀ i v, i < l.length → xs[i * 5 + 1]? = some v → ∀ g, v.ownBlock = some g → g < w.heap.size := by
  intro i v hi hv g hg
  obtain ⟨cs, ⟨v1, v4, rfl, h1, h4⟩, h2⟩ := h i hi
  have := h2 1 (by decide)
  rw [hv] at this
  simp at this; subst this
  exact (World.ownsRow.lt h1 g hg).2
theorem cells_lt4 {F : Nat} {w : World} {xs : List Value} {l : List EntryD} (h : Cells rEntO 5 F w xs l) : ∀ i v, i < l.length → xs[i * 5 + 4]? = some v → ∀ g, v.ownBlock = some g → g < w.heap.size := by
  intro i v hi hv g hg
  obtain ⟨cs, ⟨v1, v4, rfl, h1, h4⟩, h2⟩ := h i hi
  have := h2 4 (by decide)
  rw [hv] at this
  simp at this; subst this
  exact (World.ownsRow.lt h4 g hg).2
/-- an entry of one's own, its rows in the blocks from F on and below hi -/
def rEntR (hi : Nat) : Nat → World → List Value → EntryD → Prop := fun F w cs x => ∃ v1 v4, cs = [.string ⟨x.fName.toArray⟩, v1, .int .i64 x.fVersion.fMajor, .int .i64 x.fVersion.fMinor, v4] ∧ OwnR cStr 9 1 w F hi v1 x.fRecipe ∧ OwnR cNeed 97 4 w F hi v4 x.fNeeds
theorem entR_of {F : Nat} {w : World} {cs : List Value} {x : EntryD} (h : rEntO F w cs x) : rEntR w.heap.size F w cs x := by
  obtain ⟨v1, v4, rfl, h1, h4⟩ := h; exact ⟨v1, v4, rfl, ownR_of h1, ownR_of h4⟩
/-- a list of entries of one's own, all of it in the blocks from lo on and below hi -/
def OwnE (w : World) (lo hi : Nat) (v : Value) (l : List EntryD) : Prop :=
  ∃ xs, w.ownsRow lo 95 5 v l.length xs ∧ (∀ g, v.ownBlock = some g → g < hi) ∧ Cells (rEntR hi) 5 lo w xs l ∧ ApC 5 1 l.length xs ∧ ApC 5 4 l.length xs
def GivesOES (l : List EntryD) (w : World) (e : Ending) (w' : World) : Prop := ∃ v, e = .returned v ∧ OwnE w' w.heap.size w'.heap.size v l ∧ Below w.heap.size w w'
theorem own_loE {w : World} {lo hi : Nat} {v : Value} {l : List EntryD} (ho : OwnE w lo hi v l) : ∃ L, L = lo ∧ OwnE w L hi v l := ⟨lo, rfl, ho⟩
theorem ownE_below {w w' : World} {lo hi B' : Nat} {v : Value} {l : List EntryD} (h : OwnE w lo hi v l) (hb : Below B' w w') (hB : w.heap.size ≤ B') : OwnE w' lo hi v l := by
  obtain ⟨xs, h1, h2, h3, h4, h5⟩ := h
  refine ⟨xs, ownsRow_below h1 hb hB, h2, fun i hi => ?_, h4, h5⟩
  obtain ⟨cs, ⟨v1, v4, rfl, k1, k4⟩, hc⟩ := h3 i hi
  exact ⟨_, ⟨v1, v4, rfl, ownR_below k1 hb hB, ownR_below k4 hb hB⟩, hc⟩
theorem ownsRow_betw {w w' : World} {lo hi lo2 hi2 E k n : Nat} {v : Value} {xs : List Value} (h : w.ownsRow lo E k v n xs) (hg : ∀ g, v.ownBlock = some g → g < hi) (hb : Betw lo2 hi2 w w') (hd : hi ≤ lo2 ∨ hi2 ≤ lo) : w'.ownsRow lo E k v n xs := by
  refine ⟨h.1, ?_⟩
  rcases h.2 with h1 | ⟨g, cap, cur, rfl, h2, h3, h4⟩
  · exact Or.inl h1
  · have := hg g rfl
    exact Or.inr ⟨g, cap, cur, rfl, h2, (hb.block g (Array.getElem?_eq_some_iff.1 h3).1 (by omega)).trans h3, h4⟩
theorem ownE_betw {w w' : World} {lo hi lo2 hi2 : Nat} {v : Value} {l : List EntryD} (h : OwnE w lo hi v l) (hb : Betw lo2 hi2 w w') (hd : hi ≤ lo2 ∨ hi2 ≤ lo) : OwnE w' lo hi v l := by
  obtain ⟨xs, h1, h2, h3, h4, h5⟩ := h
  refine ⟨xs, ownsRow_betw h1 h2 hb hd, h2, fun i hi => ?_, h4, h5⟩
  obtain ⟨cs, ⟨v1, v4, rfl, k1, k4⟩, hc⟩ := h3 i hi
  exact ⟨_, ⟨v1, v4, rfl, ownR_betw k1 hb hd, ownR_betw k4 hb hd⟩, hc⟩
theorem ownE_at {w : World} {lo hi : Nat} {v : Value} {l : List EntryD} (h : OwnE w lo hi v l) (hm : l.length + sumF zEntry l ≤ 2097152) : SliceAt rEntry 5 0 w v l := by
  obtain ⟨xs, h1, h2, h3, h4, h5⟩ := h
  refine sliceAt_of_row (F := 0) h1 (fun i hi => ?_) (Nat.zero_le _) (by omega)
  have hz := sumF_mem zEntry l l[i] (List.getElem_mem hi)
  obtain ⟨cs, ⟨v1, v4, rfl, k1, k4⟩, hc⟩ := h3 i hi
  have hz2 : l[i].fRecipe.length + l[i].fNeeds.length ≤ zEntry l[i] := by unfold zEntry; omega
  exact ⟨_, ⟨v1, v4, rfl, (sliceAt_of_owns cStr_len k1.1 (by omega)).mono good_str (Nat.zero_le _), (sliceAt_of_owns cNeed_len k4.1 (by omega)).mono (good_flat cNeed_len) (Nat.zero_le _)⟩, hc⟩
set_option maxRecDepth 100000 in
set_option maxHeartbeats 1600000 in
theorem toEntry_o (v : Value) (x : EntryD) (w : World) (hx : ValAt rEntry 0 w v x) (hm : zEntry x ≤ 2097152) : Calls Tryz.prog 71 #[v] w fun e w' => GivesOE x w e w' := by
  obtain ⟨_, rfl, hx⟩ := hx
  obtain ⟨a0, a1, ⟨a2_0, a2_1⟩, a3⟩ := x
  obtain ⟨v1, v4, rfl, h1, h4⟩ := hx
  simp only at h1 h4
  simp only [zEntry] at hm
  have HM := Lib.hid hm
  obtain ⟨ra1, rc1, rfl, _⟩ := sliceAt_len h1
  obtain ⟨ra4, rc4, rfl, _⟩ := sliceAt_len h4
  have H1 := Lib.hid h1
  have H4 := Lib.hid h4
  clear hm h1 h4
  have HS := Lib.hid (bx_start3 w [.string ⟨a0.toArray⟩, .slice ra1 a1.length rc1, .int .i64 a2_0, .int .i64 a2_1, .slice ra4 a3.length rc4] [.string ⟨#[]⟩, .slice none 0 0, .int .i64 0, .int .i64 0, .slice none 0 0] [.string ⟨a0.toArray⟩, .slice none 0 0, .int .i64 0, .int .i64 0, .slice none 0 0] 90 95 95)
  have BA := Lib.hid HS.out.1
  have BB := Lib.hid HS.out.2.1
  have BC := Lib.hid HS.out.2.2.1
  have HB := Lib.hid HS.out.2.2.2
  clear HS
  go_enter Tryz.func71, Tryz.ntmps71
  go_wp2_with fail
  generalize ((w.alloc (.cells #[.string ⟨a0.toArray⟩, .slice ra1 a1.length rc1, .int .i64 a2_0, .int .i64 a2_1, .slice ra4 a3.length rc4] 90)).alloc (.cells #[.string ⟨#[]⟩, .slice none 0 0, .int .i64 0, .int .i64 0, .slice none 0 0] 95)).alloc (.cells #[.string ⟨a0.toArray⟩, .slice none 0 0, .int .i64 0, .int .i64 0, .slice none 0 0] 95) = X1 at *
  refine (toStringS_o _ a1 _ (H1.out.below good_str HB.out (Nat.le_refl _)) (by have := HM.out; omega)).mono ?_
  rintro e w1 ⟨u1, rfl, hr1, hb⟩
  have hX : w.heap.size + 3 ≤ X1.heap.size := by have := BC.out.lt; omega
  have R1 := Lib.hid (hr1.mono good_str hX)
  obtain ⟨p1, q1, rfl⟩ := slice_of (OSl.own hr1)
  clear hr1
  have BA := Lib.hid (BA.out.below hb)
  have BB := Lib.hid (BB.out.below hb)
  have BC := Lib.hid (BC.out.below hb)
  have HB := Lib.hid (belS (w := w) HB.out hb)
  clear hb hX
  have eA0 := BA.out.cell 0 (by simp)
  have eA1 := BA.out.cell 1 (by simp)
  have eA2 := BA.out.cell 2 (by simp)
  have eA3 := BA.out.cell 3 (by simp)
  have eA4 := BA.out.cell 4 (by simp)
  simp only [List.getElem_cons_zero, List.getElem_cons_succ, List.set_cons_zero, List.set_cons_succ] at eA0 eA1 eA2 eA3 eA4
  have eC0 := BC.out.cell 0 (by simp)
  have fC0 := BC.out.froz 0 (by simp)
  have eC1 := BC.out.cell 1 (by simp)
  have fC1 := BC.out.froz 1 (by simp)
  have eC2 := BC.out.cell 2 (by simp)
  have fC2 := BC.out.froz 2 (by simp)
  have eC3 := BC.out.cell 3 (by simp)
  have fC3 := BC.out.froz 3 (by simp)
  have eC4 := BC.out.cell 4 (by simp)
  have fC4 := BC.out.froz 4 (by simp)
  simp only [List.getElem_cons_zero, List.getElem_cons_succ, List.set_cons_zero, List.set_cons_succ] at eC0 eC1 eC2 eC3 eC4
  go_wp2_with fail
  clear eA0 eA1 eA2 eA3 eA4
  clear eC0 fC0 eC1 fC1 eC2 fC2 eC3 fC3 eC4 fC4
  have BC := Lib.hid (BC.out.set 1 (by simp) (.slice p1 a1.length q1))
  have BA := Lib.hid (BA.out.other (c := w.heap.size + 1 + 1) (by omega) 1 (.slice p1 a1.length q1))
  have BB := Lib.hid (BB.out.other (c := w.heap.size + 1 + 1) (by omega) 1 (.slice p1 a1.length q1))
  have HB := Lib.hid (HB.out.setCell (p := ⟨w.heap.size + 1 + 1, 1, none⟩) (by simp; try omega) (.slice p1 a1.length q1))
  have R1 := Lib.hid (R1.out.keep good_str ((Kept.refl _ _).setCell (p := ⟨w.heap.size + 1 + 1, 1, none⟩) (by simp) (.slice p1 a1.length q1)))
  simp only [List.set_cons_zero, List.set_cons_succ] at BC
  generalize (w1).setCell ⟨w.heap.size + 1 + 1, 1, none⟩ (.slice p1 a1.length q1) = X2 at *
  have HF2 := Lib.hid (fun w0 => toVersion_any (⟨a2_0, a2_1⟩ : VersionD) w0)
  simp only [vVersion] at HF2
  refine (HF2.out _).mono ?_
  rintro e w2 ⟨rfl, hb⟩
  have hX : w.heap.size + 3 ≤ X2.heap.size := by have := BC.out.lt; omega
  have R1 := Lib.hid (R1.out.keep good_str (kept_below hb (Nat.le_refl _)))
  have BA := Lib.hid (BA.out.below hb)
  have BB := Lib.hid (BB.out.below hb)
  have BC := Lib.hid (BC.out.below hb)
  have HB := Lib.hid (belS (w := w) HB.out hb)
  clear hb hX
  have eA0 := BA.out.cell 0 (by simp)
  have eA1 := BA.out.cell 1 (by simp)
  have eA2 := BA.out.cell 2 (by simp)
  have eA3 := BA.out.cell 3 (by simp)
  have eA4 := BA.out.cell 4 (by simp)
  simp only [List.getElem_cons_zero, List.getElem_cons_succ, List.set_cons_zero, List.set_cons_succ] at eA0 eA1 eA2 eA3 eA4
  have eC0 := BC.out.cell 0 (by simp)
  have fC0 := BC.out.froz 0 (by simp)
  have eC1 := BC.out.cell 1 (by simp)
  have fC1 := BC.out.froz 1 (by simp)
  have eC2 := BC.out.cell 2 (by simp)
  have fC2 := BC.out.froz 2 (by simp)
  have eC3 := BC.out.cell 3 (by simp)
  have fC3 := BC.out.froz 3 (by simp)
  have eC4 := BC.out.cell 4 (by simp)
  have fC4 := BC.out.froz 4 (by simp)
  simp only [List.getElem_cons_zero, List.getElem_cons_succ, List.set_cons_zero, List.set_cons_succ] at eC0 eC1 eC2 eC3 eC4
  go_wp2_with fail
  clear eA0 eA1 eA2 eA3 eA4
  clear eC0 fC0 eC1 fC1 eC2 fC2 eC3 fC3 eC4 fC4
  have BC := Lib.hid (BC.out.set 2 (by simp) (.int .i64 a2_0))
  have BA := Lib.hid (BA.out.other (c := w.heap.size + 1 + 1) (by omega) 2 (.int .i64 a2_0))
  have BB := Lib.hid (BB.out.other (c := w.heap.size + 1 + 1) (by omega) 2 (.int .i64 a2_0))
  have HB := Lib.hid (HB.out.setCell (p := ⟨w.heap.size + 1 + 1, 2, none⟩) (by simp; try omega) (.int .i64 a2_0))
  have BC := Lib.hid (BC.out.set 3 (by simp) (.int .i64 a2_1))
  have BA := Lib.hid (BA.out.other (c := w.heap.size + 1 + 1) (by omega) 3 (.int .i64 a2_1))
  have BB := Lib.hid (BB.out.other (c := w.heap.size + 1 + 1) (by omega) 3 (.int .i64 a2_1))
  have HB := Lib.hid (HB.out.setCell (p := ⟨w.heap.size + 1 + 1, 3, none⟩) (by simp; try omega) (.int .i64 a2_1))
  have R1 := Lib.hid (R1.out.keep good_str (((Kept.refl _ _).setCell (p := ⟨w.heap.size + 1 + 1, 2, none⟩) (by simp) (.int .i64 a2_0)).setCell (p := ⟨w.heap.size + 1 + 1, 3, none⟩) (by simp) (.int .i64 a2_1)))
  simp only [List.set_cons_zero, List.set_cons_succ] at BC
  generalize ((w2).setCell ⟨w.heap.size + 1 + 1, 2, none⟩ (.int .i64 a2_0)).setCell ⟨w.heap.size + 1 + 1, 3, none⟩ (.int .i64 a2_1) = X3 at *
  refine (toNeedS_o _ a3 _ (H4.out.below (good_flat cNeed_len) HB.out (Nat.le_refl _)) (by have := HM.out; omega)).mono ?_
  rintro e w3 ⟨u4, rfl, hr4, hb⟩
  have hX : w.heap.size + 3 ≤ X3.heap.size := by have := BC.out.lt; omega
  have R1 := Lib.hid (R1.out.keep good_str (kept_below hb (Nat.le_refl _)))
  have R4 := Lib.hid (hr4.mono (good_flat cNeed_len) hX)
  obtain ⟨p4, q4, rfl⟩ := slice_of (OSl.own hr4)
  clear hr4
  have BA := Lib.hid (BA.out.below hb)
  have BB := Lib.hid (BB.out.below hb)
  have BC := Lib.hid (BC.out.below hb)
  have HB := Lib.hid (belS (w := w) HB.out hb)
  clear hb hX
  have eA0 := BA.out.cell 0 (by simp)
  have eA1 := BA.out.cell 1 (by simp)
  have eA2 := BA.out.cell 2 (by simp)
  have eA3 := BA.out.cell 3 (by simp)
  have eA4 := BA.out.cell 4 (by simp)
  simp only [List.getElem_cons_zero, List.getElem_cons_succ, List.set_cons_zero, List.set_cons_succ] at eA0 eA1 eA2 eA3 eA4
  have eC0 := BC.out.cell 0 (by simp)
  have fC0 := BC.out.froz 0 (by simp)
  have eC1 := BC.out.cell 1 (by simp)
  have fC1 := BC.out.froz 1 (by simp)
  have eC2 := BC.out.cell 2 (by simp)
  have fC2 := BC.out.froz 2 (by simp)
  have eC3 := BC.out.cell 3 (by simp)
  have fC3 := BC.out.froz 3 (by simp)
  have eC4 := BC.out.cell 4 (by simp)
  have fC4 := BC.out.froz 4 (by simp)
  simp only [List.getElem_cons_zero, List.getElem_cons_succ, List.set_cons_zero, List.set_cons_succ] at eC0 eC1 eC2 eC3 eC4
  have eB0 := BB.out.cell 0 (by simp)
  have fB0 := BB.out.froz 0 (by simp)
  have eB1 := BB.out.cell 1 (by simp)
  have fB1 := BB.out.froz 1 (by simp)
  have eB2 := BB.out.cell 2 (by simp)
  have fB2 := BB.out.froz 2 (by simp)
  have eB3 := BB.out.cell 3 (by simp)
  have fB3 := BB.out.froz 3 (by simp)
  have eB4 := BB.out.cell 4 (by simp)
  have fB4 := BB.out.froz 4 (by simp)
  simp only [List.getElem_cons_zero, List.getElem_cons_succ, List.set_cons_zero, List.set_cons_succ] at eB0 eB1 eB2 eB3 eB4
  go_wp2_with fail
  clear eA0 eA1 eA2 eA3 eA4
  clear eC0 fC0 eC1 fC1 eC2 fC2 eC3 fC3 eC4 fC4
  clear eB0 fB0 eB1 fB1 eB2 fB2 eB3 fB3 eB4 fB4
  have BC := Lib.hid (BC.out.set 4 (by simp) (.slice p4 a3.length q4))
  have BA := Lib.hid (BA.out.other (c := w.heap.size + 1 + 1) (by omega) 4 (.slice p4 a3.length q4))
  have BB := Lib.hid (BB.out.other (c := w.heap.size + 1 + 1) (by omega) 4 (.slice p4 a3.length q4))
  have HB := Lib.hid (HB.out.setCell (p := ⟨w.heap.size + 1 + 1, 4, none⟩) (by simp; try omega) (.slice p4 a3.length q4))
  have R1 := Lib.hid (R1.out.keep good_str ((Kept.refl _ _).setCell (p := ⟨w.heap.size + 1 + 1, 4, none⟩) (by simp) (.slice p4 a3.length q4)))
  have R4 := Lib.hid (R4.out.keep (good_flat cNeed_len) ((Kept.refl _ _).setCell (p := ⟨w.heap.size + 1 + 1, 4, none⟩) (by simp) (.slice p4 a3.length q4)))
  simp only [List.set_cons_zero, List.set_cons_succ] at BC
  have BB := Lib.hid (BB.out.set 0 (by simp) (.string ⟨a0.toArray⟩))
  have HB := Lib.hid (HB.out.setCell (p := ⟨w.heap.size + 1, 0, none⟩) (by simp; try omega) (.string ⟨a0.toArray⟩))
  have BB := Lib.hid (BB.out.set 1 (by simp) (.slice p1 a1.length q1))
  have HB := Lib.hid (HB.out.setCell (p := ⟨w.heap.size + 1, 1, none⟩) (by simp; try omega) (.slice p1 a1.length q1))
  have BB := Lib.hid (BB.out.set 2 (by simp) (.int .i64 a2_0))
  have HB := Lib.hid (HB.out.setCell (p := ⟨w.heap.size + 1, 2, none⟩) (by simp; try omega) (.int .i64 a2_0))
  have BB := Lib.hid (BB.out.set 3 (by simp) (.int .i64 a2_1))
  have HB := Lib.hid (HB.out.setCell (p := ⟨w.heap.size + 1, 3, none⟩) (by simp; try omega) (.int .i64 a2_1))
  have BB := Lib.hid (BB.out.set 4 (by simp) (.slice p4 a3.length q4))
  have HB := Lib.hid (HB.out.setCell (p := ⟨w.heap.size + 1, 4, none⟩) (by simp; try omega) (.slice p4 a3.length q4))
  have R1 := Lib.hid ((R1.out.keep good_str ((((((Kept.refl _ _).setCell (p := ⟨w.heap.size + 1, 0, none⟩) (by simp) (.string ⟨a0.toArray⟩)).setCell (p := ⟨w.heap.size + 1, 1, none⟩) (by simp) (.slice p1 a1.length q1)).setCell (p := ⟨w.heap.size + 1, 2, none⟩) (by simp) (.int .i64 a2_0)).setCell (p := ⟨w.heap.size + 1, 3, none⟩) (by simp) (.int .i64 a2_1)).setCell (p := ⟨w.heap.size + 1, 4, none⟩) (by simp) (.slice p4 a3.length q4))).mono good_str (show w.heap.size ≤ w.heap.size + 3 by omega))
  have R4 := Lib.hid ((R4.out.keep (good_flat cNeed_len) ((((((Kept.refl _ _).setCell (p := ⟨w.heap.size + 1, 0, none⟩) (by simp) (.string ⟨a0.toArray⟩)).setCell (p := ⟨w.heap.size + 1, 1, none⟩) (by simp) (.slice p1 a1.length q1)).setCell (p := ⟨w.heap.size + 1, 2, none⟩) (by simp) (.int .i64 a2_0)).setCell (p := ⟨w.heap.size + 1, 3, none⟩) (by simp) (.int .i64 a2_1)).setCell (p := ⟨w.heap.size + 1, 4, none⟩) (by simp) (.slice p4 a3.length q4))).mono (good_flat cNeed_len) (show w.heap.size ≤ w.heap.size + 3 by omega))
  simp only [List.set_cons_zero, List.set_cons_succ] at BB
  generalize ((((((w3).setCell ⟨w.heap.size + 1 + 1, 4, none⟩ (.slice p4 a3.length q4)).setCell ⟨w.heap.size + 1, 0, none⟩ (.string ⟨a0.toArray⟩)).setCell ⟨w.heap.size + 1, 1, none⟩ (.slice p1 a1.length q1)).setCell ⟨w.heap.size + 1, 2, none⟩ (.int .i64 a2_0)).setCell ⟨w.heap.size + 1, 3, none⟩ (.int .i64 a2_1)).setCell ⟨w.heap.size + 1, 4, none⟩ (.slice p4 a3.length q4) = WE at *
  have eB0 := BB.out.cell 0 (by simp)
  have eB1 := BB.out.cell 1 (by simp)
  have eB2 := BB.out.cell 2 (by simp)
  have eB3 := BB.out.cell 3 (by simp)
  have eB4 := BB.out.cell 4 (by simp)
  simp only [List.getElem_cons_zero, List.getElem_cons_succ, List.set_cons_zero, List.set_cons_succ] at eB0 eB1 eB2 eB3 eB4
  exact bodyPost_ret (v := .agg #[.string ⟨a0.toArray⟩, .slice p1 a1.length q1, .int .i64 a2_0, .int .i64 a2_1, .slice p4 a3.length q4]) (by simp [results, Tryz.results71, go_sem, eB0, eB1, eB2, eB3, eB4]) rfl ⟨_, rfl, ⟨_, _, rfl, OSl.own R1.out, OSl.own R4.out⟩, HB.out⟩
set_option maxRecDepth 100000 in
set_option maxHeartbeats 1600000 in
theorem toEntryS_o (v : Value) (x : List EntryD) (w : World) (hx : SliceAt (rEntry) 5 0 w v x) (hm : x.length + sumF zEntry x ≤ 2097152) :
    Calls Tryz.prog 27 #[v] w fun e w' => GivesOES x w e w' := by
  obtain ⟨a, c, rfl, hl⟩ := sliceAt_len hx
  obtain ⟨i0, hi, hz0, hz1, hz2⟩ := info_parts infoDEntry
  have HX := Lib.hid hx
  have HZ := Lib.hid hm
  have hm2 : x.length ≤ 2097152 := by omega
  clear hx hm
  unfold maxLen at hl
  go_enter Tryz.func27, Tryz.ntmps27
  have hb2 : i0.bytes * x.length ≤ 281474976710656 := by rw [hz2]; omega
  have HB2 := Lib.hid hb2
  have HM := Lib.hid (show x.length ≤ maxLen from by unfold maxLen; omega)
  clear hb2
  go_wp2_with (refine wpList_make_full _ rfl (.tmp 6) (.tmp 6) 49 rfl w.heap.size 95 i0 _ 5 Tryz.underlying49 hi hz0 hz1 .i64 .i64 _ _ x.length rfl rfl rfl rfl HB2.out HM.out (Nat.le_refl _) ?_; intro w1 hown1 hgrow1)
  have HO := Lib.hid (show ∃ xs, w1.ownsRow w.heap.size 95 5 (.slice (some ⟨w.heap.size, 0, none⟩) x.length x.length) x.length xs ∧ Cells rEntO 5 (w.heap.size + 1) w1 xs (x.take 0) ∧ ApC 5 1 0 xs ∧ ApC 5 4 0 xs from ⟨_, hown1, Cells.nil _ _ _, apC_0 _ _ _, apC_0 _ _ _⟩)
  have HB := Lib.hid (show Below w.heap.size w w1 from ⟨hgrow1.os, hgrow1.tape, hgrow1.output, hgrow1.size, fun i hi => hgrow1.block i hi (by simp)⟩)
  have hsz : w.heap.size < w1.heap.size := by
    rcases hown1.2 with ⟨h, _⟩ | ⟨g, cap, cur, h, _, hg, _⟩
    · simp at h
    · injection h with h _ _; injection h with h; injection h with h _; subst h; exact (Array.getElem?_eq_some_iff.1 hg).1
  clear hown1 hgrow1 hz0 hz1 hz2 HB2 hi
  go_loopw [4] (fun i wr => ∃ k : Nat, k ≤ x.length ∧ i = .int .i64 k ∧ (∃ xs, wr.ownsRow w.heap.size 95 5 (.slice (some ⟨w.heap.size, 0, none⟩) x.length x.length) x.length xs ∧ Cells rEntO 5 (w.heap.size + 1) wr xs (x.take k) ∧ ApC 5 1 k xs ∧ ApC 5 4 k xs) ∧ Below w.heap.size w wr ∧ w.heap.size < wr.heap.size) (fun i _ => x.length - (intOf i).toNat)
  case atStart => exact ⟨0, Nat.zero_le _, rfl, HO.out, HB.out, hsz⟩
  case round =>
    obtain ⟨k, hk, rfl, ⟨xs, hown, htake, hap1, hap4⟩, hb, hszr⟩ := hrel
    have HR := Lib.hid (SliceAt.below HX.out goodEntry hb (Nat.le_refl _))
    have HBr := Lib.hid hb
    have HOw := Lib.hid hown
    have HT := Lib.hid htake
    have HXL := Lib.hid (show xs.length = x.length * 5 from hown.1)
    have HP1 := Lib.hid hap1
    have HP4 := Lib.hid hap4
    clear hb hown htake hap1 hap4
    by_cases hlt : k < x.length
    · obtain ⟨b, o, cs, rfl, hbw, hat, hd⟩ := sliceAt_cell HR.out k hlt
      have HSN := Lib.hid (show x.take (k + 1) = x.take k ++ [x[k]] from List.take_succ_eq_append_getElem hlt)
      have HLT := Lib.hid (show (x.take k).length = k by rw [List.length_take]; omega)
      have HC := Lib.hid (toEntry_o (.agg cs.toArray) x[k] wr ⟨cs, rfl, hat⟩ (by have h1 := sumF_mem zEntry x x[k] (List.getElem_mem hlt); have h2 := HZ.out; omega))
      generalize x[k] = p at *
      obtain ⟨a0, a1, ⟨a2_0, a2_1⟩, a3⟩ := p
      obtain ⟨x1, x4, rfl, hr1, hr4⟩ := hat
      have d0 := hd 0 (by decide)
      have d1 := hd 1 (by decide)
      have d2 := hd 2 (by decide)
      have d3 := hd 3 (by decide)
      have d4 := hd 4 (by decide)
      simp only [List.getElem?_cons_zero, List.getElem?_cons_succ, Nat.add_zero] at d0 d1 d2 d3 d4 HC
      clear hd
      go_wp2_with fail
      refine HC.out.mono ?_
      rintro e w2 ⟨cs, rfl, hat2, hb0⟩
      have HA := Lib.hid hat2
      have HB3 := Lib.hid (HBr.out.trans (hb0.mono HBr.out.size))
      have HO3 := Lib.hid (ownsRow_below HOw.out hb0 (Nat.le_refl _))
      have HK := Lib.hid (Cells.keep HT.out goodEntO (kept_below hb0 (Nat.le_refl _)))
      have hsz2 : w.heap.size < w2.heap.size := by have := hb0.size; omega
      obtain ⟨y1, y4, rfl, hq1, hq4⟩ := hat2
      skip
      have Lhq1 := Lib.hid (show ∀ g, _ = some g → wr.heap.size ≤ g from fun g h => (World.ownsRow.lt hq1 g h).1)
      obtain ⟨yp1, yq1, rfl⟩ := slice_of hq1
      clear hq1
      have Lhq4 := Lib.hid (show ∀ g, _ = some g → wr.heap.size ≤ g from fun g h => (World.ownsRow.lt hq4 g h).1)
      obtain ⟨yp4, yq4, rfl⟩ := slice_of hq4
      clear hq4
      clear hb0
      obtain ⟨u0, c0⟩ : ∃ u, w2.cell? ⟨w.heap.size, k * 5, none⟩ = some u := by
        rw [World.ownsRow.cellAt HO3.out (k * 5) (by omega), List.getElem?_eq_getElem (by have := HXL.out; omega)]
        exact ⟨_, rfl⟩
      have f0 := World.ownsRow.frozenAt HO3.out (k * 5)
      obtain ⟨u1, c1⟩ : ∃ u, w2.cell? ⟨w.heap.size, k * 5 + 1, none⟩ = some u := by
        rw [World.ownsRow.cellAt HO3.out (k * 5 + 1) (by omega), List.getElem?_eq_getElem (by have := HXL.out; omega)]
        exact ⟨_, rfl⟩
      have f1 := World.ownsRow.frozenAt HO3.out (k * 5 + 1)
      obtain ⟨u2, c2⟩ : ∃ u, w2.cell? ⟨w.heap.size, k * 5 + 2, none⟩ = some u := by
        rw [World.ownsRow.cellAt HO3.out (k * 5 + 2) (by omega), List.getElem?_eq_getElem (by have := HXL.out; omega)]
        exact ⟨_, rfl⟩
      have f2 := World.ownsRow.frozenAt HO3.out (k * 5 + 2)
      obtain ⟨u3, c3⟩ : ∃ u, w2.cell? ⟨w.heap.size, k * 5 + 3, none⟩ = some u := by
        rw [World.ownsRow.cellAt HO3.out (k * 5 + 3) (by omega), List.getElem?_eq_getElem (by have := HXL.out; omega)]
        exact ⟨_, rfl⟩
      have f3 := World.ownsRow.frozenAt HO3.out (k * 5 + 3)
      obtain ⟨u4, c4⟩ : ∃ u, w2.cell? ⟨w.heap.size, k * 5 + 4, none⟩ = some u := by
        rw [World.ownsRow.cellAt HO3.out (k * 5 + 4) (by omega), List.getElem?_eq_getElem (by have := HXL.out; omega)]
        exact ⟨_, rfl⟩
      have f4 := World.ownsRow.frozenAt HO3.out (k * 5 + 4)
      have HS0 := Lib.hid (World.ownsRow.stored HO3.out (k * 5) (.string ⟨a0.toArray⟩))
      have HS1 := Lib.hid (World.ownsRow.stored HS0.out.1 (k * 5 + 1) (.slice yp1 a1.length yq1))
      have HS2 := Lib.hid (World.ownsRow.stored HS1.out.1 (k * 5 + 2) (.int .i64 a2_0))
      have HS3 := Lib.hid (World.ownsRow.stored HS2.out.1 (k * 5 + 3) (.int .i64 a2_1))
      have HS4 := Lib.hid (World.ownsRow.stored HS3.out.1 (k * 5 + 4) (.slice yp4 a3.length yq4))
      have HN := Lib.hid (show Cells rEntO 5 (w.heap.size + 1) ((((((w2).setCell ⟨w.heap.size, k * 5, none⟩ (.string ⟨a0.toArray⟩)).setCell ⟨w.heap.size, k * 5 + 1, none⟩ (.slice yp1 a1.length yq1)).setCell ⟨w.heap.size, k * 5 + 2, none⟩ (.int .i64 a2_0)).setCell ⟨w.heap.size, k * 5 + 3, none⟩ (.int .i64 a2_1)).setCell ⟨w.heap.size, k * 5 + 4, none⟩ (.slice yp4 a3.length yq4)) ((((((xs).set (k * 5) (.string ⟨a0.toArray⟩)).set (k * 5 + 1) (.slice yp1 a1.length yq1)).set (k * 5 + 2) (.int .i64 a2_0)).set (k * 5 + 3) (.int .i64 a2_1)).set (k * 5 + 4) (.slice yp4 a3.length yq4)) (x.take (k + 1)) by
        rw [HSN.out]
        have hkk : Kept (w.heap.size + 1) w2 ((((((w2).setCell ⟨w.heap.size, k * 5, none⟩ (.string ⟨a0.toArray⟩)).setCell ⟨w.heap.size, k * 5 + 1, none⟩ (.slice yp1 a1.length yq1)).setCell ⟨w.heap.size, k * 5 + 2, none⟩ (.int .i64 a2_0)).setCell ⟨w.heap.size, k * 5 + 3, none⟩ (.int .i64 a2_1)).setCell ⟨w.heap.size, k * 5 + 4, none⟩ (.slice yp4 a3.length yq4)) := (((((Kept.refl _ _).setCell (by simp) _).setCell (by simp) _).setCell (by simp) _).setCell (by simp) _).setCell (by simp) _
        refine Cells.snoc (Cells.keep HK.out goodEntO hkk) ((goodEntO).keep ((goodEntO).mono HA.out (by omega)) hkk) ?_ ?_
        · intro i hi
          rw [HLT.out] at hi
          repeat rw [List.getElem?_set_ne (by omega)]
        · intro j hj
          rw [HLT.out]
          have hxl := HXL.out
          rcases (show j = 0 ∨ j = 1 ∨ j = 2 ∨ j = 3 ∨ j = 4 by omega) with rfl | rfl | rfl | rfl | rfl
          all_goals (simp [List.getElem?_set]; try omega))
      have HQ1 := Lib.hid (show ApC 5 1 (k + 1) ((((((xs).set (k * 5) (.string ⟨a0.toArray⟩)).set (k * 5 + 1) (.slice yp1 a1.length yq1)).set (k * 5 + 2) (.int .i64 a2_0)).set (k * 5 + 3) (.int .i64 a2_1)).set (k * 5 + 4) (.slice yp4 a3.length yq4)) from by
        have hxl := HXL.out
        refine apC_snoc HP1.out (by decide) (N := wr.heap.size) (u := .slice yp1 a1.length yq1) (fun i hi => by repeat rw [List.getElem?_set_ne (by omega)]) (by simp [List.getElem?_set]; try omega) (fun i v hi hv => cells_lt1 HT.out i v (by rw [HLT.out]; exact hi) hv) (Lhq1.out)
        )
      have HQ4 := Lib.hid (show ApC 5 4 (k + 1) ((((((xs).set (k * 5) (.string ⟨a0.toArray⟩)).set (k * 5 + 1) (.slice yp1 a1.length yq1)).set (k * 5 + 2) (.int .i64 a2_0)).set (k * 5 + 3) (.int .i64 a2_1)).set (k * 5 + 4) (.slice yp4 a3.length yq4)) from by
        have hxl := HXL.out
        refine apC_snoc HP4.out (by decide) (N := wr.heap.size) (u := .slice yp4 a3.length yq4) (fun i hi => by repeat rw [List.getElem?_set_ne (by omega)]) (by simp [List.getElem?_set]; try omega) (fun i v hi hv => cells_lt4 HT.out i v (by rw [HLT.out]; exact hi) hv) (Lhq4.out)
        )
      go_wp2_with fail
      refine ⟨⟨k + 1, by omega, by go_num, ⟨_, HS4.out.1, HN.out, HQ1.out, HQ4.out⟩, ?_, by simp; omega⟩, by simp [intOf]; omega⟩
      exact (((((HB3.out.setCell (by simp) _).setCell (by simp) _).setCell (by simp) _).setCell (by simp) _).setCell (by simp) _)
    · have HN := Lib.hid (show x.take k = x from List.take_of_length_le (by omega))
      have HF := Lib.hid (show OwnE wr w.heap.size wr.heap.size (.slice (some ⟨w.heap.size, 0, none⟩) x.length x.length) x from by
        have h := HT.out
        rw [HN.out] at h
        have h1 := HP1.out
        have h4 := HP4.out
        rw [show k = x.length by omega] at h1 h4
        exact ⟨_, HOw.out, fun g e => (World.ownsRow.lt HOw.out g e).2, fun i hi => by obtain ⟨cs, h1, h2⟩ := h i hi; exact ⟨cs, entR_of (goodEntO.mono h1 (by omega)), h2⟩, h1, h4⟩)
      go_wp2_with fail
      go_ret
      exact ⟨_, rfl, HF.out, HBr.out⟩
/-- an entry whose rows may be written: how long they are -/
def mEnt (lo hi : Nat) (w : World) (cs : List Value) (x : EntryD) : Prop :=
  ∃ v0 v1 v2 v3 v4, cs = [v0, v1, v2, v3, v4] ∧ (∃ t : List (List UInt8), t.length = x.fRecipe.length ∧ OwnR cStr 9 1 w lo hi v1 t) ∧ ∃ n : List NeedD, n.length = x.fNeeds.length ∧ OwnR cNeed 97 4 w lo hi v4 n
def mCells (lo hi : Nat) (w : World) (xs : List Value) (l : List EntryD) : Prop := ∀ (i : Nat) (h : i < l.length), ∃ cs, mEnt lo hi w cs l[i] ∧ ∀ j, j < 5 → xs[i * 5 + j]? = cs[j]?
def cntE (x : EntryD) : Nat := 3 + x.fRecipe.length + x.fNeeds.length * 4
theorem mEnt_below {lo hi B : Nat} {w w' : World} {cs : List Value} {x : EntryD} (h : mEnt lo hi w cs x) (hb : Below B w w') (hB : w.heap.size ≤ B) : mEnt lo hi w' cs x := by
  obtain ⟨v0, v1, v2, v3, v4, rfl, ⟨t, h1, h2⟩, n, h3, h4⟩ := h
  exact ⟨v0, v1, v2, v3, v4, rfl, ⟨t, h1, ownR_below h2 hb hB⟩, n, h3, ownR_below h4 hb hB⟩
theorem ownR_kept {α : Type} {f : α → List Value} {E k : Nat} {w w' : World} {lo hi : Nat} {v : Value} {l : List α} {r : Option Nat} (h : OwnR f E k w lo hi v l) (hg : w.grownBy w' r) (hne : v.ownBlock = none ∨ v.ownBlock ≠ r) : OwnR f E k w' lo hi v l := ⟨World.ownsRow.kept h.1 hg hne, h.2⟩
/-- one row is written: all others stand -/
theorem mCells_row1 {lo hi : Nat} {w w' : World} {xs : List Value} {l : List EntryD} (h : mCells lo hi w xs l) (ha : ApC 5 1 l.length xs) (j : Nat) (hj : j < l.length) {u : Value} (hu : xs[j * 5 + 1]? = some u) {t t' : List (List UInt8)}
    (hO : OwnsF cStr 9 1 w lo u t) (hO' : OwnsF cStr 9 1 w' lo u t') (ht : t'.length = l[j].fRecipe.length) (hg : w.grownBy w' u.ownBlock) : mCells lo hi w' xs l := by
  intro i hi2
  obtain ⟨cs, ⟨v0, v1, v2, v3, v4, rfl, ⟨t1, h1, h2⟩, n, h3, h4⟩, hc⟩ := h i hi2
  have e1 := hc 1 (by decide)
  simp at e1
  have k4 : OwnR cNeed 97 4 w' lo hi v4 n := ownR_kept h4 hg (rows_apart h4.1 hO (by decide))
  by_cases hij : i = j
  · subst hij
    rw [hu] at e1; injection e1 with e1; subst e1
    exact ⟨_, ⟨v0, u, v2, v3, v4, rfl, ⟨t', ht, hO', h2.2⟩, n, h3, k4⟩, hc⟩
  · exact ⟨_, ⟨v0, v1, v2, v3, v4, rfl, ⟨t1, h1, ownR_kept h2 hg (ha i j v1 u hi2 hj hij e1 hu)⟩, n, h3, k4⟩, hc⟩
theorem mCells_row4 {lo hi : Nat} {w w' : World} {xs : List Value} {l : List EntryD} (h : mCells lo hi w xs l) (ha : ApC 5 4 l.length xs) (j : Nat) (hj : j < l.length) {u : Value} (hu : xs[j * 5 + 4]? = some u) {t t' : List NeedD}
    (hO : OwnsF cNeed 97 4 w lo u t) (hO' : OwnsF cNeed 97 4 w' lo u t') (ht : t'.length = l[j].fNeeds.length) (hg : w.grownBy w' u.ownBlock) : mCells lo hi w' xs l := by
  intro i hi2
  obtain ⟨cs, ⟨v0, v1, v2, v3, v4, rfl, ⟨t1, h1, h2⟩, n, h3, h4⟩, hc⟩ := h i hi2
  have e4 := hc 4 (by decide)
  simp at e4
  have k1 : OwnR cStr 9 1 w' lo hi v1 t1 := ownR_kept h2 hg (rows_apart h2.1 hO (by decide))
  by_cases hij : i = j
  · subst hij
    rw [hu] at e4; injection e4 with e4; subst e4
    exact ⟨_, ⟨v0, v1, v2, v3, u, rfl, ⟨t1, h1, k1⟩, t', ht, hO', h4.2⟩, hc⟩
  · exact ⟨_, ⟨v0, v1, v2, v3, v4, rfl, ⟨t1, h1, k1⟩, n, h3, ownR_kept h4 hg (ha i j v4 u hi2 hj hij e4 hu)⟩, hc⟩
/-- a cell of the outer row is written that holds no row -/
theorem mCells_set {lo hi : Nat} {w w' : World} {xs : List Value} {l : List EntryD} (h : mCells lo hi w xs l) (hl : xs.length = l.length * 5) (j p : Nat) (hj : j < l.length) (hp : p = 0 ∨ p = 2 ∨ p = 3) (y : Value) {g : Nat} (hg : w.grownBy w' (some g))
    (hk : ∀ u : Value, ∀ t : List (List UInt8), OwnsF cStr 9 1 w lo u t → u.ownBlock = none ∨ u.ownBlock ≠ some g) (hk2 : ∀ u : Value, ∀ t : List NeedD, OwnsF cNeed 97 4 w lo u t → u.ownBlock = none ∨ u.ownBlock ≠ some g) : mCells lo hi w' (xs.set (j * 5 + p) y) l := by
  intro i hi2
  obtain ⟨cs, ⟨v0, v1, v2, v3, v4, rfl, ⟨t1, h1, h2⟩, n, h3, h4⟩, hc⟩ := h i hi2
  have k1 := ownR_kept h2 hg (hk v1 t1 h2.1)
  have k4 := ownR_kept h4 hg (hk2 v4 n h4.1)
  by_cases hij : i = j
  · subst hij
    refine ⟨([v0, v1, v2, v3, v4] : List Value).set p y, ?_, fun q hq => ?_⟩
    · rcases hp with rfl | rfl | rfl
      · exact ⟨y, v1, v2, v3, v4, rfl, ⟨t1, h1, k1⟩, n, h3, k4⟩
      · exact ⟨v0, v1, y, v3, v4, rfl, ⟨t1, h1, k1⟩, n, h3, k4⟩
      · exact ⟨v0, v1, v2, y, v4, rfl, ⟨t1, h1, k1⟩, n, h3, k4⟩
    · by_cases hqp : q = p
      · subst hqp
        rw [List.getElem?_set_self (by omega), List.getElem?_set_self (by simp; omega)]
      · rw [List.getElem?_set_ne (by omega), List.getElem?_set_ne (by omega)]
        exact hc q hq
  · refine ⟨_, ⟨v0, v1, v2, v3, v4, rfl, ⟨t1, h1, k1⟩, n, h3, k4⟩, fun q hq => ?_⟩
    rw [List.getElem?_set_ne (by omega)]
    exact hc q hq
theorem apC_set {k p n : Nat} {xs : List Value} (h : ApC k p n xs) (j q : Nat) (hq : q ≠ p) (hqk : q < k) (hpk : p < k) (y : Value) : ApC k p n (xs.set (j * k + q) y) := by
  have hne : ∀ i, j * k + q ≠ i * k + p := fun i e => by
    have h1 : (j * k + q) % k = q := by rw [Nat.mul_comm, Nat.mul_add_mod]; exact Nat.mod_eq_of_lt hqk
    have h2 : (i * k + p) % k = p := by rw [Nat.mul_comm, Nat.mul_add_mod]; exact Nat.mod_eq_of_lt hpk
    rw [e, h2] at h1; exact hq h1.symm
  intro i m u v hi hm him hu hv
  rw [List.getElem?_set_ne (hne i)] at hu
  rw [List.getElem?_set_ne (hne m)] at hv
  exact h i m u v hi hm him hu hv
theorem betw_of_below {lo hi B : Nat} {w w' : World} (h : Below B w w') (hB : w.heap.size ≤ B) : Betw lo hi w w' := ⟨h.os, h.tape, h.output, h.size, fun k hk _ => h.block k (Nat.lt_of_lt_of_le hk hB)⟩
theorem mCells_below {lo hi B : Nat} {w w' : World} {xs : List Value} {l : List EntryD} (h : mCells lo hi w xs l) (hb : Below B w w') (hB : w.heap.size ≤ B) : mCells lo hi w' xs l := fun i hi2 => by
  obtain ⟨cs, h1, h2⟩ := h i hi2
  exact ⟨cs, mEnt_below h1 hb hB, h2⟩
set_option maxRecDepth 100000 in
set_option maxHeartbeats 3200000 in
theorem markEntryS_w (lo hi : Nat) (v : Value) (x : List EntryD) (k : Int) (w : World) (h : OwnE w lo hi v x) (hm : x.length + sumF zEntry x ≤ 1048576) (h0 : 1 ≤ k) (h1 : k ≤ 1) :
    Calls Tryz.prog 31 #[v, .int .i64 k] w fun e w' => e = .returned (.int .i64 (k + (sumF cntE x : Nat))) ∧ True ∧ Betw lo hi w w' := by
  obtain ⟨xs0, hr, hv, hc, ha1, ha4⟩ := h
  have hc2 : mCells lo hi w xs0 x := fun i hi2 => by
    obtain ⟨cs, ⟨v1, v4, rfl, k1, k4⟩, hcc⟩ := hc i hi2
    exact ⟨_, ⟨_, v1, _, _, v4, rfl, ⟨_, rfl, k1⟩, _, rfl, k4⟩, hcc⟩
  have HSZ := Lib.hid hm
  have HCB := Lib.hid (fun j (hj : j ≤ x.length) => (show sumF cntE (x.take j) ≤ 3 * j + 4 * sumF zEntry (x.take j) from by
    have : ∀ l : List EntryD, sumF cntE l ≤ 3 * l.length + 4 * sumF zEntry l := fun l => by
      induction l with
      | nil => simp [sumF]
      | cons a r ih => simp only [sumF, List.length_cons, cntE, zEntry] at ih ⊢; omega
    have h2 := this (x.take j)
    rw [List.length_take] at h2; omega))
  have HCK := Lib.hid (fun j (hj : j < x.length) => sumF_take_succ cntE x j hj)
  have HZK := Lib.hid (fun j (hj : j < x.length) => sumF_take_succ zEntry x j hj)
  have HZT := Lib.hid (fun j => sumF_take_le zEntry x j)
  rcases hr.2 with ⟨rfl, hn⟩ | ⟨g, cap, cur, rfl, hg0, _⟩
  · have hx : x = [] := List.eq_nil_of_length_eq_zero hn
    subst hx
    go_enter Tryz.func31, Tryz.ntmps31
    go_wp2_with fail
    refine wp_loop_rounds 1 ?_
    rw [rounds_succ]
    go_wp2_with fail
    go_ret
    exact ⟨ret_int (by simp [sumF]), trivial, betw_grown (grownBy_refl w none) (fun g e => by cases e)⟩
  · have hgw : g < w.heap.size := (World.ownsRow.lt hr g rfl).2
    have hgh : g < hi := hv g rfl
    have HO := Lib.hid (show ∃ xs, w.ownsRow lo 95 5 (.slice (some ⟨g, 0, none⟩) x.length cap) x.length xs ∧ mCells lo hi w xs x ∧ ApC 5 1 x.length xs ∧ ApC 5 4 x.length xs from ⟨_, hr, hc2, ha1, ha4⟩)
    clear hr hv hc hc2 ha1 ha4 hm
    go_enter Tryz.func31, Tryz.ntmps31
    go_wp2_with fail
    go_loopw [1, 5] (fun kv i wr => ∃ j : Nat, j ≤ x.length ∧ i = .int .i64 j ∧ kv = .int .i64 (k + (sumF cntE (x.take j) : Nat)) ∧ (∃ xs, wr.ownsRow lo 95 5 (.slice (some ⟨g, 0, none⟩) x.length cap) x.length xs ∧ mCells lo hi wr xs x ∧ ApC 5 1 x.length xs ∧ ApC 5 4 x.length xs) ∧ Betw lo hi w wr) (fun _ i _ => x.length - (intOf i).toNat)
    case atStart => exact ⟨0, Nat.zero_le _, rfl, by simp [sumF], HO.out, betw_grown (grownBy_refl w none) (fun g e => by cases e)⟩
    case round =>
      obtain ⟨j, hj, rfl, rfl, ⟨xs, hown, hmc, hp1, hp4⟩, hbt⟩ := hrel
      have HOw := Lib.hid hown
      have HMC := Lib.hid hmc
      have HP1 := Lib.hid hp1
      have HP4 := Lib.hid hp4
      have HBT := Lib.hid hbt
      have HXL := Lib.hid (show xs.length = x.length * 5 from hown.1)
      have hcb := HCB.out j hj
      have hzt := HZT.out j
      have hsz := HSZ.out
      clear hown hmc hp1 hp4 hbt
      by_cases hlt : j < x.length
      · have HCJ := Lib.hid (HCK.out j hlt)
        have hS : sumF cntE (x.take j) ≤ 4194300 := by omega
        generalize sumF cntE (x.take j) = S at *
        have hxl : x.length ≤ 1048576 := by omega
        clear hcb hzt hsz
        obtain ⟨cs, ⟨v0, v1, v2, v3, v4, rfl, ⟨t, ht, ht2⟩, n, hn, hn2⟩, hcc⟩ := HMC.out j hlt
        have X1 := Lib.hid (hcc 1 (by decide))
        have X4 := Lib.hid (hcc 4 (by decide))
        simp only [List.getElem?_cons_zero, List.getElem?_cons_succ, Nat.add_zero] at X1 X4
        clear hcc
        obtain ⟨ra, rc, rfl⟩ := slice_of ht2.1
        obtain ⟨sa, sc, rfl⟩ := slice_of hn2.1
        have HTL := Lib.hid ht
        have HNL := Lib.hid hn
        have T2 := Lib.hid ht2
        have N2 := Lib.hid hn2
        have hrl : t.length ≤ 1048576 := by have h := HSZ.out; have h2 := sumF_mem zEntry x x[j] (List.getElem_mem hlt); have h3 : x[j].fRecipe.length ≤ zEntry x[j] := (by unfold zEntry; omega); rw [ht]; omega
        have hnl : n.length ≤ 1048576 := by have h := HSZ.out; have h2 := sumF_mem zEntry x x[j] (List.getElem_mem hlt); have h3 : x[j].fNeeds.length ≤ zEntry x[j] := (by unfold zEntry; omega); rw [hn]; omega
        clear ht hn ht2 hn2
        go_wp2_with fail
        refine (markText_any (k + S) _ (by omega) (by omega)).mono ?_
        rintro e w1 ⟨rfl, hb⟩
        have HO1 := Lib.hid (ownsRow_below HOw.out hb (Nat.le_refl _))
        have T3 := Lib.hid (ownR_below T2.out hb (Nat.le_refl _))
        have N3 := Lib.hid (ownR_below N2.out hb (Nat.le_refl _))
        have M1 := Lib.hid (mCells_below HMC.out hb (Nat.le_refl _))
        have BT1 := Lib.hid (betw_trans HBT.out (betw_of_below hb (Nat.le_refl _)))
        clear hb
        obtain ⟨u0, c0⟩ : ∃ u, w1.cell? ⟨g, j * 5, none⟩ = some u := by
          rw [World.ownsRow.cellAt HO1.out (j * 5) (by omega), List.getElem?_eq_getElem (by have := HXL.out; omega)]
          exact ⟨_, rfl⟩
        have f0 := World.ownsRow.frozenAt HO1.out (j * 5)
        have c1 : w1.cell? ⟨g, j * 5 + 1, none⟩ = some (.slice ra t.length rc) := by rw [World.ownsRow.cellAt HO1.out (j * 5 + 1) (by omega)]; exact X1.out
        have S0 := Lib.hid (World.ownsRow.stored HO1.out (j * 5) (.string ⟨(markL (k + S)).toArray⟩))
        have T4 := Lib.hid (ownR_kept T3.out S0.out.2 (rows_apart T3.out.1 HO1.out (by decide)))
        have N4 := Lib.hid (ownR_kept N3.out S0.out.2 (rows_apart N3.out.1 HO1.out (by decide)))
        have M2 := Lib.hid (show mCells lo hi _ (xs.set (j * 5) (.string ⟨(markL (k + S)).toArray⟩)) x from mCells_set M1.out HXL.out j 0 hlt (Or.inl rfl) (.string ⟨(markL (k + S)).toArray⟩) S0.out.2 (fun u t h => rows_apart h HO1.out (by decide)) (fun u t h => rows_apart h HO1.out (by decide)))
        have BT2 := Lib.hid (betw_trans BT1.out (betw_grown S0.out.2 (fun q e => by injection e with e; rw [← e]; exact ⟨(World.ownsRow.lt HO1.out g rfl).1, hgh⟩)))
        go_wp2_with fail
        generalize w1.setCell ⟨g, j * 5, none⟩ (.string ⟨(markL (k + S)).toArray⟩) = W1 at *
        clear c0 f0 c1
        refine (markStringS_f lo (.slice ra t.length rc) t (k + S + 1) _ T4.out.1 (by omega) (by omega) (by omega)).mono ?_
        rintro e w2 ⟨rfl, ho, hg⟩
        have O2 := Lib.hid (World.ownsRow.kept S0.out.1 hg (rows_apart S0.out.1 T4.out.1 (by decide)))
        have N5 := Lib.hid (ownR_kept N4.out hg (rows_apart N4.out.1 T4.out.1 (by decide)))
        have M3 := Lib.hid (mCells_row1 M2.out (apC_set HP1.out j 0 (by decide) (by decide) (by decide) _) j hlt (u := .slice ra t.length rc) (by rw [List.getElem?_set_ne (by omega)]; exact X1.out) T4.out.1 ho (by rw [marks_len]; exact HTL.out) hg)
        have BT3 := Lib.hid (betw_trans BT2.out (betw_grown hg (fun q e => ⟨(World.ownsRow.lt T4.out.1 q e).1, T4.out.2 q e⟩)))
        clear ho hg
        obtain ⟨ys, hys⟩ : ∃ ys, ys = xs.set (j * 5) (.string ⟨(markL (k + S)).toArray⟩) := ⟨_, rfl⟩
        have YL := Lib.hid (show ys.length = x.length * 5 by rw [hys, List.length_set]; exact HXL.out)
        have Y4 := Lib.hid (show ys[j * 5 + 4]? = some (.slice sa n.length sc) by rw [hys, List.getElem?_set_ne (by omega)]; exact X4.out)
        have Q1 := Lib.hid (show ApC 5 1 x.length ys by rw [hys]; exact apC_set HP1.out j 0 (by decide) (by decide) (by decide) _)
        have Q4 := Lib.hid (show ApC 5 4 x.length ys by rw [hys]; exact apC_set HP4.out j 0 (by decide) (by decide) (by decide) _)
        rw [← hys] at O2 M3
        clear hys S0 T4 N4 M2 T3 N3 M1 X1 X4
        obtain ⟨u2, c2⟩ : ∃ u, w2.cell? ⟨g, j * 5 + 2, none⟩ = some u := by
          rw [World.ownsRow.cellAt O2.out (j * 5 + 2) (by omega), List.getElem?_eq_getElem (by have := YL.out; omega)]
          exact ⟨_, rfl⟩
        have f2 := World.ownsRow.frozenAt O2.out (j * 5 + 2)
        obtain ⟨u3, c3⟩ : ∃ u, w2.cell? ⟨g, j * 5 + 3, none⟩ = some u := by
          rw [World.ownsRow.cellAt O2.out (j * 5 + 3) (by omega), List.getElem?_eq_getElem (by have := YL.out; omega)]
          exact ⟨_, rfl⟩
        have f3 := World.ownsRow.frozenAt O2.out (j * 5 + 3)
        have c4 : w2.cell? ⟨g, j * 5 + 4, none⟩ = some (.slice sa n.length sc) := by rw [World.ownsRow.cellAt O2.out (j * 5 + 4) (by omega)]; exact Y4.out
        have S2 := Lib.hid (World.ownsRow.stored O2.out (j * 5 + 2) (.int .i64 (k + S + 1 + t.length)))
        have S3 := Lib.hid (World.ownsRow.stored S2.out.1 (j * 5 + 3) (.int .i64 (k + S + 1 + t.length + 1)))
        have N6 := Lib.hid (ownR_kept N5.out S2.out.2 (rows_apart N5.out.1 O2.out (by decide)))
        have N7 := Lib.hid (ownR_kept N6.out S3.out.2 (rows_apart N6.out.1 S2.out.1 (by decide)))
        have M4 := Lib.hid (mCells_set M3.out YL.out j 2 hlt (by decide) (.int .i64 (k + S + 1 + t.length)) S2.out.2 (fun u t h => rows_apart h O2.out (by decide)) (fun u t h => rows_apart h O2.out (by decide)))
        have M5 := Lib.hid (mCells_set M4.out (by rw [List.length_set]; exact YL.out) j 3 hlt (by decide) (.int .i64 (k + S + 1 + t.length + 1)) S3.out.2 (fun u t h => rows_apart h S2.out.1 (by decide)) (fun u t h => rows_apart h S2.out.1 (by decide)))
        have BT4 := Lib.hid (betw_trans (betw_trans BT3.out (betw_grown S2.out.2 (fun q e => by injection e with e; rw [← e]; exact ⟨(World.ownsRow.lt O2.out g rfl).1, hgh⟩))) (betw_grown S3.out.2 (fun q e => by injection e with e; rw [← e]; exact ⟨(World.ownsRow.lt O2.out g rfl).1, hgh⟩)))
        go_wp2_with fail
        generalize (w2.setCell ⟨g, j * 5 + 2, none⟩ (.int .i64 (k + S + 1 + t.length))).setCell ⟨g, j * 5 + 3, none⟩ (.int .i64 (k + S + 1 + t.length + 1)) = W2 at *
        clear c2 f2 c3 f3 c4
        refine (markNeedS_any lo (.slice sa n.length sc) n (k + S + 1 + t.length + 1 + 1) _ N7.out.1 (by omega) (by omega) (by omega)).mono ?_
        rintro e w3 ⟨rfl, ho, hg⟩
        have O3 := Lib.hid (World.ownsRow.kept S3.out.1 hg (rows_apart S3.out.1 N7.out.1 (by decide)))
        have R1 := Lib.hid (apC_set (apC_set Q1.out j 2 (by decide) (by decide) (by decide) (.int .i64 (k + S + 1 + t.length))) j 3 (by decide) (by decide) (by decide) (.int .i64 (k + S + 1 + t.length + 1)))
        have R4 := Lib.hid (apC_set (apC_set Q4.out j 2 (by decide) (by decide) (by decide) (.int .i64 (k + S + 1 + t.length))) j 3 (by decide) (by decide) (by decide) (.int .i64 (k + S + 1 + t.length + 1)))
        have M6 := Lib.hid (mCells_row4 M5.out R4.out j hlt (u := .slice sa n.length sc) (by rw [List.getElem?_set_ne (by omega), List.getElem?_set_ne (by omega)]; exact Y4.out) N7.out.1 ho (by rw [marksNeed_len]; exact HNL.out) hg)
        have BT5 := Lib.hid (betw_trans BT4.out (betw_grown hg (fun q e => ⟨(World.ownsRow.lt N7.out.1 q e).1, N7.out.2 q e⟩)))
        clear ho hg
        have KV := Lib.hid (show (k + S + 1 + t.length + 1 + 1 + n.length * 4 : Int) = k + (sumF cntE (x.take (j + 1)) : Nat) by rw [HCJ.out, HTL.out, HNL.out]; unfold cntE; push_cast; omega)
        go_wp2_with fail
        exact ⟨⟨j + 1, by omega, by go_num, by rw [← KV.out], ⟨_, O3.out, M6.out, R1.out, R4.out⟩, BT5.out⟩, by simp [intOf]; omega⟩
      · have HN := Lib.hid (show x.take j = x from List.take_of_length_le (by omega))
        have hbx := HBT.out
        go_wp2_with fail
        go_ret
        exact ⟨ret_int (by rw [HN.out]), trivial, HBT.out⟩
end Go.Proofs.YteeopjcbpngofaaGreat
/- Arguments opened: structs by value, slices of structs. -/
namespace Go.Proofs.YteeopjcbpngofaaGreat
set_option linter.unusedVariables false
open Go.ChangeShapes Go.WideShapes Go.ChangeAt Go.RowKit Go.WideMaps Go.WideElems
open Go.Deep
section
variable {H : Type} {enc : TypeId × Value → H} {P : Program} {W : World}
theorem leaf_str {n : Nat} {t : TypeId} {c : Value} {x : DataW H × List MemPlace} (ht : P.underlying t = some .string) (h : DataW.trod enc P W 0 (fun _ => true) true n t [c] = some x) : ∃ l : List UInt8, c = .string ⟨l.toArray⟩ ∧ l.length ≤ maxLen := by
  obtain ⟨s, h1, _, h3⟩ := DataW.trod_string ht h
  injection h1 with h1
  exact ⟨s.data.toList, by rw [h1], by rw [Array.length_toList]; exact h3⟩
theorem leaf_int {n : Nat} {t : TypeId} {c : Value} {x : DataW H × List MemPlace} (ht : P.underlying t = some (.int .i64)) (h : DataW.trod enc P W 0 (fun _ => true) true n t [c] = some x) : ∃ z : Int, c = .int .i64 z ∧ -9223372036854775808 ≤ z ∧ z ≤ 9223372036854775807 := by
  obtain ⟨z, h1, _, h3⟩ := DataW.trod_int ht h
  injection h1 with h1
  exact ⟨z, h1, bounds_i64 h3⟩
theorem leaf_bool {n : Nat} {t : TypeId} {c : Value} {x : DataW H × List MemPlace} (ht : P.underlying t = some .bool) (h : DataW.trod enc P W 0 (fun _ => true) true n t [c] = some x) : ∃ b : Bool, c = .bool b := by
  obtain ⟨b, h1, _⟩ := DataW.trod_bool ht h
  injection h1 with h1
  exact ⟨b, h1⟩
theorem field_at {fs : Array Field} {n : Nat} {cs : List Value} {xs : List (DataW H × List MemPlace)} (hl : xs.length = fs.size)
    (hf : ∀ (i : Nat) (f : Field), fs[i]? = some f → DataW.trod enc P W 0 (fun _ => true) true n f.type ((cs.drop f.offset).take (P.cellsOf f.type)) = xs[i]?) (i : Nat) (f : Field) (h : fs[i]? = some f) :
    ∃ x, DataW.trod enc P W 0 (fun _ => true) true n f.type ((cs.drop f.offset).take (P.cellsOf f.type)) = some x := by
  have hi : i < fs.size := (Array.getElem?_eq_some_iff.1 h).1
  exact ⟨xs[i]'(by omega), by rw [hf i f h, List.getElem?_eq_getElem]⟩
theorem field_one {fs : Array Field} {n : Nat} {cs : List Value} {xs : List (DataW H × List MemPlace)} (hl : xs.length = fs.size)
    (hf : ∀ (i : Nat) (f : Field), fs[i]? = some f → DataW.trod enc P W 0 (fun _ => true) true n f.type ((cs.drop f.offset).take (P.cellsOf f.type)) = xs[i]?) (i : Nat) (f : Field) (T o : Nat) (c : Value) (r : List Value) (h : fs[i]? = some f) (hT : f.type = T) (ho : f.offset = o) (hc : P.cellsOf T = 1) (hd : cs.drop o = c :: r) :
    ∃ x, DataW.trod enc P W 0 (fun _ => true) true n T [c] = some x := by
  obtain ⟨x, hx⟩ := field_at hl hf i f h
  subst hT; subst ho
  rw [hc, hd] at hx
  exact ⟨x, hx⟩
/-- a slice of structs of texts and numbers -/
theorem open_flat {α : Type} [Inhabited α] {f : α → List Value} {k : Nat} {G : α → Prop} (hk : ∀ x, (f x).length = k) (hk0 : 0 < k) {t e : TypeId} {n : Nat} {v : Value} {x : DataW H × List MemPlace} (ht : P.underlying t = some (.slice e)) (hc : P.cellsOf e = k)
    (hel : ∀ n cs x, DataW.trod enc P W 0 (fun _ => true) true n e cs = some x → ∃ d, cs = f d ∧ G d) (h : DataW.trod enc P W 0 (fun _ => true) true n t [v] = some x) :
    ∃ l : List α, FlatAt f k W v l ∧ ∀ d ∈ l, G d := by
  rcases open_slice ht h with ⟨h0, _⟩ | ⟨a, len, cap, m, n', D, Pl, hcs, _, hl, hm, hmm, _, hx⟩
  · injection h0 with h0
    subst h0
    exact ⟨[], ⟨none, 0, rfl, by simp, Nat.zero_le _, Or.inl rfl⟩, by simp⟩
  · injection hcs with hcs
    subst hcs
    simp only [if_true] at hmm
    subst hmm
    obtain ⟨F, hF⟩ := choose_lt (α := α) (p := fun i d => (∀ j, j < k → W.cell? ((a.add (i * k)).add j) = (f d)[j]?) ∧ G d) (n := m) (fun i hi => by
      obtain ⟨cs', h1, h2⟩ := hx i hi
      obtain ⟨d, rfl, hg⟩ := hel _ _ _ h2
      rw [hc] at h1
      obtain ⟨_, _, h3⟩ := World.cells?_some h1
      exact ⟨d, h3, hg⟩)
    refine ⟨(List.range len).map F, ?_, ?_⟩
    · obtain ⟨ab, ao, spot⟩ := a
      refine ⟨some ⟨ab, ao, spot⟩, m - len, by simp; omega, by rw [flat_len f k hk, List.length_map], by simp; omega, ?_⟩
      rcases Nat.eq_zero_or_pos len with h0 | hpos
      · left; simp [h0]
      · right
        have g0 := (hF 0 (by omega)).1 0 hk0
        have hlen0 : 0 < (f (F 0)).length := by rw [hk]; exact hk0
        rw [List.getElem?_eq_getElem hlen0] at g0
        have hspot : spot = none := by
          have := World.cell?_spot g0
          simpa [Addr.add] using this
        subst hspot
        have hlt : ab < W.heap.size := by
          simp only [Addr.add_lit, Nat.zero_mul, Nat.add_zero] at g0
          exact World.block_lt_of_cell? W _ g0
        refine ⟨ab, ao, rfl, hlt, fun i hi => ?_⟩
        rw [List.length_map, List.length_range] at hi
        have hq : i / k < len := Nat.div_lt_of_lt_mul (by rw [Nat.mul_comm]; exact hi)
        have hr : i % k < k := Nat.mod_lt _ hk0
        have h1 := (hF (i / k) (by omega)).1 (i % k) hr
        rw [Addr.add_lit, Addr.add_lit] at h1
        have e1 : i / k * k + i % k = i := by rw [Nat.mul_comm]; exact Nat.div_add_mod i k
        rw [show ao + i / k * k + i % k = ao + i by omega] at h1
        rw [h1, ← e1, flat_get f k hk _ (i / k) (by simpa using hq) (i % k) hr]
        simp [e1]
    · intro d hd
      obtain ⟨i, hi, rfl⟩ := List.mem_map.1 hd
      exact (hF i (by have := List.mem_range.1 hi; omega)).2
theorem two_of {α : Type} {l : List α} (h : l.length = 2) : ∃ a b, l = [a, b] := by match l, h with | [a, b], _ => exact ⟨a, b, rfl⟩
theorem three_of {α : Type} {l : List α} (h : l.length = 3) : ∃ a b c, l = [a, b, c] := by match l, h with | [a, b, c], _ => exact ⟨a, b, c, rfl⟩
theorem four_of {α : Type} {l : List α} (h : l.length = 4) : ∃ a b c d, l = [a, b, c, d] := by match l, h with | [a, b, c, d], _ => exact ⟨a, b, c, d, rfl⟩
theorem five_of {α : Type} {l : List α} (h : l.length = 5) : ∃ a b c d e, l = [a, b, c, d, e] := by match l, h with | [a, b, c, d, e], _ => exact ⟨a, b, c, d, e, rfl⟩
end
section
variable {H : Type} {enc : TypeId × Value → H} {W : World}
end
end Go.Proofs.YteeopjcbpngofaaGreat
/- Call: what the laws' own helpers do with it. Written by gen/flat.py. -/
namespace Go.Proofs.YteeopjcbpngofaaGreat
set_option linter.unusedVariables false
open Go.RowKit
structure CallD where
  fMethod : List UInt8
  fKey : List UInt8
  fValue : Int
  fText : List UInt8
deriving DecidableEq
def okCall (d : CallD) : Prop := (d.fMethod.length ≤ maxLen) ∧ (d.fKey.length ≤ maxLen) ∧ (-9223372036854775808 ≤ d.fValue ∧ d.fValue ≤ 9223372036854775807) ∧ (d.fText.length ≤ maxLen)
def vCall (d : CallD) : Value := .agg #[.string ⟨d.fMethod.toArray⟩, .string ⟨d.fKey.toArray⟩, .int .i64 d.fValue, .string ⟨d.fText.toArray⟩]
def cCall (d : CallD) : List Value := [.string ⟨d.fMethod.toArray⟩, .string ⟨d.fKey.toArray⟩, .int .i64 d.fValue, .string ⟨d.fText.toArray⟩]
theorem cCall_len (d : CallD) : (cCall d).length = 4 := rfl
theorem cCall_one (d : CallD) : ∀ u ∈ cCall d, u.oneCell' = true := by intro u hu; simp only [cCall, List.mem_cons, List.not_mem_nil, or_false] at hu; rcases hu with rfl | rfl | rfl | rfl <;> rfl
set_option maxHeartbeats 800000 in
theorem eqCall_any (x y : CallD) (w : World) :
    Calls Tryz.prog 58 #[vCall x, vCall y] w fun e w' => e = .returned (.bool (decide (x = y))) ∧ Below w.heap.size w w' := by
  obtain ⟨a0, a1, a2, a3⟩ := x
  obtain ⟨b0, b1, b2, b3⟩ := y
  unfold vCall
  by_cases h0 : a0 = b0
  · by_cases h1 : a1 = b1
    · by_cases h2 : a2 = b2
      · by_cases h3 : a3 = b3
        · have HN := Lib.hid (show decide ((⟨a0, a1, a2, a3⟩ : CallD) = (⟨b0, b1, b2, b3⟩ : CallD)) = true by rw [h0, h1, h2, h3]; simp)
          subst h0 h1 h2 h3
          go_enter Tryz.func58, Tryz.ntmps58
          go_wp2
          go_ret
          exact ⟨ret_bool HN.out.symm, ((Below.refl _ _).alloc (Nat.le_refl _) _).alloc (by simp) _⟩
        · have HN := Lib.hid (show decide ((⟨a0, a1, a2, a3⟩ : CallD) = (⟨b0, b1, b2, b3⟩ : CallD)) = false by rw [decide_eq_false_iff_not]; exact fun e => h3 (by injection e))
          have hne3 : (a3 == b3) = false := by simpa using h3
          have hnf3 : (a3 != b3) = true := by simpa using h3
          subst h0 h1 h2
          clear h3
          go_enter Tryz.func58, Tryz.ntmps58
          go_wp2
          go_ret
          exact ⟨ret_bool HN.out.symm, ((Below.refl _ _).alloc (Nat.le_refl _) _).alloc (by simp) _⟩
      · have HN := Lib.hid (show decide ((⟨a0, a1, a2, a3⟩ : CallD) = (⟨b0, b1, b2, b3⟩ : CallD)) = false by rw [decide_eq_false_iff_not]; exact fun e => h2 (by injection e))
        have hne2 : (a2 == b2) = false := by simpa using h2
        have hnf2 : (a2 != b2) = true := by simpa using h2
        subst h0 h1
        clear h2
        go_enter Tryz.func58, Tryz.ntmps58
        go_wp2
        go_ret
        exact ⟨ret_bool HN.out.symm, ((Below.refl _ _).alloc (Nat.le_refl _) _).alloc (by simp) _⟩
    · have HN := Lib.hid (show decide ((⟨a0, a1, a2, a3⟩ : CallD) = (⟨b0, b1, b2, b3⟩ : CallD)) = false by rw [decide_eq_false_iff_not]; exact fun e => h1 (by injection e))
      have hne1 : (a1 == b1) = false := by simpa using h1
      have hnf1 : (a1 != b1) = true := by simpa using h1
      subst h0
      clear h1
      go_enter Tryz.func58, Tryz.ntmps58
      go_wp2
      go_ret
      exact ⟨ret_bool HN.out.symm, ((Below.refl _ _).alloc (Nat.le_refl _) _).alloc (by simp) _⟩
  · have HN := Lib.hid (show decide ((⟨a0, a1, a2, a3⟩ : CallD) = (⟨b0, b1, b2, b3⟩ : CallD)) = false by rw [decide_eq_false_iff_not]; exact fun e => h0 (by injection e))
    have hne0 : (a0 == b0) = false := by simpa using h0
    have hnf0 : (a0 != b0) = true := by simpa using h0
    clear h0
    go_enter Tryz.func58, Tryz.ntmps58
    go_wp2
    go_ret
    exact ⟨ret_bool HN.out.symm, ((Below.refl _ _).alloc (Nat.le_refl _) _).alloc (by simp) _⟩
set_option maxHeartbeats 800000 in
theorem toCall_any (x : CallD) (w : World) :
    Calls Tryz.prog 52 #[vCall x] w fun e w' => e = .returned (vCall x) ∧ Below w.heap.size w w' := by
  obtain ⟨a0, a1, a2, a3⟩ := x
  unfold vCall
  go_enter Tryz.func52, Tryz.ntmps52
  go_wp2
  exact bodyPost_ret (v := .agg #[.string ⟨a0.toArray⟩, .string ⟨a1.toArray⟩, .int .i64 a2, .string ⟨a3.toArray⟩]) (by simp [results, Tryz.results52, go_sem]) rfl ⟨rfl, ((((Below.refl _ _).alloc (Nat.le_refl _) _).alloc (by simp) _).alloc (by simp; try omega) _)⟩
def zCall (d : CallD) : Nat := d.fMethod.length + d.fKey.length + d.fText.length
set_option maxHeartbeats 800000 in
theorem szCall_any (x : CallD) (left : Int) (w : World) (h0 : 0 ≤ left) (h1 : left ≤ 1099511627776) (hs : okCall x) :
    Calls Tryz.prog 47 #[vCall x, .int .i64 left] w fun e w' => SzF (zCall x) left w e w' := by
  obtain ⟨a0, a1, a2, a3⟩ := x
  obtain ⟨hs0, hs1, hs2, hs3⟩ := hs
  simp only [vCall, zCall] at *
  unfold maxLen at *
  have HZ0 := Lib.hid (size_strB a0)
  have HZ1 := Lib.hid (size_strB a1)
  have HZ3 := Lib.hid (size_strB a3)
  by_cases hn0 : left - (a0.length : Int) < 0
  · go_enter Tryz.func47, Tryz.ntmps47
    go_wp2
    go_ret
    exact ⟨-1, rfl, by omega, by omega, (Below.refl _ _).alloc (Nat.le_refl _) _⟩
  · by_cases hn1 : left - (a0.length : Int) - (a1.length : Int) < 0
    · go_enter Tryz.func47, Tryz.ntmps47
      go_wp2
      go_ret
      exact ⟨-1, rfl, by omega, by omega, (Below.refl _ _).alloc (Nat.le_refl _) _⟩
    · by_cases hn2 : left - (a0.length : Int) - (a1.length : Int) - (a3.length : Int) < 0
      · go_enter Tryz.func47, Tryz.ntmps47
        go_wp2
        go_ret
        exact ⟨-1, rfl, by omega, by omega, (Below.refl _ _).alloc (Nat.le_refl _) _⟩
      · go_enter Tryz.func47, Tryz.ntmps47
        go_wp2
        go_ret
        exact ⟨_, rfl, by omega, by push_cast; omega, (Below.refl _ _).alloc (Nat.le_refl _) _⟩
theorem infoCall : (Tryz.prog.info? 29).map (fun i => (i.zero, i.size, i.bytes)) = some (some (.agg #[.string ⟨#[]⟩, .string ⟨#[]⟩, .int .i64 0, .string ⟨#[]⟩]), 4, 56) := by kernel_rfl
def marksCall (k : Int) (n : Nat) : List CallD := (List.range n).map fun i : Nat => ⟨markL (k + i * 4), markL (k + i * 4 + 1), k + i * 4 + 1 + 1, markL (k + i * 4 + 1 + 1 + 1)⟩
theorem marksCall_len (k : Int) (n : Nat) : (marksCall k n).length = n := by simp [marksCall]
theorem marksCall_get (k : Int) (n i : Nat) (h : i < n) : (marksCall k n)[i]'(by rw [marksCall_len]; exact h) = ⟨markL (k + i * 4), markL (k + i * 4 + 1), k + i * 4 + 1 + 1, markL (k + i * 4 + 1 + 1 + 1)⟩ := by simp [marksCall]
end Go.Proofs.YteeopjcbpngofaaGreat
/- Arguments opened: flat structs. Written by gen/openflat.py. -/
namespace Go.Proofs.YteeopjcbpngofaaGreat
set_option linter.unusedVariables false
open Go.ChangeShapes Go.WideShapes Go.ChangeAt Go.RowKit Go.WideMaps Go.WideElems
open Go.Deep
section
variable {H : Type} {enc : TypeId × Value → H} {W : World}
end
end Go.Proofs.YteeopjcbpngofaaGreat
/- Arguments opened: flat structs. Written by gen/openflat.py. -/
namespace Go.Proofs.YteeopjcbpngofaaGreat
set_option linter.unusedVariables false
open Go.ChangeShapes Go.WideShapes Go.ChangeAt Go.RowKit Go.WideMaps Go.WideElems
open Go.Deep
section
variable {H : Type} {enc : TypeId × Value → H} {W : World}
set_option maxRecDepth 100000 in
theorem open_Call {n : Nat} {cs : List Value} {x : DataW H × List MemPlace} (h : DataW.trod enc Tryz.prog W 0 (fun _ => true) true n 23 cs = some x) : ∃ d : CallD, cs = cCall d ∧ okCall d := by
  obtain ⟨xs, m, rfl, _, hl, hn, hf⟩ := DataW.trod_struct Tryz.underlying23 h
  rw [show Tryz.prog.cellsOf 23 = 4 by kernel_rfl] at hl
  obtain ⟨c0, c1, c2, c3, rfl⟩ := four_of hl
  obtain ⟨y0, k0⟩ := field_one hn hf 0 _ 9 0 _ _ rfl rfl rfl (by kernel_rfl) rfl
  obtain ⟨y1, k1⟩ := field_one hn hf 1 _ 9 1 _ _ rfl rfl rfl (by kernel_rfl) rfl
  obtain ⟨y2, k2⟩ := field_one hn hf 2 _ 3 2 _ _ rfl rfl rfl (by kernel_rfl) rfl
  obtain ⟨y3, k3⟩ := field_one hn hf 3 _ 9 3 _ _ rfl rfl rfl (by kernel_rfl) rfl
  obtain ⟨l0, rfl, b0⟩ := leaf_str Tryz.underlying9 k0
  obtain ⟨l1, rfl, b1⟩ := leaf_str Tryz.underlying9 k1
  obtain ⟨l2, rfl, b2⟩ := leaf_int Tryz.underlying3 k2
  obtain ⟨l3, rfl, b3⟩ := leaf_str Tryz.underlying9 k3
  exact ⟨⟨l0, l1, l2, l3⟩, rfl, b0, b1, b2, b3⟩
set_option maxRecDepth 100000 in
theorem arg_Call {base : Nat} {v : Value} {d : DataW H} {p : List MemPlace} (hval : Value.okWide Tryz.prog W .any base 23 v) (h : DataW.Trod enc Tryz.prog W 0 (fun _ => true) true 23 v d p) : ∃ d : CallD, v = vCall d ∧ okCall d := by
  obtain ⟨cs, rfl, _⟩ := okWide_struct Tryz.underlying23 hval
  obtain ⟨fuel, hf⟩ := h
  obtain ⟨d, h1, h2⟩ := open_Call hf
  refine ⟨d, ?_, h2⟩
  simp only [Value.cells] at h1
  unfold vCall
  congr 1
  exact Array.toList_inj.1 h1
set_option maxRecDepth 100000 in
theorem open_Version {n : Nat} {cs : List Value} {x : DataW H × List MemPlace} (h : DataW.trod enc Tryz.prog W 0 (fun _ => true) true n 87 cs = some x) : ∃ d : VersionD, cs = cVersion d ∧ okVersion d := by
  obtain ⟨xs, m, rfl, _, hl, hn, hf⟩ := DataW.trod_struct Tryz.underlying87 h
  rw [show Tryz.prog.cellsOf 87 = 2 by kernel_rfl] at hl
  obtain ⟨c0, c1, rfl⟩ := two_of hl
  obtain ⟨y0, k0⟩ := field_one hn hf 0 _ 3 0 _ _ rfl rfl rfl (by kernel_rfl) rfl
  obtain ⟨y1, k1⟩ := field_one hn hf 1 _ 3 1 _ _ rfl rfl rfl (by kernel_rfl) rfl
  obtain ⟨l0, rfl, b0⟩ := leaf_int Tryz.underlying3 k0
  obtain ⟨l1, rfl, b1⟩ := leaf_int Tryz.underlying3 k1
  exact ⟨⟨l0, l1⟩, rfl, b0, b1⟩
set_option maxRecDepth 100000 in
theorem arg_Version {base : Nat} {v : Value} {d : DataW H} {p : List MemPlace} (hval : Value.okWide Tryz.prog W .any base 87 v) (h : DataW.Trod enc Tryz.prog W 0 (fun _ => true) true 87 v d p) : ∃ d : VersionD, v = vVersion d ∧ okVersion d := by
  obtain ⟨cs, rfl, _⟩ := okWide_struct Tryz.underlying87 hval
  obtain ⟨fuel, hf⟩ := h
  obtain ⟨d, h1, h2⟩ := open_Version hf
  refine ⟨d, ?_, h2⟩
  simp only [Value.cells] at h1
  unfold vVersion
  congr 1
  exact Array.toList_inj.1 h1
end
end Go.Proofs.YteeopjcbpngofaaGreat
/- Arguments opened: needs. -/
namespace Go.Proofs.YteeopjcbpngofaaGreat
set_option linter.unusedVariables false
open Go.ChangeShapes Go.WideShapes Go.ChangeAt Go.RowKit Go.WideMaps Go.WideElems
open Go.Deep
section
variable {H : Type} {enc : TypeId × Value → H} {W : World}
set_option maxRecDepth 100000 in
theorem open_Need {n : Nat} {cs : List Value} {x : DataW H × List MemPlace} (h : DataW.trod enc Tryz.prog W 0 (fun _ => true) true n 178 cs = some x) : ∃ d : NeedD, cs = cNeed d ∧ okNeed d := by
  obtain ⟨xs, m, rfl, _, hl, hn, hf⟩ := DataW.trod_struct Tryz.underlying178 h
  rw [show Tryz.prog.cellsOf 178 = 4 by kernel_rfl] at hl
  obtain ⟨c0, c1, c2, c3, rfl⟩ := four_of hl
  obtain ⟨y0, k0⟩ := field_one hn hf 0 _ 3 0 _ _ rfl rfl rfl (by kernel_rfl) rfl
  obtain ⟨y1, k1⟩ := field_one hn hf 1 _ 9 1 _ _ rfl rfl rfl (by kernel_rfl) rfl
  obtain ⟨y2, k2⟩ := field_at hn hf 2 _ rfl
  have k2 : DataW.trod enc Tryz.prog W 0 (fun _ => true) true m 87 [c2, c3] = some y2 := by
    have e : Tryz.prog.cellsOf 87 = 2 := by kernel_rfl
    simpa [e] using k2
  obtain ⟨l0, rfl, b0⟩ := leaf_int Tryz.underlying3 k0
  obtain ⟨l1, rfl, b1⟩ := leaf_str Tryz.underlying9 k1
  obtain ⟨⟨v0, v1⟩, e2, b2, b3⟩ := open_Version k2
  simp only [cVersion] at e2
  injection e2 with e2 e3
  injection e3 with e3 _
  subst e2 e3
  exact ⟨⟨l0, l1, v0, v1⟩, rfl, b0, b1, b2, b3⟩
set_option maxRecDepth 100000 in
theorem arg_Need {base : Nat} {v : Value} {d : DataW H} {p : List MemPlace} (hval : Value.okWide Tryz.prog W .any base 178 v) (h : DataW.Trod enc Tryz.prog W 0 (fun _ => true) true 178 v d p) : ∃ d : NeedD, v = vNeed d ∧ okNeed d := by
  obtain ⟨cs, rfl, _⟩ := okWide_struct Tryz.underlying178 hval
  obtain ⟨fuel, hf⟩ := h
  obtain ⟨d, h1, h2⟩ := open_Need hf
  refine ⟨d, ?_, h2⟩
  simp only [Value.cells] at h1
  unfold vNeed
  congr 1
  exact Array.toList_inj.1 h1
end
end Go.Proofs.YteeopjcbpngofaaGreat
/- Arguments opened: slices of needs. -/
namespace Go.Proofs.YteeopjcbpngofaaGreat
set_option linter.unusedVariables false
open Go.ChangeShapes Go.WideShapes Go.ChangeAt Go.RowKit Go.WideMaps Go.WideElems
open Go.Deep
section
variable {H : Type} {enc : TypeId × Value → H} {W : World}
set_option maxRecDepth 100000 in
theorem openS_Need {n : Nat} {v : Value} {x : DataW H × List MemPlace} (h : DataW.trod enc Tryz.prog W 0 (fun _ => true) true n 88 [v] = some x) : ∃ l : List NeedD, FlatAt cNeed 4 W v l ∧ ∀ d ∈ l, okNeed d :=
  haveI : Inhabited NeedD := ⟨⟨0, [], 0, 0⟩⟩
  open_flat cNeed_len (by decide) Tryz.underlying88 (by kernel_rfl) (fun _ _ _ h => open_Need h) h
end
end Go.Proofs.YteeopjcbpngofaaGreat
/- Arguments opened: slices of structs that hold rows themselves. -/
namespace Go.Proofs.YteeopjcbpngofaaGreat
set_option linter.unusedVariables false
open Go.ChangeShapes Go.WideShapes Go.ChangeAt Go.RowKit Go.WideMaps Go.WideElems
open Go.Deep
section
variable {H : Type} {enc : TypeId × Value → H} {P : Program} {W : World}
theorem open_deep {α : Type} [Inhabited α] {R : Nat → World → List Value → α → Prop} {k : Nat} {G : α → Prop} (hg : Good R k) (hk0 : 0 < k) {t e : TypeId} {n : Nat} {v : Value} {x : DataW H × List MemPlace} (ht : P.underlying t = some (.slice e)) (hc : P.cellsOf e = k)
    (hel : ∀ n cs x, DataW.trod enc P W 0 (fun _ => true) true n e cs = some x → ∃ d, R 0 W cs d ∧ G d) (h : DataW.trod enc P W 0 (fun _ => true) true n t [v] = some x) :
    ∃ l : List α, SliceAt R k 0 W v l ∧ ∀ d ∈ l, G d := by
  rcases open_slice ht h with ⟨h0, _⟩ | ⟨a, len, cap, m, n', D, Pl, hcs, _, hl, hm, hmm, _, hx⟩
  · injection h0 with h0
    subst h0
    exact ⟨[], sliceAt_nil _ _, by simp⟩
  · injection hcs with hcs
    subst hcs
    simp only [if_true] at hmm
    subst hmm
    obtain ⟨F, hF⟩ := choose_lt (α := α) (p := fun i d => (∃ cs, R 0 W cs d ∧ ∀ j, j < k → W.cell? ((a.add (i * k)).add j) = cs[j]?) ∧ G d) (n := m) (fun i hi => by
      obtain ⟨cs', h1, h2⟩ := hx i hi
      obtain ⟨d, hr, hg2⟩ := hel _ _ _ h2
      rw [hc] at h1
      obtain ⟨_, _, h3⟩ := World.cells?_some h1
      exact ⟨d, ⟨cs', hr, h3⟩, hg2⟩)
    refine ⟨(List.range len).map F, ?_, ?_⟩
    · obtain ⟨ab, ao, spot⟩ := a
      refine ⟨some ⟨ab, ao, spot⟩, m - len, by simp; omega, by simp; omega, ?_⟩
      rcases Nat.eq_zero_or_pos len with h0 | hpos
      · left; simp [h0]
      · right
        obtain ⟨cs0, r0, g0⟩ := (hF 0 (by omega)).1
        have g0 := g0 0 hk0
        have hlen0 : 0 < cs0.length := by rw [hg.len r0]; exact hk0
        rw [List.getElem?_eq_getElem hlen0] at g0
        have hspot : spot = none := by
          have := World.cell?_spot g0
          simpa [Addr.add] using this
        subst hspot
        have hlt : ab < W.heap.size := by
          simp only [Addr.add_lit, Nat.zero_mul, Nat.add_zero] at g0
          exact World.block_lt_of_cell? W _ g0
        refine ⟨ab, ao, rfl, Nat.zero_le _, hlt, fun i hi => ?_⟩
        have hi2 : i < len := by simpa using hi
        obtain ⟨cs, r1, g1⟩ := (hF i (by omega)).1
        refine ⟨cs, by simpa using r1, fun j hj => ?_⟩
        have h2 := g1 j hj
        rw [Addr.add_lit, Addr.add_lit] at h2
        exact h2
    · intro d hd
      obtain ⟨i, hi, rfl⟩ := List.mem_map.1 hd
      exact (hF i (by have := List.mem_range.1 hi; omega)).2
end
end Go.Proofs.YteeopjcbpngofaaGreat
namespace Go.Proofs.YteeopjcbpngofaaGreat
set_option linter.unusedVariables false
open Go.ChangeShapes Go.WideShapes Go.ChangeAt Go.RowKit Go.WideMaps Go.WideElems
open Go.Deep
theorem belEntry {w w' : World} {cs : List Value} {x : EntryD} {F B : Nat} (h : rEntry F w cs x) (hb : Below B w w') (hB : w.heap.size ≤ B) : rEntry F w' cs x := goodEntry.keep h (kept_below hb hB)
theorem belEntryS {w w' : World} {v : Value} {l : List EntryD} {F B : Nat} (h : SliceAt rEntry 5 F w v l) (hb : Below B w w') (hB : w.heap.size ≤ B) : SliceAt rEntry 5 F w' v l := h.below goodEntry hb hB
theorem zeroEntryS {w : World} {v : Value} {l : List EntryD} {F : Nat} (h : SliceAt rEntry 5 F w v l) : SliceAt rEntry 5 0 w v l := h.mono goodEntry (Nat.zero_le _)
section
variable {H : Type} {enc : TypeId × Value → H} {W : World}
theorem openS_Str {n : Nat} {v : Value} {x : DataW H × List MemPlace} (h : DataW.trod enc Tryz.prog W 0 (fun _ => true) true n 24 [v] = some x) : ∃ l : List (List UInt8), FlatAt cStr 1 W v l ∧ ∀ s ∈ l, s.length ≤ maxLen :=
  open_flat cStr_len (by decide) Tryz.underlying24 (by kernel_rfl) (fun n cs x h => by
    have h2 := h
    obtain ⟨s, h1, _, h3⟩ := DataW.trod_string Tryz.underlying9 h2
    exact ⟨s.data.toList, by rw [h1]; simp [cStr, strV], by rw [Array.length_toList]; exact h3⟩) h
set_option maxRecDepth 100000 in
theorem openR_Entry {n : Nat} {cs : List Value} {x : DataW H × List MemPlace} (h : DataW.trod enc Tryz.prog W 0 (fun _ => true) true n 90 cs = some x) : ∃ d : EntryD, rEntry 0 W cs d ∧ okEntry d := by
  obtain ⟨xs, m, rfl, _, hl, hn, hf⟩ := DataW.trod_struct Tryz.underlying90 h
  rw [show Tryz.prog.cellsOf 90 = 5 by kernel_rfl] at hl
  obtain ⟨c0, c1, c2, c3, c4, rfl⟩ := five_of hl
  obtain ⟨y0, k0⟩ := field_one hn hf 0 _ 9 0 _ _ rfl rfl rfl (by kernel_rfl) rfl
  obtain ⟨y1, k1⟩ := field_one hn hf 1 _ 24 1 _ _ rfl rfl rfl (by kernel_rfl) rfl
  obtain ⟨y2, k2⟩ := field_at hn hf 2 _ rfl
  have k2 : DataW.trod enc Tryz.prog W 0 (fun _ => true) true m 87 [c2, c3] = some y2 := by
    have e : Tryz.prog.cellsOf 87 = 2 := by kernel_rfl
    simpa [e] using k2
  obtain ⟨y3, k3⟩ := field_one hn hf 3 _ 88 4 _ _ rfl rfl rfl (by kernel_rfl) rfl
  obtain ⟨l0, rfl, b0⟩ := leaf_str Tryz.underlying9 k0
  obtain ⟨l1, b1, g1⟩ := openS_Str k1
  obtain ⟨⟨v0, v1⟩, e2, b2, b3⟩ := open_Version k2
  obtain ⟨l4, b4, g4⟩ := openS_Need k3
  simp only [cVersion] at e2
  injection e2 with e2 e3
  injection e3 with e3 _
  subst e2 e3
  exact ⟨⟨l0, l1, ⟨v0, v1⟩, l4⟩, ⟨c1, c4, rfl, sliceAt_of_flat cStr_len b1, sliceAt_of_flat cNeed_len b4⟩, b0, g1, ⟨b2, b3⟩, g4⟩
set_option maxRecDepth 100000 in
theorem argS_Entry {base : Nat} {v : Value} {d : DataW H} {p : List MemPlace} (hval : Value.okWide Tryz.prog W .any base 45 v) (h : DataW.Trod enc Tryz.prog W 0 (fun _ => true) true 45 v d p) : ∃ l : List EntryD, SliceAt rEntry 5 0 W v l ∧ ∀ d ∈ l, okEntry d := by
  obtain ⟨a1, len, cap, rfl⟩ := okWide_slice Tryz.underlying45 hval
  obtain ⟨fuel, hf⟩ := h
  haveI : Inhabited EntryD := ⟨⟨[], [], ⟨0, 0⟩, []⟩⟩
  exact open_deep goodEntry (by decide) Tryz.underlying45 (by kernel_rfl) (fun _ _ _ h => openR_Entry h) hf
set_option maxRecDepth 100000 in
theorem arg_Entry {base : Nat} {v : Value} {d : DataW H} {p : List MemPlace} (hval : Value.okWide Tryz.prog W .any base 90 v) (h : DataW.Trod enc Tryz.prog W 0 (fun _ => true) true 90 v d p) : ∃ d : EntryD, ValAt rEntry 0 W v d ∧ okEntry d := by
  obtain ⟨cs, rfl, _⟩ := okWide_struct Tryz.underlying90 hval
  obtain ⟨fuel, hf⟩ := h
  obtain ⟨d, h1, h2⟩ := openR_Entry hf
  exact ⟨d, ⟨cs.toList, by simp, h1⟩, h2⟩
end
end Go.Proofs.YteeopjcbpngofaaGreat
