/- FnPartWants: a call of a part fails its assertion exactly if the part does not offer what it wants, and changes nothing then, at every code that is drawn from. No condition. -/
import Derived.Test.YtcpbikilgacdlaaGreatPartWantsFnM0
import Derived.Test.YtcpbikilgacdlaaGreatPartWantsFnM3
import Derived.Recover
import Derived.Defers
import Derived.StillTailTactics
import Derived.Test.YtcpbikilgacdlaaGreatPartWantsFnM1
import Derived.Shelf.Spec.SlicesInsert
import Derived.Lib.Overlaps
import Derived.Laws.CopyRow
import Derived.Lib.AppendZerosOnto
import Derived.Laws.NewBlocks
import Derived.Test.YtcpbikilgacdlaaGreatPartWantsFnM2
namespace Go.Proofs.YtcpbikilgacdlaaGreat
set_option linter.unusedVariables false
open Go.RowKit
def GivesCells (s : List UInt8) (w : World) (e : Ending) (w' : World) : Prop := ∃ v, e = .returned (.tuple #[v, .bool (prsB s)]) ∧ OwnsF cCell 139 2 w' w.heap.size v (prsC s) ∧ Below w.heap.size w w'
theorem rdCs_len (s : List UInt8) : (rdCs s).length ≤ s.length + 1 := by
  unfold rdCs
  split
  · simp
  · have := splitL_len s [44]; simpa using this
theorem rdCs_key (s : List UInt8) : ∀ d ∈ rdCs s, d.fKey.length ≤ s.length := by
  intro d hd
  unfold rdCs at hd
  split at hd
  · simp at hd
  · obtain ⟨p, hp, rfl⟩ := List.mem_map.1 hd
    have h1 := split_part s 44 p hp
    have h2 := (cut_len p [61]).1
    unfold rdC; simp only; omega
theorem ret_pairV {v : Value} {c d : Bool} (h : c = d) : Ending.returned (.tuple #[v, .bool c]) = .returned (.tuple #[v, .bool d]) := by rw [h]
set_option maxRecDepth 100000 in
set_option maxHeartbeats 1600000 in
theorem implParseCells_any (s : ByteArray) (m : Int) (w : World) (hm : w.cell? ⟨0, 0, none⟩ = some (.int .i64 m)) (hs : s.size ≤ 1048576) :
    Calls Tryz.prog 210 #[.string s] w fun e w' => GivesCells s.data.toList w e w' := by
  have HR := Lib.hid (implReadCells_any s m w hm hs)
  have HLN := Lib.hid (show (rdCs s.data.toList).length ≤ 1048577 by have := rdCs_len s.data.toList; rw [size_list] at this; omega)
  have HK := Lib.hid (show ∀ d ∈ rdCs s.data.toList, d.fKey.length ≤ maxLen from fun d hd => by have := rdCs_key _ d hd; rw [size_list] at this; unfold maxLen; omega)
  have HP := Lib.hid (show prsB s.data.toList = (cellsB (rdCs s.data.toList) && decide (fmtC (rdCs s.data.toList) = s.data.toList)) from rfl)
  have HY := Lib.hid (@prsC_yes s.data.toList)
  have HN := Lib.hid (@prsC_no s.data.toList)
  unfold GivesCells
  generalize prsC s.data.toList = z at *
  generalize prsB s.data.toList = y at *
  generalize rdCs s.data.toList = l at *
  clear hm
  cases hc : cellsB l with
  | false =>
    have HYF := Lib.hid (show y = false by rw [HP.out, hc]; rfl)
    have HZ := Lib.hid (HN.out HYF.out)
    go_enter Tryz.func210, Tryz.ntmps210
    go_wp2_with fail
    refine HR.out.mono ?_
    rintro e w1 ⟨u, rfl, ho, hb⟩
    have HB := Lib.hid hb
    have HIC := Lib.hid (implIsCells_any u l w1 (ownsF_at ho (by have := HLN.out; omega)) HK.out)
    rw [hc] at HIC
    clear ho hb hc
    go_wp2_with fail
    refine HIC.out.mono ?_
    rintro e w2 ⟨rfl, hb⟩
    have HB2 := Lib.hid (HB.out.trans (hb.mono HB.out.size))
    clear hb
    go_wp2_with fail
    go_ret2
    exact ⟨_, ret_pairV HYF.out.symm, by rw [HZ.out]; exact ownsF_base (ownsF_new cCell 139 2 w2) HB2.out.size, HB2.out.alloc HB2.out.size _⟩
  | true =>
    cases hf : decide (fmtC l = s.data.toList) with
    | false =>
      have HYF := Lib.hid (show y = false by rw [HP.out, hc, hf]; rfl)
      have HZ := Lib.hid (HN.out HYF.out)
      have hne : (fmtC l == s.toList) = false := by rw [Lib.toList_data]; simpa using hf
      have hne2 : (fmtC l != s.toList) = true := by rw [bne, hne]; rfl
      clear hf
      go_enter Tryz.func210, Tryz.ntmps210
      go_wp2_with fail
      refine HR.out.mono ?_
      rintro e w1 ⟨u, rfl, ho, hb⟩
      have HB := Lib.hid hb
      have HU := Lib.hid (ownsF_at ho (by have := HLN.out; omega))
      have HIC := Lib.hid (implIsCells_any u l w1 HU.out HK.out)
      rw [hc] at HIC
      clear ho hb hc
      go_wp2_with fail
      refine HIC.out.mono ?_
      rintro e w2 ⟨rfl, hb⟩
      have HB2 := Lib.hid (HB.out.trans (hb.mono HB.out.size))
      have HFC := Lib.hid (implFormatCells_any u l w2 (HU.out.below hb (Nat.le_refl _)) HK.out)
      clear hb
      go_wp2_with fail
      refine HFC.out.mono ?_
      rintro e w3 ⟨rfl, hb⟩
      have HB3 := Lib.hid (HB2.out.trans (hb.mono HB2.out.size))
      clear hb
      go_wp2_with fail
      go_ret2
      exact ⟨_, ret_pairV HYF.out.symm, by rw [HZ.out]; exact ownsF_base (ownsF_new cCell 139 2 w3) HB3.out.size, HB3.out.alloc HB3.out.size _⟩
    | true =>
      have HYF := Lib.hid (show y = true by rw [HP.out, hc, hf]; rfl)
      have HZ := Lib.hid (HY.out HYF.out)
      have hne : (fmtC l == s.toList) = true := by rw [Lib.toList_data]; simpa using hf
      have hne2 : (fmtC l != s.toList) = false := by rw [bne, hne]; rfl
      clear hf
      go_enter Tryz.func210, Tryz.ntmps210
      go_wp2_with fail
      refine HR.out.mono ?_
      rintro e w1 ⟨u, rfl, ho, hb⟩
      have HB := Lib.hid hb
      have HO := Lib.hid ho
      have HU := Lib.hid (ownsF_at ho (by have := HLN.out; omega))
      have HIC := Lib.hid (implIsCells_any u l w1 HU.out HK.out)
      rw [hc] at HIC
      clear ho hb hc
      go_wp2_with fail
      refine HIC.out.mono ?_
      rintro e w2 ⟨rfl, hb⟩
      have HB2 := Lib.hid (HB.out.trans (hb.mono HB.out.size))
      have HO2 := Lib.hid (ownsF_below HO.out hb (Nat.le_refl _))
      have HFC := Lib.hid (implFormatCells_any u l w2 (HU.out.below hb (Nat.le_refl _)) HK.out)
      clear hb
      go_wp2_with fail
      refine HFC.out.mono ?_
      rintro e w3 ⟨rfl, hb⟩
      have HB3 := Lib.hid (HB2.out.trans (hb.mono HB2.out.size))
      have HO3 := Lib.hid (ownsF_below HO2.out hb (Nat.le_refl _))
      clear hb
      go_wp2_with fail
      go_ret2
      exact ⟨_, ret_pairV HYF.out.symm, by rw [HZ.out]; exact HO3.out, HB3.out⟩
end Go.Proofs.YtcpbikilgacdlaaGreat
namespace Go.Proofs.YtcpbikilgacdlaaGreat
set_option linter.unusedVariables false
set_option linter.unusedSimpArgs false
open Go.RowKit
set_option maxHeartbeats 1600000 in
theorem save_c (N b : Nat) (cv : Value) (d : CoreD) (w : World) (h : CoreSt N b cv d w) (hm : d.fCells.length ≤ 4194304) (hs : ∀ c ∈ d.fCells, c.fKey.length ≤ maxLen) :
    Calls Tryz.prog 209 #[.agg #[.pointer (some ⟨b, 0, none⟩)]] w fun e w' => Does N b cv (saveD d) w e w' := by
  have HS := Lib.hid h
  have HB := Lib.hid h.box
  have hl0 := h.box.lt
  have HX := Lib.hid (ownsF_at h.own hm)
  obtain ⟨c0, c1, c2, c3, c4, z1, z2, z3, z4⟩ := h.box
  clear h
  have HD := Lib.hid (fun w' (hw : Below w.heap.size w w') => show CoreBox w' b cv d ∧ Kept2 w w' (some b) none from ⟨HB.out.keep (hw.block b hl0), Kept2.of_below hw⟩)
  have HF := Lib.hid (fun w' (hw : Below w.heap.size w w') => implFormatCells_any cv d.fCells w' (HX.out.below hw (Nat.le_refl _)) hs)
  obtain ⟨kd, on, br, l, cnt⟩ := d
  simp only at *
  have hl1 : b < w.heap.size + 1 := by omega
  have hl2 : b < w.heap.size + 1 + 1 := by omega
  have hn0 : ¬ b = w.heap.size := by omega
  have hn1 : ¬ b = w.heap.size + 1 := by omega
  have hap := @past_cell b
  have HB2 := Lib.hid (show ∀ o1 o2, Below w.heap.size w ((w.alloc o1).alloc o2) from fun o1 o2 => ((Below.refl _ _).alloc (Nat.le_refl _) _).alloc (by simp) _)
  cases br with
  | true =>
    go_enter Tryz.func209, Tryz.ntmps209
    go_wp2_with fail
    refine bodyPost_ret (v := vReply (rC 3)) (by simp [results, Tryz.results209, go_sem, vReply, rC, rV, rT]) rfl ?_
    exact does_of (d' := ⟨kd, on, true, l, cnt⟩) (r := rC 3) HS.out (HD.out _ (HB2.out _ _)).1 rfl (HD.out _ (HB2.out _ _)).2 rfl rfl
  | false =>
    have HE := Lib.hid (show saveD ⟨kd, on, false, l, cnt⟩ = (⟨kd, on, false, l, cnt⟩, rT (fmtC l)) from rfl)
    generalize fmtC l = t at *
    go_enter Tryz.func209, Tryz.ntmps209
    go_wp2_with fail
    refine (HF.out _ (HB2.out _ _)).mono ?_
    rintro e w1 ⟨rfl, hb⟩
    have HB3 := Lib.hid ((HB2.out _ _).trans (hb.mono (HB2.out _ _).size))
    obtain ⟨hcc, hff⟩ := bcell hb
    simp at hcc hff
    have hsz := hb.size
    simp at hsz
    clear hb
    go_wp2_with fail
    refine bodyPost_ret (v := vReply (rT t)) (by simp [results, Tryz.results209, go_sem, vReply, rC, rV, rT, cell_set_at, cell_set_ne, hcc]) rfl ?_
    refine does_of (d' := ⟨kd, on, false, l, cnt⟩) (r := rT t) HS.out ?_ rfl ?_ HE.out rfl
    · exact (HD.out _ (by repeat (first | with_reducible exact HB3.out | with_reducible refine Below.setCell ?_ (by simp; try omega) _)) ).1
    · exact (HD.out _ (by repeat (first | with_reducible exact HB3.out | with_reducible refine Below.setCell ?_ (by simp; try omega) _)) ).2
set_option maxHeartbeats 1600000 in
theorem load_c (N b : Nat) (cv : Value) (d : CoreD) (t : List UInt8) (m : Int) (w : World) (h : CoreSt N b cv d w) (hN : N ≤ w.heap.size) (hM : w.cell? ⟨0, 0, none⟩ = some (.int .i64 m)) (ht : t.length ≤ 1048576) :
    Calls Tryz.prog 208 #[.agg #[.pointer (some ⟨b, 0, none⟩)], .string ⟨t.toArray⟩] w fun e w' => Does N b cv (loadD d t) w e w' := by
  have HS := Lib.hid h
  have HB := Lib.hid h.box
  have hl0 := h.box.lt
  have hge := h.ge
  obtain ⟨c0, c1, c2, c3, c4, z1, z2, z3, z4⟩ := h.box
  clear h
  have HD := Lib.hid (fun w' (hw : Below w.heap.size w w') => show CoreBox w' b cv d ∧ Kept2 w w' (some b) none from ⟨HB.out.keep (hw.block b hl0), Kept2.of_below hw⟩)
  have hML := World.block_lt_of_cell? w _ hM
  simp only at hML
  have HF := Lib.hid (fun w' (hw : Below w.heap.size w w') => implParseCells_any ⟨t.toArray⟩ m w' ((hw.cell (p := ⟨0, 0, none⟩) hML).trans hM) (by rw [← size_list]; simpa using ht))
  clear hM
  unfold GivesCells at HF
  simp only [List.toList_toArray] at HF
  have HE := Lib.hid (show d.fBroken = false → loadD d t = if prsB t = true then ({ d with fCells := prsC t }, rV (prsC t).length) else (d, rC 6) from fun h => by unfold loadD; rw [h]; rfl)
  have hE3 := Lib.hid (show d.fBroken = true → loadD d t = (d, rC 3) from fun h => by unfold loadD; rw [h]; rfl)
  generalize loadD d t = out at *
  generalize prsB t = q at *
  generalize prsC t = l2 at *
  obtain ⟨kd, on, br, l, cnt⟩ := d
  simp only at *
  have hl1 : b < w.heap.size + 1 := by omega
  have hl2 : b < w.heap.size + 1 + 1 := by omega
  have hn0 : ¬ b = w.heap.size := by omega
  have hn1 : ¬ b = w.heap.size + 1 := by omega
  have hm0 : ¬ w.heap.size = b := by omega
  have hm1 : ¬ w.heap.size + 1 = b := by omega
  have hap := @past_cell b
  have haf := @past_frozen b
  have HB2 := Lib.hid (show ∀ o1 o2, Below w.heap.size w ((w.alloc o1).alloc o2) from fun o1 o2 => ((Below.refl _ _).alloc (Nat.le_refl _) _).alloc (by simp) _)
  cases br with
  | true =>
    go_enter Tryz.func208, Tryz.ntmps208
    go_wp2_with fail
    refine bodyPost_ret (v := vReply (rC 3)) (by simp [results, Tryz.results208, go_sem, vReply, rC, rV, rT]) rfl ?_
    exact does_of (d' := ⟨kd, on, true, l, cnt⟩) (r := rC 3) HS.out (HD.out _ (HB2.out _ _)).1 rfl (HD.out _ (HB2.out _ _)).2 (hE3.out (by first | rfl | trivial)) rfl
  | false =>
    have HE1 := Lib.hid (HE.out (by first | rfl | trivial))
    clear HE hE3
    go_enter Tryz.func208, Tryz.ntmps208
    go_wp2_with fail
    refine (HF.out _ (HB2.out _ _)).mono ?_
    rintro e w1 ⟨v, rfl, ho, hb⟩
    have HO := Lib.hid (show OwnsF cCell 139 2 w1 (w.heap.size + 1 + 1) v l2 from by simpa using ho)
    have HB3 := Lib.hid ((HB2.out _ _).trans (hb.mono (HB2.out _ _).size))
    obtain ⟨hcc, hff⟩ := bcell hb
    simp at hcc hff
    have hsz := hb.size
    simp at hsz
    clear hb ho
    cases q with
    | true =>
      have hvl : ∃ va vc, v = .slice va l2.length vc := by
        rcases HO.out.2 with ⟨rfl, hn⟩ | ⟨g, cap, cur, rfl, _⟩
        · exact ⟨none, 0, by rw [hn]⟩
        · exact ⟨_, _, rfl⟩
      obtain ⟨va, vc, rfl⟩ := hvl
      go_wp2_with fail
      refine bodyPost_ret (v := vReply (rV l2.length)) (by simp [results, Tryz.results208, go_sem, vReply, rC, rV, rT, cell_set_at, cell_set_ne, hcc]) rfl ?_
      rw [HE1.out]
      refine ⟨rfl, .slice va l2.length vc, ⟨?_, ?_, ?_, hge⟩, ?_⟩
      · show CoreBox _ b _ ⟨kd, on, false, l2, cnt⟩
        repeat (first | with_reducible refine CoreBox.s3 (cv0 := cv) (l0 := l) ?_ _ _ | with_reducible refine CoreBox.so ?_ _ _ (by simp; try omega))
        exact (HD.out _ HB3.out).1
      · refine ownsF_base (B := w.heap.size + 1 + 1) ?_ (by omega)
        repeat (with_reducible refine ownsF_set ?_ (by simp; try omega))
        exact HO.out
      · intro e
        have := (World.ownsRow.lt HO.out b e).1
        omega
      · have k0 := Kept2.of_below (r1 := some b) (r2 := Value.ownBlock cv) HB3.out
        repeat (with_reducible refine Kept2.set ?_ _ ?_)
        · exact k0
        all_goals (first | exact Or.inr (Or.inl ⟨rfl, by simp⟩) | (left; simp; try omega))
    | false =>
      go_wp2_with fail
      refine bodyPost_ret (v := vReply (rC 6)) (by simp [results, Tryz.results208, go_sem, vReply, rC, rV, rT, cell_set_at, cell_set_ne, hcc]) rfl ?_
      refine does_of (d' := ⟨kd, on, false, l, cnt⟩) (r := rC 6) HS.out ?_ rfl ?_ (by rw [HE1.out]; rfl) rfl
      · exact (HD.out _ (by repeat (first | with_reducible exact HB3.out | with_reducible refine Below.setCell ?_ (by simp; try omega) _)) ).1
      · exact (HD.out _ (by repeat (first | with_reducible exact HB3.out | with_reducible refine Below.setCell ?_ (by simp; try omega) _)) ).2
end Go.Proofs.YtcpbikilgacdlaaGreat
namespace Go.Proofs.YtcpbikilgacdlaaGreat
set_option linter.unusedVariables false
open Go.RowKit
abbrev mStart : List UInt8 := [83, 116, 97, 114, 116]
abbrev mStop : List UInt8 := [83, 116, 111, 112]
abbrev mGet : List UInt8 := [71, 101, 116]
abbrev mPut : List UInt8 := [80, 117, 116]
abbrev mTell : List UInt8 := [84, 101, 108, 108]
abbrev mHear : List UInt8 := [72, 101, 97, 114]
abbrev mLoad : List UInt8 := [76, 111, 97, 100]
abbrev mSave : List UInt8 := [83, 97, 118, 101]
abbrev mHeal : List UInt8 := [72, 101, 97, 108]
def takesK (m : List UInt8) : Bool := m == mGet || m == mPut
def takesV (m : List UInt8) : Bool := m == mPut || m == mHear
def takesT (m : List UInt8) : Bool := m == mLoad
def callB (d : CallD) : Bool := (wantF d.fMethod != 0) && (if takesK d.fMethod then nameB d.fKey else d.fKey.isEmpty) && (if takesV d.fMethod then numB d.fValue else d.fValue == 0) && (d.fText.isEmpty || takesT d.fMethod)
theorem meth_cases (m : List UInt8) : m = mStart ∨ m = mStop ∨ m = mGet ∨ m = mPut ∨ m = mTell ∨ m = mHear ∨ m = mLoad ∨ m = mSave ∨ m = mHeal ∨ (wantF m = 0 ∧ m ≠ mStart ∧ m ≠ mStop ∧ m ≠ mGet ∧ m ≠ mPut ∧ m ≠ mTell ∧ m ≠ mHear ∧ m ≠ mLoad ∧ m ≠ mSave ∧ m ≠ mHeal) := by
  by_cases h : wantF m = 0
  · iterate 9 right
    refine ⟨h, ?_, ?_, ?_, ?_, ?_, ?_, ?_, ?_, ?_⟩ <;> (rintro rfl; exact absurd h (by decide))
  · unfold wantF at h
    rcases findK_bd (fun k => decide (m ∈ mthN k)) 6 0 with e | ⟨j, e, hj, hm⟩
    · exact absurd (show wantI (abOfM m) = 0 by unfold abOfM; rw [e]; rfl) h
    · have hm := of_decide_eq_true hm
      rcases (show j = 0 ∨ j = 1 ∨ j = 2 ∨ j = 3 ∨ j = 4 ∨ j = 5 by omega) with rfl | rfl | rfl | rfl | rfl | rfl <;> simp [mthN] at hm <;> (first | (rcases hm with hm | hm <;> subst hm <;> decide) | (subst hm; decide))
set_option maxHeartbeats 800000 in
theorem takesKey_any (m : List UInt8) (w : World) : Calls Tryz.prog 89 #[.string ⟨m.toArray⟩] w fun e w' => e = .returned (.bool (takesK m)) ∧ w = w' := by
  by_cases hGet : m = mGet
  · subst hGet
    go_enter Tryz.func89, Tryz.ntmps89
    go_wp2
    go_ret
    exact ⟨rfl, rfl⟩
  by_cases hPut : m = mPut
  · subst hPut
    go_enter Tryz.func89, Tryz.ntmps89
    go_wp2
    go_ret
    exact ⟨rfl, rfl⟩
  have bGet : (m == [71, 101, 116]) = false := by simpa using hGet
  have bPut : (m == [80, 117, 116]) = false := by simpa using hPut
  have HR := Lib.hid (show takesK m = false by simp only [takesK, bGet, bPut] <;> rfl)
  clear hGet hPut
  go_enter Tryz.func89, Tryz.ntmps89
  go_wp2
  go_ret
  exact ⟨ret_bool HR.out.symm, rfl⟩
theorem takesKey_b (m : List UInt8) (x : Bool) (h : takesK m = x) (w : World) : Calls Tryz.prog 89 #[.string ⟨m.toArray⟩] w fun e w' => e = .returned (.bool x) ∧ w = w' := by subst h; exact takesKey_any m w
set_option maxHeartbeats 800000 in
theorem takesValue_any (m : List UInt8) (w : World) : Calls Tryz.prog 91 #[.string ⟨m.toArray⟩] w fun e w' => e = .returned (.bool (takesV m)) ∧ w = w' := by
  by_cases hPut : m = mPut
  · subst hPut
    go_enter Tryz.func91, Tryz.ntmps91
    go_wp2
    go_ret
    exact ⟨rfl, rfl⟩
  by_cases hHear : m = mHear
  · subst hHear
    go_enter Tryz.func91, Tryz.ntmps91
    go_wp2
    go_ret
    exact ⟨rfl, rfl⟩
  have bPut : (m == [80, 117, 116]) = false := by simpa using hPut
  have bHear : (m == [72, 101, 97, 114]) = false := by simpa using hHear
  have HR := Lib.hid (show takesV m = false by simp only [takesV, bPut, bHear] <;> rfl)
  clear hPut hHear
  go_enter Tryz.func91, Tryz.ntmps91
  go_wp2
  go_ret
  exact ⟨ret_bool HR.out.symm, rfl⟩
theorem takesValue_b (m : List UInt8) (x : Bool) (h : takesV m = x) (w : World) : Calls Tryz.prog 91 #[.string ⟨m.toArray⟩] w fun e w' => e = .returned (.bool x) ∧ w = w' := by subst h; exact takesValue_any m w
set_option maxHeartbeats 800000 in
theorem takesText_any (m : List UInt8) (w : World) : Calls Tryz.prog 93 #[.string ⟨m.toArray⟩] w fun e w' => e = .returned (.bool (takesT m)) ∧ w = w' := by
  by_cases hLoad : m = mLoad
  · subst hLoad
    go_enter Tryz.func93, Tryz.ntmps93
    go_wp2
    go_ret
    exact ⟨rfl, rfl⟩
  have bLoad : (m == [76, 111, 97, 100]) = false := by simpa using hLoad
  have HR := Lib.hid (show takesT m = false by simp only [takesT, bLoad] <;> rfl)
  clear hLoad
  go_enter Tryz.func93, Tryz.ntmps93
  go_wp2
  go_ret
  exact ⟨ret_bool HR.out.symm, rfl⟩
theorem takesText_b (m : List UInt8) (x : Bool) (h : takesT m = x) (w : World) : Calls Tryz.prog 93 #[.string ⟨m.toArray⟩] w fun e w' => e = .returned (.bool x) ∧ w = w' := by subst h; exact takesText_any m w
set_option maxHeartbeats 800000 in
theorem implWant_any (s : ByteArray) (w : World) :
    Calls Tryz.prog 46 #[.string s] w fun e w' => e = .returned (.int .i64 (wantF s.data.toList)) ∧ Below w.heap.size w w' := by
  have HA := Lib.hid (implAbilityOfMethod_any s)
  have hb := abOfM_bd s.data.toList
  unfold wantF
  generalize abOfM s.data.toList = k at *
  rcases hb with rfl | ⟨j, rfl, hj⟩
  · go_enter Tryz.func46, Tryz.ntmps46
    go_wp2_with fail
    refine (HA.out w).mono ?_
    rintro e w1 ⟨rfl, hb⟩
    go_wp2_with fail
    go_ret
    exact ⟨rfl, hb⟩
  · have HP := Lib.hid (show wrap64 (2 ^ j) = wantI (j : Nat) by unfold wantI; rw [if_neg (by omega), pow_of j hj]; simp)
    go_enter Tryz.func46, Tryz.ntmps46
    go_wp2_with fail
    refine (HA.out w).mono ?_
    rintro e w1 ⟨rfl, hb⟩
    go_wp2_with fail
    go_ret
    exact ⟨ret_int HP.out, hb⟩
theorem implWant_b (m : List UInt8) (x : Int) (h : wantF m = x) (w : World) : Calls Tryz.prog 46 #[.string ⟨m.toArray⟩] w fun e w' => e = .returned (.int .i64 x) ∧ Below w.heap.size w w' := by
  subst h; exact implWant_any ⟨m.toArray⟩ w
end Go.Proofs.YtcpbikilgacdlaaGreat
namespace Go.Proofs.YtcpbikilgacdlaaGreat
set_option linter.unusedVariables false
set_option linter.unusedSimpArgs false
open Go.RowKit
structure Boxes (nx np nr : Nat) (x : CallD) (pt : Value) (w : World) : Prop where
  x0 : w.cell? ⟨nx, 0, none⟩ = some (.string ⟨x.fMethod.toArray⟩)
  p0 : w.cell? ⟨np, 0, none⟩ = some pt
  r : ∀ o, o < 5 → (w.cell? ⟨nr, o, none⟩).isSome = true
  z : ∀ o, w.frozen? ⟨nr, o, none⟩ = false
theorem Boxes.below {nx np nr : Nat} {x : CallD} {pt : Value} {w w' : World} (h : Boxes nx np nr x pt w) (hb : Below w.heap.size w w') : Boxes nx np nr x pt w' := by
  have hr : nr < w.heap.size := by
    obtain ⟨v, hv⟩ := Option.isSome_iff_exists.1 (h.r 0 (by decide))
    exact World.block_lt_of_cell? w _ hv
  exact ⟨(hb.cell (p := ⟨nx, 0, none⟩) (World.block_lt_of_cell? w _ h.x0)).trans h.x0, (hb.cell (p := ⟨np, 0, none⟩) (World.block_lt_of_cell? w _ h.p0)).trans h.p0,
    fun o ho => by rw [hb.cell (p := ⟨nr, o, none⟩) hr]; exact h.r o ho, fun o => (hb.frozen (p := ⟨nr, o, none⟩) hr).trans (h.z o)⟩
def put5 (w : World) (n : Nat) (r : ReplyD) : World := ((((w.setCell ⟨n, 0, none⟩ (.int .i64 r.fCode)).setCell ⟨n, 1, none⟩ (.int .i64 r.fValue)).setCell ⟨n, 2, none⟩ (.string ⟨r.fText.toArray⟩)).setCell ⟨n, 3, none⟩ (.int .i64 r.fWant)).setCell ⟨n, 4, none⟩ (.int .i64 r.fHad)
theorem catch_idle (a1 a2 a3 : Value) (w : World) :
    CallsD Tryz.prog 152 #[a1, a2, a3] .returning w fun e u' w' => e = .returned (.tuple #[]) ∧ u' = .returning ∧ w' = w := by
  refine callsD_of_wpS Tryz.func152 rfl fun c₀ cs hu => ?_
  apply wpS_seq
  apply wpS_region
  simp [wpOpsS, go_sem, recoverD, hu, Tryz.ntmps152, Exit.thenS]
  refine wpS_cond (t := false) (by simp [Act.eval, Array.replicate]) ?_
  simp only [Bool.false_eq_true, if_false]
  refine wpS_of_wp (wp_skip ?_)
  cases c₀
  simp_all [bodyPostS, results, Tryz.results152]
end Go.Proofs.YtcpbikilgacdlaaGreat
namespace Go.Proofs.YtcpbikilgacdlaaGreat
set_option linter.unusedVariables false
open Go.RowKit
def doV (d : CoreD) (x : CallD) : CoreD × ReplyD := if offersF (coreF d) (wantF x.fMethod) = true then mthD d x else (d, ⟨1, 0, [], wantF x.fMethod, coreF d⟩)
def doD (d : CoreD) (x : CallD) : CoreD × ReplyD := if (coreB d && callB x) = true then doV d x else (d, rC 7)
def PutOk (N b : Nat) (cv : Value) (d : CoreD) (x : CallD) : Prop := ∀ w, CoreSt N b cv d w → Calls Tryz.prog 198 #[.agg #[.pointer (some ⟨b, 0, none⟩)], .string ⟨x.fKey.toArray⟩, .int .i64 x.fValue] w fun e w' => Does N b cv (putD d x.fKey x.fValue) w e w'
theorem coreB_kind {d : CoreD} (h : coreB d = true) : ∃ j, j < 8 ∧ d.fKind = kindN j ∧ coreF d = kfN j := by
  simp only [coreB, Bool.and_eq_true, decide_eq_true_iff] at h
  have h0 := h.1.1.1.1.1
  rcases kindI_bd d.fKind with h1 | ⟨j, h1, h2, h3⟩
  · omega
  · refine ⟨j, h2, h3.symm, ?_⟩
    unfold coreF kfI
    rw [h1, if_neg (by omega)]; simp
end Go.Proofs.YtcpbikilgacdlaaGreat
namespace Go.Proofs.YtcpbikilgacdlaaGreat
set_option linter.unusedVariables false
set_option linter.unusedSimpArgs false
open Go.RowKit
theorem mthD_kind (d : CoreD) (x : CallD) : (mthD d x).1.fKind = d.fKind := by
  unfold mthD startD stopD getD1 putD tellD hearD loadD saveD healD
  repeat' split
  all_goals rfl
theorem doD_kind (d : CoreD) (x : CallD) : (doD d x).1.fKind = d.fKind := by
  unfold doD doV
  repeat' split
  all_goals first | rfl | exact mthD_kind d x
theorem coreB_iff (d : CoreD) : coreB d = true ↔ (0 ≤ kindI d.fKind ∧ cellsB d.fCells = true ∧ (d.fCells.length = 0 ∨ hasI (coreF d) 1 = true) ∧ ((d.fOn = false ∧ d.fBroken = false) ∨ hasI (coreF d) 0 = true) ∧ numB d.fCount = true ∧ ¬ (d.fOn = true ∧ d.fBroken = true)) := by
  unfold coreB
  simp only [Bool.and_eq_true, Bool.or_eq_true, decide_eq_true_eq, Bool.not_eq_true', Bool.or_eq_false_iff, Bool.and_eq_false_iff]
  constructor
  · rintro ⟨⟨⟨⟨⟨h1, h2⟩, h3⟩, h4⟩, h5⟩, h6⟩
    refine ⟨h1, h2, h3, h4, h5, ?_⟩
    rintro ⟨k1, k2⟩
    rcases h6 with h6 | h6
    · rw [k1] at h6; cases h6
    · rw [k2] at h6; cases h6
  · rintro ⟨h1, h2, h3, h4, h5, h6⟩
    refine ⟨⟨⟨⟨⟨h1, h2⟩, h3⟩, h4⟩, h5⟩, ?_⟩
    cases h : d.fOn
    · exact Or.inl rfl
    · right
      cases h' : d.fBroken
      · rfl
      · exact absurd ⟨h, h'⟩ h6
theorem kf_hear : ∀ j : _root_.Fin 8, offersF (kfN j) 8 = true → hasI (kfN j) 0 = true := by decide +kernel
theorem kf_save : ∀ j : _root_.Fin 8, offersF (kfN j) 16 = true → hasI (kfN j) 1 = true := by decide +kernel
theorem off_run {f : Int} (hf : isF f = true) (h : offersF f 1 = true) : hasI f 0 = true := by rw [← off_has hf 0 (by omega)]; exact h
theorem off_keep {f : Int} (hf : isF f = true) (h : offersF f 2 = true) : hasI f 1 = true := by rw [← off_has hf 1 (by omega)]; exact h
theorem core_hear {d : CoreD} (h : coreB d = true) (ho : offersF (coreF d) 8 = true) : hasI (coreF d) 0 = true := by
  obtain ⟨j, hj, _, e⟩ := coreB_kind h
  rw [e] at ho ⊢; exact kf_hear ⟨j, hj⟩ ho
theorem core_save {d : CoreD} (h : coreB d = true) (ho : offersF (coreF d) 16 = true) : hasI (coreF d) 1 = true := by
  obtain ⟨j, hj, _, e⟩ := coreB_kind h
  rw [e] at ho ⊢; exact kf_save ⟨j, hj⟩ ho
theorem callB_meth {x : CallD} (h : callB x = true) : (x.fMethod = mStart ∧ wantF x.fMethod = 1) ∨ (x.fMethod = mStop ∧ wantF x.fMethod = 1) ∨ (x.fMethod = mGet ∧ wantF x.fMethod = 2) ∨ (x.fMethod = mPut ∧ wantF x.fMethod = 2) ∨ (x.fMethod = mTell ∧ wantF x.fMethod = 4) ∨
    (x.fMethod = mHear ∧ wantF x.fMethod = 8) ∨ (x.fMethod = mLoad ∧ wantF x.fMethod = 16) ∨ (x.fMethod = mSave ∧ wantF x.fMethod = 16) ∨ (x.fMethod = mHeal ∧ wantF x.fMethod = 32) := by
  have h0 := h
  simp only [callB, Bool.and_eq_true, bne_iff_ne, ne_eq] at h
  have hw := h.1.1.1
  rcases meth_cases x.fMethod with hm | hm | hm | hm | hm | hm | hm | hm | hm | hm
  case inr.inr.inr.inr.inr.inr.inr.inr.inr => exact absurd hm.1 hw
  all_goals rw [hm]; simp +decide
theorem callB_put {x : CallD} (h : callB x = true) (hm : x.fMethod = mPut) : nameB x.fKey = true ∧ numB x.fValue = true := by
  simp only [callB, Bool.and_eq_true, hm] at h
  have h1 := h.1.1.2
  have h2 := h.1.2
  simp +decide at h1 h2
  exact ⟨h1, h2⟩
theorem doD_good {d : CoreD} {x : CallD} (h1 : coreB d = true) (h2 : callB x = true) (h3 : offersF (coreF d) (wantF x.fMethod) = true) : doD d x = mthD d x := by
  unfold doD doV; rw [h1, h2, Bool.and_self, if_pos rfl, if_pos h3]
theorem doD_fail {d : CoreD} {x : CallD} (h1 : coreB d = true) (h2 : callB x = true) (h3 : offersF (coreF d) (wantF x.fMethod) = false) : doD d x = (d, ⟨1, 0, [], wantF x.fMethod, coreF d⟩) := by
  unfold doD doV; rw [h1, h2, Bool.and_self, if_pos rfl, if_neg (by rw [h3]; simp)]
theorem doD_bad {d : CoreD} {x : CallD} (h : coreB d = false ∨ callB x = false) : doD d x = (d, rC 7) := by
  unfold doD; rw [if_neg]; rcases h with h | h <;> rw [h] <;> simp
theorem mthD_Start {d : CoreD} {x : CallD} (h : x.fMethod = mStart) : mthD d x = startD d := if_pos h
theorem mthD_Stop {d : CoreD} {x : CallD} (h : x.fMethod = mStop) : mthD d x = stopD d := by unfold mthD; rw [h]; rfl
theorem mthD_Get {d : CoreD} {x : CallD} (h : x.fMethod = mGet) : mthD d x = getD1 d x.fKey := by unfold mthD; rw [h]; rfl
theorem mthD_Put {d : CoreD} {x : CallD} (h : x.fMethod = mPut) : mthD d x = putD d x.fKey x.fValue := by unfold mthD; rw [h]; rfl
theorem mthD_Tell {d : CoreD} {x : CallD} (h : x.fMethod = mTell) : mthD d x = tellD d := by unfold mthD; rw [h]; rfl
theorem mthD_Hear {d : CoreD} {x : CallD} (h : x.fMethod = mHear) : mthD d x = hearD d x.fValue := by unfold mthD; rw [h]; rfl
theorem mthD_Load {d : CoreD} {x : CallD} (h : x.fMethod = mLoad) : mthD d x = loadD d x.fText := by unfold mthD; rw [h]; rfl
theorem mthD_Save {d : CoreD} {x : CallD} (h : x.fMethod = mSave) : mthD d x = saveD d := by unfold mthD; rw [h]; rfl
theorem mthD_Heal {d : CoreD} {x : CallD} (h : x.fMethod = mHeal) : mthD d x = healD d := by unfold mthD; rw [h]; rfl
theorem coreF_face (d : CoreD) : isF (coreF d) = true := kfI_face _
theorem mthD_core {d : CoreD} {x : CallD} (h1 : coreB d = true) (h2 : callB x = true) (h3 : offersF (coreF d) (wantF x.fMethod) = true) : coreB (mthD d x).1 = true := by
  have h := (coreB_iff d).1 h1
  obtain ⟨hk, hc, hl, ho, hn, hb⟩ := h
  have hrun := off_run (coreF_face d)
  have hkeep := off_keep (coreF_face d)
  have hhear := core_hear h1
  have hsave := core_save h1
  rw [coreB_iff]
  rcases callB_meth h2 with ⟨hm, hw⟩ | ⟨hm, hw⟩ | ⟨hm, hw⟩ | ⟨hm, hw⟩ | ⟨hm, hw⟩ | ⟨hm, hw⟩ | ⟨hm, hw⟩ | ⟨hm, hw⟩ | ⟨hm, hw⟩ <;> rw [hw] at h3
  · rw [mthD_Start hm]; unfold startD
    repeat' split
    · exact ⟨hk, hc, hl, ho, hn, hb⟩
    · exact ⟨hk, hc, hl, Or.inr (hrun h3), hn, by simp⟩
    · rename_i k1 k2
      exact ⟨hk, hc, hl, Or.inr (hrun h3), upI_num hn, by simpa using k1⟩
  · rw [mthD_Stop hm]; unfold stopD
    repeat' split
    · exact ⟨hk, hc, hl, ho, hn, hb⟩
    · exact ⟨hk, hc, hl, Or.inr (hrun h3), hn, by simp⟩
    · exact ⟨hk, hc, hl, ho, hn, hb⟩
  · rw [mthD_Get hm]; unfold getD1
    repeat' split
    all_goals exact ⟨hk, hc, hl, ho, hn, hb⟩
  · rw [mthD_Put hm]; unfold putD
    have hp := callB_put h2 hm
    repeat' split
    · rename_i k1 k2
      exact ⟨hk, putC_cells hc hp.1 hp.2 k2, Or.inr (hkeep h3), ho, upI_num hn, hb⟩
    all_goals exact ⟨hk, hc, hl, ho, hn, hb⟩
  · rw [mthD_Tell hm]; exact ⟨hk, hc, hl, ho, hn, hb⟩
  · rw [mthD_Hear hm]; unfold hearD
    split
    · exact ⟨hk, hc, hl, ho, hn, hb⟩
    · rename_i k1
      exact ⟨hk, hc, hl, Or.inr (hhear h3), upI_num hn, fun h => k1 h.2⟩
  · rw [mthD_Load hm]; unfold loadD
    repeat' split
    · exact ⟨hk, hc, hl, ho, hn, hb⟩
    · rename_i k1 k2
      exact ⟨hk, (prsC_fmt k2).1, Or.inr (hsave h3), ho, hn, hb⟩
    · exact ⟨hk, hc, hl, ho, hn, hb⟩
  · rw [mthD_Save hm]; unfold saveD
    split <;> exact ⟨hk, hc, hl, ho, hn, hb⟩
  · rw [mthD_Heal hm]; exact ⟨hk, hc, hl, Or.inl ⟨rfl, rfl⟩, hn, by simp [healD]⟩
theorem doD_core {d : CoreD} (x : CallD) (h1 : coreB d = true) : coreB (doD d x).1 = true := by
  cases h2 : callB x with
  | false => rw [doD_bad (Or.inr h2)]; exact h1
  | true =>
    cases h3 : offersF (coreF d) (wantF x.fMethod) with
    | false => rw [doD_fail h1 h2 h3]; exact h1
    | true => rw [doD_good h1 h2 h3]; exact mthD_core h1 h2 h3
theorem mthD_code (d : CoreD) (x : CallD) : (mthD d x).2.fCode ≠ 1 ∧ (mthD d x).2.fCode ≠ 7 := by
  unfold mthD startD stopD getD1 putD tellD hearD loadD saveD healD idleI
  repeat' split
  all_goals simp [rC, rV, rT]
end Go.Proofs.YtcpbikilgacdlaaGreat
namespace Go.Proofs.YtcpbikilgacdlaaGreat
set_option linter.unusedVariables false
set_option linter.unusedSimpArgs false
open Go.RowKit
abbrev nCounts : List UInt8 := [99, 111, 117, 110, 116, 115]
abbrev nLazy : List UInt8 := [108, 97, 122, 121]
abbrev nReads : List UInt8 := [114, 101, 97, 100, 115]
abbrev nHears : List UInt8 := [104, 101, 97, 114, 115]
abbrev nHeals : List UInt8 := [104, 101, 97, 108, 115]
abbrev nTwice : List UInt8 := [116, 119, 105, 99, 101]
def keptB (m : List UInt8) : Bool := m == mGet || m == mPut
def cX (m : List UInt8) : CallD := ⟨m, [], 0, []⟩
def updL (p : PartD) (n : Nat) : PartD := ⟨p.fCore, p.fLayers.set n ⟨(p.fLayers.getD n default).fName, upI (p.fLayers.getD n default).fCount⟩⟩
def cntL (p : PartD) (n : Nat) : Int := (p.fLayers.getD n default).fCount
def nmL (p : PartD) (n : Nat) : List UInt8 := (p.fLayers.getD n default).fName
def twR (r : ReplyD) : ReplyD := if r.fCode = 0 then { r with fValue := if 2 * r.fValue < 999 then 2 * r.fValue else 999 } else r
def lyDo : Nat → PartD → CallD → PartD × ReplyD
  | 0, p, x => (⟨(doD p.fCore x).1, p.fLayers⟩, (doD p.fCore x).2)
  | n + 1, p, x =>
    if nmL p n = nCounts ∧ x.fMethod = mTell then (p, ⟨0, cntL p n, [], 0, 0⟩)
    else if nmL p n = nCounts ∧ keptB x.fMethod = true then (updL (lyDo n p x).1 n, (lyDo n p x).2)
    else if nmL p n = nLazy ∧ keptB x.fMethod = true then (if (lyDo n p x).2.fCode = 2 then lyDo n (lyDo n (lyDo n p x).1 (cX mStart)).1 x else lyDo n p x)
    else if nmL p n = nReads ∧ x.fMethod = mPut then (p, rC 6)
    else if nmL p n = nHears ∧ x.fMethod = mHear then (if 1 < x.fValue then (updL p n, ⟨0, cntL (updL p n) n, [], 0, 0⟩) else lyDo n (updL p n) (cX (if x.fValue = 0 then mStop else mStart)))
    else if nmL p n = nHeals ∧ x.fMethod = mHeal then lyDo n (lyDo n p (cX mStop)).1 (cX mStart)
    else if nmL p n = nTwice ∧ x.fMethod = mTell then ((lyDo n p x).1, twR (lyDo n p x).2)
    else lyDo n p x
theorem nmL_upd (p : PartD) (n m : Nat) : nmL (updL p n) m = nmL p m := by
  unfold nmL updL
  simp only [List.getD_eq_getElem?_getD, List.getElem?_set]
  split
  · rename_i h; subst h
    split
    · rfl
    · rename_i h; rw [List.getElem?_eq_none (by omega)]
  · rfl
theorem names_upd (p : PartD) (n : Nat) : (updL p n).fLayers.map (·.fName) = p.fLayers.map (·.fName) := by
  refine List.ext_getElem (by simp [updL]) fun i h1 h2 => ?_
  simp only [List.getElem_map]
  have h3 : i < p.fLayers.length := by simpa using h2
  have h4 : i < (updL p n).fLayers.length := by simpa [updL] using h3
  have e1 : nmL (updL p n) i = ((updL p n).fLayers[i]).fName := by unfold nmL; rw [List.getD_eq_getElem?_getD, List.getElem?_eq_getElem h4]; rfl
  have e2 : nmL p i = (p.fLayers[i]).fName := by unfold nmL; rw [List.getD_eq_getElem?_getD, List.getElem?_eq_getElem h3]; rfl
  rw [← e1, ← e2, nmL_upd]
theorem nmL_map {p q : PartD} (h : q.fLayers.map (·.fName) = p.fLayers.map (·.fName)) (n : Nat) : nmL q n = nmL p n := by
  unfold nmL
  have e : ∀ r : PartD, (r.fLayers.getD n default).fName = (r.fLayers.map (·.fName)).getD n (default : LayerD).fName := fun r => by
    rw [List.getD_eq_getElem?_getD, List.getD_eq_getElem?_getD, List.getElem?_map]
    cases r.fLayers[n]? <;> rfl
  rw [e, e, h]
theorem lyDo_names : ∀ (n : Nat) (p : PartD) (x : CallD), (lyDo n p x).1.fLayers.map (·.fName) = p.fLayers.map (·.fName) ∧ (lyDo n p x).1.fCore.fKind = p.fCore.fKind := by
  intro n
  induction n with
  | zero => intro p x; exact ⟨rfl, doD_kind _ _⟩
  | succ n ih =>
    intro p x
    unfold lyDo
    split
    · exact ⟨rfl, rfl⟩
    split
    · exact ⟨(names_upd _ _).trans (ih p x).1, (ih p x).2⟩
    split
    · split
      · exact ⟨(ih _ _).1.trans ((ih _ _).1.trans (ih _ _).1), (ih _ _).2.trans ((ih _ _).2.trans (ih _ _).2)⟩
      · exact ih p x
    split
    · exact ⟨rfl, rfl⟩
    split
    · split
      · exact ⟨names_upd _ _, rfl⟩
      · exact ⟨(ih _ _).1.trans (names_upd _ _), (ih _ _).2⟩
    split
    · exact ⟨(ih _ _).1.trans (ih _ _).1, (ih _ _).2.trans (ih _ _).2⟩
    split
    · exact ih p x
    · exact ih p x
theorem lyDo_len (n : Nat) (p : PartD) (x : CallD) : (lyDo n p x).1.fLayers.length = p.fLayers.length := by
  have := congrArg List.length (lyDo_names n p x).1; simpa using this
theorem faceN_map {p q : PartD} (h : q.fLayers.map (·.fName) = p.fLayers.map (·.fName)) (hk : q.fCore.fKind = p.fCore.fKind) (n : Nat) : faceN q n = faceN p n := by
  cases n with
  | zero => show kfI (kindI q.fCore.fKind) = kfI (kindI p.fCore.fKind); rw [hk]
  | succ n => exact congrArg (fun s => giveI (layI s)) (nmL_map h n)
theorem upI_numL {c : Int} (h : numB c = true) : numB (upI c) = true := by
  simp only [numB, Bool.and_eq_true, decide_eq_true_iff] at h ⊢
  unfold upI; split <;> omega
theorem part_of {p q : PartD} (hp : partB p = true) (hc : coreB q.fCore = true) (hk : q.fCore.fKind = p.fCore.fKind) (hn : q.fLayers.map (·.fName) = p.fLayers.map (·.fName))
    (hcnt : ∀ i, i < p.fLayers.length → cntB (p.fLayers.getD i default) = true → cntB (q.fLayers.getD i default) = true) : partB q = true := by
  have hl : q.fLayers.length = p.fLayers.length := by have := congrArg List.length hn; simpa using this
  have h3 := partB_len hp
  unfold partB
  rw [Bool.and_eq_true, Bool.and_eq_true]
  refine ⟨⟨hc, decide_eq_true (by omega)⟩, ?_⟩
  unfold layTo
  rw [List.all_eq_true]
  intro i hi
  rw [List.mem_range, hl] at hi
  have h4 := partB_lay hp i hi
  unfold layOk at h4 ⊢
  have e : (q.fLayers.getD i default).fName = (p.fLayers.getD i default).fName := nmL_map hn i
  rw [faceN_map hn hk, e]
  simp only [Bool.and_eq_true] at h4 ⊢
  exact ⟨h4.1, hcnt i hi h4.2⟩
theorem upd_getD (p : PartD) (n i : Nat) (hn : n < p.fLayers.length) : (updL p n).fLayers.getD i default = if i = n then ⟨nmL p n, upI (cntL p n)⟩ else p.fLayers.getD i default := by
  unfold updL nmL cntL
  simp only [List.getD_eq_getElem?_getD, List.getElem?_set]
  by_cases h : n = i
  · subst h; simp [hn]
  · rw [if_neg h, if_neg (fun e => h e.symm)]
theorem upd_part {p : PartD} (hp : partB p = true) (n : Nat) (hn : n < p.fLayers.length) (hc : countedB (nmL p n) = true) : partB (updL p n) = true := by
  refine part_of hp (show coreB p.fCore = true from partB_core hp) rfl (names_upd p n) fun i hi h => ?_
  rw [upd_getD p n i hn]
  split
  · rename_i e; subst e
    unfold cntB at h ⊢
    rw [if_pos (show countedB (p.fLayers.getD i default).fName = true from hc)] at h
    rw [if_pos (show countedB (⟨nmL p i, upI (cntL p i)⟩ : LayerD).fName = true from hc)]
    exact upI_numL h
  · exact h
theorem counts_counted : countedB nCounts = true := by decide
theorem hears_counted : countedB nHears = true := by decide
theorem lyDo_part : ∀ (n : Nat) (p : PartD) (x : CallD), n ≤ p.fLayers.length → partB p = true → partB (lyDo n p x).1 = true := by
  intro n
  induction n with
  | zero =>
    intro p x _ hp
    exact part_of hp (doD_core x (partB_core hp)) (doD_kind _ _) rfl fun i _ h => h
  | succ n ih =>
    intro p x hn hp
    have hn' : n ≤ p.fLayers.length := by omega
    have hL : ∀ q y, (lyDo n q y).1.fLayers.length = q.fLayers.length := fun q y => lyDo_len n q y
    unfold lyDo
    split
    · exact hp
    split
    · rename_i h
      refine upd_part (ih p x hn' hp) n (by rw [hL]; omega) ?_
      rw [nmL_map (lyDo_names n p x).1, h.1]; exact counts_counted
    split
    · split
      · exact ih _ _ (by rw [hL, hL]; exact hn') (ih _ _ (by rw [hL]; exact hn') (ih p x hn' hp))
      · exact ih p x hn' hp
    split
    · exact hp
    split
    · rename_i h
      have hu : partB (updL p n) = true := upd_part hp n (by omega) (by rw [h.1]; exact hears_counted)
      split
      · exact hu
      · exact ih _ _ (by have := congrArg List.length (names_upd p n); simp at this; omega) hu
    split
    · exact ih _ _ (by rw [hL]; exact hn') (ih _ _ hn' hp)
    split
    · exact ih p x hn' hp
    · exact ih p x hn' hp
theorem updL_comm (p : PartD) (n m : Nat) (h : n ≠ m) : updL (updL p n) m = updL (updL p m) n := by
  have e : ∀ (q : PartD) (i j : Nat), i ≠ j → (updL q i).fLayers.getD j default = q.fLayers.getD j default := fun q i j hij => by
    unfold updL; simp only [List.getD_eq_getElem?_getD, List.getElem?_set_ne hij]
  show (⟨p.fCore, (updL p n).fLayers.set m ⟨((updL p n).fLayers.getD m default).fName, upI ((updL p n).fLayers.getD m default).fCount⟩⟩ : PartD) = ⟨p.fCore, (updL p m).fLayers.set n ⟨((updL p m).fLayers.getD n default).fName, upI ((updL p m).fLayers.getD n default).fCount⟩⟩
  rw [e p n m h, e p m n (fun e => h e.symm)]
  unfold updL
  simp only
  rw [List.set_comm _ _ h]
theorem cntL_upd (p : PartD) (n m : Nat) (h : m ≠ n) : cntL (updL p m) n = cntL p n := by
  unfold cntL updL; simp only [List.getD_eq_getElem?_getD, List.getElem?_set_ne h]
theorem lyDo_upd : ∀ (n : Nat) (p : PartD) (x : CallD) (m : Nat), n ≤ m → lyDo n (updL p m) x = (updL (lyDo n p x).1 m, (lyDo n p x).2) := by
  intro n
  induction n with
  | zero => intro p x m _; rfl
  | succ n ih =>
    intro p x m hm
    have h1 : ∀ q y, lyDo n (updL q m) y = (updL (lyDo n q y).1 m, (lyDo n q y).2) := fun q y => ih q y m (by omega)
    have hne : m ≠ n := by omega
    have hc : ∀ q, updL (updL q m) n = updL (updL q n) m := fun q => updL_comm q m n hne
    unfold lyDo
    rw [nmL_upd]
    split
    · rw [cntL_upd p n m hne]
    split
    · rw [h1]; simp only; rw [hc]
    split
    · rw [h1]; simp only
      split
      · rw [h1]; simp only; rw [h1]
      · rfl
    split
    · rfl
    split
    · rw [hc]
      split
      · rw [cntL_upd _ n m hne]
      · exact h1 _ _
    split
    · rw [h1]; simp only; exact h1 _ _
    split
    · rw [h1]
    · exact h1 p x
theorem keptB_tell : keptB mTell = false := by decide
theorem lyDo_tell : ∀ (n : Nat) (p : PartD) (x : CallD), x.fMethod = mTell → n ≤ p.fLayers.length → partB p = true → 0 ≤ (lyDo n p x).2.fValue ∧ (lyDo n p x).2.fValue ≤ 999 := by
  intro n
  induction n with
  | zero =>
    intro p x hx _ hp
    have hc := partB_core hp
    have hcnt : 0 ≤ p.fCore.fCount ∧ p.fCore.fCount ≤ 999 := by
      simp only [coreB, Bool.and_eq_true] at hc; simpa [numB] using hc.1.2
    show 0 ≤ (doD p.fCore x).2.fValue ∧ (doD p.fCore x).2.fValue ≤ 999
    unfold doD
    split
    · unfold doV
      split
      · have e : mthD p.fCore x = tellD p.fCore := by unfold mthD; rw [hx]; rfl
        rw [e]; exact hcnt
      · show (0 : Int) ≤ 0 ∧ (0 : Int) ≤ 999
        decide
    · show (0 : Int) ≤ 0 ∧ (0 : Int) ≤ 999
      decide
  | succ n ih =>
    intro p x hx hn hp
    have h1 := ih p x hx (by omega) hp
    have hk : ¬ keptB x.fMethod = true := by rw [hx, keptB_tell]; decide
    unfold lyDo
    split
    · have h2 := partB_lay hp n (by omega)
      unfold layOk at h2
      simp only [Bool.and_eq_true] at h2
      have h3 := h2.2
      unfold cntB at h3
      show 0 ≤ cntL p n ∧ cntL p n ≤ 999
      unfold cntL
      split at h3
      · simpa [numB] using h3
      · have : (p.fLayers.getD n default).fCount = 0 := by simpa using h3
        omega
    rw [if_neg (fun h => hk h.2), if_neg (fun h => hk h.2), if_neg (fun h => by rw [hx] at h; exact absurd h.2 (by decide)), if_neg (fun h => by rw [hx] at h; exact absurd h.2 (by decide)), if_neg (fun h => by rw [hx] at h; exact absurd h.2 (by decide))]
    split
    · unfold twR
      simp only
      split
      · simp only; split <;> omega
      · exact h1
    · exact h1
end Go.Proofs.YtcpbikilgacdlaaGreat
namespace Go.Proofs.YtcpbikilgacdlaaGreat
set_option linter.unusedVariables false
open Go.RowKit
structure KeptT (N b : Nat) (w w' : World) : Prop where
  os : w'.os = w.os
  tape : w'.tape = w.tape
  output : w'.output = w.output
  size : w.heap.size ≤ w'.heap.size
  low : ∀ k, k < N → w'.heap[k]? = w.heap[k]?
  typed : ∀ k c T, w.heap[k]? = some (.cells c T (0, 0)) → k ≠ b → 139 ≠ T → 86 ≠ T → w'.heap[k]? = w.heap[k]?
theorem KeptT.refl (N b : Nat) (w : World) : KeptT N b w w := ⟨rfl, rfl, rfl, Nat.le_refl _, fun _ _ => rfl, fun _ _ _ _ _ _ _ => rfl⟩
theorem KeptT.trans {N b : Nat} {w w1 w2 : World} (h : KeptT N b w w1) (k : KeptT N b w1 w2) : KeptT N b w w2 :=
  ⟨k.os.trans h.os, k.tape.trans h.tape, k.output.trans h.output, Nat.le_trans h.size k.size, fun i hi => (k.low i hi).trans (h.low i hi), fun i c T h1 h2 h3 h4 => (k.typed i c T ((h.typed i c T h1 h2 h3 h4).trans h1) h2 h3 h4).trans (h.typed i c T h1 h2 h3 h4)⟩
theorem heap_lt {w : World} {k : Nat} {o : Obj} (h : w.heap[k]? = some o) : k < w.heap.size := (Array.getElem?_eq_some_iff.1 h).1
theorem KeptT.of_below {N b : Nat} {w w' : World} (hb : Below w.heap.size w w') (hN : N ≤ w.heap.size) : KeptT N b w w' :=
  ⟨hb.os, hb.tape, hb.output, hb.size, fun k hk => hb.block k (by omega), fun k c T h _ _ _ => hb.block k (heap_lt h)⟩
theorem KeptT.below {N b : Nat} {w w1 w' : World} (h : KeptT N b w w1) (hb : Below w1.heap.size w1 w') (hN : N ≤ w.heap.size) : KeptT N b w w' := h.trans (KeptT.of_below hb (Nat.le_trans hN h.size))
theorem KeptT.ahead {N b : Nat} {w w0 w1 : World} (hb : Below w.heap.size w w0) (hN : N ≤ w.heap.size) (h : KeptT N b w0 w1) : KeptT N b w w1 := (KeptT.of_below hb hN).trans h
theorem KeptT.setNew {N b : Nat} {w w1 : World} (h : KeptT N b w w1) (hN : N ≤ w.heap.size) (g o : Nat) (u : Value) (hg : w.heap.size ≤ g) : KeptT N b w (w1.setCell ⟨g, o, none⟩ u) :=
  ⟨h.os, h.tape, h.output, by simpa using h.size, fun k hk => by
    rw [Below.heap_setCell w1 ⟨g, o, none⟩ u k (fun e => by have e : k = g := e; omega)]; exact h.low k hk, fun k c T h1 h2 h3 h4 => by
    have := heap_lt h1
    rw [Below.heap_setCell w1 ⟨g, o, none⟩ u k (fun e => by have e : k = g := e; omega)]; exact h.typed k c T h1 h2 h3 h4⟩
theorem KeptT.toBelow {N b : Nat} {w w' : World} (h : KeptT N b w w') : Below N w w' := ⟨h.os, h.tape, h.output, h.size, h.low⟩
theorem ownsF_block {α : Type} {f : α → List Value} {E k : Nat} {w w' : World} {B : Nat} {v : Value} {l : List α} (h : OwnsF f E k w B v l) (hw : ∀ g, v.ownBlock = some g → w'.heap[g]? = w.heap[g]?) : OwnsF f E k w' B v l := by
  refine ⟨h.1, ?_⟩
  rcases h.2 with ⟨rfl, hn⟩ | ⟨g, cap, cur, rfl, hb, hg, rest⟩
  · exact Or.inl ⟨rfl, hn⟩
  · exact Or.inr ⟨g, cap, cur, rfl, hb, (hw g rfl).trans hg, rest⟩
structure PSt (N b : Nat) (lv cv : Value) (p : PartD) (w : World) : Prop where
  core : CoreSt N b cv p.fCore w
  c5 : w.cell? ⟨b, 5, none⟩ = some lv
  own : OwnsF cLayer 86 2 w N lv p.fLayers
  ne : lv.ownBlock ≠ some b
theorem PSt.apart {N b : Nat} {lv cv : Value} {p : PartD} {w : World} (h : PSt N b lv cv p w) : ∀ g, lv.ownBlock = some g → cv.ownBlock ≠ some g := by
  intro g e e2
  rcases rows_apart h.own h.core.own (by decide) with h1 | h1
  · rw [h1] at e; cases e
  · exact h1 (by rw [e, e2])
theorem PSt.below {N b : Nat} {lv cv : Value} {p : PartD} {w w' : World} (h : PSt N b lv cv p w) (hb : Below w.heap.size w w') : PSt N b lv cv p w' :=
  ⟨h.core.below hb, (hb.cell (p := ⟨b, 5, none⟩) h.core.box.lt).trans h.c5, ownsF_below h.own hb (Nat.le_refl _), h.ne⟩
theorem PSt.coreDone {N b : Nat} {lv cv cv' : Value} {p : PartD} {d : CoreD} {w w' : World} (h : PSt N b lv cv p w) (hs : CoreSt N b cv' d w') (hk : Kept2 w w' (some b) cv.ownBlock) : PSt N b lv cv' ⟨d, p.fLayers⟩ w' ∧ KeptT N b w w' := by
  refine ⟨⟨hs, (hk.tail b 5 h.core.box.lt rfl (h.core.ne) (by decide)).1.trans h.c5, ownsF_block h.own fun g e => ?_, h.ne⟩, ⟨hk.os, hk.tape, hk.output, hk.size, fun k h1 => hk.block k (by have := h.core.ge; have := h.core.box.lt; omega) (fun e => by injection e with e; have := h.core.ge; omega) (fun e => by have := (World.ownsRow.lt h.core.own k e.symm).1; omega), fun k c T h1 h2 h3 h4 => hk.block k (heap_lt h1) (fun e => h2 (by injection e)) (fun e => row_ne h.core.own h1 (fun e => h3 e.symm) e.symm)⟩⟩
  have hlt := (World.ownsRow.lt h.own g e).2
  exact hk.block g hlt (fun e2 => by injection e2 with e2; subst e2; exact h.ne e) (fun e2 => h.apart g e e2.symm)
structure Loc (w : World) (n : Nat) (T : TypeId) (cs : List Value) : Prop where
  bx : Bx w n cs
  ty : ∃ c, w.heap[n]? = some (.cells c T (0, 0))
theorem Loc.new (w : World) (cs : List Value) (T : TypeId) : Loc (w.alloc (.cells cs.toArray T)) w.heap.size T cs := ⟨Bx.new w cs T, _, heap_alloc_new w _⟩
theorem Loc.below {w w' : World} {n : Nat} {T : TypeId} {cs : List Value} (h : Loc w n T cs) (hb : Below w.heap.size w w') : Loc w' n T cs := ⟨h.bx.below hb, by obtain ⟨c, hc⟩ := h.ty; exact ⟨c, (hb.block n h.bx.lt).trans hc⟩⟩
theorem Loc.past {w : World} {n : Nat} {T : TypeId} {cs : List Value} (h : Loc w n T cs) (o : Obj) : Loc (w.alloc o) n T cs := h.below (bx_box _ _)
theorem Loc.other {w : World} {n g : Nat} {T : TypeId} {cs : List Value} (h : Loc w n T cs) (hne : n ≠ g) (o : Nat) (u : Value) : Loc (w.setCell ⟨g, o, none⟩ u) n T cs :=
  ⟨h.bx.other hne o u, by obtain ⟨c, hc⟩ := h.ty; exact ⟨c, (Below.heap_setCell w ⟨g, o, none⟩ u n (fun e => hne e)).trans hc⟩⟩
theorem Loc.set {w : World} {n : Nat} {T : TypeId} {cs : List Value} (h : Loc w n T cs) (j : Nat) (hj : j < cs.length) (u : Value) : Loc (w.setCell ⟨n, j, none⟩ u) n T (cs.set j u) :=
  ⟨h.bx.set j hj u, by obtain ⟨c, hc⟩ := h.ty; exact ⟨_, heap_setCell_same w n j c T u hc⟩⟩
theorem row_neT {α : Type} {f : α → List Value} {E k : Nat} {w : World} {N n : Nat} {v : Value} {l : List α} {T : TypeId} {cs : List Value} (h : OwnsF f E k w N v l) (hL : Loc w n T cs) (hne : E ≠ T) : v.ownBlock ≠ some n := by
  intro e
  rcases h.2 with ⟨rfl, _⟩ | ⟨g, cap, cur, rfl, _, hg, _⟩
  · simp [Value.ownBlock] at e
  · have e2 : g = n := by simpa [Value.ownBlock] using e
    subst e2
    obtain ⟨c, hc⟩ := hL.ty
    rw [hg] at hc
    injection hc with hc; injection hc with h1 h2 h3; exact hne h2
theorem Loc.stays {w w' : World} {N n b : Nat} {T : TypeId} {cs : List Value} (h : Loc w n T cs) (hk : KeptT N b w w') (h1 : n ≠ b) (hC : 139 ≠ T) (hL : 86 ≠ T) : Loc w' n T cs := by
  obtain ⟨c, hc⟩ := h.ty
  have e := hk.typed n c T hc h1 hC hL
  exact ⟨⟨Nat.lt_of_lt_of_le h.bx.lt hk.size, fun j hj => (World.cell?_of_block e).trans (h.bx.cell j hj), fun j hj => (World.frozen?_of_block e).trans (h.bx.froz j hj)⟩, c, e.trans hc⟩
structure Ready (mx : Int) (N b : Nat) (lv cv : Value) (k0 : List UInt8) (nms : List (List UInt8)) (p : PartD) (w : World) : Prop where
  st : PSt N b lv cv p w
  hN : N ≤ w.heap.size
  ok : partB p = true
  kind : p.fCore.fKind = k0
  names : p.fLayers.map (·.fName) = nms
  gN : 0 < N
  hM : w.cell? ⟨0, 0, none⟩ = some (.int .i64 mx)
theorem Ready.below {mx : Int} {N b : Nat} {lv cv : Value} {k0 : List UInt8} {nms : List (List UInt8)} {p : PartD} {w w' : World} (h : Ready mx N b lv cv k0 nms p w) (hb : Below w.heap.size w w') : Ready mx N b lv cv k0 nms p w' :=
  ⟨h.st.below hb, Nat.le_trans h.hN hb.size, h.ok, h.kind, h.names, h.gN, (hb.cell (p := ⟨0, 0, none⟩) (Nat.lt_of_lt_of_le h.gN h.hN)).trans h.hM⟩
theorem Ready.next {mx : Int} {N b : Nat} {lv cv cv' : Value} {k0 : List UInt8} {nms : List (List UInt8)} {p q : PartD} {w w' : World} (h : Ready mx N b lv cv k0 nms p w) (hs : PSt N b lv cv' q w') (hk : KeptT N b w w') (ho : partB q = true) (h1 : q.fCore.fKind = p.fCore.fKind) (h2 : q.fLayers.map (·.fName) = p.fLayers.map (·.fName)) : Ready mx N b lv cv' k0 nms q w' := by
  refine ⟨hs, Nat.le_trans h.hN hk.size, ho, h1.trans h.kind, h2.trans h.names, h.gN, ?_⟩
  have hb := hk.toBelow
  exact (hb.cell (p := ⟨0, 0, none⟩) h.gN).trans h.hM
def Does4 (N b : Nat) (lv : Value) (out : PartD × ReplyD) (w : World) (e : Ending) (w' : World) : Prop :=
  e = .returned (vReply out.2) ∧ ∃ cv', PSt N b lv cv' out.1 w' ∧ KeptT N b w w'
def MthOk (mx : Int) (N b : Nat) (lv : Value) (k0 : List UInt8) (nms : List (List UInt8)) (n : Nat) (Fs : List FuncId) (T : TypeId) (V : Value) (nm : String) (args : Array Value) (x : CallD) : Prop :=
  ∃ (F : FuncId) (rcv : Value), F ∈ Fs ∧ (∀ (fuel : Nat) (w : World), (method (fuel + n + 1) T V nm).run Tryz.prog w = .ok (F, rcv) w) ∧ (∀ (fuel : Nat) (w : World), (nilAhead (fuel + n + 1) T V nm).run Tryz.prog w = .ok (some false) w) ∧
    ∀ (p : PartD) (cv : Value) (w : World), Ready mx N b lv cv k0 nms p w → Calls Tryz.prog F (#[rcv] ++ args) w fun e w' => Does4 N b lv (lyDo n p x) w e w'
end Go.Proofs.YtcpbikilgacdlaaGreat
namespace Go.Proofs.YtcpbikilgacdlaaGreat
set_option linter.unusedVariables false
set_option linter.unusedSimpArgs false
open Go.RowKit
theorem flat_set2 {α : Type} {f : α → List Value} (hk : ∀ y, (f y).length = 2) (x : List α) (j : Nat) (hj : j < x.length) (z : α) (u : Value) (hz : f z = (f x[j]).set 1 u) : (x.flatMap f).set (j * 2 + 1) u = (x.set j z).flatMap f := by
  refine List.ext_getElem? fun m => ?_
  have hm : m / 2 * 2 + m % 2 = m := by omega
  have hr : m % 2 < 2 := Nat.mod_lt _ (by decide)
  by_cases hq : m / 2 < x.length
  · have e1 := flat_get f 2 hk x (m / 2) hq (m % 2) hr
    have e2 := flat_get f 2 hk (x.set j z) (m / 2) (by simpa using hq) (m % 2) hr
    rw [hm] at e1 e2
    rw [e2, List.getElem?_set]
    by_cases hjm : j * 2 + 1 = m
    · subst hjm
      have hjj : (j * 2 + 1) / 2 = j := by omega
      have hjr : (j * 2 + 1) % 2 = 1 := by omega
      have hlen := flat_len f 2 hk x
      simp only [hjj, hjr, List.getElem_set_self, if_true]
      rw [if_pos (by rw [hlen]; omega), hz, List.getElem?_set]
      simp [hk]
    · rw [if_neg hjm, e1, List.getElem_set]
      split
      · rename_i hjq
        have hmr : m % 2 = 0 := by omega
        rw [hz, hmr, List.getElem?_set_ne (by decide)]
        subst hjq; rfl
      · rfl
  · have hlen := flat_len f 2 hk x
    have hlen2 := flat_len f 2 hk (x.set j z)
    rw [List.getElem?_eq_none (by rw [List.length_set, hlen]; omega), List.getElem?_eq_none (by rw [hlen2, List.length_set]; omega)]
theorem PSt.lay {N b g m cap : Nat} {cv : Value} {p : PartD} {w : World} (h : PSt N b (.slice (some ⟨g, 0, none⟩) m cap) cv p w) (i : Nat) (hi : i < p.fLayers.length) :
    w.cell? ⟨g, i * 2, none⟩ = some (.string ⟨(nmL p i).toArray⟩) ∧ w.cell? ⟨g, i * 2 + 1, none⟩ = some (.int .i64 (cntL p i)) ∧ w.frozen? ⟨g, i * 2 + 1, none⟩ = false ∧ g < w.heap.size ∧ g ≠ b ∧ m = p.fLayers.length ∧ N ≤ g := by
  have hl := h.own.1
  have hm : m = p.fLayers.length := by
    rcases h.own.2 with ⟨e, hn⟩ | ⟨g2, cap2, cur, e, _⟩
    · injection e with e1; cases e1
    · injection e
  subst hm
  have e : p.fLayers.getD i default = p.fLayers[i] := by rw [List.getD_eq_getElem?_getD, List.getElem?_eq_getElem hi]; rfl
  have f0 := flat_get cLayer 2 cLayer_len p.fLayers i hi 0 (by decide)
  have f1 := flat_get cLayer 2 cLayer_len p.fLayers i hi 1 (by decide)
  refine ⟨?_, ?_, World.ownsRow.frozenAt h.own _, (World.ownsRow.lt h.own g rfl).2, fun e => h.ne (by rw [e]; rfl), rfl, (World.ownsRow.lt h.own g rfl).1⟩
  · rw [World.ownsRow.cellAt h.own (i * 2) (by omega)]
    rw [Nat.add_zero] at f0; rw [f0]; unfold nmL; rw [e]; rfl
  · rw [World.ownsRow.cellAt h.own (i * 2 + 1) (by omega), f1]; unfold cntL; rw [e]; rfl
theorem PSt.cnt {N b g m cap : Nat} {cv : Value} {p : PartD} {w : World} (h : PSt N b (.slice (some ⟨g, 0, none⟩) m cap) cv p w) (i : Nat) (hi : i < p.fLayers.length) :
    PSt N b (.slice (some ⟨g, 0, none⟩) m cap) cv (updL p i) (w.setCell ⟨g, i * 2 + 1, none⟩ (.int .i64 (upI (cntL p i)))) ∧ KeptT N b w (w.setCell ⟨g, i * 2 + 1, none⟩ (.int .i64 (upI (cntL p i)))) := by
  obtain ⟨_, _, _, hgl, hgb, hm, hNg⟩ := h.lay i hi
  subst hm
  have hs := World.ownsRow.stored h.own (i * 2 + 1) (.int .i64 (upI (cntL p i)))
  have hap := h.apart g rfl
  have hblk : ∀ k, k ≠ g → (w.setCell ⟨g, i * 2 + 1, none⟩ (.int .i64 (upI (cntL p i)))).heap[k]? = w.heap[k]? := fun k hk => Below.heap_setCell w ⟨g, i * 2 + 1, none⟩ _ k (fun e => hk e)
  refine ⟨⟨⟨h.core.box.keep (hblk b (fun e => hgb e.symm)), ownsF_block h.core.own fun k e => hblk k (fun e2 => hap (by rw [e, e2])), h.core.ne, h.core.ge⟩, (World.cell?_of_block (hblk b (fun e => hgb e.symm))).trans h.c5, ?_, h.ne⟩,
    ⟨rfl, rfl, rfl, by simp, fun k hk => hblk k (by omega), fun k c T h1 h2 h3 h4 => hblk k (fun e => ?_)⟩⟩
  · unfold OwnsF updL
    simp only [List.length_set]
    have e : p.fLayers.getD i default = p.fLayers[i] := by rw [List.getD_eq_getElem?_getD, List.getElem?_eq_getElem hi]; rfl
    rw [← flat_set2 cLayer_len p.fLayers i hi ⟨(p.fLayers.getD i default).fName, upI (p.fLayers.getD i default).fCount⟩ (.int .i64 (upI (cntL p i))) (by rw [e]; unfold cntL; rw [e]; rfl)]
    exact hs.1
  · subst e
    rcases h.own.2 with ⟨e, hn⟩ | ⟨g2, cap2, cur, e, _, hg2, _⟩
    · injection e with e1; cases e1
    · injection e with e1 _ _; injection e1 with e1; injection e1 with e1 _ _; subst e1
      rw [hg2] at h1; injection h1 with h1; injection h1 with _ e3 _; exact h4 e3
theorem cnt_range {p : PartD} (h : partB p = true) (i : Nat) (hi : i < p.fLayers.length) : 0 ≤ cntL p i ∧ cntL p i ≤ 999 := by
  have h1 := partB_lay h i hi
  unfold layOk at h1
  simp only [Bool.and_eq_true] at h1
  have h2 := h1.2
  unfold cntB at h2
  unfold cntL
  split at h2
  · simpa [numB] using h2
  · have : (p.fLayers.getD i default).fCount = 0 := by simpa using h2
    omega
set_option maxRecDepth 100000 in
set_option maxHeartbeats 1600000 in
theorem countCall_c (N b g m cap i : Nat) (cv : Value) (p : PartD) (w : World) (h : PSt N b (.slice (some ⟨g, 0, none⟩) m cap) cv p w) (hN : N ≤ w.heap.size) (hi : i < p.fLayers.length) (hr : 0 ≤ cntL p i ∧ cntL p i ≤ 999) :
    Calls Tryz.prog 229 #[.agg #[.pointer (some ⟨g, i * 2, none⟩)]] w fun e w' => e = .returned (.tuple #[]) ∧ PSt N b (.slice (some ⟨g, 0, none⟩) m cap) cv (updL p i) w' ∧ KeptT N b w w' := by
  obtain ⟨_, d1, z1, hgl, _, hm0, _⟩ := h.lay i hi
  clear hm0
  have HC := Lib.hid (h.cnt i hi)
  have HK := Lib.hid h
  have hNs := Lib.hid hN
  obtain ⟨r0, r1⟩ := hr
  clear h hN
  by_cases hn : cntL p i < 999
  · have hu : upI (cntL p i) = cntL p i + 1 := if_pos hn
    have hw : IntKind.i64.wrap (cntL p i + 1) = cntL p i + 1 := by rw [IntKind.wrap_i64]; omega
    rw [hu] at HC
    generalize cntL p i = c at *
    go_enter Tryz.func229, Tryz.ntmps229
    go_wp2_with fail
    go_end0
    exact ⟨rfl, HC.out.1.below (bx_box _ _), HC.out.2.below (bx_box _ _) hNs.out⟩
  · have hu : upI (cntL p i) = cntL p i := if_neg hn
    have he : updL p i = p := by
      unfold updL
      obtain ⟨pc, pl⟩ := p
      simp only at hi ⊢
      unfold cntL at hu
      simp only at hu
      rw [hu]
      congr 1
      rw [List.getD_eq_getElem?_getD, List.getElem?_eq_getElem hi]
      exact List.set_getElem_self hi
    rw [he]
    generalize cntL p i = c at *
    go_enter Tryz.func229, Tryz.ntmps229
    go_wp2_with fail
    go_end0
    exact ⟨rfl, HK.out.below (bx_box _ _), KeptT.of_below (bx_box _ _) hNs.out⟩
theorem PSt.setL {N b n : Nat} {lv cv : Value} {p : PartD} {w : World} {T : TypeId} {cs : List Value} (h : PSt N b lv cv p w) (hL : Loc w n T cs) (hne : n ≠ b) (hC : 139 ≠ T) (hY : 86 ≠ T) (j : Nat) (u : Value) : PSt N b lv cv p (w.setCell ⟨n, j, none⟩ u) := by
  have hblk : ∀ k, k ≠ n → (w.setCell ⟨n, j, none⟩ u).heap[k]? = w.heap[k]? := fun k hk => Below.heap_setCell w ⟨n, j, none⟩ _ k (fun e => hk e)
  exact ⟨⟨h.core.box.keep (hblk b (fun e => hne e.symm)), ownsF_block h.core.own fun k e => hblk k (fun e2 => row_neT h.core.own hL hC (by rw [e, e2])), h.core.ne, h.core.ge⟩, (World.cell?_of_block (hblk b (fun e => hne e.symm))).trans h.c5, ownsF_block h.own fun k e => hblk k (fun e2 => row_neT h.own hL hY (by rw [e, e2])), h.ne⟩
theorem done5 {N b n : Nat} {lv cv : Value} {q : PartD} {w w1 : World} {c0 c1 c2 c3 c4 : Value} (r : ReplyD) (h : PSt N b lv cv q w1) (hk : KeptT N b w w1) (hL : Loc w1 n 39 [c0, c1, c2, c3, c4]) (hne : n ≠ b) (hn : w.heap.size ≤ n) (hN : N ≤ w.heap.size) (u0 u1 u2 u3 u4 : Value) :
    Does4 N b lv (q, r) w (.returned (vReply r)) (((((w1.setCell ⟨n, 0, none⟩ u0).setCell ⟨n, 1, none⟩ u1).setCell ⟨n, 2, none⟩ u2).setCell ⟨n, 3, none⟩ u3).setCell ⟨n, 4, none⟩ u4) := by
  have a0 := h.setL hL hne (by decide) (by decide) 0 u0
  have L0 := hL.set 0 (by simp) u0
  have a1 := a0.setL L0 hne (by decide) (by decide) 1 u1
  have L1 := L0.set 1 (by simp) u1
  have a2 := a1.setL L1 hne (by decide) (by decide) 2 u2
  have L2 := L1.set 2 (by simp) u2
  have a3 := a2.setL L2 hne (by decide) (by decide) 3 u3
  have L3 := L2.set 3 (by simp) u3
  have a4 := a3.setL L3 hne (by decide) (by decide) 4 u4
  exact ⟨rfl, cv, a4, ((((hk.setNew hN n 0 u0 hn).setNew hN n 1 u1 hn).setNew hN n 2 u2 hn).setNew hN n 3 u3 hn).setNew hN n 4 u4 hn⟩
theorem Ready.len {mx : Int} {N b : Nat} {lv cv : Value} {k0 : List UInt8} {nms : List (List UInt8)} {p : PartD} {w : World} (h : Ready mx N b lv cv k0 nms p w) : p.fLayers.length = nms.length := by
  have := congrArg List.length h.names; simpa using this
theorem Ready.nm {mx : Int} {N b : Nat} {lv cv : Value} {k0 : List UInt8} {nms : List (List UInt8)} {p : PartD} {w : World} (h : Ready mx N b lv cv k0 nms p w) (n : Nat) : nmL p n = nms.getD n [] := by
  rw [← h.names]
  unfold nmL
  rw [List.getD_eq_getElem?_getD, List.getD_eq_getElem?_getD, List.getElem?_map]
  cases p.fLayers[n]? <;> rfl
abbrev FsStart : List FuncId := [194]
abbrev FsStop : List FuncId := [195]
abbrev FsGet : List FuncId := [197, 232, 235]
abbrev FsPut : List FuncId := [198, 233, 236, 237]
abbrev FsTell : List FuncId := [206, 234, 240]
end Go.Proofs.YtcpbikilgacdlaaGreat
namespace Go.Proofs.YtcpbikilgacdlaaGreat
set_option linter.unusedVariables false
open Go.RowKit
set_option maxRecDepth 100000 in
set_option maxHeartbeats 3200000 in
theorem implIsCall_Start (key : List UInt8) (v : Int) (text : List UInt8) (w : World) (hk : key.length ≤ maxLen) :
    Calls Tryz.prog 44 #[.agg #[.string ⟨#[83, 116, 97, 114, 116]⟩, .string ⟨key.toArray⟩, .int .i64 v, .string ⟨text.toArray⟩]] w fun e w' => e = .returned (.bool (callB ⟨mStart, key, v, text⟩)) ∧ Below w.heap.size w w' := by
  have HR := Lib.hid (show callB ⟨mStart, key, v, text⟩ = (key.isEmpty && (v == 0) && (text.isEmpty || false)) from rfl)
  have HW := Lib.hid (show ∀ w0, Calls Tryz.prog 46 #[.string ⟨#[83, 116, 97, 114, 116]⟩] w0 fun e w' => e = .returned (.int .i64 1) ∧ Below w0.heap.size w0 w' from fun w0 => implWant_b mStart 1 rfl w0)
  have HTK := Lib.hid (show ∀ w0, Calls Tryz.prog 89 #[.string ⟨#[83, 116, 97, 114, 116]⟩] w0 fun e w' => e = .returned (.bool false) ∧ w0 = w' from takesKey_b mStart _ rfl)
  have HTV := Lib.hid (show ∀ w0, Calls Tryz.prog 91 #[.string ⟨#[83, 116, 97, 114, 116]⟩] w0 fun e w' => e = .returned (.bool false) ∧ w0 = w' from takesValue_b mStart _ rfl)
  have HTT := Lib.hid (show ∀ w0, Calls Tryz.prog 93 #[.string ⟨#[83, 116, 97, 114, 116]⟩] w0 fun e w' => e = .returned (.bool false) ∧ w0 = w' from takesText_b mStart _ rfl)
  generalize callB ⟨mStart, key, v, text⟩ = res at *
  clear hk
  have HB0 := Lib.hid (show ∀ o, Below w.heap.size w (w.alloc o) from fun o => (Below.refl w.heap.size w).alloc (Nat.le_refl _) o)
  go_enter Tryz.func44, Tryz.ntmps44
  go_wp2_with fail
  refine (HW.out _).mono ?_
  rintro e w1 ⟨rfl, hb⟩
  have HB := Lib.hid ((HB0.out _).trans (hb.mono (HB0.out _).size))
  obtain ⟨hcc, _⟩ := bcell hb
  simp at hcc
  have c0 := hcc w.heap.size 0 (by omega)
  have c1 := hcc w.heap.size 1 (by omega)
  have c2 := hcc w.heap.size 2 (by omega)
  have c3 := hcc w.heap.size 3 (by omega)
  simp at c0 c1 c2 c3
  clear hb hcc
  cases key <;> cases text
  all_goals
    by_cases h0 : v = 0
    · subst h0
      go_wp2_with (first | (go_at_call 89; (with_reducible refine (HTK.out _).mono ?_); rintro e w' ⟨rfl, rfl⟩) | (go_at_call 91; (with_reducible refine (HTV.out _).mono ?_); rintro e w' ⟨rfl, rfl⟩) | (go_at_call 93; (with_reducible refine (HTT.out _).mono ?_); rintro e w' ⟨rfl, rfl⟩))
      go_ret
      exact ⟨ret_bool (by rw [HR.out]; rfl), HB.out⟩
    · have hv0 : (v == 0) = false := by simpa using h0
      rw [hv0] at HR
      clear h0
      go_wp2_with (first | (go_at_call 89; (with_reducible refine (HTK.out _).mono ?_); rintro e w' ⟨rfl, rfl⟩) | (go_at_call 91; (with_reducible refine (HTV.out _).mono ?_); rintro e w' ⟨rfl, rfl⟩) | (go_at_call 93; (with_reducible refine (HTT.out _).mono ?_); rintro e w' ⟨rfl, rfl⟩))
      go_ret
      exact ⟨ret_bool (by rw [HR.out]; rfl), HB.out⟩
set_option maxRecDepth 100000 in
set_option maxHeartbeats 3200000 in
theorem implIsCall_Stop (key : List UInt8) (v : Int) (text : List UInt8) (w : World) (hk : key.length ≤ maxLen) :
    Calls Tryz.prog 44 #[.agg #[.string ⟨#[83, 116, 111, 112]⟩, .string ⟨key.toArray⟩, .int .i64 v, .string ⟨text.toArray⟩]] w fun e w' => e = .returned (.bool (callB ⟨mStop, key, v, text⟩)) ∧ Below w.heap.size w w' := by
  have HR := Lib.hid (show callB ⟨mStop, key, v, text⟩ = (key.isEmpty && (v == 0) && (text.isEmpty || false)) from rfl)
  have HW := Lib.hid (show ∀ w0, Calls Tryz.prog 46 #[.string ⟨#[83, 116, 111, 112]⟩] w0 fun e w' => e = .returned (.int .i64 1) ∧ Below w0.heap.size w0 w' from fun w0 => implWant_b mStop 1 rfl w0)
  have HTK := Lib.hid (show ∀ w0, Calls Tryz.prog 89 #[.string ⟨#[83, 116, 111, 112]⟩] w0 fun e w' => e = .returned (.bool false) ∧ w0 = w' from takesKey_b mStop _ rfl)
  have HTV := Lib.hid (show ∀ w0, Calls Tryz.prog 91 #[.string ⟨#[83, 116, 111, 112]⟩] w0 fun e w' => e = .returned (.bool false) ∧ w0 = w' from takesValue_b mStop _ rfl)
  have HTT := Lib.hid (show ∀ w0, Calls Tryz.prog 93 #[.string ⟨#[83, 116, 111, 112]⟩] w0 fun e w' => e = .returned (.bool false) ∧ w0 = w' from takesText_b mStop _ rfl)
  generalize callB ⟨mStop, key, v, text⟩ = res at *
  clear hk
  have HB0 := Lib.hid (show ∀ o, Below w.heap.size w (w.alloc o) from fun o => (Below.refl w.heap.size w).alloc (Nat.le_refl _) o)
  go_enter Tryz.func44, Tryz.ntmps44
  go_wp2_with fail
  refine (HW.out _).mono ?_
  rintro e w1 ⟨rfl, hb⟩
  have HB := Lib.hid ((HB0.out _).trans (hb.mono (HB0.out _).size))
  obtain ⟨hcc, _⟩ := bcell hb
  simp at hcc
  have c0 := hcc w.heap.size 0 (by omega)
  have c1 := hcc w.heap.size 1 (by omega)
  have c2 := hcc w.heap.size 2 (by omega)
  have c3 := hcc w.heap.size 3 (by omega)
  simp at c0 c1 c2 c3
  clear hb hcc
  cases key <;> cases text
  all_goals
    by_cases h0 : v = 0
    · subst h0
      go_wp2_with (first | (go_at_call 89; (with_reducible refine (HTK.out _).mono ?_); rintro e w' ⟨rfl, rfl⟩) | (go_at_call 91; (with_reducible refine (HTV.out _).mono ?_); rintro e w' ⟨rfl, rfl⟩) | (go_at_call 93; (with_reducible refine (HTT.out _).mono ?_); rintro e w' ⟨rfl, rfl⟩))
      go_ret
      exact ⟨ret_bool (by rw [HR.out]; rfl), HB.out⟩
    · have hv0 : (v == 0) = false := by simpa using h0
      rw [hv0] at HR
      clear h0
      go_wp2_with (first | (go_at_call 89; (with_reducible refine (HTK.out _).mono ?_); rintro e w' ⟨rfl, rfl⟩) | (go_at_call 91; (with_reducible refine (HTV.out _).mono ?_); rintro e w' ⟨rfl, rfl⟩) | (go_at_call 93; (with_reducible refine (HTT.out _).mono ?_); rintro e w' ⟨rfl, rfl⟩))
      go_ret
      exact ⟨ret_bool (by rw [HR.out]; rfl), HB.out⟩
set_option maxRecDepth 100000 in
set_option maxHeartbeats 3200000 in
theorem implIsCall_Get (key : List UInt8) (v : Int) (text : List UInt8) (w : World) (hk : key.length ≤ maxLen) :
    Calls Tryz.prog 44 #[.agg #[.string ⟨#[71, 101, 116]⟩, .string ⟨key.toArray⟩, .int .i64 v, .string ⟨text.toArray⟩]] w fun e w' => e = .returned (.bool (callB ⟨mGet, key, v, text⟩)) ∧ Below w.heap.size w w' := by
  have HR := Lib.hid (show callB ⟨mGet, key, v, text⟩ = (nameB key && (v == 0) && (text.isEmpty || false)) from rfl)
  have HW := Lib.hid (show ∀ w0, Calls Tryz.prog 46 #[.string ⟨#[71, 101, 116]⟩] w0 fun e w' => e = .returned (.int .i64 2) ∧ Below w0.heap.size w0 w' from fun w0 => implWant_b mGet 2 rfl w0)
  have HN := Lib.hid (implIsName_b key _ rfl hk)
  have HTK := Lib.hid (show ∀ w0, Calls Tryz.prog 89 #[.string ⟨#[71, 101, 116]⟩] w0 fun e w' => e = .returned (.bool true) ∧ w0 = w' from takesKey_b mGet _ rfl)
  have HTV := Lib.hid (show ∀ w0, Calls Tryz.prog 91 #[.string ⟨#[71, 101, 116]⟩] w0 fun e w' => e = .returned (.bool false) ∧ w0 = w' from takesValue_b mGet _ rfl)
  have HTT := Lib.hid (show ∀ w0, Calls Tryz.prog 93 #[.string ⟨#[71, 101, 116]⟩] w0 fun e w' => e = .returned (.bool false) ∧ w0 = w' from takesText_b mGet _ rfl)
  generalize callB ⟨mGet, key, v, text⟩ = res at *
  generalize nameB key = kn at *
  clear hk
  have HB0 := Lib.hid (show ∀ o, Below w.heap.size w (w.alloc o) from fun o => (Below.refl w.heap.size w).alloc (Nat.le_refl _) o)
  go_enter Tryz.func44, Tryz.ntmps44
  go_wp2_with fail
  refine (HW.out _).mono ?_
  rintro e w1 ⟨rfl, hb⟩
  have HB := Lib.hid ((HB0.out _).trans (hb.mono (HB0.out _).size))
  obtain ⟨hcc, _⟩ := bcell hb
  simp at hcc
  have c0 := hcc w.heap.size 0 (by omega)
  have c1 := hcc w.heap.size 1 (by omega)
  have c2 := hcc w.heap.size 2 (by omega)
  have c3 := hcc w.heap.size 3 (by omega)
  simp at c0 c1 c2 c3
  clear hb hcc
  cases kn <;> cases text
  all_goals
    by_cases h0 : v = 0
    · subst h0
      go_wp2_with (first | (go_at_call 90; (with_reducible refine (HN.out _).mono ?_); rintro e w' ⟨rfl, rfl⟩) | (go_at_call 89; (with_reducible refine (HTK.out _).mono ?_); rintro e w' ⟨rfl, rfl⟩) | (go_at_call 91; (with_reducible refine (HTV.out _).mono ?_); rintro e w' ⟨rfl, rfl⟩) | (go_at_call 93; (with_reducible refine (HTT.out _).mono ?_); rintro e w' ⟨rfl, rfl⟩))
      go_ret
      exact ⟨ret_bool (by rw [HR.out]; rfl), HB.out⟩
    · have hv0 : (v == 0) = false := by simpa using h0
      rw [hv0] at HR
      clear h0
      go_wp2_with (first | (go_at_call 90; (with_reducible refine (HN.out _).mono ?_); rintro e w' ⟨rfl, rfl⟩) | (go_at_call 89; (with_reducible refine (HTK.out _).mono ?_); rintro e w' ⟨rfl, rfl⟩) | (go_at_call 91; (with_reducible refine (HTV.out _).mono ?_); rintro e w' ⟨rfl, rfl⟩) | (go_at_call 93; (with_reducible refine (HTT.out _).mono ?_); rintro e w' ⟨rfl, rfl⟩))
      go_ret
      exact ⟨ret_bool (by rw [HR.out]; rfl), HB.out⟩
end Go.Proofs.YtcpbikilgacdlaaGreat
namespace Go.Proofs.YtcpbikilgacdlaaGreat
set_option linter.unusedVariables false
open Go.RowKit
set_option maxRecDepth 100000 in
set_option maxHeartbeats 3200000 in
theorem implIsCall_Put (key : List UInt8) (v : Int) (text : List UInt8) (w : World) (hk : key.length ≤ maxLen) :
    Calls Tryz.prog 44 #[.agg #[.string ⟨#[80, 117, 116]⟩, .string ⟨key.toArray⟩, .int .i64 v, .string ⟨text.toArray⟩]] w fun e w' => e = .returned (.bool (callB ⟨mPut, key, v, text⟩)) ∧ Below w.heap.size w w' := by
  have HR := Lib.hid (show callB ⟨mPut, key, v, text⟩ = (nameB key && numB v && (text.isEmpty || false)) from rfl)
  have HW := Lib.hid (show ∀ w0, Calls Tryz.prog 46 #[.string ⟨#[80, 117, 116]⟩] w0 fun e w' => e = .returned (.int .i64 2) ∧ Below w0.heap.size w0 w' from fun w0 => implWant_b mPut 2 rfl w0)
  have HN := Lib.hid (implIsName_b key _ rfl hk)
  have HTK := Lib.hid (show ∀ w0, Calls Tryz.prog 89 #[.string ⟨#[80, 117, 116]⟩] w0 fun e w' => e = .returned (.bool true) ∧ w0 = w' from takesKey_b mPut _ rfl)
  have HTV := Lib.hid (show ∀ w0, Calls Tryz.prog 91 #[.string ⟨#[80, 117, 116]⟩] w0 fun e w' => e = .returned (.bool true) ∧ w0 = w' from takesValue_b mPut _ rfl)
  have HTT := Lib.hid (show ∀ w0, Calls Tryz.prog 93 #[.string ⟨#[80, 117, 116]⟩] w0 fun e w' => e = .returned (.bool false) ∧ w0 = w' from takesText_b mPut _ rfl)
  have HNU := Lib.hid (isNumber_b v _ rfl)
  generalize callB ⟨mPut, key, v, text⟩ = res at *
  generalize nameB key = kn at *
  generalize numB v = vn at *
  clear hk
  have HB0 := Lib.hid (show ∀ o, Below w.heap.size w (w.alloc o) from fun o => (Below.refl w.heap.size w).alloc (Nat.le_refl _) o)
  go_enter Tryz.func44, Tryz.ntmps44
  go_wp2_with fail
  refine (HW.out _).mono ?_
  rintro e w1 ⟨rfl, hb⟩
  have HB := Lib.hid ((HB0.out _).trans (hb.mono (HB0.out _).size))
  obtain ⟨hcc, _⟩ := bcell hb
  simp at hcc
  have c0 := hcc w.heap.size 0 (by omega)
  have c1 := hcc w.heap.size 1 (by omega)
  have c2 := hcc w.heap.size 2 (by omega)
  have c3 := hcc w.heap.size 3 (by omega)
  simp at c0 c1 c2 c3
  clear hb hcc
  cases kn <;> cases text <;> cases vn
  all_goals
    go_wp2_with (first | (go_at_call 90; (with_reducible refine (HN.out _).mono ?_); rintro e w' ⟨rfl, rfl⟩) | (go_at_call 89; (with_reducible refine (HTK.out _).mono ?_); rintro e w' ⟨rfl, rfl⟩) | (go_at_call 91; (with_reducible refine (HTV.out _).mono ?_); rintro e w' ⟨rfl, rfl⟩) | (go_at_call 93; (with_reducible refine (HTT.out _).mono ?_); rintro e w' ⟨rfl, rfl⟩) | (go_at_call 92; (with_reducible refine (HNU.out _).mono ?_); rintro e w' ⟨rfl, rfl⟩))
    go_ret
    exact ⟨ret_bool (by rw [HR.out]; rfl), HB.out⟩
set_option maxRecDepth 100000 in
set_option maxHeartbeats 3200000 in
theorem implIsCall_Tell (key : List UInt8) (v : Int) (text : List UInt8) (w : World) (hk : key.length ≤ maxLen) :
    Calls Tryz.prog 44 #[.agg #[.string ⟨#[84, 101, 108, 108]⟩, .string ⟨key.toArray⟩, .int .i64 v, .string ⟨text.toArray⟩]] w fun e w' => e = .returned (.bool (callB ⟨mTell, key, v, text⟩)) ∧ Below w.heap.size w w' := by
  have HR := Lib.hid (show callB ⟨mTell, key, v, text⟩ = (key.isEmpty && (v == 0) && (text.isEmpty || false)) from rfl)
  have HW := Lib.hid (show ∀ w0, Calls Tryz.prog 46 #[.string ⟨#[84, 101, 108, 108]⟩] w0 fun e w' => e = .returned (.int .i64 4) ∧ Below w0.heap.size w0 w' from fun w0 => implWant_b mTell 4 rfl w0)
  have HTK := Lib.hid (show ∀ w0, Calls Tryz.prog 89 #[.string ⟨#[84, 101, 108, 108]⟩] w0 fun e w' => e = .returned (.bool false) ∧ w0 = w' from takesKey_b mTell _ rfl)
  have HTV := Lib.hid (show ∀ w0, Calls Tryz.prog 91 #[.string ⟨#[84, 101, 108, 108]⟩] w0 fun e w' => e = .returned (.bool false) ∧ w0 = w' from takesValue_b mTell _ rfl)
  have HTT := Lib.hid (show ∀ w0, Calls Tryz.prog 93 #[.string ⟨#[84, 101, 108, 108]⟩] w0 fun e w' => e = .returned (.bool false) ∧ w0 = w' from takesText_b mTell _ rfl)
  generalize callB ⟨mTell, key, v, text⟩ = res at *
  clear hk
  have HB0 := Lib.hid (show ∀ o, Below w.heap.size w (w.alloc o) from fun o => (Below.refl w.heap.size w).alloc (Nat.le_refl _) o)
  go_enter Tryz.func44, Tryz.ntmps44
  go_wp2_with fail
  refine (HW.out _).mono ?_
  rintro e w1 ⟨rfl, hb⟩
  have HB := Lib.hid ((HB0.out _).trans (hb.mono (HB0.out _).size))
  obtain ⟨hcc, _⟩ := bcell hb
  simp at hcc
  have c0 := hcc w.heap.size 0 (by omega)
  have c1 := hcc w.heap.size 1 (by omega)
  have c2 := hcc w.heap.size 2 (by omega)
  have c3 := hcc w.heap.size 3 (by omega)
  simp at c0 c1 c2 c3
  clear hb hcc
  cases key <;> cases text
  all_goals
    by_cases h0 : v = 0
    · subst h0
      go_wp2_with (first | (go_at_call 89; (with_reducible refine (HTK.out _).mono ?_); rintro e w' ⟨rfl, rfl⟩) | (go_at_call 91; (with_reducible refine (HTV.out _).mono ?_); rintro e w' ⟨rfl, rfl⟩) | (go_at_call 93; (with_reducible refine (HTT.out _).mono ?_); rintro e w' ⟨rfl, rfl⟩))
      go_ret
      exact ⟨ret_bool (by rw [HR.out]; rfl), HB.out⟩
    · have hv0 : (v == 0) = false := by simpa using h0
      rw [hv0] at HR
      clear h0
      go_wp2_with (first | (go_at_call 89; (with_reducible refine (HTK.out _).mono ?_); rintro e w' ⟨rfl, rfl⟩) | (go_at_call 91; (with_reducible refine (HTV.out _).mono ?_); rintro e w' ⟨rfl, rfl⟩) | (go_at_call 93; (with_reducible refine (HTT.out _).mono ?_); rintro e w' ⟨rfl, rfl⟩))
      go_ret
      exact ⟨ret_bool (by rw [HR.out]; rfl), HB.out⟩
set_option maxRecDepth 100000 in
set_option maxHeartbeats 3200000 in
theorem implIsCall_Hear (key : List UInt8) (v : Int) (text : List UInt8) (w : World) (hk : key.length ≤ maxLen) :
    Calls Tryz.prog 44 #[.agg #[.string ⟨#[72, 101, 97, 114]⟩, .string ⟨key.toArray⟩, .int .i64 v, .string ⟨text.toArray⟩]] w fun e w' => e = .returned (.bool (callB ⟨mHear, key, v, text⟩)) ∧ Below w.heap.size w w' := by
  have HR := Lib.hid (show callB ⟨mHear, key, v, text⟩ = (key.isEmpty && numB v && (text.isEmpty || false)) from rfl)
  have HW := Lib.hid (show ∀ w0, Calls Tryz.prog 46 #[.string ⟨#[72, 101, 97, 114]⟩] w0 fun e w' => e = .returned (.int .i64 8) ∧ Below w0.heap.size w0 w' from fun w0 => implWant_b mHear 8 rfl w0)
  have HTK := Lib.hid (show ∀ w0, Calls Tryz.prog 89 #[.string ⟨#[72, 101, 97, 114]⟩] w0 fun e w' => e = .returned (.bool false) ∧ w0 = w' from takesKey_b mHear _ rfl)
  have HTV := Lib.hid (show ∀ w0, Calls Tryz.prog 91 #[.string ⟨#[72, 101, 97, 114]⟩] w0 fun e w' => e = .returned (.bool true) ∧ w0 = w' from takesValue_b mHear _ rfl)
  have HTT := Lib.hid (show ∀ w0, Calls Tryz.prog 93 #[.string ⟨#[72, 101, 97, 114]⟩] w0 fun e w' => e = .returned (.bool false) ∧ w0 = w' from takesText_b mHear _ rfl)
  have HNU := Lib.hid (isNumber_b v _ rfl)
  generalize callB ⟨mHear, key, v, text⟩ = res at *
  generalize numB v = vn at *
  clear hk
  have HB0 := Lib.hid (show ∀ o, Below w.heap.size w (w.alloc o) from fun o => (Below.refl w.heap.size w).alloc (Nat.le_refl _) o)
  go_enter Tryz.func44, Tryz.ntmps44
  go_wp2_with fail
  refine (HW.out _).mono ?_
  rintro e w1 ⟨rfl, hb⟩
  have HB := Lib.hid ((HB0.out _).trans (hb.mono (HB0.out _).size))
  obtain ⟨hcc, _⟩ := bcell hb
  simp at hcc
  have c0 := hcc w.heap.size 0 (by omega)
  have c1 := hcc w.heap.size 1 (by omega)
  have c2 := hcc w.heap.size 2 (by omega)
  have c3 := hcc w.heap.size 3 (by omega)
  simp at c0 c1 c2 c3
  clear hb hcc
  cases key <;> cases text <;> cases vn
  all_goals
    go_wp2_with (first | (go_at_call 89; (with_reducible refine (HTK.out _).mono ?_); rintro e w' ⟨rfl, rfl⟩) | (go_at_call 91; (with_reducible refine (HTV.out _).mono ?_); rintro e w' ⟨rfl, rfl⟩) | (go_at_call 93; (with_reducible refine (HTT.out _).mono ?_); rintro e w' ⟨rfl, rfl⟩) | (go_at_call 92; (with_reducible refine (HNU.out _).mono ?_); rintro e w' ⟨rfl, rfl⟩))
    go_ret
    exact ⟨ret_bool (by rw [HR.out]; rfl), HB.out⟩
end Go.Proofs.YtcpbikilgacdlaaGreat
namespace Go.Proofs.YtcpbikilgacdlaaGreat
set_option linter.unusedVariables false
open Go.RowKit
set_option maxRecDepth 100000 in
set_option maxHeartbeats 3200000 in
theorem implIsCall_Load (key : List UInt8) (v : Int) (text : List UInt8) (w : World) (hk : key.length ≤ maxLen) :
    Calls Tryz.prog 44 #[.agg #[.string ⟨#[76, 111, 97, 100]⟩, .string ⟨key.toArray⟩, .int .i64 v, .string ⟨text.toArray⟩]] w fun e w' => e = .returned (.bool (callB ⟨mLoad, key, v, text⟩)) ∧ Below w.heap.size w w' := by
  have HR := Lib.hid (show callB ⟨mLoad, key, v, text⟩ = (key.isEmpty && (v == 0) && (text.isEmpty || true)) from rfl)
  have HW := Lib.hid (show ∀ w0, Calls Tryz.prog 46 #[.string ⟨#[76, 111, 97, 100]⟩] w0 fun e w' => e = .returned (.int .i64 16) ∧ Below w0.heap.size w0 w' from fun w0 => implWant_b mLoad 16 rfl w0)
  have HTK := Lib.hid (show ∀ w0, Calls Tryz.prog 89 #[.string ⟨#[76, 111, 97, 100]⟩] w0 fun e w' => e = .returned (.bool false) ∧ w0 = w' from takesKey_b mLoad _ rfl)
  have HTV := Lib.hid (show ∀ w0, Calls Tryz.prog 91 #[.string ⟨#[76, 111, 97, 100]⟩] w0 fun e w' => e = .returned (.bool false) ∧ w0 = w' from takesValue_b mLoad _ rfl)
  have HTT := Lib.hid (show ∀ w0, Calls Tryz.prog 93 #[.string ⟨#[76, 111, 97, 100]⟩] w0 fun e w' => e = .returned (.bool true) ∧ w0 = w' from takesText_b mLoad _ rfl)
  generalize callB ⟨mLoad, key, v, text⟩ = res at *
  clear hk
  have HB0 := Lib.hid (show ∀ o, Below w.heap.size w (w.alloc o) from fun o => (Below.refl w.heap.size w).alloc (Nat.le_refl _) o)
  go_enter Tryz.func44, Tryz.ntmps44
  go_wp2_with fail
  refine (HW.out _).mono ?_
  rintro e w1 ⟨rfl, hb⟩
  have HB := Lib.hid ((HB0.out _).trans (hb.mono (HB0.out _).size))
  obtain ⟨hcc, _⟩ := bcell hb
  simp at hcc
  have c0 := hcc w.heap.size 0 (by omega)
  have c1 := hcc w.heap.size 1 (by omega)
  have c2 := hcc w.heap.size 2 (by omega)
  have c3 := hcc w.heap.size 3 (by omega)
  simp at c0 c1 c2 c3
  clear hb hcc
  cases key <;> cases text
  all_goals
    by_cases h0 : v = 0
    · subst h0
      go_wp2_with (first | (go_at_call 89; (with_reducible refine (HTK.out _).mono ?_); rintro e w' ⟨rfl, rfl⟩) | (go_at_call 91; (with_reducible refine (HTV.out _).mono ?_); rintro e w' ⟨rfl, rfl⟩) | (go_at_call 93; (with_reducible refine (HTT.out _).mono ?_); rintro e w' ⟨rfl, rfl⟩))
      go_ret
      exact ⟨ret_bool (by rw [HR.out]; rfl), HB.out⟩
    · have hv0 : (v == 0) = false := by simpa using h0
      rw [hv0] at HR
      clear h0
      go_wp2_with (first | (go_at_call 89; (with_reducible refine (HTK.out _).mono ?_); rintro e w' ⟨rfl, rfl⟩) | (go_at_call 91; (with_reducible refine (HTV.out _).mono ?_); rintro e w' ⟨rfl, rfl⟩) | (go_at_call 93; (with_reducible refine (HTT.out _).mono ?_); rintro e w' ⟨rfl, rfl⟩))
      go_ret
      exact ⟨ret_bool (by rw [HR.out]; rfl), HB.out⟩
set_option maxRecDepth 100000 in
set_option maxHeartbeats 3200000 in
theorem implIsCall_Save (key : List UInt8) (v : Int) (text : List UInt8) (w : World) (hk : key.length ≤ maxLen) :
    Calls Tryz.prog 44 #[.agg #[.string ⟨#[83, 97, 118, 101]⟩, .string ⟨key.toArray⟩, .int .i64 v, .string ⟨text.toArray⟩]] w fun e w' => e = .returned (.bool (callB ⟨mSave, key, v, text⟩)) ∧ Below w.heap.size w w' := by
  have HR := Lib.hid (show callB ⟨mSave, key, v, text⟩ = (key.isEmpty && (v == 0) && (text.isEmpty || false)) from rfl)
  have HW := Lib.hid (show ∀ w0, Calls Tryz.prog 46 #[.string ⟨#[83, 97, 118, 101]⟩] w0 fun e w' => e = .returned (.int .i64 16) ∧ Below w0.heap.size w0 w' from fun w0 => implWant_b mSave 16 rfl w0)
  have HTK := Lib.hid (show ∀ w0, Calls Tryz.prog 89 #[.string ⟨#[83, 97, 118, 101]⟩] w0 fun e w' => e = .returned (.bool false) ∧ w0 = w' from takesKey_b mSave _ rfl)
  have HTV := Lib.hid (show ∀ w0, Calls Tryz.prog 91 #[.string ⟨#[83, 97, 118, 101]⟩] w0 fun e w' => e = .returned (.bool false) ∧ w0 = w' from takesValue_b mSave _ rfl)
  have HTT := Lib.hid (show ∀ w0, Calls Tryz.prog 93 #[.string ⟨#[83, 97, 118, 101]⟩] w0 fun e w' => e = .returned (.bool false) ∧ w0 = w' from takesText_b mSave _ rfl)
  generalize callB ⟨mSave, key, v, text⟩ = res at *
  clear hk
  have HB0 := Lib.hid (show ∀ o, Below w.heap.size w (w.alloc o) from fun o => (Below.refl w.heap.size w).alloc (Nat.le_refl _) o)
  go_enter Tryz.func44, Tryz.ntmps44
  go_wp2_with fail
  refine (HW.out _).mono ?_
  rintro e w1 ⟨rfl, hb⟩
  have HB := Lib.hid ((HB0.out _).trans (hb.mono (HB0.out _).size))
  obtain ⟨hcc, _⟩ := bcell hb
  simp at hcc
  have c0 := hcc w.heap.size 0 (by omega)
  have c1 := hcc w.heap.size 1 (by omega)
  have c2 := hcc w.heap.size 2 (by omega)
  have c3 := hcc w.heap.size 3 (by omega)
  simp at c0 c1 c2 c3
  clear hb hcc
  cases key <;> cases text
  all_goals
    by_cases h0 : v = 0
    · subst h0
      go_wp2_with (first | (go_at_call 89; (with_reducible refine (HTK.out _).mono ?_); rintro e w' ⟨rfl, rfl⟩) | (go_at_call 91; (with_reducible refine (HTV.out _).mono ?_); rintro e w' ⟨rfl, rfl⟩) | (go_at_call 93; (with_reducible refine (HTT.out _).mono ?_); rintro e w' ⟨rfl, rfl⟩))
      go_ret
      exact ⟨ret_bool (by rw [HR.out]; rfl), HB.out⟩
    · have hv0 : (v == 0) = false := by simpa using h0
      rw [hv0] at HR
      clear h0
      go_wp2_with (first | (go_at_call 89; (with_reducible refine (HTK.out _).mono ?_); rintro e w' ⟨rfl, rfl⟩) | (go_at_call 91; (with_reducible refine (HTV.out _).mono ?_); rintro e w' ⟨rfl, rfl⟩) | (go_at_call 93; (with_reducible refine (HTT.out _).mono ?_); rintro e w' ⟨rfl, rfl⟩))
      go_ret
      exact ⟨ret_bool (by rw [HR.out]; rfl), HB.out⟩
set_option maxRecDepth 100000 in
set_option maxHeartbeats 3200000 in
theorem implIsCall_Heal (key : List UInt8) (v : Int) (text : List UInt8) (w : World) (hk : key.length ≤ maxLen) :
    Calls Tryz.prog 44 #[.agg #[.string ⟨#[72, 101, 97, 108]⟩, .string ⟨key.toArray⟩, .int .i64 v, .string ⟨text.toArray⟩]] w fun e w' => e = .returned (.bool (callB ⟨mHeal, key, v, text⟩)) ∧ Below w.heap.size w w' := by
  have HR := Lib.hid (show callB ⟨mHeal, key, v, text⟩ = (key.isEmpty && (v == 0) && (text.isEmpty || false)) from rfl)
  have HW := Lib.hid (show ∀ w0, Calls Tryz.prog 46 #[.string ⟨#[72, 101, 97, 108]⟩] w0 fun e w' => e = .returned (.int .i64 32) ∧ Below w0.heap.size w0 w' from fun w0 => implWant_b mHeal 32 rfl w0)
  have HTK := Lib.hid (show ∀ w0, Calls Tryz.prog 89 #[.string ⟨#[72, 101, 97, 108]⟩] w0 fun e w' => e = .returned (.bool false) ∧ w0 = w' from takesKey_b mHeal _ rfl)
  have HTV := Lib.hid (show ∀ w0, Calls Tryz.prog 91 #[.string ⟨#[72, 101, 97, 108]⟩] w0 fun e w' => e = .returned (.bool false) ∧ w0 = w' from takesValue_b mHeal _ rfl)
  have HTT := Lib.hid (show ∀ w0, Calls Tryz.prog 93 #[.string ⟨#[72, 101, 97, 108]⟩] w0 fun e w' => e = .returned (.bool false) ∧ w0 = w' from takesText_b mHeal _ rfl)
  generalize callB ⟨mHeal, key, v, text⟩ = res at *
  clear hk
  have HB0 := Lib.hid (show ∀ o, Below w.heap.size w (w.alloc o) from fun o => (Below.refl w.heap.size w).alloc (Nat.le_refl _) o)
  go_enter Tryz.func44, Tryz.ntmps44
  go_wp2_with fail
  refine (HW.out _).mono ?_
  rintro e w1 ⟨rfl, hb⟩
  have HB := Lib.hid ((HB0.out _).trans (hb.mono (HB0.out _).size))
  obtain ⟨hcc, _⟩ := bcell hb
  simp at hcc
  have c0 := hcc w.heap.size 0 (by omega)
  have c1 := hcc w.heap.size 1 (by omega)
  have c2 := hcc w.heap.size 2 (by omega)
  have c3 := hcc w.heap.size 3 (by omega)
  simp at c0 c1 c2 c3
  clear hb hcc
  cases key <;> cases text
  all_goals
    by_cases h0 : v = 0
    · subst h0
      go_wp2_with (first | (go_at_call 89; (with_reducible refine (HTK.out _).mono ?_); rintro e w' ⟨rfl, rfl⟩) | (go_at_call 91; (with_reducible refine (HTV.out _).mono ?_); rintro e w' ⟨rfl, rfl⟩) | (go_at_call 93; (with_reducible refine (HTT.out _).mono ?_); rintro e w' ⟨rfl, rfl⟩))
      go_ret
      exact ⟨ret_bool (by rw [HR.out]; rfl), HB.out⟩
    · have hv0 : (v == 0) = false := by simpa using h0
      rw [hv0] at HR
      clear h0
      go_wp2_with (first | (go_at_call 89; (with_reducible refine (HTK.out _).mono ?_); rintro e w' ⟨rfl, rfl⟩) | (go_at_call 91; (with_reducible refine (HTV.out _).mono ?_); rintro e w' ⟨rfl, rfl⟩) | (go_at_call 93; (with_reducible refine (HTT.out _).mono ?_); rintro e w' ⟨rfl, rfl⟩))
      go_ret
      exact ⟨ret_bool (by rw [HR.out]; rfl), HB.out⟩
set_option maxRecDepth 100000 in
set_option maxHeartbeats 1600000 in
theorem implIsCall_any (d : CallD) (w : World) (hk : d.fKey.length ≤ maxLen) :
    Calls Tryz.prog 44 #[vCall d] w fun e w' => e = .returned (.bool (callB d)) ∧ Below w.heap.size w w' := by
  obtain ⟨m, key, v, text⟩ := d
  unfold vCall
  simp only at *
  rcases meth_cases m with rfl | rfl | rfl | rfl | rfl | rfl | rfl | rfl | rfl | ⟨hw, hStart, hStop, hGet, hPut, hTell, hHear, hLoad, hSave, hHeal⟩
  · exact implIsCall_Start key v text w hk
  · exact implIsCall_Stop key v text w hk
  · exact implIsCall_Get key v text w hk
  · exact implIsCall_Put key v text w hk
  · exact implIsCall_Tell key v text w hk
  · exact implIsCall_Hear key v text w hk
  · exact implIsCall_Load key v text w hk
  · exact implIsCall_Save key v text w hk
  · exact implIsCall_Heal key v text w hk
  · have HR := Lib.hid (show callB ⟨m, key, v, text⟩ = false by unfold callB; simp only; rw [hw]; rfl)
    have bGet : (m == [71, 101, 116]) = false := by simpa using hGet
    have bPut : (m == [80, 117, 116]) = false := by simpa using hPut
    have bHear : (m == [72, 101, 97, 114]) = false := by simpa using hHear
    have bLoad : (m == [76, 111, 97, 100]) = false := by simpa using hLoad
    have HW := Lib.hid (implWant_b m 0 hw)
    have HB0 := Lib.hid (show ∀ o, Below w.heap.size w (w.alloc o) from fun o => (Below.refl w.heap.size w).alloc (Nat.le_refl _) o)
    generalize callB ⟨m, key, v, text⟩ = res at *
    clear hw hk hStart hStop hGet hPut hTell hHear hLoad hSave hHeal
    go_enter Tryz.func44, Tryz.ntmps44
    go_wp2_with fail
    refine (HW.out _).mono ?_
    rintro e w1 ⟨rfl, hb⟩
    have HB := Lib.hid ((HB0.out _).trans (hb.mono (HB0.out _).size))
    clear hb
    go_wp2_with fail
    go_ret
    exact ⟨ret_bool HR.out.symm, HB.out⟩
end Go.Proofs.YtcpbikilgacdlaaGreat
namespace Go.Proofs.YtcpbikilgacdlaaGreat
set_option linter.unusedVariables false
set_option linter.unusedSimpArgs false
open Go.RowKit
theorem implIsCall_b (d : CallD) (q : Bool) (hq : callB d = q) (w : World) (hk : d.fKey.length ≤ maxLen) :
    Calls Tryz.prog 44 #[vCall d] w fun e w' => e = .returned (.bool q) ∧ Below w.heap.size w w' := by subst hq; exact implIsCall_any d w hk
end Go.Proofs.YtcpbikilgacdlaaGreat
namespace Go.Proofs.YtcpbikilgacdlaaGreat
set_option linter.unusedVariables false
set_option linter.unusedSimpArgs false
open Go.RowKit
theorem run_copy_row2 {P : Program} (w : World) (dT sT ty elem : TypeId) (g o dLen dCap : Nat) (a : Addr) (sLen sCap n : Nat) (cur : Array Value) (t : TypeId) (cs : List Value)
    (hu : P.underlying dT = some (.slice elem)) (hs : (P.info? elem).map (·.size) = some 2) (hg : w.heap[g]? = some (.cells cur t (0, 0))) (hn : Nat.min sLen dLen = n) (hcl : cs.length = n * 2)
    (hsrc : ∀ j v, cs[j]? = some v → w.cell? (a.add j) = some v) (hfit : o + cs.length ≤ cur.size) (h1 : ∀ v ∈ cs, v.oneCell' = true) :
    (Builtin.copy_ #[dT, sT] ty #[.slice (some ⟨g, o, none⟩) dLen dCap, .slice (some a) sLen sCap]).run P w = .ok (goInt n) (w.setRow g (cur.toList.take o ++ cs ++ cur.toList.drop (o + cs.length)).toArray) := by
  have hl := run_loadCells_list (P := P) w a cs hsrc
  rw [hcl] at hl
  have hst := run_storeCells_at P g o t cs 0 cur w hg (by simpa using hfit) h1
  cases hq : P.info? elem with
  | none => simp [hq] at hs
  | some i =>
    have hi : i.size = 2 := by simpa [hq] using hs
    simp [Builtin.copy_, run_underlying hu, Builtin.lenOf, Builtin.firstCells, sizeOf, typeInfo, hq, hi, hn, hl, hst]
theorem size_cell : (Tryz.prog.info? 139).map (·.size) = some 2 := by kernel_rfl
theorem sizeOf_cell (w : World) : (Go.sizeOf 139).run Tryz.prog w = .ok 2 w := by kernel_rfl
set_option maxHeartbeats 1600000 in
theorem ins_end (N : Nat) (v : Value) (l : List CellD) (x : CellD) (vb : Nat) (w : World) (hO : OwnsF cCell 139 2 w N v l) (hl : l.length ≤ 1000) (hN : N ≤ w.heap.size) (hc : ∀ j, j < 2 → w.cell? ⟨vb, j, none⟩ = (cCell x)[j]?) :
    Calls Tryz.prog 201 #[v, .int .i64 l.length, .slice (some ⟨vb, 0, none⟩) 1 1] w fun e w' => ∃ v', e = .returned v' ∧ OwnsF cCell 139 2 w' N v' (l ++ [x]) ∧ w.grownBy w' v.ownBlock := by
  have HO := Lib.hid hO
  have HC := Lib.hid hc
  have hv : ∃ a c, v = .slice a l.length c ∧ l.length ≤ c := by
    rcases hO.2 with ⟨rfl, hn⟩ | ⟨g, cap, cur, rfl, _, _, hc, _⟩
    · exact ⟨none, 0, by rw [hn], by omega⟩
    · exact ⟨_, _, rfl, hc⟩
  obtain ⟨a, c, rfl, hcap⟩ := hv
  clear hO hc
  generalize hn : l.length = n at *
  have HN := Lib.hid hn
  clear hn
  go_enter Tryz.func201, Tryz.ntmps201
  go_wp2_with (at_builtin; refine append_cell rfl _ _ rfl N _ l x _ vb (by rfl) HO.out (by rfl) HC.out (by have := HN.out; omega) hN ?_; intro v' w' ho hgr)
  all_goals
    go_ret
    exact ⟨_, rfl, ho, by first | exact hgr | (cases a <;> exact hgr)⟩
theorem flat_take {α : Type} (f : α → List Value) (k : Nat) (hk : ∀ x, (f x).length = k) : ∀ (l : List α) (i : Nat), (l.take i).flatMap f = (l.flatMap f).take (i * k) ∧ (l.drop i).flatMap f = (l.flatMap f).drop (i * k)
  | [], i => by simp
  | d :: r, 0 => by simp
  | d :: r, i + 1 => by
    obtain ⟨h1, h2⟩ := flat_take f k hk r i
    rw [List.take_succ_cons, List.drop_succ_cons, List.flatMap_cons, List.flatMap_cons, h1, h2, Nat.succ_mul, Nat.add_comm (i * k) k, ← hk d, List.take_append, List.drop_append]
    simp [Nat.add_sub_cancel_left]
    exact (List.take_of_length_le (by omega)).symm
theorem row_shift (cur fl cx : List Value) (i n c : Nat) (hfl : fl.length = n * 2) (hcx : cx.length = 2) (hcur : cur.take (n * 2) = fl) (hi : i < n) (hc : cur.length = c * 2) (hn : n + 1 ≤ c) (row1 : List Value)
    (h1 : row1 = cur.take ((i + 1) * 2) ++ fl.drop (i * 2) ++ cur.drop ((i + 1) * 2 + (fl.drop (i * 2)).length)) :
    (row1.take (i * 2) ++ cx ++ row1.drop (i * 2 + cx.length)).take ((n + 1) * 2) = fl.take (i * 2) ++ cx ++ fl.drop (i * 2) := by
  have hl1 : (cur.take ((i + 1) * 2)).length = (i + 1) * 2 := by rw [List.length_take, hc]; omega
  have e1 : row1.take (i * 2) = fl.take (i * 2) := by
    rw [h1, List.append_assoc, List.take_append_of_le_length (by rw [hl1]; omega), List.take_take, ← hcur, List.take_take]
    congr 1; omega
  have e2 : row1.drop (i * 2 + cx.length) = fl.drop (i * 2) ++ cur.drop ((i + 1) * 2 + (fl.drop (i * 2)).length) := by
    rw [h1, List.append_assoc, hcx, show i * 2 + 2 = (i + 1) * 2 by omega]
    conv => lhs; arg 1; rw [← hl1]
    rw [List.drop_left]
  rw [e1, e2, ← List.append_assoc]
  have hlen : (fl.take (i * 2) ++ cx ++ fl.drop (i * 2)).length = (n + 1) * 2 := by
    simp only [List.length_append, List.length_take, List.length_drop, hfl, hcx]; omega
  rw [← hlen, List.take_left]
set_option maxRecDepth 100000 in
set_option maxHeartbeats 1600000 in
theorem ins_shift (N g c i : Nat) (cur : Array Value) (l : List CellD) (x : CellD) (vb : Nat) (w : World) (hg : w.heap[g]? = some (.cells cur 139 (0, 0))) (hs : cur.size = c * 2) (hcur : cur.toList.take (l.length * 2) = l.flatMap cCell)
    (hi : i < l.length) (hroom : l.length + 1 ≤ c) (hc : c ≤ maxLen) (hvb : w.heap[vb]? = some (.cells #[.string ⟨x.fKey.toArray⟩, .int .i64 x.fValue] 139 (0, 0))) (hne : vb ≠ g) :
    Calls Tryz.prog 201 #[.slice (some ⟨g, 0, none⟩) l.length c, .int .i64 i, .slice (some ⟨vb, 0, none⟩) 1 1] w fun e w' => ∃ v', e = .returned v' ∧ (∀ N, N ≤ g → OwnsF cCell 139 2 w' N v' (l.take i ++ x :: l.drop i)) ∧ w.grownBy w' (some g) := by
  unfold maxLen at hc
  have hsz : cur.toList.length = c * 2 := by simpa using hs
  have hov : ∀ off lb cb, (callFunc 202 #[.slice (some ⟨vb, 0, none⟩) 1 1, .slice (some ⟨g, off, none⟩) lb cb]).run Tryz.prog w = .ok (.value (.bool false)) w := fun off lb cb => by
    rw [run_callFunc_extern Tryz.func202 (by kernel_rfl) (by kernel_rfl) (by kernel_rfl) (e := Extern.SlicesOverlaps.overlaps #[32, 32] #[4]) (by kernel_rfl),
      Lib.run_overlaps_apart w 32 4 139 Tryz.underlying32 2 sizeOf_cell ⟨vb, 0, none⟩ ⟨g, off, none⟩ 1 1 lb cb hne 139 139 2 (c * 2) (by simp [World.shape?, hvb]) (by simp [World.shape?, hg, hs]) (by omega) (by simp [World.frozen?, hvb]) (by simp [World.frozen?, hvb])]
    rfl
  have hfl : (l.flatMap cCell).length = l.length * 2 := flat_len cCell 2 cCell_len l
  have h1c : ∀ u ∈ l.flatMap cCell, u.oneCell' = true := fun u hu => by
    obtain ⟨y, _, hy⟩ := List.mem_flatMap.1 hu
    exact cCell_one y u hy
  have HL := Lib.hid (show (l.take i ++ x :: l.drop i).flatMap cCell = (l.flatMap cCell).take (i * 2) ++ cCell x ++ (l.flatMap cCell).drop (i * 2) ∧ (l.take i ++ x :: l.drop i).length = l.length + 1 from by
    refine ⟨?_, by simp; omega⟩
    rw [List.flatMap_append, List.flatMap_cons, (flat_take cCell 2 cCell_len l i).1, (flat_take cCell 2 cCell_len l i).2, List.append_assoc])
  generalize hF : l.flatMap cCell = fl at *
  generalize hn : l.length = n at *
  have hcell : ∀ j v, fl[j]? = some v → w.cell? ⟨g, j, none⟩ = some v := fun j v hj => by
    have hjl : j < fl.length := (List.getElem?_eq_some_iff.1 hj).1
    rw [cell_of_row w g j cur 139 (0, 0) hg]
    rw [← hcur, List.getElem?_take] at hj
    split at hj
    · simpa using hj
    · cases hj
  have hdl : (fl.drop (i * 2)).length = (n - i) * 2 := by rw [List.length_drop, hfl, Nat.sub_mul]
  obtain ⟨row1, hrow1⟩ : ∃ row1 : Array Value, row1 = (cur.toList.take ((i + 1) * 2) ++ fl.drop (i * 2) ++ cur.toList.drop ((i + 1) * 2 + (fl.drop (i * 2)).length)).toArray := ⟨_, rfl⟩
  have hcp1 : ∀ ty dc sc, (Builtin.copy_ #[32, 32] ty #[.slice (some ⟨g, (i + 1) * 2, none⟩) (n - i) dc, .slice (some ⟨g, i * 2, none⟩) (n + 1 - i) sc]).run Tryz.prog w.drew = .ok (goInt ((n - i : Nat) : Int)) (w.drew.setRow g row1) := fun ty dc sc => by
    rw [hrow1]
    exact run_copy_row2 w.drew _ _ ty 139 g ((i + 1) * 2) (n - i) dc ⟨g, i * 2, none⟩ (n + 1 - i) sc (n - i) cur 139 (fl.drop (i * 2)) Tryz.underlying32 size_cell hg (by simp only [Nat.min_def]; split <;> omega) hdl
      (fun j v hj => by rw [Addr.add_lit]; exact hcell (i * 2 + j) v (by rwa [List.getElem?_drop] at hj)) (by rw [hdl, Nat.sub_mul, hs]; omega) (fun v hv => h1c v (List.mem_of_mem_drop hv))
  have hrs : row1.size = c * 2 := by rw [hrow1]; simp only [List.size_toArray, List.length_append, List.length_take, List.length_drop, hsz, hfl]; omega
  have hg1 : (w.drew.setRow g row1).heap[g]? = some (.cells row1 139 (0, 0)) := setRow_heap w.drew g cur row1 139 (0, 0) hg
  have hvb1 : (w.drew.setRow g row1).heap[vb]? = some (.cells #[.string ⟨x.fKey.toArray⟩, .int .i64 x.fValue] 139 (0, 0)) := by
    simp only [World.setRow, Array.getElem?_modify]
    rw [if_neg (fun e => hne e.symm)]; exact hvb
  obtain ⟨row2, hrow2⟩ : ∃ row2 : Array Value, row2 = (row1.toList.take (i * 2) ++ cCell x ++ row1.toList.drop (i * 2 + (cCell x).length)).toArray := ⟨_, rfl⟩
  have hrs2 : row2.size = c * 2 := by rw [hrow2]; simp only [List.size_toArray, List.length_append, List.length_take, List.length_drop, cCell_len, Array.length_toList, hrs]; omega
  have hcp2 : ∀ ty dc, (Builtin.copy_ #[32, 32] ty #[.slice (some ⟨g, i * 2, none⟩) (n + 1 - i) dc, .slice (some ⟨vb, 0, none⟩) 1 1]).run Tryz.prog (w.drew.setRow g row1) = .ok (goInt 1) ((w.drew.setRow g row1).setRow g row2) := fun ty dc => by
    rw [hrow2]
    exact run_copy_row2 _ _ _ ty 139 g (i * 2) (n + 1 - i) dc ⟨vb, 0, none⟩ 1 1 1 row1 139 (cCell x) Tryz.underlying32 size_cell hg1 (by simp only [Nat.min_def]; split <;> omega) rfl
      (fun j v hj => by
        rw [Addr.add_lit, cell_of_row _ vb (0 + j) _ 139 (0, 0) hvb1, Nat.zero_add]
        simpa [cCell] using hj) (by rw [hrs]; simp [cCell]; omega) (fun v hv => cCell_one x v hv)
  have HR1 := Lib.hid hrow1
  have HR2 := Lib.hid hrow2
  clear hrow1 hrow2
  have hz1 : ¬ ((i : Int) = (n : Int)) := by omega
  have hw1 : IntKind.i64.wrap ((i : Int) + 1) = (i : Int) + 1 := by rw [IntKind.wrap_i64]; omega
  have hw2 : IntKind.i64.wrap ((n : Int) + 1) = (n : Int) + 1 := by rw [IntKind.wrap_i64]; omega
  have hin : i ≤ n := by omega
  have hb1 : (0 : Int) ≤ (i : Int) + 1 := by omega
  have htn : ((i : Int) + 1).toNat = i + 1 := by omega
  have hb2 : ¬ c = i + 1 := by omega
  have hb3 : (i : Int) ≤ (n : Int) + 1 := by omega
  have hb4 : ¬ c = i := by omega
  have hb5 : (i : Int) + 1 ≤ (n : Int) + 1 := by omega
  go_enter Tryz.func201, Tryz.ntmps201
  go_wp2_with (simp only [hov])
  go_region_law (refine step_copy_runI rfl _ _ 32 32 rfl _ _ (by simp [Act.eval, Act.put]) (by simp [Act.eval, Act.put]) (hcp1 _ _ _) ?_)
  go_wp2_with (at_builtin; refine wpList_copy_runI _ rfl _ _ 32 32 rfl _ _ (by rfl) (by rfl) (hcp2 _ _) ?_)
  go_ret
  refine ⟨.slice (some ⟨g, 0, none⟩) (n + 1) c, rfl, fun N hN => ?_, ⟨rfl, rfl, rfl, by simp [World.setRow], fun k hk hkn => ?_⟩⟩
  · have hlen := HL.out.2
    unfold OwnsF
    rw [hlen]
    refine ⟨by rw [flat_len cCell 2 cCell_len, hlen], Or.inr ⟨g, c, row2, rfl, hN, setRow_heap _ g row1 row2 139 (0, 0) hg1, hroom, by unfold maxLen; omega, hrs2, ?_⟩⟩
    rw [HL.out.1, HR2.out]
    exact row_shift cur.toList fl (cCell x) i n c hfl (cCell_len x) hcur hi hsz hroom row1.toList (by rw [HR1.out])
  · have hkg : k ≠ g := fun e => hkn (by rw [e])
    simp only [World.setRow, Array.getElem?_modify]
    rw [if_neg (fun e => hkg e.symm), if_neg (fun e => hkg e.symm)]; rfl
end Go.Proofs.YtcpbikilgacdlaaGreat
namespace Go.Proofs.YtcpbikilgacdlaaGreat
set_option linter.unusedVariables false
set_option linter.unusedSimpArgs false
open Go.RowKit
theorem row_grow (fl cx z : List Value) (i n : Nat) (hfl : fl.length = n * 2) (hcx : cx.length = 2) (hi : i < n) (ROW : List Value) (h0 : ROW = fl.take (i * 2) ++ z) (rowA : List Value)
    (hA : rowA = ROW.take (i * 2) ++ cx ++ ROW.drop (i * 2 + cx.length)) (rowB : List Value) (hB : rowB = rowA.take ((i + 1) * 2) ++ fl.drop (i * 2) ++ rowA.drop ((i + 1) * 2 + (fl.drop (i * 2)).length)) :
    rowB.take ((n + 1) * 2) = fl.take (i * 2) ++ cx ++ fl.drop (i * 2) := by
  have hl1 : (fl.take (i * 2)).length = i * 2 := by rw [List.length_take, hfl]; omega
  have e0 : ROW.take (i * 2) = fl.take (i * 2) := by
    rw [h0]; conv => lhs; arg 1; rw [← hl1]
    rw [List.take_left]
  have e1 : rowA.take ((i + 1) * 2) = fl.take (i * 2) ++ cx := by
    have hl2 : (fl.take (i * 2) ++ cx).length = (i + 1) * 2 := by rw [List.length_append, hl1, hcx]; omega
    rw [hA, e0, ← hl2, List.take_left]
  have hl3 : (fl.take (i * 2) ++ cx ++ fl.drop (i * 2)).length = (n + 1) * 2 := by
    simp only [List.length_append, List.length_take, List.length_drop, hfl, hcx]; omega
  rw [hB, e1, ← hl3, List.take_left]
set_option maxRecDepth 100000 in
set_option maxHeartbeats 3200000 in
theorem ins_grow (g i : Nat) (cur : Array Value) (l : List CellD) (x : CellD) (vb : Nat) (w : World) (hg : w.heap[g]? = some (.cells cur 139 (0, 0))) (hs : cur.size = l.length * 2) (hcur : cur.toList.take (l.length * 2) = l.flatMap cCell)
    (hi : i < l.length) (hl : l.length ≤ 1000) (hvb : w.heap[vb]? = some (.cells #[.string ⟨x.fKey.toArray⟩, .int .i64 x.fValue] 139 (0, 0))) :
    Calls Tryz.prog 201 #[.slice (some ⟨g, 0, none⟩) l.length l.length, .int .i64 i, .slice (some ⟨vb, 0, none⟩) 1 1] w fun e w' => ∃ v', e = .returned v' ∧ OwnsF cCell 139 2 w' w.heap.size v' (l.take i ++ x :: l.drop i) ∧ Below w.heap.size w w' := by
  obtain ⟨i0, hi0, hz0, hzs, hzb⟩ := info_parts infoCell
  have hfl : (l.flatMap cCell).length = l.length * 2 := flat_len cCell 2 cCell_len l
  have h1c : ∀ u ∈ l.flatMap cCell, u.oneCell' = true := fun u hu => by
    obtain ⟨y, _, hy⟩ := List.mem_flatMap.1 hu
    exact cCell_one y u hy
  have HL := Lib.hid (show (l.take i ++ x :: l.drop i).flatMap cCell = (l.flatMap cCell).take (i * 2) ++ cCell x ++ (l.flatMap cCell).drop (i * 2) ∧ (l.take i ++ x :: l.drop i).length = l.length + 1 from by
    refine ⟨?_, by simp; omega⟩
    rw [List.flatMap_append, List.flatMap_cons, (flat_take cCell 2 cCell_len l i).1, (flat_take cCell 2 cCell_len l i).2, List.append_assoc])
  generalize hF : l.flatMap cCell = fl at *
  generalize hn : l.length = n at *
  have hcell : ∀ j v, fl[j]? = some v → w.cell? ⟨g, j, none⟩ = some v := fun j v hj => by
    rw [cell_of_row w g j cur 139 (0, 0) hg]
    rw [← hcur, List.getElem?_take] at hj
    split at hj
    · simpa using hj
    · cases hj
  have hgw : g < w.heap.size := (Array.getElem?_eq_some_iff.1 hg).1
  have hvw : vb < w.heap.size := (Array.getElem?_eq_some_iff.1 hvb).1
  have hdl : (fl.drop (i * 2)).length = (n - i) * 2 := by rw [List.length_drop, hfl, Nat.sub_mul]
  have htl : (fl.take (i * 2)).length = i * 2 := by rw [List.length_take, hfl]; omega
  have hkk : (n : Int) + 1 - (i : Int) = ((n + 1 - i : Nat) : Int) := by omega
  have hik : i + (n + 1 - i) = n + 1 := by omega
  have hold : (Builtin.firstCells i0.size i (.slice (some ⟨g, 0, none⟩) i n)).run Tryz.prog w.drew = .ok (fl.take (i * 2)).toArray w.drew := by
    rw [hzs]
    exact run_firstCells_some w.drew 2 i ⟨g, 0, none⟩ i n (fl.take (i * 2)) htl (fun j v hj => by
      rw [Addr.add_lit, Nat.zero_add]
      rw [List.getElem?_take] at hj
      split at hj
      · exact hcell j v hj
      · cases hj)
  have hrz : ∀ ty, (Builtin.append_ #[32, 3] ty #[.slice (some ⟨g, 0, none⟩) i n, .int .i64 ((n : Int) + 1 - (i : Int))]).run Tryz.prog w =
      .ok (.slice (some ⟨w.heap.size, 0, none⟩) (n + 1) (grownCap w (n + 1) n 139)) (w.drew.alloc (.cells ((fl.take (i * 2)).toArray ++ Builtin.zeroCells (Value.agg #[.string ⟨#[]⟩, .int .i64 0]).cells (n + 1 - i) ++ Builtin.zeroCells (Value.agg #[.string ⟨#[]⟩, .int .i64 0]).cells (grownCap w (n + 1) n 139 - (n + 1))) 139)) := fun ty => by
    have h := Lib.run_append_grow_zeros w 32 3 ty 139 i0 _ .i64 .i64 Tryz.underlying32 Tryz.underlying3 hi0 hz0 (some ⟨g, 0, none⟩) i n (fl.take (i * 2)) hold (n + 1 - i) (by omega) (by omega) (by omega) (by omega) (by rw [hzb]; omega) (by rw [hzb, hik]; exact growslice_fits (by omega) (by omega))
    rw [hik] at h
    rw [hkk]
    exact h
  obtain ⟨G, hG⟩ : ∃ G, G = grownCap w (n + 1) n 139 := ⟨_, rfl⟩
  obtain ⟨zz, hzz⟩ : ∃ zz : Array Value, zz = Builtin.zeroCells (Value.agg #[.string ⟨#[]⟩, .int .i64 0]).cells (n + 1 - i) ++ Builtin.zeroCells (Value.agg #[.string ⟨#[]⟩, .int .i64 0]).cells (G - (n + 1)) := ⟨_, rfl⟩
  obtain ⟨ROW, hROW⟩ : ∃ ROW : Array Value, ROW = (fl.take (i * 2)).toArray ++ zz := ⟨_, rfl⟩
  have hGn : n + 1 ≤ G := by rw [hG]; exact grownCap_ge w _ _ _
  have hGm : G ≤ maxLen := by
    have := grownCap_le_maxLen w (n + 1) n 139 (by unfold maxLen; omega)
    rw [← hG] at this; exact this
  have hzl : zz.size = (G - i) * 2 := by rw [hzz]; simp [Builtin.zeroCells, Value.cells]; omega
  have hRl : ROW.size = G * 2 := by rw [hROW]; simp only [Array.size_append, List.size_toArray, htl, hzl]; omega
  rw [← hG, Array.append_assoc, ← hzz, ← hROW] at hrz
  have HR0 := Lib.hid (show ROW.toList = fl.take (i * 2) ++ zz.toList from by rw [hROW]; simp)
  have hRL : ROW.toList.length = G * 2 := by simpa using hRl
  clear hROW hzz hold
  obtain ⟨rowA, hrA⟩ : ∃ rowA : Array Value, rowA = (ROW.toList.take (i * 2) ++ cCell x ++ ROW.toList.drop (i * 2 + (cCell x).length)).toArray := ⟨_, rfl⟩
  have hAl : rowA.size = G * 2 := by rw [hrA]; simp only [List.size_toArray, List.length_append, List.length_take, List.length_drop, hRL, cCell_len]; omega
  have hAL : rowA.toList.length = G * 2 := by simpa using hAl
  obtain ⟨rowB, hrB⟩ : ∃ rowB : Array Value, rowB = (rowA.toList.take ((i + 1) * 2) ++ fl.drop (i * 2) ++ rowA.toList.drop ((i + 1) * 2 + (fl.drop (i * 2)).length)).toArray := ⟨_, rfl⟩
  have hBl : rowB.size = G * 2 := by rw [hrB]; simp only [List.size_toArray, List.length_append, List.length_take, List.length_drop, hAL, hfl]; omega
  obtain ⟨WA, hWA⟩ : ∃ WA, WA = (w.alloc (.cells ROW 139)).drew := ⟨_, rfl⟩
  have hgN : WA.heap[w.heap.size]? = some (.cells ROW 139 (0, 0)) := by rw [hWA]; exact heap_alloc_new w _
  have hvA : WA.heap[vb]? = some (.cells #[.string ⟨x.fKey.toArray⟩, .int .i64 x.fValue] 139 (0, 0)) := by rw [hWA]; exact (Below.heap_alloc w _ vb hvw).trans hvb
  have hgA : WA.heap[g]? = some (.cells cur 139 (0, 0)) := by rw [hWA]; exact (Below.heap_alloc w _ g hgw).trans hg
  have hcpA : ∀ ty dc, (Builtin.copy_ #[32, 32] ty #[.slice (some ⟨w.heap.size, i * 2, none⟩) (n + 1 - i) dc, .slice (some ⟨vb, 0, none⟩) 1 1]).run Tryz.prog WA = .ok (goInt 1) (WA.setRow w.heap.size rowA) := fun ty dc => by
    rw [hrA]
    exact run_copy_row2 WA _ _ ty 139 w.heap.size (i * 2) (n + 1 - i) dc ⟨vb, 0, none⟩ 1 1 1 ROW 139 (cCell x) Tryz.underlying32 size_cell hgN (by simp only [Nat.min_def]; split <;> omega) rfl
      (fun j v hj => by
        rw [Addr.add_lit, cell_of_row _ vb (0 + j) _ 139 (0, 0) hvA, Nat.zero_add]
        simpa [cCell] using hj) (by rw [hRl]; simp [cCell]; omega) (fun v hv => cCell_one x v hv)
  have hgB : (WA.setRow w.heap.size rowA).heap[w.heap.size]? = some (.cells rowA 139 (0, 0)) := setRow_heap WA w.heap.size ROW rowA 139 (0, 0) hgN
  have hgO : (WA.setRow w.heap.size rowA).heap[g]? = some (.cells cur 139 (0, 0)) := by
    simp only [World.setRow, Array.getElem?_modify]
    rw [if_neg (by omega)]; exact hgA
  have hcellB : ∀ j v, fl[j]? = some v → (WA.setRow w.heap.size rowA).drew.cell? ⟨g, j, none⟩ = some v := fun j v hj => by
    have h1 : (WA.setRow w.heap.size rowA).drew.cell? ⟨g, j, none⟩ = cur[j]? := cell_of_row (WA.setRow w.heap.size rowA) g j cur 139 (0, 0) hgO
    rw [h1, ← cell_of_row w g j cur 139 (0, 0) hg]; exact hcell j v hj
  have hcpB : ∀ ty dc sc, (Builtin.copy_ #[32, 32] ty #[.slice (some ⟨w.heap.size, (i + 1) * 2, none⟩) (n - i) dc, .slice (some ⟨g, i * 2, none⟩) (n - i) sc]).run Tryz.prog (WA.setRow w.heap.size rowA).drew = .ok (goInt ((n - i : Nat) : Int)) ((WA.setRow w.heap.size rowA).drew.setRow w.heap.size rowB) := fun ty dc sc => by
    rw [hrB]
    exact run_copy_row2 (WA.setRow w.heap.size rowA).drew _ _ ty 139 w.heap.size ((i + 1) * 2) (n - i) dc ⟨g, i * 2, none⟩ (n - i) sc (n - i) rowA 139 (fl.drop (i * 2)) Tryz.underlying32 size_cell hgB (by simp only [Nat.min_def]; split <;> omega) hdl
      (fun j v hj => by rw [Addr.add_lit]; exact hcellB (i * 2 + j) v (by rwa [List.getElem?_drop] at hj)) (by rw [hdl, Nat.sub_mul, hAl]; omega) (fun v hv => h1c v (List.mem_of_mem_drop hv))
  have HRA := Lib.hid hrA
  have HRB := Lib.hid hrB
  have HWA := Lib.hid hWA
  have hGG := Lib.hid hG
  have hrz2 : ∀ ty, (Builtin.append_ #[32, 3] ty #[.slice (some ⟨g, 0, none⟩) i n, .int .i64 ((n : Int) + 1 - (i : Int))]).run Tryz.prog w = .ok (.slice (some ⟨w.heap.size, 0, none⟩) (n + 1) G) WA := fun ty => by rw [hrz ty, hWA]; rfl
  clear hrA hrB hWA hG hrz
  have hz1 : ¬ ((i : Int) = (n : Int)) := by omega
  have hz3 : (n : Int) < (n : Int) + 1 := by omega
  have hw1 : IntKind.i64.wrap ((i : Int) + 1) = (i : Int) + 1 := by rw [IntKind.wrap_i64]; omega
  have hw2 : IntKind.i64.wrap ((n : Int) + 1) = (n : Int) + 1 := by rw [IntKind.wrap_i64]; omega
  have hw3 : IntKind.i64.wrap ((n : Int) + 1 - (i : Int)) = (n : Int) + 1 - (i : Int) := by rw [IntKind.wrap_i64]; omega
  have hb1 : (0 : Int) ≤ (i : Int) + 1 := by omega
  have htn : ((i : Int) + 1).toNat = i + 1 := by omega
  have hin : i ≤ n := by omega
  have hb3 : (i : Int) ≤ (n : Int) := by omega
  have hb5 : (i : Int) + 1 ≤ (n : Int) + 1 := by omega
  have hGi : ¬ (G = i) := by omega
  have hGim : ¬ (G = i + 1) := by omega
  have hci : ¬ (n = i) := by omega
  have hi1 : (i : Int) ≤ (n : Int) + 1 := by omega
  clear hkk hik
  go_enter Tryz.func201, Tryz.ntmps201
  go_wp2_with (first | (at_builtin; refine Lib.wpList_append_run _ rfl _ _ _ _ rfl _ _ (by rfl) (by rfl) _ _ (hrz2 _) ?_) | (refine wpList_copy_runI _ rfl _ _ 32 32 rfl _ _ (by rfl) (by rfl) (hcpA _ _) ?_))
  go_region_law (refine step_copy_runI rfl _ _ 32 32 rfl _ _ (by simp [Act.eval, Act.put]) (by simp [Act.eval, Act.put]) (hcpB _ _ _) ?_)
  go_wp2_with fail
  go_ret
  have hgF := setRow_heap (WA.setRow w.heap.size rowA).drew w.heap.size rowA rowB 139 (0, 0) hgB
  refine ⟨.slice (some ⟨w.heap.size, 0, none⟩) (n + 1) G, rfl, ?_, ?_⟩
  · have hlen := HL.out.2
    unfold OwnsF
    rw [hlen]
    refine ⟨by rw [flat_len cCell 2 cCell_len, hlen], Or.inr ⟨w.heap.size, G, rowB, rfl, Nat.le_refl _, hgF, hGn, hGm, hBl, ?_⟩⟩
    rw [HL.out.1]
    exact row_grow fl (cCell x) zz.toList i n hfl (cCell_len x) hi ROW.toList HR0.out rowA.toList (by rw [HRA.out]) rowB.toList (by rw [HRB.out])
  · have h0 : Below w.heap.size w WA := by rw [HWA.out]; exact ((Below.refl _ _).alloc (Nat.le_refl _) _).drew
    refine h0.trans ⟨rfl, rfl, rfl, by simp [World.setRow], fun k hk => ?_⟩
    show ((WA.setRow w.heap.size rowA).setRow w.heap.size rowB).heap[k]? = WA.heap[k]?
    simp only [World.setRow, Array.getElem?_modify]
    rw [if_neg (by omega), if_neg (by omega)]
theorem ins_c (N : Nat) (v : Value) (l : List CellD) (i : Nat) (x : CellD) (vb : Nat) (w : World) (hO : OwnsF cCell 139 2 w N v l) (hi : i ≤ l.length) (hl : l.length ≤ 1000) (hN : N ≤ w.heap.size)
    (hvb : w.heap[vb]? = some (.cells #[.string ⟨x.fKey.toArray⟩, .int .i64 x.fValue] 139 (0, 0))) (hne : v.ownBlock ≠ some vb) :
    Calls Tryz.prog 201 #[v, .int .i64 i, .slice (some ⟨vb, 0, none⟩) 1 1] w fun e w' => ∃ v', e = .returned v' ∧ OwnsF cCell 139 2 w' N v' (l.take i ++ x :: l.drop i) ∧ w.grownBy w' v.ownBlock := by
  by_cases he : i = l.length
  · subst he
    rw [List.take_length, List.drop_length]
    refine ins_end N v l x vb w hO hl hN ?_
    intro j hj
    rw [cell_of_row w vb j _ 139 (0, 0) hvb]
    rcases (show j = 0 ∨ j = 1 by omega) with rfl | rfl <;> rfl
  · rcases hO.2 with ⟨rfl, hn⟩ | ⟨g, c, cur, rfl, hNg, hg, hnc, hcm, hcs, hcur⟩
    · omega
    · have hgv : vb ≠ g := fun e => hne (by rw [e]; rfl)
      by_cases hr : l.length + 1 ≤ c
      · refine (ins_shift N g c i cur l x vb w hg hcs hcur (by omega) hr hcm hvb hgv).mono ?_
        rintro e w' ⟨v', rfl, ho, hgr⟩
        exact ⟨v', rfl, ho N hNg, hgr⟩
      · have hc : c = l.length := by omega
        subst hc
        refine (ins_grow g i cur l x vb w hg hcs hcur (by omega) hl hvb).mono ?_
        rintro e w' ⟨v', rfl, ho, hb⟩
        exact ⟨v', rfl, ownsF_base ho hN, ⟨hb.os, hb.tape, hb.output, hb.size, fun k hk _ => hb.block k hk⟩⟩
end Go.Proofs.YtcpbikilgacdlaaGreat
namespace Go.Proofs.YtcpbikilgacdlaaGreat
set_option linter.unusedVariables false
set_option linter.unusedSimpArgs false
open Go.RowKit
theorem flat_set1 (k : List UInt8) (v : Int) : ∀ (l : List CellD) (p : Nat) (h : p < l.length), (l[p]).fKey = k → (l.flatMap cCell).set (p * 2 + 1) (.int .i64 v) = (l.set p ⟨k, v⟩).flatMap cCell
  | [], p, h, _ => by simp at h
  | d :: r, 0, h, e => by
    simp only [List.getElem_cons_zero] at e
    simp [cCell, e]
  | d :: r, p + 1, h, e => by
    have ih := flat_set1 k v r p (by simpa using h) (by simpa using e)
    rw [List.set_cons_succ, List.flatMap_cons, List.flatMap_cons, ← ih, show (p + 1) * 2 + 1 = (cCell d).length + (p * 2 + 1) by rw [cCell_len]; omega, List.set_append_right _ _ (by omega)]
    simp
theorem CoreBox.cells {w : World} {b : Nat} {cv : Value} {k : List UInt8} {on br : Bool} {l : List CellD} {n : Int} (h : CoreBox w b cv ⟨k, on, br, l, n⟩) (l2 : List CellD) : CoreBox w b cv ⟨k, on, br, l2, n⟩ := ⟨h.c0, h.c1, h.c2, h.c3, h.c4, h.z1, h.z2, h.z3, h.z4⟩
theorem set_blk_cell (w : World) (p q : Addr) (u : Value) (h : q.block ≠ p.block) : (w.setCell p u).cell? q = w.cell? q := World.cell?_of_block (Below.heap_setCell w p u q.block h)
theorem st_count {N b : Nat} {cv : Value} {d d' : CoreD} {w w' : World} (h : CoreSt N b cv d w) (hb : CoreBox w' b cv d') (hc : d'.fCells = d.fCells) (hk : Kept2 w w' (some b) none) : CoreSt N b cv d' w' := (st_turned h hb hc hk).1
theorem Kept2.both {a w w' : World} {b : Nat} {r : Option Nat} (h : Kept2 a w (some b) r) (k : Kept2 w w' (some b) none) : Kept2 a w' (some b) r :=
  ⟨k.os.trans h.os, k.tape.trans h.tape, k.output.trans h.output, Nat.le_trans h.size k.size, fun i hi h1 h2 => (k.block i (Nat.lt_of_lt_of_le hi h.size) h1 (by simp)).trans (h.block i hi h1 h2),
    fun i o hi h1 h2 ho => ⟨(k.tail i o (Nat.lt_of_lt_of_le hi h.size) h1 (by simp) ho).1.trans (h.tail i o hi h1 h2 ho).1, (k.tail i o (Nat.lt_of_lt_of_le hi h.size) h1 (by simp) ho).2.trans (h.tail i o hi h1 h2 ho).2⟩⟩
theorem Kept2.grown {a w w' : World} {b : Nat} {r : Option Nat} (h : Kept2 a w (some b) r) (k : w.grownBy w' r) : Kept2 a w' (some b) r :=
  ⟨k.os.trans h.os, k.tape.trans h.tape, k.output.trans h.output, Nat.le_trans h.size k.size, fun i hi h1 h2 => (k.block i (Nat.lt_of_lt_of_le hi h.size) h2).trans (h.block i hi h1 h2),
    fun i o hi h1 h2 ho => ⟨(World.cell?_of_block (k.block i (Nat.lt_of_lt_of_le hi h.size) (fun e => h2 e.symm))).trans (h.tail i o hi h1 h2 ho).1, (World.frozen?_of_block (k.block i (Nat.lt_of_lt_of_le hi h.size) (fun e => h2 e.symm))).trans (h.tail i o hi h1 h2 ho).2⟩⟩
set_option maxRecDepth 100000 in
set_option maxHeartbeats 3200000 in
theorem put_found (N b : Nat) (cv : Value) (d : CoreD) (key : List UInt8) (n : Int) (w : World) (h : CoreSt N b cv d w) (hm : d.fCells.length ≤ 4) (hr : -9223372036854775808 ≤ d.fCount) (hi : idleI d = 0) (hf : fnd d.fCells key = true) :
    Calls Tryz.prog 198 #[.agg #[.pointer (some ⟨b, 0, none⟩)], .string ⟨key.toArray⟩, .int .i64 n] w fun e w' => Does N b cv (putD d key n) w e w' := by
  have HS := Lib.hid h
  have HB := Lib.hid h.box
  have hl0 := h.box.lt
  have HX := Lib.hid (ownsF_at h.own (by omega))
  obtain ⟨c0, c1, c2, c3, c4, z1, z2, z3, z4⟩ := h.box
  have hne := h.ne
  clear h
  have HD := Lib.hid (fun w' (hw : Below w.heap.size w w') => show CoreBox w' b cv d ∧ Kept2 w w' (some b) none from ⟨HB.out.keep (hw.block b hl0), Kept2.of_below hw⟩)
  have HI := Lib.hid (fun w' (hw : Below w.heap.size w w') => idle_c b cv d w' (HD.out w' hw).1)
  rw [hi] at HI
  have HF := Lib.hid (fun w' (hw : Below w.heap.size w w') => find_c cv d.fCells key w' (HX.out.below hw (Nat.le_refl _)))
  rw [hf] at HF
  have HG := Lib.hid (show putD d key n = ({ d with fCells := putC d.fCells key n, fCount := upI d.fCount }, rV (putC d.fCells key n).length) from by unfold putD; rw [if_pos hi, if_pos (Or.inl hf)])
  have hp := fnd_lt hf
  have hkey : (d.fCells[plc d.fCells key]).fKey = key := by have := (fnd_at d.fCells key hp).1; rw [hf] at this; simpa using this.symm
  have HP := Lib.hid (show putC d.fCells key n = d.fCells.set (plc d.fCells key) ⟨key, n⟩ from putC_found _ _ _ hf)
  have HFS := Lib.hid (flat_set1 key n d.fCells (plc d.fCells key) hp hkey)
  rw [HP.out] at HG
  simp only [List.length_set] at HG
  clear hf hi HP hkey
  generalize putD d key n = out at *
  generalize plc d.fCells key = p at *
  obtain ⟨kd, on, br, l, cnt⟩ := d
  simp only at *
  have hl1 : b < w.heap.size + 1 := by omega
  have hl2 : b < w.heap.size + 1 + 1 := by omega
  have hn0 : ¬ b = w.heap.size := by omega
  have hn1 : ¬ b = w.heap.size + 1 := by omega
  have hap := @past_cell b
  have haf := @past_frozen b
  have HB2 := Lib.hid (show ∀ o1 o2, Below w.heap.size w ((w.alloc o1).alloc o2) from fun o1 o2 => ((Below.refl _ _).alloc (Nat.le_refl _) _).alloc (by simp) _)
  obtain ⟨g, c, rfl⟩ : ∃ g c, cv = .slice (some ⟨g, 0, none⟩) l.length c := by
    rcases HS.out.own.2 with ⟨_, hn⟩ | ⟨g, cap, cur, rfl, _⟩
    · simp only at hn; omega
    · exact ⟨_, _, rfl⟩
  have hgb : ¬ g = b := fun e => hne (by rw [e]; rfl)
  have hgw : g < w.heap.size := (World.ownsRow.lt HS.out.own g rfl).2
  have hp0 : (0 : Int) ≤ (p : Int) := by omega
  have hp1 : (p : Int) < (l.length : Int) := by omega
  go_enter Tryz.func198, Tryz.ntmps198
  go_wp2_with fail
  refine (HI.out _ (HB2.out _ _)).mono ?_
  rintro e w1 ⟨rfl, rfl⟩
  go_wp2_with fail
  refine (HF.out _ (HB2.out _ _)).mono ?_
  rintro e w1 ⟨rfl, hb⟩
  have HB3 := Lib.hid ((HB2.out _ _).trans (hb.mono (HB2.out _ _).size))
  have HO1 := Lib.hid (show OwnsF cCell 139 2 w1 N (.slice (some ⟨g, 0, none⟩) l.length c) l from ownsF_below HS.out.own HB3.out (Nat.le_refl _))
  have ST := Lib.hid (World.ownsRow.stored HO1.out (p * 2 + 1) (.int .i64 n))
  obtain ⟨hcc, hff⟩ := bcell hb
  simp at hcc hff
  have hsz := hb.size
  simp at hsz
  have e1 : (w1.cell? ⟨g, p * 2 + 1, none⟩).isSome = true := by
    rw [World.ownsRow.cellAt HO1.out (p * 2 + 1) (by omega), List.getElem?_eq_getElem (by rw [flat_len cCell 2 cCell_len]; omega)]; rfl
  obtain ⟨ev, e1⟩ := Option.isSome_iff_exists.1 e1
  have f1 := World.ownsRow.frozenAt HO1.out (p * 2 + 1)
  clear hb
  have hz0 : ∀ o, w1.frozen? ⟨w.heap.size + 1, o, none⟩ = false := fun o => by rw [hff _ _ (by omega)]; simp [go_sem]
  go_wp2_with fail
  refine (countUp_c b (.slice (some ⟨g, 0, none⟩) l.length c) ⟨kd, on, br, l.set p ⟨key, n⟩, cnt⟩ _ (((HD.out _ HB3.out).1.so _ _ (by simpa using fun e => hgb e.symm)).cells _) hr).mono ?_
  rintro e w2 ⟨rfl, hbx, hk⟩
  have HBX := Lib.hid hbx
  have HK := Lib.hid hk
  have g0 : w2.cell? ⟨w.heap.size, 0, none⟩ = some (.pointer (some ⟨b, 0, none⟩)) := (hk.cell (p := ⟨w.heap.size, 0, none⟩) (by simp; omega) (by simp; omega) (by simp)).trans ((set_blk_cell _ _ _ _ (by simp; omega)).trans ((hcc _ _ (by omega)).trans (by simp [go_sem])))
  have r0 : w2.cell? ⟨w.heap.size + 1, 0, none⟩ = some (.int .i64 0) := (hk.cell (p := ⟨w.heap.size + 1, 0, none⟩) (by simp; omega) (by simp; omega) (by simp)).trans ((set_blk_cell _ _ _ _ (by simp; omega)).trans ((hcc _ _ (by omega)).trans (by simp [go_sem])))
  have r1 : w2.cell? ⟨w.heap.size + 1, 1, none⟩ = some (.int .i64 0) := (hk.cell (p := ⟨w.heap.size + 1, 1, none⟩) (by simp; omega) (by simp; omega) (by simp)).trans ((set_blk_cell _ _ _ _ (by simp; omega)).trans ((hcc _ _ (by omega)).trans (by simp [go_sem])))
  have r2 : w2.cell? ⟨w.heap.size + 1, 2, none⟩ = some (.string ⟨#[]⟩) := (hk.cell (p := ⟨w.heap.size + 1, 2, none⟩) (by simp; omega) (by simp; omega) (by simp)).trans ((set_blk_cell _ _ _ _ (by simp; omega)).trans ((hcc _ _ (by omega)).trans (by simp [go_sem])))
  have r3 : w2.cell? ⟨w.heap.size + 1, 3, none⟩ = some (.int .i64 0) := (hk.cell (p := ⟨w.heap.size + 1, 3, none⟩) (by simp; omega) (by simp; omega) (by simp)).trans ((set_blk_cell _ _ _ _ (by simp; omega)).trans ((hcc _ _ (by omega)).trans (by simp [go_sem])))
  have r4 : w2.cell? ⟨w.heap.size + 1, 4, none⟩ = some (.int .i64 0) := (hk.cell (p := ⟨w.heap.size + 1, 4, none⟩) (by simp; omega) (by simp; omega) (by simp)).trans ((set_blk_cell _ _ _ _ (by simp; omega)).trans ((hcc _ _ (by omega)).trans (by simp [go_sem])))
  have y0 : ∀ o, w2.frozen? ⟨w.heap.size + 1, o, none⟩ = false := fun o => (hk.frozen (p := ⟨w.heap.size + 1, o, none⟩) (by simp; omega) (by simp; omega) (by simp)).trans ((frz_set _ _ _ _).trans (hz0 o))
  have hsz2 := hk.size
  simp at hsz2
  have d3 := hbx.c3
  clear hbx hk c0 c1 c2 c3 c4 z1 z2 z3 z4
  have S1 := Lib.hid (show CoreSt N b (.slice (some ⟨g, 0, none⟩) l.length c) ⟨kd, on, br, l.set p ⟨key, n⟩, cnt⟩ (w1.setCell ⟨g, p * 2 + 1, none⟩ (.int .i64 n)) from
    ⟨((HD.out _ HB3.out).1.so _ _ (by simpa using fun e => hgb e.symm)).cells _, by have h := ST.out.1; rw [HFS.out] at h; unfold OwnsF; rw [List.length_set]; exact h, hne, HS.out.ge⟩)
  have HFN := Lib.hid (show Fin N b (.slice (some ⟨g, 0, none⟩) l.length c) ⟨kd, on, br, l.set p ⟨key, n⟩, upI cnt⟩ (w.heap.size + 1) w w2 from
    ⟨⟨_, st_count S1.out HBX.out rfl HK.out, by simp [Value.ownBlock]; omega⟩, by omega, by omega, (Kept2.set (p := ⟨g, p * 2 + 1, none⟩) (Kept2.of_below HB3.out) _ (Or.inr (Or.inr rfl))).both HK.out⟩)
  go_wp2_with fail
  refine bodyPost_ret (v := vReply (rV l.length)) (by simp [results, Tryz.results198, go_sem, vReply, rC, rV, rT, cell_set_at, cell_set_ne, r0, r1, r2, r3, r4]) rfl ?_
  rw [HG.out]
  refine fin_does (out := ((⟨kd, on, br, l.set p ⟨key, n⟩, upI cnt⟩ : CoreD), rV l.length)) (n := w.heap.size + 1) ?_
  repeat (with_reducible refine fin_set ?_ _ _)
  exact HFN.out
end Go.Proofs.YtcpbikilgacdlaaGreat
namespace Go.Proofs.YtcpbikilgacdlaaGreat
set_option linter.unusedVariables false
set_option linter.unusedSimpArgs false
open Go.RowKit
set_option maxRecDepth 100000 in
set_option maxHeartbeats 3200000 in
theorem put_idle (N b : Nat) (cv : Value) (d : CoreD) (key : List UInt8) (n : Int) (w : World) (h : CoreSt N b cv d w) (hr : -9223372036854775808 ≤ d.fCount) (hm : d.fCells.length ≤ 4) (hi : ¬ idleI d = 0) :
    Calls Tryz.prog 198 #[.agg #[.pointer (some ⟨b, 0, none⟩)], .string ⟨key.toArray⟩, .int .i64 n] w fun e w' => Does N b cv (putD d key n) w e w' := by
  have HS := Lib.hid h
  have HB := Lib.hid h.box
  have hl0 := h.box.lt
  have HX := Lib.hid (ownsF_at h.own (by omega))
  obtain ⟨c0, c1, c2, c3, c4, z1, z2, z3, z4⟩ := h.box
  have hne := h.ne
  clear h
  have HD := Lib.hid (fun w' (hw : Below w.heap.size w w') => show CoreBox w' b cv d ∧ Kept2 w w' (some b) none from ⟨HB.out.keep (hw.block b hl0), Kept2.of_below hw⟩)
  have HI := Lib.hid (fun w' (hw : Below w.heap.size w w') => idle_c b cv d w' (HD.out w' hw).1)
  have HF := Lib.hid (fun w' (hw : Below w.heap.size w w') => find_c cv d.fCells key w' (HX.out.below hw (Nat.le_refl _)))
  have HG := Lib.hid (show putD d key n = (d, rC (idleI d)) from by unfold putD; rw [if_neg hi])
  generalize putD d key n = out at *
  generalize idleI d = code at *
  obtain ⟨kd, on, br, l, cnt⟩ := d
  simp only at *
  have hl1 : b < w.heap.size + 1 := by omega
  have hl2 : b < w.heap.size + 1 + 1 := by omega
  have hn0 : ¬ b = w.heap.size := by omega
  have hn1 : ¬ b = w.heap.size + 1 := by omega
  have hap := @past_cell b
  have haf := @past_frozen b
  have HB2 := Lib.hid (show ∀ o1 o2, Below w.heap.size w ((w.alloc o1).alloc o2) from fun o1 o2 => ((Below.refl _ _).alloc (Nat.le_refl _) _).alloc (by simp) _)
  have hcn : (code != 0) = true := by simpa using hi
  go_enter Tryz.func198, Tryz.ntmps198
  go_wp2_with fail
  refine (HI.out _ (HB2.out _ _)).mono ?_
  rintro e w1 ⟨rfl, rfl⟩
  go_wp2_with fail
  refine bodyPost_ret (v := vReply (rC code)) (by simp [results, Tryz.results198, go_sem, vReply, rC, rV, rT]) rfl ?_
  refine does_of (d' := ⟨kd, on, br, l, cnt⟩) (r := rC code) HS.out ?_ rfl ?_ HG.out rfl
  · exact (HD.out _ (HB2.out _ _)).1
  · exact (HD.out _ (HB2.out _ _)).2
set_option maxRecDepth 100000 in
set_option maxHeartbeats 3200000 in
theorem put_full (N b : Nat) (cv : Value) (d : CoreD) (key : List UInt8) (n : Int) (w : World) (h : CoreSt N b cv d w) (hr : -9223372036854775808 ≤ d.fCount) (hm : d.fCells.length ≤ 4) (hi : idleI d = 0) (hf : fnd d.fCells key = false) (h4 : ¬ d.fCells.length < 4) :
    Calls Tryz.prog 198 #[.agg #[.pointer (some ⟨b, 0, none⟩)], .string ⟨key.toArray⟩, .int .i64 n] w fun e w' => Does N b cv (putD d key n) w e w' := by
  have HS := Lib.hid h
  have HB := Lib.hid h.box
  have hl0 := h.box.lt
  have HX := Lib.hid (ownsF_at h.own (by omega))
  obtain ⟨c0, c1, c2, c3, c4, z1, z2, z3, z4⟩ := h.box
  have hne := h.ne
  clear h
  have HD := Lib.hid (fun w' (hw : Below w.heap.size w w') => show CoreBox w' b cv d ∧ Kept2 w w' (some b) none from ⟨HB.out.keep (hw.block b hl0), Kept2.of_below hw⟩)
  have HI := Lib.hid (fun w' (hw : Below w.heap.size w w') => idle_c b cv d w' (HD.out w' hw).1)
  have HF := Lib.hid (fun w' (hw : Below w.heap.size w w') => find_c cv d.fCells key w' (HX.out.below hw (Nat.le_refl _)))
  rw [hi] at HI
  rw [hf] at HF
  have HG := Lib.hid (show putD d key n = (d, rC 5) from by unfold putD; rw [if_pos hi, if_neg (by rw [hf]; simpa using h4)])
  clear hf hi
  generalize putD d key n = out at *
  generalize plc d.fCells key = p at *
  obtain ⟨kd, on, br, l, cnt⟩ := d
  simp only at *
  have hl1 : b < w.heap.size + 1 := by omega
  have hl2 : b < w.heap.size + 1 + 1 := by omega
  have hn0 : ¬ b = w.heap.size := by omega
  have hn1 : ¬ b = w.heap.size + 1 := by omega
  have hap := @past_cell b
  have haf := @past_frozen b
  have HB2 := Lib.hid (show ∀ o1 o2, Below w.heap.size w ((w.alloc o1).alloc o2) from fun o1 o2 => ((Below.refl _ _).alloc (Nat.le_refl _) _).alloc (by simp) _)
  obtain ⟨ca, cc, rfl⟩ := slice_of HS.out.own
  simp only at *
  have h5 : (4 : Int) ≤ (l.length : Int) := by omega
  go_enter Tryz.func198, Tryz.ntmps198
  go_wp2_with fail
  refine (HI.out _ (HB2.out _ _)).mono ?_
  rintro e w1 ⟨rfl, rfl⟩
  go_wp2_with fail
  refine (HF.out _ (HB2.out _ _)).mono ?_
  rintro e w1 ⟨rfl, hb⟩
  have HB3 := Lib.hid ((HB2.out _ _).trans (hb.mono (HB2.out _ _).size))
  obtain ⟨hcc, hff⟩ := bcell hb
  simp at hcc hff
  have hsz := hb.size
  simp at hsz
  clear hb
  go_wp2_with fail
  refine bodyPost_ret (v := vReply (rC 5)) (by simp [results, Tryz.results198, go_sem, vReply, rC, rV, rT, cell_set_at, cell_set_ne, hcc]) rfl ?_
  refine does_of (d' := ⟨kd, on, br, l, cnt⟩) (r := rC 5) HS.out ?_ rfl ?_ HG.out rfl
  · exact (HD.out _ (by repeat (first | with_reducible exact HB3.out | with_reducible refine Below.setCell ?_ (by simp; try omega) _)) ).1
  · exact (HD.out _ (by repeat (first | with_reducible exact HB3.out | with_reducible refine Below.setCell ?_ (by simp; try omega) _)) ).2
theorem slice_len {α : Type} {f : α → List Value} {E k : Nat} {w : World} {B m : Nat} {v : Value} {l : List α} (h : OwnsF f E k w B v l) (hm : l.length = m) : ∃ a c, v = .slice a m c := by
  subst hm; exact slice_of h
end Go.Proofs.YtcpbikilgacdlaaGreat
namespace Go.Proofs.YtcpbikilgacdlaaGreat
set_option linter.unusedVariables false
set_option linter.unusedSimpArgs false
open Go.RowKit
set_option maxRecDepth 100000 in
set_option maxHeartbeats 3200000 in
theorem put_new (N b : Nat) (cv : Value) (d : CoreD) (key : List UInt8) (n : Int) (w : World) (h : CoreSt N b cv d w) (hr : -9223372036854775808 ≤ d.fCount) (h4 : d.fCells.length < 4) (hk : key.length ≤ 1048576) (hi : idleI d = 0) (hf : fnd d.fCells key = false) :
    Calls Tryz.prog 198 #[.agg #[.pointer (some ⟨b, 0, none⟩)], .string ⟨key.toArray⟩, .int .i64 n] w fun e w' => Does N b cv (putD d key n) w e w' := by
  have HS := Lib.hid h
  have HB := Lib.hid h.box
  have hl0 := h.box.lt
  have HX := Lib.hid (ownsF_at h.own (by omega))
  obtain ⟨c0, c1, c2, c3, c4, z1, z2, z3, z4⟩ := h.box
  have hne := h.ne
  clear h
  have HD := Lib.hid (fun w' (hw : Below w.heap.size w w') => show CoreBox w' b cv d ∧ Kept2 w w' (some b) none from ⟨HB.out.keep (hw.block b hl0), Kept2.of_below hw⟩)
  have HI := Lib.hid (fun w' (hw : Below w.heap.size w w') => idle_c b cv d w' (HD.out w' hw).1)
  have HF := Lib.hid (fun w' (hw : Below w.heap.size w w') => find_c cv d.fCells key w' (HX.out.below hw (Nat.le_refl _)))
  rw [hi] at HI
  rw [hf] at HF
  have HG := Lib.hid (show putD d key n = ({ d with fCells := putC d.fCells key n, fCount := upI d.fCount }, rV (putC d.fCells key n).length) from by unfold putD; rw [if_pos hi, if_pos (Or.inr h4)])
  have HP := Lib.hid (show putC d.fCells key n = d.fCells.take (plc d.fCells key) ++ ⟨key, n⟩ :: d.fCells.drop (plc d.fCells key) from putC_new _ _ _ hf)
  have hple := plc_le d.fCells key
  have HLN := Lib.hid (show (putC d.fCells key n).length = d.fCells.length + 1 from by rw [putC_len, hf]; rfl)
  clear hf hi
  generalize putD d key n = out at *
  generalize plc d.fCells key = p at *
  generalize putC d.fCells key n = l2 at *
  obtain ⟨kd, on, br, l, cnt⟩ := d
  simp only at *
  have hl1 : b < w.heap.size + 1 := by omega
  have hl2 : b < w.heap.size + 1 + 1 := by omega
  have hn0 : ¬ b = w.heap.size := by omega
  have hn1 : ¬ b = w.heap.size + 1 := by omega
  have hap := @past_cell b
  have haf := @past_frozen b
  have HB2 := Lib.hid (show ∀ o1 o2, Below w.heap.size w ((w.alloc o1).alloc o2) from fun o1 o2 => ((Below.refl _ _).alloc (Nat.le_refl _) _).alloc (by simp) _)
  obtain ⟨ca, cc, rfl⟩ := slice_of HS.out.own
  simp only at *
  have h5 : ¬ (4 : Int) ≤ (l.length : Int) := by omega
  have HCT := Lib.hid (fun W => copyText_any ⟨key.toArray⟩ W (by rw [← size_list]; simp; omega))
  have HLT := Lib.hid (show ∀ g, (Value.slice ca l.length cc).ownBlock = some g → g < w.heap.size from fun g h => (World.ownsRow.lt HS.out.own g h).2)
  have hge := HS.out.ge
  have hlen : (l.take p ++ (⟨key, n⟩ : CellD) :: l.drop p).length = l.length + 1 := by simp; omega
  go_enter Tryz.func198, Tryz.ntmps198
  go_wp2_with fail
  refine (HI.out _ (HB2.out _ _)).mono ?_
  rintro e w1 ⟨rfl, rfl⟩
  go_wp2_with fail
  refine (HF.out _ (HB2.out _ _)).mono ?_
  rintro e w1 ⟨rfl, hb⟩
  have HB3 := Lib.hid ((HB2.out _ _).trans (hb.mono (HB2.out _ _).size))
  have HO1 := Lib.hid (show OwnsF cCell 139 2 w1 N (.slice ca l.length cc) l from ownsF_below HS.out.own HB3.out (Nat.le_refl _))
  have HBX1 := Lib.hid (HD.out _ HB3.out).1
  have k3 := HBX1.out.c3
  have hsz := hb.size
  simp at hsz
  have g0 : w1.cell? ⟨w.heap.size, 0, none⟩ = some (.pointer (some ⟨b, 0, none⟩)) := (hb.cell (p := ⟨w.heap.size, 0, none⟩) (by simp; try omega)).trans (by simp [go_sem])
  have r0 : w1.cell? ⟨w.heap.size + 1, 0, none⟩ = some (.int .i64 0) := (hb.cell (p := ⟨w.heap.size + 1, 0, none⟩) (by simp)).trans (by simp [go_sem])
  have r1 : w1.cell? ⟨w.heap.size + 1, 1, none⟩ = some (.int .i64 0) := (hb.cell (p := ⟨w.heap.size + 1, 1, none⟩) (by simp)).trans (by simp [go_sem])
  have r2 : w1.cell? ⟨w.heap.size + 1, 2, none⟩ = some (.string ⟨#[]⟩) := (hb.cell (p := ⟨w.heap.size + 1, 2, none⟩) (by simp)).trans (by simp [go_sem])
  have r3 : w1.cell? ⟨w.heap.size + 1, 3, none⟩ = some (.int .i64 0) := (hb.cell (p := ⟨w.heap.size + 1, 3, none⟩) (by simp)).trans (by simp [go_sem])
  have r4 : w1.cell? ⟨w.heap.size + 1, 4, none⟩ = some (.int .i64 0) := (hb.cell (p := ⟨w.heap.size + 1, 4, none⟩) (by simp)).trans (by simp [go_sem])
  have y0 : ∀ o, w1.frozen? ⟨w.heap.size + 1, o, none⟩ = false := fun o => (hb.frozen (p := ⟨w.heap.size + 1, o, none⟩) (by simp)).trans (by simp [go_sem])
  have HR := Lib.hid (And.intro r0 (And.intro r1 (And.intro r2 (And.intro r3 r4))))
  have HY := Lib.hid y0
  have hbw : b < w1.heap.size := by omega
  clear hb c0 c1 c2 c3 c4 z1 z2 z3 z4 r0 r1 r2 r3 r4 y0
  go_wp2_with fail
  have hpn := @past_cell w.heap.size
  refine region_T (S := fun w' => w'.cell? ⟨w.heap.size, 0, none⟩ = some (.pointer (some ⟨b, 0, none⟩)) ∧ w'.cell? ⟨b, 3, none⟩ = some (.slice ca l.length cc)) (t := 16) (by kernel_rfl) ?_ (fun hHeld => ?_)
  · exact ⟨g0, k3⟩
  refine anyT_take (i := 0) (v := ?_) rfl (by kernel_rfl) (by kernel_rfl) (by kernel_rfl) (by kernel_rfl) (by kernel_rfl) (fun _ _ _ h => h) (Or.inl ⟨by rfl, ?_⟩) (by assumption) ?_
  rotate_left
  · intro w hSw; (try dsimp only at hSw); go_simp; with_reducible rfl
  try simp only [Act.put, List.getElem_toArray, List.getElem_cons_zero, List.getElem_cons_succ, List.setIfInBounds_toArray, List.set_cons_zero, List.set_cons_succ]
  refine anyT_take (i := 1) (v := ?_) rfl (by kernel_rfl) (by kernel_rfl) (by kernel_rfl) (by kernel_rfl) (by kernel_rfl) (fun _ _ _ h => h) (Or.inl ⟨by rfl, ?_⟩) (by assumption) ?_
  rotate_left
  · intro w hSw; (try dsimp only at hSw); go_simp; with_reducible rfl
  try simp only [Act.put, List.getElem_toArray, List.getElem_cons_zero, List.getElem_cons_succ, List.setIfInBounds_toArray, List.set_cons_zero, List.set_cons_succ]
  refine anyT_take (i := 2) (v := ?_) rfl (by kernel_rfl) (by kernel_rfl) (by kernel_rfl) (by kernel_rfl) (by kernel_rfl) (fun _ _ _ h => h) (Or.inl ⟨by rfl, ?_⟩) (by assumption) ?_
  rotate_left
  · intro w hSw; (try dsimp only at hSw); go_simp; with_reducible rfl
  try simp only [Act.put, List.getElem_toArray, List.getElem_cons_zero, List.getElem_cons_succ, List.setIfInBounds_toArray, List.set_cons_zero, List.set_cons_succ]
  refine anyT_take (i := 3) (v := ?_) rfl (by kernel_rfl) (by kernel_rfl) (by kernel_rfl) (by kernel_rfl) (by kernel_rfl) (fun _ _ _ h => h) (Or.inl ⟨by rfl, ?_⟩) (by assumption) ?_
  rotate_left
  · intro w hSw; (try dsimp only at hSw); go_simp; with_reducible rfl
  try simp only [Act.put, List.getElem_toArray, List.getElem_cons_zero, List.getElem_cons_succ, List.setIfInBounds_toArray, List.set_cons_zero, List.set_cons_succ]
  refine anyT_take (i := 4) (v := ?_) rfl (by kernel_rfl) (by kernel_rfl) (by kernel_rfl) (by kernel_rfl) (by kernel_rfl) (fun _ _ _ h => h) (Or.inl ⟨by rfl, ?_⟩) (by assumption) ?_
  rotate_left
  · intro w hSw; (try dsimp only at hSw); go_simp; with_reducible rfl
  try simp only [Act.put, List.getElem_toArray, List.getElem_cons_zero, List.getElem_cons_succ, List.setIfInBounds_toArray, List.set_cons_zero, List.set_cons_succ]
  refine anyT_take (i := 5) (v := ?_) rfl (by kernel_rfl) (by kernel_rfl) (by kernel_rfl) (by kernel_rfl) (by kernel_rfl) (fun _ _ _ h => h) (Or.inl ⟨by rfl, ?_⟩) (by assumption) ?_
  rotate_left
  · intro w hSw; (try dsimp only at hSw); go_simp; with_reducible rfl
  try simp only [Act.put, List.getElem_toArray, List.getElem_cons_zero, List.getElem_cons_succ, List.setIfInBounds_toArray, List.set_cons_zero, List.set_cons_succ]
  refine anyT_take (i := 6) (v := ?_) rfl (by kernel_rfl) (by kernel_rfl) (by kernel_rfl) (by kernel_rfl) (by kernel_rfl) (fun _ _ _ h => h) (Or.inl ⟨by rfl, ?_⟩) (by assumption) ?_
  rotate_left
  · intro w hSw; (try dsimp only at hSw); go_simp; with_reducible rfl
  try simp only [Act.put, List.getElem_toArray, List.getElem_cons_zero, List.getElem_cons_succ, List.setIfInBounds_toArray, List.set_cons_zero, List.set_cons_succ]
  refine anyT_take (i := 7) (v := ?_) rfl (by kernel_rfl) (by kernel_rfl) (by kernel_rfl) (by kernel_rfl) (by kernel_rfl) (fun _ _ _ h => h) (Or.inl ⟨by rfl, ?_⟩) (by assumption) ?_
  rotate_left
  · intro w hSw; (try dsimp only at hSw); go_simp; with_reducible rfl
  try simp only [Act.put, List.getElem_toArray, List.getElem_cons_zero, List.getElem_cons_succ, List.setIfInBounds_toArray, List.set_cons_zero, List.set_cons_succ]
  refine anyT_take (i := 8) (v := ?_) rfl (by kernel_rfl) (by kernel_rfl) (by kernel_rfl) (by kernel_rfl) (by kernel_rfl) (fun _ _ _ h => h) (Or.inl ⟨by rfl, ?_⟩) (by assumption) ?_
  rotate_left
  · intro w hSw; (try dsimp only at hSw); go_simp; with_reducible rfl
  try simp only [Act.put, List.getElem_toArray, List.getElem_cons_zero, List.getElem_cons_succ, List.setIfInBounds_toArray, List.set_cons_zero, List.set_cons_succ]
  refine anyT_take (i := 10) (v := ?_) rfl (by kernel_rfl) (by kernel_rfl) (by kernel_rfl) (by kernel_rfl) (by kernel_rfl) (fun _ _ _ h => h) (Or.inl ⟨by rfl, ?_⟩) (by assumption) ?_
  rotate_left
  · intro w hSw; (try dsimp only at hSw); go_simp; with_reducible rfl
  try simp only [Act.put, List.getElem_toArray, List.getElem_cons_zero, List.getElem_cons_succ, List.setIfInBounds_toArray, List.set_cons_zero, List.set_cons_succ]
  refine anyT_only (i := 9) (by kernel_rfl) rfl (fun K hK => ?_)
  go_simp
  go_at_call 105; (with_reducible refine (HCT.out _).mono ?_); rintro e w2 ⟨rfl, hb1⟩; have s2 : w1.heap.size ≤ w2.heap.size := hb1.size; have g2 : w2.cell? ⟨w.heap.size, 0, none⟩ = some (.pointer (some ⟨b, 0, none⟩)) := (hb1.cell (p := ⟨w.heap.size, 0, none⟩) (show w.heap.size < w1.heap.size by omega)).trans g0; have k32 : w2.cell? ⟨b, 3, none⟩ = some (.slice ca l.length cc) := (hb1.cell (p := ⟨b, 3, none⟩) hbw).trans k3; have z32 : w2.frozen? ⟨b, 3, none⟩ = false := (hb1.frozen (p := ⟨b, 3, none⟩) hbw).trans HBX1.out.z3; have hbw2 : b < w2.heap.size := (by omega); have hnw2 : w.heap.size < w2.heap.size := (by omega)
  refine hK.out _ _ ?_ (fun hHeld => ?_)
  · exact ⟨g2, k32⟩
  clear hK K
  try simp only [Act.put, List.getElem_toArray, List.getElem_cons_zero, List.getElem_cons_succ, List.setIfInBounds_toArray, List.set_cons_zero, List.set_cons_succ]
  refine anyT_take (i := 11) (v := ?_) rfl (by kernel_rfl) (by kernel_rfl) (by kernel_rfl) (by kernel_rfl) (by kernel_rfl) (fun _ _ _ h => h) (Or.inl ⟨by rfl, ?_⟩) (by assumption) ?_
  rotate_left
  · intro w hSw; (try dsimp only at hSw); go_simp; with_reducible rfl
  try simp only [Act.put, List.getElem_toArray, List.getElem_cons_zero, List.getElem_cons_succ, List.setIfInBounds_toArray, List.set_cons_zero, List.set_cons_succ]
  refine anyT_only (i := 12) (by kernel_rfl) rfl (fun K hK => ?_)
  go_simp
  skip
  refine hK.out _ _ ?_ (fun hHeld => ?_)
  · exact ⟨(past_cell w2 _ 0 hnw2).trans g2, (past_cell w2 _ 3 hbw2).trans k32⟩
  clear hK K
  try simp only [Act.put, List.getElem_toArray, List.getElem_cons_zero, List.getElem_cons_succ, List.setIfInBounds_toArray, List.set_cons_zero, List.set_cons_succ]
  refine anyT_only (i := 13) (by kernel_rfl) rfl (fun K hK => ?_)
  go_simp
  go_at_call 201; refine (ins_c N _ l p ⟨key, n⟩ w2.heap.size _ (ownsF_alloc (ownsF_below (ownsF_drew HO1.out) hb1 (Nat.le_refl _)) _) hple (by omega) (by simp; omega) (heap_alloc_new w2 _) (fun e => by have := HLT.out _ e; omega)).mono ?_; rintro e w4 ⟨v', rfl, hO4, hg2⟩; have HO4 := Lib.hid hO4; obtain ⟨va, vc, rfl⟩ := slice_len hO4 hlen; clear hO4; have s4 : w2.heap.size + 1 ≤ w4.heap.size := (by have := hg2.size; simpa using this); have b3 : w4.cell? ⟨b, 3, none⟩ = some (.slice ca l.length cc) := (hg2.cell_far ⟨b, 3, none⟩ (by simp; omega) (fun e => hne e.symm)).trans ((past_cell w2 _ 3 hbw2).trans k32); have b0 : w4.cell? ⟨w.heap.size, 0, none⟩ = some (.pointer (some ⟨b, 0, none⟩)) := (hg2.cell_far ⟨w.heap.size, 0, none⟩ (by simp; omega) (fun e => by have h9 := HLT.out _ e.symm; simp at h9)).trans ((past_cell w2 _ 0 hnw2).trans g2); have z3 : w4.frozen? ⟨b, 3, none⟩ = false := (hg2.frozen_far ⟨b, 3, none⟩ (by simp; omega) (fun e => hne e.symm)).trans ((past_frozen w2 _ 3 hbw2).trans z32)
  refine hK.out _ _ ?_ (fun hHeld => ?_)
  · exact ⟨b0, b3⟩
  clear hK K
  try simp only [Act.put, List.getElem_toArray, List.getElem_cons_zero, List.getElem_cons_succ, List.setIfInBounds_toArray, List.set_cons_zero, List.set_cons_succ]
  refine anyT_take (i := 14) (v := ?_) rfl (by kernel_rfl) (by kernel_rfl) (by kernel_rfl) (by kernel_rfl) (by kernel_rfl) (fun _ _ _ h => h) (Or.inl ⟨by rfl, ?_⟩) (by assumption) ?_
  rotate_left
  · intro w hSw; (try dsimp only at hSw); go_simp; with_reducible rfl
  try simp only [Act.put, List.getElem_toArray, List.getElem_cons_zero, List.getElem_cons_succ, List.setIfInBounds_toArray, List.set_cons_zero, List.set_cons_succ]
  refine anyT_take (i := 15) (v := ?_) rfl (by kernel_rfl) (by kernel_rfl) (by kernel_rfl) (by kernel_rfl) (by kernel_rfl) (fun _ _ _ h => h) (Or.inl ⟨by rfl, ?_⟩) (by assumption) ?_
  rotate_left
  · intro w hSw; (try dsimp only at hSw); go_simp; with_reducible rfl
  try simp only [Act.put, List.getElem_toArray, List.getElem_cons_zero, List.getElem_cons_succ, List.setIfInBounds_toArray, List.set_cons_zero, List.set_cons_succ]
  refine anyT_tail (by kernel_rfl) rfl (fun K hK => ?_)
  go_simp
  refine hK.out _ _ ?_
  clear hK K
  try simp only [Act.put, List.getElem_toArray, List.getElem_cons_zero, List.getElem_cons_succ, List.setIfInBounds_toArray, List.set_cons_zero, List.set_cons_succ]
  refine anyT_done (by kernel_rfl) ?_ _
  obtain ⟨r0, r1, r2, r3, r4⟩ := HR.out
  have y0 := HY.out
  have hn1w : w.heap.size + 1 < w1.heap.size := by omega
  have hfar : ∀ o, w4.cell? ⟨w.heap.size + 1, o, none⟩ = w1.cell? ⟨w.heap.size + 1, o, none⟩ := fun o => (hg2.cell_far ⟨w.heap.size + 1, o, none⟩ (by simp; omega) (fun e => by have h9 := HLT.out _ e.symm; simp at h9; omega)).trans ((past_cell w2 _ o (by omega)).trans (hb1.cell (p := ⟨w.heap.size + 1, o, none⟩) hn1w))
  have hfrz : ∀ o, w4.frozen? ⟨w.heap.size + 1, o, none⟩ = w1.frozen? ⟨w.heap.size + 1, o, none⟩ := fun o => (hg2.frozen_far ⟨w.heap.size + 1, o, none⟩ (by simp; omega) (fun e => by have h9 := HLT.out _ e.symm; simp at h9; omega)).trans ((past_frozen w2 _ o (by omega)).trans (hb1.frozen (p := ⟨w.heap.size + 1, o, none⟩) hn1w))
  have BX4 := Lib.hid (show CoreBox w4 b (.slice ca l.length cc) ⟨kd, on, br, l, cnt⟩ from HBX1.out.keep ((hg2.block b (by simp; omega) (fun e => hne e.symm)).trans ((Below.heap_alloc w2 _ b hbw2).trans (hb1.block b hbw))))
  have HK4 := Lib.hid (show Kept2 w w4 (some b) (Value.slice ca l.length cc).ownBlock from (((Kept2.of_below HB3.out).below (show Below w1.heap.size w1 w2 from ⟨hb1.os, hb1.tape, hb1.output, hb1.size, hb1.block⟩)).alloc _).grown hg2)
  have HO5 := Lib.hid (show OwnsF cCell 139 2 w4 N (.slice va (l.length + 1) vc) l2 from by rw [HP.out]; exact HO4.out)
  have hneb : (Value.slice va (l.length + 1) vc).ownBlock ≠ some b := row_not_bool HO5.out (by rw [HLN.out]; omega) BX4.out.c1
  have hnen : (Value.slice va (l.length + 1) vc).ownBlock ≠ some (w.heap.size + 1) := row_not_int HO5.out (by rw [HLN.out]; omega) ((hfar 0).trans r0)
  have S1 := Lib.hid (show CoreSt N b (.slice va (l.length + 1) vc) ⟨kd, on, br, l2, cnt⟩ (w4.setCell ⟨b, 3, none⟩ (.slice va (l.length + 1) vc)) from
    ⟨CoreBox.s3 (cv0 := .slice ca l.length cc) (l0 := l) BX4.out _ _, World.ownsRow.kept HO5.out (row := some b) ⟨rfl, rfl, rfl, by simp, fun i hi hni => Below.heap_setCell w4 _ _ i (fun e => hni (by rw [e]))⟩ (Or.inr hneb), hneb, hge⟩)
  have KS := Lib.hid (Kept2.set (p := ⟨b, 3, none⟩) HK4.out (.slice va (l.length + 1) vc) (Or.inr (Or.inl ⟨rfl, by simp⟩)))
  have hu : ∀ o, (w4.setCell ⟨b, 3, none⟩ (.slice va (l.length + 1) vc)).cell? ⟨w.heap.size + 1, o, none⟩ = w1.cell? ⟨w.heap.size + 1, o, none⟩ := fun o => (set_blk_cell _ _ _ _ (by simp; omega)).trans (hfar o)
  have hu0 : (w4.setCell ⟨b, 3, none⟩ (.slice va (l.length + 1) vc)).cell? ⟨w.heap.size, 0, none⟩ = some (.pointer (some ⟨b, 0, none⟩)) := (set_blk_cell _ _ _ _ (by simp; omega)).trans b0
  clear hb1 hg2
  go_wp2_with fail
  refine (countUp_c b (.slice va (l.length + 1) vc) ⟨kd, on, br, l2, cnt⟩ _ S1.out.box hr).mono ?_
  rintro e w5 ⟨rfl, hbx, hk5⟩
  have HBX := Lib.hid hbx
  have HK := Lib.hid hk5
  have g5 : w5.cell? ⟨w.heap.size, 0, none⟩ = some (.pointer (some ⟨b, 0, none⟩)) := (hk5.cell (p := ⟨w.heap.size, 0, none⟩) (by simp; omega) (by simp; omega) (by simp)).trans hu0
  have t0 : w5.cell? ⟨w.heap.size + 1, 0, none⟩ = some (.int .i64 0) := (hk5.cell (p := ⟨w.heap.size + 1, 0, none⟩) (by simp; omega) (by simp; omega) (by simp)).trans ((hu 0).trans r0)
  have t1 : w5.cell? ⟨w.heap.size + 1, 1, none⟩ = some (.int .i64 0) := (hk5.cell (p := ⟨w.heap.size + 1, 1, none⟩) (by simp; omega) (by simp; omega) (by simp)).trans ((hu 1).trans r1)
  have t2 : w5.cell? ⟨w.heap.size + 1, 2, none⟩ = some (.string ⟨#[]⟩) := (hk5.cell (p := ⟨w.heap.size + 1, 2, none⟩) (by simp; omega) (by simp; omega) (by simp)).trans ((hu 2).trans r2)
  have t3 : w5.cell? ⟨w.heap.size + 1, 3, none⟩ = some (.int .i64 0) := (hk5.cell (p := ⟨w.heap.size + 1, 3, none⟩) (by simp; omega) (by simp; omega) (by simp)).trans ((hu 3).trans r3)
  have t4 : w5.cell? ⟨w.heap.size + 1, 4, none⟩ = some (.int .i64 0) := (hk5.cell (p := ⟨w.heap.size + 1, 4, none⟩) (by simp; omega) (by simp; omega) (by simp)).trans ((hu 4).trans r4)
  have y5 : ∀ o, w5.frozen? ⟨w.heap.size + 1, o, none⟩ = false := fun o => (hk5.frozen (p := ⟨w.heap.size + 1, o, none⟩) (by simp; omega) (by simp; omega) (by simp)).trans ((frz_set _ _ _ _).trans ((hfrz o).trans (y0 o)))
  have d3 := hbx.c3
  have HFN := Lib.hid (show Fin N b (.slice ca l.length cc) ⟨kd, on, br, l2, upI cnt⟩ (w.heap.size + 1) w w5 from ⟨⟨_, st_count S1.out HBX.out rfl HK.out, hnen⟩, by omega, by omega, KS.out.both HK.out⟩)
  clear hbx hk5 hu hu0 hfar hfrz b0 b3 z3
  go_wp2_with fail
  refine bodyPost_ret (v := vReply (rV (l.length + 1))) (by simp [results, Tryz.results198, go_sem, vReply, rC, rV, rT, cell_set_at, cell_set_ne, t0, t1, t2, t3, t4]) rfl ?_
  rw [HG.out, HLN.out]
  refine fin_does (out := ((⟨kd, on, br, l2, upI cnt⟩ : CoreD), rV ((l.length + 1 : Nat) : Int))) (n := w.heap.size + 1) ?_
  repeat (with_reducible refine fin_set ?_ _ _)
  exact HFN.out
end Go.Proofs.YtcpbikilgacdlaaGreat
namespace Go.Proofs.YtcpbikilgacdlaaGreat
set_option linter.unusedVariables false
set_option linter.unusedSimpArgs false
open Go.RowKit
theorem coreB_len {d : CoreD} (h : coreB d = true) : d.fCells.length ≤ 4 := by
  simp only [coreB, Bool.and_eq_true] at h
  exact cellsB_len h.1.1.1.1.2
theorem put_c (N b : Nat) (cv : Value) (d : CoreD) (x : CallD) (hv : coreB d = true) (hr : -9223372036854775808 ≤ d.fCount) (hk : x.fKey.length ≤ 1048576) : PutOk N b cv d x := fun w h => by
  have hm := coreB_len hv
  by_cases hi : idleI d = 0
  · cases hf : fnd d.fCells x.fKey with
    | true => exact put_found N b cv d x.fKey x.fValue w h hm hr hi hf
    | false =>
      by_cases h4 : d.fCells.length < 4
      · exact put_new N b cv d x.fKey x.fValue w h hr h4 hk hi hf
      · exact put_full N b cv d x.fKey x.fValue w h hr hm hi hf h4
  · exact put_idle N b cv d x.fKey x.fValue w h hr hm hi
end Go.Proofs.YtcpbikilgacdlaaGreat
namespace Go.Proofs.YtcpbikilgacdlaaGreat
set_option linter.unusedVariables false
open Go.RowKit
theorem core_len {d : CoreD} (h : coreB d = true) : d.fCells.length ≤ 4 := by
  have := ((coreB_iff d).1 h).2.1
  simp only [cellsB, Bool.and_eq_true, decide_eq_true_eq] at this
  exact this.1
theorem core_keys {d : CoreD} (h : coreB d = true) : ∀ c ∈ d.fCells, c.fKey.length ≤ 8 := by
  have hc := ((coreB_iff d).1 h).2.1
  simp only [cellsB, Bool.and_eq_true, decide_eq_true_eq] at hc
  intro c hm
  obtain ⟨i, hi, rfl⟩ := List.mem_iff_getElem.1 hm
  have := okTo_at d.fCells _ i hc.2 hi
  simp only [okAt, Bool.and_eq_true] at this
  rw [getD_at d.fCells i hi] at this
  exact nameB_len8 this.1.1
theorem core_cnt {d : CoreD} (h : coreB d = true) : 0 ≤ d.fCount ∧ d.fCount ≤ 999 := by
  have := ((coreB_iff d).1 h).2.2.2.2.1
  simpa only [numB, Bool.and_eq_true, decide_eq_true_eq] using this
end Go.Proofs.YtcpbikilgacdlaaGreat
namespace Go.Proofs.YtcpbikilgacdlaaGreat
set_option linter.unusedVariables false
set_option linter.unusedSimpArgs false
open Go.RowKit
abbrev FsHear : List FuncId := [207, 238]
abbrev FsLoad : List FuncId := [208]
abbrev FsSave : List FuncId := [209]
abbrev FsHeal : List FuncId := [228, 239]
structure GoodX (x : CallD) (m : List UInt8) : Prop where
  ok : callB x = true
  hk : x.fKey.length ≤ 1048576
  ht : x.fText.length ≤ 1048576
  hm : x.fMethod = m
structure Stack (mx : Int) (N b : Nat) (lv : Value) (k0 : List UInt8) (nms : List (List UInt8)) (n : Nat) (T : TypeId) (V : Value) (f : Int) : Prop where
  start : offersF f 1 = true → ∀ x, GoodX x mStart → MthOk mx N b lv k0 nms n FsStart T V "Start" #[] x
  stop : offersF f 1 = true → ∀ x, GoodX x mStop → MthOk mx N b lv k0 nms n FsStop T V "Stop" #[] x
  get : offersF f 2 = true → ∀ x, GoodX x mGet → MthOk mx N b lv k0 nms n FsGet T V "Get" #[.string ⟨x.fKey.toArray⟩] x
  put : offersF f 2 = true → ∀ x, GoodX x mPut → MthOk mx N b lv k0 nms n FsPut T V "Put" #[.string ⟨x.fKey.toArray⟩, .int .i64 x.fValue] x
  tell : offersF f 4 = true → ∀ x, GoodX x mTell → MthOk mx N b lv k0 nms n FsTell T V "Tell" #[] x
  hear : offersF f 8 = true → ∀ x, GoodX x mHear → MthOk mx N b lv k0 nms n FsHear T V "Hear" #[.int .i64 x.fValue] x
  load : offersF f 16 = true → ∀ x, GoodX x mLoad → MthOk mx N b lv k0 nms n FsLoad T V "Load" #[.string ⟨x.fText.toArray⟩] x
  save : offersF f 16 = true → ∀ x, GoodX x mSave → MthOk mx N b lv k0 nms n FsSave T V "Save" #[] x
  heal : offersF f 32 = true → ∀ x, GoodX x mHeal → MthOk mx N b lv k0 nms n FsHeal T V "Heal" #[] x
structure Ass6 (T : TypeId) (f : Int) : Prop where
  run : Meets 206 T (offersF f 1)
  keep : Meets 210 T (offersF f 2)
  tell : Meets 222 T (offersF f 4)
  hear : Meets 231 T (offersF f 8)
  save : Meets 234 T (offersF f 16)
  heal : Meets 236 T (offersF f 32)
theorem ass6_k0 : Ass6 193 0 := ⟨(show offersF 0 1 = false by decide +kernel) ▸ (show Fails 206 193 from fails_of Tryz.underlying206 (by kernel_rfl)), (show offersF 0 2 = false by decide +kernel) ▸ (show Fails 210 193 from fails_of Tryz.underlying210 (by kernel_rfl)), (show offersF 0 4 = false by decide +kernel) ▸ (show Fails 222 193 from fails_of Tryz.underlying222 (by kernel_rfl)), (show offersF 0 8 = false by decide +kernel) ▸ (show Fails 231 193 from fails_of Tryz.underlying231 (by kernel_rfl)), (show offersF 0 16 = false by decide +kernel) ▸ (show Fails 234 193 from fails_of Tryz.underlying234 (by kernel_rfl)), (show offersF 0 32 = false by decide +kernel) ▸ (show Fails 236 193 from fails_of Tryz.underlying236 (by kernel_rfl))⟩
theorem ass6_k1 : Ass6 174 1 := ⟨(show offersF 1 1 = true by decide +kernel) ▸ (show Has 206 174 from ta_has Tryz.underlying206 (by kernel_rfl)), (show offersF 1 2 = false by decide +kernel) ▸ (show Fails 210 174 from fails_of Tryz.underlying210 (by kernel_rfl)), (show offersF 1 4 = false by decide +kernel) ▸ (show Fails 222 174 from fails_of Tryz.underlying222 (by kernel_rfl)), (show offersF 1 8 = false by decide +kernel) ▸ (show Fails 231 174 from fails_of Tryz.underlying231 (by kernel_rfl)), (show offersF 1 16 = false by decide +kernel) ▸ (show Fails 234 174 from fails_of Tryz.underlying234 (by kernel_rfl)), (show offersF 1 32 = false by decide +kernel) ▸ (show Fails 236 174 from fails_of Tryz.underlying236 (by kernel_rfl))⟩
theorem ass6_k2 : Ass6 177 2 := ⟨(show offersF 2 1 = false by decide +kernel) ▸ (show Fails 206 177 from fails_of Tryz.underlying206 (by kernel_rfl)), (show offersF 2 2 = true by decide +kernel) ▸ (show Has 210 177 from ta_has Tryz.underlying210 (by kernel_rfl)), (show offersF 2 4 = false by decide +kernel) ▸ (show Fails 222 177 from fails_of Tryz.underlying222 (by kernel_rfl)), (show offersF 2 8 = false by decide +kernel) ▸ (show Fails 231 177 from fails_of Tryz.underlying231 (by kernel_rfl)), (show offersF 2 16 = false by decide +kernel) ▸ (show Fails 234 177 from fails_of Tryz.underlying234 (by kernel_rfl)), (show offersF 2 32 = false by decide +kernel) ▸ (show Fails 236 177 from fails_of Tryz.underlying236 (by kernel_rfl))⟩
theorem ass6_k3 : Ass6 180 5 := ⟨(show offersF 5 1 = true by decide +kernel) ▸ (show Has 206 180 from ta_has Tryz.underlying206 (by kernel_rfl)), (show offersF 5 2 = false by decide +kernel) ▸ (show Fails 210 180 from fails_of Tryz.underlying210 (by kernel_rfl)), (show offersF 5 4 = true by decide +kernel) ▸ (show Has 222 180 from ta_has Tryz.underlying222 (by kernel_rfl)), (show offersF 5 8 = false by decide +kernel) ▸ (show Fails 231 180 from fails_of Tryz.underlying231 (by kernel_rfl)), (show offersF 5 16 = false by decide +kernel) ▸ (show Fails 234 180 from fails_of Tryz.underlying234 (by kernel_rfl)), (show offersF 5 32 = false by decide +kernel) ▸ (show Fails 236 180 from fails_of Tryz.underlying236 (by kernel_rfl))⟩
theorem ass6_k4 : Ass6 182 3 := ⟨(show offersF 3 1 = true by decide +kernel) ▸ (show Has 206 182 from ta_has Tryz.underlying206 (by kernel_rfl)), (show offersF 3 2 = true by decide +kernel) ▸ (show Has 210 182 from ta_has Tryz.underlying210 (by kernel_rfl)), (show offersF 3 4 = false by decide +kernel) ▸ (show Fails 222 182 from fails_of Tryz.underlying222 (by kernel_rfl)), (show offersF 3 8 = false by decide +kernel) ▸ (show Fails 231 182 from fails_of Tryz.underlying231 (by kernel_rfl)), (show offersF 3 16 = false by decide +kernel) ▸ (show Fails 234 182 from fails_of Tryz.underlying234 (by kernel_rfl)), (show offersF 3 32 = false by decide +kernel) ▸ (show Fails 236 182 from fails_of Tryz.underlying236 (by kernel_rfl))⟩
theorem ass6_k5 : Ass6 185 9 := ⟨(show offersF 9 1 = true by decide +kernel) ▸ (show Has 206 185 from ta_has Tryz.underlying206 (by kernel_rfl)), (show offersF 9 2 = false by decide +kernel) ▸ (show Fails 210 185 from fails_of Tryz.underlying210 (by kernel_rfl)), (show offersF 9 4 = false by decide +kernel) ▸ (show Fails 222 185 from fails_of Tryz.underlying222 (by kernel_rfl)), (show offersF 9 8 = true by decide +kernel) ▸ (show Has 231 185 from ta_has Tryz.underlying231 (by kernel_rfl)), (show offersF 9 16 = false by decide +kernel) ▸ (show Fails 234 185 from fails_of Tryz.underlying234 (by kernel_rfl)), (show offersF 9 32 = false by decide +kernel) ▸ (show Fails 236 185 from fails_of Tryz.underlying236 (by kernel_rfl))⟩
theorem ass6_k6 : Ass6 188 19 := ⟨(show offersF 19 1 = true by decide +kernel) ▸ (show Has 206 188 from ta_has Tryz.underlying206 (by kernel_rfl)), (show offersF 19 2 = true by decide +kernel) ▸ (show Has 210 188 from ta_has Tryz.underlying210 (by kernel_rfl)), (show offersF 19 4 = false by decide +kernel) ▸ (show Fails 222 188 from fails_of Tryz.underlying222 (by kernel_rfl)), (show offersF 19 8 = false by decide +kernel) ▸ (show Fails 231 188 from fails_of Tryz.underlying231 (by kernel_rfl)), (show offersF 19 16 = true by decide +kernel) ▸ (show Has 234 188 from ta_has Tryz.underlying234 (by kernel_rfl)), (show offersF 19 32 = false by decide +kernel) ▸ (show Fails 236 188 from fails_of Tryz.underlying236 (by kernel_rfl))⟩
theorem ass6_k7 : Ass6 191 63 := ⟨(show offersF 63 1 = true by decide +kernel) ▸ (show Has 206 191 from ta_has Tryz.underlying206 (by kernel_rfl)), (show offersF 63 2 = true by decide +kernel) ▸ (show Has 210 191 from ta_has Tryz.underlying210 (by kernel_rfl)), (show offersF 63 4 = true by decide +kernel) ▸ (show Has 222 191 from ta_has Tryz.underlying222 (by kernel_rfl)), (show offersF 63 8 = true by decide +kernel) ▸ (show Has 231 191 from ta_has Tryz.underlying231 (by kernel_rfl)), (show offersF 63 16 = true by decide +kernel) ▸ (show Has 234 191 from ta_has Tryz.underlying234 (by kernel_rfl)), (show offersF 63 32 = true by decide +kernel) ▸ (show Has 236 191 from ta_has Tryz.underlying236 (by kernel_rfl))⟩
theorem ass6_l0 : Ass6 226 0 := ⟨(show offersF 0 1 = false by decide +kernel) ▸ (show Fails 206 226 from fails_of Tryz.underlying206 (by kernel_rfl)), (show offersF 0 2 = false by decide +kernel) ▸ (show Fails 210 226 from fails_of Tryz.underlying210 (by kernel_rfl)), (show offersF 0 4 = false by decide +kernel) ▸ (show Fails 222 226 from fails_of Tryz.underlying222 (by kernel_rfl)), (show offersF 0 8 = false by decide +kernel) ▸ (show Fails 231 226 from fails_of Tryz.underlying231 (by kernel_rfl)), (show offersF 0 16 = false by decide +kernel) ▸ (show Fails 234 226 from fails_of Tryz.underlying234 (by kernel_rfl)), (show offersF 0 32 = false by decide +kernel) ▸ (show Fails 236 226 from fails_of Tryz.underlying236 (by kernel_rfl))⟩
theorem ass6_l1 : Ass6 208 1 := ⟨(show offersF 1 1 = true by decide +kernel) ▸ (show Has 206 208 from ta_has Tryz.underlying206 (by kernel_rfl)), (show offersF 1 2 = false by decide +kernel) ▸ (show Fails 210 208 from fails_of Tryz.underlying210 (by kernel_rfl)), (show offersF 1 4 = false by decide +kernel) ▸ (show Fails 222 208 from fails_of Tryz.underlying222 (by kernel_rfl)), (show offersF 1 8 = false by decide +kernel) ▸ (show Fails 231 208 from fails_of Tryz.underlying231 (by kernel_rfl)), (show offersF 1 16 = false by decide +kernel) ▸ (show Fails 234 208 from fails_of Tryz.underlying234 (by kernel_rfl)), (show offersF 1 32 = false by decide +kernel) ▸ (show Fails 236 208 from fails_of Tryz.underlying236 (by kernel_rfl))⟩
theorem ass6_l2 : Ass6 212 2 := ⟨(show offersF 2 1 = false by decide +kernel) ▸ (show Fails 206 212 from fails_of Tryz.underlying206 (by kernel_rfl)), (show offersF 2 2 = true by decide +kernel) ▸ (show Has 210 212 from ta_has Tryz.underlying210 (by kernel_rfl)), (show offersF 2 4 = false by decide +kernel) ▸ (show Fails 222 212 from fails_of Tryz.underlying222 (by kernel_rfl)), (show offersF 2 8 = false by decide +kernel) ▸ (show Fails 231 212 from fails_of Tryz.underlying231 (by kernel_rfl)), (show offersF 2 16 = false by decide +kernel) ▸ (show Fails 234 212 from fails_of Tryz.underlying234 (by kernel_rfl)), (show offersF 2 32 = false by decide +kernel) ▸ (show Fails 236 212 from fails_of Tryz.underlying236 (by kernel_rfl))⟩
theorem ass6_l3 : Ass6 213 6 := ⟨(show offersF 6 1 = false by decide +kernel) ▸ (show Fails 206 213 from fails_of Tryz.underlying206 (by kernel_rfl)), (show offersF 6 2 = true by decide +kernel) ▸ (show Has 210 213 from ta_has Tryz.underlying210 (by kernel_rfl)), (show offersF 6 4 = true by decide +kernel) ▸ (show Has 222 213 from ta_has Tryz.underlying222 (by kernel_rfl)), (show offersF 6 8 = false by decide +kernel) ▸ (show Fails 231 213 from fails_of Tryz.underlying231 (by kernel_rfl)), (show offersF 6 16 = false by decide +kernel) ▸ (show Fails 234 213 from fails_of Tryz.underlying234 (by kernel_rfl)), (show offersF 6 32 = false by decide +kernel) ▸ (show Fails 236 213 from fails_of Tryz.underlying236 (by kernel_rfl))⟩
theorem ass6_l4 : Ass6 217 3 := ⟨(show offersF 3 1 = true by decide +kernel) ▸ (show Has 206 217 from ta_has Tryz.underlying206 (by kernel_rfl)), (show offersF 3 2 = true by decide +kernel) ▸ (show Has 210 217 from ta_has Tryz.underlying210 (by kernel_rfl)), (show offersF 3 4 = false by decide +kernel) ▸ (show Fails 222 217 from fails_of Tryz.underlying222 (by kernel_rfl)), (show offersF 3 8 = false by decide +kernel) ▸ (show Fails 231 217 from fails_of Tryz.underlying231 (by kernel_rfl)), (show offersF 3 16 = false by decide +kernel) ▸ (show Fails 234 217 from fails_of Tryz.underlying234 (by kernel_rfl)), (show offersF 3 32 = false by decide +kernel) ▸ (show Fails 236 217 from fails_of Tryz.underlying236 (by kernel_rfl))⟩
theorem ass6_l5 : Ass6 218 2 := ⟨(show offersF 2 1 = false by decide +kernel) ▸ (show Fails 206 218 from fails_of Tryz.underlying206 (by kernel_rfl)), (show offersF 2 2 = true by decide +kernel) ▸ (show Has 210 218 from ta_has Tryz.underlying210 (by kernel_rfl)), (show offersF 2 4 = false by decide +kernel) ▸ (show Fails 222 218 from fails_of Tryz.underlying222 (by kernel_rfl)), (show offersF 2 8 = false by decide +kernel) ▸ (show Fails 231 218 from fails_of Tryz.underlying231 (by kernel_rfl)), (show offersF 2 16 = false by decide +kernel) ▸ (show Fails 234 218 from fails_of Tryz.underlying234 (by kernel_rfl)), (show offersF 2 32 = false by decide +kernel) ▸ (show Fails 236 218 from fails_of Tryz.underlying236 (by kernel_rfl))⟩
theorem ass6_l6 : Ass6 219 9 := ⟨(show offersF 9 1 = true by decide +kernel) ▸ (show Has 206 219 from ta_has Tryz.underlying206 (by kernel_rfl)), (show offersF 9 2 = false by decide +kernel) ▸ (show Fails 210 219 from fails_of Tryz.underlying210 (by kernel_rfl)), (show offersF 9 4 = false by decide +kernel) ▸ (show Fails 222 219 from fails_of Tryz.underlying222 (by kernel_rfl)), (show offersF 9 8 = true by decide +kernel) ▸ (show Has 231 219 from ta_has Tryz.underlying231 (by kernel_rfl)), (show offersF 9 16 = false by decide +kernel) ▸ (show Fails 234 219 from fails_of Tryz.underlying234 (by kernel_rfl)), (show offersF 9 32 = false by decide +kernel) ▸ (show Fails 236 219 from fails_of Tryz.underlying236 (by kernel_rfl))⟩
theorem ass6_l7 : Ass6 220 33 := ⟨(show offersF 33 1 = true by decide +kernel) ▸ (show Has 206 220 from ta_has Tryz.underlying206 (by kernel_rfl)), (show offersF 33 2 = false by decide +kernel) ▸ (show Fails 210 220 from fails_of Tryz.underlying210 (by kernel_rfl)), (show offersF 33 4 = false by decide +kernel) ▸ (show Fails 222 220 from fails_of Tryz.underlying222 (by kernel_rfl)), (show offersF 33 8 = false by decide +kernel) ▸ (show Fails 231 220 from fails_of Tryz.underlying231 (by kernel_rfl)), (show offersF 33 16 = false by decide +kernel) ▸ (show Fails 234 220 from fails_of Tryz.underlying234 (by kernel_rfl)), (show offersF 33 32 = true by decide +kernel) ▸ (show Has 236 220 from ta_has Tryz.underlying236 (by kernel_rfl))⟩
theorem ass6_l8 : Ass6 224 4 := ⟨(show offersF 4 1 = false by decide +kernel) ▸ (show Fails 206 224 from fails_of Tryz.underlying206 (by kernel_rfl)), (show offersF 4 2 = false by decide +kernel) ▸ (show Fails 210 224 from fails_of Tryz.underlying210 (by kernel_rfl)), (show offersF 4 4 = true by decide +kernel) ▸ (show Has 222 224 from ta_has Tryz.underlying222 (by kernel_rfl)), (show offersF 4 8 = false by decide +kernel) ▸ (show Fails 231 224 from fails_of Tryz.underlying231 (by kernel_rfl)), (show offersF 4 16 = false by decide +kernel) ▸ (show Fails 234 224 from fails_of Tryz.underlying234 (by kernel_rfl)), (show offersF 4 32 = false by decide +kernel) ▸ (show Fails 236 224 from fails_of Tryz.underlying236 (by kernel_rfl))⟩
theorem cnt_lo {mx : Int} {N b : Nat} {lv cv : Value} {k0 : List UInt8} {nms : List (List UInt8)} {p : PartD} {w : World} (h : Ready mx N b lv cv k0 nms p w) : -9223372036854775808 ≤ p.fCore.fCount := by have := (core_cnt (partB_core h.ok)).1; omega
theorem cells_lo {mx : Int} {N b : Nat} {lv cv : Value} {k0 : List UInt8} {nms : List (List UInt8)} {p : PartD} {w : World} (h : Ready mx N b lv cv k0 nms p w) : p.fCore.fCells.length ≤ 4194304 := by have := core_len (partB_core h.ok); omega
theorem keys_lo {mx : Int} {N b : Nat} {lv cv : Value} {k0 : List UInt8} {nms : List (List UInt8)} {p : PartD} {w : World} (h : Ready mx N b lv cv k0 nms p w) : ∀ c ∈ p.fCore.fCells, c.fKey.length ≤ maxLen := fun c hc => by have := core_keys (partB_core h.ok) c hc; unfold maxLen; omega
theorem base_of {mx : Int} {N b : Nat} {lv cv : Value} {k0 : List UInt8} {nms : List (List UInt8)} {p : PartD} {w w' : World} {x : CallD} {e : Ending} {out : CoreD × ReplyD} (hR : Ready mx N b lv cv k0 nms p w) (ho : doD p.fCore x = out) (h : Does N b cv out w e w') : Does4 N b lv (lyDo 0 p x) w e w' := by
  obtain ⟨he, cv', hs, hk⟩ := h
  obtain ⟨h1, h2⟩ := hR.st.coreDone hs hk
  show Does4 N b lv (⟨(doD p.fCore x).1, p.fLayers⟩, (doD p.fCore x).2) w e w'
  rw [ho]
  exact ⟨he, cv', h1, h2⟩
theorem good_do {d : CoreD} {x : CallD} {k0 m : List UInt8} (hc : coreB d = true) (y : GoodX x m) (hk : d.fKind = k0) (ho : offersF (kfI (kindI k0)) (wantF m) = true) : doD d x = mthD d x :=
  doD_good hc y.ok (by rw [y.hm]; show offersF (kfI (kindI d.fKind)) _ = true; rw [hk]; exact ho)
theorem stack_k0 (mx : Int) (N b : Nat) (lv : Value) (nms : List (List UInt8)) : Stack mx N b lv (kindN 0) nms 0 193 (.agg #[.pointer (some ⟨b, 0, none⟩)]) 0 where
  start := fun h => absurd h (by decide +kernel)
  stop := fun h => absurd h (by decide +kernel)
  get := fun h => absurd h (by decide +kernel)
  put := fun h => absurd h (by decide +kernel)
  tell := fun h => absurd h (by decide +kernel)
  hear := fun h => absurd h (by decide +kernel)
  load := fun h => absurd h (by decide +kernel)
  save := fun h => absurd h (by decide +kernel)
  heal := fun h => absurd h (by decide +kernel)
theorem stack_k1 (mx : Int) (N b : Nat) (lv : Value) (nms : List (List UInt8)) : Stack mx N b lv (kindN 1) nms 0 174 (.agg #[.pointer (some ⟨b, 0, none⟩), .pointer (some ⟨b, 0, none⟩)]) 1 where
  start := fun _ x y => ⟨194, .agg #[.pointer (some ⟨b, 0, none⟩)], by simp, method_1_Start b, nilAhead_1_Start b, fun p cv w hR => (start_c N b cv p.fCore w hR.st.core (cnt_lo hR)).mono fun e w' h => base_of hR ((good_do (partB_core hR.ok) y hR.kind (by decide +kernel)).trans (mthD_Start y.hm)) h⟩
  stop := fun _ x y => ⟨195, .agg #[.pointer (some ⟨b, 0, none⟩)], by simp, method_1_Stop b, nilAhead_1_Stop b, fun p cv w hR => (stop_c N b cv p.fCore w hR.st.core (cnt_lo hR)).mono fun e w' h => base_of hR ((good_do (partB_core hR.ok) y hR.kind (by decide +kernel)).trans (mthD_Stop y.hm)) h⟩
  get := fun h => absurd h (by decide +kernel)
  put := fun h => absurd h (by decide +kernel)
  tell := fun h => absurd h (by decide +kernel)
  hear := fun h => absurd h (by decide +kernel)
  load := fun h => absurd h (by decide +kernel)
  save := fun h => absurd h (by decide +kernel)
  heal := fun h => absurd h (by decide +kernel)
theorem stack_k2 (mx : Int) (N b : Nat) (lv : Value) (nms : List (List UInt8)) : Stack mx N b lv (kindN 2) nms 0 177 (.agg #[.pointer (some ⟨b, 0, none⟩), .pointer (some ⟨b, 0, none⟩)]) 2 where
  start := fun h => absurd h (by decide +kernel)
  stop := fun h => absurd h (by decide +kernel)
  get := fun _ x y => ⟨197, .agg #[.pointer (some ⟨b, 0, none⟩)], by simp, method_2_Get b, nilAhead_2_Get b, fun p cv w hR => (get_c N b cv p.fCore x.fKey w hR.st.core (cells_lo hR)).mono fun e w' h => base_of hR ((good_do (partB_core hR.ok) y hR.kind (by decide +kernel)).trans (mthD_Get y.hm)) h⟩
  put := fun _ x y => ⟨198, .agg #[.pointer (some ⟨b, 0, none⟩)], by simp, method_2_Put b, nilAhead_2_Put b, fun p cv w hR => (put_c N b cv p.fCore x (partB_core hR.ok) (cnt_lo hR) y.hk w hR.st.core).mono fun e w' h => base_of hR ((good_do (partB_core hR.ok) y hR.kind (by decide +kernel)).trans (mthD_Put y.hm)) h⟩
  tell := fun h => absurd h (by decide +kernel)
  hear := fun h => absurd h (by decide +kernel)
  load := fun h => absurd h (by decide +kernel)
  save := fun h => absurd h (by decide +kernel)
  heal := fun h => absurd h (by decide +kernel)
theorem stack_k3 (mx : Int) (N b : Nat) (lv : Value) (nms : List (List UInt8)) : Stack mx N b lv (kindN 3) nms 0 180 (.agg #[.pointer (some ⟨b, 0, none⟩), .pointer (some ⟨b, 0, none⟩), .pointer (some ⟨b, 0, none⟩)]) 5 where
  start := fun _ x y => ⟨194, .agg #[.pointer (some ⟨b, 0, none⟩)], by simp, method_3_Start b, nilAhead_3_Start b, fun p cv w hR => (start_c N b cv p.fCore w hR.st.core (cnt_lo hR)).mono fun e w' h => base_of hR ((good_do (partB_core hR.ok) y hR.kind (by decide +kernel)).trans (mthD_Start y.hm)) h⟩
  stop := fun _ x y => ⟨195, .agg #[.pointer (some ⟨b, 0, none⟩)], by simp, method_3_Stop b, nilAhead_3_Stop b, fun p cv w hR => (stop_c N b cv p.fCore w hR.st.core (cnt_lo hR)).mono fun e w' h => base_of hR ((good_do (partB_core hR.ok) y hR.kind (by decide +kernel)).trans (mthD_Stop y.hm)) h⟩
  get := fun h => absurd h (by decide +kernel)
  put := fun h => absurd h (by decide +kernel)
  tell := fun _ x y => ⟨206, .agg #[.pointer (some ⟨b, 0, none⟩)], by simp, method_3_Tell b, nilAhead_3_Tell b, fun p cv w hR => (tell_c N b cv p.fCore w hR.st.core (cnt_lo hR)).mono fun e w' h => base_of hR ((good_do (partB_core hR.ok) y hR.kind (by decide +kernel)).trans (mthD_Tell y.hm)) h⟩
  hear := fun h => absurd h (by decide +kernel)
  load := fun h => absurd h (by decide +kernel)
  save := fun h => absurd h (by decide +kernel)
  heal := fun h => absurd h (by decide +kernel)
theorem stack_k4 (mx : Int) (N b : Nat) (lv : Value) (nms : List (List UInt8)) : Stack mx N b lv (kindN 4) nms 0 182 (.agg #[.pointer (some ⟨b, 0, none⟩), .pointer (some ⟨b, 0, none⟩), .pointer (some ⟨b, 0, none⟩)]) 3 where
  start := fun _ x y => ⟨194, .agg #[.pointer (some ⟨b, 0, none⟩)], by simp, method_4_Start b, nilAhead_4_Start b, fun p cv w hR => (start_c N b cv p.fCore w hR.st.core (cnt_lo hR)).mono fun e w' h => base_of hR ((good_do (partB_core hR.ok) y hR.kind (by decide +kernel)).trans (mthD_Start y.hm)) h⟩
  stop := fun _ x y => ⟨195, .agg #[.pointer (some ⟨b, 0, none⟩)], by simp, method_4_Stop b, nilAhead_4_Stop b, fun p cv w hR => (stop_c N b cv p.fCore w hR.st.core (cnt_lo hR)).mono fun e w' h => base_of hR ((good_do (partB_core hR.ok) y hR.kind (by decide +kernel)).trans (mthD_Stop y.hm)) h⟩
  get := fun _ x y => ⟨197, .agg #[.pointer (some ⟨b, 0, none⟩)], by simp, method_4_Get b, nilAhead_4_Get b, fun p cv w hR => (get_c N b cv p.fCore x.fKey w hR.st.core (cells_lo hR)).mono fun e w' h => base_of hR ((good_do (partB_core hR.ok) y hR.kind (by decide +kernel)).trans (mthD_Get y.hm)) h⟩
  put := fun _ x y => ⟨198, .agg #[.pointer (some ⟨b, 0, none⟩)], by simp, method_4_Put b, nilAhead_4_Put b, fun p cv w hR => (put_c N b cv p.fCore x (partB_core hR.ok) (cnt_lo hR) y.hk w hR.st.core).mono fun e w' h => base_of hR ((good_do (partB_core hR.ok) y hR.kind (by decide +kernel)).trans (mthD_Put y.hm)) h⟩
  tell := fun h => absurd h (by decide +kernel)
  hear := fun h => absurd h (by decide +kernel)
  load := fun h => absurd h (by decide +kernel)
  save := fun h => absurd h (by decide +kernel)
  heal := fun h => absurd h (by decide +kernel)
theorem stack_k5 (mx : Int) (N b : Nat) (lv : Value) (nms : List (List UInt8)) : Stack mx N b lv (kindN 5) nms 0 185 (.agg #[.pointer (some ⟨b, 0, none⟩), .pointer (some ⟨b, 0, none⟩), .pointer (some ⟨b, 0, none⟩)]) 9 where
  start := fun _ x y => ⟨194, .agg #[.pointer (some ⟨b, 0, none⟩)], by simp, method_5_Start b, nilAhead_5_Start b, fun p cv w hR => (start_c N b cv p.fCore w hR.st.core (cnt_lo hR)).mono fun e w' h => base_of hR ((good_do (partB_core hR.ok) y hR.kind (by decide +kernel)).trans (mthD_Start y.hm)) h⟩
  stop := fun _ x y => ⟨195, .agg #[.pointer (some ⟨b, 0, none⟩)], by simp, method_5_Stop b, nilAhead_5_Stop b, fun p cv w hR => (stop_c N b cv p.fCore w hR.st.core (cnt_lo hR)).mono fun e w' h => base_of hR ((good_do (partB_core hR.ok) y hR.kind (by decide +kernel)).trans (mthD_Stop y.hm)) h⟩
  get := fun h => absurd h (by decide +kernel)
  put := fun h => absurd h (by decide +kernel)
  tell := fun h => absurd h (by decide +kernel)
  hear := fun _ x y => ⟨207, .agg #[.pointer (some ⟨b, 0, none⟩)], by simp, method_5_Hear b, nilAhead_5_Hear b, fun p cv w hR => (hear_c N b cv p.fCore x.fValue w hR.st.core (cnt_lo hR)).mono fun e w' h => base_of hR ((good_do (partB_core hR.ok) y hR.kind (by decide +kernel)).trans (mthD_Hear y.hm)) h⟩
  load := fun h => absurd h (by decide +kernel)
  save := fun h => absurd h (by decide +kernel)
  heal := fun h => absurd h (by decide +kernel)
theorem stack_k6 (mx : Int) (N b : Nat) (lv : Value) (nms : List (List UInt8)) : Stack mx N b lv (kindN 6) nms 0 188 (.agg #[.pointer (some ⟨b, 0, none⟩), .pointer (some ⟨b, 0, none⟩), .pointer (some ⟨b, 0, none⟩), .pointer (some ⟨b, 0, none⟩)]) 19 where
  start := fun _ x y => ⟨194, .agg #[.pointer (some ⟨b, 0, none⟩)], by simp, method_6_Start b, nilAhead_6_Start b, fun p cv w hR => (start_c N b cv p.fCore w hR.st.core (cnt_lo hR)).mono fun e w' h => base_of hR ((good_do (partB_core hR.ok) y hR.kind (by decide +kernel)).trans (mthD_Start y.hm)) h⟩
  stop := fun _ x y => ⟨195, .agg #[.pointer (some ⟨b, 0, none⟩)], by simp, method_6_Stop b, nilAhead_6_Stop b, fun p cv w hR => (stop_c N b cv p.fCore w hR.st.core (cnt_lo hR)).mono fun e w' h => base_of hR ((good_do (partB_core hR.ok) y hR.kind (by decide +kernel)).trans (mthD_Stop y.hm)) h⟩
  get := fun _ x y => ⟨197, .agg #[.pointer (some ⟨b, 0, none⟩)], by simp, method_6_Get b, nilAhead_6_Get b, fun p cv w hR => (get_c N b cv p.fCore x.fKey w hR.st.core (cells_lo hR)).mono fun e w' h => base_of hR ((good_do (partB_core hR.ok) y hR.kind (by decide +kernel)).trans (mthD_Get y.hm)) h⟩
  put := fun _ x y => ⟨198, .agg #[.pointer (some ⟨b, 0, none⟩)], by simp, method_6_Put b, nilAhead_6_Put b, fun p cv w hR => (put_c N b cv p.fCore x (partB_core hR.ok) (cnt_lo hR) y.hk w hR.st.core).mono fun e w' h => base_of hR ((good_do (partB_core hR.ok) y hR.kind (by decide +kernel)).trans (mthD_Put y.hm)) h⟩
  tell := fun h => absurd h (by decide +kernel)
  hear := fun h => absurd h (by decide +kernel)
  load := fun _ x y => ⟨208, .agg #[.pointer (some ⟨b, 0, none⟩)], by simp, method_6_Load b, nilAhead_6_Load b, fun p cv w hR => (load_c N b cv p.fCore x.fText mx w hR.st.core hR.hN hR.hM y.ht).mono fun e w' h => base_of hR ((good_do (partB_core hR.ok) y hR.kind (by decide +kernel)).trans (mthD_Load y.hm)) h⟩
  save := fun _ x y => ⟨209, .agg #[.pointer (some ⟨b, 0, none⟩)], by simp, method_6_Save b, nilAhead_6_Save b, fun p cv w hR => (save_c N b cv p.fCore w hR.st.core (cells_lo hR) (keys_lo hR)).mono fun e w' h => base_of hR ((good_do (partB_core hR.ok) y hR.kind (by decide +kernel)).trans (mthD_Save y.hm)) h⟩
  heal := fun h => absurd h (by decide +kernel)
theorem stack_k7 (mx : Int) (N b : Nat) (lv : Value) (nms : List (List UInt8)) : Stack mx N b lv (kindN 7) nms 0 191 (.agg #[.pointer (some ⟨b, 0, none⟩), .pointer (some ⟨b, 0, none⟩), .pointer (some ⟨b, 0, none⟩), .pointer (some ⟨b, 0, none⟩), .pointer (some ⟨b, 0, none⟩), .pointer (some ⟨b, 0, none⟩), .pointer (some ⟨b, 0, none⟩)]) 63 where
  start := fun _ x y => ⟨194, .agg #[.pointer (some ⟨b, 0, none⟩)], by simp, method_7_Start b, nilAhead_7_Start b, fun p cv w hR => (start_c N b cv p.fCore w hR.st.core (cnt_lo hR)).mono fun e w' h => base_of hR ((good_do (partB_core hR.ok) y hR.kind (by decide +kernel)).trans (mthD_Start y.hm)) h⟩
  stop := fun _ x y => ⟨195, .agg #[.pointer (some ⟨b, 0, none⟩)], by simp, method_7_Stop b, nilAhead_7_Stop b, fun p cv w hR => (stop_c N b cv p.fCore w hR.st.core (cnt_lo hR)).mono fun e w' h => base_of hR ((good_do (partB_core hR.ok) y hR.kind (by decide +kernel)).trans (mthD_Stop y.hm)) h⟩
  get := fun _ x y => ⟨197, .agg #[.pointer (some ⟨b, 0, none⟩)], by simp, method_7_Get b, nilAhead_7_Get b, fun p cv w hR => (get_c N b cv p.fCore x.fKey w hR.st.core (cells_lo hR)).mono fun e w' h => base_of hR ((good_do (partB_core hR.ok) y hR.kind (by decide +kernel)).trans (mthD_Get y.hm)) h⟩
  put := fun _ x y => ⟨198, .agg #[.pointer (some ⟨b, 0, none⟩)], by simp, method_7_Put b, nilAhead_7_Put b, fun p cv w hR => (put_c N b cv p.fCore x (partB_core hR.ok) (cnt_lo hR) y.hk w hR.st.core).mono fun e w' h => base_of hR ((good_do (partB_core hR.ok) y hR.kind (by decide +kernel)).trans (mthD_Put y.hm)) h⟩
  tell := fun _ x y => ⟨206, .agg #[.pointer (some ⟨b, 0, none⟩)], by simp, method_7_Tell b, nilAhead_7_Tell b, fun p cv w hR => (tell_c N b cv p.fCore w hR.st.core (cnt_lo hR)).mono fun e w' h => base_of hR ((good_do (partB_core hR.ok) y hR.kind (by decide +kernel)).trans (mthD_Tell y.hm)) h⟩
  hear := fun _ x y => ⟨207, .agg #[.pointer (some ⟨b, 0, none⟩)], by simp, method_7_Hear b, nilAhead_7_Hear b, fun p cv w hR => (hear_c N b cv p.fCore x.fValue w hR.st.core (cnt_lo hR)).mono fun e w' h => base_of hR ((good_do (partB_core hR.ok) y hR.kind (by decide +kernel)).trans (mthD_Hear y.hm)) h⟩
  load := fun _ x y => ⟨208, .agg #[.pointer (some ⟨b, 0, none⟩)], by simp, method_7_Load b, nilAhead_7_Load b, fun p cv w hR => (load_c N b cv p.fCore x.fText mx w hR.st.core hR.hN hR.hM y.ht).mono fun e w' h => base_of hR ((good_do (partB_core hR.ok) y hR.kind (by decide +kernel)).trans (mthD_Load y.hm)) h⟩
  save := fun _ x y => ⟨209, .agg #[.pointer (some ⟨b, 0, none⟩)], by simp, method_7_Save b, nilAhead_7_Save b, fun p cv w hR => (save_c N b cv p.fCore w hR.st.core (cells_lo hR) (keys_lo hR)).mono fun e w' h => base_of hR ((good_do (partB_core hR.ok) y hR.kind (by decide +kernel)).trans (mthD_Save y.hm)) h⟩
  heal := fun _ x y => ⟨228, .agg #[.pointer (some ⟨b, 0, none⟩)], by simp, method_7_Heal b, nilAhead_7_Heal b, fun p cv w hR => (heal_c N b cv p.fCore w hR.st.core (cnt_lo hR)).mono fun e w' h => base_of hR ((good_do (partB_core hR.ok) y hR.kind (by decide +kernel)).trans (mthD_Heal y.hm)) h⟩
theorem stack_kind (mx : Int) (N b : Nat) (lv : Value) (nms : List (List UInt8)) (j : Nat) (hj : j < 8) : ∃ T V, partV b j = .iface T V ∧ Stack mx N b lv (kindN j) nms 0 T V (kfN j) ∧ Ass6 T (kfN j) := by
  rcases (show j = 0 ∨ j = 1 ∨ j = 2 ∨ j = 3 ∨ j = 4 ∨ j = 5 ∨ j = 6 ∨ j = 7 by omega) with rfl | rfl | rfl | rfl | rfl | rfl | rfl | rfl
  · exact ⟨_, _, rfl, stack_k0 mx N b lv nms, ass6_k0⟩
  · exact ⟨_, _, rfl, stack_k1 mx N b lv nms, ass6_k1⟩
  · exact ⟨_, _, rfl, stack_k2 mx N b lv nms, ass6_k2⟩
  · exact ⟨_, _, rfl, stack_k3 mx N b lv nms, ass6_k3⟩
  · exact ⟨_, _, rfl, stack_k4 mx N b lv nms, ass6_k4⟩
  · exact ⟨_, _, rfl, stack_k5 mx N b lv nms, ass6_k5⟩
  · exact ⟨_, _, rfl, stack_k6 mx N b lv nms, ass6_k6⟩
  · exact ⟨_, _, rfl, stack_k7 mx N b lv nms, ass6_k7⟩
end Go.Proofs.YtcpbikilgacdlaaGreat
namespace Go.Proofs.YtcpbikilgacdlaaGreat
set_option linter.unusedVariables false
set_option linter.unusedSimpArgs false
open Go.RowKit
set_option maxRecDepth 100000 in
set_option maxHeartbeats 1600000 in
theorem catch4 (nx np nr : Nat) (x : CallD) (T : TypeId) (V : Value) (f : Int) (pv : Value) (w : World) (hf : FaceAt w T V f) (hb : Boxes nx np nr x (.iface T V) w) :
    CallsD Tryz.prog 152 #[.pointer (some ⟨nx, 0, none⟩), .pointer (some ⟨np, 0, none⟩), .pointer (some ⟨nr, 0, none⟩)] (.panicking ({ v := .iface Tryz.prog.rt.typeAssertionError pv, recovered := false } :: [])) w fun e u' w' =>
      e = .returned (.tuple #[]) ∧ u' = .panicking ({ v := .iface Tryz.prog.rt.typeAssertionError pv, recovered := true } :: []) ∧ ∃ w1, Below w.heap.size w w1 ∧ w' = put5 w1 nr ⟨1, 0, [], wantF x.fMethod, f⟩ := by
  have HX := Lib.hid hb
  have x0 := hb.x0
  have p0 := hb.p0
  have HW := Lib.hid (fun W => implWant_any ⟨x.fMethod.toArray⟩ W)
  simp only [List.toList_toArray] at HW
  obtain ⟨F, rcv, hF, hfm, hfn, HF0⟩ := hf
  have HF := Lib.hid HF0
  generalize wantF x.fMethod = want at *
  clear HF0 hb
  rcases hF with rfl | rfl
  case inl =>
    refine callsD_of_wpS Tryz.func152 rfl fun c₀ cs hu => ?_
    apply wpS_seq
    apply wpS_region
    simp [wpOpsS, go_sem, recoverD, hu, Tryz.ntmps152, Exit.thenS]
    refine wpS_cond (t := true) (by simp [Act.eval, Array.replicate]) ?_
    simp only [if_true]
    refine wpS_of_wp ?_
    go_region_with (first
      | (go_at_call 46; refine (HW.out _).mono ?_; rintro e w1 ⟨rfl, hb1⟩; have HB1 := Lib.hid (show Below w.heap.size w w1 from ⟨hb1.os, hb1.tape, hb1.output, hb1.size, hb1.block⟩); have k0 := (HX.out.below HB1.out).p0; clear hb1)
      | (go_at_call 192; refine (HF.out _ HB1.out).mono ?_; rintro e w2 ⟨rfl, hb2⟩; have HB2 := Lib.hid (show Below w.heap.size w w2 from HB1.out.trans (hb2.mono HB1.out.size)); clear hb2; have KR := Lib.hid (HX.out.below HB2.out); have y0 := KR.out.z 0; have y1 := KR.out.z 1; have y2 := KR.out.z 2; have y3 := KR.out.z 3; have y4 := KR.out.z 4; obtain ⟨e0, f0⟩ := Option.isSome_iff_exists.1 (KR.out.r 0 (by decide)); obtain ⟨e1, f1⟩ := Option.isSome_iff_exists.1 (KR.out.r 1 (by decide)); obtain ⟨e2, f2⟩ := Option.isSome_iff_exists.1 (KR.out.r 2 (by decide)); obtain ⟨e3, f3⟩ := Option.isSome_iff_exists.1 (KR.out.r 3 (by decide)); obtain ⟨e4, f4⟩ := Option.isSome_iff_exists.1 (KR.out.r 4 (by decide))))
    all_goals
      refine ⟨rfl, _, rfl, .tuple #[], ?_, rfl, rfl, w2, HB2.out, rfl⟩
      simp [results, Tryz.results152, go_sem]
  case inr =>
    refine callsD_of_wpS Tryz.func152 rfl fun c₀ cs hu => ?_
    apply wpS_seq
    apply wpS_region
    simp [wpOpsS, go_sem, recoverD, hu, Tryz.ntmps152, Exit.thenS]
    refine wpS_cond (t := true) (by simp [Act.eval, Array.replicate]) ?_
    simp only [if_true]
    refine wpS_of_wp ?_
    go_region_with (first
      | (go_at_call 46; refine (HW.out _).mono ?_; rintro e w1 ⟨rfl, hb1⟩; have HB1 := Lib.hid (show Below w.heap.size w w1 from ⟨hb1.os, hb1.tape, hb1.output, hb1.size, hb1.block⟩); have k0 := (HX.out.below HB1.out).p0; clear hb1)
      | (go_at_call 230; refine (HF.out _ HB1.out).mono ?_; rintro e w2 ⟨rfl, hb2⟩; have HB2 := Lib.hid (show Below w.heap.size w w2 from HB1.out.trans (hb2.mono HB1.out.size)); clear hb2; have KR := Lib.hid (HX.out.below HB2.out); have y0 := KR.out.z 0; have y1 := KR.out.z 1; have y2 := KR.out.z 2; have y3 := KR.out.z 3; have y4 := KR.out.z 4; obtain ⟨e0, f0⟩ := Option.isSome_iff_exists.1 (KR.out.r 0 (by decide)); obtain ⟨e1, f1⟩ := Option.isSome_iff_exists.1 (KR.out.r 1 (by decide)); obtain ⟨e2, f2⟩ := Option.isSome_iff_exists.1 (KR.out.r 2 (by decide)); obtain ⟨e3, f3⟩ := Option.isSome_iff_exists.1 (KR.out.r 3 (by decide)); obtain ⟨e4, f4⟩ := Option.isSome_iff_exists.1 (KR.out.r 4 (by decide))))
    all_goals
      refine ⟨rfl, _, rfl, .tuple #[], ?_, rfl, rfl, w2, HB2.out, rfl⟩
      simp [results, Tryz.results152, go_sem]
theorem bel3 (w : World) (o1 o2 o3 : Obj) : Below w.heap.size w (((w.alloc o1).alloc o2).alloc o3) := belS (belS (bx_box w o1) (bx_box _ o2)) (bx_box _ o3)
set_option maxRecDepth 100000 in
set_option maxHeartbeats 1600000 in
theorem deliver4_ok (mx : Int) (N b : Nat) (lv cv : Value) (k0 : List UInt8) (nms : List (List UInt8)) (T : TypeId) (V : Value) (x : CallD) (out : PartD × ReplyD) (p : PartD) (w : World) (hR : Ready mx N b lv cv k0 nms p w)
    (hA : ∀ W, Below w.heap.size w W → Calls Tryz.prog 153 #[.iface T V, vCall x] W fun e w' => Does4 N b lv out W e w') :
    Calls Tryz.prog 117 #[.iface T V, vCall x] w fun e w' => Does4 N b lv out w e w' := by
  have HN := Lib.hid hR.hN
  have hbl := hR.st.core.box.lt
  have HA := Lib.hid hA
  clear hR hA
  obtain ⟨xm, xk, xn, xt⟩ := x
  unfold vCall at HA ⊢
  simp only at HA
  have hmf : ∀ (fn : Fn) (first cap : Array Value) (w : World), (Instr.makeFunc fn first cap).run Tryz.prog w = .ok (.func fn first cap) w := fun _ _ _ _ => rfl
  have HB := Lib.hid (bel3 w (.cells #[.iface T V] 121) (.cells #[.string ⟨xm.toArray⟩, .string ⟨xk.toArray⟩, .int .i64 xn, .string ⟨xt.toArray⟩] 43) (.cells #[.int .i64 0, .int .i64 0, .string ⟨#[]⟩, .int .i64 0, .int .i64 0] 39))
  have L2 := Lib.hid (Loc.new ((w.alloc (.cells #[.iface T V] 121)).alloc (.cells #[.string ⟨xm.toArray⟩, .string ⟨xk.toArray⟩, .int .i64 xn, .string ⟨xt.toArray⟩] 43)) [.int .i64 0, .int .i64 0, .string ⟨#[]⟩, .int .i64 0, .int .i64 0] 39)
  rw [show ((w.alloc (.cells #[.iface T V] 121)).alloc (.cells #[.string ⟨xm.toArray⟩, .string ⟨xk.toArray⟩, .int .i64 xn, .string ⟨xt.toArray⟩] 43)).heap.size = w.heap.size + 1 + 1 by simp] at L2
  have n3b : w.heap.size + 1 + 1 ≠ b := by omega
  obtain ⟨q, t0, t1, t2, t3, t4⟩ := out
  go_enter_defers Tryz.func117, Tryz.ntmps117
  go_wp2_with fail
  refine (HA.out _ HB.out).mono ?_
  rintro e w1 ⟨rfl, cv1, hs1, hk1⟩
  replace L2 := Lib.hid (L2.out.stays hk1 n3b (by decide) (by decide))
  have HK := Lib.hid (KeptT.ahead HB.out HN.out hk1)
  have HS := Lib.hid hs1
  clear hs1 hk1 HA
  unfold vReply
  simp only
  have B_r := Lib.hid L2.out.bx
  have r0 := B_r.out.cell 0 (by simp)
  have r1 := B_r.out.cell 1 (by simp)
  have r2 := B_r.out.cell 2 (by simp)
  have r3 := B_r.out.cell 3 (by simp)
  have r4 := B_r.out.cell 4 (by simp)
  simp only [List.getElem_cons_zero, List.getElem_cons_succ] at r0 r1 r2 r3 r4
  have fr0 := B_r.out.froz 0 (by simp)
  have fr1 := B_r.out.froz 1 (by simp)
  have fr2 := B_r.out.froz 2 (by simp)
  have fr3 := B_r.out.froz 3 (by simp)
  have fr4 := B_r.out.froz 4 (by simp)
  have l_r := B_r.out.lt
  go_wp2_with fail
  refine leaves_cons (f := 152) (args := #[.pointer (some ⟨w.heap.size + 1, 0, none⟩), .pointer (some ⟨w.heap.size, 0, none⟩), .pointer (some ⟨w.heap.size + 1 + 1, 0, none⟩)]) (by simp) (by simp [go_sem]) ?_
  refine (catch_idle _ _ _ _).mono ?_
  rintro e u' w'' ⟨rfl, rfl, rfl⟩
  simp [Leaves, settle, results, Tryz.results117, go_sem, cell_set_at, cell_set_ne, r0, r1, r2, r3, r4]
  exact done5 ⟨t0, t1, t2, t3, t4⟩ HS.out HK.out L2.out n3b (by omega) HN.out _ _ _ _ _
set_option maxRecDepth 100000 in
set_option maxHeartbeats 1600000 in
theorem deliver4_fail (mx : Int) (N b : Nat) (lv cv : Value) (k0 : List UInt8) (nms : List (List UInt8)) (T : TypeId) (V : Value) (f : Int) (x : CallD) (p : PartD) (w : World) (hR : Ready mx N b lv cv k0 nms p w) (hF : FaceAt w T V f)
    (hA : ∀ W, Calls Tryz.prog 153 #[.iface T V, vCall x] W fun e w' => Panics W e w') :
    Calls Tryz.prog 117 #[.iface T V, vCall x] w fun e w' => Does4 N b lv (p, ⟨1, 0, [], wantF x.fMethod, f⟩) w e w' := by
  have HN := Lib.hid hR.hN
  have HS := Lib.hid hR.st
  have hbl := hR.st.core.box.lt
  have HA := Lib.hid hA
  have HF := Lib.hid hF
  clear hR hA hF
  obtain ⟨xm, xk, xn, xt⟩ := x
  unfold vCall at HA ⊢
  simp only at HA
  have hmf : ∀ (fn : Fn) (first cap : Array Value) (w : World), (Instr.makeFunc fn first cap).run Tryz.prog w = .ok (.func fn first cap) w := fun _ _ _ _ => rfl
  have HB := Lib.hid (bel3 w (.cells #[.iface T V] 121) (.cells #[.string ⟨xm.toArray⟩, .string ⟨xk.toArray⟩, .int .i64 xn, .string ⟨xt.toArray⟩] 43) (.cells #[.int .i64 0, .int .i64 0, .string ⟨#[]⟩, .int .i64 0, .int .i64 0] 39))
  have L2 := Lib.hid (Loc.new ((w.alloc (.cells #[.iface T V] 121)).alloc (.cells #[.string ⟨xm.toArray⟩, .string ⟨xk.toArray⟩, .int .i64 xn, .string ⟨xt.toArray⟩] 43)) [.int .i64 0, .int .i64 0, .string ⟨#[]⟩, .int .i64 0, .int .i64 0] 39)
  rw [show ((w.alloc (.cells #[.iface T V] 121)).alloc (.cells #[.string ⟨xm.toArray⟩, .string ⟨xk.toArray⟩, .int .i64 xn, .string ⟨xt.toArray⟩] 43)).heap.size = w.heap.size + 1 + 1 by simp] at L2
  have HBX := Lib.hid (show Boxes (w.heap.size + 1) w.heap.size (w.heap.size + 1 + 1) ⟨xm, xk, xn, xt⟩ (.iface T V) (((w.alloc (.cells #[.iface T V] 121)).alloc (.cells #[.string ⟨xm.toArray⟩, .string ⟨xk.toArray⟩, .int .i64 xn, .string ⟨xt.toArray⟩] 43)).alloc (.cells #[.int .i64 0, .int .i64 0, .string ⟨#[]⟩, .int .i64 0, .int .i64 0] 39)) from
    ⟨by simp [go_sem], by simp [go_sem], fun o ho => by rcases (show o = 0 ∨ o = 1 ∨ o = 2 ∨ o = 3 ∨ o = 4 by omega) with rfl | rfl | rfl | rfl | rfl <;> simp [go_sem], fun o => by simp [go_sem]⟩)
  have n3b : w.heap.size + 1 + 1 ≠ b := by omega
  go_enter_defers Tryz.func117, Tryz.ntmps117
  go_wp2_with fail
  refine (HA.out _).mono ?_
  rintro e w1 ⟨pv, rfl, hb⟩
  have HB1 := Lib.hid (belS HB.out hb)
  have HX1 := Lib.hid (HBX.out.below hb)
  replace L2 := Lib.hid (L2.out.below hb)
  clear hb HBX HA
  refine leaves_cons (f := 152) (args := #[.pointer (some ⟨w.heap.size + 1, 0, none⟩), .pointer (some ⟨w.heap.size, 0, none⟩), .pointer (some ⟨w.heap.size + 1 + 1, 0, none⟩)]) (by simp) (by simp [go_sem]) ?_
  refine (catch4 _ _ _ ⟨xm, xk, xn, xt⟩ T V f pv _ (HF.out.below HB1.out) HX1.out).mono ?_
  rintro e u' w'' ⟨rfl, rfl, w2, hb2, rfl⟩
  have HB2 := Lib.hid (belS HB1.out hb2)
  replace L2 := Lib.hid (L2.out.below hb2)
  have KR := Lib.hid (HX1.out.below hb2)
  have B_r := Lib.hid L2.out.bx
  have r0 := B_r.out.cell 0 (by simp)
  have r1 := B_r.out.cell 1 (by simp)
  have r2 := B_r.out.cell 2 (by simp)
  have r3 := B_r.out.cell 3 (by simp)
  have r4 := B_r.out.cell 4 (by simp)
  simp only [List.getElem_cons_zero, List.getElem_cons_succ] at r0 r1 r2 r3 r4
  generalize wantF xm = want at *
  clear hb2
  unfold put5
  simp [Leaves, settle, results, Tryz.results117, go_sem, cell_set_at, cell_set_ne, r0, r1, r2, r3, r4]
  exact done5 ⟨1, 0, [], want, f⟩ (HS.out.below HB2.out) (KeptT.of_below HB2.out HN.out) L2.out n3b (by omega) HN.out _ _ _ _ _
end Go.Proofs.YtcpbikilgacdlaaGreat
namespace Go.Proofs.YtcpbikilgacdlaaGreat
set_option linter.unusedVariables false
set_option linter.unusedSimpArgs false
open Go.RowKit
set_option maxRecDepth 100000 in
set_option maxHeartbeats 3200000 in
theorem acc_Start (mx : Int) (N b n : Nat) (lv : Value) (k0 : List UInt8) (nms : List (List UInt8)) (T : TypeId) (V : Value) (x : CallD) (hx : x.fMethod = [83, 116, 97, 114, 116]) (hn3 : n ≤ 3) (hta : Has 206 T) (HI : MthOk mx N b lv k0 nms n FsStart T V "Start" #[] x)
    (p : PartD) (cv : Value) (w : World) (hR : Ready mx N b lv cv k0 nms p w) :
    Calls Tryz.prog 153 #[.iface T V, vCall x] w fun e w' => Does4 N b lv (lyDo n p x) w e w' := by
  have hbl := hR.st.core.box.lt
  obtain ⟨IF, Ir, If, Im, In, Ic⟩ := HI
  have Im4 : ∀ (fuel : Nat) (w : World), (method (fuel + 4) T V _).run Tryz.prog w = .ok (IF, Ir) w := fun fuel w => by have h := Im (fuel + 3 - n) w; rwa [show fuel + 3 - n + n + 1 = fuel + 4 by omega] at h
  have In4 : ∀ (fuel : Nat) (w : World), (nilAhead (fuel + 4) T V _).run Tryz.prog w = .ok (some false) w := fun fuel w => by have h := In (fuel + 3 - n) w; rwa [show fuel + 3 - n + n + 1 = fuel + 4 by omega] at h
  have IC := Lib.hid (fun cv w h => Ic p cv w h)
  clear Im In Ic
  unfold Has at hta
  obtain ⟨xm, xk, xn, xt⟩ := x
  simp only at hx IC
  subst hx
  unfold vCall
  simp only
  have HB := Lib.hid (belS (bx_box w (.cells #[.string ⟨#[83, 116, 97, 114, 116]⟩, .string ⟨xk.toArray⟩, .int .i64 xn, .string ⟨xt.toArray⟩] 43)) (bx_box (w.alloc (.cells #[.string ⟨#[83, 116, 97, 114, 116]⟩, .string ⟨xk.toArray⟩, .int .i64 xn, .string ⟨xt.toArray⟩] 43)) (.cells #[.int .i64 0, .int .i64 0, .string ⟨#[]⟩, .int .i64 0, .int .i64 0] 39)))
  have L2 := Lib.hid (Loc.new (w.alloc (.cells #[.string ⟨#[83, 116, 97, 114, 116]⟩, .string ⟨xk.toArray⟩, .int .i64 xn, .string ⟨xt.toArray⟩] 43)) [.int .i64 0, .int .i64 0, .string ⟨#[]⟩, .int .i64 0, .int .i64 0] 39)
  rw [show (w.alloc (.cells #[.string ⟨#[83, 116, 97, 114, 116]⟩, .string ⟨xk.toArray⟩, .int .i64 xn, .string ⟨xt.toArray⟩] 43)).heap.size = w.heap.size + 1 by simp] at L2
  have n2b : w.heap.size + 1 ≠ b := by omega
  have HR := Lib.hid (hR.below HB.out)
  have HN := Lib.hid hR.hN
  clear hR
  generalize lyDo n p ⟨[83, 116, 97, 114, 116], xk, xn, xt⟩ = out at *
  obtain ⟨q, t0, t1, t2, t3, t4⟩ := out
  simp only [List.mem_cons, List.not_mem_nil, or_false] at If
  rcases If with rfl
  all_goals
    go_enter Tryz.func153, Tryz.ntmps153
    go_wp2_with fail
    generalize (w.alloc (.cells #[.string ⟨#[83, 116, 97, 114, 116]⟩, .string ⟨xk.toArray⟩, .int .i64 xn, .string ⟨xt.toArray⟩] 43)).alloc (.cells #[.int .i64 0, .int .i64 0, .string ⟨#[]⟩, .int .i64 0, .int .i64 0] 39) = w0 at *
    refine (IC.out _ _ HR.out).mono ?_
    rintro e w2 ⟨rfl, cv2, hs2, hk2⟩
    replace L2 := Lib.hid (L2.out.stays hk2 n2b (by decide) (by decide))
    have HK2 := Lib.hid (KeptT.ahead HB.out HN.out hk2)
    have HS := Lib.hid hs2
    clear hs2 hk2
    unfold vReply
    simp only
    have B_r := Lib.hid L2.out.bx
    have r0 := B_r.out.cell 0 (by simp)
    have r1 := B_r.out.cell 1 (by simp)
    have r2 := B_r.out.cell 2 (by simp)
    have r3 := B_r.out.cell 3 (by simp)
    have r4 := B_r.out.cell 4 (by simp)
    simp only [List.getElem_cons_zero, List.getElem_cons_succ] at r0 r1 r2 r3 r4
    have fr0 := B_r.out.froz 0 (by simp)
    have fr1 := B_r.out.froz 1 (by simp)
    have fr2 := B_r.out.froz 2 (by simp)
    have fr3 := B_r.out.froz 3 (by simp)
    have fr4 := B_r.out.froz 4 (by simp)
    have l_r := B_r.out.lt
    go_wp2_with fail
    refine bodyPost_ret (v := .agg #[.int .i64 t0, .int .i64 t1, .string ⟨t2.toArray⟩, .int .i64 t3, .int .i64 t4]) (by simp [results, Tryz.results153, go_sem, cell_set_at, cell_set_ne, r0, r1, r2, r3, r4]) rfl ?_
    exact done5 ⟨t0, t1, t2, t3, t4⟩ HS.out HK2.out L2.out n2b (by omega) HN.out _ _ _ _ _
set_option maxRecDepth 100000 in
set_option maxHeartbeats 3200000 in
theorem acc_Stop (mx : Int) (N b n : Nat) (lv : Value) (k0 : List UInt8) (nms : List (List UInt8)) (T : TypeId) (V : Value) (x : CallD) (hx : x.fMethod = [83, 116, 111, 112]) (hn3 : n ≤ 3) (hta : Has 206 T) (HI : MthOk mx N b lv k0 nms n FsStop T V "Stop" #[] x)
    (p : PartD) (cv : Value) (w : World) (hR : Ready mx N b lv cv k0 nms p w) :
    Calls Tryz.prog 153 #[.iface T V, vCall x] w fun e w' => Does4 N b lv (lyDo n p x) w e w' := by
  have hbl := hR.st.core.box.lt
  obtain ⟨IF, Ir, If, Im, In, Ic⟩ := HI
  have Im4 : ∀ (fuel : Nat) (w : World), (method (fuel + 4) T V _).run Tryz.prog w = .ok (IF, Ir) w := fun fuel w => by have h := Im (fuel + 3 - n) w; rwa [show fuel + 3 - n + n + 1 = fuel + 4 by omega] at h
  have In4 : ∀ (fuel : Nat) (w : World), (nilAhead (fuel + 4) T V _).run Tryz.prog w = .ok (some false) w := fun fuel w => by have h := In (fuel + 3 - n) w; rwa [show fuel + 3 - n + n + 1 = fuel + 4 by omega] at h
  have IC := Lib.hid (fun cv w h => Ic p cv w h)
  clear Im In Ic
  unfold Has at hta
  obtain ⟨xm, xk, xn, xt⟩ := x
  simp only at hx IC
  subst hx
  unfold vCall
  simp only
  have HB := Lib.hid (belS (bx_box w (.cells #[.string ⟨#[83, 116, 111, 112]⟩, .string ⟨xk.toArray⟩, .int .i64 xn, .string ⟨xt.toArray⟩] 43)) (bx_box (w.alloc (.cells #[.string ⟨#[83, 116, 111, 112]⟩, .string ⟨xk.toArray⟩, .int .i64 xn, .string ⟨xt.toArray⟩] 43)) (.cells #[.int .i64 0, .int .i64 0, .string ⟨#[]⟩, .int .i64 0, .int .i64 0] 39)))
  have L2 := Lib.hid (Loc.new (w.alloc (.cells #[.string ⟨#[83, 116, 111, 112]⟩, .string ⟨xk.toArray⟩, .int .i64 xn, .string ⟨xt.toArray⟩] 43)) [.int .i64 0, .int .i64 0, .string ⟨#[]⟩, .int .i64 0, .int .i64 0] 39)
  rw [show (w.alloc (.cells #[.string ⟨#[83, 116, 111, 112]⟩, .string ⟨xk.toArray⟩, .int .i64 xn, .string ⟨xt.toArray⟩] 43)).heap.size = w.heap.size + 1 by simp] at L2
  have n2b : w.heap.size + 1 ≠ b := by omega
  have HR := Lib.hid (hR.below HB.out)
  have HN := Lib.hid hR.hN
  clear hR
  generalize lyDo n p ⟨[83, 116, 111, 112], xk, xn, xt⟩ = out at *
  obtain ⟨q, t0, t1, t2, t3, t4⟩ := out
  simp only [List.mem_cons, List.not_mem_nil, or_false] at If
  rcases If with rfl
  all_goals
    go_enter Tryz.func153, Tryz.ntmps153
    go_wp2_with fail
    generalize (w.alloc (.cells #[.string ⟨#[83, 116, 111, 112]⟩, .string ⟨xk.toArray⟩, .int .i64 xn, .string ⟨xt.toArray⟩] 43)).alloc (.cells #[.int .i64 0, .int .i64 0, .string ⟨#[]⟩, .int .i64 0, .int .i64 0] 39) = w0 at *
    refine (IC.out _ _ HR.out).mono ?_
    rintro e w2 ⟨rfl, cv2, hs2, hk2⟩
    replace L2 := Lib.hid (L2.out.stays hk2 n2b (by decide) (by decide))
    have HK2 := Lib.hid (KeptT.ahead HB.out HN.out hk2)
    have HS := Lib.hid hs2
    clear hs2 hk2
    unfold vReply
    simp only
    have B_r := Lib.hid L2.out.bx
    have r0 := B_r.out.cell 0 (by simp)
    have r1 := B_r.out.cell 1 (by simp)
    have r2 := B_r.out.cell 2 (by simp)
    have r3 := B_r.out.cell 3 (by simp)
    have r4 := B_r.out.cell 4 (by simp)
    simp only [List.getElem_cons_zero, List.getElem_cons_succ] at r0 r1 r2 r3 r4
    have fr0 := B_r.out.froz 0 (by simp)
    have fr1 := B_r.out.froz 1 (by simp)
    have fr2 := B_r.out.froz 2 (by simp)
    have fr3 := B_r.out.froz 3 (by simp)
    have fr4 := B_r.out.froz 4 (by simp)
    have l_r := B_r.out.lt
    go_wp2_with fail
    refine bodyPost_ret (v := .agg #[.int .i64 t0, .int .i64 t1, .string ⟨t2.toArray⟩, .int .i64 t3, .int .i64 t4]) (by simp [results, Tryz.results153, go_sem, cell_set_at, cell_set_ne, r0, r1, r2, r3, r4]) rfl ?_
    exact done5 ⟨t0, t1, t2, t3, t4⟩ HS.out HK2.out L2.out n2b (by omega) HN.out _ _ _ _ _
set_option maxRecDepth 100000 in
set_option maxHeartbeats 3200000 in
theorem acc_Tell (mx : Int) (N b n : Nat) (lv : Value) (k0 : List UInt8) (nms : List (List UInt8)) (T : TypeId) (V : Value) (x : CallD) (hx : x.fMethod = [84, 101, 108, 108]) (hn3 : n ≤ 3) (hta : Has 222 T) (HI : MthOk mx N b lv k0 nms n FsTell T V "Tell" #[] x)
    (p : PartD) (cv : Value) (w : World) (hR : Ready mx N b lv cv k0 nms p w) :
    Calls Tryz.prog 153 #[.iface T V, vCall x] w fun e w' => Does4 N b lv (lyDo n p x) w e w' := by
  have hbl := hR.st.core.box.lt
  obtain ⟨IF, Ir, If, Im, In, Ic⟩ := HI
  have Im4 : ∀ (fuel : Nat) (w : World), (method (fuel + 4) T V _).run Tryz.prog w = .ok (IF, Ir) w := fun fuel w => by have h := Im (fuel + 3 - n) w; rwa [show fuel + 3 - n + n + 1 = fuel + 4 by omega] at h
  have In4 : ∀ (fuel : Nat) (w : World), (nilAhead (fuel + 4) T V _).run Tryz.prog w = .ok (some false) w := fun fuel w => by have h := In (fuel + 3 - n) w; rwa [show fuel + 3 - n + n + 1 = fuel + 4 by omega] at h
  have IC := Lib.hid (fun cv w h => Ic p cv w h)
  clear Im In Ic
  unfold Has at hta
  obtain ⟨xm, xk, xn, xt⟩ := x
  simp only at hx IC
  subst hx
  unfold vCall
  simp only
  have HB := Lib.hid (belS (bx_box w (.cells #[.string ⟨#[84, 101, 108, 108]⟩, .string ⟨xk.toArray⟩, .int .i64 xn, .string ⟨xt.toArray⟩] 43)) (bx_box (w.alloc (.cells #[.string ⟨#[84, 101, 108, 108]⟩, .string ⟨xk.toArray⟩, .int .i64 xn, .string ⟨xt.toArray⟩] 43)) (.cells #[.int .i64 0, .int .i64 0, .string ⟨#[]⟩, .int .i64 0, .int .i64 0] 39)))
  have L2 := Lib.hid (Loc.new (w.alloc (.cells #[.string ⟨#[84, 101, 108, 108]⟩, .string ⟨xk.toArray⟩, .int .i64 xn, .string ⟨xt.toArray⟩] 43)) [.int .i64 0, .int .i64 0, .string ⟨#[]⟩, .int .i64 0, .int .i64 0] 39)
  rw [show (w.alloc (.cells #[.string ⟨#[84, 101, 108, 108]⟩, .string ⟨xk.toArray⟩, .int .i64 xn, .string ⟨xt.toArray⟩] 43)).heap.size = w.heap.size + 1 by simp] at L2
  have n2b : w.heap.size + 1 ≠ b := by omega
  have HR := Lib.hid (hR.below HB.out)
  have HN := Lib.hid hR.hN
  clear hR
  generalize lyDo n p ⟨[84, 101, 108, 108], xk, xn, xt⟩ = out at *
  obtain ⟨q, t0, t1, t2, t3, t4⟩ := out
  simp only [List.mem_cons, List.not_mem_nil, or_false] at If
  rcases If with rfl | rfl | rfl
  all_goals
    go_enter Tryz.func153, Tryz.ntmps153
    go_wp2_with fail
    generalize (w.alloc (.cells #[.string ⟨#[84, 101, 108, 108]⟩, .string ⟨xk.toArray⟩, .int .i64 xn, .string ⟨xt.toArray⟩] 43)).alloc (.cells #[.int .i64 0, .int .i64 0, .string ⟨#[]⟩, .int .i64 0, .int .i64 0] 39) = w0 at *
    refine (IC.out _ _ HR.out).mono ?_
    rintro e w2 ⟨rfl, cv2, hs2, hk2⟩
    replace L2 := Lib.hid (L2.out.stays hk2 n2b (by decide) (by decide))
    have HK2 := Lib.hid (KeptT.ahead HB.out HN.out hk2)
    have HS := Lib.hid hs2
    clear hs2 hk2
    unfold vReply
    simp only
    have B_r := Lib.hid L2.out.bx
    have r0 := B_r.out.cell 0 (by simp)
    have r1 := B_r.out.cell 1 (by simp)
    have r2 := B_r.out.cell 2 (by simp)
    have r3 := B_r.out.cell 3 (by simp)
    have r4 := B_r.out.cell 4 (by simp)
    simp only [List.getElem_cons_zero, List.getElem_cons_succ] at r0 r1 r2 r3 r4
    have fr0 := B_r.out.froz 0 (by simp)
    have fr1 := B_r.out.froz 1 (by simp)
    have fr2 := B_r.out.froz 2 (by simp)
    have fr3 := B_r.out.froz 3 (by simp)
    have fr4 := B_r.out.froz 4 (by simp)
    have l_r := B_r.out.lt
    go_wp2_with fail
    refine bodyPost_ret (v := .agg #[.int .i64 t0, .int .i64 t1, .string ⟨t2.toArray⟩, .int .i64 t3, .int .i64 t4]) (by simp [results, Tryz.results153, go_sem, cell_set_at, cell_set_ne, r0, r1, r2, r3, r4]) rfl ?_
    exact done5 ⟨t0, t1, t2, t3, t4⟩ HS.out HK2.out L2.out n2b (by omega) HN.out _ _ _ _ _
set_option maxRecDepth 100000 in
set_option maxHeartbeats 3200000 in
theorem acc_Save (mx : Int) (N b n : Nat) (lv : Value) (k0 : List UInt8) (nms : List (List UInt8)) (T : TypeId) (V : Value) (x : CallD) (hx : x.fMethod = [83, 97, 118, 101]) (hn3 : n ≤ 3) (hta : Has 234 T) (HI : MthOk mx N b lv k0 nms n FsSave T V "Save" #[] x)
    (p : PartD) (cv : Value) (w : World) (hR : Ready mx N b lv cv k0 nms p w) :
    Calls Tryz.prog 153 #[.iface T V, vCall x] w fun e w' => Does4 N b lv (lyDo n p x) w e w' := by
  have hbl := hR.st.core.box.lt
  obtain ⟨IF, Ir, If, Im, In, Ic⟩ := HI
  have Im4 : ∀ (fuel : Nat) (w : World), (method (fuel + 4) T V _).run Tryz.prog w = .ok (IF, Ir) w := fun fuel w => by have h := Im (fuel + 3 - n) w; rwa [show fuel + 3 - n + n + 1 = fuel + 4 by omega] at h
  have In4 : ∀ (fuel : Nat) (w : World), (nilAhead (fuel + 4) T V _).run Tryz.prog w = .ok (some false) w := fun fuel w => by have h := In (fuel + 3 - n) w; rwa [show fuel + 3 - n + n + 1 = fuel + 4 by omega] at h
  have IC := Lib.hid (fun cv w h => Ic p cv w h)
  clear Im In Ic
  unfold Has at hta
  obtain ⟨xm, xk, xn, xt⟩ := x
  simp only at hx IC
  subst hx
  unfold vCall
  simp only
  have HB := Lib.hid (belS (bx_box w (.cells #[.string ⟨#[83, 97, 118, 101]⟩, .string ⟨xk.toArray⟩, .int .i64 xn, .string ⟨xt.toArray⟩] 43)) (bx_box (w.alloc (.cells #[.string ⟨#[83, 97, 118, 101]⟩, .string ⟨xk.toArray⟩, .int .i64 xn, .string ⟨xt.toArray⟩] 43)) (.cells #[.int .i64 0, .int .i64 0, .string ⟨#[]⟩, .int .i64 0, .int .i64 0] 39)))
  have L2 := Lib.hid (Loc.new (w.alloc (.cells #[.string ⟨#[83, 97, 118, 101]⟩, .string ⟨xk.toArray⟩, .int .i64 xn, .string ⟨xt.toArray⟩] 43)) [.int .i64 0, .int .i64 0, .string ⟨#[]⟩, .int .i64 0, .int .i64 0] 39)
  rw [show (w.alloc (.cells #[.string ⟨#[83, 97, 118, 101]⟩, .string ⟨xk.toArray⟩, .int .i64 xn, .string ⟨xt.toArray⟩] 43)).heap.size = w.heap.size + 1 by simp] at L2
  have n2b : w.heap.size + 1 ≠ b := by omega
  have HR := Lib.hid (hR.below HB.out)
  have HN := Lib.hid hR.hN
  clear hR
  generalize lyDo n p ⟨[83, 97, 118, 101], xk, xn, xt⟩ = out at *
  obtain ⟨q, t0, t1, t2, t3, t4⟩ := out
  simp only [List.mem_cons, List.not_mem_nil, or_false] at If
  rcases If with rfl
  all_goals
    go_enter Tryz.func153, Tryz.ntmps153
    go_wp2_with fail
    generalize (w.alloc (.cells #[.string ⟨#[83, 97, 118, 101]⟩, .string ⟨xk.toArray⟩, .int .i64 xn, .string ⟨xt.toArray⟩] 43)).alloc (.cells #[.int .i64 0, .int .i64 0, .string ⟨#[]⟩, .int .i64 0, .int .i64 0] 39) = w0 at *
    refine (IC.out _ _ HR.out).mono ?_
    rintro e w2 ⟨rfl, cv2, hs2, hk2⟩
    replace L2 := Lib.hid (L2.out.stays hk2 n2b (by decide) (by decide))
    have HK2 := Lib.hid (KeptT.ahead HB.out HN.out hk2)
    have HS := Lib.hid hs2
    clear hs2 hk2
    unfold vReply
    simp only
    have B_r := Lib.hid L2.out.bx
    have r0 := B_r.out.cell 0 (by simp)
    have r1 := B_r.out.cell 1 (by simp)
    have r2 := B_r.out.cell 2 (by simp)
    have r3 := B_r.out.cell 3 (by simp)
    have r4 := B_r.out.cell 4 (by simp)
    simp only [List.getElem_cons_zero, List.getElem_cons_succ] at r0 r1 r2 r3 r4
    have fr0 := B_r.out.froz 0 (by simp)
    have fr1 := B_r.out.froz 1 (by simp)
    have fr2 := B_r.out.froz 2 (by simp)
    have fr3 := B_r.out.froz 3 (by simp)
    have fr4 := B_r.out.froz 4 (by simp)
    have l_r := B_r.out.lt
    go_wp2_with fail
    refine bodyPost_ret (v := .agg #[.int .i64 t0, .int .i64 t1, .string ⟨t2.toArray⟩, .int .i64 t3, .int .i64 t4]) (by simp [results, Tryz.results153, go_sem, cell_set_at, cell_set_ne, r0, r1, r2, r3, r4]) rfl ?_
    exact done5 ⟨t0, t1, t2, t3, t4⟩ HS.out HK2.out L2.out n2b (by omega) HN.out _ _ _ _ _
set_option maxRecDepth 100000 in
set_option maxHeartbeats 3200000 in
theorem acc_Heal (mx : Int) (N b n : Nat) (lv : Value) (k0 : List UInt8) (nms : List (List UInt8)) (T : TypeId) (V : Value) (x : CallD) (hx : x.fMethod = [72, 101, 97, 108]) (hn3 : n ≤ 3) (hta : Has 236 T) (HI : MthOk mx N b lv k0 nms n FsHeal T V "Heal" #[] x)
    (p : PartD) (cv : Value) (w : World) (hR : Ready mx N b lv cv k0 nms p w) :
    Calls Tryz.prog 153 #[.iface T V, vCall x] w fun e w' => Does4 N b lv (lyDo n p x) w e w' := by
  have hbl := hR.st.core.box.lt
  obtain ⟨IF, Ir, If, Im, In, Ic⟩ := HI
  have Im4 : ∀ (fuel : Nat) (w : World), (method (fuel + 4) T V _).run Tryz.prog w = .ok (IF, Ir) w := fun fuel w => by have h := Im (fuel + 3 - n) w; rwa [show fuel + 3 - n + n + 1 = fuel + 4 by omega] at h
  have In4 : ∀ (fuel : Nat) (w : World), (nilAhead (fuel + 4) T V _).run Tryz.prog w = .ok (some false) w := fun fuel w => by have h := In (fuel + 3 - n) w; rwa [show fuel + 3 - n + n + 1 = fuel + 4 by omega] at h
  have IC := Lib.hid (fun cv w h => Ic p cv w h)
  clear Im In Ic
  unfold Has at hta
  obtain ⟨xm, xk, xn, xt⟩ := x
  simp only at hx IC
  subst hx
  unfold vCall
  simp only
  have HB := Lib.hid (belS (bx_box w (.cells #[.string ⟨#[72, 101, 97, 108]⟩, .string ⟨xk.toArray⟩, .int .i64 xn, .string ⟨xt.toArray⟩] 43)) (bx_box (w.alloc (.cells #[.string ⟨#[72, 101, 97, 108]⟩, .string ⟨xk.toArray⟩, .int .i64 xn, .string ⟨xt.toArray⟩] 43)) (.cells #[.int .i64 0, .int .i64 0, .string ⟨#[]⟩, .int .i64 0, .int .i64 0] 39)))
  have L2 := Lib.hid (Loc.new (w.alloc (.cells #[.string ⟨#[72, 101, 97, 108]⟩, .string ⟨xk.toArray⟩, .int .i64 xn, .string ⟨xt.toArray⟩] 43)) [.int .i64 0, .int .i64 0, .string ⟨#[]⟩, .int .i64 0, .int .i64 0] 39)
  rw [show (w.alloc (.cells #[.string ⟨#[72, 101, 97, 108]⟩, .string ⟨xk.toArray⟩, .int .i64 xn, .string ⟨xt.toArray⟩] 43)).heap.size = w.heap.size + 1 by simp] at L2
  have n2b : w.heap.size + 1 ≠ b := by omega
  have HR := Lib.hid (hR.below HB.out)
  have HN := Lib.hid hR.hN
  clear hR
  generalize lyDo n p ⟨[72, 101, 97, 108], xk, xn, xt⟩ = out at *
  obtain ⟨q, t0, t1, t2, t3, t4⟩ := out
  simp only [List.mem_cons, List.not_mem_nil, or_false] at If
  rcases If with rfl | rfl
  all_goals
    go_enter Tryz.func153, Tryz.ntmps153
    go_wp2_with fail
    generalize (w.alloc (.cells #[.string ⟨#[72, 101, 97, 108]⟩, .string ⟨xk.toArray⟩, .int .i64 xn, .string ⟨xt.toArray⟩] 43)).alloc (.cells #[.int .i64 0, .int .i64 0, .string ⟨#[]⟩, .int .i64 0, .int .i64 0] 39) = w0 at *
    refine (IC.out _ _ HR.out).mono ?_
    rintro e w2 ⟨rfl, cv2, hs2, hk2⟩
    replace L2 := Lib.hid (L2.out.stays hk2 n2b (by decide) (by decide))
    have HK2 := Lib.hid (KeptT.ahead HB.out HN.out hk2)
    have HS := Lib.hid hs2
    clear hs2 hk2
    unfold vReply
    simp only
    have B_r := Lib.hid L2.out.bx
    have r0 := B_r.out.cell 0 (by simp)
    have r1 := B_r.out.cell 1 (by simp)
    have r2 := B_r.out.cell 2 (by simp)
    have r3 := B_r.out.cell 3 (by simp)
    have r4 := B_r.out.cell 4 (by simp)
    simp only [List.getElem_cons_zero, List.getElem_cons_succ] at r0 r1 r2 r3 r4
    have fr0 := B_r.out.froz 0 (by simp)
    have fr1 := B_r.out.froz 1 (by simp)
    have fr2 := B_r.out.froz 2 (by simp)
    have fr3 := B_r.out.froz 3 (by simp)
    have fr4 := B_r.out.froz 4 (by simp)
    have l_r := B_r.out.lt
    go_wp2_with fail
    refine bodyPost_ret (v := .agg #[.int .i64 t0, .int .i64 t1, .string ⟨t2.toArray⟩, .int .i64 t3, .int .i64 t4]) (by simp [results, Tryz.results153, go_sem, cell_set_at, cell_set_ne, r0, r1, r2, r3, r4]) rfl ?_
    exact done5 ⟨t0, t1, t2, t3, t4⟩ HS.out HK2.out L2.out n2b (by omega) HN.out _ _ _ _ _
end Go.Proofs.YtcpbikilgacdlaaGreat
namespace Go.Proofs.YtcpbikilgacdlaaGreat
set_option linter.unusedVariables false
set_option linter.unusedSimpArgs false
open Go.RowKit
set_option maxRecDepth 100000 in
set_option maxHeartbeats 3200000 in
theorem acc_Get (mx : Int) (N b n : Nat) (lv : Value) (k0 : List UInt8) (nms : List (List UInt8)) (T : TypeId) (V : Value) (x : CallD) (hx : x.fMethod = [71, 101, 116]) (hn3 : n ≤ 3) (hta : Has 210 T) (HI : MthOk mx N b lv k0 nms n FsGet T V "Get" #[.string ⟨x.fKey.toArray⟩] x)
    (p : PartD) (cv : Value) (w : World) (hR : Ready mx N b lv cv k0 nms p w) :
    Calls Tryz.prog 153 #[.iface T V, vCall x] w fun e w' => Does4 N b lv (lyDo n p x) w e w' := by
  have hbl := hR.st.core.box.lt
  obtain ⟨IF, Ir, If, Im, In, Ic⟩ := HI
  have Im4 : ∀ (fuel : Nat) (w : World), (method (fuel + 4) T V _).run Tryz.prog w = .ok (IF, Ir) w := fun fuel w => by have h := Im (fuel + 3 - n) w; rwa [show fuel + 3 - n + n + 1 = fuel + 4 by omega] at h
  have In4 : ∀ (fuel : Nat) (w : World), (nilAhead (fuel + 4) T V _).run Tryz.prog w = .ok (some false) w := fun fuel w => by have h := In (fuel + 3 - n) w; rwa [show fuel + 3 - n + n + 1 = fuel + 4 by omega] at h
  have IC := Lib.hid (fun cv w h => Ic p cv w h)
  clear Im In Ic
  unfold Has at hta
  obtain ⟨xm, xk, xn, xt⟩ := x
  simp only at hx IC
  subst hx
  unfold vCall
  simp only
  have HB := Lib.hid (belS (bx_box w (.cells #[.string ⟨#[71, 101, 116]⟩, .string ⟨xk.toArray⟩, .int .i64 xn, .string ⟨xt.toArray⟩] 43)) (bx_box (w.alloc (.cells #[.string ⟨#[71, 101, 116]⟩, .string ⟨xk.toArray⟩, .int .i64 xn, .string ⟨xt.toArray⟩] 43)) (.cells #[.int .i64 0, .int .i64 0, .string ⟨#[]⟩, .int .i64 0, .int .i64 0] 39)))
  have L2 := Lib.hid (Loc.new (w.alloc (.cells #[.string ⟨#[71, 101, 116]⟩, .string ⟨xk.toArray⟩, .int .i64 xn, .string ⟨xt.toArray⟩] 43)) [.int .i64 0, .int .i64 0, .string ⟨#[]⟩, .int .i64 0, .int .i64 0] 39)
  rw [show (w.alloc (.cells #[.string ⟨#[71, 101, 116]⟩, .string ⟨xk.toArray⟩, .int .i64 xn, .string ⟨xt.toArray⟩] 43)).heap.size = w.heap.size + 1 by simp] at L2
  have n2b : w.heap.size + 1 ≠ b := by omega
  have HR := Lib.hid (hR.below HB.out)
  have HN := Lib.hid hR.hN
  clear hR
  generalize lyDo n p ⟨[71, 101, 116], xk, xn, xt⟩ = out at *
  obtain ⟨q, t0, t1, t2, t3, t4⟩ := out
  simp only [List.mem_cons, List.not_mem_nil, or_false] at If
  rcases If with rfl | rfl | rfl
  all_goals
    go_enter Tryz.func153, Tryz.ntmps153
    go_wp2_with fail
    have hW := Lib.hid (show ∀ o, ((w.alloc (.cells #[.string ⟨#[71, 101, 116]⟩, .string ⟨xk.toArray⟩, .int .i64 xn, .string ⟨xt.toArray⟩] 43)).alloc (.cells #[.int .i64 0, .int .i64 0, .string ⟨#[]⟩, .int .i64 0, .int .i64 0] 39)).cell? ⟨w.heap.size, o, none⟩ = (#[.string ⟨#[71, 101, 116]⟩, .string ⟨xk.toArray⟩, .int .i64 xn, .string ⟨xt.toArray⟩] : Array Value)[o]? from fun o => by simp [go_sem])
    generalize (w.alloc (.cells #[.string ⟨#[71, 101, 116]⟩, .string ⟨xk.toArray⟩, .int .i64 xn, .string ⟨xt.toArray⟩] 43)).alloc (.cells #[.int .i64 0, .int .i64 0, .string ⟨#[]⟩, .int .i64 0, .int .i64 0] 39) = W at *
    have q1 := hW.out 1
    have q2 := hW.out 2
    have q3 := hW.out 3
    simp at q1 q2 q3
    clear hW
    have HBD := Lib.hid (bel_dr HB.out)
    replace HR := Lib.hid (HR.out.below (bel_dr (Below.refl W.heap.size W)))
    replace L2 := Lib.hid (L2.out.below (bel_dr (Below.refl W.heap.size W)))
    go_still_tail 4, (by kernel_rfl)
    change wpList _ _ _ _ _ W.drew
    go_wp2_with fail
    refine (IC.out _ _ HR.out).mono ?_
    rintro e w2 ⟨rfl, cv2, hs2, hk2⟩
    replace L2 := Lib.hid (L2.out.stays hk2 n2b (by decide) (by decide))
    have HK2 := Lib.hid (KeptT.ahead HBD.out HN.out hk2)
    have HS := Lib.hid hs2
    clear hs2 hk2
    unfold vReply
    simp only
    have B_r := Lib.hid L2.out.bx
    have r0 := B_r.out.cell 0 (by simp)
    have r1 := B_r.out.cell 1 (by simp)
    have r2 := B_r.out.cell 2 (by simp)
    have r3 := B_r.out.cell 3 (by simp)
    have r4 := B_r.out.cell 4 (by simp)
    simp only [List.getElem_cons_zero, List.getElem_cons_succ] at r0 r1 r2 r3 r4
    have fr0 := B_r.out.froz 0 (by simp)
    have fr1 := B_r.out.froz 1 (by simp)
    have fr2 := B_r.out.froz 2 (by simp)
    have fr3 := B_r.out.froz 3 (by simp)
    have fr4 := B_r.out.froz 4 (by simp)
    have l_r := B_r.out.lt
    go_wp2_with fail
    refine bodyPost_ret (v := .agg #[.int .i64 t0, .int .i64 t1, .string ⟨t2.toArray⟩, .int .i64 t3, .int .i64 t4]) (by simp [results, Tryz.results153, go_sem, cell_set_at, cell_set_ne, r0, r1, r2, r3, r4]) rfl ?_
    exact done5 ⟨t0, t1, t2, t3, t4⟩ HS.out HK2.out L2.out n2b (by omega) HN.out _ _ _ _ _
end Go.Proofs.YtcpbikilgacdlaaGreat
namespace Go.Proofs.YtcpbikilgacdlaaGreat
set_option linter.unusedVariables false
set_option linter.unusedSimpArgs false
open Go.RowKit
set_option maxRecDepth 100000 in
set_option maxHeartbeats 3200000 in
theorem acc_Put (mx : Int) (N b n : Nat) (lv : Value) (k0 : List UInt8) (nms : List (List UInt8)) (T : TypeId) (V : Value) (x : CallD) (hx : x.fMethod = [80, 117, 116]) (hn3 : n ≤ 3) (hta : Has 210 T) (HI : MthOk mx N b lv k0 nms n FsPut T V "Put" #[.string ⟨x.fKey.toArray⟩, .int .i64 x.fValue] x)
    (p : PartD) (cv : Value) (w : World) (hR : Ready mx N b lv cv k0 nms p w) :
    Calls Tryz.prog 153 #[.iface T V, vCall x] w fun e w' => Does4 N b lv (lyDo n p x) w e w' := by
  have hbl := hR.st.core.box.lt
  obtain ⟨IF, Ir, If, Im, In, Ic⟩ := HI
  have Im4 : ∀ (fuel : Nat) (w : World), (method (fuel + 4) T V _).run Tryz.prog w = .ok (IF, Ir) w := fun fuel w => by have h := Im (fuel + 3 - n) w; rwa [show fuel + 3 - n + n + 1 = fuel + 4 by omega] at h
  have In4 : ∀ (fuel : Nat) (w : World), (nilAhead (fuel + 4) T V _).run Tryz.prog w = .ok (some false) w := fun fuel w => by have h := In (fuel + 3 - n) w; rwa [show fuel + 3 - n + n + 1 = fuel + 4 by omega] at h
  have IC := Lib.hid (fun cv w h => Ic p cv w h)
  clear Im In Ic
  unfold Has at hta
  obtain ⟨xm, xk, xn, xt⟩ := x
  simp only at hx IC
  subst hx
  unfold vCall
  simp only
  have HB := Lib.hid (belS (bx_box w (.cells #[.string ⟨#[80, 117, 116]⟩, .string ⟨xk.toArray⟩, .int .i64 xn, .string ⟨xt.toArray⟩] 43)) (bx_box (w.alloc (.cells #[.string ⟨#[80, 117, 116]⟩, .string ⟨xk.toArray⟩, .int .i64 xn, .string ⟨xt.toArray⟩] 43)) (.cells #[.int .i64 0, .int .i64 0, .string ⟨#[]⟩, .int .i64 0, .int .i64 0] 39)))
  have L2 := Lib.hid (Loc.new (w.alloc (.cells #[.string ⟨#[80, 117, 116]⟩, .string ⟨xk.toArray⟩, .int .i64 xn, .string ⟨xt.toArray⟩] 43)) [.int .i64 0, .int .i64 0, .string ⟨#[]⟩, .int .i64 0, .int .i64 0] 39)
  rw [show (w.alloc (.cells #[.string ⟨#[80, 117, 116]⟩, .string ⟨xk.toArray⟩, .int .i64 xn, .string ⟨xt.toArray⟩] 43)).heap.size = w.heap.size + 1 by simp] at L2
  have n2b : w.heap.size + 1 ≠ b := by omega
  have HR := Lib.hid (hR.below HB.out)
  have HN := Lib.hid hR.hN
  clear hR
  generalize lyDo n p ⟨[80, 117, 116], xk, xn, xt⟩ = out at *
  obtain ⟨q, t0, t1, t2, t3, t4⟩ := out
  simp only [List.mem_cons, List.not_mem_nil, or_false] at If
  rcases If with rfl | rfl | rfl | rfl
  all_goals
    go_enter Tryz.func153, Tryz.ntmps153
    go_wp2_with fail
    have hW := Lib.hid (show ∀ o, ((w.alloc (.cells #[.string ⟨#[80, 117, 116]⟩, .string ⟨xk.toArray⟩, .int .i64 xn, .string ⟨xt.toArray⟩] 43)).alloc (.cells #[.int .i64 0, .int .i64 0, .string ⟨#[]⟩, .int .i64 0, .int .i64 0] 39)).cell? ⟨w.heap.size, o, none⟩ = (#[.string ⟨#[80, 117, 116]⟩, .string ⟨xk.toArray⟩, .int .i64 xn, .string ⟨xt.toArray⟩] : Array Value)[o]? from fun o => by simp [go_sem])
    generalize (w.alloc (.cells #[.string ⟨#[80, 117, 116]⟩, .string ⟨xk.toArray⟩, .int .i64 xn, .string ⟨xt.toArray⟩] 43)).alloc (.cells #[.int .i64 0, .int .i64 0, .string ⟨#[]⟩, .int .i64 0, .int .i64 0] 39) = W at *
    have q1 := hW.out 1
    have q2 := hW.out 2
    have q3 := hW.out 3
    simp at q1 q2 q3
    clear hW
    have HBD := Lib.hid (bel_dr HB.out)
    replace HR := Lib.hid (HR.out.below (bel_dr (Below.refl W.heap.size W)))
    replace L2 := Lib.hid (L2.out.below (bel_dr (Below.refl W.heap.size W)))
    go_still_tail 6, (by kernel_rfl)
    change wpList _ _ _ _ _ W.drew
    go_wp2_with fail
    refine (IC.out _ _ HR.out).mono ?_
    rintro e w2 ⟨rfl, cv2, hs2, hk2⟩
    replace L2 := Lib.hid (L2.out.stays hk2 n2b (by decide) (by decide))
    have HK2 := Lib.hid (KeptT.ahead HBD.out HN.out hk2)
    have HS := Lib.hid hs2
    clear hs2 hk2
    unfold vReply
    simp only
    have B_r := Lib.hid L2.out.bx
    have r0 := B_r.out.cell 0 (by simp)
    have r1 := B_r.out.cell 1 (by simp)
    have r2 := B_r.out.cell 2 (by simp)
    have r3 := B_r.out.cell 3 (by simp)
    have r4 := B_r.out.cell 4 (by simp)
    simp only [List.getElem_cons_zero, List.getElem_cons_succ] at r0 r1 r2 r3 r4
    have fr0 := B_r.out.froz 0 (by simp)
    have fr1 := B_r.out.froz 1 (by simp)
    have fr2 := B_r.out.froz 2 (by simp)
    have fr3 := B_r.out.froz 3 (by simp)
    have fr4 := B_r.out.froz 4 (by simp)
    have l_r := B_r.out.lt
    go_wp2_with fail
    refine bodyPost_ret (v := .agg #[.int .i64 t0, .int .i64 t1, .string ⟨t2.toArray⟩, .int .i64 t3, .int .i64 t4]) (by simp [results, Tryz.results153, go_sem, cell_set_at, cell_set_ne, r0, r1, r2, r3, r4]) rfl ?_
    exact done5 ⟨t0, t1, t2, t3, t4⟩ HS.out HK2.out L2.out n2b (by omega) HN.out _ _ _ _ _
end Go.Proofs.YtcpbikilgacdlaaGreat
namespace Go.Proofs.YtcpbikilgacdlaaGreat
set_option linter.unusedVariables false
set_option linter.unusedSimpArgs false
open Go.RowKit
set_option maxRecDepth 100000 in
set_option maxHeartbeats 3200000 in
theorem acc_Hear (mx : Int) (N b n : Nat) (lv : Value) (k0 : List UInt8) (nms : List (List UInt8)) (T : TypeId) (V : Value) (x : CallD) (hx : x.fMethod = [72, 101, 97, 114]) (hn3 : n ≤ 3) (hta : Has 231 T) (HI : MthOk mx N b lv k0 nms n FsHear T V "Hear" #[.int .i64 x.fValue] x)
    (p : PartD) (cv : Value) (w : World) (hR : Ready mx N b lv cv k0 nms p w) :
    Calls Tryz.prog 153 #[.iface T V, vCall x] w fun e w' => Does4 N b lv (lyDo n p x) w e w' := by
  have hbl := hR.st.core.box.lt
  obtain ⟨IF, Ir, If, Im, In, Ic⟩ := HI
  have Im4 : ∀ (fuel : Nat) (w : World), (method (fuel + 4) T V _).run Tryz.prog w = .ok (IF, Ir) w := fun fuel w => by have h := Im (fuel + 3 - n) w; rwa [show fuel + 3 - n + n + 1 = fuel + 4 by omega] at h
  have In4 : ∀ (fuel : Nat) (w : World), (nilAhead (fuel + 4) T V _).run Tryz.prog w = .ok (some false) w := fun fuel w => by have h := In (fuel + 3 - n) w; rwa [show fuel + 3 - n + n + 1 = fuel + 4 by omega] at h
  have IC := Lib.hid (fun cv w h => Ic p cv w h)
  clear Im In Ic
  unfold Has at hta
  obtain ⟨xm, xk, xn, xt⟩ := x
  simp only at hx IC
  subst hx
  unfold vCall
  simp only
  have HB := Lib.hid (belS (bx_box w (.cells #[.string ⟨#[72, 101, 97, 114]⟩, .string ⟨xk.toArray⟩, .int .i64 xn, .string ⟨xt.toArray⟩] 43)) (bx_box (w.alloc (.cells #[.string ⟨#[72, 101, 97, 114]⟩, .string ⟨xk.toArray⟩, .int .i64 xn, .string ⟨xt.toArray⟩] 43)) (.cells #[.int .i64 0, .int .i64 0, .string ⟨#[]⟩, .int .i64 0, .int .i64 0] 39)))
  have L2 := Lib.hid (Loc.new (w.alloc (.cells #[.string ⟨#[72, 101, 97, 114]⟩, .string ⟨xk.toArray⟩, .int .i64 xn, .string ⟨xt.toArray⟩] 43)) [.int .i64 0, .int .i64 0, .string ⟨#[]⟩, .int .i64 0, .int .i64 0] 39)
  rw [show (w.alloc (.cells #[.string ⟨#[72, 101, 97, 114]⟩, .string ⟨xk.toArray⟩, .int .i64 xn, .string ⟨xt.toArray⟩] 43)).heap.size = w.heap.size + 1 by simp] at L2
  have n2b : w.heap.size + 1 ≠ b := by omega
  have HR := Lib.hid (hR.below HB.out)
  have HN := Lib.hid hR.hN
  clear hR
  generalize lyDo n p ⟨[72, 101, 97, 114], xk, xn, xt⟩ = out at *
  obtain ⟨q, t0, t1, t2, t3, t4⟩ := out
  simp only [List.mem_cons, List.not_mem_nil, or_false] at If
  rcases If with rfl | rfl
  all_goals
    go_enter Tryz.func153, Tryz.ntmps153
    go_wp2_with fail
    have hW := Lib.hid (show ∀ o, ((w.alloc (.cells #[.string ⟨#[72, 101, 97, 114]⟩, .string ⟨xk.toArray⟩, .int .i64 xn, .string ⟨xt.toArray⟩] 43)).alloc (.cells #[.int .i64 0, .int .i64 0, .string ⟨#[]⟩, .int .i64 0, .int .i64 0] 39)).cell? ⟨w.heap.size, o, none⟩ = (#[.string ⟨#[72, 101, 97, 114]⟩, .string ⟨xk.toArray⟩, .int .i64 xn, .string ⟨xt.toArray⟩] : Array Value)[o]? from fun o => by simp [go_sem])
    generalize (w.alloc (.cells #[.string ⟨#[72, 101, 97, 114]⟩, .string ⟨xk.toArray⟩, .int .i64 xn, .string ⟨xt.toArray⟩] 43)).alloc (.cells #[.int .i64 0, .int .i64 0, .string ⟨#[]⟩, .int .i64 0, .int .i64 0] 39) = W at *
    have q1 := hW.out 1
    have q2 := hW.out 2
    have q3 := hW.out 3
    simp at q1 q2 q3
    clear hW
    have HBD := Lib.hid (bel_dr HB.out)
    replace HR := Lib.hid (HR.out.below (bel_dr (Below.refl W.heap.size W)))
    replace L2 := Lib.hid (L2.out.below (bel_dr (Below.refl W.heap.size W)))
    go_still_tail 4, (by kernel_rfl)
    change wpList _ _ _ _ _ W.drew
    go_wp2_with fail
    refine (IC.out _ _ HR.out).mono ?_
    rintro e w2 ⟨rfl, cv2, hs2, hk2⟩
    replace L2 := Lib.hid (L2.out.stays hk2 n2b (by decide) (by decide))
    have HK2 := Lib.hid (KeptT.ahead HBD.out HN.out hk2)
    have HS := Lib.hid hs2
    clear hs2 hk2
    unfold vReply
    simp only
    have B_r := Lib.hid L2.out.bx
    have r0 := B_r.out.cell 0 (by simp)
    have r1 := B_r.out.cell 1 (by simp)
    have r2 := B_r.out.cell 2 (by simp)
    have r3 := B_r.out.cell 3 (by simp)
    have r4 := B_r.out.cell 4 (by simp)
    simp only [List.getElem_cons_zero, List.getElem_cons_succ] at r0 r1 r2 r3 r4
    have fr0 := B_r.out.froz 0 (by simp)
    have fr1 := B_r.out.froz 1 (by simp)
    have fr2 := B_r.out.froz 2 (by simp)
    have fr3 := B_r.out.froz 3 (by simp)
    have fr4 := B_r.out.froz 4 (by simp)
    have l_r := B_r.out.lt
    go_wp2_with fail
    refine bodyPost_ret (v := .agg #[.int .i64 t0, .int .i64 t1, .string ⟨t2.toArray⟩, .int .i64 t3, .int .i64 t4]) (by simp [results, Tryz.results153, go_sem, cell_set_at, cell_set_ne, r0, r1, r2, r3, r4]) rfl ?_
    exact done5 ⟨t0, t1, t2, t3, t4⟩ HS.out HK2.out L2.out n2b (by omega) HN.out _ _ _ _ _
set_option maxRecDepth 100000 in
set_option maxHeartbeats 3200000 in
theorem acc_Load (mx : Int) (N b n : Nat) (lv : Value) (k0 : List UInt8) (nms : List (List UInt8)) (T : TypeId) (V : Value) (x : CallD) (hx : x.fMethod = [76, 111, 97, 100]) (hn3 : n ≤ 3) (hta : Has 234 T) (HI : MthOk mx N b lv k0 nms n FsLoad T V "Load" #[.string ⟨x.fText.toArray⟩] x)
    (p : PartD) (cv : Value) (w : World) (hR : Ready mx N b lv cv k0 nms p w) :
    Calls Tryz.prog 153 #[.iface T V, vCall x] w fun e w' => Does4 N b lv (lyDo n p x) w e w' := by
  have hbl := hR.st.core.box.lt
  obtain ⟨IF, Ir, If, Im, In, Ic⟩ := HI
  have Im4 : ∀ (fuel : Nat) (w : World), (method (fuel + 4) T V _).run Tryz.prog w = .ok (IF, Ir) w := fun fuel w => by have h := Im (fuel + 3 - n) w; rwa [show fuel + 3 - n + n + 1 = fuel + 4 by omega] at h
  have In4 : ∀ (fuel : Nat) (w : World), (nilAhead (fuel + 4) T V _).run Tryz.prog w = .ok (some false) w := fun fuel w => by have h := In (fuel + 3 - n) w; rwa [show fuel + 3 - n + n + 1 = fuel + 4 by omega] at h
  have IC := Lib.hid (fun cv w h => Ic p cv w h)
  clear Im In Ic
  unfold Has at hta
  obtain ⟨xm, xk, xn, xt⟩ := x
  simp only at hx IC
  subst hx
  unfold vCall
  simp only
  have HB := Lib.hid (belS (bx_box w (.cells #[.string ⟨#[76, 111, 97, 100]⟩, .string ⟨xk.toArray⟩, .int .i64 xn, .string ⟨xt.toArray⟩] 43)) (bx_box (w.alloc (.cells #[.string ⟨#[76, 111, 97, 100]⟩, .string ⟨xk.toArray⟩, .int .i64 xn, .string ⟨xt.toArray⟩] 43)) (.cells #[.int .i64 0, .int .i64 0, .string ⟨#[]⟩, .int .i64 0, .int .i64 0] 39)))
  have L2 := Lib.hid (Loc.new (w.alloc (.cells #[.string ⟨#[76, 111, 97, 100]⟩, .string ⟨xk.toArray⟩, .int .i64 xn, .string ⟨xt.toArray⟩] 43)) [.int .i64 0, .int .i64 0, .string ⟨#[]⟩, .int .i64 0, .int .i64 0] 39)
  rw [show (w.alloc (.cells #[.string ⟨#[76, 111, 97, 100]⟩, .string ⟨xk.toArray⟩, .int .i64 xn, .string ⟨xt.toArray⟩] 43)).heap.size = w.heap.size + 1 by simp] at L2
  have n2b : w.heap.size + 1 ≠ b := by omega
  have HR := Lib.hid (hR.below HB.out)
  have HN := Lib.hid hR.hN
  clear hR
  generalize lyDo n p ⟨[76, 111, 97, 100], xk, xn, xt⟩ = out at *
  obtain ⟨q, t0, t1, t2, t3, t4⟩ := out
  simp only [List.mem_cons, List.not_mem_nil, or_false] at If
  rcases If with rfl
  all_goals
    go_enter Tryz.func153, Tryz.ntmps153
    go_wp2_with fail
    have hW := Lib.hid (show ∀ o, ((w.alloc (.cells #[.string ⟨#[76, 111, 97, 100]⟩, .string ⟨xk.toArray⟩, .int .i64 xn, .string ⟨xt.toArray⟩] 43)).alloc (.cells #[.int .i64 0, .int .i64 0, .string ⟨#[]⟩, .int .i64 0, .int .i64 0] 39)).cell? ⟨w.heap.size, o, none⟩ = (#[.string ⟨#[76, 111, 97, 100]⟩, .string ⟨xk.toArray⟩, .int .i64 xn, .string ⟨xt.toArray⟩] : Array Value)[o]? from fun o => by simp [go_sem])
    generalize (w.alloc (.cells #[.string ⟨#[76, 111, 97, 100]⟩, .string ⟨xk.toArray⟩, .int .i64 xn, .string ⟨xt.toArray⟩] 43)).alloc (.cells #[.int .i64 0, .int .i64 0, .string ⟨#[]⟩, .int .i64 0, .int .i64 0] 39) = W at *
    have q1 := hW.out 1
    have q2 := hW.out 2
    have q3 := hW.out 3
    simp at q1 q2 q3
    clear hW
    have HBD := Lib.hid (bel_dr HB.out)
    replace HR := Lib.hid (HR.out.below (bel_dr (Below.refl W.heap.size W)))
    replace L2 := Lib.hid (L2.out.below (bel_dr (Below.refl W.heap.size W)))
    go_still_tail 4, (by kernel_rfl)
    change wpList _ _ _ _ _ W.drew
    go_wp2_with fail
    refine (IC.out _ _ HR.out).mono ?_
    rintro e w2 ⟨rfl, cv2, hs2, hk2⟩
    replace L2 := Lib.hid (L2.out.stays hk2 n2b (by decide) (by decide))
    have HK2 := Lib.hid (KeptT.ahead HBD.out HN.out hk2)
    have HS := Lib.hid hs2
    clear hs2 hk2
    unfold vReply
    simp only
    have B_r := Lib.hid L2.out.bx
    have r0 := B_r.out.cell 0 (by simp)
    have r1 := B_r.out.cell 1 (by simp)
    have r2 := B_r.out.cell 2 (by simp)
    have r3 := B_r.out.cell 3 (by simp)
    have r4 := B_r.out.cell 4 (by simp)
    simp only [List.getElem_cons_zero, List.getElem_cons_succ] at r0 r1 r2 r3 r4
    have fr0 := B_r.out.froz 0 (by simp)
    have fr1 := B_r.out.froz 1 (by simp)
    have fr2 := B_r.out.froz 2 (by simp)
    have fr3 := B_r.out.froz 3 (by simp)
    have fr4 := B_r.out.froz 4 (by simp)
    have l_r := B_r.out.lt
    go_wp2_with fail
    refine bodyPost_ret (v := .agg #[.int .i64 t0, .int .i64 t1, .string ⟨t2.toArray⟩, .int .i64 t3, .int .i64 t4]) (by simp [results, Tryz.results153, go_sem, cell_set_at, cell_set_ne, r0, r1, r2, r3, r4]) rfl ?_
    exact done5 ⟨t0, t1, t2, t3, t4⟩ HS.out HK2.out L2.out n2b (by omega) HN.out _ _ _ _ _
end Go.Proofs.YtcpbikilgacdlaaGreat
namespace Go.Proofs.YtcpbikilgacdlaaGreat
set_option linter.unusedVariables false
set_option linter.unusedSimpArgs false
open Go.RowKit
set_option maxRecDepth 100000 in
set_option maxHeartbeats 1600000 in
theorem accF_Start (T : TypeId) (V : Value) (x : CallD) (w : World) (hx : x.fMethod = [83, 116, 97, 114, 116]) (hta : Fails 206 T) :
    Calls Tryz.prog 153 #[.iface T V, vCall x] w fun e w' => Panics w e w' := by
  obtain ⟨m, k, n, t⟩ := x
  simp only at hx
  subst hx
  unfold vCall
  obtain ⟨c, E, hta⟩ := hta
  go_enter Tryz.func153, Tryz.ntmps153
  go_wp2_with fail
  exact ⟨rfl, _, rfl, by repeat (first | with_reducible exact Below.refl _ _ | with_reducible refine Below.alloc ?_ (by simp; try omega) _)⟩
set_option maxRecDepth 100000 in
set_option maxHeartbeats 1600000 in
theorem accF_Stop (T : TypeId) (V : Value) (x : CallD) (w : World) (hx : x.fMethod = [83, 116, 111, 112]) (hta : Fails 206 T) :
    Calls Tryz.prog 153 #[.iface T V, vCall x] w fun e w' => Panics w e w' := by
  obtain ⟨m, k, n, t⟩ := x
  simp only at hx
  subst hx
  unfold vCall
  obtain ⟨c, E, hta⟩ := hta
  go_enter Tryz.func153, Tryz.ntmps153
  go_wp2_with fail
  exact ⟨rfl, _, rfl, by repeat (first | with_reducible exact Below.refl _ _ | with_reducible refine Below.alloc ?_ (by simp; try omega) _)⟩
set_option maxRecDepth 100000 in
set_option maxHeartbeats 1600000 in
theorem accF_Get (T : TypeId) (V : Value) (x : CallD) (w : World) (hx : x.fMethod = [71, 101, 116]) (hta : Fails 210 T) :
    Calls Tryz.prog 153 #[.iface T V, vCall x] w fun e w' => Panics w e w' := by
  obtain ⟨m, k, n, t⟩ := x
  simp only at hx
  subst hx
  unfold vCall
  obtain ⟨c, E, hta⟩ := hta
  go_enter Tryz.func153, Tryz.ntmps153
  go_wp2_with fail
  refine wp_region_any (by kernel_rfl) ?_
  change wpAny _ _ _ _ _ _ _ (World.drew _)
  refine wpAny_take (i := 0) (v := ?_) rfl (by kernel_rfl) (by kernel_rfl) (by kernel_rfl) (fun _ _ _ h => h) (Or.inl ⟨by rfl, ?_⟩) ?_
  rotate_left
  · intro w; go_simp; try (with_reducible rfl)
  refine wpAny_take (i := 2) (v := ?_) rfl (by kernel_rfl) (by kernel_rfl) (by kernel_rfl) (fun _ _ _ h => h) (Or.inl ⟨by rfl, ?_⟩) ?_
  rotate_left
  · intro w; go_simp; try (with_reducible rfl)
  refine wpAny_ready (rs := [1, 3]) (by kernel_rfl) (by simp) ?_
  refine AllReady.cons rfl (fun K hK => ?_) ?_
  · go_simp
    exact ⟨rfl, _, rfl, by repeat (first | with_reducible exact Below.refl _ _ | with_reducible refine Below.alloc ?_ (by simp; try omega) _ | with_reducible refine Below.drew ?_ | with_reducible refine below_drewN ?_ _)⟩
  refine AllReady.cons rfl (fun K hK => ?_) ?_
  · go_simp
    refine hK _ _ ?_
    clear hK K
    refine wpAny_ready (rs := [1]) (by kernel_rfl) (by simp) ?_
    refine AllReady.cons rfl (fun K hK => ?_) ?_
    · go_simp
      exact ⟨rfl, _, rfl, by repeat (first | with_reducible exact Below.refl _ _ | with_reducible refine Below.alloc ?_ (by simp; try omega) _ | with_reducible refine Below.drew ?_ | with_reducible refine below_drewN ?_ _)⟩
    exact AllReady.nil
  exact AllReady.nil
set_option maxRecDepth 100000 in
set_option maxHeartbeats 1600000 in
theorem accF_Put (T : TypeId) (V : Value) (x : CallD) (w : World) (hx : x.fMethod = [80, 117, 116]) (hta : Fails 210 T) :
    Calls Tryz.prog 153 #[.iface T V, vCall x] w fun e w' => Panics w e w' := by
  obtain ⟨m, k, n, t⟩ := x
  simp only at hx
  subst hx
  unfold vCall
  obtain ⟨c, E, hta⟩ := hta
  go_enter Tryz.func153, Tryz.ntmps153
  go_wp2_with fail
  refine wp_region_any (by kernel_rfl) ?_
  change wpAny _ _ _ _ _ _ _ (World.drew _)
  refine wpAny_take (i := 0) (v := ?_) rfl (by kernel_rfl) (by kernel_rfl) (by kernel_rfl) (fun _ _ _ h => h) (Or.inl ⟨by rfl, ?_⟩) ?_
  rotate_left
  · intro w; go_simp; try (with_reducible rfl)
  refine wpAny_take (i := 2) (v := ?_) rfl (by kernel_rfl) (by kernel_rfl) (by kernel_rfl) (fun _ _ _ h => h) (Or.inl ⟨by rfl, ?_⟩) ?_
  rotate_left
  · intro w; go_simp; try (with_reducible rfl)
  refine wpAny_take (i := 4) (v := ?_) rfl (by kernel_rfl) (by kernel_rfl) (by kernel_rfl) (fun _ _ _ h => h) (Or.inl ⟨by rfl, ?_⟩) ?_
  rotate_left
  · intro w; go_simp; try (with_reducible rfl)
  refine wpAny_ready (rs := [1, 3, 5]) (by kernel_rfl) (by simp) ?_
  refine AllReady.cons rfl (fun K hK => ?_) ?_
  · go_simp
    exact ⟨rfl, _, rfl, by repeat (first | with_reducible exact Below.refl _ _ | with_reducible refine Below.alloc ?_ (by simp; try omega) _ | with_reducible refine Below.drew ?_ | with_reducible refine below_drewN ?_ _)⟩
  refine AllReady.cons rfl (fun K hK => ?_) ?_
  · go_simp
    refine hK _ _ ?_
    clear hK K
    refine wpAny_ready (rs := [1, 5]) (by kernel_rfl) (by simp) ?_
    refine AllReady.cons rfl (fun K hK => ?_) ?_
    · go_simp
      exact ⟨rfl, _, rfl, by repeat (first | with_reducible exact Below.refl _ _ | with_reducible refine Below.alloc ?_ (by simp; try omega) _ | with_reducible refine Below.drew ?_ | with_reducible refine below_drewN ?_ _)⟩
    refine AllReady.cons rfl (fun K hK => ?_) ?_
    · go_simp
      refine hK _ _ ?_
      clear hK K
      refine wpAny_ready (rs := [1]) (by kernel_rfl) (by simp) ?_
      refine AllReady.cons rfl (fun K hK => ?_) ?_
      · go_simp
        exact ⟨rfl, _, rfl, by repeat (first | with_reducible exact Below.refl _ _ | with_reducible refine Below.alloc ?_ (by simp; try omega) _ | with_reducible refine Below.drew ?_ | with_reducible refine below_drewN ?_ _)⟩
      exact AllReady.nil
    exact AllReady.nil
  refine AllReady.cons rfl (fun K hK => ?_) ?_
  · go_simp
    refine hK _ _ ?_
    clear hK K
    refine wpAny_ready (rs := [1, 3]) (by kernel_rfl) (by simp) ?_
    refine AllReady.cons rfl (fun K hK => ?_) ?_
    · go_simp
      exact ⟨rfl, _, rfl, by repeat (first | with_reducible exact Below.refl _ _ | with_reducible refine Below.alloc ?_ (by simp; try omega) _ | with_reducible refine Below.drew ?_ | with_reducible refine below_drewN ?_ _)⟩
    refine AllReady.cons rfl (fun K hK => ?_) ?_
    · go_simp
      refine hK _ _ ?_
      clear hK K
      refine wpAny_ready (rs := [1]) (by kernel_rfl) (by simp) ?_
      refine AllReady.cons rfl (fun K hK => ?_) ?_
      · go_simp
        exact ⟨rfl, _, rfl, by repeat (first | with_reducible exact Below.refl _ _ | with_reducible refine Below.alloc ?_ (by simp; try omega) _ | with_reducible refine Below.drew ?_ | with_reducible refine below_drewN ?_ _)⟩
      exact AllReady.nil
    exact AllReady.nil
  exact AllReady.nil
set_option maxRecDepth 100000 in
set_option maxHeartbeats 1600000 in
theorem accF_Tell (T : TypeId) (V : Value) (x : CallD) (w : World) (hx : x.fMethod = [84, 101, 108, 108]) (hta : Fails 222 T) :
    Calls Tryz.prog 153 #[.iface T V, vCall x] w fun e w' => Panics w e w' := by
  obtain ⟨m, k, n, t⟩ := x
  simp only at hx
  subst hx
  unfold vCall
  obtain ⟨c, E, hta⟩ := hta
  go_enter Tryz.func153, Tryz.ntmps153
  go_wp2_with fail
  exact ⟨rfl, _, rfl, by repeat (first | with_reducible exact Below.refl _ _ | with_reducible refine Below.alloc ?_ (by simp; try omega) _)⟩
set_option maxRecDepth 100000 in
set_option maxHeartbeats 1600000 in
theorem accF_Hear (T : TypeId) (V : Value) (x : CallD) (w : World) (hx : x.fMethod = [72, 101, 97, 114]) (hta : Fails 231 T) :
    Calls Tryz.prog 153 #[.iface T V, vCall x] w fun e w' => Panics w e w' := by
  obtain ⟨m, k, n, t⟩ := x
  simp only at hx
  subst hx
  unfold vCall
  obtain ⟨c, E, hta⟩ := hta
  go_enter Tryz.func153, Tryz.ntmps153
  go_wp2_with fail
  refine wp_region_any (by kernel_rfl) ?_
  change wpAny _ _ _ _ _ _ _ (World.drew _)
  refine wpAny_take (i := 0) (v := ?_) rfl (by kernel_rfl) (by kernel_rfl) (by kernel_rfl) (fun _ _ _ h => h) (Or.inl ⟨by rfl, ?_⟩) ?_
  rotate_left
  · intro w; go_simp; try (with_reducible rfl)
  refine wpAny_take (i := 2) (v := ?_) rfl (by kernel_rfl) (by kernel_rfl) (by kernel_rfl) (fun _ _ _ h => h) (Or.inl ⟨by rfl, ?_⟩) ?_
  rotate_left
  · intro w; go_simp; try (with_reducible rfl)
  refine wpAny_ready (rs := [1, 3]) (by kernel_rfl) (by simp) ?_
  refine AllReady.cons rfl (fun K hK => ?_) ?_
  · go_simp
    exact ⟨rfl, _, rfl, by repeat (first | with_reducible exact Below.refl _ _ | with_reducible refine Below.alloc ?_ (by simp; try omega) _ | with_reducible refine Below.drew ?_ | with_reducible refine below_drewN ?_ _)⟩
  refine AllReady.cons rfl (fun K hK => ?_) ?_
  · go_simp
    refine hK _ _ ?_
    clear hK K
    refine wpAny_ready (rs := [1]) (by kernel_rfl) (by simp) ?_
    refine AllReady.cons rfl (fun K hK => ?_) ?_
    · go_simp
      exact ⟨rfl, _, rfl, by repeat (first | with_reducible exact Below.refl _ _ | with_reducible refine Below.alloc ?_ (by simp; try omega) _ | with_reducible refine Below.drew ?_ | with_reducible refine below_drewN ?_ _)⟩
    exact AllReady.nil
  exact AllReady.nil
set_option maxRecDepth 100000 in
set_option maxHeartbeats 1600000 in
theorem accF_Load (T : TypeId) (V : Value) (x : CallD) (w : World) (hx : x.fMethod = [76, 111, 97, 100]) (hta : Fails 234 T) :
    Calls Tryz.prog 153 #[.iface T V, vCall x] w fun e w' => Panics w e w' := by
  obtain ⟨m, k, n, t⟩ := x
  simp only at hx
  subst hx
  unfold vCall
  obtain ⟨c, E, hta⟩ := hta
  go_enter Tryz.func153, Tryz.ntmps153
  go_wp2_with fail
  refine wp_region_any (by kernel_rfl) ?_
  change wpAny _ _ _ _ _ _ _ (World.drew _)
  refine wpAny_take (i := 0) (v := ?_) rfl (by kernel_rfl) (by kernel_rfl) (by kernel_rfl) (fun _ _ _ h => h) (Or.inl ⟨by rfl, ?_⟩) ?_
  rotate_left
  · intro w; go_simp; try (with_reducible rfl)
  refine wpAny_take (i := 2) (v := ?_) rfl (by kernel_rfl) (by kernel_rfl) (by kernel_rfl) (fun _ _ _ h => h) (Or.inl ⟨by rfl, ?_⟩) ?_
  rotate_left
  · intro w; go_simp; try (with_reducible rfl)
  refine wpAny_ready (rs := [1, 3]) (by kernel_rfl) (by simp) ?_
  refine AllReady.cons rfl (fun K hK => ?_) ?_
  · go_simp
    exact ⟨rfl, _, rfl, by repeat (first | with_reducible exact Below.refl _ _ | with_reducible refine Below.alloc ?_ (by simp; try omega) _ | with_reducible refine Below.drew ?_ | with_reducible refine below_drewN ?_ _)⟩
  refine AllReady.cons rfl (fun K hK => ?_) ?_
  · go_simp
    refine hK _ _ ?_
    clear hK K
    refine wpAny_ready (rs := [1]) (by kernel_rfl) (by simp) ?_
    refine AllReady.cons rfl (fun K hK => ?_) ?_
    · go_simp
      exact ⟨rfl, _, rfl, by repeat (first | with_reducible exact Below.refl _ _ | with_reducible refine Below.alloc ?_ (by simp; try omega) _ | with_reducible refine Below.drew ?_ | with_reducible refine below_drewN ?_ _)⟩
    exact AllReady.nil
  exact AllReady.nil
set_option maxRecDepth 100000 in
set_option maxHeartbeats 1600000 in
theorem accF_Save (T : TypeId) (V : Value) (x : CallD) (w : World) (hx : x.fMethod = [83, 97, 118, 101]) (hta : Fails 234 T) :
    Calls Tryz.prog 153 #[.iface T V, vCall x] w fun e w' => Panics w e w' := by
  obtain ⟨m, k, n, t⟩ := x
  simp only at hx
  subst hx
  unfold vCall
  obtain ⟨c, E, hta⟩ := hta
  go_enter Tryz.func153, Tryz.ntmps153
  go_wp2_with fail
  exact ⟨rfl, _, rfl, by repeat (first | with_reducible exact Below.refl _ _ | with_reducible refine Below.alloc ?_ (by simp; try omega) _)⟩
set_option maxRecDepth 100000 in
set_option maxHeartbeats 1600000 in
theorem accF_Heal (T : TypeId) (V : Value) (x : CallD) (w : World) (hx : x.fMethod = [72, 101, 97, 108]) (hta : Fails 236 T) :
    Calls Tryz.prog 153 #[.iface T V, vCall x] w fun e w' => Panics w e w' := by
  obtain ⟨m, k, n, t⟩ := x
  simp only at hx
  subst hx
  unfold vCall
  obtain ⟨c, E, hta⟩ := hta
  go_enter Tryz.func153, Tryz.ntmps153
  go_wp2_with fail
  exact ⟨rfl, _, rfl, by repeat (first | with_reducible exact Below.refl _ _ | with_reducible refine Below.alloc ?_ (by simp; try omega) _)⟩
end Go.Proofs.YtcpbikilgacdlaaGreat
namespace Go.Proofs.YtcpbikilgacdlaaGreat
set_option linter.unusedVariables false
set_option linter.unusedSimpArgs false
open Go.RowKit
def dlv (n : Nat) (f : Int) (p : PartD) (x : CallD) : PartD × ReplyD := if offersF f (wantF x.fMethod) = true then lyDo n p x else (p, ⟨1, 0, [], wantF x.fMethod, f⟩)
theorem meets_has {I T : TypeId} {b : Bool} (h : Meets I T b) (hb : b = true) : Has I T := by subst hb; exact h
theorem meets_fails {I T : TypeId} {b : Bool} (h : Meets I T b) (hb : ¬ b = true) : Fails I T := by cases b; exact h; exact absurd rfl hb
theorem dlv_Start (mx : Int) (N b n : Nat) (lv cv : Value) (k0 : List UInt8) (nms : List (List UInt8)) (T : TypeId) (V : Value) (f : Int) (x : CallD) (p : PartD) (w : World) (hR : Ready mx N b lv cv k0 nms p w) (hn3 : n ≤ 3) (S : Stack mx N b lv k0 nms n T V f) (A : Ass6 T f) (hF : FaceAt w T V f) (y : GoodX x mStart) :
    Calls Tryz.prog 117 #[.iface T V, vCall x] w fun e w' => Does4 N b lv (dlv n f p x) w e w' := by
  have hw : wantF x.fMethod = 1 := by rw [y.hm]; rfl
  by_cases ho : offersF f 1 = true
  · rw [show dlv n f p x = lyDo n p x from if_pos (by rw [hw]; exact ho)]
    exact deliver4_ok mx N b lv cv k0 nms T V x _ p w hR fun W hb => (acc_Start mx N b n lv k0 nms T V x y.hm hn3 (meets_has A.run ho) (S.start ho x y) p cv W (hR.below hb)).mono fun e w' h => h
  · rw [show dlv n f p x = (p, ⟨1, 0, [], wantF x.fMethod, f⟩) from if_neg (by rw [hw]; exact ho)]
    exact deliver4_fail mx N b lv cv k0 nms T V f x p w hR hF fun W => accF_Start T V x W y.hm (meets_fails A.run ho)
theorem dlv_Stop (mx : Int) (N b n : Nat) (lv cv : Value) (k0 : List UInt8) (nms : List (List UInt8)) (T : TypeId) (V : Value) (f : Int) (x : CallD) (p : PartD) (w : World) (hR : Ready mx N b lv cv k0 nms p w) (hn3 : n ≤ 3) (S : Stack mx N b lv k0 nms n T V f) (A : Ass6 T f) (hF : FaceAt w T V f) (y : GoodX x mStop) :
    Calls Tryz.prog 117 #[.iface T V, vCall x] w fun e w' => Does4 N b lv (dlv n f p x) w e w' := by
  have hw : wantF x.fMethod = 1 := by rw [y.hm]; rfl
  by_cases ho : offersF f 1 = true
  · rw [show dlv n f p x = lyDo n p x from if_pos (by rw [hw]; exact ho)]
    exact deliver4_ok mx N b lv cv k0 nms T V x _ p w hR fun W hb => (acc_Stop mx N b n lv k0 nms T V x y.hm hn3 (meets_has A.run ho) (S.stop ho x y) p cv W (hR.below hb)).mono fun e w' h => h
  · rw [show dlv n f p x = (p, ⟨1, 0, [], wantF x.fMethod, f⟩) from if_neg (by rw [hw]; exact ho)]
    exact deliver4_fail mx N b lv cv k0 nms T V f x p w hR hF fun W => accF_Stop T V x W y.hm (meets_fails A.run ho)
theorem dlv_Get (mx : Int) (N b n : Nat) (lv cv : Value) (k0 : List UInt8) (nms : List (List UInt8)) (T : TypeId) (V : Value) (f : Int) (x : CallD) (p : PartD) (w : World) (hR : Ready mx N b lv cv k0 nms p w) (hn3 : n ≤ 3) (S : Stack mx N b lv k0 nms n T V f) (A : Ass6 T f) (hF : FaceAt w T V f) (y : GoodX x mGet) :
    Calls Tryz.prog 117 #[.iface T V, vCall x] w fun e w' => Does4 N b lv (dlv n f p x) w e w' := by
  have hw : wantF x.fMethod = 2 := by rw [y.hm]; rfl
  by_cases ho : offersF f 2 = true
  · rw [show dlv n f p x = lyDo n p x from if_pos (by rw [hw]; exact ho)]
    exact deliver4_ok mx N b lv cv k0 nms T V x _ p w hR fun W hb => (acc_Get mx N b n lv k0 nms T V x y.hm hn3 (meets_has A.keep ho) (S.get ho x y) p cv W (hR.below hb)).mono fun e w' h => h
  · rw [show dlv n f p x = (p, ⟨1, 0, [], wantF x.fMethod, f⟩) from if_neg (by rw [hw]; exact ho)]
    exact deliver4_fail mx N b lv cv k0 nms T V f x p w hR hF fun W => accF_Get T V x W y.hm (meets_fails A.keep ho)
theorem dlv_Put (mx : Int) (N b n : Nat) (lv cv : Value) (k0 : List UInt8) (nms : List (List UInt8)) (T : TypeId) (V : Value) (f : Int) (x : CallD) (p : PartD) (w : World) (hR : Ready mx N b lv cv k0 nms p w) (hn3 : n ≤ 3) (S : Stack mx N b lv k0 nms n T V f) (A : Ass6 T f) (hF : FaceAt w T V f) (y : GoodX x mPut) :
    Calls Tryz.prog 117 #[.iface T V, vCall x] w fun e w' => Does4 N b lv (dlv n f p x) w e w' := by
  have hw : wantF x.fMethod = 2 := by rw [y.hm]; rfl
  by_cases ho : offersF f 2 = true
  · rw [show dlv n f p x = lyDo n p x from if_pos (by rw [hw]; exact ho)]
    exact deliver4_ok mx N b lv cv k0 nms T V x _ p w hR fun W hb => (acc_Put mx N b n lv k0 nms T V x y.hm hn3 (meets_has A.keep ho) (S.put ho x y) p cv W (hR.below hb)).mono fun e w' h => h
  · rw [show dlv n f p x = (p, ⟨1, 0, [], wantF x.fMethod, f⟩) from if_neg (by rw [hw]; exact ho)]
    exact deliver4_fail mx N b lv cv k0 nms T V f x p w hR hF fun W => accF_Put T V x W y.hm (meets_fails A.keep ho)
theorem dlv_Tell (mx : Int) (N b n : Nat) (lv cv : Value) (k0 : List UInt8) (nms : List (List UInt8)) (T : TypeId) (V : Value) (f : Int) (x : CallD) (p : PartD) (w : World) (hR : Ready mx N b lv cv k0 nms p w) (hn3 : n ≤ 3) (S : Stack mx N b lv k0 nms n T V f) (A : Ass6 T f) (hF : FaceAt w T V f) (y : GoodX x mTell) :
    Calls Tryz.prog 117 #[.iface T V, vCall x] w fun e w' => Does4 N b lv (dlv n f p x) w e w' := by
  have hw : wantF x.fMethod = 4 := by rw [y.hm]; rfl
  by_cases ho : offersF f 4 = true
  · rw [show dlv n f p x = lyDo n p x from if_pos (by rw [hw]; exact ho)]
    exact deliver4_ok mx N b lv cv k0 nms T V x _ p w hR fun W hb => (acc_Tell mx N b n lv k0 nms T V x y.hm hn3 (meets_has A.tell ho) (S.tell ho x y) p cv W (hR.below hb)).mono fun e w' h => h
  · rw [show dlv n f p x = (p, ⟨1, 0, [], wantF x.fMethod, f⟩) from if_neg (by rw [hw]; exact ho)]
    exact deliver4_fail mx N b lv cv k0 nms T V f x p w hR hF fun W => accF_Tell T V x W y.hm (meets_fails A.tell ho)
theorem dlv_Hear (mx : Int) (N b n : Nat) (lv cv : Value) (k0 : List UInt8) (nms : List (List UInt8)) (T : TypeId) (V : Value) (f : Int) (x : CallD) (p : PartD) (w : World) (hR : Ready mx N b lv cv k0 nms p w) (hn3 : n ≤ 3) (S : Stack mx N b lv k0 nms n T V f) (A : Ass6 T f) (hF : FaceAt w T V f) (y : GoodX x mHear) :
    Calls Tryz.prog 117 #[.iface T V, vCall x] w fun e w' => Does4 N b lv (dlv n f p x) w e w' := by
  have hw : wantF x.fMethod = 8 := by rw [y.hm]; rfl
  by_cases ho : offersF f 8 = true
  · rw [show dlv n f p x = lyDo n p x from if_pos (by rw [hw]; exact ho)]
    exact deliver4_ok mx N b lv cv k0 nms T V x _ p w hR fun W hb => (acc_Hear mx N b n lv k0 nms T V x y.hm hn3 (meets_has A.hear ho) (S.hear ho x y) p cv W (hR.below hb)).mono fun e w' h => h
  · rw [show dlv n f p x = (p, ⟨1, 0, [], wantF x.fMethod, f⟩) from if_neg (by rw [hw]; exact ho)]
    exact deliver4_fail mx N b lv cv k0 nms T V f x p w hR hF fun W => accF_Hear T V x W y.hm (meets_fails A.hear ho)
theorem dlv_Load (mx : Int) (N b n : Nat) (lv cv : Value) (k0 : List UInt8) (nms : List (List UInt8)) (T : TypeId) (V : Value) (f : Int) (x : CallD) (p : PartD) (w : World) (hR : Ready mx N b lv cv k0 nms p w) (hn3 : n ≤ 3) (S : Stack mx N b lv k0 nms n T V f) (A : Ass6 T f) (hF : FaceAt w T V f) (y : GoodX x mLoad) :
    Calls Tryz.prog 117 #[.iface T V, vCall x] w fun e w' => Does4 N b lv (dlv n f p x) w e w' := by
  have hw : wantF x.fMethod = 16 := by rw [y.hm]; rfl
  by_cases ho : offersF f 16 = true
  · rw [show dlv n f p x = lyDo n p x from if_pos (by rw [hw]; exact ho)]
    exact deliver4_ok mx N b lv cv k0 nms T V x _ p w hR fun W hb => (acc_Load mx N b n lv k0 nms T V x y.hm hn3 (meets_has A.save ho) (S.load ho x y) p cv W (hR.below hb)).mono fun e w' h => h
  · rw [show dlv n f p x = (p, ⟨1, 0, [], wantF x.fMethod, f⟩) from if_neg (by rw [hw]; exact ho)]
    exact deliver4_fail mx N b lv cv k0 nms T V f x p w hR hF fun W => accF_Load T V x W y.hm (meets_fails A.save ho)
theorem dlv_Save (mx : Int) (N b n : Nat) (lv cv : Value) (k0 : List UInt8) (nms : List (List UInt8)) (T : TypeId) (V : Value) (f : Int) (x : CallD) (p : PartD) (w : World) (hR : Ready mx N b lv cv k0 nms p w) (hn3 : n ≤ 3) (S : Stack mx N b lv k0 nms n T V f) (A : Ass6 T f) (hF : FaceAt w T V f) (y : GoodX x mSave) :
    Calls Tryz.prog 117 #[.iface T V, vCall x] w fun e w' => Does4 N b lv (dlv n f p x) w e w' := by
  have hw : wantF x.fMethod = 16 := by rw [y.hm]; rfl
  by_cases ho : offersF f 16 = true
  · rw [show dlv n f p x = lyDo n p x from if_pos (by rw [hw]; exact ho)]
    exact deliver4_ok mx N b lv cv k0 nms T V x _ p w hR fun W hb => (acc_Save mx N b n lv k0 nms T V x y.hm hn3 (meets_has A.save ho) (S.save ho x y) p cv W (hR.below hb)).mono fun e w' h => h
  · rw [show dlv n f p x = (p, ⟨1, 0, [], wantF x.fMethod, f⟩) from if_neg (by rw [hw]; exact ho)]
    exact deliver4_fail mx N b lv cv k0 nms T V f x p w hR hF fun W => accF_Save T V x W y.hm (meets_fails A.save ho)
theorem dlv_Heal (mx : Int) (N b n : Nat) (lv cv : Value) (k0 : List UInt8) (nms : List (List UInt8)) (T : TypeId) (V : Value) (f : Int) (x : CallD) (p : PartD) (w : World) (hR : Ready mx N b lv cv k0 nms p w) (hn3 : n ≤ 3) (S : Stack mx N b lv k0 nms n T V f) (A : Ass6 T f) (hF : FaceAt w T V f) (y : GoodX x mHeal) :
    Calls Tryz.prog 117 #[.iface T V, vCall x] w fun e w' => Does4 N b lv (dlv n f p x) w e w' := by
  have hw : wantF x.fMethod = 32 := by rw [y.hm]; rfl
  by_cases ho : offersF f 32 = true
  · rw [show dlv n f p x = lyDo n p x from if_pos (by rw [hw]; exact ho)]
    exact deliver4_ok mx N b lv cv k0 nms T V x _ p w hR fun W hb => (acc_Heal mx N b n lv k0 nms T V x y.hm hn3 (meets_has A.heal ho) (S.heal ho x y) p cv W (hR.below hb)).mono fun e w' h => h
  · rw [show dlv n f p x = (p, ⟨1, 0, [], wantF x.fMethod, f⟩) from if_neg (by rw [hw]; exact ho)]
    exact deliver4_fail mx N b lv cv k0 nms T V f x p w hR hF fun W => accF_Heal T V x W y.hm (meets_fails A.heal ho)
theorem dlv_c (mx : Int) (N b n : Nat) (lv cv : Value) (k0 : List UInt8) (nms : List (List UInt8)) (T : TypeId) (V : Value) (f : Int) (x : CallD) (p : PartD) (w : World) (hR : Ready mx N b lv cv k0 nms p w) (hn3 : n ≤ 3) (S : Stack mx N b lv k0 nms n T V f) (A : Ass6 T f) (hF : FaceAt w T V f) (hc : callB x = true) (hk : x.fKey.length ≤ 1048576) (ht : x.fText.length ≤ 1048576) :
    Calls Tryz.prog 117 #[.iface T V, vCall x] w fun e w' => Does4 N b lv (dlv n f p x) w e w' := by
  have hc2 := hc
  simp only [callB, Bool.and_eq_true, bne_iff_ne, ne_eq] at hc2
  have hw := hc2.1.1.1
  rcases meth_cases x.fMethod with hm | hm | hm | hm | hm | hm | hm | hm | hm | hm
  case inr.inr.inr.inr.inr.inr.inr.inr.inr => exact absurd hm.1 hw
  · exact dlv_Start mx N b n lv cv k0 nms T V f x p w hR hn3 S A hF ⟨hc, hk, ht, hm⟩
  · exact dlv_Stop mx N b n lv cv k0 nms T V f x p w hR hn3 S A hF ⟨hc, hk, ht, hm⟩
  · exact dlv_Get mx N b n lv cv k0 nms T V f x p w hR hn3 S A hF ⟨hc, hk, ht, hm⟩
  · exact dlv_Put mx N b n lv cv k0 nms T V f x p w hR hn3 S A hF ⟨hc, hk, ht, hm⟩
  · exact dlv_Tell mx N b n lv cv k0 nms T V f x p w hR hn3 S A hF ⟨hc, hk, ht, hm⟩
  · exact dlv_Hear mx N b n lv cv k0 nms T V f x p w hR hn3 S A hF ⟨hc, hk, ht, hm⟩
  · exact dlv_Load mx N b n lv cv k0 nms T V f x p w hR hn3 S A hF ⟨hc, hk, ht, hm⟩
  · exact dlv_Save mx N b n lv cv k0 nms T V f x p w hR hn3 S A hF ⟨hc, hk, ht, hm⟩
  · exact dlv_Heal mx N b n lv cv k0 nms T V f x p w hR hn3 S A hF ⟨hc, hk, ht, hm⟩
end Go.Proofs.YtcpbikilgacdlaaGreat
