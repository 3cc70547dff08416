/- Contracts of chapter 3: the program's ParseCells. -/
import Derived.Test.YtmgfokikkhfibaaCells5
namespace Go.Proofs.Ytmgfokikkhfibaa
set_option linter.unusedVariables false
open Go.RowKit
def GivesCells (s : List UInt8) (w : World) (e : Ending) (w' : World) : Prop := ∃ v, e = .returned (.tuple #[v, .bool (prsB s)]) ∧ OwnsF cCell 53 2 w' w.heap.size v (prsC s) ∧ Below w.heap.size w w'
theorem rdCs_len (s : List UInt8) : (rdCs s).length ≤ s.length + 1 := by
  unfold rdCs
  split
  · simp
  · have := splitL_len s [44]; simpa using this
theorem rdCs_key (s : List UInt8) : ∀ d ∈ rdCs s, d.fKey.length ≤ s.length := by
  intro d hd
  unfold rdCs at hd
  split at hd
  · simp at hd
  · obtain ⟨p, hp, rfl⟩ := List.mem_map.1 hd
    have h1 := split_part s 44 p hp
    have h2 := (cut_len p [61]).1
    unfold rdC; simp only; omega
theorem prsC_len (s : List UInt8) : (prsC s).length ≤ s.length + 1 := by
  unfold prsC
  split
  · exact rdCs_len s
  · simp
theorem ret_pairV {v : Value} {c d : Bool} (h : c = d) : Ending.returned (.tuple #[v, .bool c]) = .returned (.tuple #[v, .bool d]) := by rw [h]
set_option maxRecDepth 100000 in
set_option maxHeartbeats 1600000 in
theorem implParseCells_any (s : ByteArray) (m : Int) (w : World) (hm : w.cell? ⟨0, 0, none⟩ = some (.int .i64 m)) (hs : s.size ≤ 1048576) :
    Calls Try.prog 19 #[.string s] w fun e w' => GivesCells s.data.toList w e w' := by
  have HR := Lib.hid (implReadCells_any s m w hm hs)
  have HLN := Lib.hid (show (rdCs s.data.toList).length ≤ 1048577 by have := rdCs_len s.data.toList; rw [size_list] at this; omega)
  have HK := Lib.hid (show ∀ d ∈ rdCs s.data.toList, d.fKey.length ≤ maxLen from fun d hd => by have := rdCs_key _ d hd; rw [size_list] at this; unfold maxLen; omega)
  have HP := Lib.hid (show prsB s.data.toList = (cellsB (rdCs s.data.toList) && decide (fmtC (rdCs s.data.toList) = s.data.toList)) from rfl)
  have HY := Lib.hid (@prsC_yes s.data.toList)
  have HN := Lib.hid (@prsC_no s.data.toList)
  unfold GivesCells
  generalize prsC s.data.toList = z at *
  generalize prsB s.data.toList = y at *
  generalize rdCs s.data.toList = l at *
  clear hm
  cases hc : cellsB l with
  | false =>
    have HYF := Lib.hid (show y = false by rw [HP.out, hc]; rfl)
    have HZ := Lib.hid (HN.out HYF.out)
    go_enter Try.func19, Try.ntmps19
    go_wp2_with fail
    refine HR.out.mono ?_
    rintro e w1 ⟨u, rfl, ho, hb⟩
    have HB := Lib.hid hb
    have HIC := Lib.hid (implIsCells_any u l w1 (ownsF_at ho (by have := HLN.out; omega)) HK.out)
    rw [hc] at HIC
    clear ho hb hc
    go_wp2_with fail
    refine HIC.out.mono ?_
    rintro e w2 ⟨rfl, hb⟩
    have HB2 := Lib.hid (HB.out.trans (hb.mono HB.out.size))
    clear hb
    go_wp2_with fail
    go_ret2
    exact ⟨_, ret_pairV HYF.out.symm, by rw [HZ.out]; exact ownsF_base (ownsF_new cCell 53 2 w2) HB2.out.size, HB2.out.alloc HB2.out.size _⟩
  | true =>
    cases hf : decide (fmtC l = s.data.toList) with
    | false =>
      have HYF := Lib.hid (show y = false by rw [HP.out, hc, hf]; rfl)
      have HZ := Lib.hid (HN.out HYF.out)
      have hne : (fmtC l == s.toList) = false := by rw [Lib.toList_data]; simpa using hf
      have hne2 : (fmtC l != s.toList) = true := by rw [bne, hne]; rfl
      clear hf
      go_enter Try.func19, Try.ntmps19
      go_wp2_with fail
      refine HR.out.mono ?_
      rintro e w1 ⟨u, rfl, ho, hb⟩
      have HB := Lib.hid hb
      have HU := Lib.hid (ownsF_at ho (by have := HLN.out; omega))
      have HIC := Lib.hid (implIsCells_any u l w1 HU.out HK.out)
      rw [hc] at HIC
      clear ho hb hc
      go_wp2_with fail
      refine HIC.out.mono ?_
      rintro e w2 ⟨rfl, hb⟩
      have HB2 := Lib.hid (HB.out.trans (hb.mono HB.out.size))
      have HFC := Lib.hid (implFormatCells_any u l w2 (HU.out.below hb (Nat.le_refl _)) HK.out)
      clear hb
      go_wp2_with fail
      refine HFC.out.mono ?_
      rintro e w3 ⟨rfl, hb⟩
      have HB3 := Lib.hid (HB2.out.trans (hb.mono HB2.out.size))
      clear hb
      go_wp2_with fail
      go_ret2
      exact ⟨_, ret_pairV HYF.out.symm, by rw [HZ.out]; exact ownsF_base (ownsF_new cCell 53 2 w3) HB3.out.size, HB3.out.alloc HB3.out.size _⟩
    | true =>
      have HYF := Lib.hid (show y = true by rw [HP.out, hc, hf]; rfl)
      have HZ := Lib.hid (HY.out HYF.out)
      have hne : (fmtC l == s.toList) = true := by rw [Lib.toList_data]; simpa using hf
      have hne2 : (fmtC l != s.toList) = false := by rw [bne, hne]; rfl
      clear hf
      go_enter Try.func19, Try.ntmps19
      go_wp2_with fail
      refine HR.out.mono ?_
      rintro e w1 ⟨u, rfl, ho, hb⟩
      have HB := Lib.hid hb
      have HO := Lib.hid ho
      have HU := Lib.hid (ownsF_at ho (by have := HLN.out; omega))
      have HIC := Lib.hid (implIsCells_any u l w1 HU.out HK.out)
      rw [hc] at HIC
      clear ho hb hc
      go_wp2_with fail
      refine HIC.out.mono ?_
      rintro e w2 ⟨rfl, hb⟩
      have HB2 := Lib.hid (HB.out.trans (hb.mono HB.out.size))
      have HO2 := Lib.hid (ownsF_below HO.out hb (Nat.le_refl _))
      have HFC := Lib.hid (implFormatCells_any u l w2 (HU.out.below hb (Nat.le_refl _)) HK.out)
      clear hb
      go_wp2_with fail
      refine HFC.out.mono ?_
      rintro e w3 ⟨rfl, hb⟩
      have HB3 := Lib.hid (HB2.out.trans (hb.mono HB2.out.size))
      have HO3 := Lib.hid (ownsF_below HO2.out hb (Nat.le_refl _))
      clear hb
      go_wp2_with fail
      go_ret2
      exact ⟨_, ret_pairV HYF.out.symm, by rw [HZ.out]; exact HO3.out, HB3.out⟩
end Go.Proofs.Ytmgfokikkhfibaa
