/- Contracts of chapter 3: NewCore, the program's and the model's. -/
import Derived.Test.YtbofplofpggdlabCore3
import Derived.Test.YtbofplofpggdlabJoin
namespace Go.Proofs.Ytbofplofpggdlab
set_option linter.unusedVariables false
open Go.RowKit
def newCoreD (k : List UInt8) : CoreD := if 0 ≤ kindI k then ⟨k, false, false, [], 0⟩ else ⟨[], false, false, [], 0⟩
def GivesNew (k : List UInt8) (w : World) (e : Ending) (w' : World) : Prop := ∃ v, e = .returned (.tuple #[v, .bool (decide (0 ≤ kindI k))]) ∧ OwnsCore w' w.heap.size v (newCoreD k) ∧ Below w.heap.size w w'
theorem owns_zero (w : World) (B : Nat) (k : List UInt8) : OwnsCore w B (.agg #[.string ⟨k.toArray⟩, .bool false, .bool false, .slice none 0 0, .int .i64 0]) ⟨k, false, false, [], 0⟩ :=
  ⟨.slice none 0 0, rfl, rfl, Or.inl ⟨rfl, rfl⟩⟩
theorem newCoreD_yes {k : List UInt8} (h : decide (0 ≤ kindI k) = true) : newCoreD k = ⟨k, false, false, [], 0⟩ := if_pos (of_decide_eq_true h)
theorem newCoreD_no {k : List UInt8} (h : decide (0 ≤ kindI k) = false) : newCoreD k = ⟨[], false, false, [], 0⟩ := if_neg (of_decide_eq_false h)
theorem new_cells {f : FuncId} {args : Array Value} {k : List UInt8} {w : World} (h : Calls Try.prog f args w fun e w' => GivesNew k w e w') :
    Calls Try.prog f args w fun e w' => ∃ cv, e = .returned (.tuple #[vCore (newCoreD k) cv, .bool (decide (0 ≤ kindI k))]) ∧ OwnsF cCell 93 2 w' w.heap.size cv (newCoreD k).fCells ∧ Below w.heap.size w w' :=
  h.mono fun e w' ⟨v, h1, ⟨cv, h2, h3⟩, h4⟩ => ⟨cv, by rw [h1, h2], h3, h4⟩
set_option maxRecDepth 100000 in
set_option maxHeartbeats 1600000 in
theorem implNewCore_any (s : ByteArray) (w : World) (hs : s.size ≤ 1048576) :
    Calls Try.prog 47 #[.string s] w fun e w' => GivesNew s.data.toList w e w' := by
  have HK := Lib.hid (implKind_any s)
  have HC := Lib.hid (fun w0 => copyText_any s w0 (by omega))
  have HY := Lib.hid (@newCoreD_yes s.data.toList)
  have HN := Lib.hid (@newCoreD_no s.data.toList)
  have HS := Lib.hid (show (⟨s.data.toList.toArray⟩ : ByteArray) = s by simp)
  unfold GivesNew
  unfold kfV at HK
  generalize newCoreD s.data.toList = nc at *
  generalize kfI (kindI s.data.toList) = f at *
  generalize decide (0 ≤ kindI s.data.toList) = b at *
  generalize s.data.toList = l at *
  have hl := HS.out
  subst hl
  have HB0 := Lib.hid (show ∀ o, Below w.heap.size w (w.alloc o) from fun o => (Below.refl w.heap.size w).alloc (Nat.le_refl _) o)
  cases b with
  | false =>
    have HD := Lib.hid (HN.out rfl)
    go_enter Try.func47, Try.ntmps47
    go_wp2_with fail
    refine (HK.out _).mono ?_
    rintro e w1 ⟨rfl, rfl⟩
    go_wp2_with fail
    refine bodyPost_ret (v := .tuple #[.agg #[.string ⟨#[]⟩, .bool false, .bool false, .slice none 0 0, .int .i64 0], .bool false]) (by simp [results, Try.results47, go_sem]) rfl ⟨_, rfl, ?_, ?_⟩
    · rw [HD.out]; exact owns_zero _ _ []
    · first | exact HB0.out _ | (repeat (refine Below.setCell ?_ (by simp; try omega) _)
                                 exact HB0.out _)
  | true =>
    have HD := Lib.hid (HY.out rfl)
    go_enter Try.func47, Try.ntmps47
    go_wp2_with fail
    refine (HK.out _).mono ?_
    rintro e w1 ⟨rfl, rfl⟩
    go_wp2_with fail
    refine (HC.out _).mono ?_
    rintro e w1 ⟨rfl, hb⟩
    obtain ⟨hcc, hff⟩ := bcell hb
    simp at hcc hff
    have hsz := hb.size
    simp at hsz
    have HB := Lib.hid ((HB0.out _).trans (hb.mono (HB0.out _).size))
    clear hb
    go_wp2_with fail
    refine bodyPost_ret (v := .tuple #[.agg #[.string ⟨l.toArray⟩, .bool false, .bool false, .slice none 0 0, .int .i64 0], .bool true]) (by simp [results, Try.results47, go_sem, hcc]) rfl ⟨_, rfl, ?_, ?_⟩
    · rw [HD.out]; exact owns_zero _ _ l
    · repeat (refine Below.setCell ?_ (by simp; try omega) _)
      exact HB.out
set_option maxRecDepth 100000 in
set_option maxHeartbeats 1600000 in
theorem specNewCore_any (s : ByteArray) (w : World) (hs : s.size ≤ 1048576) :
    Calls Try.prog 46 #[.string s] w fun e w' => GivesNew s.data.toList w e w' := by
  have HK := Lib.hid (specKind_any s)
  have HY := Lib.hid (@newCoreD_yes s.data.toList)
  have HN := Lib.hid (@newCoreD_no s.data.toList)
  have HS := Lib.hid (show (⟨s.data.toList.toArray⟩ : ByteArray) = s by simp)
  unfold GivesNew
  unfold kfV at HK
  generalize newCoreD s.data.toList = nc at *
  generalize kfI (kindI s.data.toList) = f at *
  generalize decide (0 ≤ kindI s.data.toList) = b at *
  generalize s.data.toList = l at *
  have hl := HS.out
  subst hl
  have HB0 := Lib.hid (show ∀ o, Below w.heap.size w (w.alloc o) from fun o => (Below.refl w.heap.size w).alloc (Nat.le_refl _) o)
  cases b with
  | false =>
    have HD := Lib.hid (HN.out rfl)
    go_enter Try.func46, Try.ntmps46
    go_wp2_with fail
    refine (HK.out _).mono ?_
    rintro e w1 ⟨rfl, hb⟩
    obtain ⟨hcc, hff⟩ := bcell hb
    simp at hcc hff
    have hsz := hb.size
    simp at hsz
    have HB := Lib.hid ((HB0.out _).trans (hb.mono (HB0.out _).size))
    clear hb
    go_wp2_with fail
    refine bodyPost_ret (v := .tuple #[.agg #[.string ⟨#[]⟩, .bool false, .bool false, .slice none 0 0, .int .i64 0], .bool false]) (by simp [results, Try.results46, go_sem, hcc]) rfl ⟨_, rfl, ?_, ?_⟩
    · rw [HD.out]; exact owns_zero _ _ []
    · repeat (refine Below.setCell ?_ (by simp; try omega) _)
      exact HB.out
  | true =>
    have HD := Lib.hid (HY.out rfl)
    go_enter Try.func46, Try.ntmps46
    go_wp2_with fail
    refine (HK.out _).mono ?_
    rintro e w1 ⟨rfl, hb⟩
    obtain ⟨hcc, hff⟩ := bcell hb
    simp at hcc hff
    have hsz := hb.size
    simp at hsz
    have HB := Lib.hid ((HB0.out _).trans (hb.mono (HB0.out _).size))
    clear hb
    go_wp2_with fail
    refine bodyPost_ret (v := .tuple #[.agg #[.string ⟨l.toArray⟩, .bool false, .bool false, .slice none 0 0, .int .i64 0], .bool true]) (by simp [results, Try.results46, go_sem, hcc]) rfl ⟨_, rfl, ?_, ?_⟩
    · rw [HD.out]; exact owns_zero _ _ l
    · repeat (refine Below.setCell ?_ (by simp; try omega) _)
      exact HB.out
end Go.Proofs.Ytbofplofpggdlab
