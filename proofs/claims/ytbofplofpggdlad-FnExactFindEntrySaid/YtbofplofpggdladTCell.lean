/- Cell: what the laws' own helpers do with it. Written by gen/flat.py. -/
import Derived.Test.YtbofplofpggdladFlat
import Derived.StillTailTactics
namespace Go.Proofs.Ytbofplofpggdlad
set_option linter.unusedVariables false
open Go.RowKit
structure CellD where
  fKey : List UInt8
  fValue : Int
deriving DecidableEq
def okCell (d : CellD) : Prop := (d.fKey.length ≤ maxLen) ∧ (-9223372036854775808 ≤ d.fValue ∧ d.fValue ≤ 9223372036854775807)
def vCell (d : CellD) : Value := .agg #[.string ⟨d.fKey.toArray⟩, .int .i64 d.fValue]
def cCell (d : CellD) : List Value := [.string ⟨d.fKey.toArray⟩, .int .i64 d.fValue]
theorem cCell_len (d : CellD) : (cCell d).length = 2 := rfl
theorem cCell_one (d : CellD) : ∀ u ∈ cCell d, u.oneCell' = true := by intro u hu; simp only [cCell, List.mem_cons, List.not_mem_nil, or_false] at hu; rcases hu with rfl | rfl <;> rfl
def zCell (d : CellD) : Nat := d.fKey.length
theorem infoCell : (Try.prog.info? 119).map (fun i => (i.zero, i.size, i.bytes)) = some (some (.agg #[.string ⟨#[]⟩, .int .i64 0]), 2, 24) := by kernel_rfl
def marksCell (k : Int) (n : Nat) : List CellD := (List.range n).map fun i : Nat => ⟨markL (k + i * 2), k + i * 2 + 1⟩
theorem marksCell_len (k : Int) (n : Nat) : (marksCell k n).length = n := by simp [marksCell]
theorem marksCell_get (k : Int) (n i : Nat) (h : i < n) : (marksCell k n)[i]'(by rw [marksCell_len]; exact h) = ⟨markL (k + i * 2), k + i * 2 + 1⟩ := by simp [marksCell]
end Go.Proofs.Ytbofplofpggdlad
