/- Layer: what the laws' own helpers do with it. Written by gen/flat.py. -/
import Derived.Test.YtbofplofpggdladFlat
import Derived.StillTailTactics
namespace Go.Proofs.Ytbofplofpggdlad
set_option linter.unusedVariables false
open Go.RowKit
structure LayerD where
  fName : List UInt8
  fCount : Int
deriving DecidableEq
def okLayer (d : LayerD) : Prop := (d.fName.length ≤ maxLen) ∧ (-9223372036854775808 ≤ d.fCount ∧ d.fCount ≤ 9223372036854775807)
def vLayer (d : LayerD) : Value := .agg #[.string ⟨d.fName.toArray⟩, .int .i64 d.fCount]
def cLayer (d : LayerD) : List Value := [.string ⟨d.fName.toArray⟩, .int .i64 d.fCount]
theorem cLayer_len (d : LayerD) : (cLayer d).length = 2 := rfl
theorem cLayer_one (d : LayerD) : ∀ u ∈ cLayer d, u.oneCell' = true := by intro u hu; simp only [cLayer, List.mem_cons, List.not_mem_nil, or_false] at hu; rcases hu with rfl | rfl <;> rfl
def zLayer (d : LayerD) : Nat := d.fName.length
theorem infoLayer : (Try.prog.info? 91).map (fun i => (i.zero, i.size, i.bytes)) = some (some (.agg #[.string ⟨#[]⟩, .int .i64 0]), 2, 24) := by kernel_rfl
def marksLayer (k : Int) (n : Nat) : List LayerD := (List.range n).map fun i : Nat => ⟨markL (k + i * 2), k + i * 2 + 1⟩
theorem marksLayer_len (k : Int) (n : Nat) : (marksLayer k n).length = n := by simp [marksLayer]
theorem marksLayer_get (k : Int) (n i : Nat) (h : i < n) : (marksLayer k n)[i]'(by rw [marksLayer_len]; exact h) = ⟨markL (k + i * 2), k + i * 2 + 1⟩ := by simp [marksLayer]
end Go.Proofs.Ytbofplofpggdlad
