/- FormatCall, plain. Written by gen/ch3fmt.py. -/
import Derived.Test.YtmgfokikkhfibabCall2
import Derived.Test.YtmgfokikkhfibabSplitP
namespace Go.Proofs.Ytmgfokikkhfibab
set_option linter.unusedVariables false
open Go.RowKit
/-- the words of a call -/
def wordsC (d : CallD) : List (List UInt8) := [d.fMethod] ++ (if takesK d.fMethod then [d.fKey] else []) ++ (if takesV d.fMethod then [numL d.fValue] else []) ++ (if takesT d.fMethod then [d.fText] else [])
def fmtCall (d : CallD) : List UInt8 := if callB d = true then joinL (wordsC d) [32] else []
theorem fmtCall_no {d : CallD} (h : callB d = false) : fmtCall d = [] := if_neg (by simp [h])
theorem fmtCall_yes {d : CallD} (h : callB d = true) : fmtCall d = joinL (wordsC d) [32] := if_pos h
theorem join3_len (a b c : List UInt8) : (joinL [a, b, c] [32]).length = a.length + b.length + c.length + 2 := by
  rw [joinL_cons a [b, c] [32] (by simp), joinL_two]; simp; omega
theorem join2_len (a b : List UInt8) : (joinL [a, b] [32]).length = a.length + b.length + 1 := by rw [joinL_two]; simp; omega
/-- what a valid call's fields are -/
theorem callB_parts {d : CallD} (h : callB d = true) : (takesK d.fMethod = true → nameB d.fKey = true) ∧ (takesK d.fMethod = false → d.fKey = []) ∧ (takesV d.fMethod = true → numB d.fValue = true) ∧ (takesV d.fMethod = false → d.fValue = 0) ∧ (takesT d.fMethod = false → d.fText = []) := by
  simp only [callB, Bool.and_eq_true] at h
  obtain ⟨⟨⟨h1, h2⟩, h3⟩, h4⟩ := h
  refine ⟨fun e => ?_, fun e => ?_, fun e => ?_, fun e => ?_, fun e => ?_⟩
  · rw [e] at h2; exact h2
  · rw [e] at h2; exact List.isEmpty_iff.1 h2
  · rw [e] at h3; exact h3
  · rw [e] at h3; exact beq_iff_eq.1 h3
  · rw [e] at h4; simpa using h4
end Go.Proofs.Ytmgfokikkhfibab
