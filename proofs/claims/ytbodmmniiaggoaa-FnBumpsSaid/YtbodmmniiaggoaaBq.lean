/-
  FnBumps: runs at literal places, widths and lights: the second half at all lights. No condition.
-/
import Derived.Test.YtbodmmniiaggoaaBf
set_option linter.unusedSectionVars false
set_option linter.unusedVariables false
noncomputable section
namespace Go.Proofs.Ytbodmmniiaggoaa
open Go Ev

theorem c2_0 (base : Nat) (ts : Toks) (p w l c : Nat) (j : J) (x : Nat → Option (List Value)) : ansB (run2 base ts p w 0 l c j x) = true := by kernel_rfl
theorem c2_1 (base : Nat) (ts : Toks) (p w l c : Nat) (j : J) (x : Nat → Option (List Value)) : ansB (run2 base ts p w 1 l c j x) = true := by kernel_rfl
theorem c2_2 (base : Nat) (ts : Toks) (p w l c : Nat) (j : J) (x : Nat → Option (List Value)) : ansB (run2 base ts p w 2 l c j x) = true := by kernel_rfl
theorem c2_3 (base : Nat) (ts : Toks) (p w l c : Nat) (j : J) (x : Nat → Option (List Value)) : ansB (run2 base ts p w 3 l c j x) = true := by kernel_rfl
theorem c2_4 (base : Nat) (ts : Toks) (p w l c : Nat) (j : J) (x : Nat → Option (List Value)) : ansB (run2 base ts p w 4 l c j x) = true := by kernel_rfl
theorem c2_5 (base : Nat) (ts : Toks) (p w l c : Nat) (j : J) (x : Nat → Option (List Value)) : ansB (run2 base ts p w 5 l c j x) = true := by kernel_rfl
theorem c2_6 (base : Nat) (ts : Toks) (p w l c : Nat) (j : J) (x : Nat → Option (List Value)) : ansB (run2 base ts p w 6 l c j x) = true := by kernel_rfl
theorem c2_7 (base : Nat) (ts : Toks) (p w l c : Nat) (j : J) (x : Nat → Option (List Value)) : ansB (run2 base ts p w 7 l c j x) = true := by kernel_rfl
theorem c2_8 (base : Nat) (ts : Toks) (p w l c : Nat) (j : J) (x : Nat → Option (List Value)) : ansB (run2 base ts p w 8 l c j x) = true := by kernel_rfl
theorem c2_9 (base : Nat) (ts : Toks) (p w l c : Nat) (j : J) (x : Nat → Option (List Value)) : ansB (run2 base ts p w 9 l c j x) = true := by kernel_rfl
theorem c2_10 (base : Nat) (ts : Toks) (p w l c : Nat) (j : J) (x : Nat → Option (List Value)) : ansB (run2 base ts p w 10 l c j x) = true := by kernel_rfl
theorem c2_11 (base : Nat) (ts : Toks) (p w l c : Nat) (j : J) (x : Nat → Option (List Value)) : ansB (run2 base ts p w 11 l c j x) = true := by kernel_rfl
theorem c2_12 (base : Nat) (ts : Toks) (p w l c : Nat) (j : J) (x : Nat → Option (List Value)) : ansB (run2 base ts p w 12 l c j x) = true := by kernel_rfl
theorem c2_13 (base : Nat) (ts : Toks) (p w l c : Nat) (j : J) (x : Nat → Option (List Value)) : ansB (run2 base ts p w 13 l c j x) = true := by kernel_rfl
theorem c2_14 (base : Nat) (ts : Toks) (p w l c : Nat) (j : J) (x : Nat → Option (List Value)) : ansB (run2 base ts p w 14 l c j x) = true := by kernel_rfl
theorem c2_15 (base : Nat) (ts : Toks) (p w l c : Nat) (j : J) (x : Nat → Option (List Value)) : ansB (run2 base ts p w 15 l c j x) = true := by kernel_rfl
end Go.Proofs.Ytbodmmniiaggoaa
end
