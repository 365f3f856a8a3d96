/-
  FnBumps: runs at literal places, widths and lights: the first half at the places 12 to 15. No condition.
-/
import Derived.Test.YtbodmmniiaggoaaBf
set_option linter.unusedSectionVars false
set_option linter.unusedVariables false
noncomputable section
namespace Go.Proofs.Ytbodmmniiaggoaa
open Go Ev

theorem c1_12 (base : Nat) (ts : Toks) (q l c l' c' : Nat) : ((List.range 16).all fun w => case1 base ts q l c l' c' 12 w) = true := by kernel_rfl
theorem c1_13 (base : Nat) (ts : Toks) (q l c l' c' : Nat) : ((List.range 16).all fun w => case1 base ts q l c l' c' 13 w) = true := by kernel_rfl
theorem c1_14 (base : Nat) (ts : Toks) (q l c l' c' : Nat) : ((List.range 16).all fun w => case1 base ts q l c l' c' 14 w) = true := by kernel_rfl
theorem c1_15 (base : Nat) (ts : Toks) (q l c l' c' : Nat) : ((List.range 16).all fun w => case1 base ts q l c l' c' 15 w) = true := by kernel_rfl
end Go.Proofs.Ytbodmmniiaggoaa
end
