/-
  FnBumps: runs at literal places, widths and lights: the first half at the places 8 to 11. No condition.
-/
import Derived.Test.YtbodmmniiaggoaaBf
set_option linter.unusedSectionVars false
set_option linter.unusedVariables false
noncomputable section
namespace Go.Proofs.Ytbodmmniiaggoaa
open Go Ev

theorem c1_8 (base : Nat) (ts : Toks) (q l c l' c' : Nat) : ((List.range 16).all fun w => case1 base ts q l c l' c' 8 w) = true := by kernel_rfl
theorem c1_9 (base : Nat) (ts : Toks) (q l c l' c' : Nat) : ((List.range 16).all fun w => case1 base ts q l c l' c' 9 w) = true := by kernel_rfl
theorem c1_10 (base : Nat) (ts : Toks) (q l c l' c' : Nat) : ((List.range 16).all fun w => case1 base ts q l c l' c' 10 w) = true := by kernel_rfl
theorem c1_11 (base : Nat) (ts : Toks) (q l c l' c' : Nat) : ((List.range 16).all fun w => case1 base ts q l c l' c' 11 w) = true := by kernel_rfl
end Go.Proofs.Ytbodmmniiaggoaa
end
