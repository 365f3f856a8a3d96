/-
  FnBumps: runs at literal places, widths and lights: the first half at the places 0 to 3. No condition.
-/
import Derived.Test.YtbodmmniiaggoaaBf
set_option linter.unusedSectionVars false
set_option linter.unusedVariables false
noncomputable section
namespace Go.Proofs.Ytbodmmniiaggoaa
open Go Ev

theorem c1_0 (base : Nat) (ts : Toks) (q l c l' c' : Nat) : ((List.range 16).all fun w => case1 base ts q l c l' c' 0 w) = true := by kernel_rfl
theorem c1_1 (base : Nat) (ts : Toks) (q l c l' c' : Nat) : ((List.range 16).all fun w => case1 base ts q l c l' c' 1 w) = true := by kernel_rfl
theorem c1_2 (base : Nat) (ts : Toks) (q l c l' c' : Nat) : ((List.range 16).all fun w => case1 base ts q l c l' c' 2 w) = true := by kernel_rfl
theorem c1_3 (base : Nat) (ts : Toks) (q l c l' c' : Nat) : ((List.range 16).all fun w => case1 base ts q l c l' c' 3 w) = true := by kernel_rfl
end Go.Proofs.Ytbodmmniiaggoaa
end
