/-
  FnBumps: runs at literal places, widths and lights: the first half at the places 4 to 7. No condition.
-/
import Derived.Test.YtbodmmniiaggoaaBf
set_option linter.unusedSectionVars false
set_option linter.unusedVariables false
noncomputable section
namespace Go.Proofs.Ytbodmmniiaggoaa
open Go Ev

theorem c1_4 (base : Nat) (ts : Toks) (q l c l' c' : Nat) : ((List.range 16).all fun w => case1 base ts q l c l' c' 4 w) = true := by kernel_rfl
theorem c1_5 (base : Nat) (ts : Toks) (q l c l' c' : Nat) : ((List.range 16).all fun w => case1 base ts q l c l' c' 5 w) = true := by kernel_rfl
theorem c1_6 (base : Nat) (ts : Toks) (q l c l' c' : Nat) : ((List.range 16).all fun w => case1 base ts q l c l' c' 6 w) = true := by kernel_rfl
theorem c1_7 (base : Nat) (ts : Toks) (q l c l' c' : Nat) : ((List.range 16).all fun w => case1 base ts q l c l' c' 7 w) = true := by kernel_rfl
end Go.Proofs.Ytbodmmniiaggoaa
end
