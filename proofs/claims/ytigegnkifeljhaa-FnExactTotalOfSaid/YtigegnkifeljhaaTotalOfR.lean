/-
  Works of up to 6 batches, as variables: program and model answer alike how much is ordered (the runs). No condition.
-/
import Derived.Test.YtigegnkifeljhaaWq
set_option linter.unusedSectionVars false
noncomputable section
namespace Go.Proofs.Ytigegnkifeljhaa.fnExactTotalOf
open Go Go.ChangeShapes Go.WideShapes Go.ChangeAt Go.RowKit Ev Sx

def K8 : List CK := List.replicate 8 (.i .i64)
def ps : List Par := [.agg (List.replicate 8 (.n .i64)), .one (.n .i64)]
/-! ### few batches: the runs -/
def us : List Nat := [22, 23, 58, 18, 68, 88, 114, 115, 60, 62, 63, 119, 120, 121, 122, 149]
theorem usOk : us.all (funcOk Try.prog) = true := by kernel_rfl
def run (n : Nat) : Bool := wkRun us 22 23 ps n
theorem run0 : run 0 = true := by kernel_rfl
theorem run1 : run 1 = true := by kernel_rfl
theorem run2 : run 2 = true := by kernel_rfl
theorem run3 : run 3 = true := by kernel_rfl
theorem run4 : run 4 = true := by kernel_rfl
theorem run5 : run 5 = true := by kernel_rfl
theorem run6 : run 6 = true := by kernel_rfl
theorem runs {n : Nat} (h : n ≤ 6) : run n = true := by
  match n, h with
  | 0, _ => exact run0
  | 1, _ => exact run1
  | 2, _ => exact run2
  | 3, _ => exact run3
  | 4, _ => exact run4
  | 5, _ => exact run5
  | 6, _ => exact run6
end Go.Proofs.Ytigegnkifeljhaa.fnExactTotalOf
end
