/-
  FnExactMixDrops: program and model answer the same to every shelf. No condition.
-/
import Derived.Test.YtigpiogljfedpaaGMixDropsD
set_option linter.unusedSectionVars false
set_option linter.unusedVariables false
set_option linter.unusedSimpArgs false
noncomputable section
namespace Go.Proofs.Ytigpiogljfedpaa.fnExactMixDrops
open Go Go.ChangeShapes Go.WideShapes Go.ChangeAt Go.RowKit Go.Deep Ev Sx

theorem no1 : no 1 = true := by kernel_rfl
theorem no2 : no 2 = true := by kernel_rfl
theorem no3 : no 3 = true := by kernel_rfl
theorem no4 : no 4 = true := by kernel_rfl
theorem no5 : no 5 = true := by kernel_rfl
theorem no6 : no 6 = true := by kernel_rfl
end Go.Proofs.Ytigpiogljfedpaa.fnExactMixDrops
end
