/-
  FnExactMixDrops: program and model answer the same to every shelf. No condition.
-/
import Derived.Test.YtigpiogljfedpaaGMixDropsD
set_option linter.unusedSectionVars false
set_option linter.unusedVariables false
set_option linter.unusedSimpArgs false
noncomputable section
namespace Go.Proofs.Ytigpiogljfedpaa.fnExactMixDrops
open Go Go.ChangeShapes Go.WideShapes Go.ChangeAt Go.RowKit Go.Deep Ev Sx

theorem go1 : go 1 = true := by kernel_rfl
theorem go2 : go 2 = true := by kernel_rfl
theorem go3 : go 3 = true := by kernel_rfl
end Go.Proofs.Ytigpiogljfedpaa.fnExactMixDrops
end
