/-
  FnExactMixDrops: program and model answer the same to every shelf. No condition.
-/
import Derived.Test.YtigpiogljfedpaaGMixDropsD
set_option linter.unusedSectionVars false
set_option linter.unusedVariables false
set_option linter.unusedSimpArgs false
noncomputable section
namespace Go.Proofs.Ytigpiogljfedpaa.fnExactMixDrops
open Go Go.ChangeShapes Go.WideShapes Go.ChangeAt Go.RowKit Go.Deep Ev Sx

theorem go6 : go 6 = true := by kernel_rfl
end Go.Proofs.Ytigpiogljfedpaa.fnExactMixDrops
end
