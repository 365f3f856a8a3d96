/-
  Contrasts of layers: the runs. No condition.
-/
import Derived.Test.YtfgomdngffaffaaCv
set_option linter.unusedSectionVars false
set_option linter.unusedVariables false
noncomputable section
namespace Go.Proofs.Ytfgomdngffaffaa
namespace Ct
open Go Go.ChangeShapes Go.WideShapes Go.ChangeAt Go.RowKit Ev Sx
theorem n_run : @pair3B noSFrn noSFrn Try.prog symE (symG Try.prog) Fg.us 300 30 [(Fg.cA, false)] [] symKc usN 300 30 33 [] [] jA jB qsE = true := by kernel_rfl
theorem c_run : @pair3B noSFrn gC Try.prog symE (symG Try.prog) Fg.us 300 30 [(Fg.cA, true)] [] symC usC 300 30 33 [] [] jA jB qsE = true := by kernel_rfl
end Ct
end Go.Proofs.Ytfgomdngffaffaa
end
