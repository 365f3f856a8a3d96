import Derived.Test.YtfgomdngffaffaaEg
set_option linter.unusedSectionVars false
set_option linter.unusedVariables false
noncomputable section
namespace Go.Proofs.Ytfgomdngffaffaa
namespace Fo
open Go Go.ChangeShapes Go.WideShapes Go.ChangeAt Go.RowKit Ev Sx
def F48 : List SV := (List.range 48).map fun j => .f .f32 (j + 2)
def B16 : List SV := (List.range 16).map fun j => .f .f32 (j + 50)
def us : List Nat := [59, 51, 56, 69, 63, 64, 73]
def jA : Job := ⟨59, [.ptr 0 0, .agg B16], [some F48]⟩
def jB : Job := ⟨51, [.agg F48, .agg B16], []⟩
theorem o_run : @pair2B noSFrn Try.prog symE (symG Try.prog) us 300 30 64 [] [] jA jB [.agg (List.replicate 16 (.f .f32)), .one (.n .i64)] = true := by kernel_rfl
end Fo
end Go.Proofs.Ytfgomdngffaffaa
end
