/-
  Films of valid layers: program and model answer the same. No condition.
-/
import Derived.Test.YtfgomdngffaffaaEg
set_option linter.unusedSectionVars false
set_option linter.unusedVariables false
noncomputable section
namespace Go.Proofs.Ytfgomdngffaffaa
namespace Fg
open Go Go.ChangeShapes Go.WideShapes Go.ChangeAt Go.RowKit Ev Sx
def LS : List SV := (List.range 33).map fun j => .f .f32 (j + 2)
def us : List Nat := [25, 39, 50, 47, 55, 41, 61, 58, 33]
def cA : Job := ⟨25, [.ptr 0 0], [some LS]⟩
def jA : Job := ⟨39, [.ptr 0 0], [some LS]⟩
def jB : Job := ⟨50, [.agg LS], []⟩
theorem f_run : @pair3B noSFrn noSFrn Try.prog symE (symG Try.prog) us 300 30 [(cA, true)] symE (symG Try.prog) us 300 30 33 [] [] jA jB [.agg (List.replicate 48 (.f .f32)), .one (.n .i64)] = true := by kernel_rfl
def kB : Job := ⟨41, [.agg LS], []⟩
theorem k_run : @pair2B noSFrn Try.prog symE (symG Try.prog) us 300 30 33 [] [] cA kB [.one .b] = true := by kernel_rfl
end Fg
end Go.Proofs.Ytfgomdngffaffaa
end
