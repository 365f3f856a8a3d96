/-
  Films of layers that lie in memory that came in: a run. No condition.
-/
import Derived.Test.YtfgomdngffaffaaFk
set_option linter.unusedSectionVars false
set_option linter.unusedVariables false
noncomputable section
namespace Go.Proofs.Ytfgomdngffaffaa
namespace Fh
open Go Go.ChangeShapes Go.WideShapes Go.ChangeAt Go.RowKit Ev Sx
def us : List Nat := [39, 55]
abbrev gF : SFrn := ⟨fun k => bif Nat.beq k 0 then LSn 33 else [], fun _ => none⟩
def jA : Job := ⟨39, [.lit (.pointer (some ⟨0, 0, some 0⟩))], []⟩
theorem f_run : @pair2B gF Try.prog [] symKc us 300 30 33 [] [] jA jA [.agg (List.replicate 48 (.f .f32)), .one (.n .i64)] = true := by kernel_rfl
end Fh
end Go.Proofs.Ytfgomdngffaffaa
end
