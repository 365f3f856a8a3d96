/-
  Films over backings, the film lying in memory that came in: program and model answer the same; whether a layer is valid. No condition.
-/
import Derived.Test.YtfgomdngffaffaaFk
set_option linter.unusedSectionVars false
set_option linter.unusedVariables false
noncomputable section
namespace Go.Proofs.Ytfgomdngffaffaa
namespace Fp
open Go Go.ChangeShapes Go.WideShapes Go.ChangeAt Go.RowKit Ev Sx
def B16 : List SV := (List.range 16).map fun j => .f .f32 (j + 50)
def us : List Nat := [59, 51, 56, 69, 63, 64, 73]
abbrev gF : SFrn := ⟨fun k => bif Nat.beq k 0 then LSn 48 else [], fun _ => none⟩
def jA : Job := ⟨59, [.lit (.pointer (some ⟨0, 0, some 0⟩)), .agg B16], []⟩
def jB : Job := ⟨51, [.agg (LSn 48), .agg B16], []⟩
theorem o_run : @pair2B gF Try.prog [] symKc us 300 30 64 [] [] jA jB [.agg (List.replicate 16 (.f .f32)), .one (.n .i64)] = true := by kernel_rfl
/-! ### is a layer valid? -/
def usK : List Nat := [25, 41, 47, 33, 58]
abbrev gK : SFrn := ⟨fun k => bif Nat.beq k 0 then LSn 33 else [], fun _ => none⟩
def kF : Job := ⟨25, [.lit (.pointer (some ⟨0, 0, some 0⟩))], []⟩
def kB : Job := ⟨41, [.agg (LSn 33)], []⟩
theorem k_run : @pair2B gK Try.prog [] symKc usK 300 30 33 [] [] kF kB [.one .b] = true := by kernel_rfl
end Fp
end Go.Proofs.Ytfgomdngffaffaa
end
