/-
  FnExactValidSamples: at every list of samples the function answers as its model, and the list reads afterwards as before. No condition.
-/
import Derived.Test.YtobajdokfkimdaaKc
set_option linter.unusedSectionVars false
noncomputable section
namespace Go.Proofs.Ytobajdokfkimdaa.fnExactValidSamples
open Go Go.ChangeShapes Go.WideShapes Go.ChangeAt Go.RowKit Ev
theorem same_ans : SameAns 23 25 := fun l cs hb hl _ =>
  ⟨Sm.vS cs l, Sm.w_ans hb hl, Sm.i_ans hb hl⟩
theorem over : Rows.fnExactValidSamplesRow.holds Try.pinned (OpenSpec.ofChange Rows.fnExactValidSamplesSpec) :=
  OpenClaim.holds_of_wide 5 Try.f5 rfl rfl rfl rfl rfl rfl rfl ⟨rfl, rfl, rfl, rfl, rfl⟩ rfl rfl rfl rfl rfl (by kernel_rfl) Try.func5 (by kernel_rfl)
    (of_decide_eq_true (by kernel_rfl)) (by unfold Func.isWrapper; first | (rw [if_pos (by decide +kernel)]; kernel_rfl) | (rw [if_neg (by decide +kernel)]; exact ⟨rfl, rfl⟩))
    (fun os started H enc _ => lifted same_ans os started H enc)

/-- The given statement. -/
theorem proved : Rows.FnExactValidSamplesSaid := over
end Go.Proofs.Ytobajdokfkimdaa.fnExactValidSamples
end
