/-
  FnExactValidWorks: program and model tell alike whether works are valid. No condition.
-/
import Derived.Test.YtigegnkifeljhaaWt
import Derived.Test.YtigegnkifeljhaaWv
set_option linter.unusedSectionVars false
noncomputable section
namespace Go.Proofs.Ytigegnkifeljhaa.fnExactValidWorks
open Go Go.ChangeShapes Go.WideShapes Go.ChangeAt Go.RowKit Ev Sx
theorem ansF_of {f l : Nat} {cs : List Value} {t0 : Int} {b : Bool} (h : AnsW f l cs t0 (.bool b)) : AnsF f l cs t0 (.bool b) := fun w v hv => (h w v hv).mono fun e w' hx => by
  obtain ⟨y, rfl, hy, hbl⟩ := hx
  rw [@VR.bool_inv noFrn _ _ _ hy]
  exact ⟨rfl, hbl⟩
theorem same_ans : SameAns 16 18 := fun l cs t0 hb _ hw _ => by
  obtain ⟨b, h1, h2⟩ := works_same (t0 := t0) hb hw
  exact ⟨b, ansF_of h1, ansF_of h2⟩
theorem over : Rows.fnExactValidWorksRow.holds Try.pinned (OpenSpec.ofChange Rows.fnExactValidWorksSpec) :=
  OpenClaim.holds_of_wide 3 Try.f3 rfl rfl rfl rfl rfl rfl rfl ⟨rfl, rfl, rfl, rfl, rfl⟩ rfl rfl rfl rfl rfl (by kernel_rfl) Try.func3 (by kernel_rfl)
    (of_decide_eq_true (by kernel_rfl)) (by unfold Func.isWrapper; first | (rw [if_pos (by decide +kernel)]; kernel_rfl) | (rw [if_neg (by decide +kernel)]; exact ⟨rfl, rfl⟩))
    (fun os started H enc _ => lifted same_ans os started H enc)

/-- The given statement. -/
theorem proved : Rows.FnExactValidWorksSaid := over
end Go.Proofs.Ytigegnkifeljhaa.fnExactValidWorks
end
