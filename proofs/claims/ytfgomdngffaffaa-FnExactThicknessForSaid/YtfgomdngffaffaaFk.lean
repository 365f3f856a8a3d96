/-
  Contracts of what tells shares, amounts and finite curves, whatever has come in. No condition.
-/
import Derived.Test.YtfgomdngffaffaaEg
import Derived.Test.YtfgomdngffaffaaEt
import Derived.Test.YtfgomdngffaffaaSz
set_option linter.unusedSectionVars false
set_option linter.unusedVariables false
noncomputable section
namespace Go.Proofs.Ytfgomdngffaffaa
open Go Go.ChangeShapes Go.WideShapes Go.ChangeAt Go.RowKit Ev Sx
theorem fitV_bare {y : Ty} {v : Value} (h : fitV y v = true) : bareC v = true := by
  unfold fitV at h
  split at h <;> first | rfl | cases h
theorem fitA_bare : ∀ {ps : List Par} {vs : List Value}, fitA ps vs = true → vs.all bareP = true
  | [], [], _ => rfl
  | p :: r, v :: s, h => by
    rw [fitA, Bool.and_eq_true] at h
    have fl : ∀ {ys : List Ty} {cs : List Value}, fitL ys cs = true → cs.all bareC = true := by
      intro ys
      induction ys with
      | nil =>
        intro cs h
        cases cs with
        | nil => rfl
        | cons _ _ => cases h
      | cons y ys ih =>
        intro cs h
        cases cs with
        | nil => cases h
        | cons c cs =>
          rw [fitL, Bool.and_eq_true] at h
          rw [List.all_cons, ih h.2, Bool.and_true]
          exact fitV_bare h.1
    have h1 : bareP v = true := by
      have h1 := h.1
      unfold fitP at h1
      split at h1
      · exact fl h1
      · have h2 := fitV_bare h1
        revert h2
        generalize v = u
        intro h2
        cases u <;> first | exact h2 | cases h2
      · cases h1
    rw [List.all_cons, h1, fitA_bare h.2]; rfl
  | [], _ :: _, h => by cases h
  | _ :: _, [], h => by cases h
theorem curve_bare {e : Ek} : BareSig (curveO e) := fun args v h => by
  have hf := curveO_fit args v true h
  refine ⟨fitA_bare hf, ?_⟩
  unfold curveO at h
  rw [hf, cond_true] at h
  split at h
  · cases h; rfl
  · cases h
def orcKc : List (Nat × Sig) := [(62, curveO .share), (68, curveO .share), (32, curveO .amount), (31, curveO .amount), (72, curveO .fin), (67, curveO .fin)]
theorem orcKcOk {ι : Frn} : ∀ p ∈ orcKc, @OrcOne ι Try.prog p.1 p.2 :=
  all_cons (orc_any orcShareI curve_bare) <| all_cons (orc_any orcShareM curve_bare) <| all_cons (orc_any orcAmountI curve_bare) <| all_cons (orc_any orcAmountM curve_bare) <| all_cons (orc_any orcFinI curve_bare) <| all_cons (orc_any orcFinM curve_bare) all_nil
def symKc : List (Nat × SymF) := [(62, curveSy .share), (68, curveSy .share), (32, curveSy .amount), (31, curveSy .amount), (72, curveSy .fin), (67, curveSy .fin)]
theorem symKcR {U : Nat → Vl → Vl} (F : Tab) (ρ : Nat → Int) (hB : Base F ρ U) : ListR F ρ U symKc (fun f => seek f orcKc) :=
  ListR.cons (curveSy_ok hB .share) <| ListR.cons (curveSy_ok hB .share) <| ListR.cons (curveSy_ok hB .amount) <| ListR.cons (curveSy_ok hB .amount) <| ListR.cons (curveSy_ok hB .fin) <| ListR.cons (curveSy_ok hB .fin) ListR.nil
/-- a layer's row -/
def rowL (f : Nat → Nat) (n : Nat) : List Value := (List.range n).map fun j => .float .f32 (f j)
def LSn (n : Nat) : List SV := (List.range n).map fun j => .f .f32 (j + 2)
end Go.Proofs.Ytfgomdngffaffaa
end
