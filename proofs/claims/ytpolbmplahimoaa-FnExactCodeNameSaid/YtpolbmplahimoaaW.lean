/-
  Contracts of the symbolic runs that are known: whether all numbers of a curve are shares, greater than 0 and at most 1, amounts, or finite, as the program and as the model tell it. No condition.
-/
import Derived.Test.YtpolbmplahimoaaX
noncomputable section
namespace Go.Proofs.Ytpolbmplahimoaa
open Go.ChangeShapes Go.WideShapes Go.ChangeAt Go.RowKit Ev Sx

def usFinI : List Nat := [19]
theorem conFinI : conB Try.prog symE symX usFinI 100 10 19 (curveSy .fin) psC .b = true := by kernel_rfl
theorem orcFinI : OrcOne Try.prog 19 (curveO .fin) :=
  con_orc (fun _ _ => .i 0) mixed (by kernel_rfl) extXOk orcXOk (by kernel_rfl) symER symXR (fun F ρ hB => curveSy_ok hB .fin) curveO_fit conFinI
def usFinM : List Nat := [44, 51]
theorem conFinM : conB Try.prog symE symX usFinM 100 10 44 (curveSy .fin) psC .b = true := by kernel_rfl
theorem orcFinM : OrcOne Try.prog 44 (curveO .fin) :=
  con_orc (fun _ _ => .i 0) mixed (by kernel_rfl) extXOk orcXOk (by kernel_rfl) symER symXR (fun F ρ hB => curveSy_ok hB .fin) curveO_fit conFinM
def orcW : List (Nat × Sig) :=
  (19, curveO .fin) ::
  (44, curveO .fin) ::
  orcX
theorem orcWOk : ∀ p ∈ orcW, OrcOne Try.prog p.1 p.2 :=
  all_cons orcFinI <|
  all_cons orcFinM <|
  orcXOk
def symW : List (Nat × SymF) :=
  (19, curveSy .fin) ::
  (44, curveSy .fin) ::
  symX
theorem symWR {U : Nat → Vl → Vl} (F : Tab) (ρ : Nat → Int) (hB : Base F ρ U) : ListR F ρ U symW (fun f => seek f orcW) :=
  ListR.cons (curveSy_ok hB .fin) <|
  ListR.cons (curveSy_ok hB .fin) <|
  symXR F ρ hB
end Go.Proofs.Ytpolbmplahimoaa
end
