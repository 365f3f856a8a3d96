/-
  Contracts of the symbolic runs that are known: whether all numbers of a curve are shares, greater than 0 and at most 1, amounts, or finite, as the program and as the model tell it. No condition.
-/
import Derived.Test.YtikajdhgakcldafX
noncomputable section
namespace Go.Proofs.Ytikajdhgakcldaf
open Go.ChangeShapes Go.WideShapes Go.ChangeAt Go.RowKit Ev Sx

def usPosI : List Nat := [27, 51, 52]
theorem conPosI : conB Try.prog symE symX usPosI 100 10 27 (curveSy .pos) psC .b = true := by kernel_rfl
theorem orcPosI : OrcOne Try.prog 27 (curveO .pos) :=
  con_orc (fun _ _ => .i 0) mixed (by kernel_rfl) extXOk orcXOk (by kernel_rfl) symER symXR (fun F ρ hB => curveSy_ok hB .pos) curveO_fit conPosI
def usFinI : List Nat := [39]
theorem conFinI : conB Try.prog symE symX usFinI 100 10 39 (curveSy .fin) psC .b = true := by kernel_rfl
theorem orcFinI : OrcOne Try.prog 39 (curveO .fin) :=
  con_orc (fun _ _ => .i 0) mixed (by kernel_rfl) extXOk orcXOk (by kernel_rfl) symER symXR (fun F ρ hB => curveSy_ok hB .fin) curveO_fit conFinI
def usFinM : List Nat := [34, 57]
theorem conFinM : conB Try.prog symE symX usFinM 100 10 34 (curveSy .fin) psC .b = true := by kernel_rfl
theorem orcFinM : OrcOne Try.prog 34 (curveO .fin) :=
  con_orc (fun _ _ => .i 0) mixed (by kernel_rfl) extXOk orcXOk (by kernel_rfl) symER symXR (fun F ρ hB => curveSy_ok hB .fin) curveO_fit conFinM
def orcW : List (Nat × Sig) :=
  (27, curveO .pos) ::
  (39, curveO .fin) ::
  (34, curveO .fin) ::
  orcX
theorem orcWOk : ∀ p ∈ orcW, OrcOne Try.prog p.1 p.2 :=
  all_cons orcPosI <|
  all_cons orcFinI <|
  all_cons orcFinM <|
  orcXOk
def symW : List (Nat × SymF) :=
  (27, curveSy .pos) ::
  (39, curveSy .fin) ::
  (34, curveSy .fin) ::
  symX
theorem symWR {U : Nat → Vl → Vl} (F : Tab) (ρ : Nat → Int) (hB : Base F ρ U) : ListR F ρ U symW (fun f => seek f orcW) :=
  ListR.cons (curveSy_ok hB .pos) <|
  ListR.cons (curveSy_ok hB .fin) <|
  ListR.cons (curveSy_ok hB .fin) <|
  symXR F ρ hB
end Go.Proofs.Ytikajdhgakcldaf
end
