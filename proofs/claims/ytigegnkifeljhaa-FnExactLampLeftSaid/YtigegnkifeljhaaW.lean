/-
  Contracts of the symbolic runs that are known: whether all numbers of a curve are shares, greater than 0 and at most 1, amounts, or finite, as the program and as the model tell it. No condition.
-/
import Derived.Test.YtigegnkifeljhaaX
noncomputable section
namespace Go.Proofs.Ytigegnkifeljhaa
open Go.ChangeShapes Go.WideShapes Go.ChangeAt Go.RowKit Ev Sx

def usShareI : List Nat := [135, 132, 73]
theorem conShareI : conB Try.prog symE symX usShareI 100 10 135 (curveSy .share) psC .b = true := by kernel_rfl
theorem orcShareI : OrcOne Try.prog 135 (curveO .share) :=
  con_orc (fun _ _ => .i 0) mixed (by kernel_rfl) extXOk orcXOk (by kernel_rfl) symER symXR (fun F ρ hB => curveSy_ok hB .share) curveO_fit conShareI
def usPosI : List Nat := [124, 132, 73]
theorem conPosI : conB Try.prog symE symX usPosI 100 10 124 (curveSy .pos) psC .b = true := by kernel_rfl
theorem orcPosI : OrcOne Try.prog 124 (curveO .pos) :=
  con_orc (fun _ _ => .i 0) mixed (by kernel_rfl) extXOk orcXOk (by kernel_rfl) symER symXR (fun F ρ hB => curveSy_ok hB .pos) curveO_fit conPosI
def usAmountI : List Nat := [86, 132, 73]
theorem conAmountI : conB Try.prog symE symX usAmountI 100 10 86 (curveSy .amount) psC .b = true := by kernel_rfl
theorem orcAmountI : OrcOne Try.prog 86 (curveO .amount) :=
  con_orc (fun _ _ => .i 0) mixed (by kernel_rfl) extXOk orcXOk (by kernel_rfl) symER symXR (fun F ρ hB => curveSy_ok hB .amount) curveO_fit conAmountI
def usFinI : List Nat := [167]
theorem conFinI : conB Try.prog symE symX usFinI 100 10 167 (curveSy .fin) psC .b = true := by kernel_rfl
theorem orcFinI : OrcOne Try.prog 167 (curveO .fin) :=
  con_orc (fun _ _ => .i 0) mixed (by kernel_rfl) extXOk orcXOk (by kernel_rfl) symER symXR (fun F ρ hB => curveSy_ok hB .fin) curveO_fit conFinI
def usShareM : List Nat := [133]
theorem conShareM : conB Try.prog symE symX usShareM 100 10 133 (curveSy .share) psC .b = true := by kernel_rfl
theorem orcShareM : OrcOne Try.prog 133 (curveO .share) :=
  con_orc (fun _ _ => .i 0) mixed (by kernel_rfl) extXOk orcXOk (by kernel_rfl) symER symXR (fun F ρ hB => curveSy_ok hB .share) curveO_fit conShareM
def usAmountM : List Nat := [85, 127, 151]
theorem conAmountM : conB Try.prog symE symX usAmountM 100 10 85 (curveSy .amount) psC .b = true := by kernel_rfl
theorem orcAmountM : OrcOne Try.prog 85 (curveO .amount) :=
  con_orc (fun _ _ => .i 0) mixed (by kernel_rfl) extXOk orcXOk (by kernel_rfl) symER symXR (fun F ρ hB => curveSy_ok hB .amount) curveO_fit conAmountM
def usFinM : List Nat := [169, 151]
theorem conFinM : conB Try.prog symE symX usFinM 100 10 169 (curveSy .fin) psC .b = true := by kernel_rfl
theorem orcFinM : OrcOne Try.prog 169 (curveO .fin) :=
  con_orc (fun _ _ => .i 0) mixed (by kernel_rfl) extXOk orcXOk (by kernel_rfl) symER symXR (fun F ρ hB => curveSy_ok hB .fin) curveO_fit conFinM
def orcW : List (Nat × Sig) :=
  (135, curveO .share) ::
  (124, curveO .pos) ::
  (86, curveO .amount) ::
  (167, curveO .fin) ::
  (133, curveO .share) ::
  (85, curveO .amount) ::
  (169, curveO .fin) ::
  orcX
theorem orcWOk : ∀ p ∈ orcW, OrcOne Try.prog p.1 p.2 :=
  all_cons orcShareI <|
  all_cons orcPosI <|
  all_cons orcAmountI <|
  all_cons orcFinI <|
  all_cons orcShareM <|
  all_cons orcAmountM <|
  all_cons orcFinM <|
  orcXOk
def symW : List (Nat × SymF) :=
  (135, curveSy .share) ::
  (124, curveSy .pos) ::
  (86, curveSy .amount) ::
  (167, curveSy .fin) ::
  (133, curveSy .share) ::
  (85, curveSy .amount) ::
  (169, curveSy .fin) ::
  symX
theorem symWR {U : Nat → Vl → Vl} (F : Tab) (ρ : Nat → Int) (hB : Base F ρ U) : ListR F ρ U symW (fun f => seek f orcW) :=
  ListR.cons (curveSy_ok hB .share) <|
  ListR.cons (curveSy_ok hB .pos) <|
  ListR.cons (curveSy_ok hB .amount) <|
  ListR.cons (curveSy_ok hB .fin) <|
  ListR.cons (curveSy_ok hB .share) <|
  ListR.cons (curveSy_ok hB .amount) <|
  ListR.cons (curveSy_ok hB .fin) <|
  symXR F ρ hB
end Go.Proofs.Ytigegnkifeljhaa
end
