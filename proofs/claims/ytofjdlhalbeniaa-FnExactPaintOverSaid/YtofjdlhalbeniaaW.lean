/-
  Contracts of the symbolic runs that are known: whether all numbers of a curve are shares, greater than 0 and at most 1, amounts, or finite, as the program and as the model tell it. No condition.
-/
import Derived.Test.YtofjdlhalbeniaaX
noncomputable section
namespace Go.Proofs.Ytofjdlhalbeniaa
open Go.ChangeShapes Go.WideShapes Go.ChangeAt Go.RowKit Ev Sx

def usShareI : List Nat := [98, 113, 60]
theorem conShareI : conB Try.prog symE symX usShareI 100 10 98 (curveSy .share) psC .b = true := by kernel_rfl
theorem orcShareI : OrcOne Try.prog 98 (curveO .share) :=
  con_orc (fun _ _ => .i 0) mixed (by kernel_rfl) extXOk orcXOk (by kernel_rfl) symER symXR (fun F ρ hB => curveSy_ok hB .share) curveO_fit conShareI
def usAmountI : List Nat := [93, 113, 60]
theorem conAmountI : conB Try.prog symE symX usAmountI 100 10 93 (curveSy .amount) psC .b = true := by kernel_rfl
theorem orcAmountI : OrcOne Try.prog 93 (curveO .amount) :=
  con_orc (fun _ _ => .i 0) mixed (by kernel_rfl) extXOk orcXOk (by kernel_rfl) symER symXR (fun F ρ hB => curveSy_ok hB .amount) curveO_fit conAmountI
def usFinI : List Nat := [96]
theorem conFinI : conB Try.prog symE symX usFinI 100 10 96 (curveSy .fin) psC .b = true := by kernel_rfl
theorem orcFinI : OrcOne Try.prog 96 (curveO .fin) :=
  con_orc (fun _ _ => .i 0) mixed (by kernel_rfl) extXOk orcXOk (by kernel_rfl) symER symXR (fun F ρ hB => curveSy_ok hB .fin) curveO_fit conFinI
def usShareM : List Nat := [115]
theorem conShareM : conB Try.prog symE symX usShareM 100 10 115 (curveSy .share) psC .b = true := by kernel_rfl
theorem orcShareM : OrcOne Try.prog 115 (curveO .share) :=
  con_orc (fun _ _ => .i 0) mixed (by kernel_rfl) extXOk orcXOk (by kernel_rfl) symER symXR (fun F ρ hB => curveSy_ok hB .share) curveO_fit conShareM
def usAmountM : List Nat := [90, 91, 56]
theorem conAmountM : conB Try.prog symE symX usAmountM 100 10 90 (curveSy .amount) psC .b = true := by kernel_rfl
theorem orcAmountM : OrcOne Try.prog 90 (curveO .amount) :=
  con_orc (fun _ _ => .i 0) mixed (by kernel_rfl) extXOk orcXOk (by kernel_rfl) symER symXR (fun F ρ hB => curveSy_ok hB .amount) curveO_fit conAmountM
def usFinM : List Nat := [112, 56]
theorem conFinM : conB Try.prog symE symX usFinM 100 10 112 (curveSy .fin) psC .b = true := by kernel_rfl
theorem orcFinM : OrcOne Try.prog 112 (curveO .fin) :=
  con_orc (fun _ _ => .i 0) mixed (by kernel_rfl) extXOk orcXOk (by kernel_rfl) symER symXR (fun F ρ hB => curveSy_ok hB .fin) curveO_fit conFinM
def orcW : List (Nat × Sig) :=
  (98, curveO .share) ::
  (93, curveO .amount) ::
  (96, curveO .fin) ::
  (115, curveO .share) ::
  (90, curveO .amount) ::
  (112, curveO .fin) ::
  orcX
theorem orcWOk : ∀ p ∈ orcW, OrcOne Try.prog p.1 p.2 :=
  all_cons orcShareI <|
  all_cons orcAmountI <|
  all_cons orcFinI <|
  all_cons orcShareM <|
  all_cons orcAmountM <|
  all_cons orcFinM <|
  orcXOk
def symW : List (Nat × SymF) :=
  (98, curveSy .share) ::
  (93, curveSy .amount) ::
  (96, curveSy .fin) ::
  (115, curveSy .share) ::
  (90, curveSy .amount) ::
  (112, curveSy .fin) ::
  symX
theorem symWR (F : Tab) (ρ : Nat → Int) (hB : Base F ρ (fun _ _ => .i 0)) : ListR F ρ (fun _ _ => .i 0) symW (fun f => seek f orcW) :=
  ListR.cons (curveSy_ok hB .share) <|
  ListR.cons (curveSy_ok hB .amount) <|
  ListR.cons (curveSy_ok hB .fin) <|
  ListR.cons (curveSy_ok hB .share) <|
  ListR.cons (curveSy_ok hB .amount) <|
  ListR.cons (curveSy_ok hB .fin) <|
  symXR F ρ hB
end Go.Proofs.Ytofjdlhalbeniaa
end
