/-
  Contracts of the symbolic runs that are known: whether all numbers of a curve are shares, greater than 0 and at most 1, amounts, or finite, as the program and as the model tell it. No condition.
-/
import Derived.Test.YtelgoclebocapaaX
noncomputable section
namespace Go.Proofs.Ytelgoclebocapaa
open Go.ChangeShapes Go.WideShapes Go.ChangeAt Go.RowKit Ev Sx

def usAmountI : List Nat := [48, 92, 117]
theorem conAmountI : conB Try.prog symE symX usAmountI 100 10 48 (curveSy .amount) psC .b = true := by kernel_rfl
theorem orcAmountI : OrcOne Try.prog 48 (curveO .amount) :=
  con_orc (fun _ _ => .i 0) mixed (by kernel_rfl) extXOk orcXOk (by kernel_rfl) symER symXR (fun F ρ hB => curveSy_ok hB .amount) curveO_fit conAmountI
def usFinI : List Nat := [115]
theorem conFinI : conB Try.prog symE symX usFinI 100 10 115 (curveSy .fin) psC .b = true := by kernel_rfl
theorem orcFinI : OrcOne Try.prog 115 (curveO .fin) :=
  con_orc (fun _ _ => .i 0) mixed (by kernel_rfl) extXOk orcXOk (by kernel_rfl) symER symXR (fun F ρ hB => curveSy_ok hB .fin) curveO_fit conFinI
def usAmountM : List Nat := [88, 109, 123]
theorem conAmountM : conB Try.prog symE symX usAmountM 100 10 88 (curveSy .amount) psC .b = true := by kernel_rfl
theorem orcAmountM : OrcOne Try.prog 88 (curveO .amount) :=
  con_orc (fun _ _ => .i 0) mixed (by kernel_rfl) extXOk orcXOk (by kernel_rfl) symER symXR (fun F ρ hB => curveSy_ok hB .amount) curveO_fit conAmountM
def orcW : List (Nat × Sig) :=
  (48, curveO .amount) ::
  (115, curveO .fin) ::
  (88, curveO .amount) ::
  orcX
theorem orcWOk : ∀ p ∈ orcW, OrcOne Try.prog p.1 p.2 :=
  all_cons orcAmountI <|
  all_cons orcFinI <|
  all_cons orcAmountM <|
  orcXOk
def symW : List (Nat × SymF) :=
  (48, curveSy .amount) ::
  (115, curveSy .fin) ::
  (88, curveSy .amount) ::
  symX
theorem symWR {U : Nat → Vl → Vl} (F : Tab) (ρ : Nat → Int) (hB : Base F ρ U) : ListR F ρ U symW (fun f => seek f orcW) :=
  ListR.cons (curveSy_ok hB .amount) <|
  ListR.cons (curveSy_ok hB .fin) <|
  ListR.cons (curveSy_ok hB .amount) <|
  symXR F ρ hB
end Go.Proofs.Ytelgoclebocapaa
end
