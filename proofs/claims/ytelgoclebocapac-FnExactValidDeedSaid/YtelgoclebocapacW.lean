/-
  Contracts of the symbolic runs that are known: whether all numbers of a curve are shares, greater than 0 and at most 1, amounts, or finite, as the program and as the model tell it. No condition.
-/
import Derived.Test.YtelgoclebocapacX
noncomputable section
namespace Go.Proofs.Ytelgoclebocapac
open Go.ChangeShapes Go.WideShapes Go.ChangeAt Go.RowKit Ev Sx

def usPosI : List Nat := [103, 110, 76]
theorem conPosI : conB Try.prog symE symX usPosI 100 10 103 (curveSy .pos) psC .b = true := by kernel_rfl
theorem orcPosI : OrcOne Try.prog 103 (curveO .pos) :=
  con_orc (fun _ _ => .i 0) mixed (by kernel_rfl) extXOk orcXOk (by kernel_rfl) symER symXR (fun F ρ hB => curveSy_ok hB .pos) curveO_fit conPosI
def orcW : List (Nat × Sig) :=
  (103, curveO .pos) ::
  orcX
theorem orcWOk : ∀ p ∈ orcW, OrcOne Try.prog p.1 p.2 :=
  all_cons orcPosI <|
  orcXOk
def symW : List (Nat × SymF) :=
  (103, curveSy .pos) ::
  symX
theorem symWR {U : Nat → Vl → Vl} (F : Tab) (ρ : Nat → Int) (hB : Base F ρ U) : ListR F ρ U symW (fun f => seek f orcW) :=
  ListR.cons (curveSy_ok hB .pos) <|
  symXR F ρ hB
end Go.Proofs.Ytelgoclebocapac
end
