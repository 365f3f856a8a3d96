/-
  Contracts of the symbolic runs that are known: whether all numbers of a curve are shares, greater than 0 and at most 1, amounts, or finite, as the program and as the model tell it. No condition.
-/
import Derived.Test.YtjinfbpkikkcmaaX
noncomputable section
namespace Go.Proofs.Ytjinfbpkikkcmaa
open Go.ChangeShapes Go.WideShapes Go.ChangeAt Go.RowKit Ev Sx

def usShareI : List Nat := [50, 71, 51]
theorem conShareI : conB Try.prog symE symX usShareI 100 10 50 (curveSy .share) psC .b = true := by kernel_rfl
theorem orcShareI : OrcOne Try.prog 50 (curveO .share) :=
  con_orc (fun _ _ => .i 0) mixed (by kernel_rfl) extXOk orcXOk (by kernel_rfl) symER symXR (fun F ρ hB => curveSy_ok hB .share) curveO_fit conShareI
def usShareM : List Nat := [70]
theorem conShareM : conB Try.prog symE symX usShareM 100 10 70 (curveSy .share) psC .b = true := by kernel_rfl
theorem orcShareM : OrcOne Try.prog 70 (curveO .share) :=
  con_orc (fun _ _ => .i 0) mixed (by kernel_rfl) extXOk orcXOk (by kernel_rfl) symER symXR (fun F ρ hB => curveSy_ok hB .share) curveO_fit conShareM
def orcW : List (Nat × Sig) :=
  (50, curveO .share) ::
  (70, curveO .share) ::
  orcX
theorem orcWOk : ∀ p ∈ orcW, OrcOne Try.prog p.1 p.2 :=
  all_cons orcShareI <|
  all_cons orcShareM <|
  orcXOk
def symW : List (Nat × SymF) :=
  (50, curveSy .share) ::
  (70, curveSy .share) ::
  symX
theorem symWR (F : Tab) (ρ : Nat → Int) (hB : Base F ρ (fun _ _ => .i 0)) : ListR F ρ (fun _ _ => .i 0) symW (fun f => seek f orcW) :=
  ListR.cons (curveSy_ok hB .share) <|
  ListR.cons (curveSy_ok hB .share) <|
  symXR F ρ hB
end Go.Proofs.Ytjinfbpkikkcmaa
end
