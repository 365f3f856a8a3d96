/-
  Contracts of the symbolic runs that are known: whether all numbers of a curve are shares, greater than 0 and at most 1, amounts, or finite, as the program and as the model tell it. No condition.
-/
import Derived.Test.YtikajdhgakcldadX
noncomputable section
namespace Go.Proofs.Ytikajdhgakcldad
open Go.ChangeShapes Go.WideShapes Go.ChangeAt Go.RowKit Ev Sx

def usShareI : List Nat := [60, 94, 71]
theorem conShareI : conB Try.prog symE symX usShareI 100 10 60 (curveSy .share) psC .b = true := by kernel_rfl
theorem orcShareI : OrcOne Try.prog 60 (curveO .share) :=
  con_orc (fun _ _ => .i 0) mixed (by kernel_rfl) extXOk orcXOk (by kernel_rfl) symER symXR (fun F ρ hB => curveSy_ok hB .share) curveO_fit conShareI
def usPosI : List Nat := [61, 94, 71]
theorem conPosI : conB Try.prog symE symX usPosI 100 10 61 (curveSy .pos) psC .b = true := by kernel_rfl
theorem orcPosI : OrcOne Try.prog 61 (curveO .pos) :=
  con_orc (fun _ _ => .i 0) mixed (by kernel_rfl) extXOk orcXOk (by kernel_rfl) symER symXR (fun F ρ hB => curveSy_ok hB .pos) curveO_fit conPosI
def usAmountI : List Nat := [111, 94, 71]
theorem conAmountI : conB Try.prog symE symX usAmountI 100 10 111 (curveSy .amount) psC .b = true := by kernel_rfl
theorem orcAmountI : OrcOne Try.prog 111 (curveO .amount) :=
  con_orc (fun _ _ => .i 0) mixed (by kernel_rfl) extXOk orcXOk (by kernel_rfl) symER symXR (fun F ρ hB => curveSy_ok hB .amount) curveO_fit conAmountI
def usFinI : List Nat := [114]
theorem conFinI : conB Try.prog symE symX usFinI 100 10 114 (curveSy .fin) psC .b = true := by kernel_rfl
theorem orcFinI : OrcOne Try.prog 114 (curveO .fin) :=
  con_orc (fun _ _ => .i 0) mixed (by kernel_rfl) extXOk orcXOk (by kernel_rfl) symER symXR (fun F ρ hB => curveSy_ok hB .fin) curveO_fit conFinI
def usShareM : List Nat := [58]
theorem conShareM : conB Try.prog symE symX usShareM 100 10 58 (curveSy .share) psC .b = true := by kernel_rfl
theorem orcShareM : OrcOne Try.prog 58 (curveO .share) :=
  con_orc (fun _ _ => .i 0) mixed (by kernel_rfl) extXOk orcXOk (by kernel_rfl) symER symXR (fun F ρ hB => curveSy_ok hB .share) curveO_fit conShareM
def usAmountM : List Nat := [84, 85, 107]
theorem conAmountM : conB Try.prog symE symX usAmountM 100 10 84 (curveSy .amount) psC .b = true := by kernel_rfl
theorem orcAmountM : OrcOne Try.prog 84 (curveO .amount) :=
  con_orc (fun _ _ => .i 0) mixed (by kernel_rfl) extXOk orcXOk (by kernel_rfl) symER symXR (fun F ρ hB => curveSy_ok hB .amount) curveO_fit conAmountM
def usFinM : List Nat := [119, 107]
theorem conFinM : conB Try.prog symE symX usFinM 100 10 119 (curveSy .fin) psC .b = true := by kernel_rfl
theorem orcFinM : OrcOne Try.prog 119 (curveO .fin) :=
  con_orc (fun _ _ => .i 0) mixed (by kernel_rfl) extXOk orcXOk (by kernel_rfl) symER symXR (fun F ρ hB => curveSy_ok hB .fin) curveO_fit conFinM
def orcW : List (Nat × Sig) :=
  (60, curveO .share) ::
  (61, curveO .pos) ::
  (111, curveO .amount) ::
  (114, curveO .fin) ::
  (58, curveO .share) ::
  (84, curveO .amount) ::
  (119, curveO .fin) ::
  orcX
theorem orcWOk : ∀ p ∈ orcW, OrcOne Try.prog p.1 p.2 :=
  all_cons orcShareI <|
  all_cons orcPosI <|
  all_cons orcAmountI <|
  all_cons orcFinI <|
  all_cons orcShareM <|
  all_cons orcAmountM <|
  all_cons orcFinM <|
  orcXOk
def symW : List (Nat × SymF) :=
  (60, curveSy .share) ::
  (61, curveSy .pos) ::
  (111, curveSy .amount) ::
  (114, curveSy .fin) ::
  (58, curveSy .share) ::
  (84, curveSy .amount) ::
  (119, curveSy .fin) ::
  symX
theorem symWR {U : Nat → Vl → Vl} (F : Tab) (ρ : Nat → Int) (hB : Base F ρ U) : ListR F ρ U symW (fun f => seek f orcW) :=
  ListR.cons (curveSy_ok hB .share) <|
  ListR.cons (curveSy_ok hB .pos) <|
  ListR.cons (curveSy_ok hB .amount) <|
  ListR.cons (curveSy_ok hB .fin) <|
  ListR.cons (curveSy_ok hB .share) <|
  ListR.cons (curveSy_ok hB .amount) <|
  ListR.cons (curveSy_ok hB .fin) <|
  symXR F ρ hB
end Go.Proofs.Ytikajdhgakcldad
end
