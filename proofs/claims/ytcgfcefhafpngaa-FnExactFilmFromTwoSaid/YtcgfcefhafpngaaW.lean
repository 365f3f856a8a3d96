/-
  Contracts of the symbolic runs that are known: whether all numbers of a curve are shares, greater than 0 and at most 1, amounts, or finite, as the program and as the model tell it. No condition.
-/
import Derived.Test.YtcgfcefhafpngaaX
namespace Go.Proofs.Ytcgfcefhafpngaa
open Go.ChangeShapes Go.WideShapes Go.ChangeAt Go.RowKit Ev Sx

def usShareI : List Nat := [64, 85, 77]
theorem conShareI : conB Try.prog symE symX usShareI 100 10 64 (curveSy .share) psC .b = true := by kernel_rfl
theorem orcShareI : OrcOne Try.prog 64 (curveO .share) :=
  con_orc (fun _ _ => .i 0) mixed (by kernel_rfl) extXOk orcXOk (by kernel_rfl) symER symXR (fun F ρ hB => curveSy_ok hB .share) curveO_fit conShareI
def usPosI : List Nat := [65, 85, 77]
theorem conPosI : conB Try.prog symE symX usPosI 100 10 65 (curveSy .pos) psC .b = true := by kernel_rfl
theorem orcPosI : OrcOne Try.prog 65 (curveO .pos) :=
  con_orc (fun _ _ => .i 0) mixed (by kernel_rfl) extXOk orcXOk (by kernel_rfl) symER symXR (fun F ρ hB => curveSy_ok hB .pos) curveO_fit conPosI
def usAmountI : List Nat := [49, 85, 77]
theorem conAmountI : conB Try.prog symE symX usAmountI 100 10 49 (curveSy .amount) psC .b = true := by kernel_rfl
theorem orcAmountI : OrcOne Try.prog 49 (curveO .amount) :=
  con_orc (fun _ _ => .i 0) mixed (by kernel_rfl) extXOk orcXOk (by kernel_rfl) symER symXR (fun F ρ hB => curveSy_ok hB .amount) curveO_fit conAmountI
def usFinI : List Nat := [108]
theorem conFinI : conB Try.prog symE symX usFinI 100 10 108 (curveSy .fin) psC .b = true := by kernel_rfl
theorem orcFinI : OrcOne Try.prog 108 (curveO .fin) :=
  con_orc (fun _ _ => .i 0) mixed (by kernel_rfl) extXOk orcXOk (by kernel_rfl) symER symXR (fun F ρ hB => curveSy_ok hB .fin) curveO_fit conFinI
def usShareM : List Nat := [62]
theorem conShareM : conB Try.prog symE symX usShareM 100 10 62 (curveSy .share) psC .b = true := by kernel_rfl
theorem orcShareM : OrcOne Try.prog 62 (curveO .share) :=
  con_orc (fun _ _ => .i 0) mixed (by kernel_rfl) extXOk orcXOk (by kernel_rfl) symER symXR (fun F ρ hB => curveSy_ok hB .share) curveO_fit conShareM
def usAmountM : List Nat := [46, 83, 73]
theorem conAmountM : conB Try.prog symE symX usAmountM 100 10 46 (curveSy .amount) psC .b = true := by kernel_rfl
theorem orcAmountM : OrcOne Try.prog 46 (curveO .amount) :=
  con_orc (fun _ _ => .i 0) mixed (by kernel_rfl) extXOk orcXOk (by kernel_rfl) symER symXR (fun F ρ hB => curveSy_ok hB .amount) curveO_fit conAmountM
def usFinM : List Nat := [84, 73]
theorem conFinM : conB Try.prog symE symX usFinM 100 10 84 (curveSy .fin) psC .b = true := by kernel_rfl
theorem orcFinM : OrcOne Try.prog 84 (curveO .fin) :=
  con_orc (fun _ _ => .i 0) mixed (by kernel_rfl) extXOk orcXOk (by kernel_rfl) symER symXR (fun F ρ hB => curveSy_ok hB .fin) curveO_fit conFinM
def orcW : List (Nat × Sig) :=
  (64, curveO .share) ::
  (65, curveO .pos) ::
  (49, curveO .amount) ::
  (108, curveO .fin) ::
  (62, curveO .share) ::
  (46, curveO .amount) ::
  (84, curveO .fin) ::
  orcX
theorem orcWOk : ∀ p ∈ orcW, OrcOne Try.prog p.1 p.2 :=
  all_cons orcShareI <|
  all_cons orcPosI <|
  all_cons orcAmountI <|
  all_cons orcFinI <|
  all_cons orcShareM <|
  all_cons orcAmountM <|
  all_cons orcFinM <|
  orcXOk
def symW : List (Nat × SymF) :=
  (64, curveSy .share) ::
  (65, curveSy .pos) ::
  (49, curveSy .amount) ::
  (108, curveSy .fin) ::
  (62, curveSy .share) ::
  (46, curveSy .amount) ::
  (84, curveSy .fin) ::
  symX
theorem symWR (F : Tab) (ρ : Nat → Int) (hB : Base F ρ (fun _ _ => .i 0)) : ListR F ρ (fun _ _ => .i 0) symW (fun f => seek f orcW) :=
  ListR.cons (curveSy_ok hB .share) <|
  ListR.cons (curveSy_ok hB .pos) <|
  ListR.cons (curveSy_ok hB .amount) <|
  ListR.cons (curveSy_ok hB .fin) <|
  ListR.cons (curveSy_ok hB .share) <|
  ListR.cons (curveSy_ok hB .amount) <|
  ListR.cons (curveSy_ok hB .fin) <|
  symXR F ρ hB
end Go.Proofs.Ytcgfcefhafpngaa
