/-
  Contracts of the symbolic runs that are made of pairs: a function of the program and one of the model that answer the same, whatever curve comes in (is it a share? an amount? finite?). No condition.
-/
import Derived.Test.YtcgfcefhafpngaaX
namespace Go.Proofs.Ytcgfcefhafpngaa
open Go.ChangeShapes Go.WideShapes Go.ChangeAt Go.RowKit Ev Sx

def psA : List Par := [.agg (List.replicate 16 (.f .f32))]
def usShare : List Nat := [64, 85, 77, 62]
theorem pairShare : pairB Try.prog symE symX usShare 100 10 64 62 psA .b = true := by kernel_rfl
def valShare (P : Program) : List Value → Value := valD P (fun f => seek f extX) (fun f => seek f orcX) usShare 100 10 64
theorem orcShare : OrcOne Try.prog 64 (sigU psA .b (valShare Try.prog)) ∧ OrcOne Try.prog 62 (sigU psA .b (valShare Try.prog)) :=
  pair_orc (fun _ _ => .i 0) mixed (by kernel_rfl) extXOk orcXOk (by kernel_rfl) (by kernel_rfl) symER symXR pairShare
def usAmount : List Nat := [49, 85, 77, 46, 83, 73]
theorem pairAmount : pairB Try.prog symE symX usAmount 100 10 49 46 psA .b = true := by kernel_rfl
def valAmount (P : Program) : List Value → Value := valD P (fun f => seek f extX) (fun f => seek f orcX) usAmount 100 10 49
theorem orcAmount : OrcOne Try.prog 49 (sigU psA .b (valAmount Try.prog)) ∧ OrcOne Try.prog 46 (sigU psA .b (valAmount Try.prog)) :=
  pair_orc (fun _ _ => .i 0) mixed (by kernel_rfl) extXOk orcXOk (by kernel_rfl) (by kernel_rfl) symER symXR pairAmount
def usFinite : List Nat := [108, 84, 73]
theorem pairFinite : pairB Try.prog symE symX usFinite 100 10 108 84 psA .b = true := by kernel_rfl
def valFinite (P : Program) : List Value → Value := valD P (fun f => seek f extX) (fun f => seek f orcX) usFinite 100 10 108
theorem orcFinite : OrcOne Try.prog 108 (sigU psA .b (valFinite Try.prog)) ∧ OrcOne Try.prog 84 (sigU psA .b (valFinite Try.prog)) :=
  pair_orc (fun _ _ => .i 0) mixed (by kernel_rfl) extXOk orcXOk (by kernel_rfl) (by kernel_rfl) symER symXR pairFinite
/-- what the named functions answer -/
def UZ (P : Program) (op : Nat) (z : Vl) : Vl :=
  if op = 128 then toVl .b (valShare P (packPs psA (unch (tysPs psA) z))) else
  if op = 129 then toVl .b (valAmount P (packPs psA (unch (tysPs psA) z))) else
  if op = 130 then toVl .b (valFinite P (packPs psA (unch (tysPs psA) z))) else
  .i 0
def orcZ (P : Program) : List (Nat × Sig) :=
  (64, sigU psA .b (valShare P)) :: (62, sigU psA .b (valShare P)) ::
  (49, sigU psA .b (valAmount P)) :: (46, sigU psA .b (valAmount P)) ::
  (108, sigU psA .b (valFinite P)) :: (84, sigU psA .b (valFinite P)) ::
  orcX
theorem orcZOk : ∀ p ∈ orcZ Try.prog, OrcOne Try.prog p.1 p.2 :=
  all_cons orcShare.1 <| all_cons orcShare.2 <|
  all_cons orcAmount.1 <| all_cons orcAmount.2 <|
  all_cons orcFinite.1 <| all_cons orcFinite.2 <|
  orcXOk
def symZ : List (Nat × SymF) :=
  (64, uS 128 psA .b) :: (62, uS 128 psA .b) ::
  (49, uS 129 psA .b) :: (46, uS 129 psA .b) ::
  (108, uS 130 psA .b) :: (84, uS 130 psA .b) ::
  symX
set_option maxRecDepth 100000 in
theorem symZR (F : Tab) (ρ : Nat → Int) (hB : Base F ρ (UZ Try.prog)) : ListR F ρ (UZ Try.prog) symZ (fun f => seek f (orcZ Try.prog)) :=
  ListR.cons (uS_ok hB (fun _ _ _ _ _ _ _ => rfl) (fun _ => rfl)) <| ListR.cons (uS_ok hB (fun _ _ _ _ _ _ _ => rfl) (fun _ => rfl)) <|
  ListR.cons (uS_ok hB (fun _ _ _ _ _ _ _ => rfl) (fun _ => rfl)) <| ListR.cons (uS_ok hB (fun _ _ _ _ _ _ _ => rfl) (fun _ => rfl)) <|
  ListR.cons (uS_ok hB (fun _ _ _ _ _ _ _ => rfl) (fun _ => rfl)) <| ListR.cons (uS_ok hB (fun _ _ _ _ _ _ _ => rfl) (fun _ => rfl)) <|
  symXR F ρ hB
end Go.Proofs.Ytcgfcefhafpngaa
