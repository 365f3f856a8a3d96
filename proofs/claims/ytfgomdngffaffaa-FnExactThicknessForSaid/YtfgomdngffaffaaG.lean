/-
  The contract of the function that defers a closure which recovers ('doubledFilm'): it answers what the evaluator finds of it, with its panics. No condition.
-/
import Derived.Test.YtfgomdngffaffaaW
import Derived.Test.YtfgomdngffaffaaSp
noncomputable section
namespace Go.Proofs.Ytfgomdngffaffaa
open Go.ChangeShapes Go.WideShapes Go.ChangeAt Go.RowKit Ev Sx

def usG : List Nat := [74, 73, 94]
def psG : List Nat := [71]
def envG (P : Program) : EnvX := ⟨P, fun f => seek f extX, funPL P (fun f => seek f extX) (fun f => seek f orcX) usG psG 300 30 3⟩
theorem orcGuard : OrcOne Try.prog 60 (guardO (envG Try.prog) 300 60) :=
  guard_one mixed (by kernel_rfl) (by kernel_rfl) extXOk orcXOk (by kernel_rfl)
def orcG (P : Program) : List (Nat × Sig) := (60, guardO (envG P) 300 60) :: orcW
theorem orcGOk : ∀ p ∈ orcG Try.prog, OrcOne Try.prog p.1 p.2 := all_cons orcGuard orcWOk
def symG (P : Program) : List (Nat × SymF) := (60, guardSy (envQ P symE symX usG psG 300 30 3) 300 60) :: symW
theorem symGR (F : Tab) (ρ : Nat → Int) (hB : Base F ρ (fun _ _ => .i 0)) : ListR F ρ (fun _ _ => .i 0) (symG Try.prog) (fun f => seek f (orcG Try.prog)) :=
  ListR.cons (guardSy_ok hB (funQ_spec hB (symER F ρ hB) (symXR F ρ hB) (by kernel_rfl) 3)) (symWR F ρ hB)
end Go.Proofs.Ytfgomdngffaffaa
end
