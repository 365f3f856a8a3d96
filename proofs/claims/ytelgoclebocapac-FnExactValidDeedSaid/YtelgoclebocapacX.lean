/-
  What the symbolic runs of exact laws lean on, at this program: which functions are told by contracts (one and the same number; is it finite?). No condition.
-/
import Derived.Test.YtelgoclebocapacC
import Derived.Test.YtelgoclebocapacSx
import Derived.WalkSpells
import Derived.WalkLawsBesides
noncomputable section
namespace Go.Proofs.Ytelgoclebocapac
open Go.ChangeShapes Go.WideShapes Go.ChangeAt Go.RowKit Ev Sx


theorem sfO_eq : sfO = sameO64 := rfl
def orcX : List (Nat × Sig) := [
  (78, eqN 16),
  (43, idN 16),
  (79, sameO64)]
theorem orcXOk : ∀ p ∈ orcX, OrcOne Try.prog p.1 p.2 :=
  all_cons ec_one <|
  all_cons tc_one <|
  all_cons (sfO_eq ▸ sf_one) all_nil
def symX : List (Nat × SymF) := [
  (78, eqSy 16),
  (43, idSy 16),
  (79, sameFSy)]
theorem symXR {U : Nat → Vl → Vl} (F : Tab) (ρ : Nat → Int) (hB : Base F ρ U) : ListR F ρ U symX (fun f => seek f orcX) :=
  ListR.cons (eqSy_ok hB) <|
  ListR.cons idSy_ok <|
  ListR.cons (sameFSy_ok hB) ListR.nil
def extX : List (Nat × Sig) := [
  ]
theorem extXOk : ∀ p ∈ extX, ExtOne Try.prog p.1 p.2 :=
  all_nil
def symE : List (Nat × SymF) := [
  ]
theorem symER {U : Nat → Vl → Vl} (F : Tab) (ρ : Nat → Int) (hB : Base F ρ U) : ListR F ρ U symE (fun f => seek f extX) :=
  (fun (_ : Base F ρ U) => ListR.nil) hB
end Go.Proofs.Ytelgoclebocapac
end
