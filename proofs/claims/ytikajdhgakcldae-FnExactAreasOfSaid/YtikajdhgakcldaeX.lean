/-
  What the symbolic runs of exact laws lean on, at this program: which functions are told by contracts (one and the same number; is it finite?). No condition.
-/
import Derived.Test.YtikajdhgakcldaeC
import Derived.Test.YtikajdhgakcldaeSx
import Derived.WalkSpells
import Derived.WalkLawsBesides
noncomputable section
namespace Go.Proofs.Ytikajdhgakcldae
open Go.ChangeShapes Go.WideShapes Go.ChangeAt Go.RowKit Ev Sx


theorem sfO_eq : sfO = sameO64 := rfl
def orcX : List (Nat × Sig) := [
  (48, idN 16),
  (25, sameO64)]
theorem orcXOk : ∀ p ∈ orcX, OrcOne Try.prog p.1 p.2 :=
  all_cons tc_one <|
  all_cons (sfO_eq ▸ sf_one) all_nil
def symX : List (Nat × SymF) := [
  (48, idSy 16),
  (25, sameFSy)]
theorem symXR {U : Nat → Vl → Vl} (F : Tab) (ρ : Nat → Int) (hB : Base F ρ U) : ListR F ρ U symX (fun f => seek f orcX) :=
  ListR.cons idSy_ok <|
  ListR.cons (sameFSy_ok hB) ListR.nil
def extX : List (Nat × Sig) := [
  ]
theorem extXOk : ∀ p ∈ extX, ExtOne Try.prog p.1 p.2 :=
  all_nil
def symE : List (Nat × SymF) := [
  ]
theorem symER {U : Nat → Vl → Vl} (F : Tab) (ρ : Nat → Int) (hB : Base F ρ U) : ListR F ρ U symE (fun f => seek f extX) :=
  (fun (_ : Base F ρ U) => ListR.nil) hB
end Go.Proofs.Ytikajdhgakcldae
end
