/-
  What the symbolic runs of exact laws lean on, at this program: which functions are told by contracts (one and the same number; is it finite?). No condition.
-/
import Derived.Test.YtcgfcefhafpngabC
import Derived.Test.YtcgfcefhafpngabSx
import Derived.WalkSpells
import Derived.WalkLawsBesides
namespace Go.Proofs.Ytcgfcefhafpngab
open Go.ChangeShapes Go.WideShapes Go.ChangeAt Go.RowKit Ev Sx


theorem sfO_eq : sfO = sameO64 := rfl
def orcX : List (Nat × Sig) := [
  (65, sameO64)]
theorem orcXOk : ∀ p ∈ orcX, OrcOne Try.prog p.1 p.2 :=
  all_cons (sfO_eq ▸ sf_one) all_nil
def symX : List (Nat × SymF) := [
  (65, sameFSy)]
theorem symXR {U : Nat → Vl → Vl} (F : Tab) (ρ : Nat → Int) (hB : Base F ρ U) : ListR F ρ U symX (fun f => seek f orcX) :=
  ListR.cons sameFSy_ok ListR.nil
def extX : List (Nat × Sig) := [
  (128, f32bitsO),
  ]
theorem extXOk : ∀ p ∈ extX, ExtOne Try.prog p.1 p.2 :=
  all_cons (f32bits_one isF32bits) <|
  all_nil
def symE : List (Nat × SymF) := [
  (128, f32bitsS),
  ]
theorem symER {U : Nat → Vl → Vl} (F : Tab) (ρ : Nat → Int) (hB : Base F ρ U) : ListR F ρ U symE (fun f => seek f extX) :=
  ListR.cons (f32bitsS_ok hB) <|
  (fun (_ : Base F ρ U) => ListR.nil) hB
end Go.Proofs.Ytcgfcefhafpngab
