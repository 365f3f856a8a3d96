/-
  The contracts of the symbolic runs, with those of bits: 'bitsOf' and 'l01Same'. No condition.
-/
import Derived.Test.YtobajdokfkimdaaX
import Derived.Test.YtobajdokfkimdaaS
noncomputable section
namespace Go.Proofs.Ytobajdokfkimdaa
open Go.ChangeShapes Go.WideShapes Go.ChangeAt Go.RowKit Ev Sx

theorem bitsO_eq : bitsO = bitsO32 := rfl
theorem sameO_eq : sameO = sameO32 := rfl
def orcY : List (Nat × Sig) := (186, bitsO32) :: (170, sameO32) :: orcX
theorem orcYOk : ∀ p ∈ orcY, OrcOne Try.prog p.1 p.2 := all_cons (bitsO_eq ▸ bits_one) (all_cons (sameO_eq ▸ same_one) orcXOk)
def symY : List (Nat × SymF) := (186, bitsSy) :: (170, sameSy) :: symX
theorem symYR {U : Nat → Vl → Vl} (F : Tab) (ρ : Nat → Int) (hB : Base F ρ U) : ListR F ρ U symY (fun f => seek f orcY) := ListR.cons bitsSy_ok (ListR.cons (sameSy_ok hB) (symXR F ρ hB))
end Go.Proofs.Ytobajdokfkimdaa
end
