/-
  The contracts of the symbolic runs, with those of bits: 'bitsOf' and 'l01Same'. No condition.
-/
import Derived.Test.YtikajdhgakcldacX
import Derived.Test.YtikajdhgakcldacS
noncomputable section
namespace Go.Proofs.Ytikajdhgakcldac
open Go.ChangeShapes Go.WideShapes Go.ChangeAt Go.RowKit Ev Sx

theorem bitsO_eq : bitsO = bitsO32 := rfl
theorem sameO_eq : sameO = sameO32 := rfl
def orcY : List (Nat × Sig) := (97, bitsO32) :: (96, sameO32) :: orcX
theorem orcYOk : ∀ p ∈ orcY, OrcOne Try.prog p.1 p.2 := all_cons (bitsO_eq ▸ bits_one) (all_cons (sameO_eq ▸ same_one) orcXOk)
def symY : List (Nat × SymF) := (97, bitsSy) :: (96, sameSy) :: symX
theorem symYR {U : Nat → Vl → Vl} (F : Tab) (ρ : Nat → Int) (hB : Base F ρ U) : ListR F ρ U symY (fun f => seek f orcY) := ListR.cons bitsSy_ok (ListR.cons (sameSy_ok hB) (symXR F ρ hB))
end Go.Proofs.Ytikajdhgakcldac
end
