/-
  The symbolic executor goes on: the cells of what came in as variables ('svs_conc'). No condition; nothing of one program stands here.
-/
import Derived.Test.YtfgomdngffaffaaSy
import Derived.Test.YtfgomdngffaffaaEt
set_option linter.unusedSectionVars false
noncomputable section
namespace Sx
open Go Ev Go.RowKit

/-- cells of these kinds, from variable 'j' on; narrow numbers are wrapped, from node 'w' on -/
def svsK : List CK → Nat → Nat → List SV
  | [], _, _ => []
  | .s :: r, j, w => .s (j + 2) :: svsK r (j + 1) w
  | .f k :: r, j, w => .f k (j + 2) :: svsK r (j + 1) w
  | .i .i64 :: r, j, w => .n .i64 (j + 2) :: svsK r (j + 1) w
  | .i k :: r, j, w => .n k w :: svsK r (j + 1) (w + 1)
  | .b :: r, j, w => .lit (.bool false) :: svsK r (j + 1) w
/-! ### arguments as variables -/
/-- an argument: a row of cells, or one value -/
inductive AK where
  | row (ks : List CK)
  | one (k : CK)
def AK.ks : AK → List CK
  | .row ks => ks
  | .one k => [k]
def AK.sv (a : AK) (j w : Nat) : SV :=
  match a with
  | .row ks => .agg (svsK ks j w)
  | .one k => (svsK [k] j w).headD (.lit undef)
end Sx
end
