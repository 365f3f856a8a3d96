/-
  Layers: their texts, by the model, whatever the layer. No condition.
-/
import Derived.Test.YtbidagapkcmfnaaDoorLd
noncomputable section
namespace Go.Proofs.YtbidagapkcmfnaaDoor
namespace Ty
open Tx Go Go.RowKit Ev Ieee
/-- the layer's text, or none -/
def lyA (z s : Nat → Nat) (t : Nat) : ByteArray := if okL z s t = true then lyT z s t else ⟨#[]⟩
end Ty
end Go.Proofs.YtbidagapkcmfnaaDoor
end
