/-
  Curves: their texts, by the model. No condition.
-/
import Derived.Test.YtbidagapkcmfnaaDoorHe
noncomputable section
namespace Go.Proofs.YtbidagapkcmfnaaDoor
namespace Ty
open Tx Go Go.RowKit
/-- a number's text -/
def hx (a : Nat) : ByteArray := hexB (nB a)
/-- the texts of z 0, z 1, .. z k, a blank between two -/
def rowT (z : Nat → Nat) : Nat → ByteArray
  | 0 => hx (z 0)
  | k + 1 => (rowT z k ++ ⟨#[32]⟩) ++ hx (z (k + 1))
def rowU (z : Nat → Nat) (k : Nat) : ByteArray := rowT z k ++ ⟨#[32]⟩
theorem hx_size (a : Nat) : (hx a).size = 8 := rfl
theorem rowT_size (z : Nat → Nat) : ∀ k, (rowT z k).size = 9 * k + 8
  | 0 => rfl
  | k + 1 => by
    unfold rowT
    rw [ByteArray.size_append, ByteArray.size_append, rowT_size z k, hx_size]
    show 9 * k + 8 + 1 + 8 = _
    omega
theorem emp_app (b : ByteArray) : (⟨#[]⟩ : ByteArray) ++ b = b := by
  apply ByteArray.ext
  simp
theorem run_u (z : Nat → Nat) (k : Nat) (h : k < 1000) (W : World) : (Op.stringOp .add (rowT z k) ⟨#[32]⟩).run Tryd.prog W = .ok (.string (rowU z k)) W := by
  have := rowT_size z k
  have h1 : (⟨#[32]⟩ : ByteArray).size = 1 := rfl
  rw [cat_run _ _ (by omega)]; rfl
theorem run_t (z : Nat → Nat) (k : Nat) (h : k < 1000) (W : World) : (Op.stringOp .add (rowU z k) (hx (z (k + 1)))).run Tryd.prog W = .ok (.string (rowT z (k + 1))) W := by
  have := rowT_size z k
  have h1 : (⟨#[32]⟩ : ByteArray).size = 1 := rfl
  have h2 : (rowU z k).size = 9 * k + 9 := by unfold rowU; rw [ByteArray.size_append]; omega
  have h3 := hx_size (z (k + 1))
  rw [cat_run _ _ (by omega)]; rfl
/-- the sixteen numbers lie in a block -/
def Cv (z : Nat → Nat) (b : Nat) (w : World) : Prop := b < w.heap.size ∧ ∀ j, j < 16 → w.cell? ⟨b, j, none⟩ = some (.float .f32 (z j))
theorem cv_below {z : Nat → Nat} {b : Nat} {w w' : World} (hb : Below w.heap.size w w') (h : Cv z b w) : Cv z b w' :=
  ⟨Nat.lt_of_lt_of_le h.1 hb.size, fun j hj => (hb.cell (p := ⟨b, j, none⟩) h.1).trans (h.2 j hj)⟩
end Ty
end Go.Proofs.YtbidagapkcmfnaaDoor
end
