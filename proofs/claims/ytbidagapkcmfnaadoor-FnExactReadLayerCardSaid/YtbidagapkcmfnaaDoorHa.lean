/-
  Numbers: their texts, by the model. No condition.
-/
import Derived.Test.YtbidagapkcmfnaaDoorHf
noncomputable section
namespace Go.Proofs.YtbidagapkcmfnaaDoor
namespace Tx
open Go Go.RowKit
/-- the last of a number's digits to the base 16 -/
def hexD (n : Nat) : UInt8 := if n % 16 < 10 then UInt8.ofNat (48 + n % 16) else UInt8.ofNat (87 + n % 16)
theorem hexC (n : Nat) (h : n % 16 < (⟨#[48, 49, 50, 51, 52, 53, 54, 55, 56, 57, 97, 98, 99, 100, 101, 102]⟩ : ByteArray).size) : (⟨#[48, 49, 50, 51, 52, 53, 54, 55, 56, 57, 97, 98, 99, 100, 101, 102]⟩ : ByteArray)[n % 16] = hexD n := by
  unfold hexD
  have hl : n % 16 < 16 := Nat.mod_lt _ (by decide)
  generalize n % 16 = m at *
  match m, hl with
  | 0, _ | 1, _ | 2, _ | 3, _ | 4, _ | 5, _ | 6, _ | 7, _ | 8, _ | 9, _ | 10, _ | 11, _ | 12, _ | 13, _ | 14, _ | 15, _ => rfl
  | k + 16, h => exact absurd h (by omega)
/-- eight digits -/
def hexB (n : Nat) : ByteArray := ⟨#[hexD (n / 16 / 16 / 16 / 16 / 16 / 16 / 16), hexD (n / 16 / 16 / 16 / 16 / 16 / 16), hexD (n / 16 / 16 / 16 / 16 / 16), hexD (n / 16 / 16 / 16 / 16), hexD (n / 16 / 16 / 16), hexD (n / 16 / 16), hexD (n / 16), hexD n]⟩
end Tx
end Go.Proofs.YtbidagapkcmfnaaDoor
end
