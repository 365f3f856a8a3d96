/-
  Numbers that are finite. No condition.
-/
import Derived.Test.YtbidagapkcmfnaaDoorFl
import Derived.Laws.FloatArith
noncomputable section
namespace Ev
open Go Ieee
/-- a number that is no infinity -/
def finB (a : Nat) : Bool := match Ieee.single.read a with | .number _ _ _ => true | _ => false
theorem fin_model (a : Nat) : feq .f32 (fsub .f32 a a) 0 = finB a := by
  have hs : fsub .f32 a a = o2 .f32 (((Ieee.single.read a).sum (Ieee.single.read a).opposite).map Ieee.single.write) := rfl
  rw [hs]
  unfold finB
  rcases read_single a with ⟨g, m, e, h, hm, he, he'⟩ | ⟨g, h⟩ | ⟨g, t, h⟩
  · rw [h]
    have : (Datum.number g m e).sum (Datum.number g m e).opposite = some (.number false 0 e) := by
      simp only [Datum.opposite, Datum.sum, Int.min_self, Int.sub_self]
      cases g <;> simp [Ieee.signed] <;> omega
    rw [this]
    show feq .f32 (Ieee.single.nearest false 0 e) 0 = true
    unfold Format.nearest
    rw [if_pos rfl]
    decide +kernel
  · rw [h]
    cases g <;> decide +kernel
  · rw [h]
    show feq .f32 (qn .f32) 0 = false
    decide +kernel
theorem fin_cmp {a : Nat} (h : fge .f32 a 0 = true) : fle .f32 a 2139095039 = finB a := by
  have h0 : single.read 0 = .number false 0 (-149) := by decide +kernel
  have hm : single.read 2139095039 = .number false 16777215 104 := by decide +kernel
  have h : (single.order a 0 == some .gt || single.order a 0 == some .eq) = true := h
  show (single.order a 2139095039 == some .lt || single.order a 2139095039 == some .eq) = _
  unfold finB
  unfold Format.order at h ⊢
  rw [h0] at h
  rw [hm]
  rcases read_single a with ⟨g, m, e, hr, h1, h2, h3⟩ | ⟨g, hr⟩ | ⟨g, t, hr⟩
  · rw [hr]
    simp only [Datum.order]
    rw [Int.min_eq_left (by omega)]
    have a1 : (e - e).toNat = 0 := by omega
    obtain ⟨d, hd⟩ : ∃ d : Nat, 104 = e + d := ⟨(104 - e).toNat, by omega⟩
    have a2 : (104 - e).toNat = d := by omega
    rw [a1, a2]
    have hp : 1 ≤ 2 ^ d := Nat.one_le_two_pow
    have hle : m ≤ 16777215 * 2 ^ d := by
      calc m ≤ 16777215 * 1 := by omega
        _ ≤ 16777215 * 2 ^ d := Nat.mul_le_mul_left _ hp
    have key : signed g m 0 ≤ signed false 16777215 d := by
      have e2 : signed false 16777215 d = ((16777215 * 2 ^ d : Nat) : Int) := by
        unfold signed
        rw [Nat.shiftLeft_eq]
        rfl
      rw [e2]
      have e3 : signed g m 0 = if g then -((m : Nat) : Int) else ((m : Nat) : Int) := by
        unfold signed
        rw [Nat.shiftLeft_eq, Nat.pow_zero, Nat.mul_one]
      rw [e3]
      generalize 16777215 * 2 ^ d = z at hle
      cases g with
      | false => exact Int.ofNat_le.2 hle
      | true =>
        rw [if_pos rfl]
        omega
    rcases Int.lt_or_eq_of_le key with hl | hl
    · rw [Int.compare_eq_lt.2 hl]; rfl
    · rw [Int.compare_eq_eq.2 hl]; rfl
  · rw [hr] at h ⊢
    cases g with
    | true => exact absurd h (by decide)
    | false => rfl
  · rw [hr]; rfl

end Ev
end
