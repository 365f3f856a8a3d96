/-
  Drift: a quotient by 0 is within no bounds. No condition.
-/
import Derived.Test.YtljmhdaphpdkgaaJb
set_option linter.unusedSectionVars false
set_option linter.unusedVariables false
noncomputable section
namespace Go.Proofs.Ytljmhdaphpdkgaa
namespace Dr
open Go Go.ChangeShapes Go.WideShapes Go.ChangeAt Go.RowKit Ev
/-- a number that equals 0 is one of the two zeros -/
theorem read_zero {x : Nat} (h : feq .f32 x 0 = true) : ∃ s i, FloatKind.f32.format.read x = .number s 0 i := by
  unfold feq Ieee.Format.order at h
  have h0 : FloatKind.f32.format.read 0 = .number false 0 FloatKind.f32.format.leastPlace := by decide +kernel
  rw [h0] at h
  cases hx : FloatKind.f32.format.read x with
  | nan s t => rw [hx] at h; cases h
  | infinity s => rw [hx] at h; cases s <;> cases h
  | number s m i =>
    rw [hx] at h
    refine ⟨s, i, ?_⟩
    have h : (some (compare (Ieee.signed s m (i - min i FloatKind.f32.format.leastPlace).toNat) (Ieee.signed false 0 (FloatKind.f32.format.leastPlace - min i FloatKind.f32.format.leastPlace).toNat)) == some Ordering.eq) = true := h
    rw [beq_iff_eq, Option.some.injEq, Int.compare_eq_eq] at h
    have hz : ∀ k, Ieee.signed false 0 k = 0 := fun k => by
      unfold Ieee.signed
      rw [if_neg (by decide), Nat.zero_shiftLeft]; rfl
    rw [hz] at h
    have hm : m = 0 := by
      unfold Ieee.signed at h
      generalize (i - min i FloatKind.f32.format.leastPlace).toNat = k at h
      have : m <<< k = 0 := by
        split at h <;> omega
      rw [Nat.shiftLeft_eq] at this
      rcases Nat.mul_eq_zero.1 this with h | h
      · exact h
      · exact absurd h (Nat.ne_of_gt (Nat.two_pow_pos k))
    rw [hm]
theorem div_zero {x y : Nat} (h : feq .f32 y 0 = true) : fdiv .f32 x y = qn .f32 ∨ ∃ s, fdiv .f32 x y = FloatKind.f32.format.write (.infinity s) := by
  obtain ⟨s, i, hy⟩ := read_zero h
  unfold fdiv Ieee.Format.div
  rw [hy]
  cases hx : FloatKind.f32.format.read x with
  | nan s t => exact .inl rfl
  | infinity s => exact .inr ⟨_, rfl⟩
  | number t m j =>
    by_cases hm : m = 0
    · subst hm; exact .inl rfl
    · refine .inr ⟨t ^^ s, ?_⟩
      simp only [Ieee.Datum.quotient, if_true, if_neg hm, Option.map_some]
      rfl
def loF : Nat := 3129152111
def hiF : Nat := 981668463
theorem div_out {x y : Nat} (h : feq .f32 y 0 = true) : (fge .f32 (fdiv .f32 x y) loF && fle .f32 (fdiv .f32 x y) hiF) = false := by
  rcases div_zero (x := x) h with e | ⟨s, e⟩
  · rw [e]; decide +kernel
  · rw [e]; cases s <;> decide +kernel
end Dr
end Go.Proofs.Ytljmhdaphpdkgaa
end
