/-
  Narrow numbers made wide. No condition; nothing of one program stands here.
-/
import Derived.Test.YtljmhdaphpdkgaaSw
namespace Sx
open Go Ev Ieee
/-! ### wide numbers, narrow numbers -/
def inf64 : Nat := 9218868437227405312
theorem inf64_eq : double.infRung = inf64 := by decide
theorem inf32 : single.infRung = 2139095040 := by decide
def upK : Nat := 925
/-- made wide -/
def wide (u : Nat) : Nat := rungOf double (valW single u * 2 ^ upK) double.leastPlace
theorem write_num (f : Format) (g : Bool) (m : Nat) (e : Int) : f.write (.number g m e) = f.word g (rungOf f m e) := nearest_rungOf f g m e
theorem read_word (f : Format) {g : Bool} {r : Nat} (h : r < f.infRung) : ∃ m e, f.read (f.word g r) = .number g m e ∧ f.leastPlace ≤ e ∧ unitsOf m e f.leastPlace = valW f r ∧ (m = 0 ↔ r = 0) := by
  rw [word_cases f g (Nat.le_of_lt h)]
  have hB : 0 < f.binade := Nat.two_pow_pos _
  unfold valW unitsOf
  by_cases hb : r < f.binade
  · rw [if_pos hb, if_pos hb]
    exact ⟨_, _, rfl, Int.le_refl _, by rw [Int.sub_self]; exact Nat.mul_one _, Iff.rfl⟩
  · rw [if_neg hb, if_neg hb, if_pos h]
    refine ⟨_, _, rfl, by omega, ?_, ⟨fun e => by omega, fun e => by omega⟩⟩
    rw [show (f.leastPlace + ((r / f.binade - 1 : Nat) : Int) - f.leastPlace).toNat = r / f.binade - 1 by omega]
theorem wide_word {a : Nat} {g : Bool} {u : Nat} (hu : u < 2139095040) (h : single.read a = single.read (single.word g u)) : fcv .f32 .f64 a = double.word g (wide u) := by
  obtain ⟨m, e, h1, h2, h3, _⟩ := read_word single (g := g) (r := u) (by rw [inf32]; exact hu)
  unfold fcv
  rw [show FloatKind.f32.format.read a = .number g m e from h.trans h1]
  show double.write (.number g m e) = _
  have hl : single.leastPlace = -149 := by decide
  have hd : double.leastPlace = -1074 := by decide
  rw [write_num, rung_units double (base := double.leastPlace) (by omega) (Int.le_refl _)]
  unfold wide
  rw [← h3]
  unfold unitsOf
  rw [Nat.mul_assoc, ← Nat.pow_add, hl, hd, show (e - -149).toNat + upK = (e - -1074).toNat by unfold upK; omega]
def P0 : Nat := 5183643171103440896
theorem wide_hi {u : Nat} (h : u < 2139095040) : wide u ≤ P0 := by
  have h1 : wide u ≤ wide 2139095039 := rung_le double (Int.le_refl _) (Nat.mul_le_mul_right _ (valW_mono single (by omega)))
  have h2 : wide 2139095039 ≤ P0 := by decide +kernel
  exact Nat.le_trans h1 h2
theorem wide_inf {u : Nat} (h : u < 2139095040) : wide u < inf64 := Nat.lt_of_le_of_lt (wide_hi h) (by decide)
end Sx
