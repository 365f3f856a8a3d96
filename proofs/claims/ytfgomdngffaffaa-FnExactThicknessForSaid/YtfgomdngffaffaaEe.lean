/-
  The order of narrow numbers as an order of integers, and the first end among numbers. No condition; nothing of one program stands here.
-/
import Derived.Test.YtfgomdngffaffaaEv
namespace Ev
noncomputable section
open Go

/-! ### the order of narrow numbers, as an order of integers -/
def c150 : Nat := 150
def topN : Nat := 2 ^ c150 * 2 ^ c150
def topO : Int := (topN : Int)
theorem topO_pos : 0 < topO := by
  have : 0 < topN := Nat.mul_pos (Nat.two_pow_pos _) (Nat.two_pow_pos _)
  unfold topO
  omega
def ordV (x : Nat) : Int :=
  match Ieee.single.read x with
  | .number g m e => Ieee.signed g m (e + 149).toNat
  | .infinity g => if g then -topO else topO
  | .nan _ _ => 0
theorem signed_scale (g : Bool) (m a b : Nat) : Ieee.signed g m (a + b) = Ieee.signed g m a * 2 ^ b := by
  unfold Ieee.signed
  cases g
  · simp [Nat.shiftLeft_eq, Nat.pow_add, ← Nat.mul_assoc]
  · simp [Nat.shiftLeft_eq, Nat.pow_add, ← Nat.mul_assoc, Int.neg_mul]
theorem compare_scale (a b : Int) (k : Nat) : compare (a * 2 ^ k) (b * 2 ^ k) = compare a b := by
  have hp : (0 : Int) < 2 ^ k := Int.pow_pos (by decide)
  rcases Int.lt_trichotomy a b with h | h | h
  · rw [Int.compare_eq_lt.2 h, Int.compare_eq_lt.2 (Int.mul_lt_mul_of_pos_right h hp)]
  · rw [h]; simp
  · rw [Int.compare_eq_gt.2 h, Int.compare_eq_gt.2 (Int.mul_lt_mul_of_pos_right h hp)]
theorem signed_lt {g : Bool} {m : Nat} {e : Int} (hm : m < 2 ^ 24) (h0 : -149 ≤ e) (h1 : e ≤ 104) : -topO < Ieee.signed g m (e + 149).toNat ∧ Ieee.signed g m (e + 149).toNat < topO := by
  have hk : (e + 149).toNat ≤ 253 := by omega
  have h2 : m <<< (e + 149).toNat < topN := by
    rw [Nat.shiftLeft_eq]
    calc m * 2 ^ (e + 149).toNat < 2 ^ 24 * 2 ^ (e + 149).toNat := Nat.mul_lt_mul_of_pos_right hm (Nat.two_pow_pos _)
      _ = 2 ^ (24 + (e + 149).toNat) := by rw [Nat.pow_add]
      _ ≤ 2 ^ (c150 + c150) := Nat.pow_le_pow_right (by decide) (by unfold c150; omega)
      _ = topN := by rw [Nat.pow_add]; rfl
  unfold Ieee.signed topO
  generalize m <<< (e + 149).toNat = x at h2
  generalize topN = y at h2
  cases g
  · simp only [Bool.false_eq_true, if_false]; omega
  · simp only [if_true]; omega
theorem order_ord {x y : Nat} (hx : isN .f32 x = false) (hy : isN .f32 y = false) : FloatKind.f32.format.order x y = some (compare (ordV x) (ordV y)) := by
  show (Ieee.single.read x).order (Ieee.single.read y) = _
  have nx : (Ieee.single.read x).isNaN = false := hx
  have ny : (Ieee.single.read y).isNaN = false := hy
  unfold ordV
  rcases read_single x with ⟨g, m, e, h1, h2, h3, h4⟩ | ⟨g, h1⟩ | ⟨g, t, h1⟩
  · rcases read_single y with ⟨g', m', e', k1, k2, k3, k4⟩ | ⟨g', k1⟩ | ⟨g', t', k1⟩
    · rw [h1, k1]
      show some (compare (Ieee.signed g m (e - min e e').toNat) (Ieee.signed g' m' (e' - min e e').toNat)) = _
      have a : (e + 149).toNat = (e - min e e').toNat + (min e e' + 149).toNat := by omega
      have b : (e' + 149).toNat = (e' - min e e').toNat + (min e e' + 149).toNat := by omega
      dsimp only
      rw [a, b, signed_scale, signed_scale, compare_scale]
    · rw [h1, k1]
      have hb := signed_lt (g := g) h2 h3 h4
      cases g'
      · show some Ordering.lt = some (compare _ (if false = true then -topO else topO))
        rw [if_neg (by decide), Int.compare_eq_lt.2 hb.2]
      · show some Ordering.gt = some (compare _ (if true = true then -topO else topO))
        rw [if_pos rfl, Int.compare_eq_gt.2 hb.1]
    · rw [k1] at ny; cases ny
  · rcases read_single y with ⟨g', m', e', k1, k2, k3, k4⟩ | ⟨g', k1⟩ | ⟨g', t', k1⟩
    · rw [h1, k1]
      have hb := signed_lt (g := g') k2 k3 k4
      cases g
      · show some Ordering.gt = some (compare (if false = true then -topO else topO) _)
        rw [if_neg (by decide), Int.compare_eq_gt.2 hb.2]
      · show some Ordering.lt = some (compare (if true = true then -topO else topO) _)
        rw [if_pos rfl, Int.compare_eq_lt.2 hb.1]
    · rw [h1, k1]
      have hp := topO_pos
      cases g <;> cases g'
      · show some (compare (false.toNat) (false.toNat)) = some (compare topO topO)
        simp
      · show some (compare (true.toNat) (false.toNat)) = some (compare topO (-topO))
        rw [Int.compare_eq_gt.2 (by omega)]; rfl
      · show some (compare (false.toNat) (true.toNat)) = some (compare (-topO) topO)
        rw [Int.compare_eq_lt.2 (by omega)]; rfl
      · show some (compare (true.toNat) (true.toNat)) = some (compare (-topO) (-topO))
        simp
    · rw [k1] at ny; cases ny
  · rw [h1] at nx; cases nx
theorem order_nan {x y : Nat} (h : isN .f32 x = true ∨ isN .f32 y = true) : FloatKind.f32.format.order x y = none := by
  show (Ieee.single.read x).order (Ieee.single.read y) = _
  rcases h with h | h
  · obtain ⟨s, t, e⟩ := read_N h
    have e : Ieee.single.read x = _ := e
    rw [e]
    cases Ieee.single.read y <;> rfl
  · obtain ⟨s, t, e⟩ := read_N h
    have e : Ieee.single.read y = _ := e
    rw [e]
    cases Ieee.single.read x <;> rfl
/-- less, or greater -/
def cmpE (g : Bool) (x y : Nat) : Bool := bif g then fgt .f32 x y else flt .f32 x y
def ordE (g : Bool) (x : Nat) : Int := bif g then -(ordV x) else ordV x
theorem cmpE_ord {g : Bool} {x y : Nat} : cmpE g x y = (!isN .f32 x && (!isN .f32 y && decide (ordE g x < ordE g y))) := by
  cases hx : isN .f32 x with
  | true =>
    have := order_nan (x := x) (y := y) (.inl hx)
    unfold cmpE flt fgt
    rw [this]
    cases g <;> rfl
  | false =>
    cases hy : isN .f32 y with
    | true =>
      have := order_nan (x := x) (y := y) (.inr hy)
      unfold cmpE flt fgt
      rw [this]
      cases g <;> rfl
    | false =>
      have := order_ord hx hy
      unfold cmpE flt fgt ordE
      rw [this]
      rcases Int.lt_trichotomy (ordV x) (ordV y) with h | h | h
      · rw [Int.compare_eq_lt.2 h]
        cases g
        · simp [h]
        · simp; omega
      · rw [h]
        cases g <;> simp
      · rw [Int.compare_eq_gt.2 h]
        cases g
        · simp; omega
        · simp; omega
/-! ### the first end among numbers -/
def endAt (g : Bool) (z : Nat → Nat) : Nat → Option Nat
  | 0 => none
  | i + 1 => bif isN .f32 (z i) then endAt g z i else match endAt g z i with
    | none => some i
    | some a => bif cmpE g (z i) (z a) then some i else some a
theorem endAt_none {g : Bool} {z : Nat → Nat} : ∀ {n : Nat}, endAt g z n = none → ∀ j, j < n → isN .f32 (z j) = true
  | 0, _, j, hj => absurd hj (Nat.not_lt_zero _)
  | n + 1, h, j, hj => by
    unfold endAt at h
    cases hn : isN .f32 (z n) with
    | true =>
      rw [hn, cond_true] at h
      rcases Nat.lt_succ_iff_lt_or_eq.1 hj with hlt | rfl
      · exact endAt_none h j hlt
      · exact hn
    | false =>
      rw [hn, cond_false] at h
      split at h
      · cases h
      · rename_i a _
        cases hc : cmpE g (z n) (z a) <;> rw [hc] at h <;> cases h
theorem endAt_some {g : Bool} {z : Nat → Nat} : ∀ {n a : Nat}, endAt g z n = some a → a < n ∧ isN .f32 (z a) = false ∧ (∀ j, j < n → isN .f32 (z j) = false → ordE g (z a) ≤ ordE g (z j)) ∧ ∀ j, j < a → isN .f32 (z j) = false → ordE g (z a) < ordE g (z j)
  | 0, a, h => by cases h
  | n + 1, a, h => by
    unfold endAt at h
    cases hn : isN .f32 (z n) with
    | true =>
      rw [hn, cond_true] at h
      obtain ⟨h1, h2, h3, h4⟩ := endAt_some h
      refine ⟨by omega, h2, fun j hj hjn => ?_, h4⟩
      rcases Nat.lt_succ_iff_lt_or_eq.1 hj with hlt | rfl
      · exact h3 j hlt hjn
      · rw [hn] at hjn; cases hjn
    | false =>
      rw [hn, cond_false] at h
      split at h
      · rename_i he
        cases h
        have hall := endAt_none he
        refine ⟨by omega, hn, fun j hj hjn => ?_, fun j hj hjn => ?_⟩
        · rcases Nat.lt_succ_iff_lt_or_eq.1 hj with hlt | rfl
          · rw [hall j hlt] at hjn; cases hjn
          · exact Int.le_refl _
        · rw [hall j hj] at hjn; cases hjn
      · rename_i b he
        obtain ⟨h1, h2, h3, h4⟩ := endAt_some he
        have ho := cmpE_ord (g := g) (x := z n) (y := z b)
        rw [hn, h2] at ho
        cases hc : cmpE g (z n) (z b) with
        | true =>
          rw [hc, cond_true] at h
          cases h
          rw [hc] at ho
          have hlt : ordE g (z n) < ordE g (z b) := by simpa using ho.symm
          refine ⟨by omega, hn, fun j hj hjn => ?_, fun j hj hjn => ?_⟩
          · rcases Nat.lt_succ_iff_lt_or_eq.1 hj with hl | rfl
            · have := h3 j hl hjn; omega
            · exact Int.le_refl _
          · have := h3 j hj hjn; omega
        | false =>
          rw [hc, cond_false] at h
          cases h
          rw [hc] at ho
          have hle : ordE g (z a) ≤ ordE g (z n) := by
            have := ho.symm
            simp only [Bool.not_false, Bool.true_and, decide_eq_false_iff_not] at this
            omega
          refine ⟨by omega, h2, fun j hj hjn => ?_, h4⟩
          rcases Nat.lt_succ_iff_lt_or_eq.1 hj with hl | rfl
          · exact h3 j hl hjn
          · exact hle
/-- none of the first n numbers lies beyond -/
def noneBeyond (g : Bool) (z : Nat → Nat) (a : Nat) : Nat → Bool
  | 0 => true
  | j + 1 => noneBeyond g z a j && !cmpE g (z j) a
theorem noneBeyond_iff {g : Bool} {z : Nat → Nat} {a : Nat} : ∀ {n : Nat}, noneBeyond g z a n = true ↔ ∀ j, j < n → cmpE g (z j) a = false
  | 0 => ⟨fun _ j hj => absurd hj (Nat.not_lt_zero _), fun _ => rfl⟩
  | n + 1 => by
    unfold noneBeyond
    rw [Bool.and_eq_true, noneBeyond_iff (n := n)]
    constructor
    · rintro ⟨h1, h2⟩ j hj
      rcases Nat.lt_succ_iff_lt_or_eq.1 hj with hl | rfl
      · exact h1 j hl
      · simpa using h2
    · intro h
      exact ⟨fun j hj => h j (by omega), by rw [h n (by omega)]; rfl⟩
/-- is this one taken? -/
def takenE (g : Bool) (z : Nat → Nat) (m i : Nat) : Bool := !isN .f32 (z i) && noneBeyond g z (z i) m
/-- the first one that is taken is the end -/
theorem end_taken {g : Bool} {z : Nat → Nat} {m a : Nat} (h : endAt g z m = some a) : takenE g z m a = true ∧ ∀ i, i < a → takenE g z m i = false := by
  obtain ⟨h1, h2, h3, h4⟩ := endAt_some h
  unfold takenE
  refine ⟨?_, fun i hi => ?_⟩
  · rw [h2, Bool.not_false, Bool.true_and, noneBeyond_iff]
    intro j hj
    rw [cmpE_ord]
    cases hn : isN .f32 (z j) with
    | true => rfl
    | false =>
      have := h3 j hj hn
      rw [h2]
      simp; omega
  · cases hn : isN .f32 (z i) with
    | true => rfl
    | false =>
      rw [Bool.not_false, Bool.true_and]
      cases hb : noneBeyond g z (z i) m with
      | false => rfl
      | true =>
        have := noneBeyond_iff.1 hb a h1
        rw [cmpE_ord, h2, hn] at this
        have hl := h4 i hi hn
        simp at this
        omega
theorem none_taken {g : Bool} {z : Nat → Nat} {m : Nat} (h : endAt g z m = none) : ∀ i, i < m → takenE g z m i = false := fun i hi => by
  unfold takenE
  rw [endAt_none h i hi]; rfl
end
end Ev
