/-
  Floats whose order rounding keeps: sums, products, quotients, differences; loops and steps towards a third root, on boxes. No condition; nothing of one program stands here.
-/
import Derived.Test.YtofjdlhalbeniaaSw
import Derived.ProofKit
namespace Sx
open Go Ev Ieee

/-! ### rounding keeps the order -/
/-- the even one of the nearest whole numbers to 'n / 2 ^ d' -/
def rne (n d : Nat) : Nat := n / 2 ^ d + (decide (2 ^ d < 2 * (n % 2 ^ d)) || (2 ^ d == 2 * (n % 2 ^ d) && n / 2 ^ d % 2 == 1)).toNat
theorem toNat_le (b : Bool) : b.toNat ≤ 1 := by cases b <;> decide
theorem cut_rne (g : Bool) (n d : Nat) : Toward.even.cut g n d = rne n d := by
  unfold Toward.cut rne
  simp only
  by_cases hd : d ≤ n.log2 + 2
  · rw [Nat.min_eq_left hd, Nat.one_shiftLeft]
  · have h1 : n < 2 ^ (n.log2 + 1) := Nat.lt_log2_self
    have h2 : 2 ^ (n.log2 + 2) = 2 * 2 ^ (n.log2 + 1) := by rw [Nat.pow_succ, Nat.mul_comm]
    have h3 : 2 ^ (n.log2 + 2) ≤ 2 ^ d := Nat.pow_le_pow_right (by decide) (by omega)
    rw [Nat.min_eq_right (by omega), Nat.one_shiftLeft]
    generalize 2 ^ (n.log2 + 1) = p at h1 h2
    generalize 2 ^ (n.log2 + 2) = q at h2 h3
    generalize 2 ^ d = r at h3
    have a1 : n / q = 0 := Nat.div_eq_of_lt (by omega)
    have a2 : n / r = 0 := Nat.div_eq_of_lt (by omega)
    have a3 : n % q = n := Nat.mod_eq_of_lt (by omega)
    have a4 : n % r = n := Nat.mod_eq_of_lt (by omega)
    rw [a1, a2, a3, a4]
    have b1 : ¬ q < 2 * n := by omega
    have b2 : ¬ r < 2 * n := by omega
    simp [b1, b2]
theorem rne_le {n m d : Nat} (h : n ≤ m) : rne n d ≤ rne m d := by
  unfold rne
  have hp : 0 < 2 ^ d := Nat.two_pow_pos d
  generalize 2 ^ d = p at hp
  have hn := Nat.div_add_mod n p
  have hm := Nat.div_add_mod m p
  have hq : n / p ≤ m / p := Nat.div_le_div_right h
  rcases Nat.lt_or_eq_of_le hq with hl | he
  · have := toNat_le (decide (p < 2 * (n % p)) || (p == 2 * (n % p) && n / p % 2 == 1))
    omega
  · rw [he] at hn ⊢
    have hr : n % p ≤ m % p := by omega
    have : (decide (p < 2 * (n % p)) || (p == 2 * (n % p) && m / p % 2 == 1)).toNat ≤ (decide (p < 2 * (m % p)) || (p == 2 * (m % p) && m / p % 2 == 1)).toNat := by
      by_cases h1 : p < 2 * (m % p)
      · rw [decide_eq_true h1, Bool.true_or]
        exact toNat_le _
      · have h2 : ¬ p < 2 * (n % p) := by omega
        rw [decide_eq_false h1, decide_eq_false h2, Bool.false_or, Bool.false_or]
        by_cases h3 : p = 2 * (n % p)
        · have h4 : p = 2 * (m % p) := by omega
          have e : n % p = m % p := by omega
          rw [e]
          exact Nat.le_refl _
        · have : (p == 2 * (n % p)) = false := by simpa using h3
          rw [this, Bool.false_and]
          exact Nat.zero_le _
    omega
theorem rne_scale (n d k : Nat) : rne (n * 2 ^ k) (d + k) = rne n d := by
  unfold rne
  have hk : 0 < 2 ^ k := Nat.two_pow_pos k
  rw [Nat.pow_add]
  generalize 2 ^ k = q at hk
  generalize 2 ^ d = p
  have e1 : n * q / (p * q) = n / p := Nat.mul_div_mul_right _ _ hk
  have e2 : n * q % (p * q) = n % p * q := Nat.mul_mod_mul_right ..
  rw [e1, e2]
  have e3 : (p * q < 2 * (n % p * q)) ↔ (p < 2 * (n % p)) := by
    rw [← Nat.mul_assoc]
    exact Nat.mul_lt_mul_right hk
  have e4 : (p * q = 2 * (n % p * q)) ↔ (p = 2 * (n % p)) := by
    rw [← Nat.mul_assoc]
    exact ⟨fun h => Nat.eq_of_mul_eq_mul_right hk h, fun h => by rw [← h]⟩
  have f3 : decide (p * q < 2 * (n % p * q)) = decide (p < 2 * (n % p)) := decide_eq_decide.2 e3
  have f4 : (p * q == 2 * (n % p * q)) = (p == 2 * (n % p)) := by
    rw [Bool.eq_iff_iff, beq_iff_eq, beq_iff_eq]; exact e4
  rw [f3, f4]
/-- 'm * 2 ^ e' in units of '2 ^ base' -/
def unitsOf (m : Nat) (e base : Int) : Nat := m * 2 ^ (e - base).toNat
/-- what is kept of a number at a place, in units of a lower one -/
theorem kept_units {m : Nat} {e L base : Int} (h1 : base ≤ e) (h2 : base ≤ L) : Toward.even.cut false (m <<< (e - L).toNat) (L - e).toNat = rne (unitsOf m e base) (L - base).toNat := by
  rw [cut_rne, Nat.shiftLeft_eq]
  unfold unitsOf
  rcases Int.le_total L e with h | h
  · have a1 : (L - e).toNat = 0 := by omega
    have a2 : (e - base).toNat = (e - L).toNat + (L - base).toNat := by omega
    rw [a1, a2, Nat.pow_add, ← Nat.mul_assoc]
    have := rne_scale (m * 2 ^ (e - L).toNat) 0 (L - base).toNat
    rw [Nat.zero_add] at this
    exact this.symm
  · have a1 : (e - L).toNat = 0 := by omega
    have a2 : (L - base).toNat = (L - e).toNat + (e - base).toNat := by omega
    rw [a1, Nat.pow_zero, Nat.mul_one, a2]
    exact (rne_scale m (L - e).toNat (e - base).toNat).symm
theorem log_units {m : Nat} (h : m ≠ 0) {e base : Int} (hb : base ≤ e) : base + ((unitsOf m e base).log2 : Int) = e + (m.log2 : Int) := by
  unfold unitsOf
  have h1 : (m * 2 ^ (e - base).toNat).log2 = m.log2 + (e - base).toNat := by
    refine (Nat.log2_eq_iff (Nat.mul_ne_zero h (Nat.ne_of_gt (Nat.two_pow_pos _)))).2 ⟨?_, ?_⟩
    · rw [Nat.pow_add]; exact Nat.mul_le_mul_right _ (Nat.log2_self_le h)
    · rw [show m.log2 + (e - base).toNat + 1 = (m.log2 + 1) + (e - base).toNat by omega, Nat.pow_add]
      exact Nat.mul_lt_mul_of_pos_right Nat.lt_log2_self (Nat.two_pow_pos _)
  rw [h1]; omega
/-- the rung that a number is rounded to -/
def rungOf (f : Format) (m : Nat) (e : Int) : Nat :=
  if m = 0 then 0 else min ((max (e + (m.log2 : Int) - f.fractionBits) f.leastPlace - f.leastPlace).toNat * f.binade + Toward.even.cut false (m <<< (e - max (e + (m.log2 : Int) - f.fractionBits) f.leastPlace).toNat) (max (e + (m.log2 : Int) - f.fractionBits) f.leastPlace - e).toNat) f.infRung
theorem nearest_rungOf (f : Format) (g : Bool) (m : Nat) (e : Int) : f.nearest g m e = f.word g (rungOf f m e) := by
  unfold Format.nearest rungOf
  split
  · rfl
  · simp only [cut_rne]
theorem rung_mono (f : Format) {m1 m2 : Nat} {e1 e2 base : Int} (b1 : base ≤ e1) (b2 : base ≤ e2) (b3 : base ≤ f.leastPlace) (h : unitsOf m1 e1 base ≤ unitsOf m2 e2 base) : rungOf f m1 e1 ≤ rungOf f m2 e2 := by
  unfold rungOf
  by_cases z1 : m1 = 0
  · rw [if_pos z1]; exact Nat.zero_le _
  have u1 : unitsOf m1 e1 base ≠ 0 := Nat.mul_ne_zero z1 (Nat.ne_of_gt (Nat.two_pow_pos _))
  have z2 : m2 ≠ 0 := fun e => by
    subst e
    unfold unitsOf at h u1
    rw [Nat.zero_mul] at h
    omega
  have u2 : unitsOf m2 e2 base ≠ 0 := Nat.mul_ne_zero z2 (Nat.ne_of_gt (Nat.two_pow_pos _))
  rw [if_neg z1, if_neg z2]
  have l1 := log_units z1 b1
  have l2 := log_units z2 b2
  have hl : (unitsOf m1 e1 base).log2 ≤ (unitsOf m2 e2 base).log2 := (Nat.le_log2 u2).2 (Nat.le_trans (Nat.log2_self_le u1) h)
  rw [← l1, ← l2]
  generalize hL1 : max (base + ((unitsOf m1 e1 base).log2 : Int) - f.fractionBits) f.leastPlace = L1
  generalize hL2 : max (base + ((unitsOf m2 e2 base).log2 : Int) - f.fractionBits) f.leastPlace = L2
  have c1 : base ≤ L1 := by omega
  have c2 : base ≤ L2 := by omega
  rw [kept_units b1 c1, kept_units b2 c2]
  have hB : f.binade = 2 ^ f.fractionBits := rfl
  have hLL : L1 ≤ L2 := by omega
  suffices hs : (L1 - f.leastPlace).toNat * f.binade + rne (unitsOf m1 e1 base) (L1 - base).toNat ≤ (L2 - f.leastPlace).toNat * f.binade + rne (unitsOf m2 e2 base) (L2 - base).toNat by
    exact Nat.le_min.2 ⟨Nat.le_trans (Nat.min_le_left ..) hs, Nat.min_le_right ..⟩
  rcases Int.lt_or_eq_of_le hLL with hlt | heq
  · have k1 : rne (unitsOf m1 e1 base) (L1 - base).toNat ≤ 2 * f.binade := by
      have hu : unitsOf m1 e1 base < 2 ^ ((unitsOf m1 e1 base).log2 + 1) := Nat.lt_log2_self
      have hd : unitsOf m1 e1 base / 2 ^ (L1 - base).toNat < 2 ^ (f.fractionBits + 1) := by
        refine Nat.div_lt_of_lt_mul (Nat.lt_of_lt_of_le hu ?_)
        rw [← Nat.pow_add]
        exact Nat.pow_le_pow_right (by decide) (by omega)
      unfold rne
      have := toNat_le (decide (2 ^ (L1 - base).toNat < 2 * (unitsOf m1 e1 base % 2 ^ (L1 - base).toNat)) || (2 ^ (L1 - base).toNat == 2 * (unitsOf m1 e1 base % 2 ^ (L1 - base).toNat) && unitsOf m1 e1 base / 2 ^ (L1 - base).toNat % 2 == 1))
      rw [Nat.pow_succ, ← hB] at hd
      omega
    have k2 : f.binade ≤ rne (unitsOf m2 e2 base) (L2 - base).toNat := by
      have hu : 2 ^ (unitsOf m2 e2 base).log2 ≤ unitsOf m2 e2 base := Nat.log2_self_le u2
      unfold rne
      refine Nat.le_trans ?_ (Nat.le_add_right ..)
      rw [Nat.le_div_iff_mul_le (Nat.two_pow_pos _), hB, ← Nat.pow_add]
      refine Nat.le_trans (Nat.pow_le_pow_right (by decide) ?_) hu
      omega
    have hm : ((L1 - f.leastPlace).toNat + 1) * f.binade ≤ (L2 - f.leastPlace).toNat * f.binade := Nat.mul_le_mul_right _ (by omega)
    rw [Nat.add_mul, Nat.one_mul] at hm
    omega
  · subst heq
    exact Nat.add_le_add_left (rne_le h) _
/-- a number in other units is rounded to the same -/
theorem rung_units (f : Format) {m : Nat} {e base : Int} (b1 : base ≤ e) (b3 : base ≤ f.leastPlace) : rungOf f m e = rungOf f (unitsOf m e base) base := by
  have h : unitsOf (unitsOf m e base) base base = unitsOf m e base := by
    show unitsOf m e base * 2 ^ (base - base).toNat = _
    rw [Int.sub_self]
    exact Nat.mul_one _
  exact Nat.le_antisymm (rung_mono f b1 (Int.le_refl _) b3 (Nat.le_of_eq h.symm)) (rung_mono f (Int.le_refl _) b1 b3 (Nat.le_of_eq h))
/-- what a word that is not negative stands for, in units of the least place -/
def valW (f : Format) (r : Nat) : Nat := if r < f.binade then r else (f.binade + r % f.binade) * 2 ^ (r / f.binade - 1)
theorem read_val (f : Format) {r : Nat} (h : r < f.infRung) : ∃ m e, f.read r = .number false m e ∧ f.leastPlace ≤ e ∧ unitsOf m e f.leastPlace = valW f r := by
  have hw := word_cases f false (Nat.le_of_lt h)
  have e0 : f.word false r = r := rfl
  rw [e0] at hw
  rw [hw]
  unfold valW unitsOf
  by_cases hb : r < f.binade
  · rw [if_pos hb, if_pos hb]
    exact ⟨_, _, rfl, Int.le_refl _, by rw [Int.sub_self]; exact Nat.mul_one _⟩
  · rw [if_neg hb, if_neg hb, if_pos h]
    refine ⟨_, _, rfl, by omega, ?_⟩
    rw [show (f.leastPlace + ((r / f.binade - 1 : Nat) : Int) - f.leastPlace).toNat = r / f.binade - 1 by omega]
theorem valW_mono (f : Format) {r s : Nat} (h : r ≤ s) : valW f r ≤ valW f s := by
  have hB : 0 < f.binade := Nat.two_pow_pos _
  unfold valW
  by_cases h1 : r < f.binade
  · rw [if_pos h1]
    by_cases h2 : s < f.binade
    · rw [if_pos h2]; exact h
    · rw [if_neg h2]
      have hp := Nat.two_pow_pos (s / f.binade - 1)
      calc r ≤ (f.binade + s % f.binade) * 1 := by omega
        _ ≤ _ := Nat.mul_le_mul_left _ hp
  · have h2 : ¬ s < f.binade := by omega
    rw [if_neg h1, if_neg h2]
    have hr := Nat.div_add_mod r f.binade
    have hs := Nat.div_add_mod s f.binade
    have mr := Nat.mod_lt r hB
    have ms := Nat.mod_lt s hB
    have hq : r / f.binade ≤ s / f.binade := Nat.div_le_div_right h
    have q1 : 1 ≤ r / f.binade := (Nat.le_div_iff_mul_le hB).2 (by omega)
    rcases Nat.lt_or_eq_of_le hq with hl | he
    · calc (f.binade + r % f.binade) * 2 ^ (r / f.binade - 1) ≤ (2 * f.binade) * 2 ^ (r / f.binade - 1) := Nat.mul_le_mul_right _ (by omega)
        _ = f.binade * 2 ^ (r / f.binade - 1 + 1) := by rw [Nat.pow_succ, Nat.mul_comm 2 f.binade, Nat.mul_assoc, Nat.mul_comm 2]
        _ ≤ f.binade * 2 ^ (s / f.binade - 1) := Nat.mul_le_mul_left _ (Nat.pow_le_pow_right (by decide) (by omega))
        _ ≤ _ := Nat.mul_le_mul_right _ (Nat.le_add_right ..)
    · rw [he] at hr ⊢
      exact Nat.mul_le_mul_right _ (by omega)
theorem add_val (f : Format) {a b : Nat} (ha : a < f.infRung) (hb : b < f.infRung) : f.add a b = some (rungOf f (valW f a + valW f b) f.leastPlace) := by
  obtain ⟨m, e, r1, l1, v1⟩ := read_val f ha
  obtain ⟨n, j, r2, l2, v2⟩ := read_val f hb
  unfold Format.add
  rw [r1, r2]
  simp only [Datum.sum, Option.map_some]
  rw [signed_nn (.inl rfl), signed_nn (.inl rfl), ← Int.natCast_add]
  have hbase : f.leastPlace ≤ min e j := by omega
  have key : unitsOf (m * 2 ^ (e - min e j).toNat + n * 2 ^ (j - min e j).toNat) (min e j) f.leastPlace = valW f a + valW f b := by
    rw [← v1, ← v2]
    unfold unitsOf
    rw [Nat.add_mul, Nat.mul_assoc, Nat.mul_assoc, ← Nat.pow_add, ← Nat.pow_add,
      show (e - min e j).toNat + (min e j - f.leastPlace).toNat = (e - f.leastPlace).toNat by omega, show (j - min e j).toNat + (min e j - f.leastPlace).toNat = (j - f.leastPlace).toNat by omega]
  generalize m * 2 ^ (e - min e j).toNat + n * 2 ^ (j - min e j).toNat = z at key
  rw [Int.natAbs_natCast]
  have hs : (if ((z : Nat) : Int) = 0 then (false && false) else decide (((z : Nat) : Int) < 0)) = false := by
    split
    · rfl
    · exact decide_eq_false (by omega)
  rw [hs]
  show some (f.nearest false z (min e j)) = _
  rw [nearest_rungOf, rung_units f hbase (Int.le_refl _), key]
  rfl
theorem mul_val (f : Format) (hl : f.leastPlace ≤ 0) {a b : Nat} (ha : a < f.infRung) (hb : b < f.infRung) : f.mul a b = some (rungOf f (valW f a * valW f b) (f.leastPlace + f.leastPlace)) := by
  obtain ⟨m, e, r1, l1, v1⟩ := read_val f ha
  obtain ⟨n, j, r2, l2, v2⟩ := read_val f hb
  unfold Format.mul
  rw [r1, r2]
  simp only [Datum.product, Option.map_some, Bool.bne_false]
  have key : unitsOf (m * n) (e + j) (f.leastPlace + f.leastPlace) = valW f a * valW f b := by
    rw [← v1, ← v2]
    unfold unitsOf
    rw [show (e + j - (f.leastPlace + f.leastPlace)).toNat = (e - f.leastPlace).toNat + (j - f.leastPlace).toNat by omega, Nat.pow_add]
    exact Nat.mul_mul_mul_comm ..
  show some (f.nearest false (m * n) (e + j)) = _
  rw [nearest_rungOf, rung_units f (show f.leastPlace + f.leastPlace ≤ e + j by omega) (show f.leastPlace + f.leastPlace ≤ f.leastPlace by omega), key]
  rfl
theorem rung_le (f : Format) {m n : Nat} {e : Int} (he : e ≤ f.leastPlace) (h : m ≤ n) : rungOf f m e ≤ rungOf f n e :=
  rung_mono f (Int.le_refl _) (Int.le_refl _) he (Nat.mul_le_mul_right _ h)
theorem add_mono (k : FloatKind) {a b c d : Nat} (hc : c < k.format.infRung) (hd : d < k.format.infRung) (h1 : a ≤ c) (h2 : b ≤ d) : fadd k a b ≤ fadd k c d := by
  unfold fadd
  rw [add_val _ (Nat.lt_of_le_of_lt h1 hc) (Nat.lt_of_le_of_lt h2 hd), add_val _ hc hd]
  exact rung_le _ (Int.le_refl _) (Nat.add_le_add (valW_mono _ h1) (valW_mono _ h2))
theorem least_neg (k : FloatKind) : k.format.leastPlace ≤ 0 := by cases k <;> decide
theorem mul_mono (k : FloatKind) {a b c d : Nat} (hc : c < k.format.infRung) (hd : d < k.format.infRung) (h1 : a ≤ c) (h2 : b ≤ d) : fmul k a b ≤ fmul k c d := by
  have hl := least_neg k
  unfold fmul
  rw [mul_val _ hl (Nat.lt_of_le_of_lt h1 hc) (Nat.lt_of_le_of_lt h2 hd), mul_val _ hl hc hd]
  exact rung_le _ (by omega) (Nat.mul_le_mul (valW_mono _ h1) (valW_mono _ h2))
/-! ### differences -/
theorem opp_read (f : Format) {m : Nat} {e : Int} {r : Nat} (h : f.read r = .number false m e) : (f.read r).opposite = .number true m e := by rw [h]; rfl
theorem sub_units {m n : Nat} {e j l : Int} (h1 : l ≤ e) (h2 : l ≤ j) : unitsOf (m * 2 ^ (e - min e j).toNat) (min e j) l = unitsOf m e l ∧ unitsOf (n * 2 ^ (j - min e j).toNat) (min e j) l = unitsOf n j l := by
  unfold unitsOf
  constructor
  · rw [Nat.mul_assoc, ← Nat.pow_add, show (e - min e j).toNat + (min e j - l).toNat = (e - l).toNat by omega]
  · rw [Nat.mul_assoc, ← Nat.pow_add, show (j - min e j).toNat + (min e j - l).toNat = (j - l).toNat by omega]
theorem sub_val (f : Format) {a b : Nat} (ha : a < f.infRung) (hb : b < f.infRung) :
    f.sub a b = some (if valW f b ≤ valW f a then rungOf f (valW f a - valW f b) f.leastPlace else f.signWeight + rungOf f (valW f b - valW f a) f.leastPlace) := by
  obtain ⟨m, e, r1, l1, v1⟩ := read_val f ha
  obtain ⟨n, j, r2, l2, v2⟩ := read_val f hb
  unfold Format.sub
  rw [r1, opp_read f r2]
  simp only [Datum.sum, Option.map_some]
  obtain ⟨u1, u2⟩ := sub_units (m := m) (n := n) l1 l2
  rw [v1] at u1
  rw [v2] at u2
  have hbase : f.leastPlace ≤ min e j := by omega
  have e1 : signed false m (e - min e j).toNat = ((m * 2 ^ (e - min e j).toNat : Nat) : Int) := signed_nn (.inl rfl) _
  have e2 : signed true n (j - min e j).toNat = -((n * 2 ^ (j - min e j).toNat : Nat) : Int) := by rw [signed_eq]; rfl
  rw [e1, e2]
  generalize m * 2 ^ (e - min e j).toNat = x at u1
  generalize n * 2 ^ (j - min e j).toNat = y at u2
  generalize min e j = base at hbase u1 u2
  have hp : 0 < 2 ^ (base - f.leastPlace).toNat := Nat.two_pow_pos _
  have hle : valW f b ≤ valW f a ↔ y ≤ x := by
    rw [← u1, ← u2]
    exact Nat.mul_le_mul_right_iff hp
  have hsub : ∀ p q : Nat, unitsOf (p - q) base f.leastPlace = unitsOf p base f.leastPlace - unitsOf q base f.leastPlace := fun p q => Nat.sub_mul ..
  by_cases h : y ≤ x
  · rw [if_pos (hle.2 h)]
    have hz : ((x : Nat) : Int) + -((y : Nat) : Int) = ((x - y : Nat) : Int) := by omega
    rw [hz, Int.natAbs_natCast]
    have hs : (if ((x - y : Nat) : Int) = 0 then (false && true) else decide (((x - y : Nat) : Int) < 0)) = false := by
      split
      · rfl
      · exact decide_eq_false (by omega)
    rw [hs]
    show some (f.nearest false (x - y) base) = _
    rw [nearest_rungOf, rung_units f hbase (Int.le_refl _), hsub, u1, u2]
    rfl
  · rw [if_neg (fun hh => h (hle.1 hh))]
    have hz : ((x : Nat) : Int) + -((y : Nat) : Int) = -((y - x : Nat) : Int) := by omega
    rw [hz, Int.natAbs_neg, Int.natAbs_natCast]
    have hs : (if -((y - x : Nat) : Int) = 0 then (false && true) else decide (-((y - x : Nat) : Int) < 0)) = true := by
      rw [if_neg (by omega)]
      exact decide_eq_true (by omega)
    rw [hs]
    show some (f.nearest true (y - x) base) = _
    rw [nearest_rungOf, rung_units f hbase (Int.le_refl _), hsub, u1, u2]
    rfl
/-! ### quotients -/
/-- strictly between two multiples of 4, all numbers are rounded to the same -/
theorem rne_sticky {u a b d : Nat} (hd : 3 ≤ d) (a1 : 4 * u < a) (a2 : a < 4 * u + 4) (b1 : 4 * u < b) (b2 : b < 4 * u + 4) : rne a d = rne b d := by
  obtain ⟨q, hq⟩ : ∃ q, 2 ^ d = 8 * q := ⟨2 ^ (d - 3), by rw [show (8 : Nat) = 2 ^ 3 by decide, ← Nat.pow_add, show 3 + (d - 3) = d by omega]⟩
  have hq0 : 0 < q := by
    rcases Nat.eq_zero_or_pos q with h | h
    · have := Nat.two_pow_pos d
      rw [hq, h] at this
      omega
    · exact h
  unfold rne
  rw [hq]
  have hu := Nat.div_add_mod u (2 * q)
  have mu := Nat.mod_lt u (show 0 < 2 * q by omega)
  have key : ∀ c, 4 * u < c → c < 4 * u + 4 → c / (8 * q) = u / (2 * q) ∧ c % (8 * q) = 4 * (u % (2 * q)) + (c - 4 * u) := fun c c1 c2 => by
    have e : c = (4 * (u % (2 * q)) + (c - 4 * u)) + 8 * q * (u / (2 * q)) := by
      have : 8 * q * (u / (2 * q)) = 4 * (2 * q * (u / (2 * q))) := by
        rw [← Nat.mul_assoc, ← Nat.mul_assoc]
      omega
    have hlt : 4 * (u % (2 * q)) + (c - 4 * u) < 8 * q := by omega
    refine ⟨?_, ?_⟩
    · have e2 : c / (8 * q) = ((4 * (u % (2 * q)) + (c - 4 * u)) + 8 * q * (u / (2 * q))) / (8 * q) := congrArg (· / (8 * q)) e
      rw [e2, Nat.add_mul_div_left _ _ (by omega), Nat.div_eq_of_lt hlt, Nat.zero_add]
    · have e2 : c % (8 * q) = ((4 * (u % (2 * q)) + (c - 4 * u)) + 8 * q * (u / (2 * q))) % (8 * q) := congrArg (· % (8 * q)) e
      rw [e2, Nat.add_mul_mod_self_left, Nat.mod_eq_of_lt hlt]
  obtain ⟨p1, p2⟩ := key a a1 a2
  obtain ⟨p3, p4⟩ := key b b1 b2
  rw [p1, p2, p3, p4]
  generalize u % (2 * q) = v at mu
  have c1 : (8 * q < 2 * (4 * v + (a - 4 * u))) ↔ (8 * q < 2 * (4 * v + (b - 4 * u))) := by omega
  have c2 : ¬ 8 * q = 2 * (4 * v + (a - 4 * u)) := by omega
  have c3 : ¬ 8 * q = 2 * (4 * v + (b - 4 * u)) := by omega
  have d1 : (8 * q == 2 * (4 * v + (a - 4 * u))) = false := by simpa using c2
  have d2 : (8 * q == 2 * (4 * v + (b - 4 * u))) = false := by simpa using c3
  rw [d1, d2, decide_eq_decide.2 c1]
/-- a quotient with one more digit that tells whether anything is left -/
def quoK (m n K : Nat) : Nat := 2 * (m * 2 ^ K / n) + (m * 2 ^ K % n != 0).toNat
theorem log4 {u c : Nat} (hu : u ≠ 0) (hc : c < 4) : (4 * u + c).log2 = u.log2 + 2 := by
  have h1 := Nat.log2_self_le hu
  have h2 : u < 2 ^ (u.log2 + 1) := Nat.lt_log2_self
  have e1 : 2 ^ (u.log2 + 2) = 4 * 2 ^ u.log2 := by rw [Nat.pow_add]; omega
  have e2 : 2 ^ (u.log2 + 2 + 1) = 4 * 2 ^ (u.log2 + 1) := by rw [show u.log2 + 2 + 1 = (u.log2 + 1) + 2 by omega, Nat.pow_add (m := u.log2 + 1)]; omega
  exact (Nat.log2_eq_iff (by omega)).2 ⟨by rw [e1]; omega, by rw [e2]; omega⟩
theorem rung_low (f : Format) {a : Nat} {e L : Int} (h0 : a ≠ 0) (hL : max (e + (a.log2 : Int) - f.fractionBits) f.leastPlace = L) (h : e ≤ L) : rungOf f a e = min ((L - f.leastPlace).toNat * f.binade + rne a (L - e).toNat) f.infRung := by
  unfold rungOf
  rw [if_neg h0, hL, cut_rne, show (e - L).toNat = 0 by omega, Nat.shiftLeft_zero]
theorem quo_next (f : Format) {m n K : Nat} {p : Int} (hn : 0 < n) (hA : f.fractionBits + 2 ≤ (quoK m n K).log2) : rungOf f (quoK m n K) p = rungOf f (quoK m n (K + 1)) (p - 1) ∧ f.fractionBits + 2 ≤ (quoK m n (K + 1)).log2 := by
  unfold quoK at *
  rw [Nat.pow_succ, ← Nat.mul_assoc]
  generalize m * 2 ^ K = X at *
  have hX := Nat.div_add_mod X n
  have hr := Nat.mod_lt X hn
  generalize hu : X / n = u at *
  generalize hrm : X % n = r at *
  have hX2 : X * 2 = n * (2 * u) + 2 * r := by rw [← hX]; rw [Nat.add_mul, Nat.mul_assoc, Nat.mul_comm u 2, Nat.mul_comm r 2]
  have hu0 : u ≠ 0 := by
    rintro rfl
    have := toNat_le (r != 0)
    have h2 : (2 * 0 + (r != 0).toNat).log2 ≤ 0 := by
      have : 2 * 0 + (r != 0).toNat < 2 := by omega
      generalize 2 * 0 + (r != 0).toNat = z at this
      rcases Nat.eq_zero_or_pos z with h | h
      · subst h; decide
      · have : z = 1 := by omega
        subst this; decide
    omega
  -- both, as numbers between 4 * u and 4 * u + 4
  obtain ⟨c, hc, hc0, e1⟩ : ∃ c, c < 4 ∧ (r = 0 → c = 0) ∧ (r ≠ 0 → 0 < c) ∧ 2 * (X * 2 / n) + (X * 2 % n != 0).toNat = 4 * u + c := by
    by_cases h : 2 * r < n
    · have d1 : X * 2 / n = 2 * u := by rw [hX2, Nat.mul_add_div hn, Nat.div_eq_of_lt h, Nat.add_zero]
      have d2 : X * 2 % n = 2 * r := by rw [hX2, Nat.mul_add_mod, Nat.mod_eq_of_lt h]
      rw [d1, d2]
      by_cases hr0 : r = 0
      · exact ⟨0, by omega, fun _ => rfl, fun h => absurd hr0 h, by rw [hr0]; simp; omega⟩
      · have : (2 * r != 0) = true := by simp; omega
        exact ⟨1, by omega, fun h => absurd h hr0, fun _ => by omega, by rw [this]; show 2 * (2 * u) + 1 = _; omega⟩
    · have hlt : 2 * r - n < n := by omega
      have hX3 : X * 2 = n * (2 * u + 1) + (2 * r - n) := by rw [hX2, Nat.mul_add, Nat.mul_one]; omega
      have d1 : X * 2 / n = 2 * u + 1 := by rw [hX3, Nat.mul_add_div hn, Nat.div_eq_of_lt hlt, Nat.add_zero]
      have d2 : X * 2 % n = 2 * r - n := by rw [hX3, Nat.mul_add_mod, Nat.mod_eq_of_lt hlt]
      rw [d1, d2]
      have := toNat_le (2 * r - n != 0)
      exact ⟨2 + (2 * r - n != 0).toNat, by omega, fun h => by omega, fun _ => by omega, by omega⟩
  obtain ⟨hc1, e1⟩ := e1
  rw [e1]
  have e0 : 2 * u + (r != 0).toNat = 2 * u + (if r = 0 then 0 else 1) := by
    by_cases h : r = 0
    · rw [h]; rfl
    · rw [if_neg h]
      have : (r != 0) = true := by simpa using h
      rw [this]; rfl
  rw [e0] at hA ⊢
  have l2 : (4 * u + c).log2 = u.log2 + 2 := log4 hu0 hc
  have l1 : (2 * u + (if r = 0 then 0 else 1)).log2 = u.log2 + 1 := by
    have h1 := Nat.log2_self_le hu0
    have h2 : u < 2 ^ (u.log2 + 1) := Nat.lt_log2_self
    have q1 : 2 ^ (u.log2 + 1) = 2 * 2 ^ u.log2 := by rw [Nat.pow_succ]; omega
    have q2 : 2 ^ (u.log2 + 1 + 1) = 2 * 2 ^ (u.log2 + 1) := by rw [Nat.pow_succ]; omega
    refine (Nat.log2_eq_iff (by omega)).2 ⟨by rw [q1]; omega, ?_⟩
    rw [q2]
    split <;> omega
  refine ⟨?_, by omega⟩
  rw [l1] at hA
  generalize hL : max (p + (((2 * u + (if r = 0 then 0 else 1)).log2 : Nat) : Int) - f.fractionBits) f.leastPlace = L
  have hL2 : max (p - 1 + (((4 * u + c).log2 : Nat) : Int) - f.fractionBits) f.leastPlace = L := by
    rw [← hL, l1, l2]; omega
  have hpL : p + 2 ≤ L := by rw [← hL, l1]; omega
  rw [rung_low f (by omega) hL (by omega), rung_low f (by omega) hL2 (by omega)]
  have hk : rne (2 * u + (if r = 0 then 0 else 1)) (L - p).toNat = rne (4 * u + c) (L - (p - 1)).toNat := by
    have hd : (L - (p - 1)).toNat = (L - p).toNat + 1 := by omega
    have hs := rne_scale (2 * u + (if r = 0 then 0 else 1)) (L - p).toNat 1
    rw [← hs, hd]
    by_cases h : r = 0
    · rw [hc0 h, if_pos h]
      rw [show (2 * u + 0) * 2 ^ 1 = 4 * u + 0 by omega]
    · have := hc1 h
      rw [if_neg h]
      exact rne_sticky (u := u) (by omega) (by omega) (by omega) (by omega) (by omega)
  rw [hk]
theorem quo_any (f : Format) {m n K : Nat} {p : Int} (hn : 0 < n) (hA : f.fractionBits + 2 ≤ (quoK m n K).log2) : ∀ t : Nat, rungOf f (quoK m n K) p = rungOf f (quoK m n (K + t)) (p - t) ∧ f.fractionBits + 2 ≤ (quoK m n (K + t)).log2
  | 0 => ⟨by rw [Nat.add_zero]; simp, hA⟩
  | t + 1 => by
    obtain ⟨h1, h2⟩ := quo_any f hn hA t
    obtain ⟨h3, h4⟩ := quo_next f (p := p - (t : Int)) hn h2
    refine ⟨?_, h4⟩
    rw [h1, h3, show p - (t : Int) - 1 = p - ((t + 1 : Nat) : Int) by omega]
    rfl
theorem ratio_le {a b c d : Nat} (hb : 0 < b) (hd : 0 < d) (h : a * d ≤ c * b) : 2 * (a / b) + (a % b != 0).toNat ≤ 2 * (c / d) + (c % d != 0).toNat := by
  have ha := Nat.div_add_mod a b
  have hc := Nat.div_add_mod c d
  have ma := Nat.mod_lt a hb
  have mc := Nat.mod_lt c hd
  have t1 := toNat_le (a % b != 0)
  have hq : a / b ≤ c / d := by
    rw [Nat.le_div_iff_mul_le hd]
    have h1 : a / b * d * b ≤ c * b := by
      calc a / b * d * b = b * (a / b) * d := by rw [Nat.mul_comm (a / b * d) b, Nat.mul_assoc]
        _ ≤ a * d := Nat.mul_le_mul_right _ (Nat.mul_div_le a b)
        _ ≤ c * b := h
    exact Nat.le_of_mul_le_mul_right h1 hb
  rcases Nat.lt_or_eq_of_le hq with hl | he
  · omega
  · rw [he]
    by_cases h0 : a % b = 0
    · rw [h0]
      have : ((0 : Nat) != 0).toNat = 0 := rfl
      rw [this]; omega
    · by_cases h1 : c % d = 0
      · exfalso
        rw [h1, Nat.add_zero] at hc
        rw [he] at ha
        generalize c / d = q at *
        subst hc
        have : a * d ≤ q * b * d := by
          calc a * d ≤ d * q * b := h
            _ = q * b * d := by rw [Nat.mul_comm d q, Nat.mul_assoc, Nat.mul_comm d b, ← Nat.mul_assoc]
        have h2 := Nat.le_of_mul_le_mul_right this hd
        rw [Nat.mul_comm q b] at h2
        omega
      · have : (c % d != 0) = true := by simpa using h1
        rw [this]
        have e1 : (true).toNat = 1 := rfl
        rw [e1]; omega
theorem valW_pos (f : Format) {b : Nat} (h : 0 < b) : 0 < valW f b := by
  unfold valW
  split
  · exact h
  · exact Nat.mul_pos (Nat.lt_of_lt_of_le (Nat.two_pow_pos _) (Nat.le_add_right ..)) (Nat.two_pow_pos _)
theorem div_val (f : Format) {a b : Nat} (ha : a < f.infRung) (hb : b < f.infRung) (hb0 : 0 < b) :
    ∃ (m n K : Nat) (e j : Int), f.leastPlace ≤ e ∧ unitsOf m e f.leastPlace = valW f a ∧ f.leastPlace ≤ j ∧ unitsOf n j f.leastPlace = valW f b ∧ 0 < n ∧
      f.div a b = some (rungOf f (quoK m n K) (e - j - K - 1)) ∧ (m ≠ 0 → f.fractionBits + 2 ≤ (quoK m n K).log2) := by
  obtain ⟨m, e, r1, l1, v1⟩ := read_val f ha
  obtain ⟨n, j, r2, l2, v2⟩ := read_val f hb
  have hn : n ≠ 0 := by
    rintro rfl
    have := valW_pos f hb0
    rw [← v2] at this
    unfold unitsOf at this
    omega
  refine ⟨m, n, f.fractionBits + 2 + n.log2 - m.log2, e, j, l1, v1, l2, v2, Nat.pos_of_ne_zero hn, ?_, fun hm => ?_⟩
  · unfold Format.div
    rw [r1, r2]
    unfold Datum.quotient
    simp only
    rw [if_neg hn]
    show some (f.nearest (false ^^ false) _ _) = _
    rw [nearest_rungOf, Nat.shiftLeft_eq]
    rfl
  · have h1 := Nat.log2_self_le hm
    have h2 : n < 2 ^ (n.log2 + 1) := Nat.lt_log2_self
    have hu : 2 ^ (f.fractionBits + 1) ≤ m * 2 ^ (f.fractionBits + 2 + n.log2 - m.log2) / n := by
      rw [Nat.le_div_iff_mul_le (Nat.pos_of_ne_zero hn)]
      calc 2 ^ (f.fractionBits + 1) * n ≤ 2 ^ (f.fractionBits + 1) * 2 ^ (n.log2 + 1) := Nat.mul_le_mul_left _ (Nat.le_of_lt h2)
        _ = 2 ^ (f.fractionBits + 1 + (n.log2 + 1)) := by rw [← Nat.pow_add]
        _ ≤ 2 ^ (m.log2 + (f.fractionBits + 2 + n.log2 - m.log2)) := Nat.pow_le_pow_right (by decide) (by omega)
        _ = 2 ^ m.log2 * 2 ^ (f.fractionBits + 2 + n.log2 - m.log2) := by rw [Nat.pow_add]
        _ ≤ _ := Nat.mul_le_mul_right _ h1
    unfold quoK
    generalize m * 2 ^ (f.fractionBits + 2 + n.log2 - m.log2) / n = u at hu
    have hp : 2 ^ (f.fractionBits + 2) = 2 * 2 ^ (f.fractionBits + 1) := by rw [show f.fractionBits + 2 = f.fractionBits + 1 + 1 by omega, Nat.pow_succ]; omega
    have hq := Nat.two_pow_pos (f.fractionBits + 1)
    exact (Nat.le_log2 (by omega)).2 (by rw [hp]; omega)
theorem div_mono (k : FloatKind) {a b c d : Nat} (hc : c < k.format.infRung) (hb : b < k.format.infRung) (hd : 0 < d) (h1 : a ≤ c) (h2 : d ≤ b) : fdiv k a b ≤ fdiv k c d := by
  unfold fdiv
  generalize k.format = f at *
  obtain ⟨m1, n1, K1, e1, j1, l1, v1, l2, v2, hn1, q1, g1⟩ := div_val f (Nat.lt_of_le_of_lt h1 hc) hb (Nat.lt_of_lt_of_le hd h2)
  obtain ⟨m2, n2, K2, e2, j2, l3, v3, l4, v4, hn2, q2, g2⟩ := div_val f hc (Nat.lt_of_le_of_lt h2 hb) hd
  rw [q1, q2]
  show rungOf f (quoK m1 n1 K1) _ ≤ rungOf f (quoK m2 n2 K2) _
  by_cases z1 : m1 = 0
  · have : quoK m1 n1 K1 = 0 := by
      unfold quoK
      rw [z1, Nat.zero_mul, Nat.zero_div, Nat.zero_mod]; rfl
    rw [this]
    exact Nat.zero_le _
  have va : valW f a ≤ valW f c := valW_mono f h1
  have vb : valW f d ≤ valW f b := valW_mono f h2
  have z2 : m2 ≠ 0 := by
    rintro rfl
    have : 0 < valW f a := by
      rw [← v1]
      exact Nat.mul_pos (Nat.pos_of_ne_zero z1) (Nat.two_pow_pos _)
    rw [← v3] at va
    unfold unitsOf at va
    omega
  have hx : valW f a * valW f d ≤ valW f c * valW f b := Nat.mul_le_mul va vb
  obtain ⟨P, hP1, hP2⟩ : ∃ P : Int, P ≤ e1 - j1 - K1 - 1 ∧ P ≤ e2 - j2 - K2 - 1 := ⟨min (e1 - j1 - K1 - 1) (e2 - j2 - K2 - 1), by omega, by omega⟩
  have r1 := (quo_any f (p := e1 - j1 - K1 - 1) hn1 (g1 z1) (e1 - j1 - K1 - 1 - P).toNat).1
  have r2 := (quo_any f (p := e2 - j2 - K2 - 1) hn2 (g2 z2) (e2 - j2 - K2 - 1 - P).toNat).1
  rw [r1, r2, show e1 - j1 - (K1 : Int) - 1 - ((e1 - j1 - (K1 : Int) - 1 - P).toNat : Int) = P by omega, show e2 - j2 - (K2 : Int) - 1 - ((e2 - j2 - (K2 : Int) - 1 - P).toNat : Int) = P by omega]
  have hA : quoK m1 n1 (K1 + (e1 - j1 - K1 - 1 - P).toNat) ≤ quoK m2 n2 (K2 + (e2 - j2 - K2 - 1 - P).toNat) := by
    refine ratio_le hn1 hn2 ?_
    rw [← v1, ← v2, ← v3, ← v4] at hx
    unfold unitsOf at hx
    generalize hw1 : K1 + (e1 - j1 - K1 - 1 - P).toNat = w1
    generalize hw2 : K2 + (e2 - j2 - K2 - 1 - P).toNat = w2
    have x1 : m1 * 2 ^ (e1 - f.leastPlace).toNat * (n2 * 2 ^ (j2 - f.leastPlace).toNat) = m1 * n2 * 2 ^ ((e1 - f.leastPlace).toNat + (j2 - f.leastPlace).toNat) := by
      rw [Nat.pow_add]; exact Nat.mul_mul_mul_comm ..
    have x2 : m2 * 2 ^ (e2 - f.leastPlace).toNat * (n1 * 2 ^ (j1 - f.leastPlace).toNat) = m2 * n1 * 2 ^ ((e2 - f.leastPlace).toNat + (j1 - f.leastPlace).toNat) := by
      rw [Nat.pow_add]; exact Nat.mul_mul_mul_comm ..
    rw [x1, x2] at hx
    have y1 : m1 * 2 ^ w1 * n2 = m1 * n2 * 2 ^ w1 := Nat.mul_right_comm ..
    have y2 : m2 * 2 ^ w2 * n1 = m2 * n1 * 2 ^ w2 := Nat.mul_right_comm ..
    rw [y1, y2]
    rcases Int.le_total 0 (j1 + j2 + 1 + P - f.leastPlace - f.leastPlace) with hS | hS
    · have s1 : (e1 - f.leastPlace).toNat + (j2 - f.leastPlace).toNat = w1 + (j1 + j2 + 1 + P - f.leastPlace - f.leastPlace).toNat := by omega
      have s2 : (e2 - f.leastPlace).toNat + (j1 - f.leastPlace).toNat = w2 + (j1 + j2 + 1 + P - f.leastPlace - f.leastPlace).toNat := by omega
      rw [s1, s2, Nat.pow_add, Nat.pow_add, ← Nat.mul_assoc, ← Nat.mul_assoc] at hx
      exact Nat.le_of_mul_le_mul_right hx (Nat.two_pow_pos _)
    · have s1 : w1 = (e1 - f.leastPlace).toNat + (j2 - f.leastPlace).toNat + (-(j1 + j2 + 1 + P - f.leastPlace - f.leastPlace)).toNat := by omega
      have s2 : w2 = (e2 - f.leastPlace).toNat + (j1 - f.leastPlace).toNat + (-(j1 + j2 + 1 + P - f.leastPlace - f.leastPlace)).toNat := by omega
      rw [s1, s2, Nat.pow_add, Nat.pow_add _ _ (-(j1 + j2 + 1 + P - f.leastPlace - f.leastPlace)).toNat, ← Nat.mul_assoc, ← Nat.mul_assoc]
      exact Nat.mul_le_mul_right _ hx
  by_cases hPl : P ≤ f.leastPlace
  · exact rung_le f hPl hA
  · exact rung_mono f (base := f.leastPlace) (by omega) (by omega) (Int.le_refl _) (Nat.mul_le_mul_right _ hA)
/-- a difference of two numbers, the first one being the greater -/
theorem sub_mono (k : FloatKind) {a b c d : Nat} (hc : c < k.format.infRung) (hb : b < k.format.infRung) (h1 : a ≤ c) (h2 : d ≤ b) (h3 : b ≤ a) : fsub k a b ≤ fsub k c d := by
  unfold fsub
  rw [sub_val _ (Nat.lt_of_le_of_lt h1 hc) hb, sub_val _ hc (Nat.lt_of_le_of_lt h2 hb), if_pos (valW_mono _ h3), if_pos (valW_mono _ (by omega))]
  have x := valW_mono k.format h1
  have y := valW_mono k.format h2
  exact rung_le _ (Int.le_refl _) (by omega)
end Sx
namespace Sx
open Go Ev Ieee

/-! ### six steps towards a third root, on boxes -/
/-- the size of a difference -/
def dif (a b : Nat) : Nat := rungOf double (valW double a - valW double b) double.leastPlace
def inf64 : Nat := 9218868437227405312
theorem inf64_eq : double.infRung = inf64 := by decide
theorem sub_ge {a b : Nat} (ha : a < inf64) (hb : b < inf64) (h : valW double b ≤ valW double a) : fsub .f64 a b = dif a b := by
  unfold fsub dif
  rw [show FloatKind.f64.format = double from rfl, sub_val double (by rw [inf64_eq]; exact ha) (by rw [inf64_eq]; exact hb), if_pos h]
  rfl
theorem sub_lt {a b : Nat} (ha : a < inf64) (hb : b < inf64) (h : ¬ valW double b ≤ valW double a) : fsub .f64 a b = double.word true (dif b a) := by
  unfold fsub dif
  rw [show FloatKind.f64.format = double from rfl, sub_val double (by rw [inf64_eq]; exact ha) (by rw [inf64_eq]; exact hb), if_neg h]
  rfl
theorem dif_mono {a b c d : Nat} (h1 : a ≤ c) (h2 : d ≤ b) : dif a b ≤ dif c d := by
  have x := valW_mono double h1
  have y := valW_mono double h2
  exact rung_le double (Int.le_refl _) (by omega)
theorem read_neg {q : Nat} (h : q < inf64) : ∃ m e, double.read q = .number false m e ∧ double.read (double.word true q) = .number true m e := by
  have hq : q < double.infRung := by rw [inf64_eq]; exact h
  have h1 := word_cases double false (Nat.le_of_lt hq)
  have h2 := word_cases double true (Nat.le_of_lt hq)
  have e0 : double.word false q = q := rfl
  rw [e0] at h1
  by_cases hb : q < double.binade
  · rw [if_pos hb] at h1 h2
    exact ⟨_, _, h1, h2⟩
  · rw [if_neg hb, if_pos hq] at h1 h2
    exact ⟨_, _, h1, h2⟩
theorem quo_neg {m n : Nat} {e j : Int} (hn : n ≠ 0) (D : Nat) : ∃ z, ((Datum.number true m e).quotient D (.number false n j)).map double.write = some (double.word true z) ∧ ((Datum.number false m e).quotient D (.number false n j)).map double.write = some (double.word false z) := by
  unfold Datum.quotient
  simp only
  rw [if_neg hn, if_neg hn]
  refine ⟨_, congrArg some (nearest_rungOf double _ _ _), congrArg some (nearest_rungOf double _ _ _)⟩
theorem div_neg {q d : Nat} (hq : q < inf64) (hd : d < inf64) (h0 : 0 < d) : fdiv .f64 (double.word true q) d = double.word true (fdiv .f64 q d) := by
  obtain ⟨m, e, r1, r2⟩ := read_neg hq
  obtain ⟨n, j, r3, l3, v3⟩ := read_val double (r := d) (by rw [inf64_eq]; exact hd)
  have hn : n ≠ 0 := by
    rintro rfl
    have := valW_pos double h0
    rw [← v3] at this
    unfold unitsOf at this
    omega
  have e1 : fdiv .f64 (double.word true q) d = o2 .f64 (((double.read (double.word true q)).quotient (double.fractionBits + 2) (double.read d)).map double.write) := rfl
  have e2 : fdiv .f64 q d = o2 .f64 (((double.read q).quotient (double.fractionBits + 2) (double.read d)).map double.write) := rfl
  obtain ⟨z, z1, z2⟩ := quo_neg (m := m) (n := n) (e := e) (j := j) hn (double.fractionBits + 2)
  rw [e1, e2, r1, r2, r3, z1, z2]
  rfl
theorem sub_neg {r q : Nat} (hq : q < inf64) : fsub .f64 r (double.word true q) = fadd .f64 r q := by
  obtain ⟨m, e, r1, r2⟩ := read_neg hq
  show o2 .f64 (((double.read r).sum (double.read (double.word true q)).opposite).map double.write) = o2 .f64 (((double.read r).sum (double.read q)).map double.write)
  rw [r1, r2]
  rfl
def cubeF (r : Nat) : Nat := fmul .f64 (fmul .f64 r r) r
def denF (r : Nat) : Nat := fmul .f64 (fmul .f64 4613937818241073152 r) r
def nstep (b r : Nat) : Nat := fsub .f64 r (fdiv .f64 (fsub .f64 (cubeF r) b) (denF r))
def vle (a b : Nat) : Bool := Nat.ble (valW double a) (valW double b)
def minB (a b : Nat) : Nat := bif Nat.ble a b then a else b
def maxB (a b : Nat) : Nat := bif Nat.ble a b then b else a
/-- of two cases those that may be -/
def loB (p q : Bool) (x y : Nat) : Nat := bif p then (bif q then minB x y else x) else y
def hiB (p q : Bool) (x y : Nat) : Nat := bif p then (bif q then maxB x y else x) else y
/-- where a step leads from a box -/
def boxStep (bl bu rl ru : Nat) : Option (Nat × Nat) :=
  let c1 := cubeF rl; let c2 := cubeF ru; let d1 := denF rl; let d2 := denF ru
  let qp := fdiv .f64 (dif c2 bl) d1; let qp0 := fdiv .f64 (dif c1 bu) d2
  let qm := fdiv .f64 (dif bu c1) d1; let qm0 := fdiv .f64 (dif bl c2) d2
  bif Nat.blt (fmul .f64 ru ru) inf64 && (Nat.blt c2 inf64 && (Nat.blt (fmul .f64 4613937818241073152 ru) inf64 && (Nat.blt d2 inf64 && (Nat.blt 0 d1 && (Nat.blt ru inf64 && (Nat.blt bu inf64 &&
    (Nat.blt (dif c2 bl) inf64 && (Nat.blt (dif bu c1) inf64 && (Nat.ble qp rl && (Nat.blt qm inf64 && Nat.blt qp inf64)))))))))) then
    some (loB (vle bl c2) (!vle bu c1) (fsub .f64 rl qp) (fadd .f64 rl qm0), hiB (vle bl c2) (!vle bu c1) (fsub .f64 ru qp0) (fadd .f64 ru qm))
  else none
theorem minB_le (a b : Nat) : minB a b ≤ a ∧ minB a b ≤ b := by
  unfold minB
  cases h : Nat.ble a b with
  | true => exact ⟨Nat.le_refl _, Nat.le_of_ble_eq_true h⟩
  | false =>
    have : ¬ a ≤ b := fun hh => by rw [Nat.ble_eq_true_of_le hh] at h; cases h
    exact ⟨by show b ≤ a; omega, Nat.le_refl _⟩
theorem le_maxB (a b : Nat) : a ≤ maxB a b ∧ b ≤ maxB a b := by
  unfold maxB
  cases h : Nat.ble a b with
  | true => exact ⟨Nat.le_of_ble_eq_true h, Nat.le_refl _⟩
  | false =>
    have : ¬ a ≤ b := fun hh => by rw [Nat.ble_eq_true_of_le hh] at h; cases h
    exact ⟨Nat.le_refl _, by show b ≤ a; omega⟩
theorem loB_p (q : Bool) (x y : Nat) : loB true q x y ≤ x := by
  cases q
  · exact Nat.le_refl _
  · exact (minB_le x y).1
theorem loB_q (p : Bool) (x y : Nat) : loB p true x y ≤ y := by
  cases p
  · exact Nat.le_refl _
  · exact (minB_le x y).2
theorem hiB_p (q : Bool) (x y : Nat) : x ≤ hiB true q x y := by
  cases q
  · exact Nat.le_refl _
  · exact (le_maxB x y).1
theorem hiB_q (p : Bool) (x y : Nat) : y ≤ hiB p true x y := by
  cases p
  · exact Nat.le_refl _
  · exact (le_maxB x y).2
theorem box_ok {bl bu rl ru l u : Nat} (h : boxStep bl bu rl ru = some (l, u)) {b r : Nat} (b1 : bl ≤ b) (b2 : b ≤ bu) (r1 : rl ≤ r) (r2 : r ≤ ru) : l ≤ nstep b r ∧ nstep b r ≤ u := by
  unfold boxStep at h
  simp only at h
  generalize hc : (Nat.blt (fmul .f64 ru ru) inf64 && _) = c at h
  cases c with
  | false => cases h
  | true =>
    rw [cond_true] at h
    simp only [Bool.and_eq_true] at hc
    obtain ⟨k1, k2, k3, k4, k5, k6, k7, k8, k9, k10, k11, k12⟩ := hc
    have k1 := Nat.le_of_ble_eq_true k1
    have k2 := Nat.le_of_ble_eq_true k2
    have k3 := Nat.le_of_ble_eq_true k3
    have k4 := Nat.le_of_ble_eq_true k4
    have k5 := Nat.le_of_ble_eq_true k5
    have k6 := Nat.le_of_ble_eq_true k6
    have k7 := Nat.le_of_ble_eq_true k7
    have k8 := Nat.le_of_ble_eq_true k8
    have k9 := Nat.le_of_ble_eq_true k9
    have k10 := Nat.le_of_ble_eq_true k10
    have k11 := Nat.le_of_ble_eq_true k11
    have k12 := Nat.le_of_ble_eq_true k12
    have hi : FloatKind.f64.format.infRung = inf64 := inf64_eq
    have ki : ∀ {x : Nat}, x.succ ≤ inf64 → x < FloatKind.f64.format.infRung := fun hx => by rw [hi]; exact hx
    have hr : r < inf64 := Nat.lt_of_le_of_lt r2 k6
    have hb : b < inf64 := Nat.lt_of_le_of_lt b2 k7
    have c1 : cubeF rl ≤ cubeF r := mul_mono .f64 (ki (Nat.lt_of_le_of_lt (mul_mono .f64 (ki k6) (ki k6) r2 r2) k1)) (ki hr) (mul_mono .f64 (ki hr) (ki hr) r1 r1) r1
    have c2 : cubeF r ≤ cubeF ru := mul_mono .f64 (ki k1) (ki k6) (mul_mono .f64 (ki k6) (ki k6) r2 r2) r2
    have h3 : (4613937818241073152 : Nat) < FloatKind.f64.format.infRung := by rw [hi]; decide
    have m3 : fmul .f64 4613937818241073152 r ≤ fmul .f64 4613937818241073152 ru := mul_mono .f64 h3 (ki k6) (Nat.le_refl _) r2
    have d1 : denF rl ≤ denF r := mul_mono .f64 (ki (Nat.lt_of_le_of_lt m3 k3)) (ki hr) (mul_mono .f64 h3 (ki hr) (Nat.le_refl _) r1) r1
    have d2 : denF r ≤ denF ru := mul_mono .f64 (ki k3) (ki k6) m3 r2
    have hcr : cubeF r < inf64 := Nat.lt_of_le_of_lt c2 k2
    have hdr : denF r < inf64 := Nat.lt_of_le_of_lt d2 k4
    have hd0 : 0 < denF r := Nat.lt_of_lt_of_le k5 d1
    cases h
    unfold nstep
    by_cases hv : valW double b ≤ valW double (cubeF r)
    · rw [sub_ge hcr hb hv]
      have e1 : dif (cubeF r) b ≤ dif (cubeF ru) bl := dif_mono c2 b1
      have e2 : dif (cubeF rl) bu ≤ dif (cubeF r) b := dif_mono c1 b2
      have hdif : dif (cubeF r) b < inf64 := Nat.lt_of_le_of_lt e1 k8
      have q1 : fdiv .f64 (dif (cubeF r) b) (denF r) ≤ fdiv .f64 (dif (cubeF ru) bl) (denF rl) := div_mono .f64 (ki k8) (ki hdr) k5 e1 d1
      have q2 : fdiv .f64 (dif (cubeF rl) bu) (denF ru) ≤ fdiv .f64 (dif (cubeF r) b) (denF r) := div_mono .f64 (ki hdif) (ki k4) hd0 e2 d2
      have hq : fdiv .f64 (dif (cubeF r) b) (denF r) < inf64 := Nat.lt_of_le_of_lt q1 k12
      have hp : vle bl (cubeF ru) = true := Nat.ble_eq_true_of_le (Nat.le_trans (valW_mono double b1) (Nat.le_trans hv (valW_mono double c2)))
      rw [hp]
      exact ⟨Nat.le_trans (loB_p _ _ _) (sub_mono .f64 (ki hr) (ki k12) r1 q1 k10), Nat.le_trans (sub_mono .f64 (ki k6) (ki hq) r2 q2 (Nat.le_trans q1 (Nat.le_trans k10 r1))) (hiB_p _ _ _)⟩
    · rw [sub_lt hcr hb hv]
      have e1 : dif b (cubeF r) ≤ dif bu (cubeF rl) := dif_mono b2 c1
      have e2 : dif bl (cubeF ru) ≤ dif b (cubeF r) := dif_mono b1 c2
      have hdif : dif b (cubeF r) < inf64 := Nat.lt_of_le_of_lt e1 k9
      have q1 : fdiv .f64 (dif b (cubeF r)) (denF r) ≤ fdiv .f64 (dif bu (cubeF rl)) (denF rl) := div_mono .f64 (ki k9) (ki hdr) k5 e1 d1
      have q2 : fdiv .f64 (dif bl (cubeF ru)) (denF ru) ≤ fdiv .f64 (dif b (cubeF r)) (denF r) := div_mono .f64 (ki hdif) (ki k4) hd0 e2 d2
      have hq : fdiv .f64 (dif b (cubeF r)) (denF r) < inf64 := Nat.lt_of_le_of_lt q1 k11
      rw [div_neg hdif hdr hd0, sub_neg hq]
      have hp : vle bu (cubeF rl) = false := by
        cases hx : vle bu (cubeF rl) with
        | false => rfl
        | true => exact absurd (Nat.le_trans (valW_mono double b2) (Nat.le_trans (Nat.le_of_ble_eq_true hx) (valW_mono double c1))) hv
      rw [hp]
      exact ⟨Nat.le_trans (loB_q _ _ _) (add_mono .f64 (ki hr) (ki hq) r1 q2), Nat.le_trans (add_mono .f64 (ki k6) (ki k11) r2 q1) (hiB_q _ _ _)⟩
/-- 'k' steps -/
def nsteps (b : Nat) : Nat → Nat → Nat
  | 0, r => r
  | k + 1, r => nsteps b k (nstep b r)
def boxSteps (bl bu : Nat) : Nat → Nat → Nat → Option (Nat × Nat)
  | 0, rl, ru => some (rl, ru)
  | k + 1, rl, ru => match boxStep bl bu rl ru with
    | some (l, u) => boxSteps bl bu k l u
    | none => none
theorem boxes_ok {bl bu b : Nat} (b1 : bl ≤ b) (b2 : b ≤ bu) : ∀ (k : Nat) {rl ru r l u : Nat}, boxSteps bl bu k rl ru = some (l, u) → rl ≤ r → r ≤ ru → l ≤ nsteps b k r ∧ nsteps b k r ≤ u
  | 0, _, _, _, _, _, h, r1, r2 => by cases h; exact ⟨r1, r2⟩
  | k + 1, rl, ru, r, l, u, h, r1, r2 => by
    unfold boxSteps at h
    split at h
    · rename_i l' u' hs
      obtain ⟨x, y⟩ := box_ok hs b1 b2 r1 r2
      exact boxes_ok b1 b2 k h x y
    · cases h
/-- the box 'i' of those that begin at 'A', its width being 'w'; 'R' is where the steps begin -/
def boxGood (A R lo hi w i : Nat) : Bool :=
  match boxSteps (A + i * w) (A + (i + 1) * w) 6 R R with
  | some (l, u) => Nat.ble lo l && Nat.blt u hi
  | none => false
def allGood (A R lo hi w : Nat) : Nat → Bool
  | 0 => true
  | i + 1 => boxGood A R lo hi w i && allGood A R lo hi w i
theorem root_bounds {A R lo hi w N : Nat} (hw : 0 < w) (h : allGood A R lo hi w N = true) {b : Nat} (b1 : A ≤ b) (b2 : b < A + N * w) : lo ≤ nsteps b 6 R ∧ nsteps b 6 R < hi := by
  have all : ∀ n, allGood A R lo hi w n = true → ∀ i, i < n → boxGood A R lo hi w i = true := by
    intro n
    induction n with
    | zero => intro _ i hi; omega
    | succ n ih =>
      intro h i hi
      rw [allGood, Bool.and_eq_true] at h
      by_cases e : i = n
      · rw [e]; exact h.1
      · exact ih h.2 i (by omega)
  obtain ⟨c, rfl⟩ : ∃ c, b = A + c := ⟨b - A, by omega⟩
  have hc : c < N * w := by omega
  have hg := all N h (c / w) ((Nat.div_lt_iff_lt_mul hw).2 hc)
  have x1 := Nat.div_mul_le_self c w
  have x3 : c < (c / w + 1) * w := (Nat.div_lt_iff_lt_mul hw).1 (Nat.lt_succ_self _)
  generalize c / w = i at *
  unfold boxGood at hg
  split at hg
  · rename_i l u hs
    rw [Bool.and_eq_true] at hg
    obtain ⟨y1, y2⟩ := boxes_ok (b := A + c) (Nat.add_le_add_left x1 A) (Nat.add_le_add_left (Nat.le_of_lt x3) A) 6 hs (Nat.le_refl _) (Nat.le_refl _)
    exact ⟨Nat.le_trans (Nat.le_of_ble_eq_true hg.1) y1, Nat.lt_of_le_of_lt y2 (Nat.le_of_ble_eq_true hg.2)⟩
  · cases hg
end Sx
namespace Sx
open Go Ev Ieee

/-! ### numbers that are not negative, compared -/
theorem cmp_scale (x y k : Nat) : compare ((x * 2 ^ k : Nat) : Int) ((y * 2 ^ k : Nat) : Int) = compare ((x : Nat) : Int) ((y : Nat) : Int) := by
  have hp := Nat.two_pow_pos k
  rcases Nat.lt_trichotomy x y with h | h | h
  · have h2 := Nat.mul_lt_mul_of_pos_right h hp
    rw [Int.compare_eq_lt.2 (by omega), Int.compare_eq_lt.2 (by omega)]
  · subst h
    rw [Int.compare_eq_eq.2 rfl, Int.compare_eq_eq.2 rfl]
  · have h2 := Nat.mul_lt_mul_of_pos_right h hp
    rw [Int.compare_eq_gt.2 (by omega), Int.compare_eq_gt.2 (by omega)]
theorem order_val (f : Format) {a b : Nat} (ha : a < f.infRung) (hb : b < f.infRung) : f.order a b = some (compare ((valW f a : Nat) : Int) ((valW f b : Nat) : Int)) := by
  obtain ⟨m, e, r1, l1, v1⟩ := read_val f ha
  obtain ⟨n, j, r2, l2, v2⟩ := read_val f hb
  unfold Format.order
  rw [r1, r2]
  show some (compare (signed false m (e - min e j).toNat) (signed false n (j - min e j).toNat)) = _
  rw [signed_nn (.inl rfl), signed_nn (.inl rfl)]
  have h1 : valW f a = m * 2 ^ (e - min e j).toNat * 2 ^ (min e j - f.leastPlace).toNat := by
    rw [← v1]
    unfold unitsOf
    rw [Nat.mul_assoc, ← Nat.pow_add, show (e - min e j).toNat + (min e j - f.leastPlace).toNat = (e - f.leastPlace).toNat by omega]
  have h2 : valW f b = n * 2 ^ (j - min e j).toNat * 2 ^ (min e j - f.leastPlace).toNat := by
    rw [← v2]
    unfold unitsOf
    rw [Nat.mul_assoc, ← Nat.pow_add, show (j - min e j).toNat + (min e j - f.leastPlace).toNat = (j - f.leastPlace).toNat by omega]
  rw [h1, h2, cmp_scale]
theorem fge_val {a b : Nat} (ha : a < inf64) (hb : b < inf64) : fge .f64 a b = decide (valW double b ≤ valW double a) := by
  unfold fge
  rw [show FloatKind.f64.format = double from rfl, order_val double (by rw [inf64_eq]; exact ha) (by rw [inf64_eq]; exact hb)]
  generalize valW double a = x
  generalize valW double b = y
  rcases Nat.lt_trichotomy x y with h | h | h
  · rw [Int.compare_eq_lt.2 (by omega), decide_eq_false (by omega)]; rfl
  · subst h
    rw [Int.compare_eq_eq.2 rfl, decide_eq_true (by omega)]; rfl
  · rw [Int.compare_eq_gt.2 (by omega), decide_eq_true (by omega)]; rfl
theorem flt_val {a b : Nat} (ha : a < inf64) (hb : b < inf64) : flt .f64 a b = decide (valW double a < valW double b) := by
  unfold flt
  rw [show FloatKind.f64.format = double from rfl, order_val double (by rw [inf64_eq]; exact ha) (by rw [inf64_eq]; exact hb)]
  generalize valW double a = x
  generalize valW double b = y
  rcases Nat.lt_trichotomy x y with h | h | h
  · rw [Int.compare_eq_lt.2 (by omega), decide_eq_true (by omega)]; rfl
  · subst h
    rw [Int.compare_eq_eq.2 rfl, decide_eq_false (by omega)]; rfl
  · rw [Int.compare_eq_gt.2 (by omega), decide_eq_false (by omega)]; rfl

/-! ### two loops: down to less than 8, up to 1 at least -/
def c8 : Nat := 4620693217682128896
def c2 : Nat := 4611686018427387904
def c1 : Nat := 4607182418800017408
def lp (g : Nat → Bool) (fb fx : Nat → Nat) : Nat → Nat → Nat → Nat × Nat
  | 0, b, x => (b, x)
  | n + 1, b, x => bif g b then lp g fb fx n (fb b) (fx x) else (b, x)
def g1 (b : Nat) : Bool := fge .f64 b c8
def g2 (b : Nat) : Bool := flt .f64 b c1
def d8 (b : Nat) : Nat := fdiv .f64 b c8
def m8 (b : Nat) : Nat := fmul .f64 b c8
def m2 (x : Nat) : Nat := fmul .f64 x c2
def d2 (x : Nat) : Nat := fdiv .f64 x c2
def itr (f : Nat → Nat) : Nat → Nat → Nat
  | 0, b => b
  | n + 1, b => itr f n (f b)
def allI (f : Nat → Nat) (p : Nat → Bool) : Nat → Nat → Bool
  | 0, b => p b
  | n + 1, b => p b && allI f p n (f b)
theorem allI_at {f : Nat → Nat} {p : Nat → Bool} : ∀ {n b i : Nat}, allI f p n b = true → i ≤ n → p (itr f i b) = true
  | 0, b, i, h, hi => by
    have : i = 0 := by omega
    subst this; exact h
  | n + 1, b, i, h, hi => by
    rw [allI, Bool.and_eq_true] at h
    cases i with
    | zero => exact h.1
    | succ i =>
      show p (itr f i (f b)) = true
      exact allI_at (n := n) h.2 (by omega)
theorem itr_succ (f : Nat → Nat) : ∀ (n b : Nat), itr f (n + 1) b = f (itr f n b)
  | 0, _ => rfl
  | n + 1, b => itr_succ f n (f b)
/-- 2 ^ 128, 2 ^ -149, 2 ^ 43 -/
def P0 : Nat := 5183643171103440896
def Q0 : Nat := 3936146074321813504
def X1 : Nat := 4800837202776948736
theorem chkP : allI d8 (fun b => Nat.blt b inf64 && Nat.blt 0 b) 43 P0 = true := by kernel_rfl
theorem endP : g1 (itr d8 43 P0) = false ∧ valW double (itr d8 43 P0) < valW double c8 := by decide +kernel
theorem chkQ : allI m8 (fun b => Nat.blt b inf64) 50 Q0 = true := by kernel_rfl
theorem endQ : valW double c1 ≤ valW double (itr m8 50 Q0) := by decide +kernel
theorem chkX : allI m2 (fun x => Nat.ble x X1) 43 c1 = true := by kernel_rfl
theorem k64 {x : Nat} (h : x < inf64) : x < FloatKind.f64.format.infRung := by rw [show FloatKind.f64.format.infRung = inf64 from inf64_eq]; exact h
theorem bltT' {a b : Nat} (h : Nat.blt a b = true) : a < b := Nat.le_of_ble_eq_true h
/-- not at least 8: less -/
theorem g1_off {b : Nat} (hb : b < inf64) (h : g1 b = false) : b < c8 := by
  unfold g1 at h
  rw [fge_val hb (by decide)] at h
  have h := of_decide_eq_false h
  exact Nat.lt_of_not_le fun hh => h (valW_mono double hh)
theorem g1_on {b : Nat} (hb : b < inf64) (h : g1 b = true) : c8 ≤ b := by
  unfold g1 at h
  rw [fge_val hb (by decide)] at h
  have h := of_decide_eq_true h
  refine Nat.le_of_not_lt fun hh => ?_
  have h1 : valW double b ≤ valW double 4620693217682128895 := valW_mono double (by unfold c8 at hh; omega)
  have h2 : valW double 4620693217682128895 < valW double c8 := by decide +kernel
  omega
theorem g2_on {b : Nat} (hb : b < inf64) (h : g2 b = true) : b < c1 := by
  unfold g2 at h
  rw [flt_val hb (by decide)] at h
  have h := of_decide_eq_true h
  exact Nat.lt_of_not_le fun hh => by have := valW_mono double hh; omega
theorem g2_off {b : Nat} (hb : b < inf64) (h : g2 b = false) : c1 ≤ b := by
  unfold g2 at h
  rw [flt_val hb (by decide)] at h
  have h := of_decide_eq_false h
  refine Nat.le_of_not_lt fun hh => ?_
  have h1 : valW double b ≤ valW double 4607182418800017407 := valW_mono double (by unfold c1 at hh; omega)
  have h2 : valW double 4607182418800017407 < valW double c1 := by decide +kernel
  omega
/-- the first loop -/
theorem first : ∀ (n i b x : Nat), i + n = 43 → Q0 ≤ b → b ≤ itr d8 i P0 → x ≤ itr m2 i c1 →
    g1 (lp g1 d8 m2 n b x).1 = false ∧ Q0 ≤ (lp g1 d8 m2 n b x).1 ∧ (lp g1 d8 m2 n b x).1 < c8 ∧ (lp g1 d8 m2 n b x).2 ≤ X1
  | n, i, b, x, hi, h1, h2, h3 => by
    have hP := allI_at (i := i) chkP (by omega)
    rw [Bool.and_eq_true] at hP
    have hP1 := bltT' hP.1
    have hX : itr m2 i c1 ≤ X1 := Nat.le_of_ble_eq_true (allI_at (i := i) chkX (by omega))
    have hb : b < inf64 := Nat.lt_of_le_of_lt h2 hP1
    cases hg : g1 b with
    | false =>
      have e : lp g1 d8 m2 n b x = (b, x) := by
        cases n with
        | zero => rfl
        | succ n => rw [lp, hg, cond_false]
      rw [e]
      exact ⟨hg, h1, g1_off hb hg, Nat.le_trans h3 hX⟩
    | true =>
      cases n with
      | zero =>
        have : i = 43 := by omega
        subst this
        have h4 := valW_mono double h2
        unfold g1 at hg
        rw [fge_val hb (by decide)] at hg
        have := of_decide_eq_true hg
        have := endP.2
        omega
      | succ n =>
        rw [lp, hg, cond_true]
        refine first n (i + 1) (d8 b) (m2 x) (by omega) ?_ ?_ ?_
        · have : fdiv .f64 c8 c8 ≤ fdiv .f64 b c8 := div_mono .f64 (k64 hb) (k64 (by decide)) (by decide) (g1_on hb hg) (Nat.le_refl _)
          have e : Q0 ≤ fdiv .f64 c8 c8 := by decide +kernel
          exact Nat.le_trans e this
        · rw [itr_succ]
          exact div_mono .f64 (k64 hP1) (k64 (by decide)) (by decide) h2 (Nat.le_refl _)
        · rw [itr_succ]
          exact mul_mono .f64 (k64 (Nat.lt_of_le_of_lt hX (by decide))) (k64 (by decide)) h3 (Nat.le_refl _)
/-- the second loop -/
theorem second : ∀ (n i b x : Nat), i + n = 50 → itr m8 i Q0 ≤ b → b < c8 → x ≤ X1 →
    g2 (lp g2 m8 d2 n b x).1 = false ∧ c1 ≤ (lp g2 m8 d2 n b x).1 ∧ (lp g2 m8 d2 n b x).1 < c8 ∧ (lp g2 m8 d2 n b x).2 ≤ X1
  | n, i, b, x, hi, h1, h2, h3 => by
    have hb : b < inf64 := Nat.lt_trans h2 (by decide)
    cases hg : g2 b with
    | false =>
      have e : lp g2 m8 d2 n b x = (b, x) := by
        cases n with
        | zero => rfl
        | succ n => rw [lp, hg, cond_false]
      rw [e]
      exact ⟨hg, g2_off hb hg, h2, h3⟩
    | true =>
      cases n with
      | zero =>
        have : i = 50 := by omega
        subst this
        have h4 := valW_mono double h1
        unfold g2 at hg
        rw [flt_val hb (by decide)] at hg
        have := of_decide_eq_true hg
        have := endQ
        omega
      | succ n =>
        rw [lp, hg, cond_true]
        have hlt := g2_on hb hg
        refine second n (i + 1) (m8 b) (d2 x) (by omega) ?_ ?_ ?_
        · rw [itr_succ]
          exact mul_mono .f64 (k64 hb) (k64 (by decide)) h1 (Nat.le_refl _)
        · have : fmul .f64 b c8 ≤ fmul .f64 4607182418800017407 c8 := mul_mono .f64 (k64 (by decide)) (k64 (by decide)) (by unfold c1 at hlt; omega) (Nat.le_refl _)
          have e : fmul .f64 4607182418800017407 c8 < c8 := by decide +kernel
          exact Nat.lt_of_le_of_lt this e
        · have : fdiv .f64 x c2 ≤ fdiv .f64 X1 c1 := div_mono .f64 (k64 (by decide)) (k64 (by decide)) (by decide) h3 (by decide)
          have e : fdiv .f64 X1 c1 ≤ X1 := by decide +kernel
          exact Nat.le_trans this e
/-- where both loops end -/
def ends (b : Nat) : Nat × Nat := lp g2 m8 d2 50 (lp g1 d8 m2 43 b c1).1 (lp g1 d8 m2 43 b c1).2
theorem ends_ok {b : Nat} (h1 : Q0 ≤ b) (h2 : b ≤ P0) : g1 (lp g1 d8 m2 43 b c1).1 = false ∧ g2 (ends b).1 = false ∧ c1 ≤ (ends b).1 ∧ (ends b).1 < c8 ∧ (ends b).2 ≤ X1 := by
  obtain ⟨a1, a2, a3, a4⟩ := first 43 0 b c1 rfl h1 h2 (Nat.le_refl _)
  obtain ⟨b1, b2, b3, b4⟩ := second 50 0 _ _ rfl a2 a3 a4
  exact ⟨a1, b1, b2, b3, b4⟩
theorem good0 : allGood 4607182418800017408 4609434218613702656 4602678819172646912 4616189618054758400 105553116266496 8 = true := by kernel_rfl
theorem good1 : allGood 4608026843730149376 4609434218613702656 4602678819172646912 4616189618054758400 105553116266496 8 = true := by kernel_rfl
theorem good2 : allGood 4608871268660281344 4609434218613702656 4602678819172646912 4616189618054758400 105553116266496 8 = true := by kernel_rfl
theorem good3 : allGood 4609715693590413312 4609434218613702656 4602678819172646912 4616189618054758400 105553116266496 8 = true := by kernel_rfl
theorem good4 : allGood 4610560118520545280 4609434218613702656 4602678819172646912 4616189618054758400 105553116266496 8 = true := by kernel_rfl
theorem good5 : allGood 4611404543450677248 4609434218613702656 4602678819172646912 4616189618054758400 105553116266496 8 = true := by kernel_rfl
theorem good6 : allGood 4612248968380809216 4609434218613702656 4602678819172646912 4616189618054758400 105553116266496 8 = true := by kernel_rfl
theorem good7 : allGood 4613093393310941184 4609434218613702656 4602678819172646912 4616189618054758400 105553116266496 8 = true := by kernel_rfl
theorem good8 : allGood 4613937818241073152 4609434218613702656 4602678819172646912 4616189618054758400 105553116266496 8 = true := by kernel_rfl
theorem good9 : allGood 4614782243171205120 4609434218613702656 4602678819172646912 4616189618054758400 105553116266496 8 = true := by kernel_rfl
theorem good10 : allGood 4615626668101337088 4609434218613702656 4602678819172646912 4616189618054758400 105553116266496 8 = true := by kernel_rfl
theorem good11 : allGood 4616471093031469056 4609434218613702656 4602678819172646912 4616189618054758400 105553116266496 8 = true := by kernel_rfl
theorem good12 : allGood 4617315517961601024 4609434218613702656 4602678819172646912 4616189618054758400 105553116266496 8 = true := by kernel_rfl
theorem good13 : allGood 4618159942891732992 4609434218613702656 4602678819172646912 4616189618054758400 105553116266496 8 = true := by kernel_rfl
theorem good14 : allGood 4619004367821864960 4609434218613702656 4602678819172646912 4616189618054758400 105553116266496 8 = true := by kernel_rfl
theorem good15 : allGood 4619848792751996928 4609434218613702656 4602678819172646912 4616189618054758400 105553116266496 8 = true := by kernel_rfl
theorem r_bounds {b : Nat} (h1 : c1 ≤ b) (h2 : b < c8) : 4602678819172646912 ≤ nsteps b 6 4609434218613702656 ∧ nsteps b 6 4609434218613702656 < 4616189618054758400 := by
  have h1 : 4607182418800017408 ≤ b := h1
  have h2 : b < 4620693217682128896 := h2
  by_cases e0 : b < 4608026843730149376
  · exact root_bounds (w := 105553116266496) (N := 8) (by decide) good0 (by omega) (by omega)
  by_cases e1 : b < 4608871268660281344
  · exact root_bounds (w := 105553116266496) (N := 8) (by decide) good1 (by omega) (by omega)
  by_cases e2 : b < 4609715693590413312
  · exact root_bounds (w := 105553116266496) (N := 8) (by decide) good2 (by omega) (by omega)
  by_cases e3 : b < 4610560118520545280
  · exact root_bounds (w := 105553116266496) (N := 8) (by decide) good3 (by omega) (by omega)
  by_cases e4 : b < 4611404543450677248
  · exact root_bounds (w := 105553116266496) (N := 8) (by decide) good4 (by omega) (by omega)
  by_cases e5 : b < 4612248968380809216
  · exact root_bounds (w := 105553116266496) (N := 8) (by decide) good5 (by omega) (by omega)
  by_cases e6 : b < 4613093393310941184
  · exact root_bounds (w := 105553116266496) (N := 8) (by decide) good6 (by omega) (by omega)
  by_cases e7 : b < 4613937818241073152
  · exact root_bounds (w := 105553116266496) (N := 8) (by decide) good7 (by omega) (by omega)
  by_cases e8 : b < 4614782243171205120
  · exact root_bounds (w := 105553116266496) (N := 8) (by decide) good8 (by omega) (by omega)
  by_cases e9 : b < 4615626668101337088
  · exact root_bounds (w := 105553116266496) (N := 8) (by decide) good9 (by omega) (by omega)
  by_cases e10 : b < 4616471093031469056
  · exact root_bounds (w := 105553116266496) (N := 8) (by decide) good10 (by omega) (by omega)
  by_cases e11 : b < 4617315517961601024
  · exact root_bounds (w := 105553116266496) (N := 8) (by decide) good11 (by omega) (by omega)
  by_cases e12 : b < 4618159942891732992
  · exact root_bounds (w := 105553116266496) (N := 8) (by decide) good12 (by omega) (by omega)
  by_cases e13 : b < 4619004367821864960
  · exact root_bounds (w := 105553116266496) (N := 8) (by decide) good13 (by omega) (by omega)
  by_cases e14 : b < 4619848792751996928
  · exact root_bounds (w := 105553116266496) (N := 8) (by decide) good14 (by omega) (by omega)
  exact root_bounds (w := 105553116266496) (N := 8) (by decide) good15 (by omega) (by omega)
/-- the size of the root -/
def rootY (b : Nat) : Nat := fmul .f64 (nsteps (ends b).1 6 4609434218613702656) (ends b).2
theorem y_bound {b : Nat} (h1 : Q0 ≤ b) (h2 : b ≤ P0) : rootY b ≤ 4809844402031689728 := by
  obtain ⟨_, _, a3, a4, a5⟩ := ends_ok h1 h2
  have hr := r_bounds a3 a4
  have : rootY b ≤ fmul .f64 4616189618054758400 X1 := mul_mono .f64 (k64 (by decide)) (k64 (by decide)) (Nat.le_of_lt hr.2) a5
  have e : fmul .f64 4616189618054758400 X1 ≤ 4809844402031689728 := by decide +kernel
  exact Nat.le_trans this e
end Sx
namespace Sx
open Go Ev Ieee

/-! ### signs -/
theorem flip_up {x k : Nat} (h : x < 2 ^ k) : x ^^^ 2 ^ k = 2 ^ k + x := by
  apply Nat.eq_of_testBit_eq
  intro i
  rw [Nat.testBit_xor, Nat.testBit_two_pow]
  rcases Nat.lt_trichotomy i k with hi | hi | hi
  · rw [Nat.testBit_two_pow_add_gt hi, decide_eq_false (by omega), Bool.xor_false]
  · subst hi
    rw [Nat.testBit_two_pow_add_eq, Nat.testBit_lt_two_pow h, decide_eq_true rfl]; rfl
  · have h1 : 2 ^ k + x < 2 ^ i := Nat.lt_of_lt_of_le (show 2 ^ k + x < 2 ^ (k + 1) by rw [Nat.pow_succ]; omega) (Nat.pow_le_pow_right (by decide) hi)
    rw [Nat.testBit_lt_two_pow h1, Nat.testBit_lt_two_pow (Nat.lt_trans h (Nat.pow_lt_pow_right (by decide) hi)), decide_eq_false (by omega)]; rfl
theorem flip_down {x k : Nat} (h : x < 2 ^ k) : (2 ^ k + x) ^^^ 2 ^ k = x := by
  rw [← flip_up h, Nat.xor_assoc, Nat.xor_self, Nat.xor_zero]
theorem num_cn {k : FloatKind} {g : Bool} {r : Nat} (h : r < k.format.infRung) : cn k (k.format.word g r) = k.format.word g r := by
  refine cn_of_not ?_
  unfold isN
  rw [word_cases k.format g (Nat.le_of_lt h)]
  split
  · rfl
  · rfl
theorem fneg_word {k : FloatKind} {g : Bool} {r : Nat} (h : r < k.format.infRung) : fneg k (k.format.word g r) = k.format.word (!g) r := by
  have hs : k.format.infRung < 2 ^ (k.format.exponentBits + k.format.fractionBits) := by cases k <;> decide
  have hw : k.format.signWeight = 2 ^ (k.format.exponentBits + k.format.fractionBits) := rfl
  have e : Op.negFloat k (k.format.word g r) = k.format.word (!g) r := by
    unfold Op.negFloat Format.word
    rw [hw]
    cases g with
    | true => exact flip_down (Nat.lt_trans h hs)
    | false => exact flip_up (Nat.lt_trans h hs)
  unfold fneg
  rw [e, num_cn h]

/-! ### a narrow number, taken apart -/
theorem apart {a : Nat} (h : finB a = true) : ∃ g, a % 2147483648 < 2139095040 ∧ single.read a = single.read (single.word g (a % 2147483648)) := by
  obtain ⟨f1, f2, f3, f4, f5⟩ := single_facts
  rw [← f4]
  refine ⟨a / single.signWeight % 2 == 1, ?_, ?_⟩
  · refine Nat.lt_of_not_le fun hh => ?_
    unfold finB Format.read at h
    simp only [f2, f1, f4] at h hh
    rw [if_neg (by omega), if_neg (by omega)] at h
    split at h
    · rename_i hq
      split at hq <;> cases hq
    · cases h
  · have hl : a % single.signWeight < single.signWeight := Nat.mod_lt _ (by rw [f4]; decide)
    have hs : (single.word (a / single.signWeight % 2 == 1) (a % single.signWeight) / single.signWeight % 2 == 1) = (a / single.signWeight % 2 == 1) := by
      unfold Format.word
      cases hg : (a / single.signWeight % 2 == 1) with
      | true =>
        have e : (single.signWeight + a % single.signWeight) / single.signWeight = 1 := by
          rw [Nat.add_div_left _ (by rw [f4]; decide), Nat.div_eq_of_lt hl]
        rw [if_pos rfl, e]; rfl
      | false => rw [if_neg (by decide), Nat.div_eq_of_lt hl]; rfl
    show single.read a = single.read (single.word (a / single.signWeight % 2 == 1) (a % single.signWeight))
    unfold Format.read
    simp only [hs, Format.word_mod single _ hl]

theorem inf32 : single.infRung = 2139095040 := by decide
def upK : Nat := 925
/-- made wide -/
def wide (u : Nat) : Nat := rungOf double (valW single u * 2 ^ upK) double.leastPlace
theorem write_num (f : Format) (g : Bool) (m : Nat) (e : Int) : f.write (.number g m e) = f.word g (rungOf f m e) := nearest_rungOf f g m e
theorem read_word (f : Format) {g : Bool} {r : Nat} (h : r < f.infRung) : ∃ m e, f.read (f.word g r) = .number g m e ∧ f.leastPlace ≤ e ∧ unitsOf m e f.leastPlace = valW f r ∧ (m = 0 ↔ r = 0) := by
  rw [word_cases f g (Nat.le_of_lt h)]
  have hB : 0 < f.binade := Nat.two_pow_pos _
  unfold valW unitsOf
  by_cases hb : r < f.binade
  · rw [if_pos hb, if_pos hb]
    exact ⟨_, _, rfl, Int.le_refl _, by rw [Int.sub_self]; exact Nat.mul_one _, Iff.rfl⟩
  · rw [if_neg hb, if_neg hb, if_pos h]
    refine ⟨_, _, rfl, by omega, ?_, ⟨fun e => by omega, fun e => by omega⟩⟩
    rw [show (f.leastPlace + ((r / f.binade - 1 : Nat) : Int) - f.leastPlace).toNat = r / f.binade - 1 by omega]
theorem wide_word {a : Nat} {g : Bool} {u : Nat} (hu : u < 2139095040) (h : single.read a = single.read (single.word g u)) : fcv .f32 .f64 a = double.word g (wide u) := by
  obtain ⟨m, e, h1, h2, h3, _⟩ := read_word single (g := g) (r := u) (by rw [inf32]; exact hu)
  unfold fcv
  rw [show FloatKind.f32.format.read a = .number g m e from h.trans h1]
  show double.write (.number g m e) = _
  have hl : single.leastPlace = -149 := by decide
  have hd : double.leastPlace = -1074 := by decide
  rw [write_num, rung_units double (base := double.leastPlace) (by omega) (Int.le_refl _)]
  unfold wide
  rw [← h3]
  unfold unitsOf
  rw [Nat.mul_assoc, ← Nat.pow_add, hl, hd, show (e - -149).toNat + upK = (e - -1074).toNat by unfold upK; omega]
theorem wide_lo {u : Nat} (h : 0 < u) : Q0 ≤ wide u := by
  have h1 : wide 1 ≤ wide u := rung_le double (Int.le_refl _) (Nat.mul_le_mul_right _ (valW_mono single h))
  have h2 : Q0 = wide 1 := by decide +kernel
  rw [h2]; exact h1
theorem wide_hi {u : Nat} (h : u < 2139095040) : wide u ≤ P0 := by
  have h1 : wide u ≤ wide 2139095039 := rung_le double (Int.le_refl _) (Nat.mul_le_mul_right _ (valW_mono single (by omega)))
  have h2 : wide 2139095039 ≤ P0 := by decide +kernel
  exact Nat.le_trans h1 h2
theorem wide_inf {u : Nat} (h : u < 2139095040) : wide u < inf64 := Nat.lt_of_le_of_lt (wide_hi h) (by decide)
/-- made narrow -/
def slim (y : Nat) : Nat := rungOf single (valW double y) double.leastPlace
theorem slim_hi {y : Nat} (h : y ≤ 4809844402031689728) : slim y < 2139095040 := by
  have h1 : slim y ≤ slim 4809844402031689728 := rung_le single (by decide) (valW_mono double h)
  have h2 : slim 4809844402031689728 < 2139095040 := by decide +kernel
  exact Nat.lt_of_le_of_lt h1 h2
theorem slim_word {g : Bool} {y : Nat} (h : y ≤ 4809844402031689728) : fcv .f64 .f32 (double.word g y) = single.word g (slim y) ∧ fcvOk .f64 .f32 (double.word g y) = true := by
  obtain ⟨m, e, h1, h2, h3, _⟩ := read_word double (g := g) (r := y) (by rw [inf64_eq]; exact Nat.lt_of_le_of_lt h (by decide))
  have hr : rungOf single m e = slim y := by
    rw [rung_units single (base := double.leastPlace) h2 (by decide), h3]; rfl
  have hw : single.write (.number g m e) = single.word g (slim y) := by rw [write_num, hr]
  have hs := slim_hi h
  constructor
  · unfold fcv
    rw [show FloatKind.f64.format.read (double.word g y) = .number g m e from h1]
    exact hw
  · unfold fcvOk
    rw [show FloatKind.f64.format.read (double.word g y) = .number g m e from h1]
    show (!(single.read (single.write (.number g m e))).isInfinity) = true
    obtain ⟨m', e', h4, _⟩ := read_word single (g := g) (r := slim y) (by rw [inf32]; exact hs)
    rw [hw, h4]; rfl
theorem zero32 {a : Nat} {g : Bool} {u : Nat} (hu : u < 2139095040) (h : single.read a = single.read (single.word g u)) : feq .f32 a 0 = decide (u = 0) ∧ flt .f32 a 0 = (g && !decide (u = 0)) := by
  obtain ⟨m, e, h1, h2, _, h4⟩ := read_word single (g := g) (r := u) (by rw [inf32]; exact hu)
  have hr : single.read 0 = .number false 0 (-149) := by decide +kernel
  have ho : FloatKind.f32.format.order a 0 = some (compare (signed g m (e - min e (-149)).toNat) 0) := by
    show (single.read a).order (single.read 0) = _
    rw [h.trans h1, hr]
    show some (compare (signed g m (e - min e (-149)).toNat) (signed false 0 (-149 - min e (-149)).toNat)) = _
    have hz : signed false 0 (-149 - min e (-149)).toNat = 0 := by rw [signed_nn (.inl rfl), Nat.zero_mul]; rfl
    rw [hz]
  unfold feq flt
  rw [ho]
  have hp := Nat.two_pow_pos (e - min e (-149)).toNat
  by_cases hz : u = 0
  · have hm : m = 0 := h4.2 hz
    subst hm
    rw [signed_nn (.inr rfl), Nat.zero_mul, decide_eq_true hz]
    cases g <;> exact ⟨rfl, rfl⟩
  · have hm : m ≠ 0 := fun e => hz (h4.1 e)
    have hmp : 0 < m * 2 ^ (e - min e (-149)).toNat := Nat.mul_pos (Nat.pos_of_ne_zero hm) hp
    rw [decide_eq_false hz]
    cases g with
    | false =>
      rw [signed_nn (.inl rfl), Int.compare_eq_gt.2 (by omega)]
      exact ⟨rfl, rfl⟩
    | true =>
      have hs : signed true m (e - min e (-149)).toNat = -((m * 2 ^ (e - min e (-149)).toNat : Nat) : Int) := by
        unfold signed
        rw [if_pos rfl, Nat.shiftLeft_eq]
      rw [hs, Int.compare_eq_lt.2 (by omega)]
      exact ⟨rfl, rfl⟩

/-! ### the third root -/
/-- what both functions answer -/
def rootV (a : Nat) : Nat := bif finB a then (bif feq .f32 a 0 then 0 else single.word (flt .f32 a 0) (slim (rootY (wide (a % 2147483648))))) else 0
def rootC (a : Nat) : Int := bif finB a then 0 else 2
end Sx
namespace Sx
open Go Ev Ieee Go.RowKit
/-! ### a sign from elsewhere -/
theorem wrap_nat {r : Nat} (h : r < 18446744073709551616) : IntKind.u64.wrap (r : Int) = (r : Int) := by
  unfold IntKind.wrap
  have e : ((r : Int) % (2 ^ IntKind.u64.bits : Int)) = (r : Int) := by
    show ((r : Int) % (18446744073709551616 : Int)) = _
    omega
  rw [e]
  simp [IntKind.signed]
theorem bits_andNot (y : Nat) : bits BinOp.andNot IntKind.u64 (y : Nat) 9223372036854775808 = ((y % 9223372036854775808 : Nat) : Int) := by
  unfold bits
  have e : (BitVec.ofInt IntKind.u64.bits ((y : Nat) : Int) &&& ~~~(BitVec.ofInt IntKind.u64.bits 9223372036854775808)).toNat = y % 9223372036854775808 := by
    show (BitVec.ofInt 64 (y : Int) &&& ~~~(BitVec.ofInt 64 9223372036854775808)).toNat = _
    rw [BitVec.toNat_and, show (~~~(BitVec.ofInt 64 9223372036854775808)).toNat = 2 ^ 63 - 1 by decide, Nat.and_two_pow_sub_one_eq_mod, BitVec.ofInt_natCast, BitVec.toNat_ofNat]
    omega
  simp only [e]
  exact wrap_nat (by omega)
theorem and_pow (x k : Nat) : x &&& 2 ^ k = (x.testBit k).toNat * 2 ^ k := by
  apply Nat.eq_of_testBit_eq
  intro i
  rw [Nat.testBit_and, Nat.testBit_two_pow]
  by_cases hi : k = i
  · subst hi
    cases x.testBit k with
    | true => rw [show true.toNat * 2 ^ k = 2 ^ k from Nat.one_mul _, Nat.testBit_two_pow_self, decide_eq_true rfl]; rfl
    | false => rw [show false.toNat * 2 ^ k = 0 from Nat.zero_mul _, Nat.zero_testBit]; rfl
  · rw [decide_eq_false hi, Bool.and_false]
    cases x.testBit k with
    | true => rw [show true.toNat * 2 ^ k = 2 ^ k from Nat.one_mul _, Nat.testBit_two_pow, decide_eq_false hi]
    | false => rw [show false.toNat * 2 ^ k = 0 from Nat.zero_mul _, Nat.zero_testBit]
theorem bits_and (s : Nat) : bits BinOp.and IntKind.u64 (s : Nat) 9223372036854775808 = (((s % 18446744073709551616).testBit 63).toNat * 9223372036854775808 : Nat) := by
  unfold bits
  have e : (BitVec.ofInt IntKind.u64.bits ((s : Nat) : Int) &&& (BitVec.ofInt IntKind.u64.bits 9223372036854775808)).toNat = ((s % 18446744073709551616).testBit 63).toNat * 9223372036854775808 := by
    show (BitVec.ofInt 64 (s : Int) &&& (BitVec.ofInt 64 9223372036854775808)).toNat = _
    rw [BitVec.toNat_and, show (BitVec.ofInt 64 9223372036854775808).toNat = 2 ^ 63 by decide, BitVec.ofInt_natCast, BitVec.toNat_ofNat, and_pow]
  simp only [e]
  exact wrap_nat (by cases (s % 18446744073709551616).testBit 63 <;> decide)
theorem bits_or (x z : Nat) (hx : x < 18446744073709551616) (hz : z < 18446744073709551616) : bits BinOp.or IntKind.u64 (x : Nat) (z : Nat) = ((x ||| z : Nat) : Int) := by
  unfold bits
  have e : (BitVec.ofInt IntKind.u64.bits ((x : Nat) : Int) ||| (BitVec.ofInt IntKind.u64.bits ((z : Nat) : Int))).toNat = x ||| z := by
    show (BitVec.ofInt 64 (x : Int) ||| (BitVec.ofInt 64 (z : Int))).toNat = _
    rw [BitVec.toNat_or, BitVec.ofInt_natCast, BitVec.ofInt_natCast, BitVec.toNat_ofNat, BitVec.toNat_ofNat, Nat.mod_eq_of_lt hx, Nat.mod_eq_of_lt hz]
  simp only [e]
  exact wrap_nat (Nat.or_lt_two_pow (n := 64) hx hz)
def csR (x s : Nat) : Nat := (bits BinOp.or IntKind.u64 (bits BinOp.andNot IntKind.u64 (x : Nat) 9223372036854775808) (bits BinOp.and IntKind.u64 (s : Nat) 9223372036854775808)).toNat
theorem csR_word {y W : Nat} {g : Bool} (hy : y < 9223372036854775808) (hW : W < 9223372036854775808) : csR y (double.word g W) = double.word g y := by
  have hs : double.signWeight = 9223372036854775808 := by decide
  unfold csR
  rw [bits_andNot, bits_and, Nat.mod_eq_of_lt hy]
  unfold Format.word
  rw [hs]
  cases g with
  | false =>
    rw [if_neg (by decide), if_neg (by decide), Nat.mod_eq_of_lt (by omega), Nat.testBit_lt_two_pow (i := 63) hW]
    rw [show (false.toNat * 9223372036854775808 : Nat) = 0 from rfl, bits_or _ _ (by omega) (by omega), Nat.or_zero]
    exact Int.toNat_natCast y
  | true =>
    rw [if_pos rfl, if_pos rfl, Nat.mod_eq_of_lt (by omega), show 9223372036854775808 + W = 2 ^ 63 + W from rfl, Nat.testBit_two_pow_add_eq, Nat.testBit_lt_two_pow (i := 63) hW]
    rw [show ((!false).toNat * 9223372036854775808 : Nat) = 9223372036854775808 from rfl, bits_or _ _ (by omega) (by omega), Int.toNat_natCast, Nat.or_comm]
    have := (Nat.two_pow_add_eq_or_of_lt (i := 63) hy 1).symm
    exact this
end Sx
