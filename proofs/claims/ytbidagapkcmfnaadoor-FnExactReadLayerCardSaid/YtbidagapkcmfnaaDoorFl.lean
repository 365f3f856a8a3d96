/-
  Floats whose NaNs are made one. No condition.
-/
import Derived.WalkKit
import Derived.Laws.FloatBits
namespace Ev
open Go
noncomputable section
/-! floats -/
def qn : FloatKind → Nat
  | .f32 => 2143289344
  | .f64 => 9221120237041090560
def isN (k : FloatKind) (b : Nat) : Bool := (k.format.read b).isNaN
def cn (k : FloatKind) (b : Nat) : Nat := bif isN k b then qn k else b
def o2 (k : FloatKind) : Option Nat → Nat
  | some r => r
  | none => qn k
def fadd (k : FloatKind) (a b : Nat) : Nat := o2 k (k.format.add a b)
def fsub (k : FloatKind) (a b : Nat) : Nat := o2 k (k.format.sub a b)
def fmul (k : FloatKind) (a b : Nat) : Nat := o2 k (k.format.mul a b)
def fdiv (k : FloatKind) (a b : Nat) : Nat := o2 k (k.format.div a b)
def feq (k : FloatKind) (a b : Nat) : Bool := k.format.order a b == some .eq
def fne (k : FloatKind) (a b : Nat) : Bool := k.format.order a b != some .eq
def flt (k : FloatKind) (a b : Nat) : Bool := k.format.order a b == some .lt
def fle (k : FloatKind) (a b : Nat) : Bool := k.format.order a b == some .lt || k.format.order a b == some .eq
def fgt (k : FloatKind) (a b : Nat) : Bool := k.format.order a b == some .gt
def fge (k : FloatKind) (a b : Nat) : Bool := k.format.order a b == some .gt || k.format.order a b == some .eq
def fneg (k : FloatKind) (a : Nat) : Nat := cn k (Op.negFloat k a)
/-- widening and narrowing -/
def fcv (s d : FloatKind) (a : Nat) : Nat :=
  match s.format.read a with
  | .nan _ _ => qn d
  | .infinity g => d.format.write (.infinity g)
  | .number g m e => d.format.write (.number g m e)
def fcvOk (s d : FloatKind) (a : Nat) : Bool :=
  match s.format.read a with
  | .number g m e => !(d.format.read (d.format.write (.number g m e))).isInfinity
  | _ => true
def fsqrt (a : Nat) : Nat := o2 .f64 (FloatKind.f64.format.sqrt a)
/-- a number, cut to an integer, and whether that is one of the kind -/
def ftoi (k : FloatKind) (a : Nat) : Int :=
  match (k.decode a).toInt .zero with
  | some n => n
  | none => 0
def ftoiOk (k : FloatKind) (d : IntKind) (a : Nat) : Bool :=
  match (k.decode a).toInt .zero with
  | some n => decide (d.min ≤ n) && decide (n ≤ d.max)
  | none => false

end
open Go Ieee

theorem Format.word_mod (f : Format) (neg : Bool) {rung : Nat} (h : rung < f.signWeight) : f.word neg rung % f.signWeight = rung := by
  unfold Format.word
  split
  · rw [Nat.add_mod_left]; exact Nat.mod_eq_of_lt h
  · exact Nat.mod_eq_of_lt h

theorem Format.read_word_notNaN (f : Format) (neg : Bool) {rung : Nat} (h : rung ≤ f.infRung) : (f.read (f.word neg rung)).isNaN = false := by
  have hlt : rung < f.signWeight := Nat.lt_of_le_of_lt h f.infRung_lt
  unfold Format.read
  simp only [Format.word_mod f neg hlt]
  split
  · rfl
  · split
    · rfl
    · split
      · rfl
      · omega

theorem Format.write_notNaN (f : Format) {d : Datum} (h : d.isNaN = false) : (f.read (f.write d)).isNaN = false := by
  cases d with
  | number neg mag place =>
    unfold Format.write Format.nearest
    simp only
    split
    · exact Format.read_word_notNaN f _ (Nat.zero_le _)
    · exact Format.read_word_notNaN f _ (Nat.min_le_right ..)
  | infinity neg => exact Format.read_word_notNaN f _ (Nat.le_refl _)
  | nan neg fr => cases h

theorem isNaN_iff {d : Datum} : d.isNaN = true ↔ ∃ s t, d = .nan s t := by
  cases d <;> simp [Datum.isNaN]

theorem sum_notNaN {x y d : Datum} (h : x.sum y = some d) : d.isNaN = false := by
  cases x <;> cases y <;> simp only [Datum.sum] at h <;> (try cases h) <;> (try rfl)
  · split at h
    · cases h; rfl
    · cases h
theorem product_notNaN {x y d : Datum} (h : x.product y = some d) : d.isNaN = false := by
  cases x <;> cases y <;> simp only [Datum.product] at h <;> (try cases h) <;> (try rfl)
  all_goals
    split at h
    · cases h
    · cases h; rfl
theorem quotient_notNaN {n : Nat} {x y d : Datum} (h : x.quotient n y = some d) : d.isNaN = false := by
  cases x <;> cases y <;> simp only [Datum.quotient] at h <;> (try cases h) <;> (try rfl)
  · split at h
    · split at h
      · cases h
      · cases h; rfl
    · cases h; rfl
theorem root_notNaN {n : Nat} {x d : Datum} (h : x.root n = some d) : d.isNaN = false := by
  cases x <;> simp only [Datum.root] at h
  · split at h
    · cases h; rfl
    · split at h
      · cases h
      · cases h; rfl
  · split at h
    · cases h
    · cases h; rfl
  · cases h

theorem isN_qn (k : FloatKind) : isN k (qn k) = true := by cases k <;> decide +kernel
theorem cn_of_N {k : FloatKind} {b : Nat} (h : isN k b = true) : cn k b = qn k := by simp [cn, h]
theorem cn_of_not {k : FloatKind} {b : Nat} (h : isN k b = false) : cn k b = b := by simp [cn, h]
theorem isN_cn (k : FloatKind) (b : Nat) : isN k (cn k b) = isN k b := by
  cases h : isN k b
  · rw [cn_of_not h, h]
  · rw [cn_of_N h, isN_qn]
theorem cn_cn (k : FloatKind) (b : Nat) : cn k (cn k b) = cn k b := by
  cases h : isN k b
  · rw [cn_of_not h, cn_of_not h]
  · rw [cn_of_N h, cn_of_N (isN_qn k)]
theorem cn_qn (k : FloatKind) : cn k (qn k) = qn k := cn_of_N (isN_qn k)

theorem read_N {k : FloatKind} {b : Nat} (h : isN k b = true) : ∃ s t, k.format.read b = .nan s t := isNaN_iff.1 h

theorem write_cn (k : FloatKind) {d : Datum} (h : d.isNaN = false) : isN k (k.format.write d) = false := Format.write_notNaN k.format h

section arith
variable {k : FloatKind} {x y : Nat}
theorem add_cn : k.format.add (cn k x) (cn k y) = k.format.add x y ∧ ∀ r, k.format.add x y = some r → isN k r = false := by
  constructor
  · unfold Format.add
    cases hx : isN k x
    · cases hy : isN k y
      · rw [cn_of_not hx, cn_of_not hy]
      · obtain ⟨s, t, e⟩ := read_N hy
        obtain ⟨s', t', e'⟩ := read_N (isN_qn k)
        rw [cn_of_N hy, e, e']
        cases k.format.read (cn k x) <;> cases k.format.read x <;> rfl
    · obtain ⟨s, t, e⟩ := read_N hx
      obtain ⟨s', t', e'⟩ := read_N (isN_qn k)
      rw [cn_of_N hx, e, e']; simp [Datum.sum]
  · intro r h
    unfold Format.add at h
    obtain ⟨d, hd, rfl⟩ := Option.map_eq_some_iff.1 h
    exact write_cn k (sum_notNaN hd)
theorem sub_cn : k.format.sub (cn k x) (cn k y) = k.format.sub x y ∧ ∀ r, k.format.sub x y = some r → isN k r = false := by
  constructor
  · unfold Format.sub
    cases hx : isN k x
    · cases hy : isN k y
      · rw [cn_of_not hx, cn_of_not hy]
      · obtain ⟨s, t, e⟩ := read_N hy
        obtain ⟨s', t', e'⟩ := read_N (isN_qn k)
        rw [cn_of_N hy, e, e']
        simp only [Datum.opposite]
        cases k.format.read (cn k x) <;> cases k.format.read x <;> rfl
    · obtain ⟨s, t, e⟩ := read_N hx
      obtain ⟨s', t', e'⟩ := read_N (isN_qn k)
      rw [cn_of_N hx, e, e']; simp [Datum.sum]
  · intro r h
    unfold Format.sub at h
    obtain ⟨d, hd, rfl⟩ := Option.map_eq_some_iff.1 h
    exact write_cn k (sum_notNaN hd)
theorem mul_cn : k.format.mul (cn k x) (cn k y) = k.format.mul x y ∧ ∀ r, k.format.mul x y = some r → isN k r = false := by
  constructor
  · unfold Format.mul
    cases hx : isN k x
    · cases hy : isN k y
      · rw [cn_of_not hx, cn_of_not hy]
      · obtain ⟨s, t, e⟩ := read_N hy
        obtain ⟨s', t', e'⟩ := read_N (isN_qn k)
        rw [cn_of_N hy, e, e']
        cases k.format.read (cn k x) <;> cases k.format.read x <;> rfl
    · obtain ⟨s, t, e⟩ := read_N hx
      obtain ⟨s', t', e'⟩ := read_N (isN_qn k)
      rw [cn_of_N hx, e, e']; simp [Datum.product]
  · intro r h
    unfold Format.mul at h
    obtain ⟨d, hd, rfl⟩ := Option.map_eq_some_iff.1 h
    exact write_cn k (product_notNaN hd)
theorem div_cn : k.format.div (cn k x) (cn k y) = k.format.div x y ∧ ∀ r, k.format.div x y = some r → isN k r = false := by
  constructor
  · unfold Format.div
    cases hx : isN k x
    · cases hy : isN k y
      · rw [cn_of_not hx, cn_of_not hy]
      · obtain ⟨s, t, e⟩ := read_N hy
        obtain ⟨s', t', e'⟩ := read_N (isN_qn k)
        rw [cn_of_N hy, e, e']
        cases k.format.read (cn k x) <;> cases k.format.read x <;> rfl
    · obtain ⟨s, t, e⟩ := read_N hx
      obtain ⟨s', t', e'⟩ := read_N (isN_qn k)
      rw [cn_of_N hx, e, e']; simp [Datum.quotient]
  · intro r h
    unfold Format.div at h
    obtain ⟨d, hd, rfl⟩ := Option.map_eq_some_iff.1 h
    exact write_cn k (quotient_notNaN hd)
theorem order_cn : k.format.order (cn k x) (cn k y) = k.format.order x y := by
  unfold Format.order
  cases hx : isN k x
  · cases hy : isN k y
    · rw [cn_of_not hx, cn_of_not hy]
    · obtain ⟨s, t, e⟩ := read_N hy
      obtain ⟨s', t', e'⟩ := read_N (isN_qn k)
      rw [cn_of_N hy, e, e']
      cases k.format.read (cn k x) <;> cases k.format.read x <;> rfl
  · obtain ⟨s, t, e⟩ := read_N hx
    obtain ⟨s', t', e'⟩ := read_N (isN_qn k)
    rw [cn_of_N hx, e, e']; simp [Datum.order]
theorem sqrt_cn : k.format.sqrt (cn k x) = k.format.sqrt x ∧ ∀ r, k.format.sqrt x = some r → isN k r = false := by
  constructor
  · unfold Format.sqrt
    cases hx : isN k x
    · rw [cn_of_not hx]
    · obtain ⟨s, t, e⟩ := read_N hx
      obtain ⟨s', t', e'⟩ := read_N (isN_qn k)
      rw [cn_of_N hx, e, e']; simp [Datum.root]
  · intro r h
    unfold Format.sqrt at h
    obtain ⟨d, hd, rfl⟩ := Option.map_eq_some_iff.1 h
    exact write_cn k (root_notNaN hd)
end arith

/-- the sign turned: a NaN stays one, and only a NaN becomes one -/
theorem negFloat_eq (k : FloatKind) (b : Nat) : isN k (Op.negFloat k b) = isN k b := by
  have key : ∀ (f : Format) (b : Nat), (b ^^^ f.signWeight) % f.signWeight = b % f.signWeight := by
    intro f b
    unfold Format.signWeight
    apply Nat.eq_of_testBit_eq
    intro i
    rw [Nat.testBit_mod_two_pow, Nat.testBit_mod_two_pow, Nat.testBit_xor, Nat.testBit_two_pow]
    by_cases h : i < f.exponentBits + f.fractionBits
    · have : ¬ f.exponentBits + f.fractionBits = i := by omega
      simp [h, this]
    · simp [h]
  have h2 : ∀ (f : Format) (a b : Nat), a % f.signWeight = b % f.signWeight → (f.read a).isNaN = (f.read b).isNaN := by
    intro f a b h
    unfold Format.read
    simp only [h]
    split
    · rfl
    · split
      · rfl
      · split <;> rfl
  exact h2 k.format _ _ (key k.format b)

theorem cn_neg (k : FloatKind) (x : Nat) : fneg k (cn k x) = cn k (Op.negFloat k x) := by
  unfold fneg
  cases hx : isN k x
  · rw [cn_of_not hx]
  · rw [cn_of_N hx, cn_of_N (by rw [negFloat_eq, isN_qn]), cn_of_N (by rw [negFloat_eq, hx])]

/-- what the tape hands out for a NaN is one -/
theorem nanCut32 (t : Nat) : isN .f32 ((t % 2) * 2 ^ 31 + 0x7f800000 + 1 + (t / 2) % (2 ^ 23 - 1)) = true := by
  have h1 : t / 2 % (2 ^ 23 - 1) < 2 ^ 23 - 1 := Nat.mod_lt _ (by decide)
  have h2 : t % 2 < 2 := Nat.mod_lt _ (by decide)
  generalize t / 2 % (2 ^ 23 - 1) = m at *
  generalize t % 2 = s at *
  have e : (s * 2 ^ 31 + 0x7f800000 + 1 + m) % 2147483648 = 0x7f800000 + 1 + m := by omega
  have ew : Ieee.single.signWeight = 2147483648 := by decide
  have eb : Ieee.single.binade = 8388608 := by decide
  have ei : Ieee.single.infRung = 2139095040 := by decide
  unfold isN FloatKind.format Format.read
  simp only [ew, eb, ei, e]
  rw [if_neg (by omega), if_neg (by omega), if_neg (by omega)]
  rfl
theorem nanCut64 (t : Nat) : isN .f64 ((t % 2) * 2 ^ 63 + 0x7ff0000000000000 + 1 + (t / 2) % (2 ^ 52 - 1)) = true := by
  have h1 : t / 2 % (2 ^ 52 - 1) < 2 ^ 52 - 1 := Nat.mod_lt _ (by decide)
  have h2 : t % 2 < 2 := Nat.mod_lt _ (by decide)
  generalize t / 2 % (2 ^ 52 - 1) = m at *
  generalize t % 2 = s at *
  have e : (s * 2 ^ 63 + 0x7ff0000000000000 + 1 + m) % 9223372036854775808 = 0x7ff0000000000000 + 1 + m := by omega
  have ew : Ieee.double.signWeight = 9223372036854775808 := by decide
  have eb : Ieee.double.binade = 4503599627370496 := by decide
  have ei : Ieee.double.infRung = 9218868437227405312 := by decide
  unfold isN FloatKind.format Format.read
  simp only [ew, eb, ei, e]
  rw [if_neg (by omega), if_neg (by omega), if_neg (by omega)]
  rfl
theorem nanBits_cut (k : FloatKind) (x y t : Nat) : isN k ((Question.nanBits k x y).cut t) = true := by
  cases k
  · exact nanCut32 t
  · exact nanCut64 t
theorem nanConv_cut (k : FloatKind) (x t : Nat) : isN k ((Question.nanConv k x).cut t) = true := by
  cases k
  · exact nanCut32 t
  · exact nanCut64 t

/-! ### Widening never overflows; order with oneself -/
theorem cut_zero (neg : Bool) (n : Nat) : Toward.even.cut neg n 0 = n := by
  unfold Toward.cut
  simp [Nat.mod_one]
theorem double_facts : Ieee.double.infRung = 9218868437227405312 ∧ Ieee.double.binade = 4503599627370496 ∧ Ieee.double.leastPlace = -1074 ∧ Ieee.double.signWeight = 9223372036854775808 ∧ Ieee.double.fractionBits = 52 := by decide
theorem single_facts : Ieee.single.infRung = 2139095040 ∧ Ieee.single.binade = 8388608 ∧ Ieee.single.leastPlace = -149 ∧ Ieee.single.signWeight = 2147483648 ∧ Ieee.single.fractionBits = 23 := by decide

/-- a small number is met exactly by the wide format -/
theorem widen_nearest (neg : Bool) (m : Nat) (e : Int) (h0 : m ≠ 0) (hm : m < 2 ^ 24) (he : -149 ≤ e) :
    Ieee.double.nearest neg m e = Ieee.double.word neg (min ((e + m.log2 - 52 + 1074).toNat * 4503599627370496 + m * 2 ^ (52 - m.log2)) 9218868437227405312) := by
  have hl : m.log2 < 24 := (Nat.log2_lt h0).2 hm
  obtain ⟨f1, f2, f3, f4, f5⟩ := double_facts
  unfold Format.nearest
  rw [if_neg h0]
  simp only [f1, f2, f3, f5]
  have e1 : max (e + (m.log2 : Int) - ((52 : Nat) : Int)) (-1074) = e + m.log2 - 52 := by omega
  rw [e1]
  have e2 : (e + (m.log2 : Int) - 52 - e).toNat = 0 := by omega
  have e3 : (e - (e + (m.log2 : Int) - 52)).toNat = 52 - m.log2 := by omega
  rw [e2, e3, cut_zero, Nat.shiftLeft_eq, show e + (m.log2 : Int) - 52 - -1074 = e + m.log2 - 52 + 1074 by omega]

theorem word_read (f : Format) (neg : Bool) {rung : Nat} (h : rung < f.infRung) : (f.read (f.word neg rung)).isInfinity = false := by
  have hlt : rung < f.signWeight := Nat.lt_trans h f.infRung_lt
  unfold Format.read
  simp only [Format.word_mod f neg hlt]
  split
  · rfl
  · first | rfl | (rw [if_pos h]; rfl)

theorem read_single (x : Nat) : (∃ g m e, Ieee.single.read x = .number g m e ∧ m < 2 ^ 24 ∧ -149 ≤ e ∧ e ≤ 104) ∨ (∃ g, Ieee.single.read x = .infinity g) ∨ ∃ g t, Ieee.single.read x = .nan g t := by
  obtain ⟨f1, f2, f3, f4, f5⟩ := single_facts
  unfold Format.read
  simp only [f1, f2, f3, f4]
  split
  · exact .inl ⟨_, _, _, rfl, by omega, by omega, by omega⟩
  · split
    · refine .inl ⟨_, _, _, rfl, by omega, by omega, ?_⟩
      have : x % 2147483648 / 8388608 ≤ 254 := by omega
      omega
    · split
      · exact .inr (.inl ⟨_, rfl⟩)
      · exact .inr (.inr ⟨_, _, rfl⟩)

theorem fcvOk_widen (a : Nat) : fcvOk .f32 .f64 a = true := by
  unfold fcvOk FloatKind.format
  rcases read_single a with ⟨g, m, e, h, hm, he, he'⟩ | ⟨g, h⟩ | ⟨g, t, h⟩
  · rw [h]
    simp only [Bool.not_eq_true']
    by_cases h0 : m = 0
    · subst h0
      show (Ieee.double.read (Ieee.double.nearest g 0 e)).isInfinity = false
      unfold Format.nearest
      rw [if_pos rfl]
      exact word_read _ _ (by decide)
    · show (Ieee.double.read (Ieee.double.nearest g m e)).isInfinity = false
      rw [widen_nearest g m e h0 hm he]
      have hl : m.log2 < 24 := (Nat.log2_lt h0).2 hm
      have hk : m * 2 ^ (52 - m.log2) < 2 ^ 53 := by
        have h1 : m < 2 ^ (m.log2 + 1) := Nat.lt_log2_self
        calc m * 2 ^ (52 - m.log2) < 2 ^ (m.log2 + 1) * 2 ^ (52 - m.log2) := Nat.mul_lt_mul_of_pos_right h1 (Nat.two_pow_pos _)
          _ = 2 ^ 53 := by rw [← Nat.pow_add]; congr 1; omega
      have hb : (e + (m.log2 : Int) - 52 + 1074).toNat ≤ 1149 := by omega
      have hlt : (e + (m.log2 : Int) - 52 + 1074).toNat * 4503599627370496 + m * 2 ^ (52 - m.log2) < 9218868437227405312 := by omega
      rw [Nat.min_eq_left (Nat.le_of_lt hlt)]
      exact word_read _ _ (by rw [double_facts.1]; exact hlt)
  · rw [h]
  · rw [h]

theorem order_self {d : Datum} (h : d.isNaN = false) : d.order d = some .eq := by
  cases d with
  | number s m i => simp only [Datum.order]; rw [Int.compare_eq_eq.2 rfl]
  | infinity s => simp only [Datum.order]; cases s <;> rfl
  | nan s t => cases h
theorem feq_self {k : FloatKind} {x : Nat} (h : isN k x = false) : feq k x x = true := by
  unfold feq Format.order
  rw [order_self h]; rfl
theorem fne_self {k : FloatKind} {x : Nat} (h : isN k x = false) : fne k x x = false := by
  unfold fne Format.order
  rw [order_self h]; rfl
theorem fne_N {k : FloatKind} {x : Nat} (h : isN k x = true) : fne k x x = true := by
  obtain ⟨s, t, e⟩ := read_N h
  unfold fne Format.order
  rw [e]; rfl
end Ev
