/-
  Numbers written by sixteen digits: plain lists. No condition.
-/
import Derived.Test.YtbidagapkcmfnaaDoorHa
noncomputable section
namespace Go.Proofs.YtbidagapkcmfnaaDoor
namespace Tx
open Go Go.RowKit
/-- what strconv makes of a letter -/
def lo (c : UInt8) : Int := bits .or .u8 c.toNat 32
def hxD (c : UInt8) : Nat := if 48 ≤ c.toNat ∧ c.toNat ≤ 57 then c.toNat - 48 else if 97 ≤ lo c ∧ lo c ≤ 122 then (lo c).toNat - 87 else 99
/-- strconv.ParseUint(s, 16, 32) behind its test for the empty text: (0, the number) | (1, 0) | (2, the greatest number) -/
def hxM (acc : Nat) : List UInt8 → Nat × Nat
  | [] => (0, acc)
  | c :: r => if hxD c < 16 then (if 4294967295 < acc * 16 + hxD c then (2, 4294967295) else hxM (acc * 16 + hxD c) r) else (1, 0)
/-- a digit as it is written: small letters alone -/
def lowD (c : UInt8) : Bool := (decide (48 ≤ c.toNat) && decide (c.toNat ≤ 57)) || (decide (97 ≤ c.toNat) && decide (c.toNat ≤ 102))
def dgV (c : UInt8) : Nat := if c.toNat ≤ 57 then c.toNat - 48 else c.toNat - 87
def hvF (n : Nat) (c : UInt8) : Nat := n * 16 + dgV c
def hvL (l : List UInt8) : Nat := l.foldl hvF 0
def canH (l : List UInt8) : Bool := decide (l.length = 8) && l.all lowD
theorem lo_small (c : UInt8) (h : 97 ≤ c.toNat) (h2 : c.toNat ≤ 102) : lo c = c.toNat := by
  unfold lo
  rcases (show c.toNat = 97 ∨ c.toNat = 98 ∨ c.toNat = 99 ∨ c.toNat = 100 ∨ c.toNat = 101 ∨ c.toNat = 102 by omega) with e | e | e | e | e | e <;> rw [e] <;> decide +kernel
theorem low_hx {c : UInt8} (h : lowD c = true) : hxD c = dgV c ∧ dgV c < 16 := by
  unfold lowD at h
  simp only [Bool.or_eq_true, Bool.and_eq_true, decide_eq_true_eq] at h
  unfold hxD dgV
  rcases h with h | h
  · rw [if_pos h, if_pos h.2]
    exact ⟨rfl, by omega⟩
  · have e := lo_small c h.1 h.2
    rw [if_neg (by omega), e, if_pos ⟨by omega, by omega⟩, if_neg (by omega)]
    omega
theorem hvL_snoc (l : List UInt8) (c : UInt8) : hvL (l ++ [c]) = hvL l * 16 + dgV c := by simp [hvL, hvF]
theorem hv_lt : ∀ (k : Nat) (l : List UInt8), l.length ≤ k → l.all lowD = true → hvL l < 16 ^ k := by
  intro k
  induction k with
  | zero =>
    intro l hl _
    have h0 : l = [] := List.eq_nil_of_length_eq_zero (by omega)
    rw [h0]
    decide
  | succ k ih =>
    intro l hl hd
    rcases List.eq_nil_or_concat l with rfl | ⟨A, c, hx⟩
    · exact Nat.pow_pos (by omega)
    · rw [hx] at hl hd ⊢
      simp only [List.concat_eq_append] at hl hd ⊢
      rw [List.all_append] at hd
      have hc : lowD c = true := by simpa using (Bool.and_eq_true_iff.1 hd).2
      have hn := (low_hx hc).2
      have := ih A (by simpa using hl) (Bool.and_eq_true_iff.1 hd).1
      rw [hvL_snoc, Nat.pow_succ]
      omega
theorem foldl_hv_ge : ∀ (l : List UInt8) (n : Nat), n ≤ l.foldl hvF n
  | [], n => Nat.le_refl _
  | c :: r, n => by
    have := foldl_hv_ge r (hvF n c)
    simp only [List.foldl_cons]
    unfold hvF at this ⊢
    omega
theorem hxM_low : ∀ (l : List UInt8) (acc : Nat), l.all lowD = true → l.foldl hvF acc ≤ 4294967295 → hxM acc l = (0, l.foldl hvF acc)
  | [], acc, _, _ => rfl
  | c :: r, acc, hd, h1 => by
    rw [List.all_cons, Bool.and_eq_true_iff] at hd
    have hh := low_hx hd.1
    have hg := foldl_hv_ge r (hvF acc c)
    simp only [List.foldl_cons] at h1 ⊢
    have hv : hvF acc c = acc * 16 + dgV c := rfl
    rw [hxM, hh.1, if_pos hh.2, if_neg (by omega)]
    exact hxM_low r (hvF acc c) hd.2 h1
theorem can_parts {l : List UInt8} (h : canH l = true) : l.length = 8 ∧ l.all lowD = true := by
  have := Bool.and_eq_true_iff.1 h
  exact ⟨of_decide_eq_true this.1, this.2⟩
theorem hv_can {l : List UInt8} (h : canH l = true) : hvL l < 4294967296 := by
  have p := can_parts h
  have := hv_lt 8 l (by omega) p.2
  simpa using this
theorem hx_can {l : List UInt8} (h : canH l = true) : hxM 0 l = (0, hvL l) := hxM_low l 0 (can_parts h).2 (by have := hv_can h; unfold hvL at this; omega)
/-! the text of a number -/
theorem hexD_low (n : Nat) : lowD (hexD n) = true ∧ dgV (hexD n) = n % 16 := by
  unfold hexD
  have h : n % 16 < 16 := Nat.mod_lt _ (by decide)
  generalize n % 16 = m at *
  split
  · rename_i h1
    have e : (UInt8.ofNat (48 + m)).toNat = 48 + m := by rw [UInt8.toNat_ofNat']; omega
    unfold lowD dgV
    rw [e]
    refine ⟨by simp; omega, by rw [if_pos (by omega)]; omega⟩
  · rename_i h1
    have e : (UInt8.ofNat (87 + m)).toNat = 87 + m := by rw [UInt8.toNat_ofNat']; omega
    unfold lowD dgV
    rw [e]
    refine ⟨by simp; omega, by rw [if_neg (by omega)]; omega⟩
theorem hexB_can (n : Nat) : canH (hexB n).data.toList = true := by
  unfold canH hexB
  simp [(hexD_low _).1]
theorem hexB_val (n : Nat) (h : n < 4294967296) : hvL (hexB n).data.toList = n := by
  unfold hvL hexB
  simp only [List.foldl_cons, List.foldl_nil, hvF, (hexD_low _).2]
  omega
theorem hexD_of {c : UInt8} (h : lowD c = true) (n : Nat) (hn : n % 16 = dgV c) : hexD n = c := by
  unfold lowD at h
  simp only [Bool.or_eq_true, Bool.and_eq_true, decide_eq_true_eq] at h
  unfold dgV at hn
  apply UInt8.toNat_inj.1
  unfold hexD
  rcases h with h | h
  · rw [if_pos h.2] at hn
    rw [if_pos (by omega), UInt8.toNat_ofNat']
    omega
  · rw [if_neg (by omega)] at hn
    rw [if_neg (by omega), UInt8.toNat_ofNat']
    omega
theorem can_hex {l : List UInt8} (h : canH l = true) : (hexB (hvL l)).data.toList = l := by
  have p := can_parts h
  match l, p.1 with
  | [a, b, c, d, e, f, g, i], _ =>
    have q := p.2
    simp only [List.all_cons, List.all_nil, Bool.and_true, Bool.and_eq_true] at q
    obtain ⟨qa, qb, qc, qd, qe, qf, qg, qi⟩ := q
    have la := (low_hx qa).2; have lb := (low_hx qb).2; have lc := (low_hx qc).2; have ld := (low_hx qd).2
    have le := (low_hx qe).2; have lf := (low_hx qf).2; have lg := (low_hx qg).2; have li := (low_hx qi).2
    have ev : hvL [a, b, c, d, e, f, g, i] = ((((((dgV a * 16 + dgV b) * 16 + dgV c) * 16 + dgV d) * 16 + dgV e) * 16 + dgV f) * 16 + dgV g) * 16 + dgV i := by
      simp [hvL, hvF]
    rw [ev]
    unfold hexB
    have r0 := hexD_of qa ((((((((dgV a * 16 + dgV b) * 16 + dgV c) * 16 + dgV d) * 16 + dgV e) * 16 + dgV f) * 16 + dgV g) * 16 + dgV i) / 16 / 16 / 16 / 16 / 16 / 16 / 16) (by omega)
    have r1 := hexD_of qb ((((((((dgV a * 16 + dgV b) * 16 + dgV c) * 16 + dgV d) * 16 + dgV e) * 16 + dgV f) * 16 + dgV g) * 16 + dgV i) / 16 / 16 / 16 / 16 / 16 / 16) (by omega)
    have r2 := hexD_of qc ((((((((dgV a * 16 + dgV b) * 16 + dgV c) * 16 + dgV d) * 16 + dgV e) * 16 + dgV f) * 16 + dgV g) * 16 + dgV i) / 16 / 16 / 16 / 16 / 16) (by omega)
    have r3 := hexD_of qd ((((((((dgV a * 16 + dgV b) * 16 + dgV c) * 16 + dgV d) * 16 + dgV e) * 16 + dgV f) * 16 + dgV g) * 16 + dgV i) / 16 / 16 / 16 / 16) (by omega)
    have r4 := hexD_of qe ((((((((dgV a * 16 + dgV b) * 16 + dgV c) * 16 + dgV d) * 16 + dgV e) * 16 + dgV f) * 16 + dgV g) * 16 + dgV i) / 16 / 16 / 16) (by omega)
    have r5 := hexD_of qf ((((((((dgV a * 16 + dgV b) * 16 + dgV c) * 16 + dgV d) * 16 + dgV e) * 16 + dgV f) * 16 + dgV g) * 16 + dgV i) / 16 / 16) (by omega)
    have r6 := hexD_of qg ((((((((dgV a * 16 + dgV b) * 16 + dgV c) * 16 + dgV d) * 16 + dgV e) * 16 + dgV f) * 16 + dgV g) * 16 + dgV i) / 16) (by omega)
    have r7 := hexD_of qi ((((((((dgV a * 16 + dgV b) * 16 + dgV c) * 16 + dgV d) * 16 + dgV e) * 16 + dgV f) * 16 + dgV g) * 16 + dgV i)) (by omega)
    rw [r0, r1, r2, r3, r4, r5, r6, r7]
end Tx
end Go.Proofs.YtbidagapkcmfnaaDoor
end
