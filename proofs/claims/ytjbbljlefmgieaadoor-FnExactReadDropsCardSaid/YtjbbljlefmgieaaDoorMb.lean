/-
  Pieces and the text that they come from: plain lists. No condition.
-/
import Derived.Test.YtjbbljlefmgieaaDoorRs
noncomputable section
namespace Go.Proofs.YtjbbljlefmgieaaDoor
namespace Tx
open Go Go.RowKit
theorem pieces_one {c : UInt8} : ∀ {l A : List UInt8}, pieces c l = [A] → l = A
  | [], A, h => by simp only [pieces_nil, List.cons.injEq] at h; exact h.1
  | x :: r, A, h => by
    by_cases hx : x = c
    · subst hx
      rw [pieces_eq] at h
      simp [pieces] at h
    · rw [pieces_ne hx] at h
      simp only [List.cons.injEq] at h
      have := pieces_one (c := c) (l := r) (A := (cut1 c r).1) (by simp [pieces, h.2])
      rw [← h.1, ← this]
theorem pieces_more {c : UInt8} : ∀ {l A B : List UInt8} {P : List (List UInt8)}, pieces c l = A :: B :: P → ∃ l', l = A ++ c :: l' ∧ pieces c l' = B :: P
  | [], A, B, P, h => by simp [pieces_nil] at h
  | x :: r, A, B, P, h => by
    by_cases hx : x = c
    · subst hx
      rw [pieces_eq] at h
      simp only [List.cons.injEq] at h
      exact ⟨r, by rw [← h.1]; rfl, h.2⟩
    · rw [pieces_ne hx] at h
      simp only [List.cons.injEq] at h
      obtain ⟨l', e, hl⟩ := pieces_more (c := c) (l := r) (A := (cut1 c r).1) (B := B) (P := P) (by simp [pieces, h.2])
      refine ⟨l', ?_, hl⟩
      rw [← h.1]
      conv => lhs; rw [e]
      rfl
def jn6 (c : UInt8) (p0 p1 p2 p3 p4 p5 : List UInt8) : List UInt8 := p0 ++ c :: (p1 ++ c :: (p2 ++ c :: (p3 ++ c :: (p4 ++ c :: p5))))
theorem pieces_six {c : UInt8} {l p0 p1 p2 p3 p4 p5 : List UInt8} (h : pieces c l = [p0, p1, p2, p3, p4, p5]) : l = jn6 c p0 p1 p2 p3 p4 p5 := by
  obtain ⟨l1, e1, h1⟩ := pieces_more h
  obtain ⟨l2, e2, h2⟩ := pieces_more h1
  obtain ⟨l3, e3, h3⟩ := pieces_more h2
  obtain ⟨l4, e4, h4⟩ := pieces_more h3
  obtain ⟨l5, e5, h5⟩ := pieces_more h4
  have e6 := pieces_one h5
  rw [e1, e2, e3, e4, e5, e6]
  rfl
theorem six_pieces {c : UInt8} {p0 p1 p2 p3 p4 p5 : List UInt8} (h0 : c ∉ p0) (h1 : c ∉ p1) (h2 : c ∉ p2) (h3 : c ∉ p3) (h4 : c ∉ p4) (h5 : c ∉ p5) : pieces c (jn6 c p0 p1 p2 p3 p4 p5) = [p0, p1, p2, p3, p4, p5] := by
  unfold jn6
  rw [pieces_at _ h0, pieces_at _ h1, pieces_at _ h2, pieces_at _ h3, pieces_at _ h4, pieces_none h5]
theorem dec_no (n : Nat) (c : UInt8) (h : dig c = false) : c ∉ Lib.decDigits n := fun hc => by
  have := List.all_eq_true.1 (dec_facts n).1 c hc
  rw [h] at this
  cases this
/-- the text of drops -/
def inD (d : Int) : Bool := decide (0 ≤ d) && decide (d ≤ 1000)
def dtL (d0 d1 d2 d3 d4 d5 : Int) : List UInt8 := if inD d0 && (inD d1 && (inD d2 && (inD d3 && (inD d4 && inD d5)))) then jn6 45 (Lib.decDigits d0.toNat) (Lib.decDigits d1.toNat) (Lib.decDigits d2.toNat) (Lib.decDigits d3.toNat) (Lib.decDigits d4.toNat) (Lib.decDigits d5.toNat) else []
theorem okD_parts2 {p : List UInt8} (h : okD p = true) : canB p = true ∧ valL p ≤ 1000 := by
  have := Bool.and_eq_true_iff.1 h
  exact ⟨this.1, of_decide_eq_true this.2⟩
theorem okD_dec (d : Int) (h : inD d = true) : okD (Lib.decDigits d.toNat) = true := by
  have h : 0 ≤ d ∧ d ≤ 1000 := by simpa [inD] using h
  unfold okD
  rw [can_dec _ (by omega), (dec_facts d.toNat).2.1, Bool.true_and, decide_eq_true (by omega)]
theorem dt_yes {l p0 p1 p2 p3 p4 p5 : List UInt8} (hp : pieces 45 l = [p0, p1, p2, p3, p4, p5]) (h0 : okD p0 = true) (h1 : okD p1 = true) (h2 : okD p2 = true) (h3 : okD p3 = true) (h4 : okD p4 = true) (h5 : okD p5 = true) :
    dtL (valL p0) (valL p1) (valL p2) (valL p3) (valL p4) (valL p5) = l := by
  have a0 := okD_parts2 h0; have a1 := okD_parts2 h1; have a2 := okD_parts2 h2; have a3 := okD_parts2 h3; have a4 := okD_parts2 h4; have a5 := okD_parts2 h5
  have q : ∀ p : List UInt8, valL p ≤ 1000 → inD (valL p) = true := fun p h => by simp [inD]; omega
  unfold dtL
  rw [q _ a0.2, q _ a1.2, q _ a2.2, q _ a3.2, q _ a4.2, q _ a5.2, if_pos (by decide)]
  simp only [Int.toNat_natCast]
  rw [dec_can a0.1, dec_can a1.1, dec_can a2.1, dec_can a3.1, dec_can a4.1, dec_can a5.1]
  exact (pieces_six hp).symm
theorem dt_back {l p0 p1 p2 p3 p4 p5 : List UInt8} (hp : pieces 45 l = [p0, p1, p2, p3, p4, p5]) {d0 d1 d2 d3 d4 d5 : Int} (hd : dtL d0 d1 d2 d3 d4 d5 = l) :
    okD p0 = true ∧ okD p1 = true ∧ okD p2 = true ∧ okD p3 = true ∧ okD p4 = true ∧ okD p5 = true := by
  unfold dtL at hd
  split at hd
  · rename_i hi
    simp only [Bool.and_eq_true] at hi
    obtain ⟨i0, i1, i2, i3, i4, i5⟩ := hi
    have hq := six_pieces (c := 45) (dec_no d0.toNat 45 rfl) (dec_no d1.toNat 45 rfl) (dec_no d2.toNat 45 rfl) (dec_no d3.toNat 45 rfl) (dec_no d4.toNat 45 rfl) (dec_no d5.toNat 45 rfl)
    rw [hd, hp] at hq
    simp only [List.cons.injEq, and_true] at hq
    obtain ⟨e0, e1, e2, e3, e4, e5⟩ := hq
    rw [e0, e1, e2, e3, e4, e5]
    exact ⟨okD_dec _ i0, okD_dec _ i1, okD_dec _ i2, okD_dec _ i3, okD_dec _ i4, okD_dec _ i5⟩
  · rw [← hd, pieces_nil] at hp
    cases hp
theorem pi_ok {p : List UInt8} (h : okD p = true) : piB 16 p = valL p := by
  have a := okD_parts2 h
  exact pi_can (by decide) a.1 (by omega)
end Tx
end Go.Proofs.YtjbbljlefmgieaaDoor
end
