/-
  A layer's text, as plain lists. No condition.
-/
import Derived.Test.YtbidagapkcmfnaaDoorLy
import Derived.Test.YtbidagapkcmfnaaDoorLe
noncomputable section
namespace Go.Proofs.YtbidagapkcmfnaaDoor
namespace Tx
open Go Go.RowKit
def jn (c : UInt8) : List (List UInt8) → List UInt8
  | [] => []
  | [a] => a
  | a :: b :: r => a ++ c :: jn c (b :: r)
theorem jn_pieces (c : UInt8) : ∀ l, jn c (pieces c l) = l
  | [] => rfl
  | x :: r => by
    have ih := jn_pieces c r
    by_cases h : x = c
    · subst h
      rw [pieces_eq]
      unfold pieces at ih ⊢
      rw [jn, List.nil_append, ih]
    · rw [pieces_ne h]
      unfold pieces at ih
      cases h2 : (cut1 c r).2 with
      | nil =>
        rw [h2] at ih
        simp only [jn] at ih ⊢
        rw [ih]
      | cons b q =>
        rw [h2] at ih
        simp only [jn] at ih ⊢
        rw [List.cons_append, ih]
theorem pieces_jn (c : UInt8) : ∀ (ps : List (List UInt8)), ps ≠ [] → (∀ p ∈ ps, c ∉ p) → pieces c (jn c ps) = ps
  | [], h, _ => absurd rfl h
  | [a], _, h => pieces_none (h a (by simp))
  | a :: b :: r, _, h => by
    rw [jn, pieces_at _ (h a (by simp)), pieces_jn c (b :: r) (by simp) fun p hp => h p (by simp [hp])]
/-- the sixteen texts of a curve's numbers -/
def hxs (z : Nat → Nat) : List (List UInt8) := (List.range 16).map fun i => bL (hexB (nB (z i)))
theorem hex_no (n : Nat) (c : UInt8) (h : c.toNat < 48) : c ∉ bL (hexB n) := fun hm => by
  have h1 := List.all_eq_true.1 (can_parts (hexB_can n)).2 c hm
  unfold lowD at h1
  simp only [Bool.or_eq_true, Bool.and_eq_true, decide_eq_true_eq] at h1
  omega
theorem row_jn (z : Nat → Nat) : bL (Ty.rowT z 15) = jn 32 (hxs z) := by
  unfold bL hxs
  simp only [Ty.rowT, Ty.hx, ByteArray.data_append, Array.toList_append]
  simp [jn, List.range, List.range.loop, bL]
theorem jn_no {c d : UInt8} (hcd : c ≠ d) : ∀ (ps : List (List UInt8)), (∀ p ∈ ps, c ∉ p) → c ∉ jn d ps
  | [], _ => by simp [jn]
  | [a], h => h a (by simp)
  | a :: b :: r, h => by
    rw [jn]
    have h1 := h a (by simp)
    have h2 := jn_no hcd (b :: r) fun p hp => h p (by simp [hp])
    simp [h1, h2, hcd]
theorem hxs_no (z : Nat → Nat) (c : UInt8) (h : c.toNat < 48) : ∀ p ∈ hxs z, c ∉ p := fun p hp => by
  obtain ⟨i, _, rfl⟩ := List.mem_map.1 hp
  exact hex_no _ c h
theorem row_pieces (z : Nat → Nat) : pieces 32 (bL (Ty.rowT z 15)) = hxs z := by
  rw [row_jn, pieces_jn 32 _ (by simp [hxs]) (hxs_no z 32 (by decide))]
theorem row_no (z : Nat → Nat) : (10 : UInt8) ∉ bL (Ty.rowT z 15) := by
  rw [row_jn]
  exact jn_no (by decide) _ (hxs_no z 10 (by decide))
theorem nB_nB (a : Nat) : nB (nB a) = nB a := by
  unfold nB
  split
  · decide +kernel
  · rfl
theorem hx_ok {a : Nat} (h : a < 4294967296) : okN (bL (hexB (nB a))) = true ∧ nuN (bL (hexB (nB a))) = nB a := by
  have hv : hvL (bL (hexB (nB a))) = nB a := hexB_val _ (nB_lt h)
  refine ⟨?_, hv⟩
  unfold okN
  rw [show canH (bL (hexB (nB a))) = true from hexB_can _, hv, nB_nB]
  simp
theorem row_ok {z : Nat → Nat} (h : ∀ i, z i < 4294967296) : okC (Ty.rowT z 15) = true := by
  unfold okC
  rw [row_pieces]
  have : (hxs z).all okN = true := List.all_eq_true.2 fun p hp => by
    obtain ⟨i, _, rfl⟩ := List.mem_map.1 hp
    exact (hx_ok (h i)).1
  rw [this]
  simp [hxs]
end Tx
end Go.Proofs.YtbidagapkcmfnaaDoor
end
