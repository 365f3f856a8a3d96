/-
  A layer has one text only. No condition.
-/
import Derived.Test.YtbidagapkcmfnaaDoorLq
noncomputable section
namespace Go.Proofs.YtbidagapkcmfnaaDoor
namespace Tx
open Go Go.RowKit
def pl (s : ByteArray) : List (List UInt8) := pieces 10 (bL s)
def P (s : ByteArray) (i : Nat) : ByteArray := bS ((pl s).getD i [])
def okY (s : ByteArray) : Bool := decide ((pl s).length = 4) && (decide ((pl s).getD 3 [] = []) && (okC (P s 0) && (okC (P s 1) && (okN (bL (P s 2)) && Ty.okL (zC (P s 0)) (zC (P s 1)) (rnA (P s 2))))))
theorem zC_lt (s : ByteArray) (i : Nat) : zC s i < 4294967296 := by
  unfold zC
  split
  · rename_i h
    have hc := Bool.and_eq_true_iff.1 (show (decide ((pieces 32 (bL s)).length = 16) && (pieces 32 (bL s)).all okN) = true from h)
    unfold zP
    by_cases hi : i < (pieces 32 (bL s)).length
    · rw [piece_get hi]
      exact ok_lt (List.all_eq_true.1 hc.2 _ (List.getElem_mem hi))
    · rw [List.getD_eq_getElem?_getD, List.getElem?_eq_none (by omega)]
      decide
  · exact (show (0 : Nat) < 4294967296 by decide)
theorem rnA_lt (s : ByteArray) : rnA s < 4294967296 := by
  unfold rnA
  split
  · rename_i h; exact ok_lt h
  · exact (show (0 : Nat) < 4294967296 by decide)
theorem hex_of {p : List UInt8} (h : okN p = true) : bL (hexB (nB (nuN p))) = p := by
  have q := Bool.and_eq_true_iff.1 h
  have q2 := of_decide_eq_true q.2
  unfold nuN
  rw [q2]
  exact can_hex q.1
theorem row_of {s : ByteArray} (h : okC s = true) : Ty.rowT (zC s) 15 = s := by
  have hc := Bool.and_eq_true_iff.1 (show (decide ((pieces 32 (bL s)).length = 16) && (pieces 32 (bL s)).all okN) = true from h)
  have hl := of_decide_eq_true hc.1
  apply list_ext
  show bL _ = bL _
  rw [row_jn]
  have : hxs (zC s) = pieces 32 (bL s) := by
    apply List.ext_getElem
    · simp [hxs, hl]
    · intro i h1 h2
      simp only [hxs, List.getElem_map, List.getElem_range]
      rw [zC_yes h]
      unfold zP
      rw [piece_get h2]
      exact hex_of (List.all_eq_true.1 hc.2 _ (List.getElem_mem h2))
  rw [this, jn_pieces]
theorem ly_jn (z s : Nat → Nat) (t : Nat) : bL (Ty.lyT z s t) = jn 10 [bL (Ty.rowT z 15), bL (Ty.rowT s 15), bL (hexB (nB t)), []] := by
  simp [Ty.lyT, Ty.hx, bL, jn]
theorem pieces4 (a b c : List UInt8) (ha : (10 : UInt8) ∉ a) (hb : (10 : UInt8) ∉ b) (hc : (10 : UInt8) ∉ c) : pieces 10 (jn 10 [a, b, c, []]) = [a, b, c, []] :=
  pieces_jn 10 _ (by simp) (by
    intro p hp
    simp only [List.mem_cons, List.not_mem_nil, or_false] at hp
    rcases hp with h | h | h | h
    · rw [h]; exact ha
    · rw [h]; exact hb
    · rw [h]; exact hc
    · rw [h]; simp)
theorem ly_pieces (z s : Nat → Nat) (t : Nat) : pieces 10 (bL (Ty.lyT z s t)) = [bL (Ty.rowT z 15), bL (Ty.rowT s 15), bL (hexB (nB t)), []] :=
  (congrArg (pieces 10) (ly_jn z s t)).trans (pieces4 _ _ _ (row_no z) (row_no s) (hex_no _ 10 (by decide)))
theorem list4 (l : List (List UInt8)) (h : l.length = 4) : l = [l.getD 0 [], l.getD 1 [], l.getD 2 [], l.getD 3 []] := by
  match l, h with
  | [a, b, c, d], _ => rfl
theorem lyq_parts {s : ByteArray} (h : okY s = true) : (pl s).length = 4 ∧ (pl s).getD 3 [] = [] ∧ okC (P s 0) = true ∧ okC (P s 1) = true ∧ okN (bL (P s 2)) = true ∧ Ty.okL (zC (P s 0)) (zC (P s 1)) (rnA (P s 2)) = true := by
  unfold okY at h
  simp only [Bool.and_eq_true, decide_eq_true_eq] at h
  exact h
theorem layer_iff (s : ByteArray) (h4 : (pl s).length = 4) : Ty.lyA (zC (P s 0)) (zC (P s 1)) (rnA (P s 2)) = s ↔ okY s = true := by
  constructor
  · intro h
    unfold Ty.lyA at h
    by_cases hL : Ty.okL (zC (P s 0)) (zC (P s 1)) (rnA (P s 2)) = true
    · rw [if_pos hL] at h
      have hp := ly_pieces (zC (P s 0)) (zC (P s 1)) (rnA (P s 2))
      rw [h] at hp
      have hp : pl s = _ := hp
      have e0 : P s 0 = Ty.rowT (zC (P s 0)) 15 := by
        conv => lhs; unfold P; rw [hp]
        rfl
      have e1 : P s 1 = Ty.rowT (zC (P s 1)) 15 := by
        conv => lhs; unfold P; rw [hp]
        rfl
      have e2 : bL (P s 2) = bL (hexB (nB (rnA (P s 2)))) := by
        conv => lhs; unfold P; rw [hp]
        rfl
      have e3 : (pl s).getD 3 [] = [] := by rw [hp]; rfl
      have k0 : okC (P s 0) = true := by rw [e0]; exact row_ok (zC_lt _)
      have k1 : okC (P s 1) = true := by rw [e1]; exact row_ok (zC_lt _)
      have k2 : okN (bL (P s 2)) = true := by rw [e2]; exact (hx_ok (rnA_lt _)).1
      unfold okY
      rw [k0, k1, k2, hL, e3, h4]
      rfl
    · rw [if_neg hL] at h
      exfalso
      rw [← h] at h4
      exact absurd h4 (by decide)
  · intro h
    obtain ⟨_, h3, k0, k1, k2, hL⟩ := lyq_parts h
    unfold Ty.lyA
    rw [if_pos hL]
    apply list_ext
    show bL _ = bL _
    rw [ly_jn, row_of k0, row_of k1, (rn_yes (s := P s 2) k2).1, hex_of (p := (P s 2).data.toList) k2]
    have hj := jn_pieces 10 (bL s)
    have h5 := list4 (pl s) h4
    rw [h3] at h5
    rw [show pieces 10 (bL s) = pl s from rfl, h5] at hj
    exact hj
end Tx
end Go.Proofs.YtbidagapkcmfnaaDoor
end
