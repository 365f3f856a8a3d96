/-
  Deeds read from their text, by the model. No condition but that the text has at most 2^20 bytes.
-/
import Derived.Test.YtjbbljlefmgieaaDoorQc
import Derived.Test.YtjbbljlefmgieaaDoorQd
import Derived.Test.YtjbbljlefmgieaaDoorQe
noncomputable section
namespace Go.Proofs.YtjbbljlefmgieaaDoor
namespace Tx
open Go Go.RowKit
theorem ne_int {N : Nat} {m : Nat} (h : N ≠ m) : ((N : Int) != (m : Int)) = true := bne_iff_ne.2 fun e => h (by exact_mod_cast e)
theorem lit_ne {p q : List UInt8} (h : p ≠ q) : (q == (bS p).toList) = false := by
  rw [ByteArray.toList_eq, beq_eq_false_iff_ne]
  exact fun e => h e.symm
theorem pc1_le (l : List UInt8) : (pc1 l).length ≤ l.length := by
  unfold pc1
  rcases Nat.lt_or_ge 1 (pieces 32 l).length with h | h
  · refine piece_le 32 l _ ?_
    rw [List.getD, List.getElem?_eq_getElem h]
    exact List.getElem_mem h
  · rw [List.getD, List.getElem?_eq_none h]
    exact Nat.zero_le _
theorem wv_num {l : List UInt8} {k : Int} (h0 : kd (pc0 l) = k) (h1 : 1 ≤ k) (h2 : k ≤ 4) (hN : (pieces 32 l).length = 2) (ho : okA (pc1 l) = true) : wV l = wK k (valL (pc1 l)) := by
  rw [wV, h0, if_pos ⟨h1, h2, hN, ho⟩]
theorem wv_bad {l : List UInt8} {k : Int} (h0 : kd (pc0 l) = k) (h2 : k ≤ 4) (h : (pieces 32 l).length ≠ 2 ∨ okA (pc1 l) = false) : wV l = wE := by
  rw [wV, h0, if_neg (fun q => by
    rcases h with h | h
    · exact h q.2.2.1
    · rw [h] at q; exact absurd q.2.2.2 (by decide)), if_neg (fun q => by omega)]
theorem wv_one {l : List UInt8} {k : Int} (h0 : kd (pc0 l) = k) (h1 : 5 ≤ k) (hN : (pieces 32 l).length = 1) : wV l = wK k 0 := by
  rw [wV, h0, if_neg (fun q => by omega), if_pos ⟨h1, hN⟩]
theorem wv_many {l : List UInt8} {k : Int} (h0 : kd (pc0 l) = k) (h1 : 5 ≤ k) (hN : (pieces 32 l).length ≠ 1) : wV l = wE := by
  rw [wV, h0, if_neg (fun q => by omega), if_neg (fun q => hN q.2)]
theorem wm_calls (s : ByteArray) (hs : s.size ≤ 1048576) (w : World) : Calls Tryd.prog 6 #[.string s] w (WdQ s w) := by
  have HC := cu_calls s hs
  have hpos := pieces_pos 32 (bL s)
  have hy : (pc1 (bL s)).length ≤ 1048576 := Nat.le_trans (pc1_le _) hs
  rcases kd_cases (pc0 (bL s)) with h | h | h | h | h | h | ⟨h0, z1, z2, z3, z4, z5, z6⟩
  · have hk : kd (pc0 (bL s)) = 1 := by rw [h]; decide +kernel
    rw [h] at HC
    by_cases hN : (pieces 32 (bL s)).length = 2
    · rw [hN] at HC
      cases ho : okA (pc1 (bL s)) with
      | true =>
        have q := okA_true ho
        exact mk_1 s w (valL (pc1 (bL s))) q.2 _ (Lib.hid (num_yes _ q.1 rfl hy)) (Lib.hid HC) (Lib.hid (wv_num hk (by decide) (by decide) hN ho))
      | false =>
        have hr := wv_bad hk (by decide) (.inr ho)
        rcases okA_parts ho with hc | ⟨hc, hb⟩
        · exact nb_1 s w _ (Lib.hid (num_no hc hy)) (Lib.hid HC) (Lib.hid hr)
        · exact bg_1 s w (valL (pc1 (bL s))) hb _ (Lib.hid (num_yes _ hc rfl hy)) (Lib.hid HC) (Lib.hid hr)
    · exact mb_1 s w _ _ hpos (ne_int hN) (Lib.hid HC) (Lib.hid (wv_bad hk (by decide) (.inl hN)))
  · have hk : kd (pc0 (bL s)) = 2 := by rw [h]; decide +kernel
    rw [h] at HC
    by_cases hN : (pieces 32 (bL s)).length = 2
    · rw [hN] at HC
      cases ho : okA (pc1 (bL s)) with
      | true =>
        have q := okA_true ho
        exact mk_2 s w (valL (pc1 (bL s))) q.2 _ (Lib.hid (num_yes _ q.1 rfl hy)) (Lib.hid HC) (Lib.hid (wv_num hk (by decide) (by decide) hN ho))
      | false =>
        have hr := wv_bad hk (by decide) (.inr ho)
        rcases okA_parts ho with hc | ⟨hc, hb⟩
        · exact nb_2 s w _ (Lib.hid (num_no hc hy)) (Lib.hid HC) (Lib.hid hr)
        · exact bg_2 s w (valL (pc1 (bL s))) hb _ (Lib.hid (num_yes _ hc rfl hy)) (Lib.hid HC) (Lib.hid hr)
    · exact mb_2 s w _ _ hpos (ne_int hN) (Lib.hid HC) (Lib.hid (wv_bad hk (by decide) (.inl hN)))
  · have hk : kd (pc0 (bL s)) = 3 := by rw [h]; decide +kernel
    rw [h] at HC
    by_cases hN : (pieces 32 (bL s)).length = 2
    · rw [hN] at HC
      cases ho : okA (pc1 (bL s)) with
      | true =>
        have q := okA_true ho
        exact mk_3 s w (valL (pc1 (bL s))) q.2 _ (Lib.hid (num_yes _ q.1 rfl hy)) (Lib.hid HC) (Lib.hid (wv_num hk (by decide) (by decide) hN ho))
      | false =>
        have hr := wv_bad hk (by decide) (.inr ho)
        rcases okA_parts ho with hc | ⟨hc, hb⟩
        · exact nb_3 s w _ (Lib.hid (num_no hc hy)) (Lib.hid HC) (Lib.hid hr)
        · exact bg_3 s w (valL (pc1 (bL s))) hb _ (Lib.hid (num_yes _ hc rfl hy)) (Lib.hid HC) (Lib.hid hr)
    · exact mb_3 s w _ _ hpos (ne_int hN) (Lib.hid HC) (Lib.hid (wv_bad hk (by decide) (.inl hN)))
  · have hk : kd (pc0 (bL s)) = 4 := by rw [h]; decide +kernel
    rw [h] at HC
    by_cases hN : (pieces 32 (bL s)).length = 2
    · rw [hN] at HC
      cases ho : okA (pc1 (bL s)) with
      | true =>
        have q := okA_true ho
        exact mk_4 s w (valL (pc1 (bL s))) q.2 _ (Lib.hid (num_yes _ q.1 rfl hy)) (Lib.hid HC) (Lib.hid (wv_num hk (by decide) (by decide) hN ho))
      | false =>
        have hr := wv_bad hk (by decide) (.inr ho)
        rcases okA_parts ho with hc | ⟨hc, hb⟩
        · exact nb_4 s w _ (Lib.hid (num_no hc hy)) (Lib.hid HC) (Lib.hid hr)
        · exact bg_4 s w (valL (pc1 (bL s))) hb _ (Lib.hid (num_yes _ hc rfl hy)) (Lib.hid HC) (Lib.hid hr)
    · exact mb_4 s w _ _ hpos (ne_int hN) (Lib.hid HC) (Lib.hid (wv_bad hk (by decide) (.inl hN)))
  · have hk : kd (pc0 (bL s)) = 5 := by rw [h]; decide +kernel
    rw [h] at HC
    by_cases hN : (pieces 32 (bL s)).length = 1
    · rw [hN] at HC
      exact mk_5 s w _ (Lib.hid HC) (Lib.hid (wv_one hk (by decide) hN))
    · exact mb_5 s w _ _ hpos (ne_int hN) (Lib.hid HC) (Lib.hid (wv_many hk (by decide) hN))
  · have hk : kd (pc0 (bL s)) = 6 := by rw [h]; decide +kernel
    rw [h] at HC
    by_cases hN : (pieces 32 (bL s)).length = 1
    · rw [hN] at HC
      exact mk_6 s w _ (Lib.hid HC) (Lib.hid (wv_one hk (by decide) hN))
    · exact mb_6 s w _ _ hpos (ne_int hN) (Lib.hid HC) (Lib.hid (wv_many hk (by decide) hN))
  · exact mn_0 s w _ _ _ hpos (lit_ne z1) (lit_ne z2) (lit_ne z3) (lit_ne z4) (lit_ne z5) (lit_ne z6) (Lib.hid HC) (Lib.hid (by rw [wV, h0, if_neg (fun q => by omega), if_neg (fun q => by omega)]; rfl))
end Tx
end Go.Proofs.YtjbbljlefmgieaaDoor
end
