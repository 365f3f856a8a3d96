/-
  Layers, as the law hands them on. No condition.
-/
import Derived.Test.YtoboldhdmejnpaaDoorLi
import Derived.Test.YtoboldhdmejnpaaDoorLt
noncomputable section
namespace Go.Proofs.YtoboldhdmejnpaaDoor
namespace Tx
open Go Go.RowKit Ev Ieee
def V33 (z s : Nat → Nat) (t : Nat) : List Value := zL z ++ (zL s ++ [.float .f32 t])
theorem lyV_eq (z s : Nat → Nat) (t : Nat) : lyV z s t = .agg (V33 z s t).toArray := rfl
theorem below_setCells {B b : Nat} {a : World} (hb : B ≤ b) : ∀ (vs : List Value) (o : Nat) (w : World), Below B a w → Below B a (w.setCells b o vs)
  | [], _, _, h => h
  | v :: r, o, w, h => by
    rw [World.setCells]
    exact below_setCells hb r (o + 1) _ (h.setCell hb v)
theorem size_cells (b : Nat) : ∀ (vs : List Value) (o : Nat) (w : World), (w.setCells b o vs).heap.size = w.heap.size
  | [], _, _ => rfl
  | v :: r, o, w => by
    rw [World.setCells, size_cells b r, World.size_setCell]
theorem there_below {b o n : Nat} {w w' : World} (hlt : b < w.heap.size) (h : w.there b o n) (hb : Below w.heap.size w w') : w'.there b o n := fun j hj =>
  ⟨by rw [hb.cell (p := ⟨b, o + j, none⟩) hlt]; exact (h j hj).1, by rw [hb.frozen (p := ⟨b, o + j, none⟩) hlt]; exact (h j hj).2⟩
theorem one_z (z : Nat → Nat) : ∀ v ∈ zL z, v.oneCell' = true := fun v hv => by
  simp only [zL, List.mem_cons, List.not_mem_nil, or_false] at hv
  rcases hv with rfl | rfl | rfl | rfl | rfl | rfl | rfl | rfl | rfl | rfl | rfl | rfl | rfl | rfl | rfl | rfl <;> rfl
theorem one_v (z s : Nat → Nat) (t : Nat) : ∀ v ∈ V33 z s t, v.oneCell' = true := fun v hv => by
  simp only [V33, List.mem_append, List.mem_cons, List.not_mem_nil, or_false] at hv
  rcases hv with h | h | rfl
  · exact one_z z v h
  · exact one_z s v h
  · rfl
theorem range_parts {z s : Nat → Nat} {t b : Nat} {w : World} (h : w.rangeAt b 0 (V33 z s t)) : w.rangeAt b 0 (zL z) ∧ w.rangeAt b 16 (zL s) ∧ w.cell? ⟨b, 32, none⟩ = some (.float .f32 t) := by
  refine ⟨fun j v hv => h j v ?_, fun j v hv => ?_, h 32 _ rfl⟩
  · have hj : j < (zL z).length := (List.getElem?_eq_some_iff.1 hv).1
    rw [V33, List.getElem?_append_left hj]
    exact hv
  · have hj : j < (zL s).length := (List.getElem?_eq_some_iff.1 hv).1
    have := h (16 + j) v (by
      rw [V33, List.getElem?_append_right (by simp [zL]), show (zL z).length = 16 from rfl, Nat.add_sub_cancel_left, List.getElem?_append_left hj]
      exact hv)
    rwa [Nat.zero_add] at this
theorem range_join {z s : Nat → Nat} {t b : Nat} {w : World} (h0 : w.rangeAt b 0 (zL z)) (h1 : w.rangeAt b 16 (zL s)) (h2 : w.cell? ⟨b, 32, none⟩ = some (.float .f32 t)) : w.rangeAt b 0 (V33 z s t) := fun j v hv => by
  rcases Nat.lt_or_ge j 16 with h | h
  · rw [V33, List.getElem?_append_left (by simpa [zL] using h)] at hv
    exact h0 j v hv
  · rw [V33, List.getElem?_append_right (by simpa [zL] using h), show (zL z).length = 16 from rfl] at hv
    rcases Nat.lt_or_ge (j - 16) 16 with h' | h'
    · rw [List.getElem?_append_left (by simpa [zL] using h')] at hv
      have := h1 (j - 16) v hv
      rwa [show 16 + (j - 16) = 0 + j by omega] at this
    · rw [List.getElem?_append_right (by simpa [zL] using h'), show (zL s).length = 16 from rfl] at hv
      rcases Nat.eq_or_lt_of_le h' with h3 | h3
      · rw [← h3] at hv
        obtain rfl : v = .float .f32 t := by simpa using hv.symm
        rw [show 0 + j = 32 by omega]
        exact h2
      · rw [List.getElem?_eq_none (by simp; omega)] at hv
        cases hv
/-- what toLayer knows: its argument, the result's block, the new layer's block and how much of it is filled -/
def Sy (z s : Nat → Nat) (t : Nat) (w W : World) (k : Nat) : Prop :=
  W.rangeAt w.heap.size 0 (V33 z s t) ∧ W.there (w.heap.size + 1) 0 33 ∧ W.there (w.heap.size + 1 + 1) 0 33 ∧ (1 ≤ k → W.rangeAt (w.heap.size + 1 + 1) 0 (zL z)) ∧ (2 ≤ k → W.rangeAt (w.heap.size + 1 + 1) 16 (zL s)) ∧ w.heap.size + 3 ≤ W.heap.size ∧ Below w.heap.size w W
theorem sy_below {z s : Nat → Nat} {t k : Nat} {w W W' : World} (h : Sy z s t w W k) (hb : Below W.heap.size W W') : Sy z s t w W' k := by
  obtain ⟨h0, h1, h2, h3, h4, h5, h6⟩ := h
  exact ⟨range_below (by omega) h0 hb, there_below (by omega) h1 hb, there_below (by omega) h2 hb, fun q => range_below (by omega) (h3 q) hb, fun q => range_below (by omega) (h4 q) hb, Nat.le_trans h5 hb.size, h6.trans (hb.mono h6.size)⟩
theorem sy_put1 {z s : Nat → Nat} {t : Nat} {w W : World} (h : Sy z s t w W 0) : Sy z s t w (W.setCells (w.heap.size + 1 + 1) 0 (zL z)) 1 := by
  obtain ⟨h0, h1, h2, h3, h4, h5, h6⟩ := h
  exact ⟨World.rangeAt_setCells_apart h0 _ _ _ (Or.inl (by omega)), World.there_setCells h1 _ _ _, World.there_setCells h2 _ _ _, fun _ => World.rangeAt_setCells_same _ _ _ _ (fun j hj => h2 j (Nat.lt_of_lt_of_le hj (show 16 ≤ 33 by decide))), fun q => absurd q (by decide), by rw [size_cells]; exact h5, below_setCells (by omega) _ _ _ h6⟩
theorem sy_put2 {z s : Nat → Nat} {t : Nat} {w W : World} (h : Sy z s t w W 1) : Sy z s t w (W.setCells (w.heap.size + 1 + 1) 16 (zL s)) 2 := by
  obtain ⟨h0, h1, h2, h3, h4, h5, h6⟩ := h
  exact ⟨World.rangeAt_setCells_apart h0 _ _ _ (Or.inl (by omega)), World.there_setCells h1 _ _ _, World.there_setCells h2 _ _ _, fun _ => World.rangeAt_setCells_apart (h3 (Nat.le_refl _)) _ _ _ (Or.inr (Or.inl (show 16 ≤ 16 by decide))), fun _ => World.rangeAt_setCells_same _ _ _ _ (fun j hj => by have := h2 (16 + j) (Nat.lt_of_lt_of_le (Nat.add_lt_add_left hj 16) (show 32 ≤ 33 by decide)); rwa [Nat.zero_add] at this), by rw [size_cells]; exact h5, below_setCells (by omega) _ _ _ h6⟩
theorem there_new (w : World) (T : TypeId) (cs : Array Value) : (w.alloc (.cells cs T)).there w.heap.size 0 cs.size := fun j hj => by
  rw [Nat.zero_add]
  exact ⟨by rw [World.cell?_alloc_at (hn := rfl), Array.getElem?_eq_getElem hj]; rfl, World.frozen?_alloc_at _ _ _ _ rfl⟩
theorem sy_new (z s : Nat → Nat) (t : Nat) (w : World) : Sy z s t w (((w.alloc (.cells (V33 z s t).toArray 31)).alloc (.cells #[.float .f32 0, .float .f32 0, .float .f32 0, .float .f32 0, .float .f32 0, .float .f32 0, .float .f32 0, .float .f32 0, .float .f32 0, .float .f32 0, .float .f32 0, .float .f32 0, .float .f32 0, .float .f32 0, .float .f32 0, .float .f32 0, .float .f32 0, .float .f32 0, .float .f32 0, .float .f32 0, .float .f32 0, .float .f32 0, .float .f32 0, .float .f32 0, .float .f32 0, .float .f32 0, .float .f32 0, .float .f32 0, .float .f32 0, .float .f32 0, .float .f32 0, .float .f32 0, .float .f32 0] 34)).alloc (.cells #[.float .f32 0, .float .f32 0, .float .f32 0, .float .f32 0, .float .f32 0, .float .f32 0, .float .f32 0, .float .f32 0, .float .f32 0, .float .f32 0, .float .f32 0, .float .f32 0, .float .f32 0, .float .f32 0, .float .f32 0, .float .f32 0, .float .f32 0, .float .f32 0, .float .f32 0, .float .f32 0, .float .f32 0, .float .f32 0, .float .f32 0, .float .f32 0, .float .f32 0, .float .f32 0, .float .f32 0, .float .f32 0, .float .f32 0, .float .f32 0, .float .f32 0, .float .f32 0, .float .f32 0] 34)) 0 := by
  have a0 : w.heap.size < (w.alloc (.cells (V33 z s t).toArray 31)).heap.size := by simp
  refine ⟨World.rangeAt_alloc (World.rangeAt_alloc (fun j v hv => ?_) _) _, World.there_alloc ?_ _, ?_, fun q => absurd q (by decide), fun q => absurd q (by decide), by simp, by repeat (first | exact Below.refl _ _ | apply bA)⟩
  · rw [Nat.zero_add, World.cell?_alloc_at (hn := rfl)]
    simpa using hv
  · have := there_new (w.alloc (.cells (V33 z s t).toArray 31)) 34 #[.float .f32 0, .float .f32 0, .float .f32 0, .float .f32 0, .float .f32 0, .float .f32 0, .float .f32 0, .float .f32 0, .float .f32 0, .float .f32 0, .float .f32 0, .float .f32 0, .float .f32 0, .float .f32 0, .float .f32 0, .float .f32 0, .float .f32 0, .float .f32 0, .float .f32 0, .float .f32 0, .float .f32 0, .float .f32 0, .float .f32 0, .float .f32 0, .float .f32 0, .float .f32 0, .float .f32 0, .float .f32 0, .float .f32 0, .float .f32 0, .float .f32 0, .float .f32 0, .float .f32 0]
    simpa using this
  · have := there_new ((w.alloc (.cells (V33 z s t).toArray 31)).alloc (.cells #[.float .f32 0, .float .f32 0, .float .f32 0, .float .f32 0, .float .f32 0, .float .f32 0, .float .f32 0, .float .f32 0, .float .f32 0, .float .f32 0, .float .f32 0, .float .f32 0, .float .f32 0, .float .f32 0, .float .f32 0, .float .f32 0, .float .f32 0, .float .f32 0, .float .f32 0, .float .f32 0, .float .f32 0, .float .f32 0, .float .f32 0, .float .f32 0, .float .f32 0, .float .f32 0, .float .f32 0, .float .f32 0, .float .f32 0, .float .f32 0, .float .f32 0, .float .f32 0, .float .f32 0] 34)) 34 #[.float .f32 0, .float .f32 0, .float .f32 0, .float .f32 0, .float .f32 0, .float .f32 0, .float .f32 0, .float .f32 0, .float .f32 0, .float .f32 0, .float .f32 0, .float .f32 0, .float .f32 0, .float .f32 0, .float .f32 0, .float .f32 0, .float .f32 0, .float .f32 0, .float .f32 0, .float .f32 0, .float .f32 0, .float .f32 0, .float .f32 0, .float .f32 0, .float .f32 0, .float .f32 0, .float .f32 0, .float .f32 0, .float .f32 0, .float .f32 0, .float .f32 0, .float .f32 0, .float .f32 0]
    simpa using this
set_option maxHeartbeats 8000000 in
set_option maxRecDepth 100000 in
theorem tol_calls (z s : Nat → Nat) (t : Nat) (w : World) : Calls Tryd.prog 13 #[.agg (V33 z s t).toArray] w fun e w' => e = .returned (.agg (V33 z s t).toArray) ∧ Below w.heap.size w w' := by
  have hz : ∀ w, Calls Tryd.prog 10 #[.agg (zL z).toArray] w fun e w' => e = .returned (.agg (zL z).toArray) ∧ Below w.heap.size w w' := toc_calls z
  have hs : ∀ w, Calls Tryd.prog 10 #[.agg (zL s).toArray] w fun e w' => e = .returned (.agg (zL s).toArray) ∧ Below w.heap.size w w' := toc_calls s
  have hst : ∀ (a : Addr) (x : Nat) (W : World), (store a (.float .f32 x)).run Tryd.prog W = stored Tryd.prog W a (.float .f32 x) _ := fun a x W => run_store Tryd.prog W a (.float .f32 x) _ rfl
  have hN := sy_new z s t w
  go_enter Tryd.func13, Tryd.ntmps13
  refine wp_seq_k (fun K hK => ?_)
  have HR := Lib.hid hK
  clear hK
  go_wp2_with fail
  refine HR.out _ _ ?_
  clear HR K
  refine wp_seq_k (fun K hK => ?_)
  have HR := Lib.hid hK
  clear hK
  go_wp2_with fail
  refine HR.out _ _ ?_
  clear HR K
  generalize (((w.alloc (.cells (V33 z s t).toArray 31)).alloc (.cells #[.float .f32 0, .float .f32 0, .float .f32 0, .float .f32 0, .float .f32 0, .float .f32 0, .float .f32 0, .float .f32 0, .float .f32 0, .float .f32 0, .float .f32 0, .float .f32 0, .float .f32 0, .float .f32 0, .float .f32 0, .float .f32 0, .float .f32 0, .float .f32 0, .float .f32 0, .float .f32 0, .float .f32 0, .float .f32 0, .float .f32 0, .float .f32 0, .float .f32 0, .float .f32 0, .float .f32 0, .float .f32 0, .float .f32 0, .float .f32 0, .float .f32 0, .float .f32 0, .float .f32 0] 34)).alloc (.cells #[.float .f32 0, .float .f32 0, .float .f32 0, .float .f32 0, .float .f32 0, .float .f32 0, .float .f32 0, .float .f32 0, .float .f32 0, .float .f32 0, .float .f32 0, .float .f32 0, .float .f32 0, .float .f32 0, .float .f32 0, .float .f32 0, .float .f32 0, .float .f32 0, .float .f32 0, .float .f32 0, .float .f32 0, .float .f32 0, .float .f32 0, .float .f32 0, .float .f32 0, .float .f32 0, .float .f32 0, .float .f32 0, .float .f32 0, .float .f32 0, .float .f32 0, .float .f32 0, .float .f32 0] 34)) = W at *
  refine wp_seq_k (fun K hK => ?_)
  have HR := Lib.hid hK
  clear hK
  refine wp_region_lit ?_
  refine wpList_plain (by rfl) fun K1 hK1 => ?_
  have HK := Lib.hid hK1
  clear hK1
  go_wp2_with fail
  refine HK.out _ _ ?_
  clear HK K1
  refine wpList_load_mid (by rfl) 25 (Operand.tmp 4) (by rfl) (w.heap.size) 0 (by rfl) (zL z) _ (range_parts hN.1).1 Tryd.underlying25 rfl (by kernel_rfl) ?_
  refine wpList_plain (by rfl) fun K1 hK1 => ?_
  have HK := Lib.hid hK1
  clear hK1
  go_wp2_with (go_at_call 10; refine (hz _).mono ?_; rintro e Wa ⟨rfl, hb⟩; replace hN := sy_below hN hb; clear hb)
  refine HK.out _ _ ?_
  clear HK K1
  refine wpList_plain (by rfl) fun K1 hK1 => ?_
  have HK := Lib.hid hK1
  clear hK1
  go_wp2_with fail
  refine HK.out _ _ ?_
  clear HK K1
  refine wpList_store_mid (by rfl) 27 (Operand.tmp 7) (Operand.tmp 6) (by rfl) (w.heap.size + 1 + 1) 0 (zL z).toArray (by rfl) (by rfl) (fun j hj => by have := hN.2.2.1 (0 + j) (Nat.lt_of_lt_of_le (Nat.add_lt_add_left hj 0) (show 0 + 16 ≤ 33 by decide)); rwa [Nat.zero_add] at this : Wa.there (w.heap.size + 1 + 1) 0 (zL z).length) (by kernel_rfl) (all_oneCell_toArray (one_z z)) ?_
  replace hN := sy_put1 hN
  go_wp2_with fail
  refine HR.out _ _ ?_
  clear HR K
  generalize Wa.setCells (w.heap.size + 1 + 1) 0 (zL z) = Wap at *
  refine wp_seq_k (fun K hK => ?_)
  have HR := Lib.hid hK
  clear hK
  refine wp_region_lit ?_
  refine wpList_plain (by rfl) fun K1 hK1 => ?_
  have HK := Lib.hid hK1
  clear hK1
  go_wp2_with fail
  refine HK.out _ _ ?_
  clear HK K1
  refine wpList_load_mid (by rfl) 25 (Operand.tmp 8) (by rfl) (w.heap.size) 16 (by rfl) (zL s) _ (range_parts hN.1).2.1 Tryd.underlying25 rfl (by kernel_rfl) ?_
  refine wpList_plain (by rfl) fun K1 hK1 => ?_
  have HK := Lib.hid hK1
  clear hK1
  go_wp2_with (go_at_call 10; refine (hs _).mono ?_; rintro e Wb ⟨rfl, hb⟩; replace hN := sy_below hN hb; clear hb)
  refine HK.out _ _ ?_
  clear HK K1
  refine wpList_plain (by rfl) fun K1 hK1 => ?_
  have HK := Lib.hid hK1
  clear hK1
  go_wp2_with fail
  refine HK.out _ _ ?_
  clear HK K1
  refine wpList_store_mid (by rfl) 27 (Operand.tmp 11) (Operand.tmp 10) (by rfl) (w.heap.size + 1 + 1) 16 (zL s).toArray (by rfl) (by rfl) (fun j hj => by have := hN.2.2.1 (16 + j) (Nat.lt_of_lt_of_le (Nat.add_lt_add_left hj 16) (show 16 + 16 ≤ 33 by decide)); rwa [Nat.zero_add] at this : Wb.there (w.heap.size + 1 + 1) 16 (zL s).length) (by kernel_rfl) (all_oneCell_toArray (one_z s)) ?_
  replace hN := sy_put2 hN
  go_wp2_with fail
  refine HR.out _ _ ?_
  clear HR K
  generalize Wb.setCells (w.heap.size + 1 + 1) 16 (zL s) = Wbp at *
  have c32 := (range_parts hN.1).2.2
  have f32 := (hN.2.2.1 32 (by decide)).2
  obtain ⟨u, hu⟩ := Option.isSome_iff_exists.1 (hN.2.2.1 32 (by decide)).1
  rw [Nat.zero_add] at f32 hu
  refine wp_seq_k (fun K hK => ?_)
  have HR := Lib.hid hK
  clear hK
  go_wp2_with fail
  refine HR.out _ _ ?_
  clear HR K
  have g0 : (Wbp.setCell ⟨w.heap.size + 1 + 1, 32, none⟩ (.float .f32 t)).cell? ⟨w.heap.size + 1 + 1, 32, none⟩ = some (.float .f32 t) := World.cell?_setCell_same Wbp ⟨w.heap.size + 1 + 1, 32, none⟩ (.float .f32 t) (by rw [hu])
  have q0 : (Wbp.setCell ⟨w.heap.size + 1 + 1, 32, none⟩ (.float .f32 t)).rangeAt (w.heap.size + 1 + 1) 0 (zL z) := World.rangeAt_setCells_apart (hN.2.2.2.1 (by decide)) (w.heap.size + 1 + 1) 32 [.float .f32 t] (Or.inr (Or.inl (show 16 ≤ 32 by decide)))
  have q1 : (Wbp.setCell ⟨w.heap.size + 1 + 1, 32, none⟩ (.float .f32 t)).rangeAt (w.heap.size + 1 + 1) 16 (zL s) := World.rangeAt_setCells_apart (hN.2.2.2.2.1 (by decide)) (w.heap.size + 1 + 1) 32 [.float .f32 t] (Or.inr (Or.inl (show 32 ≤ 32 by decide)))
  have R := range_join q0 q1 g0
  have T1 : (Wbp.setCell ⟨w.heap.size + 1 + 1, 32, none⟩ (.float .f32 t)).there (w.heap.size + 1) 0 33 := World.there_setCells hN.2.1 (w.heap.size + 1 + 1) 32 [.float .f32 t]
  have B : Below w.heap.size w (Wbp.setCell ⟨w.heap.size + 1 + 1, 32, none⟩ (.float .f32 t)) := below_setCells (b := w.heap.size + 1 + 1) (by omega) [.float .f32 t] 32 _ hN.2.2.2.2.2.2
  clear q0 q1 g0 hu f32 c32 hN
  generalize Wbp.setCell ⟨w.heap.size + 1 + 1, 32, none⟩ (.float .f32 t) = W5 at *
  refine wp_seq_k (fun K hK => ?_)
  have HR := Lib.hid hK
  clear hK
  refine wp_region_lit ?_
  refine wpList_load_mid (by rfl) 34 (Operand.tmp 3) (by rfl) (w.heap.size + 1 + 1) 0 (by rfl) (V33 z s t) _ R Tryd.underlying34 rfl (by kernel_rfl) ?_
  refine wpList_store_mid (by rfl) 34 (Operand.tmp 2) (Operand.tmp 15) (by rfl) (w.heap.size + 1) 0 (V33 z s t).toArray (by rfl) (by rfl) T1 (by kernel_rfl) (all_oneCell_toArray (one_v z s t)) ?_
  go_wp2_with fail
  refine HR.out _ _ ?_
  clear HR K
  have R1 : (W5.setCells (w.heap.size + 1) 0 (V33 z s t)).rangeAt (w.heap.size + 1) 0 (V33 z s t) := World.rangeAt_setCells_same _ _ _ _ T1
  have B1 := below_setCells (b := w.heap.size + 1) (Nat.le_succ _) (V33 z s t) 0 _ B
  have L := run_loadVar_mid (P := Tryd.prog) _ (w.heap.size + 1) 0 34 (V33 z s t) _ R1 Tryd.underlying34 rfl (by kernel_rfl)
  go_wp2_with fail
  exact bodyPost_ret (v := .agg (V33 z s t).toArray) (by simp [results, Tryd.results13, L, asAddr, Act.put]) rfl ⟨rfl, B1⟩
end Tx
end Go.Proofs.YtoboldhdmejnpaaDoor
end
