/-
  Curves read from their texts, by the model. No condition but that the text has at most 2^20 bytes.
-/
import Derived.Test.YtbidagapkcmfnaaDoorCv
noncomputable section
namespace Go.Proofs.YtbidagapkcmfnaaDoor
namespace Tx
open Go Go.RowKit
def RcQ (s : ByteArray) (w : World) (e : Ending) (w' : World) : Prop := e = .returned (.tuple #[cvV (zC s), .bool (okC s)]) ∧ Below w.heap.size w w'
theorem zC_no {s : ByteArray} (h : okC s = false) : zC s = zero := by unfold zC; rw [h]; rfl
theorem zC_yes {s : ByteArray} (h : okC s = true) : zC s = zP s := by unfold zC; rw [h]; rfl
/-- the pieces, and their numbers -/
theorem cut_calls (s : ByteArray) (hs : s.size ≤ 1048576) (w : World) : Calls Tryd.prog 21 #[.string s, .int .u8 32] w fun e w' => ∃ g cap, e = .returned (.slice (some ⟨g, 0, none⟩) (pieces 32 (bL s)).length cap) ∧ Row (pieces 32 (bL s)) g w' ∧ Below w.heap.size w w' :=
  (split_calls s 32 hs w).mono fun e w' ⟨v, h1, h2, h3⟩ => by
    obtain ⟨g, cap, hv, _, _⟩ := h2.form (pieces_bound s hs).2
    subst hv
    exact ⟨g, cap, h1, row_of_own h2, h3⟩
/-- the loop: k numbers have been laid -/
def LpR (s : ByteArray) (w : World) (b g : Nat) (vi : Value) (wr : World) : Prop :=
  ∃ k : Nat, k ≤ 16 ∧ vi = .int .i64 k ∧ Out (zP s) b k wr ∧ (∀ j, j < 16 → wr.cell? ⟨g, j, none⟩ = some (.float .f32 (zP s j))) ∧ wr.there w.heap.size 0 16 ∧ Below w.heap.size w wr
theorem lp_set {s : ByteArray} {w wr : World} {b g k : Nat} (hk : k < 16) (hbw : w.heap.size < b) (hg : g ≠ b) (h1 : Out (zP s) b k wr) (h2 : ∀ j, j < 16 → wr.cell? ⟨g, j, none⟩ = some (.float .f32 (zP s j))) (h3 : wr.there w.heap.size 0 16) (h4 : Below w.heap.size w wr) :
    LpR s w b g (.int .i64 ((k + 1 : Nat) : Int)) (wr.setCell ⟨b, k, none⟩ (.float .f32 (zP s k))) :=
  ⟨k + 1, hk, rfl, out_set hk h1, fun j hj => (World.cell?_setCell_other _ _ _ _ (by intro h; cases h; exact hg rfl)).trans (h2 j hj), World.there_setCells h3 b k [.float .f32 (zP s k)], h4.setCell (Nat.le_of_lt hbw) _⟩
def SlQ (s : ByteArray) (w : World) (e : Ending) (w' : World) : Prop := ∃ v, e = .returned (.tuple #[v, .bool ((pieces 32 (bL s)).all okN)]) ∧ ((pieces 32 (bL s)).all okN = true → ∃ g cap, v = .slice (some ⟨g, 0, none⟩) (pieces 32 (bL s)).length cap ∧ g < w'.heap.size ∧ ∀ j (hj : j < (pieces 32 (bL s)).length), w'.cell? ⟨g, j, none⟩ = some (.float .f32 (nuN (pieces 32 (bL s))[j]))) ∧ Below w.heap.size w w'
theorem list_calls (s : ByteArray) (hs : s.size ≤ 1048576) (g cap : Nat) (w : World) (hr : Row (pieces 32 (bL s)) g w) : Calls Tryd.prog 30 #[.slice (some ⟨g, 0, none⟩) (pieces 32 (bL s)).length cap] w (SlQ s w) :=
  (nm_calls _ g cap (pieces_bound s hs).1 w hr).mono fun e w' ⟨v, h1, h2, h3⟩ => by
    refine ⟨v, h1, fun h => ?_, h3⟩
    obtain ⟨g', cap', hv, _, _⟩ := (h2 h).form (pieces_bound s hs).2
    have hn := h2 h
    subst hv
    have := nums_of_own hn
    exact ⟨g', cap', rfl, this.1, this.2⟩
set_option maxHeartbeats 4000000 in
set_option maxRecDepth 100000 in
theorem rc_no (s : ByteArray) (hs : s.size ≤ 1048576) (w : World) (hk : okC s = false) : Calls Tryd.prog 19 #[.string s] w (RcQ s w) := by
  unfold RcQ
  rw [hk, zC_no hk]
  have hL := list_calls s hs
  go_enter Tryd.func19, Tryd.ntmps19
  refine wp_seq_k (fun K hK => ?_)
  have HR := Lib.hid hK
  clear hK
  go_wp2_with fail
  refine HR.out _ _ ?_
  clear HR K
  have hT0 : (w.alloc (.cells #[.float .f32 0, .float .f32 0, .float .f32 0, .float .f32 0, .float .f32 0, .float .f32 0, .float .f32 0, .float .f32 0, .float .f32 0, .float .f32 0, .float .f32 0, .float .f32 0, .float .f32 0, .float .f32 0, .float .f32 0, .float .f32 0] 29)).there w.heap.size 0 16 := there_new w 29 #[.float .f32 0, .float .f32 0, .float .f32 0, .float .f32 0, .float .f32 0, .float .f32 0, .float .f32 0, .float .f32 0, .float .f32 0, .float .f32 0, .float .f32 0, .float .f32 0, .float .f32 0, .float .f32 0, .float .f32 0, .float .f32 0]
  have hb0 : Below w.heap.size w (w.alloc (.cells #[.float .f32 0, .float .f32 0, .float .f32 0, .float .f32 0, .float .f32 0, .float .f32 0, .float .f32 0, .float .f32 0, .float .f32 0, .float .f32 0, .float .f32 0, .float .f32 0, .float .f32 0, .float .f32 0, .float .f32 0, .float .f32 0] 29)) := bA (Below.refl _ _) _
  have hl0 : w.heap.size < (w.alloc (.cells #[.float .f32 0, .float .f32 0, .float .f32 0, .float .f32 0, .float .f32 0, .float .f32 0, .float .f32 0, .float .f32 0, .float .f32 0, .float .f32 0, .float .f32 0, .float .f32 0, .float .f32 0, .float .f32 0, .float .f32 0, .float .f32 0] 29)).heap.size := by simp
  generalize w.alloc (.cells #[.float .f32 0, .float .f32 0, .float .f32 0, .float .f32 0, .float .f32 0, .float .f32 0, .float .f32 0, .float .f32 0, .float .f32 0, .float .f32 0, .float .f32 0, .float .f32 0, .float .f32 0, .float .f32 0, .float .f32 0, .float .f32 0] 29) = W0 at *
  refine wp_seq_k (fun K hK => ?_)
  have HR := Lib.hid hK
  clear hK
  go_wp2_with (first
    | (go_at_call 21; refine (cut_calls s hs _).mono ?_; rintro e W1 ⟨g, cap, rfl, hr, hb1⟩)
    | (go_at_call 30; refine (hL g cap _ hr).mono ?_; rintro e W2 ⟨v, rfl, hv, hb2⟩))
  refine HR.out _ _ ?_
  clear HR K
  have hb2' := hb1.trans (hb2.mono hb1.size)
  have hT2 := there_below hl0 hT0 hb2'
  have hl2 : w.heap.size < W2.heap.size := Nat.lt_of_lt_of_le hl0 hb2'.size
  have hB2 := hb0.trans (hb2'.mono hb0.size)
  clear hb0 hb1 hb2 hr hT0 hb2' hL
  refine wp_seq_k (fun K hK => ?_)
  have HR := Lib.hid hK
  clear hK
  refine wp_region_lit ?_
  refine wpList_plain (by rfl) fun K1 hK1 => ?_
  have HK := Lib.hid hK1
  clear hK1
  go_wp2_with fail
  refine HK.out _ _ ?_
  clear HK K1
  refine wpList_plain (by rfl) fun K1 hK1 => ?_
  have HK := Lib.hid hK1
  clear hK1
  go_wp2_with fail
  refine HK.out _ _ ?_
  clear HK K1
  have hT3 : (W2.alloc (.cells #[.float .f32 0, .float .f32 0, .float .f32 0, .float .f32 0, .float .f32 0, .float .f32 0, .float .f32 0, .float .f32 0, .float .f32 0, .float .f32 0, .float .f32 0, .float .f32 0, .float .f32 0, .float .f32 0, .float .f32 0, .float .f32 0] 29)).there W2.heap.size 0 16 := there_new W2 29 #[.float .f32 0, .float .f32 0, .float .f32 0, .float .f32 0, .float .f32 0, .float .f32 0, .float .f32 0, .float .f32 0, .float .f32 0, .float .f32 0, .float .f32 0, .float .f32 0, .float .f32 0, .float .f32 0, .float .f32 0, .float .f32 0]
  have hTr := there_below hl2 hT2 (bA (Below.refl _ _) (.cells #[.float .f32 0, .float .f32 0, .float .f32 0, .float .f32 0, .float .f32 0, .float .f32 0, .float .f32 0, .float .f32 0, .float .f32 0, .float .f32 0, .float .f32 0, .float .f32 0, .float .f32 0, .float .f32 0, .float .f32 0, .float .f32 0] 29))
  have hB3 := hB2.trans ((bA (Below.refl W2.heap.size W2) (.cells #[.float .f32 0, .float .f32 0, .float .f32 0, .float .f32 0, .float .f32 0, .float .f32 0, .float .f32 0, .float .f32 0, .float .f32 0, .float .f32 0, .float .f32 0, .float .f32 0, .float .f32 0, .float .f32 0, .float .f32 0, .float .f32 0] 29)).mono hB2.size)
  have hl3 : W2.heap.size < (W2.alloc (.cells #[.float .f32 0, .float .f32 0, .float .f32 0, .float .f32 0, .float .f32 0, .float .f32 0, .float .f32 0, .float .f32 0, .float .f32 0, .float .f32 0, .float .f32 0, .float .f32 0, .float .f32 0, .float .f32 0, .float .f32 0, .float .f32 0] 29)).heap.size := by simp
  have hL3 := fun (p : Nat × Nat) (h : p.1 < W2.heap.size) => (bA (Below.refl W2.heap.size W2) (.cells #[.float .f32 0, .float .f32 0, .float .f32 0, .float .f32 0, .float .f32 0, .float .f32 0, .float .f32 0, .float .f32 0, .float .f32 0, .float .f32 0, .float .f32 0, .float .f32 0, .float .f32 0, .float .f32 0, .float .f32 0, .float .f32 0] 29)).cell (p := ⟨p.1, p.2, none⟩) h
  generalize W2.alloc (.cells #[.float .f32 0, .float .f32 0, .float .f32 0, .float .f32 0, .float .f32 0, .float .f32 0, .float .f32 0, .float .f32 0, .float .f32 0, .float .f32 0, .float .f32 0, .float .f32 0, .float .f32 0, .float .f32 0, .float .f32 0, .float .f32 0] 29) = W3 at *
  refine wpList_store_mid (by rfl) 29 (Operand.tmp 6) (Operand.tmp 14) (by rfl) (W2.heap.size) 0 (zL zero).toArray (by rfl) (by rfl) hT3 (by kernel_rfl) (all_oneCell_toArray (one_z zero)) ?_
  go_wp2_with fail
  refine HR.out _ _ ?_
  clear HR K
  have hO : Out zero W2.heap.size 0 (W3.setCells W2.heap.size 0 (zL zero)) := out_zero (by rw [size_cells]; exact hl3) (World.rangeAt_setCells_same _ _ _ _ hT3) (World.there_setCells hT3 _ _ _)
  have hTr4 := World.there_setCells hTr W2.heap.size 0 (zL zero)
  have hB4 := below_setCells (b := W2.heap.size) (Nat.le_of_lt hl2) (zL zero) 0 _ hB3
  have hl4 : w.heap.size < (W3.setCells W2.heap.size 0 (zL zero)).heap.size := by rw [size_cells]; omega
  have hL4 := fun (p : Nat × Nat) (h : p.1 < W2.heap.size) => (World.cell?_setCells_out W2.heap.size (zL zero) 0 W3 ⟨p.1, p.2, none⟩ (fun hb _ => absurd hb (Nat.ne_of_lt h))).trans (hL3 p h)
  clear hT3 hTr hB3 hT2 hB2 hL3
  generalize W3.setCells W2.heap.size 0 (zL zero) = W4 at *
  clear hl3 W3
  have hc : (pieces 32 (bL s)).all okN = false ∨ (pieces 32 (bL s)).all okN = true ∧ (pieces 32 (bL s)).length ≠ 16 := by
    unfold okC at hk
    cases ha : (pieces 32 (bL s)).all okN with
    | false => exact .inl rfl
    | true =>
      rw [ha, Bool.and_true] at hk
      exact .inr ⟨rfl, of_decide_eq_false hk⟩
  have hn : (∃ v', v = v' ∧ (pieces 32 (bL s)).all okN = false) ∨ ∃ g cap, v = .slice (some ⟨g, 0, none⟩) (pieces 32 (bL s)).length cap ∧ (pieces 32 (bL s)).all okN = true ∧ ((pieces 32 (bL s)).length : Int) ≠ 16 := by
    rcases hc with h | ⟨h, h2⟩
    · exact .inl ⟨v, rfl, h⟩
    · obtain ⟨g, cap, e, _⟩ := hv h
      exact .inr ⟨g, cap, e, h, by omega⟩
  clear hc hv hk
  rcases hn with ⟨_, _, h⟩ | ⟨g', cap', rfl, h, h2⟩
  · rw [h]
    clear h
    refine wp_seq_k (fun KX hKX => ?_)
    have HX := Lib.hid hKX
    clear hKX
    refine wp_seq_k (fun K hK => ?_)
    have HR := Lib.hid hK
    clear hK
    go_wp2_with fail
    refine HR.out _ _ ?_
    clear HR K
    refine wp_cond_true (by rfl) ?_
    refine wp_seq_k (fun K hK => ?_)
    have HR := Lib.hid hK
    clear hK
    refine wp_region_lit ?_
    refine wpList_load_mid (by rfl) 29 (Operand.tmp 6) (by rfl) (W2.heap.size) 0 (by rfl) (zL zero) _ (out_none hO) Tryd.underlying29 rfl (by kernel_rfl) ?_
    refine wpList_store_mid (by rfl) 29 (Operand.tmp 2) (Operand.tmp 22) (by rfl) (w.heap.size) 0 (zL zero).toArray (by rfl) (by rfl) hTr4 (by kernel_rfl) (all_oneCell_toArray (one_z zero)) ?_
    go_wp2_with fail
    refine HR.out _ _ ?_
    clear HR K
    have R := World.rangeAt_setCells_same W4 w.heap.size 0 (zL zero) hTr4
    have B := below_setCells (b := w.heap.size) (Nat.le_refl _) (zL zero) 0 W4 hB4
    have L := run_loadVar_mid (P := Tryd.prog) _ w.heap.size 0 29 (zL zero) _ R Tryd.underlying29 rfl (by kernel_rfl)
    go_wp2_with fail
    exact bodyPost_ret (v := .tuple #[.agg (zL zero).toArray, .bool false]) (by simp [results, Tryd.results19, L, asAddr]) rfl ⟨rfl, B⟩
  · rw [h]
    clear h
    refine wp_seq_k (fun KX hKX => ?_)
    have HX := Lib.hid hKX
    clear hKX
    refine wp_seq_k (fun K hK => ?_)
    have HR := Lib.hid hK
    clear hK
    go_wp2_with fail
    refine HR.out _ _ ?_
    clear HR K
    refine wp_cond_true (congrArg Value.bool (bne_iff_ne.2 h2)) ?_
    refine wp_seq_k (fun K hK => ?_)
    have HR := Lib.hid hK
    clear hK
    refine wp_region_lit ?_
    refine wpList_load_mid (by rfl) 29 (Operand.tmp 6) (by rfl) (W2.heap.size) 0 (by rfl) (zL zero) _ (out_none hO) Tryd.underlying29 rfl (by kernel_rfl) ?_
    refine wpList_store_mid (by rfl) 29 (Operand.tmp 2) (Operand.tmp 22) (by rfl) (w.heap.size) 0 (zL zero).toArray (by rfl) (by rfl) hTr4 (by kernel_rfl) (all_oneCell_toArray (one_z zero)) ?_
    go_wp2_with fail
    refine HR.out _ _ ?_
    clear HR K
    have R := World.rangeAt_setCells_same W4 w.heap.size 0 (zL zero) hTr4
    have B := below_setCells (b := w.heap.size) (Nat.le_refl _) (zL zero) 0 W4 hB4
    have L := run_loadVar_mid (P := Tryd.prog) _ w.heap.size 0 29 (zL zero) _ R Tryd.underlying29 rfl (by kernel_rfl)
    go_wp2_with fail
    exact bodyPost_ret (v := .tuple #[.agg (zL zero).toArray, .bool false]) (by simp [results, Tryd.results19, L, asAddr]) rfl ⟨rfl, B⟩
set_option maxHeartbeats 4000000 in
set_option maxRecDepth 100000 in
theorem rc_yes (s : ByteArray) (hs : s.size ≤ 1048576) (w : World) (hk : okC s = true) : Calls Tryd.prog 19 #[.string s] w (RcQ s w) := by
  unfold RcQ
  rw [hk, zC_yes hk]
  have hL := list_calls s hs
  go_enter Tryd.func19, Tryd.ntmps19
  refine wp_seq_k (fun K hK => ?_)
  have HR := Lib.hid hK
  clear hK
  go_wp2_with fail
  refine HR.out _ _ ?_
  clear HR K
  have hT0 : (w.alloc (.cells #[.float .f32 0, .float .f32 0, .float .f32 0, .float .f32 0, .float .f32 0, .float .f32 0, .float .f32 0, .float .f32 0, .float .f32 0, .float .f32 0, .float .f32 0, .float .f32 0, .float .f32 0, .float .f32 0, .float .f32 0, .float .f32 0] 29)).there w.heap.size 0 16 := there_new w 29 #[.float .f32 0, .float .f32 0, .float .f32 0, .float .f32 0, .float .f32 0, .float .f32 0, .float .f32 0, .float .f32 0, .float .f32 0, .float .f32 0, .float .f32 0, .float .f32 0, .float .f32 0, .float .f32 0, .float .f32 0, .float .f32 0]
  have hb0 : Below w.heap.size w (w.alloc (.cells #[.float .f32 0, .float .f32 0, .float .f32 0, .float .f32 0, .float .f32 0, .float .f32 0, .float .f32 0, .float .f32 0, .float .f32 0, .float .f32 0, .float .f32 0, .float .f32 0, .float .f32 0, .float .f32 0, .float .f32 0, .float .f32 0] 29)) := bA (Below.refl _ _) _
  have hl0 : w.heap.size < (w.alloc (.cells #[.float .f32 0, .float .f32 0, .float .f32 0, .float .f32 0, .float .f32 0, .float .f32 0, .float .f32 0, .float .f32 0, .float .f32 0, .float .f32 0, .float .f32 0, .float .f32 0, .float .f32 0, .float .f32 0, .float .f32 0, .float .f32 0] 29)).heap.size := by simp
  generalize w.alloc (.cells #[.float .f32 0, .float .f32 0, .float .f32 0, .float .f32 0, .float .f32 0, .float .f32 0, .float .f32 0, .float .f32 0, .float .f32 0, .float .f32 0, .float .f32 0, .float .f32 0, .float .f32 0, .float .f32 0, .float .f32 0, .float .f32 0] 29) = W0 at *
  refine wp_seq_k (fun K hK => ?_)
  have HR := Lib.hid hK
  clear hK
  go_wp2_with (first
    | (go_at_call 21; refine (cut_calls s hs _).mono ?_; rintro e W1 ⟨g, cap, rfl, hr, hb1⟩)
    | (go_at_call 30; refine (hL g cap _ hr).mono ?_; rintro e W2 ⟨v, rfl, hv, hb2⟩))
  refine HR.out _ _ ?_
  clear HR K
  have hb2' := hb1.trans (hb2.mono hb1.size)
  have hT2 := there_below hl0 hT0 hb2'
  have hl2 : w.heap.size < W2.heap.size := Nat.lt_of_lt_of_le hl0 hb2'.size
  have hB2 := hb0.trans (hb2'.mono hb0.size)
  clear hb0 hb1 hb2 hr hT0 hb2' hL
  refine wp_seq_k (fun K hK => ?_)
  have HR := Lib.hid hK
  clear hK
  refine wp_region_lit ?_
  refine wpList_plain (by rfl) fun K1 hK1 => ?_
  have HK := Lib.hid hK1
  clear hK1
  go_wp2_with fail
  refine HK.out _ _ ?_
  clear HK K1
  refine wpList_plain (by rfl) fun K1 hK1 => ?_
  have HK := Lib.hid hK1
  clear hK1
  go_wp2_with fail
  refine HK.out _ _ ?_
  clear HK K1
  have hT3 : (W2.alloc (.cells #[.float .f32 0, .float .f32 0, .float .f32 0, .float .f32 0, .float .f32 0, .float .f32 0, .float .f32 0, .float .f32 0, .float .f32 0, .float .f32 0, .float .f32 0, .float .f32 0, .float .f32 0, .float .f32 0, .float .f32 0, .float .f32 0] 29)).there W2.heap.size 0 16 := there_new W2 29 #[.float .f32 0, .float .f32 0, .float .f32 0, .float .f32 0, .float .f32 0, .float .f32 0, .float .f32 0, .float .f32 0, .float .f32 0, .float .f32 0, .float .f32 0, .float .f32 0, .float .f32 0, .float .f32 0, .float .f32 0, .float .f32 0]
  have hTr := there_below hl2 hT2 (bA (Below.refl _ _) (.cells #[.float .f32 0, .float .f32 0, .float .f32 0, .float .f32 0, .float .f32 0, .float .f32 0, .float .f32 0, .float .f32 0, .float .f32 0, .float .f32 0, .float .f32 0, .float .f32 0, .float .f32 0, .float .f32 0, .float .f32 0, .float .f32 0] 29))
  have hB3 := hB2.trans ((bA (Below.refl W2.heap.size W2) (.cells #[.float .f32 0, .float .f32 0, .float .f32 0, .float .f32 0, .float .f32 0, .float .f32 0, .float .f32 0, .float .f32 0, .float .f32 0, .float .f32 0, .float .f32 0, .float .f32 0, .float .f32 0, .float .f32 0, .float .f32 0, .float .f32 0] 29)).mono hB2.size)
  have hl3 : W2.heap.size < (W2.alloc (.cells #[.float .f32 0, .float .f32 0, .float .f32 0, .float .f32 0, .float .f32 0, .float .f32 0, .float .f32 0, .float .f32 0, .float .f32 0, .float .f32 0, .float .f32 0, .float .f32 0, .float .f32 0, .float .f32 0, .float .f32 0, .float .f32 0] 29)).heap.size := by simp
  have hL3 := fun (p : Nat × Nat) (h : p.1 < W2.heap.size) => (bA (Below.refl W2.heap.size W2) (.cells #[.float .f32 0, .float .f32 0, .float .f32 0, .float .f32 0, .float .f32 0, .float .f32 0, .float .f32 0, .float .f32 0, .float .f32 0, .float .f32 0, .float .f32 0, .float .f32 0, .float .f32 0, .float .f32 0, .float .f32 0, .float .f32 0] 29)).cell (p := ⟨p.1, p.2, none⟩) h
  generalize W2.alloc (.cells #[.float .f32 0, .float .f32 0, .float .f32 0, .float .f32 0, .float .f32 0, .float .f32 0, .float .f32 0, .float .f32 0, .float .f32 0, .float .f32 0, .float .f32 0, .float .f32 0, .float .f32 0, .float .f32 0, .float .f32 0, .float .f32 0] 29) = W3 at *
  refine wpList_store_mid (by rfl) 29 (Operand.tmp 6) (Operand.tmp 14) (by rfl) (W2.heap.size) 0 (zL zero).toArray (by rfl) (by rfl) hT3 (by kernel_rfl) (all_oneCell_toArray (one_z zero)) ?_
  go_wp2_with fail
  refine HR.out _ _ ?_
  clear HR K
  have hO : Out (zP s) W2.heap.size 0 (W3.setCells W2.heap.size 0 (zL zero)) := out_zero (by rw [size_cells]; exact hl3) (World.rangeAt_setCells_same _ _ _ _ hT3) (World.there_setCells hT3 _ _ _)
  have hTr4 := World.there_setCells hTr W2.heap.size 0 (zL zero)
  have hB4 := below_setCells (b := W2.heap.size) (Nat.le_of_lt hl2) (zL zero) 0 _ hB3
  have hl4 : w.heap.size < (W3.setCells W2.heap.size 0 (zL zero)).heap.size := by rw [size_cells]; omega
  have hL4 := fun (p : Nat × Nat) (h : p.1 < W2.heap.size) => (World.cell?_setCells_out W2.heap.size (zL zero) 0 W3 ⟨p.1, p.2, none⟩ (fun hb _ => absurd hb (Nat.ne_of_lt h))).trans (hL3 p h)
  clear hT3 hTr hB3 hT2 hB2 hL3
  generalize W3.setCells W2.heap.size 0 (zL zero) = W4 at *
  clear hl3 W3
  have hc := Bool.and_eq_true_iff.1 (show (decide ((pieces 32 (bL s)).length = 16) && (pieces 32 (bL s)).all okN) = true from hk)
  have hlen : (pieces 32 (bL s)).length = 16 := of_decide_eq_true hc.1
  obtain ⟨g', cap', rfl, hg1, hg2⟩ := hv hc.2
  have hg3 : ∀ j, j < 16 → W4.cell? ⟨g', j, none⟩ = some (.float .f32 (zP s j)) := fun j hj => by
    have := hL4 (g', j) hg1
    rw [this, hg2 j (by omega)]
    unfold zP
    rw [piece_get (by omega)]
  rw [hc.2, hlen]
  clear hc hlen hv hk hg2 hL4
  have hgb : g' ≠ W2.heap.size := by omega
  have hst : ∀ (a : Addr) (x : Nat) (W : World), (store a (.float .f32 x)).run Tryd.prog W = stored Tryd.prog W a (.float .f32 x) _ := fun a x W => run_store Tryd.prog W a (.float .f32 x) _ rfl
  generalize W2.heap.size = b at *
  refine wp_seq_k (fun K hK => ?_)
  have HR := Lib.hid hK
  clear hK
  refine wp_seq_k (fun K hK => ?_)
  have HR := Lib.hid hK
  clear hK
  go_wp2_with fail
  refine HR.out _ _ ?_
  clear HR K
  refine wp_cond_false (by rfl) ?_
  go_wp2_with fail
  refine HR.out _ _ ?_
  clear HR
  go_wp2
  go_loopw [7] (LpR s w b g') (fun vi _ => 16 - (intOf vi).toNat)
  case atStart => exact ⟨0, Nat.zero_le _, rfl, hO, hg3, hTr4, hB4⟩
  case round =>
    obtain ⟨k, hk, rfl, hO, hg3, hTr4, hB4⟩ := hrel
    by_cases hlt : k < 16
    · have c := hg3 k hlt
      have n := hO.2.2 k hlt
      have q := hO.2.1 k hlt
      have hS := lp_set hlt hl2 hgb hO hg3 hTr4 hB4
      have HS := Lib.hid hS
      clear hS hO hg3 hTr4 hB4 hgb
      go_wp2
      go_roundw
      case rel => exact HS.out
      case measure => simp [intOf]; omega
    · have hke : k = 16 := by omega
      have hR := out_range hke hO
      clear hO hg3
      rename_i hKL
      have HX := Lib.hid hKL
      clear hKL
      go_wp2_with fail
      refine HX.out _ _ ?_
      clear HX
      refine wp_seq_k (fun K hK => ?_)
      have HR := Lib.hid hK
      clear hK
      refine wp_region_lit ?_
      refine wpList_load_mid (by rfl) 29 (Operand.tmp 6) (by rfl) (b) 0 (by rfl) (zL (zP s)) _ hR Tryd.underlying29 rfl (by kernel_rfl) ?_
      refine wpList_store_mid (by rfl) 29 (Operand.tmp 2) (Operand.tmp 33) (by rfl) (w.heap.size) 0 (zL (zP s)).toArray (by rfl) (by rfl) hTr4 (by kernel_rfl) (all_oneCell_toArray (one_z (zP s))) ?_
      go_wp2_with fail
      refine HR.out _ _ ?_
      clear HR K
      have R := World.rangeAt_setCells_same wr w.heap.size 0 (zL (zP s)) hTr4
      have B := below_setCells (b := w.heap.size) (Nat.le_refl _) (zL (zP s)) 0 wr hB4
      have L := run_loadVar_mid (P := Tryd.prog) _ w.heap.size 0 29 (zL (zP s)) _ R Tryd.underlying29 rfl (by kernel_rfl)
      go_wp2_with fail
      exact bodyPost_ret (v := .tuple #[.agg (zL (zP s)).toArray, .bool true]) (by simp [results, Tryd.results19, L, asAddr]) rfl ⟨rfl, B⟩
theorem rc_calls (s : ByteArray) (hs : s.size ≤ 1048576) (w : World) : Calls Tryd.prog 19 #[.string s] w (RcQ s w) := by
  cases h : okC s with
  | false => exact rc_no s hs w h
  | true => exact rc_yes s hs w h
end Tx
end Go.Proofs.YtbidagapkcmfnaaDoor
end
