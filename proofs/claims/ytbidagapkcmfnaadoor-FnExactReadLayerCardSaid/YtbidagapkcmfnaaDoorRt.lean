/-
  Curves read from their texts, by the model, to the end. No condition but that the text has at most 2^20 bytes.
-/
import Derived.Test.YtbidagapkcmfnaaDoorRs
noncomputable section
namespace Go.Proofs.YtbidagapkcmfnaaDoor
namespace Tx
open Go Go.RowKit
def coC (s : ByteArray) : Int := if okC s = true then 0 else 5
def CuQ (s : ByteArray) (w : World) (e : Ending) (w' : World) : Prop := e = .returned (.tuple #[cvV (zC s), .int .i64 (coC s)]) ∧ Below w.heap.size w w'
theorem coC_no {s : ByteArray} (h : okC s = false) : coC s = 5 := by unfold coC; rw [h]; rfl
theorem coC_yes {s : ByteArray} (h : okC s = true) : coC s = 0 := by unfold coC; rw [h]; rfl
set_option maxHeartbeats 4000000 in
set_option maxRecDepth 100000 in
theorem rsc_no (s : ByteArray) (hs : s.size ≤ 1048576) (w : World) (hk : okC s = false) : Calls Tryd.prog 9 #[.string s] w (CuQ s w) := by
  have hC := fun W => rc_calls s hs W
  unfold RcQ at hC
  unfold CuQ
  rw [coC_no hk]
  rw [hk, zC_no hk] at hC
  rw [zC_no hk]
  unfold cvV at *
  clear hk
  go_enter Tryd.func9, Tryd.ntmps9
  refine wp_seq_k (fun K hK => ?_)
  have HR := Lib.hid hK
  clear hK
  go_wp2_with fail
  refine HR.out _ _ ?_
  clear HR K
  have hT0 : (w.alloc (.cells #[.float .f32 0, .float .f32 0, .float .f32 0, .float .f32 0, .float .f32 0, .float .f32 0, .float .f32 0, .float .f32 0, .float .f32 0, .float .f32 0, .float .f32 0, .float .f32 0, .float .f32 0, .float .f32 0, .float .f32 0, .float .f32 0] 29)).there w.heap.size 0 16 := there_new w 29 #[.float .f32 0, .float .f32 0, .float .f32 0, .float .f32 0, .float .f32 0, .float .f32 0, .float .f32 0, .float .f32 0, .float .f32 0, .float .f32 0, .float .f32 0, .float .f32 0, .float .f32 0, .float .f32 0, .float .f32 0, .float .f32 0]
  have hb0 : Below w.heap.size w (w.alloc (.cells #[.float .f32 0, .float .f32 0, .float .f32 0, .float .f32 0, .float .f32 0, .float .f32 0, .float .f32 0, .float .f32 0, .float .f32 0, .float .f32 0, .float .f32 0, .float .f32 0, .float .f32 0, .float .f32 0, .float .f32 0, .float .f32 0] 29)) := bA (Below.refl _ _) _
  have hl0 : w.heap.size < (w.alloc (.cells #[.float .f32 0, .float .f32 0, .float .f32 0, .float .f32 0, .float .f32 0, .float .f32 0, .float .f32 0, .float .f32 0, .float .f32 0, .float .f32 0, .float .f32 0, .float .f32 0, .float .f32 0, .float .f32 0, .float .f32 0, .float .f32 0] 29)).heap.size := by simp
  generalize w.alloc (.cells #[.float .f32 0, .float .f32 0, .float .f32 0, .float .f32 0, .float .f32 0, .float .f32 0, .float .f32 0, .float .f32 0, .float .f32 0, .float .f32 0, .float .f32 0, .float .f32 0, .float .f32 0, .float .f32 0, .float .f32 0, .float .f32 0] 29) = W0 at *
  refine wp_seq_k (fun K hK => ?_)
  have HR := Lib.hid hK
  clear hK
  refine wp_region_lit ?_
  refine wpList_plain (by rfl) fun K1 hK1 => ?_
  have HK := Lib.hid hK1
  clear hK1
  go_wp2_with fail
  refine HK.out _ _ ?_
  clear HK K1
  refine wpList_plain (by rfl) fun K1 hK1 => ?_
  have HK := Lib.hid hK1
  clear hK1
  go_wp2_with (go_at_call 19; refine (hC _).mono ?_; rintro e W1 ⟨rfl, hb1⟩)
  refine HK.out _ _ ?_
  clear HK K1
  refine wpList_plain (by rfl) fun K1 hK1 => ?_
  have HK := Lib.hid hK1
  clear hK1
  go_wp2_with fail
  refine HK.out _ _ ?_
  clear HK K1
  refine wpList_plain (by rfl) fun K1 hK1 => ?_
  have HK := Lib.hid hK1
  clear hK1
  go_wp2_with fail
  refine HK.out _ _ ?_
  clear HK K1
  refine wpList_plain (by rfl) fun K1 hK1 => ?_
  have HK := Lib.hid hK1
  clear hK1
  go_wp2_with fail
  refine HK.out _ _ ?_
  clear HK K1
  refine wpList_plain (by rfl) fun K1 hK1 => ?_
  have HK := Lib.hid hK1
  clear hK1
  go_wp2_with fail
  refine HK.out _ _ ?_
  clear HK K1
  have hT1 := there_below hl0 hT0 hb1
  have hB1 := hb0.trans (hb1.mono hb0.size)
  have hl1 : w.heap.size < W1.heap.size := Nat.lt_of_lt_of_le hl0 hb1.size
  have hT2 : (W1.alloc (.cells #[.float .f32 0, .float .f32 0, .float .f32 0, .float .f32 0, .float .f32 0, .float .f32 0, .float .f32 0, .float .f32 0, .float .f32 0, .float .f32 0, .float .f32 0, .float .f32 0, .float .f32 0, .float .f32 0, .float .f32 0, .float .f32 0] 29)).there W1.heap.size 0 16 := there_new W1 29 #[.float .f32 0, .float .f32 0, .float .f32 0, .float .f32 0, .float .f32 0, .float .f32 0, .float .f32 0, .float .f32 0, .float .f32 0, .float .f32 0, .float .f32 0, .float .f32 0, .float .f32 0, .float .f32 0, .float .f32 0, .float .f32 0]
  have hTr := there_below hl1 hT1 (bA (Below.refl _ _) (.cells #[.float .f32 0, .float .f32 0, .float .f32 0, .float .f32 0, .float .f32 0, .float .f32 0, .float .f32 0, .float .f32 0, .float .f32 0, .float .f32 0, .float .f32 0, .float .f32 0, .float .f32 0, .float .f32 0, .float .f32 0, .float .f32 0] 29))
  have hB2 := hB1.trans ((bA (Below.refl W1.heap.size W1) (.cells #[.float .f32 0, .float .f32 0, .float .f32 0, .float .f32 0, .float .f32 0, .float .f32 0, .float .f32 0, .float .f32 0, .float .f32 0, .float .f32 0, .float .f32 0, .float .f32 0, .float .f32 0, .float .f32 0, .float .f32 0, .float .f32 0] 29)).mono hB1.size)
  generalize W1.alloc (.cells #[.float .f32 0, .float .f32 0, .float .f32 0, .float .f32 0, .float .f32 0, .float .f32 0, .float .f32 0, .float .f32 0, .float .f32 0, .float .f32 0, .float .f32 0, .float .f32 0, .float .f32 0, .float .f32 0, .float .f32 0, .float .f32 0] 29) = W2 at *
  clear hb0 hT0 hb1 hT1 hB1
  refine wpList_store_mid (by rfl) 29 (Operand.tmp 4) (Operand.tmp 9) (by rfl) (W1.heap.size) 0 (zL (zero)).toArray (by rfl) (by rfl) hT2 (by kernel_rfl) (all_oneCell_toArray (one_z (zero))) ?_
  go_wp2_with fail
  refine HR.out _ _ ?_
  clear HR K
  have hR3 := World.rangeAt_setCells_same W2 W1.heap.size 0 (zL (zero)) hT2
  have hT3 := World.there_setCells hTr W1.heap.size 0 (zL (zero))
  have hB3 := below_setCells (b := W1.heap.size) (Nat.le_of_lt hl1) (zL (zero)) 0 W2 hB2
  clear hT2 hTr hB2
  generalize W2.setCells W1.heap.size 0 (zL (zero)) = W3 at *
  refine wp_seq_k (fun KX hKX => ?_)
  have HX := Lib.hid hKX
  clear hKX
  refine wp_seq_k (fun K hK => ?_)
  have HR := Lib.hid hK
  clear hK
  go_wp2_with fail
  refine HR.out _ _ ?_
  clear HR K
  refine wp_cond_true (by rfl) ?_
  refine wp_seq_k (fun K hK => ?_)
  have HR := Lib.hid hK
  clear hK
  refine wp_region_lit ?_
  refine wpList_plain (by rfl) fun K1 hK1 => ?_
  have HK := Lib.hid hK1
  clear hK1
  go_wp2_with fail
  refine HK.out _ _ ?_
  clear HK K1
  refine wpList_store_mid (by rfl) 29 (Operand.tmp 2) (Operand.tmp 13) (by rfl) (w.heap.size) 0 (zL zero).toArray (by rfl) (by rfl) hT3 (by kernel_rfl) (all_oneCell_toArray (one_z zero)) ?_
  go_wp2_with fail
  refine HR.out _ _ ?_
  clear HR K
  have R := World.rangeAt_setCells_same W3 w.heap.size 0 (zL zero) hT3
  have B := below_setCells (b := w.heap.size) (Nat.le_refl _) (zL zero) 0 W3 hB3
  have L := run_loadVar_mid (P := Tryd.prog) _ w.heap.size 0 29 (zL zero) _ R Tryd.underlying29 rfl (by kernel_rfl)
  go_wp2_with fail
  exact bodyPost_ret (v := .tuple #[.agg (zL zero).toArray, .int .i64 5]) (by simp [results, Tryd.results9, L, asAddr]) rfl ⟨rfl, B⟩
set_option maxHeartbeats 4000000 in
set_option maxRecDepth 100000 in
theorem rsc_yes (s : ByteArray) (hs : s.size ≤ 1048576) (w : World) (hk : okC s = true) : Calls Tryd.prog 9 #[.string s] w (CuQ s w) := by
  have hC := fun W => rc_calls s hs W
  unfold RcQ at hC
  unfold CuQ
  rw [coC_yes hk]
  rw [hk, zC_yes hk] at hC
  rw [zC_yes hk]
  unfold cvV at *
  clear hk
  go_enter Tryd.func9, Tryd.ntmps9
  refine wp_seq_k (fun K hK => ?_)
  have HR := Lib.hid hK
  clear hK
  go_wp2_with fail
  refine HR.out _ _ ?_
  clear HR K
  have hT0 : (w.alloc (.cells #[.float .f32 0, .float .f32 0, .float .f32 0, .float .f32 0, .float .f32 0, .float .f32 0, .float .f32 0, .float .f32 0, .float .f32 0, .float .f32 0, .float .f32 0, .float .f32 0, .float .f32 0, .float .f32 0, .float .f32 0, .float .f32 0] 29)).there w.heap.size 0 16 := there_new w 29 #[.float .f32 0, .float .f32 0, .float .f32 0, .float .f32 0, .float .f32 0, .float .f32 0, .float .f32 0, .float .f32 0, .float .f32 0, .float .f32 0, .float .f32 0, .float .f32 0, .float .f32 0, .float .f32 0, .float .f32 0, .float .f32 0]
  have hb0 : Below w.heap.size w (w.alloc (.cells #[.float .f32 0, .float .f32 0, .float .f32 0, .float .f32 0, .float .f32 0, .float .f32 0, .float .f32 0, .float .f32 0, .float .f32 0, .float .f32 0, .float .f32 0, .float .f32 0, .float .f32 0, .float .f32 0, .float .f32 0, .float .f32 0] 29)) := bA (Below.refl _ _) _
  have hl0 : w.heap.size < (w.alloc (.cells #[.float .f32 0, .float .f32 0, .float .f32 0, .float .f32 0, .float .f32 0, .float .f32 0, .float .f32 0, .float .f32 0, .float .f32 0, .float .f32 0, .float .f32 0, .float .f32 0, .float .f32 0, .float .f32 0, .float .f32 0, .float .f32 0] 29)).heap.size := by simp
  generalize w.alloc (.cells #[.float .f32 0, .float .f32 0, .float .f32 0, .float .f32 0, .float .f32 0, .float .f32 0, .float .f32 0, .float .f32 0, .float .f32 0, .float .f32 0, .float .f32 0, .float .f32 0, .float .f32 0, .float .f32 0, .float .f32 0, .float .f32 0] 29) = W0 at *
  refine wp_seq_k (fun K hK => ?_)
  have HR := Lib.hid hK
  clear hK
  refine wp_region_lit ?_
  refine wpList_plain (by rfl) fun K1 hK1 => ?_
  have HK := Lib.hid hK1
  clear hK1
  go_wp2_with fail
  refine HK.out _ _ ?_
  clear HK K1
  refine wpList_plain (by rfl) fun K1 hK1 => ?_
  have HK := Lib.hid hK1
  clear hK1
  go_wp2_with (go_at_call 19; refine (hC _).mono ?_; rintro e W1 ⟨rfl, hb1⟩)
  refine HK.out _ _ ?_
  clear HK K1
  refine wpList_plain (by rfl) fun K1 hK1 => ?_
  have HK := Lib.hid hK1
  clear hK1
  go_wp2_with fail
  refine HK.out _ _ ?_
  clear HK K1
  refine wpList_plain (by rfl) fun K1 hK1 => ?_
  have HK := Lib.hid hK1
  clear hK1
  go_wp2_with fail
  refine HK.out _ _ ?_
  clear HK K1
  refine wpList_plain (by rfl) fun K1 hK1 => ?_
  have HK := Lib.hid hK1
  clear hK1
  go_wp2_with fail
  refine HK.out _ _ ?_
  clear HK K1
  refine wpList_plain (by rfl) fun K1 hK1 => ?_
  have HK := Lib.hid hK1
  clear hK1
  go_wp2_with fail
  refine HK.out _ _ ?_
  clear HK K1
  have hT1 := there_below hl0 hT0 hb1
  have hB1 := hb0.trans (hb1.mono hb0.size)
  have hl1 : w.heap.size < W1.heap.size := Nat.lt_of_lt_of_le hl0 hb1.size
  have hT2 : (W1.alloc (.cells #[.float .f32 0, .float .f32 0, .float .f32 0, .float .f32 0, .float .f32 0, .float .f32 0, .float .f32 0, .float .f32 0, .float .f32 0, .float .f32 0, .float .f32 0, .float .f32 0, .float .f32 0, .float .f32 0, .float .f32 0, .float .f32 0] 29)).there W1.heap.size 0 16 := there_new W1 29 #[.float .f32 0, .float .f32 0, .float .f32 0, .float .f32 0, .float .f32 0, .float .f32 0, .float .f32 0, .float .f32 0, .float .f32 0, .float .f32 0, .float .f32 0, .float .f32 0, .float .f32 0, .float .f32 0, .float .f32 0, .float .f32 0]
  have hTr := there_below hl1 hT1 (bA (Below.refl _ _) (.cells #[.float .f32 0, .float .f32 0, .float .f32 0, .float .f32 0, .float .f32 0, .float .f32 0, .float .f32 0, .float .f32 0, .float .f32 0, .float .f32 0, .float .f32 0, .float .f32 0, .float .f32 0, .float .f32 0, .float .f32 0, .float .f32 0] 29))
  have hB2 := hB1.trans ((bA (Below.refl W1.heap.size W1) (.cells #[.float .f32 0, .float .f32 0, .float .f32 0, .float .f32 0, .float .f32 0, .float .f32 0, .float .f32 0, .float .f32 0, .float .f32 0, .float .f32 0, .float .f32 0, .float .f32 0, .float .f32 0, .float .f32 0, .float .f32 0, .float .f32 0] 29)).mono hB1.size)
  generalize W1.alloc (.cells #[.float .f32 0, .float .f32 0, .float .f32 0, .float .f32 0, .float .f32 0, .float .f32 0, .float .f32 0, .float .f32 0, .float .f32 0, .float .f32 0, .float .f32 0, .float .f32 0, .float .f32 0, .float .f32 0, .float .f32 0, .float .f32 0] 29) = W2 at *
  clear hb0 hT0 hb1 hT1 hB1
  refine wpList_store_mid (by rfl) 29 (Operand.tmp 4) (Operand.tmp 9) (by rfl) (W1.heap.size) 0 (zL (zP s)).toArray (by rfl) (by rfl) hT2 (by kernel_rfl) (all_oneCell_toArray (one_z (zP s))) ?_
  go_wp2_with fail
  refine HR.out _ _ ?_
  clear HR K
  have hR3 := World.rangeAt_setCells_same W2 W1.heap.size 0 (zL (zP s)) hT2
  have hT3 := World.there_setCells hTr W1.heap.size 0 (zL (zP s))
  have hB3 := below_setCells (b := W1.heap.size) (Nat.le_of_lt hl1) (zL (zP s)) 0 W2 hB2
  clear hT2 hTr hB2
  generalize W2.setCells W1.heap.size 0 (zL (zP s)) = W3 at *
  refine wp_seq_k (fun KX hKX => ?_)
  have HX := Lib.hid hKX
  clear hKX
  refine wp_seq_k (fun K hK => ?_)
  have HR := Lib.hid hK
  clear hK
  go_wp2_with fail
  refine HR.out _ _ ?_
  clear HR K
  refine wp_cond_false (by rfl) ?_
  go_wp2_with fail
  refine HX.out _ _ ?_
  clear HX
  refine wp_seq_k (fun K hK => ?_)
  have HR := Lib.hid hK
  clear hK
  refine wp_region_lit ?_
  refine wpList_load_mid (by rfl) 29 (Operand.tmp 4) (by rfl) (W1.heap.size) 0 (by rfl) (zL (zP s)) _ hR3 Tryd.underlying29 rfl (by kernel_rfl) ?_
  refine wpList_store_mid (by rfl) 29 (Operand.tmp 2) (Operand.tmp 14) (by rfl) (w.heap.size) 0 (zL (zP s)).toArray (by rfl) (by rfl) hT3 (by kernel_rfl) (all_oneCell_toArray (one_z (zP s))) ?_
  go_wp2_with fail
  refine HR.out _ _ ?_
  clear HR K
  have R := World.rangeAt_setCells_same W3 w.heap.size 0 (zL (zP s)) hT3
  have B := below_setCells (b := w.heap.size) (Nat.le_refl _) (zL (zP s)) 0 W3 hB3
  have L := run_loadVar_mid (P := Tryd.prog) _ w.heap.size 0 29 (zL (zP s)) _ R Tryd.underlying29 rfl (by kernel_rfl)
  go_wp2_with fail
  exact bodyPost_ret (v := .tuple #[.agg (zL (zP s)).toArray, .int .i64 0]) (by simp [results, Tryd.results9, L, asAddr]) rfl ⟨rfl, B⟩
theorem rsc_calls (s : ByteArray) (hs : s.size ≤ 1048576) (w : World) : Calls Tryd.prog 9 #[.string s] w (CuQ s w) := by
  cases h : okC s with
  | false => exact rsc_no s hs w h
  | true => exact rsc_yes s hs w h
end Tx
end Go.Proofs.YtbidagapkcmfnaaDoor
end
