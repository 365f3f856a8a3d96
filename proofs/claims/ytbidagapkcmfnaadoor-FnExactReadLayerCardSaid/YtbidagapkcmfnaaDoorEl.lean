/-
  The same layer, by the law's own test. No condition.
-/
import Derived.Test.YtbidagapkcmfnaaDoorLy
noncomputable section
namespace Go.Proofs.YtbidagapkcmfnaaDoor
namespace Tx
open Go Go.RowKit
set_option maxHeartbeats 2000000 in
set_option maxRecDepth 100000 in
theorem eql_calls (z s : Nat → Nat) (t : Nat) (w : World) : Calls Tryd.prog 14 #[.agg (V33 z s t).toArray, .agg (V33 z s t).toArray] w fun e w' => e = .returned (.bool true) ∧ Below w.heap.size w w' := by
  have hz := fun W => eqc_calls z W
  have hs := fun W => eqc_calls s W
  unfold cvV at hz hs
  have hN0 := ly_below (ly_new z s t w 34) (bA (Below.refl _ _) (.cells (V33 z s t).toArray 34))
  have hN1 := ly_new z s t (w.alloc (.cells (V33 z s t).toArray 34)) 34
  rw [show (w.alloc (.cells (V33 z s t).toArray 34)).heap.size = w.heap.size + 1 by simp] at hN1
  have hB : Below w.heap.size w ((w.alloc (.cells (V33 z s t).toArray 34)).alloc (.cells (V33 z s t).toArray 34)) := bA (bA (Below.refl _ _) _) _
  cases hn : Ev.isN .f32 t with
  | false =>
    obtain ⟨x, hx, hC⟩ := conv_num hn
    have hsf := fun W => sf_num hx W
    clear hn hx
    go_enter Tryd.func14, Tryd.ntmps14
    refine wp_seq_k (fun K hK => ?_)
    have HR := Lib.hid hK
    clear hK
    go_wp2_with fail
    refine HR.out _ _ ?_
    clear HR K
    generalize (w.alloc (.cells (V33 z s t).toArray 34)).alloc (.cells (V33 z s t).toArray 34) = W0 at *
    go_wp2_with (first
      | (refine wpList_load_mid (by rfl) 29 (Operand.tmp 5) (by rfl) (w.heap.size) 0 (by rfl) (zL z) _ (hN0.2.1) Tryd.underlying29 rfl (by kernel_rfl) ?_)
      | (refine wpList_load_mid (by rfl) 29 (Operand.tmp 7) (by rfl) (w.heap.size + 1) 0 (by rfl) (zL z) _ (hN1.2.1) Tryd.underlying29 rfl (by kernel_rfl) ?_)
      | (refine wpList_load_mid (by rfl) 29 (Operand.tmp 11) (by rfl) (w.heap.size) 16 (by rfl) (zL s) _ (hA0.2.2.1) Tryd.underlying29 rfl (by kernel_rfl) ?_)
      | (refine wpList_load_mid (by rfl) 29 (Operand.tmp 13) (by rfl) (w.heap.size + 1) 16 (by rfl) (zL s) _ (hA1.2.2.1) Tryd.underlying29 rfl (by kernel_rfl) ?_)
      | (go_at_call 11; first | (refine (hz _).mono ?_; rintro e W1 ⟨rfl, hb⟩; have hA0 := ly_below hN0 hb; have hA1 := ly_below hN1 hb; have hBA := hB.trans (hb.mono hB.size); clear hb hN0 hN1 hB hz) | (refine (hs _).mono ?_; rintro e W2 ⟨rfl, hb⟩; have hC0 := ly_below hA0 hb; have hC1 := ly_below hA1 hb; have hBC := hBA.trans (hb.mono hBA.size); have c0 := hC0.2.2.2; have c1 := hC1.2.2.2; clear hb hA0 hA1 hBA))
      | (go_at_call 8; refine (hsf _).mono ?_; rintro e W3 ⟨rfl, hw⟩; subst hw))
    go_ret
    exact ⟨rfl, by repeat (first | exact hBC | apply Below.drew)⟩
  | true =>
    obtain ⟨x, hx, hC⟩ := conv_nan hn
    have hsf := fun W W' w => sf_nan (hx W) (hx W') w
    clear hn hx
    go_enter Tryd.func14, Tryd.ntmps14
    refine wp_seq_k (fun K hK => ?_)
    have HR := Lib.hid hK
    clear hK
    go_wp2_with fail
    refine HR.out _ _ ?_
    clear HR K
    generalize (w.alloc (.cells (V33 z s t).toArray 34)).alloc (.cells (V33 z s t).toArray 34) = W0 at *
    go_wp2_with (first
      | (refine wpList_load_mid (by rfl) 29 (Operand.tmp 5) (by rfl) (w.heap.size) 0 (by rfl) (zL z) _ (hN0.2.1) Tryd.underlying29 rfl (by kernel_rfl) ?_)
      | (refine wpList_load_mid (by rfl) 29 (Operand.tmp 7) (by rfl) (w.heap.size + 1) 0 (by rfl) (zL z) _ (hN1.2.1) Tryd.underlying29 rfl (by kernel_rfl) ?_)
      | (refine wpList_load_mid (by rfl) 29 (Operand.tmp 11) (by rfl) (w.heap.size) 16 (by rfl) (zL s) _ (hA0.2.2.1) Tryd.underlying29 rfl (by kernel_rfl) ?_)
      | (refine wpList_load_mid (by rfl) 29 (Operand.tmp 13) (by rfl) (w.heap.size + 1) 16 (by rfl) (zL s) _ (hA1.2.2.1) Tryd.underlying29 rfl (by kernel_rfl) ?_)
      | (go_at_call 11; first | (refine (hz _).mono ?_; rintro e W1 ⟨rfl, hb⟩; have hA0 := ly_below hN0 hb; have hA1 := ly_below hN1 hb; have hBA := hB.trans (hb.mono hB.size); clear hb hN0 hN1 hB hz) | (refine (hs _).mono ?_; rintro e W2 ⟨rfl, hb⟩; have hC0 := ly_below hA0 hb; have hC1 := ly_below hA1 hb; have hBC := hBA.trans (hb.mono hBA.size); have c0 := hC0.2.2.2; have c1 := hC1.2.2.2; clear hb hA0 hA1 hBA))
      | (go_at_call 8; refine (hsf _ _ _).mono ?_; rintro e W3 ⟨rfl, hw⟩; subst hw))
    go_ret
    exact ⟨rfl, by repeat (first | exact hBC | apply Below.drew)⟩
end Tx
end Go.Proofs.YtbidagapkcmfnaaDoor
end
