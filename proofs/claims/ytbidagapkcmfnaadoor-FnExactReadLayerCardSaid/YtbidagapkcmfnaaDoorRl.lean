/-
  Layers read from their texts, by the model. No condition but that the text has at most 2^20 bytes.
-/
import Derived.Test.YtbidagapkcmfnaaDoorLs
import Derived.Laws.Tables
noncomputable section
namespace Go.Proofs.YtbidagapkcmfnaaDoor
namespace Tx
open Go Go.RowKit
theorem wpList_bld {P : Program} {ops : Array Oper} {rest : List Oper} {o : Oper} {a : Act} {w : World} {Q : Exit → Act → World → Prop} (hg : o.guard = none) (t : TypeId) (parts : Array (Nat × Operand)) (ho : o.op = .build t parts) (cells : Array Value) (hc : P.built t (parts.map fun (i, x) => (i, a.eval x)).toList = some cells)
    (h : wpList P ops Q rest (a.put o.dst (.agg cells)) w) : wpList P ops Q (o :: rest) a w :=
  wpList_build hg t parts ho (by rw [hc]; rfl) (by rw [hc]; exact h)
set_option maxHeartbeats 4000000 in
set_option maxRecDepth 100000 in
theorem rl_len (s : ByteArray) (hs : s.size ≤ 1048576) (w : World) (h4 : (pl s).length ≠ 4) : Calls Tryd.prog 12 #[.string s] w fun e w' => e = .returned (.tuple #[.agg (V33 zero zero 0).toArray, .int .i64 5]) ∧ Below w.heap.size w w' := by
  have hcut := fun W => cut10_calls s hs W
  have hli : ((pl s).length : Int) ≠ 4 := by omega
  have hlb : (((pl s).length : Int) != 4) = true := bne_iff_ne.2 hli
  go_enter Tryd.func12, Tryd.ntmps12
  refine wp_seq_k (fun K hK => ?_)
  have HR := Lib.hid hK
  clear hK
  go_wp2_with fail
  refine HR.out _ _ ?_
  clear HR K
  have hS0 := st_new w 34 #[.float .f32 0, .float .f32 0, .float .f32 0, .float .f32 0, .float .f32 0, .float .f32 0, .float .f32 0, .float .f32 0, .float .f32 0, .float .f32 0, .float .f32 0, .float .f32 0, .float .f32 0, .float .f32 0, .float .f32 0, .float .f32 0, .float .f32 0, .float .f32 0, .float .f32 0, .float .f32 0, .float .f32 0, .float .f32 0, .float .f32 0, .float .f32 0, .float .f32 0, .float .f32 0, .float .f32 0, .float .f32 0, .float .f32 0, .float .f32 0, .float .f32 0, .float .f32 0, .float .f32 0] rfl
  generalize w.alloc (.cells #[.float .f32 0, .float .f32 0, .float .f32 0, .float .f32 0, .float .f32 0, .float .f32 0, .float .f32 0, .float .f32 0, .float .f32 0, .float .f32 0, .float .f32 0, .float .f32 0, .float .f32 0, .float .f32 0, .float .f32 0, .float .f32 0, .float .f32 0, .float .f32 0, .float .f32 0, .float .f32 0, .float .f32 0, .float .f32 0, .float .f32 0, .float .f32 0, .float .f32 0, .float .f32 0, .float .f32 0, .float .f32 0, .float .f32 0, .float .f32 0, .float .f32 0, .float .f32 0, .float .f32 0] 34) = W0 at *
  go_wp2_with (first
    | (go_at_call 21; refine (hcut _).mono ?_; rintro e W1 ⟨g, cap, rfl, hr, hb1⟩; have hS1 := st_below hS0 hb1; clear hb1)
    | (refine wpList_store_mid (by rfl) 34 (Operand.tmp 2) (Operand.tmp 23) (by rfl) w.heap.size 0 (V33 zero zero 0).toArray (by rfl) (by rfl) (hS1.1) (by kernel_rfl) (all_oneCell_toArray (one_v zero zero 0)) ?_))
  have R := World.rangeAt_setCells_same W1 w.heap.size 0 (V33 zero zero 0) hS1.1
  have B := below_setCells (b := w.heap.size) (Nat.le_refl _) (V33 zero zero 0) 0 W1 hS1.2.2
  have L := run_loadVar_mid (P := Tryd.prog) _ w.heap.size 0 34 (V33 zero zero 0) _ R Tryd.underlying34 rfl (by kernel_rfl)
  exact bodyPost_ret (v := .tuple #[.agg (V33 zero zero 0).toArray, .int .i64 5]) (by simp [results, Tryd.results12, L, asAddr]) rfl ⟨rfl, B⟩
set_option maxHeartbeats 4000000 in
set_option maxRecDepth 100000 in
theorem rl_end (s : ByteArray) (hs : s.size ≤ 1048576) (w : World) (h4 : (pl s).length = 4) (h3 : (pl s).getD 3 [] ≠ []) : Calls Tryd.prog 12 #[.string s] w fun e w' => e = .returned (.tuple #[.agg (V33 zero zero 0).toArray, .int .i64 5]) ∧ Below w.heap.size w w' := by
  have hcut : ∀ W, Calls Tryd.prog 21 #[.string s, .int .u8 10] W fun e w' => ∃ g cap, e = .returned (.slice (some ⟨g, 0, none⟩) 4 cap) ∧ R4 (P s 0) (P s 1) (P s 2) (P s 3) g w' ∧ Below W.heap.size W w' := fun W => (cut10_calls s hs W).mono fun e w' ⟨g, cap, h1, h2, h5⟩ => ⟨g, cap, by rw [h1, h4], r4_of h4 h2, h5⟩
  have hq : (!(P s 3).toList.isEmpty) = true := by
    rw [← decide_eq_emptyBytes]
    simp only [Bool.not_eq_true', decide_eq_false_iff_not]
    intro h
    exact h3 (by have := congrArg (fun x : ByteArray => x.data.toList) h; simpa [P, bS] using this)
  have hq2 : (P s 3).toList.isEmpty = false := by simpa using hq
  generalize P s 3 = d at *
  go_enter Tryd.func12, Tryd.ntmps12
  refine wp_seq_k (fun K hK => ?_)
  have HR := Lib.hid hK
  clear hK
  go_wp2_with fail
  refine HR.out _ _ ?_
  clear HR K
  have hS0 := st_new w 34 #[.float .f32 0, .float .f32 0, .float .f32 0, .float .f32 0, .float .f32 0, .float .f32 0, .float .f32 0, .float .f32 0, .float .f32 0, .float .f32 0, .float .f32 0, .float .f32 0, .float .f32 0, .float .f32 0, .float .f32 0, .float .f32 0, .float .f32 0, .float .f32 0, .float .f32 0, .float .f32 0, .float .f32 0, .float .f32 0, .float .f32 0, .float .f32 0, .float .f32 0, .float .f32 0, .float .f32 0, .float .f32 0, .float .f32 0, .float .f32 0, .float .f32 0, .float .f32 0, .float .f32 0] rfl
  generalize w.alloc (.cells #[.float .f32 0, .float .f32 0, .float .f32 0, .float .f32 0, .float .f32 0, .float .f32 0, .float .f32 0, .float .f32 0, .float .f32 0, .float .f32 0, .float .f32 0, .float .f32 0, .float .f32 0, .float .f32 0, .float .f32 0, .float .f32 0, .float .f32 0, .float .f32 0, .float .f32 0, .float .f32 0, .float .f32 0, .float .f32 0, .float .f32 0, .float .f32 0, .float .f32 0, .float .f32 0, .float .f32 0, .float .f32 0, .float .f32 0, .float .f32 0, .float .f32 0, .float .f32 0, .float .f32 0] 34) = W0 at *
  go_wp2_with (first
    | (go_at_call 21; refine (hcut _).mono ?_; rintro e W1 ⟨g, cap, rfl, hr, hb1⟩; have hS1 := st_below hS0 hb1; clear hb1; have c3 := hr.2.2.2.2)
    | (refine wpList_store_mid (by rfl) 34 (Operand.tmp 2) (Operand.tmp 23) (by rfl) w.heap.size 0 (V33 zero zero 0).toArray (by rfl) (by rfl) (hS1.1) (by kernel_rfl) (all_oneCell_toArray (one_v zero zero 0)) ?_))
  have R := World.rangeAt_setCells_same W1 w.heap.size 0 (V33 zero zero 0) hS1.1
  have B := below_setCells (b := w.heap.size) (Nat.le_refl _) (V33 zero zero 0) 0 W1 hS1.2.2
  have L := run_loadVar_mid (P := Tryd.prog) _ w.heap.size 0 34 (V33 zero zero 0) _ R Tryd.underlying34 rfl (by kernel_rfl)
  exact bodyPost_ret (v := .tuple #[.agg (V33 zero zero 0).toArray, .int .i64 5]) (by simp [results, Tryd.results12, L, asAddr]) rfl ⟨rfl, B⟩
set_option maxHeartbeats 1000000 in
set_option maxRecDepth 100000 in
theorem rl_all (s : ByteArray) (hs : s.size ≤ 1048576) (w : World) (h4 : (pl s).length = 4) (h3 : (pl s).getD 3 [] = []) (f1 : okC (P s 0) = true) (f2 : okC (P s 1) = true) (f3 : okN (P s 2).data.toList = true) (f4 : Ty.okL (zC (P s 0)) (zC (P s 1)) (rnA (P s 2)) = true) : Calls Tryd.prog 12 #[.string s] w (RlQ s w) := by
  have hY : okY s = true := by
    unfold okY
    rw [f4, f1, f2, show okN (bL (P s 2)) = true from f3, h3, h4]
    rfl
  have hcut : ∀ W, Calls Tryd.prog 21 #[.string s, .int .u8 10] W fun e w' => ∃ g cap, e = .returned (.slice (some ⟨g, 0, none⟩) 4 cap) ∧ R4 (P s 0) (P s 1) (P s 2) (P s 3) g w' ∧ Below W.heap.size W w' := fun W => (cut10_calls s hs W).mono fun e w' ⟨g, cap, h1, h2, h5⟩ => ⟨g, cap, by rw [h1, h4], r4_of h4 h2, h5⟩
  have hp3 : P s 3 = ⟨#[]⟩ := by unfold P; rw [h3]; rfl
  have hq : (P s 3).toList.isEmpty = true := by rw [hp3, ← decide_eq_emptyBytes]; exact decide_eq_true rfl
  clear hp3
  have hK := fun W => rc_calls (P s 0) (Nat.le_trans (P_le s 0) hs) W
  have hS := fun W => rc_calls (P s 1) (Nat.le_trans (P_le s 1) hs) W
  have hA := fun W => rd_calls (P s 2) W
  unfold RcQ cvV at hK hS
  unfold RdQ at hA
  rw [f1] at hK
  rw [f2] at hS
  rw [f3] at hA
  replace hA : ∀ W, Calls Tryd.prog 15 #[.string (P s 2)] W fun e w' => e = .returned (.tuple #[.float .f32 (rnA (P s 2)), .bool true]) ∧ Below W.heap.size W w' := fun W => (hA W).mono fun e w' ⟨a, h1, h2, h3⟩ => ⟨by rw [h1, h2 rfl, (rn_yes f3).1], h3⟩
  unfold RlQ
  rw [(rl_yes hY).1, (rl_yes hY).2.1, (rl_yes hY).2.2.1, (rl_yes hY).2.2.2]
  have hok := f4
  clear hY f1 f2 f3 f4 h3 h4
  generalize rnA (P s 2) = a at hA hok ⊢
  generalize zC (P s 0) = z at hK hok ⊢
  generalize zC (P s 1) = y at hS hok ⊢
  generalize P s 3 = d at hcut hq
  go_enter Tryd.func12, Tryd.ntmps12
  refine wp_seq_k (fun K hK => ?_)
  have HR := Lib.hid hK
  clear hK
  go_wp2_with fail
  refine HR.out _ _ ?_
  clear HR K
  have hS0 := st_new w 34 #[.float .f32 0, .float .f32 0, .float .f32 0, .float .f32 0, .float .f32 0, .float .f32 0, .float .f32 0, .float .f32 0, .float .f32 0, .float .f32 0, .float .f32 0, .float .f32 0, .float .f32 0, .float .f32 0, .float .f32 0, .float .f32 0, .float .f32 0, .float .f32 0, .float .f32 0, .float .f32 0, .float .f32 0, .float .f32 0, .float .f32 0, .float .f32 0, .float .f32 0, .float .f32 0, .float .f32 0, .float .f32 0, .float .f32 0, .float .f32 0, .float .f32 0, .float .f32 0, .float .f32 0] rfl
  generalize w.alloc (.cells #[.float .f32 0, .float .f32 0, .float .f32 0, .float .f32 0, .float .f32 0, .float .f32 0, .float .f32 0, .float .f32 0, .float .f32 0, .float .f32 0, .float .f32 0, .float .f32 0, .float .f32 0, .float .f32 0, .float .f32 0, .float .f32 0, .float .f32 0, .float .f32 0, .float .f32 0, .float .f32 0, .float .f32 0, .float .f32 0, .float .f32 0, .float .f32 0, .float .f32 0, .float .f32 0, .float .f32 0, .float .f32 0, .float .f32 0, .float .f32 0, .float .f32 0, .float .f32 0, .float .f32 0] 34) = W0 at *
  refine wp_seq_k (fun K hK => ?_)
  have HR := Lib.hid hK
  clear hK
  go_wp2_with (go_at_call 21; refine (hcut _).mono ?_; rintro e W1 ⟨g, cap, rfl, hr, hb1⟩; have hS1 := st_below hS0 hb1; clear hb1; have c0 := hr.2.1; have c3 := hr.2.2.2.2)
  refine HR.out _ _ ?_
  clear HR K
  refine wp_seq_k (fun KX hKX => ?_)
  have HX := Lib.hid hKX
  clear hKX
  refine wp_seq_k (fun K hK => ?_)
  have HR := Lib.hid hK
  clear hK
  go_wp2_with fail
  refine HR.out _ _ ?_
  clear HR K
  refine wp_cond_false (by rfl) ?_
  go_wp2_with fail
  refine HX.out _ _ ?_
  clear HX KX
  refine wp_seq_k (fun K hK => ?_)
  have HR := Lib.hid hK
  clear hK
  go_wp2_with (first
    | (go_at_call 19; first
        | (refine (hK _).mono ?_; rintro e W2 ⟨rfl, hb⟩; have hr2 := r4_below hr hb; have hS2 := st_below hS1 hb; clear hb hr hS1 c0 c3 hK)
        | (refine (hS _).mono ?_; rintro e W3 ⟨rfl, hb⟩; have hr4 := r4_below hr3 hb; have hS4 := st_below hS3 hb; have hV2 : W2.heap.size < W3.heap.size ∧ W3.rangeAt W2.heap.size 0 (zL z) := ⟨Nat.lt_of_lt_of_le hV2.2.2 hb.size, range_below hV2.2.2 hV2.1 hb⟩; clear hb hr3 hS3 c1 hS))
    | (refine wpList_store_mid (by rfl) 29 (Operand.tmp 5) (Operand.tmp 29) (by rfl) W2.heap.size 0 (zL z).toArray (by rfl) (by rfl) (there_new W2 29 #[.float .f32 0, .float .f32 0, .float .f32 0, .float .f32 0, .float .f32 0, .float .f32 0, .float .f32 0, .float .f32 0, .float .f32 0, .float .f32 0, .float .f32 0, .float .f32 0, .float .f32 0, .float .f32 0, .float .f32 0, .float .f32 0]) (by kernel_rfl) (all_oneCell_toArray (one_z z)) ?_; have hV2 := laid16 W2 z 29 #[.float .f32 0, .float .f32 0, .float .f32 0, .float .f32 0, .float .f32 0, .float .f32 0, .float .f32 0, .float .f32 0, .float .f32 0, .float .f32 0, .float .f32 0, .float .f32 0, .float .f32 0, .float .f32 0, .float .f32 0, .float .f32 0] rfl; generalize (W2.alloc (.cells #[.float .f32 0, .float .f32 0, .float .f32 0, .float .f32 0, .float .f32 0, .float .f32 0, .float .f32 0, .float .f32 0, .float .f32 0, .float .f32 0, .float .f32 0, .float .f32 0, .float .f32 0, .float .f32 0, .float .f32 0, .float .f32 0] 29)).setCells W2.heap.size 0 (zL z).toArray.toList = V2 at *; have hr3 := r4_below hr2 hV2.2.1; have c1 := hr3.2.2.1; have hS3 := st_below hS2 hV2.2.1; clear hr2 hS2))
  refine HR.out _ _ ?_
  clear HR K
  refine wp_seq_k (fun K hK => ?_)
  have HR := Lib.hid hK
  clear hK
  go_wp2_with (first
    | (go_at_call 19; first
        | (refine (hK _).mono ?_; rintro e W2 ⟨rfl, hb⟩; have hr2 := r4_below hr hb; have hS2 := st_below hS1 hb; clear hb hr hS1 c0 c3 hK)
        | (refine (hS _).mono ?_; rintro e W3 ⟨rfl, hb⟩; have hr4 := r4_below hr3 hb; have hS4 := st_below hS3 hb; have hV2 : W2.heap.size < W3.heap.size ∧ W3.rangeAt W2.heap.size 0 (zL z) := ⟨Nat.lt_of_lt_of_le hV2.2.2 hb.size, range_below hV2.2.2 hV2.1 hb⟩; clear hb hr3 hS3 c1 hS))
    | (refine wpList_store_mid (by rfl) 29 (Operand.tmp 7) (Operand.tmp 36) (by rfl) W3.heap.size 0 (zL y).toArray (by rfl) (by rfl) (there_new W3 29 #[.float .f32 0, .float .f32 0, .float .f32 0, .float .f32 0, .float .f32 0, .float .f32 0, .float .f32 0, .float .f32 0, .float .f32 0, .float .f32 0, .float .f32 0, .float .f32 0, .float .f32 0, .float .f32 0, .float .f32 0, .float .f32 0]) (by kernel_rfl) (all_oneCell_toArray (one_z y)) ?_; have hV3 := laid16 W3 y 29 #[.float .f32 0, .float .f32 0, .float .f32 0, .float .f32 0, .float .f32 0, .float .f32 0, .float .f32 0, .float .f32 0, .float .f32 0, .float .f32 0, .float .f32 0, .float .f32 0, .float .f32 0, .float .f32 0, .float .f32 0, .float .f32 0] rfl; generalize (W3.alloc (.cells #[.float .f32 0, .float .f32 0, .float .f32 0, .float .f32 0, .float .f32 0, .float .f32 0, .float .f32 0, .float .f32 0, .float .f32 0, .float .f32 0, .float .f32 0, .float .f32 0, .float .f32 0, .float .f32 0, .float .f32 0, .float .f32 0] 29)).setCells W3.heap.size 0 (zL y).toArray.toList = V3 at *; have hr5 := r4_below hr4 hV3.2.1; have c2 := hr5.2.2.2.1; have hS5 := st_below hS4 hV3.2.1; have hV2 : W2.heap.size < V3.heap.size ∧ V3.rangeAt W2.heap.size 0 (zL z) := ⟨Nat.lt_of_lt_of_le hV2.1 hV3.2.1.size, range_below hV2.1 hV2.2 hV3.2.1⟩; have hV3 : V3.rangeAt W3.heap.size 0 (zL y) ∧ W3.heap.size < V3.heap.size := ⟨hV3.1, hV3.2.2⟩; clear hr4 hS4))
  refine HR.out _ _ ?_
  clear HR K
  refine wp_seq_k (fun K hK => ?_)
  have HR := Lib.hid hK
  clear hK
  go_wp2_with (go_at_call 15; refine (hA _).mono ?_; rintro e W4 ⟨rfl, hb⟩; have hS6 := st_below hS5 hb; have q2 : W4.rangeAt W2.heap.size 0 (zL z) := range_below hV2.1 hV2.2 hb; have q3 : W4.rangeAt W3.heap.size 0 (zL y) := range_below hV3.2 hV3.1 hb; clear hb hS5 hA c2 hV2 hV3 hr5)
  refine HR.out _ _ ?_
  clear HR K
  refine wp_seq_k (fun K hK => ?_)
  have HR := Lib.hid hK
  clear hK
  refine wp_region_lit ?_
  refine wpList_load_mid (by rfl) 29 (Operand.tmp 5) (by rfl) (W2.heap.size) 0 (by rfl) (zL z) _ (q2) Tryd.underlying29 rfl (by kernel_rfl) ?_
  refine wpList_load_mid (by rfl) 29 (Operand.tmp 7) (by rfl) (W3.heap.size) 0 (by rfl) (zL y) _ (q3) Tryd.underlying29 rfl (by kernel_rfl) ?_
  refine wpList_plain (by rfl) fun K1 hK1 => ?_
  have HK := Lib.hid hK1
  clear hK1
  go_wp2_with fail
  refine HK.out _ _ ?_
  clear HK K1
  refine wpList_bld (by rfl) 34 #[(0, Operand.tmp 45), (1, Operand.tmp 46), (2, Operand.tmp 47)] (by rfl) (V33 z y a).toArray (by kernel_rfl) ?_
  refine wpList_plain (by rfl) fun K1 hK1 => ?_
  have HK := Lib.hid hK1
  clear hK1
  go_wp2_with fail
  refine HK.out _ _ ?_
  clear HK K1
  refine wpList_store_mid (by rfl) 34 (Operand.tmp 11) (Operand.tmp 48) (by rfl) W4.heap.size 0 (V33 z y a).toArray (by rfl) (by rfl) (there_new W4 34 #[.float .f32 0, .float .f32 0, .float .f32 0, .float .f32 0, .float .f32 0, .float .f32 0, .float .f32 0, .float .f32 0, .float .f32 0, .float .f32 0, .float .f32 0, .float .f32 0, .float .f32 0, .float .f32 0, .float .f32 0, .float .f32 0, .float .f32 0, .float .f32 0, .float .f32 0, .float .f32 0, .float .f32 0, .float .f32 0, .float .f32 0, .float .f32 0, .float .f32 0, .float .f32 0, .float .f32 0, .float .f32 0, .float .f32 0, .float .f32 0, .float .f32 0, .float .f32 0, .float .f32 0]) (by kernel_rfl) (all_oneCell_toArray (one_v z y a)) ?_
  have hV4 := laid33 W4 z y a 34 #[.float .f32 0, .float .f32 0, .float .f32 0, .float .f32 0, .float .f32 0, .float .f32 0, .float .f32 0, .float .f32 0, .float .f32 0, .float .f32 0, .float .f32 0, .float .f32 0, .float .f32 0, .float .f32 0, .float .f32 0, .float .f32 0, .float .f32 0, .float .f32 0, .float .f32 0, .float .f32 0, .float .f32 0, .float .f32 0, .float .f32 0, .float .f32 0, .float .f32 0, .float .f32 0, .float .f32 0, .float .f32 0, .float .f32 0, .float .f32 0, .float .f32 0, .float .f32 0, .float .f32 0] rfl
  generalize (W4.alloc (.cells #[.float .f32 0, .float .f32 0, .float .f32 0, .float .f32 0, .float .f32 0, .float .f32 0, .float .f32 0, .float .f32 0, .float .f32 0, .float .f32 0, .float .f32 0, .float .f32 0, .float .f32 0, .float .f32 0, .float .f32 0, .float .f32 0, .float .f32 0, .float .f32 0, .float .f32 0, .float .f32 0, .float .f32 0, .float .f32 0, .float .f32 0, .float .f32 0, .float .f32 0, .float .f32 0, .float .f32 0, .float .f32 0, .float .f32 0, .float .f32 0, .float .f32 0, .float .f32 0, .float .f32 0] 34)).setCells W4.heap.size 0 (V33 z y a).toArray.toList = V4 at *
  have hS7 := st_below hS6 hV4.2.1
  clear q2 q3 hS6
  go_wp2_with fail
  refine HR.out _ _ ?_
  clear HR K
  have hLV := lv_of hV4.2.2 hV4.1
  have hok2 := fun W h => Ty.lok_calls z y a W4.heap.size W h
  rw [hok] at hok2
  clear hok
  refine wp_seq_k (fun KX hKX => ?_)
  have HX := Lib.hid hKX
  clear hKX
  refine wp_seq_k (fun K hK => ?_)
  have HR := Lib.hid hK
  clear hK
  go_wp2_with (go_at_call 22; refine (hok2 _ hLV).mono ?_; rintro e W5 ⟨rfl, hb⟩; have hS8 := st_below hS7 hb; have q4 := range_below hV4.2.2 hV4.1 hb; clear hb hLV hV4 hS7)
  refine HR.out _ _ ?_
  clear HR K
  refine wp_cond_false (by rfl) ?_
  go_wp2_with fail
  refine HX.out _ _ ?_
  clear HX KX
  refine wp_seq_k (fun K hK => ?_)
  have HR := Lib.hid hK
  clear hK
  refine wp_region_lit ?_
  refine wpList_load_mid (by rfl) 34 (Operand.tmp 11) (by rfl) (W4.heap.size) 0 (by rfl) (V33 z y a) _ q4 Tryd.underlying34 rfl (by kernel_rfl) ?_
  refine wpList_store_mid (by rfl) 34 (Operand.tmp 2) (Operand.tmp 64) (by rfl) w.heap.size 0 (V33 z y a).toArray (by rfl) (by rfl) (hS8.1) (by kernel_rfl) (all_oneCell_toArray (one_v z y a)) ?_
  go_wp2_with fail
  refine HR.out _ _ ?_
  clear HR K
  go_wp2_with fail
  have R := World.rangeAt_setCells_same W5 w.heap.size 0 (V33 z y a) hS8.1
  have B := below_setCells (b := w.heap.size) (Nat.le_refl _) (V33 z y a) 0 W5 hS8.2.2
  have L := run_loadVar_mid (P := Tryd.prog) _ w.heap.size 0 34 (V33 z y a) _ R Tryd.underlying34 rfl (by kernel_rfl)
  exact bodyPost_ret (v := .tuple #[.agg (V33 z y a).toArray, .int .i64 0]) (by simp [results, Tryd.results12, L, asAddr]) rfl ⟨rfl, B⟩
set_option maxHeartbeats 1000000 in
set_option maxRecDepth 100000 in
theorem rl_no4 (s : ByteArray) (hs : s.size ≤ 1048576) (w : World) (h4 : (pl s).length = 4) (h3 : (pl s).getD 3 [] = []) (f1 : okC (P s 0) = true) (f2 : okC (P s 1) = true) (f3 : okN (P s 2).data.toList = true) (f4 : Ty.okL (zC (P s 0)) (zC (P s 1)) (rnA (P s 2)) = false) : Calls Tryd.prog 12 #[.string s] w (RlQ s w) := by
  have hY : okY s = false := by
    unfold okY
    rw [f4, f1, f2, show okN (bL (P s 2)) = true from f3, h3, h4]
    rfl
  have hcut : ∀ W, Calls Tryd.prog 21 #[.string s, .int .u8 10] W fun e w' => ∃ g cap, e = .returned (.slice (some ⟨g, 0, none⟩) 4 cap) ∧ R4 (P s 0) (P s 1) (P s 2) (P s 3) g w' ∧ Below W.heap.size W w' := fun W => (cut10_calls s hs W).mono fun e w' ⟨g, cap, h1, h2, h5⟩ => ⟨g, cap, by rw [h1, h4], r4_of h4 h2, h5⟩
  have hp3 : P s 3 = ⟨#[]⟩ := by unfold P; rw [h3]; rfl
  have hq : (P s 3).toList.isEmpty = true := by rw [hp3, ← decide_eq_emptyBytes]; exact decide_eq_true rfl
  clear hp3
  have hK := fun W => rc_calls (P s 0) (Nat.le_trans (P_le s 0) hs) W
  have hS := fun W => rc_calls (P s 1) (Nat.le_trans (P_le s 1) hs) W
  have hA := fun W => rd_calls (P s 2) W
  unfold RcQ cvV at hK hS
  unfold RdQ at hA
  rw [f1] at hK
  rw [f2] at hS
  rw [f3] at hA
  replace hA : ∀ W, Calls Tryd.prog 15 #[.string (P s 2)] W fun e w' => e = .returned (.tuple #[.float .f32 (rnA (P s 2)), .bool true]) ∧ Below W.heap.size W w' := fun W => (hA W).mono fun e w' ⟨a, h1, h2, h3⟩ => ⟨by rw [h1, h2 rfl, (rn_yes f3).1], h3⟩
  unfold RlQ
  rw [(rl_no hY).1, (rl_no hY).2.1, (rl_no hY).2.2.1, (rl_no hY).2.2.2]
  have hok := f4
  clear hY f1 f2 f3 f4 h3 h4
  generalize rnA (P s 2) = a at hA hok ⊢
  generalize zC (P s 0) = z at hK hok ⊢
  generalize zC (P s 1) = y at hS hok ⊢
  generalize P s 3 = d at hcut hq
  go_enter Tryd.func12, Tryd.ntmps12
  refine wp_seq_k (fun K hK => ?_)
  have HR := Lib.hid hK
  clear hK
  go_wp2_with fail
  refine HR.out _ _ ?_
  clear HR K
  have hS0 := st_new w 34 #[.float .f32 0, .float .f32 0, .float .f32 0, .float .f32 0, .float .f32 0, .float .f32 0, .float .f32 0, .float .f32 0, .float .f32 0, .float .f32 0, .float .f32 0, .float .f32 0, .float .f32 0, .float .f32 0, .float .f32 0, .float .f32 0, .float .f32 0, .float .f32 0, .float .f32 0, .float .f32 0, .float .f32 0, .float .f32 0, .float .f32 0, .float .f32 0, .float .f32 0, .float .f32 0, .float .f32 0, .float .f32 0, .float .f32 0, .float .f32 0, .float .f32 0, .float .f32 0, .float .f32 0] rfl
  generalize w.alloc (.cells #[.float .f32 0, .float .f32 0, .float .f32 0, .float .f32 0, .float .f32 0, .float .f32 0, .float .f32 0, .float .f32 0, .float .f32 0, .float .f32 0, .float .f32 0, .float .f32 0, .float .f32 0, .float .f32 0, .float .f32 0, .float .f32 0, .float .f32 0, .float .f32 0, .float .f32 0, .float .f32 0, .float .f32 0, .float .f32 0, .float .f32 0, .float .f32 0, .float .f32 0, .float .f32 0, .float .f32 0, .float .f32 0, .float .f32 0, .float .f32 0, .float .f32 0, .float .f32 0, .float .f32 0] 34) = W0 at *
  refine wp_seq_k (fun K hK => ?_)
  have HR := Lib.hid hK
  clear hK
  go_wp2_with (go_at_call 21; refine (hcut _).mono ?_; rintro e W1 ⟨g, cap, rfl, hr, hb1⟩; have hS1 := st_below hS0 hb1; clear hb1; have c0 := hr.2.1; have c3 := hr.2.2.2.2)
  refine HR.out _ _ ?_
  clear HR K
  refine wp_seq_k (fun KX hKX => ?_)
  have HX := Lib.hid hKX
  clear hKX
  refine wp_seq_k (fun K hK => ?_)
  have HR := Lib.hid hK
  clear hK
  go_wp2_with fail
  refine HR.out _ _ ?_
  clear HR K
  refine wp_cond_false (by rfl) ?_
  go_wp2_with fail
  refine HX.out _ _ ?_
  clear HX KX
  refine wp_seq_k (fun K hK => ?_)
  have HR := Lib.hid hK
  clear hK
  go_wp2_with (first
    | (go_at_call 19; first
        | (refine (hK _).mono ?_; rintro e W2 ⟨rfl, hb⟩; have hr2 := r4_below hr hb; have hS2 := st_below hS1 hb; clear hb hr hS1 c0 c3 hK)
        | (refine (hS _).mono ?_; rintro e W3 ⟨rfl, hb⟩; have hr4 := r4_below hr3 hb; have hS4 := st_below hS3 hb; have hV2 : W2.heap.size < W3.heap.size ∧ W3.rangeAt W2.heap.size 0 (zL z) := ⟨Nat.lt_of_lt_of_le hV2.2.2 hb.size, range_below hV2.2.2 hV2.1 hb⟩; clear hb hr3 hS3 c1 hS))
    | (refine wpList_store_mid (by rfl) 29 (Operand.tmp 5) (Operand.tmp 29) (by rfl) W2.heap.size 0 (zL z).toArray (by rfl) (by rfl) (there_new W2 29 #[.float .f32 0, .float .f32 0, .float .f32 0, .float .f32 0, .float .f32 0, .float .f32 0, .float .f32 0, .float .f32 0, .float .f32 0, .float .f32 0, .float .f32 0, .float .f32 0, .float .f32 0, .float .f32 0, .float .f32 0, .float .f32 0]) (by kernel_rfl) (all_oneCell_toArray (one_z z)) ?_; have hV2 := laid16 W2 z 29 #[.float .f32 0, .float .f32 0, .float .f32 0, .float .f32 0, .float .f32 0, .float .f32 0, .float .f32 0, .float .f32 0, .float .f32 0, .float .f32 0, .float .f32 0, .float .f32 0, .float .f32 0, .float .f32 0, .float .f32 0, .float .f32 0] rfl; generalize (W2.alloc (.cells #[.float .f32 0, .float .f32 0, .float .f32 0, .float .f32 0, .float .f32 0, .float .f32 0, .float .f32 0, .float .f32 0, .float .f32 0, .float .f32 0, .float .f32 0, .float .f32 0, .float .f32 0, .float .f32 0, .float .f32 0, .float .f32 0] 29)).setCells W2.heap.size 0 (zL z).toArray.toList = V2 at *; have hr3 := r4_below hr2 hV2.2.1; have c1 := hr3.2.2.1; have hS3 := st_below hS2 hV2.2.1; clear hr2 hS2))
  refine HR.out _ _ ?_
  clear HR K
  refine wp_seq_k (fun K hK => ?_)
  have HR := Lib.hid hK
  clear hK
  go_wp2_with (first
    | (go_at_call 19; first
        | (refine (hK _).mono ?_; rintro e W2 ⟨rfl, hb⟩; have hr2 := r4_below hr hb; have hS2 := st_below hS1 hb; clear hb hr hS1 c0 c3 hK)
        | (refine (hS _).mono ?_; rintro e W3 ⟨rfl, hb⟩; have hr4 := r4_below hr3 hb; have hS4 := st_below hS3 hb; have hV2 : W2.heap.size < W3.heap.size ∧ W3.rangeAt W2.heap.size 0 (zL z) := ⟨Nat.lt_of_lt_of_le hV2.2.2 hb.size, range_below hV2.2.2 hV2.1 hb⟩; clear hb hr3 hS3 c1 hS))
    | (refine wpList_store_mid (by rfl) 29 (Operand.tmp 7) (Operand.tmp 36) (by rfl) W3.heap.size 0 (zL y).toArray (by rfl) (by rfl) (there_new W3 29 #[.float .f32 0, .float .f32 0, .float .f32 0, .float .f32 0, .float .f32 0, .float .f32 0, .float .f32 0, .float .f32 0, .float .f32 0, .float .f32 0, .float .f32 0, .float .f32 0, .float .f32 0, .float .f32 0, .float .f32 0, .float .f32 0]) (by kernel_rfl) (all_oneCell_toArray (one_z y)) ?_; have hV3 := laid16 W3 y 29 #[.float .f32 0, .float .f32 0, .float .f32 0, .float .f32 0, .float .f32 0, .float .f32 0, .float .f32 0, .float .f32 0, .float .f32 0, .float .f32 0, .float .f32 0, .float .f32 0, .float .f32 0, .float .f32 0, .float .f32 0, .float .f32 0] rfl; generalize (W3.alloc (.cells #[.float .f32 0, .float .f32 0, .float .f32 0, .float .f32 0, .float .f32 0, .float .f32 0, .float .f32 0, .float .f32 0, .float .f32 0, .float .f32 0, .float .f32 0, .float .f32 0, .float .f32 0, .float .f32 0, .float .f32 0, .float .f32 0] 29)).setCells W3.heap.size 0 (zL y).toArray.toList = V3 at *; have hr5 := r4_below hr4 hV3.2.1; have c2 := hr5.2.2.2.1; have hS5 := st_below hS4 hV3.2.1; have hV2 : W2.heap.size < V3.heap.size ∧ V3.rangeAt W2.heap.size 0 (zL z) := ⟨Nat.lt_of_lt_of_le hV2.1 hV3.2.1.size, range_below hV2.1 hV2.2 hV3.2.1⟩; have hV3 : V3.rangeAt W3.heap.size 0 (zL y) ∧ W3.heap.size < V3.heap.size := ⟨hV3.1, hV3.2.2⟩; clear hr4 hS4))
  refine HR.out _ _ ?_
  clear HR K
  refine wp_seq_k (fun K hK => ?_)
  have HR := Lib.hid hK
  clear hK
  go_wp2_with (go_at_call 15; refine (hA _).mono ?_; rintro e W4 ⟨rfl, hb⟩; have hS6 := st_below hS5 hb; have q2 : W4.rangeAt W2.heap.size 0 (zL z) := range_below hV2.1 hV2.2 hb; have q3 : W4.rangeAt W3.heap.size 0 (zL y) := range_below hV3.2 hV3.1 hb; clear hb hS5 hA c2 hV2 hV3 hr5)
  refine HR.out _ _ ?_
  clear HR K
  refine wp_seq_k (fun K hK => ?_)
  have HR := Lib.hid hK
  clear hK
  refine wp_region_lit ?_
  refine wpList_load_mid (by rfl) 29 (Operand.tmp 5) (by rfl) (W2.heap.size) 0 (by rfl) (zL z) _ (q2) Tryd.underlying29 rfl (by kernel_rfl) ?_
  refine wpList_load_mid (by rfl) 29 (Operand.tmp 7) (by rfl) (W3.heap.size) 0 (by rfl) (zL y) _ (q3) Tryd.underlying29 rfl (by kernel_rfl) ?_
  refine wpList_plain (by rfl) fun K1 hK1 => ?_
  have HK := Lib.hid hK1
  clear hK1
  go_wp2_with fail
  refine HK.out _ _ ?_
  clear HK K1
  refine wpList_bld (by rfl) 34 #[(0, Operand.tmp 45), (1, Operand.tmp 46), (2, Operand.tmp 47)] (by rfl) (V33 z y a).toArray (by kernel_rfl) ?_
  refine wpList_plain (by rfl) fun K1 hK1 => ?_
  have HK := Lib.hid hK1
  clear hK1
  go_wp2_with fail
  refine HK.out _ _ ?_
  clear HK K1
  refine wpList_store_mid (by rfl) 34 (Operand.tmp 11) (Operand.tmp 48) (by rfl) W4.heap.size 0 (V33 z y a).toArray (by rfl) (by rfl) (there_new W4 34 #[.float .f32 0, .float .f32 0, .float .f32 0, .float .f32 0, .float .f32 0, .float .f32 0, .float .f32 0, .float .f32 0, .float .f32 0, .float .f32 0, .float .f32 0, .float .f32 0, .float .f32 0, .float .f32 0, .float .f32 0, .float .f32 0, .float .f32 0, .float .f32 0, .float .f32 0, .float .f32 0, .float .f32 0, .float .f32 0, .float .f32 0, .float .f32 0, .float .f32 0, .float .f32 0, .float .f32 0, .float .f32 0, .float .f32 0, .float .f32 0, .float .f32 0, .float .f32 0, .float .f32 0]) (by kernel_rfl) (all_oneCell_toArray (one_v z y a)) ?_
  have hV4 := laid33 W4 z y a 34 #[.float .f32 0, .float .f32 0, .float .f32 0, .float .f32 0, .float .f32 0, .float .f32 0, .float .f32 0, .float .f32 0, .float .f32 0, .float .f32 0, .float .f32 0, .float .f32 0, .float .f32 0, .float .f32 0, .float .f32 0, .float .f32 0, .float .f32 0, .float .f32 0, .float .f32 0, .float .f32 0, .float .f32 0, .float .f32 0, .float .f32 0, .float .f32 0, .float .f32 0, .float .f32 0, .float .f32 0, .float .f32 0, .float .f32 0, .float .f32 0, .float .f32 0, .float .f32 0, .float .f32 0] rfl
  generalize (W4.alloc (.cells #[.float .f32 0, .float .f32 0, .float .f32 0, .float .f32 0, .float .f32 0, .float .f32 0, .float .f32 0, .float .f32 0, .float .f32 0, .float .f32 0, .float .f32 0, .float .f32 0, .float .f32 0, .float .f32 0, .float .f32 0, .float .f32 0, .float .f32 0, .float .f32 0, .float .f32 0, .float .f32 0, .float .f32 0, .float .f32 0, .float .f32 0, .float .f32 0, .float .f32 0, .float .f32 0, .float .f32 0, .float .f32 0, .float .f32 0, .float .f32 0, .float .f32 0, .float .f32 0, .float .f32 0] 34)).setCells W4.heap.size 0 (V33 z y a).toArray.toList = V4 at *
  have hS7 := st_below hS6 hV4.2.1
  clear q2 q3 hS6
  go_wp2_with fail
  refine HR.out _ _ ?_
  clear HR K
  have hLV := lv_of hV4.2.2 hV4.1
  have hok2 := fun W h => Ty.lok_calls z y a W4.heap.size W h
  rw [hok] at hok2
  clear hok
  refine wp_seq_k (fun KX hKX => ?_)
  have HX := Lib.hid hKX
  clear hKX
  refine wp_seq_k (fun K hK => ?_)
  have HR := Lib.hid hK
  clear hK
  go_wp2_with (go_at_call 22; refine (hok2 _ hLV).mono ?_; rintro e W5 ⟨rfl, hb⟩; have hS8 := st_below hS7 hb; have q4 := range_below hV4.2.2 hV4.1 hb; clear hb hLV hV4 hS7)
  refine HR.out _ _ ?_
  clear HR K
  refine wp_cond_true (by rfl) ?_
  refine wp_seq_k (fun K hK => ?_)
  have HR := Lib.hid hK
  clear hK
  refine wp_region_lit ?_
  refine wpList_plain (by rfl) fun K1 hK1 => ?_
  have HK := Lib.hid hK1
  clear hK1
  go_wp2_with fail
  refine HK.out _ _ ?_
  clear HK K1
  refine wpList_store_mid (by rfl) 34 (Operand.tmp 2) (Operand.tmp 63) (by rfl) w.heap.size 0 (V33 zero zero 0).toArray (by rfl) (by rfl) (hS8.1) (by kernel_rfl) (all_oneCell_toArray (one_v zero zero 0)) ?_
  go_wp2_with fail
  refine HR.out _ _ ?_
  clear HR K
  go_wp2_with fail
  have R := World.rangeAt_setCells_same W5 w.heap.size 0 (V33 zero zero 0) hS8.1
  have B := below_setCells (b := w.heap.size) (Nat.le_refl _) (V33 zero zero 0) 0 W5 hS8.2.2
  have L := run_loadVar_mid (P := Tryd.prog) _ w.heap.size 0 34 (V33 zero zero 0) _ R Tryd.underlying34 rfl (by kernel_rfl)
  exact bodyPost_ret (v := .tuple #[.agg (V33 zero zero 0).toArray, .int .i64 5]) (by simp [results, Tryd.results12, L, asAddr]) rfl ⟨rfl, B⟩
set_option maxHeartbeats 1000000 in
set_option maxRecDepth 100000 in
theorem rl_no1 (s : ByteArray) (hs : s.size ≤ 1048576) (w : World) (h4 : (pl s).length = 4) (h3 : (pl s).getD 3 [] = []) (f1 : okC (P s 0) = false) : Calls Tryd.prog 12 #[.string s] w fun e w' => e = .returned (.tuple #[.agg (V33 zero zero 0).toArray, .int .i64 5]) ∧ Below w.heap.size w w' := by
  have hcut : ∀ W, Calls Tryd.prog 21 #[.string s, .int .u8 10] W fun e w' => ∃ g cap, e = .returned (.slice (some ⟨g, 0, none⟩) 4 cap) ∧ R4 (P s 0) (P s 1) (P s 2) (P s 3) g w' ∧ Below W.heap.size W w' := fun W => (cut10_calls s hs W).mono fun e w' ⟨g, cap, h1, h2, h5⟩ => ⟨g, cap, by rw [h1, h4], r4_of h4 h2, h5⟩
  have hp3 : P s 3 = ⟨#[]⟩ := by unfold P; rw [h3]; rfl
  have hq : (P s 3).toList.isEmpty = true := by rw [hp3, ← decide_eq_emptyBytes]; exact decide_eq_true rfl
  clear hp3
  have hK := fun W => rc_calls (P s 0) (Nat.le_trans (P_le s 0) hs) W
  have hS := fun W => rc_calls (P s 1) (Nat.le_trans (P_le s 1) hs) W
  have hA := fun W => rd_calls (P s 2) W
  unfold RcQ cvV at hK hS
  unfold RdQ at hA
  rw [f1] at hK
  replace hA : ∀ W, Calls Tryd.prog 15 #[.string (P s 2)] W fun e w' => ∃ a : Nat, e = .returned (.tuple #[.float .f32 a, .bool (okN (P s 2).data.toList)]) ∧ Below W.heap.size W w' := fun W => (hA W).mono fun e w' ⟨a, h1, h2, h3⟩ => ⟨a, h1, h3⟩
  generalize okC (P s 1) = o2 at hS
  generalize okN (P s 2).data.toList = o3 at hA
  clear h3 h4
  generalize zC (P s 0) = z at hK
  generalize zC (P s 1) = y at hS
  generalize P s 3 = d at hcut hq
  go_enter Tryd.func12, Tryd.ntmps12
  refine wp_seq_k (fun K hK => ?_)
  have HR := Lib.hid hK
  clear hK
  go_wp2_with fail
  refine HR.out _ _ ?_
  clear HR K
  have hS0 := st_new w 34 #[.float .f32 0, .float .f32 0, .float .f32 0, .float .f32 0, .float .f32 0, .float .f32 0, .float .f32 0, .float .f32 0, .float .f32 0, .float .f32 0, .float .f32 0, .float .f32 0, .float .f32 0, .float .f32 0, .float .f32 0, .float .f32 0, .float .f32 0, .float .f32 0, .float .f32 0, .float .f32 0, .float .f32 0, .float .f32 0, .float .f32 0, .float .f32 0, .float .f32 0, .float .f32 0, .float .f32 0, .float .f32 0, .float .f32 0, .float .f32 0, .float .f32 0, .float .f32 0, .float .f32 0] rfl
  generalize w.alloc (.cells #[.float .f32 0, .float .f32 0, .float .f32 0, .float .f32 0, .float .f32 0, .float .f32 0, .float .f32 0, .float .f32 0, .float .f32 0, .float .f32 0, .float .f32 0, .float .f32 0, .float .f32 0, .float .f32 0, .float .f32 0, .float .f32 0, .float .f32 0, .float .f32 0, .float .f32 0, .float .f32 0, .float .f32 0, .float .f32 0, .float .f32 0, .float .f32 0, .float .f32 0, .float .f32 0, .float .f32 0, .float .f32 0, .float .f32 0, .float .f32 0, .float .f32 0, .float .f32 0, .float .f32 0] 34) = W0 at *
  refine wp_seq_k (fun K hK => ?_)
  have HR := Lib.hid hK
  clear hK
  go_wp2_with (go_at_call 21; refine (hcut _).mono ?_; rintro e W1 ⟨g, cap, rfl, hr, hb1⟩; have hS1 := st_below hS0 hb1; clear hb1; have c0 := hr.2.1; have c3 := hr.2.2.2.2)
  refine HR.out _ _ ?_
  clear HR K
  refine wp_seq_k (fun KX hKX => ?_)
  have HX := Lib.hid hKX
  clear hKX
  refine wp_seq_k (fun K hK => ?_)
  have HR := Lib.hid hK
  clear hK
  go_wp2_with fail
  refine HR.out _ _ ?_
  clear HR K
  refine wp_cond_false (by rfl) ?_
  go_wp2_with fail
  refine HX.out _ _ ?_
  clear HX KX
  refine wp_seq_k (fun K hK => ?_)
  have HR := Lib.hid hK
  clear hK
  go_wp2_with (first
    | (go_at_call 19; first
        | (refine (hK _).mono ?_; rintro e W2 ⟨rfl, hb⟩; have hr2 := r4_below hr hb; have hS2 := st_below hS1 hb; clear hb hr hS1 c0 c3 hK)
        | (refine (hS _).mono ?_; rintro e W3 ⟨rfl, hb⟩; have hr4 := r4_below hr3 hb; have hS4 := st_below hS3 hb; have hV2 : W2.heap.size < W3.heap.size ∧ W3.rangeAt W2.heap.size 0 (zL z) := ⟨Nat.lt_of_lt_of_le hV2.2.2 hb.size, range_below hV2.2.2 hV2.1 hb⟩; clear hb hr3 hS3 c1 hS))
    | (refine wpList_store_mid (by rfl) 29 (Operand.tmp 5) (Operand.tmp 29) (by rfl) W2.heap.size 0 (zL z).toArray (by rfl) (by rfl) (there_new W2 29 #[.float .f32 0, .float .f32 0, .float .f32 0, .float .f32 0, .float .f32 0, .float .f32 0, .float .f32 0, .float .f32 0, .float .f32 0, .float .f32 0, .float .f32 0, .float .f32 0, .float .f32 0, .float .f32 0, .float .f32 0, .float .f32 0]) (by kernel_rfl) (all_oneCell_toArray (one_z z)) ?_; have hV2 := laid16 W2 z 29 #[.float .f32 0, .float .f32 0, .float .f32 0, .float .f32 0, .float .f32 0, .float .f32 0, .float .f32 0, .float .f32 0, .float .f32 0, .float .f32 0, .float .f32 0, .float .f32 0, .float .f32 0, .float .f32 0, .float .f32 0, .float .f32 0] rfl; generalize (W2.alloc (.cells #[.float .f32 0, .float .f32 0, .float .f32 0, .float .f32 0, .float .f32 0, .float .f32 0, .float .f32 0, .float .f32 0, .float .f32 0, .float .f32 0, .float .f32 0, .float .f32 0, .float .f32 0, .float .f32 0, .float .f32 0, .float .f32 0] 29)).setCells W2.heap.size 0 (zL z).toArray.toList = V2 at *; have hr3 := r4_below hr2 hV2.2.1; have c1 := hr3.2.2.1; have hS3 := st_below hS2 hV2.2.1; clear hr2 hS2))
  refine HR.out _ _ ?_
  clear HR K
  refine wp_seq_k (fun K hK => ?_)
  have HR := Lib.hid hK
  clear hK
  go_wp2_with (first
    | (go_at_call 19; first
        | (refine (hK _).mono ?_; rintro e W2 ⟨rfl, hb⟩; have hr2 := r4_below hr hb; have hS2 := st_below hS1 hb; clear hb hr hS1 c0 c3 hK)
        | (refine (hS _).mono ?_; rintro e W3 ⟨rfl, hb⟩; have hr4 := r4_below hr3 hb; have hS4 := st_below hS3 hb; have hV2 : W2.heap.size < W3.heap.size ∧ W3.rangeAt W2.heap.size 0 (zL z) := ⟨Nat.lt_of_lt_of_le hV2.2.2 hb.size, range_below hV2.2.2 hV2.1 hb⟩; clear hb hr3 hS3 c1 hS))
    | (refine wpList_store_mid (by rfl) 29 (Operand.tmp 7) (Operand.tmp 36) (by rfl) W3.heap.size 0 (zL y).toArray (by rfl) (by rfl) (there_new W3 29 #[.float .f32 0, .float .f32 0, .float .f32 0, .float .f32 0, .float .f32 0, .float .f32 0, .float .f32 0, .float .f32 0, .float .f32 0, .float .f32 0, .float .f32 0, .float .f32 0, .float .f32 0, .float .f32 0, .float .f32 0, .float .f32 0]) (by kernel_rfl) (all_oneCell_toArray (one_z y)) ?_; have hV3 := laid16 W3 y 29 #[.float .f32 0, .float .f32 0, .float .f32 0, .float .f32 0, .float .f32 0, .float .f32 0, .float .f32 0, .float .f32 0, .float .f32 0, .float .f32 0, .float .f32 0, .float .f32 0, .float .f32 0, .float .f32 0, .float .f32 0, .float .f32 0] rfl; generalize (W3.alloc (.cells #[.float .f32 0, .float .f32 0, .float .f32 0, .float .f32 0, .float .f32 0, .float .f32 0, .float .f32 0, .float .f32 0, .float .f32 0, .float .f32 0, .float .f32 0, .float .f32 0, .float .f32 0, .float .f32 0, .float .f32 0, .float .f32 0] 29)).setCells W3.heap.size 0 (zL y).toArray.toList = V3 at *; have hr5 := r4_below hr4 hV3.2.1; have c2 := hr5.2.2.2.1; have hS5 := st_below hS4 hV3.2.1; have hV2 : W2.heap.size < V3.heap.size ∧ V3.rangeAt W2.heap.size 0 (zL z) := ⟨Nat.lt_of_lt_of_le hV2.1 hV3.2.1.size, range_below hV2.1 hV2.2 hV3.2.1⟩; have hV3 : V3.rangeAt W3.heap.size 0 (zL y) ∧ W3.heap.size < V3.heap.size := ⟨hV3.1, hV3.2.2⟩; clear hr4 hS4))
  refine HR.out _ _ ?_
  clear HR K
  refine wp_seq_k (fun K hK => ?_)
  have HR := Lib.hid hK
  clear hK
  go_wp2_with (go_at_call 15; refine (hA _).mono ?_; rintro e W4 ⟨a, rfl, hb⟩; have hS6 := st_below hS5 hb; have q2 : W4.rangeAt W2.heap.size 0 (zL z) := range_below hV2.1 hV2.2 hb; have q3 : W4.rangeAt W3.heap.size 0 (zL y) := range_below hV3.2 hV3.1 hb; clear hb hS5 hA c2 hV2 hV3 hr5)
  refine HR.out _ _ ?_
  clear HR K
  refine wp_seq_k (fun K hK => ?_)
  have HR := Lib.hid hK
  clear hK
  refine wp_region_lit ?_
  refine wpList_load_mid (by rfl) 29 (Operand.tmp 5) (by rfl) (W2.heap.size) 0 (by rfl) (zL z) _ (q2) Tryd.underlying29 rfl (by kernel_rfl) ?_
  refine wpList_load_mid (by rfl) 29 (Operand.tmp 7) (by rfl) (W3.heap.size) 0 (by rfl) (zL y) _ (q3) Tryd.underlying29 rfl (by kernel_rfl) ?_
  refine wpList_plain (by rfl) fun K1 hK1 => ?_
  have HK := Lib.hid hK1
  clear hK1
  go_wp2_with fail
  refine HK.out _ _ ?_
  clear HK K1
  refine wpList_bld (by rfl) 34 #[(0, Operand.tmp 45), (1, Operand.tmp 46), (2, Operand.tmp 47)] (by rfl) (V33 z y a).toArray (by kernel_rfl) ?_
  refine wpList_plain (by rfl) fun K1 hK1 => ?_
  have HK := Lib.hid hK1
  clear hK1
  go_wp2_with fail
  refine HK.out _ _ ?_
  clear HK K1
  refine wpList_store_mid (by rfl) 34 (Operand.tmp 11) (Operand.tmp 48) (by rfl) W4.heap.size 0 (V33 z y a).toArray (by rfl) (by rfl) (there_new W4 34 #[.float .f32 0, .float .f32 0, .float .f32 0, .float .f32 0, .float .f32 0, .float .f32 0, .float .f32 0, .float .f32 0, .float .f32 0, .float .f32 0, .float .f32 0, .float .f32 0, .float .f32 0, .float .f32 0, .float .f32 0, .float .f32 0, .float .f32 0, .float .f32 0, .float .f32 0, .float .f32 0, .float .f32 0, .float .f32 0, .float .f32 0, .float .f32 0, .float .f32 0, .float .f32 0, .float .f32 0, .float .f32 0, .float .f32 0, .float .f32 0, .float .f32 0, .float .f32 0, .float .f32 0]) (by kernel_rfl) (all_oneCell_toArray (one_v z y a)) ?_
  have hV4 := laid33 W4 z y a 34 #[.float .f32 0, .float .f32 0, .float .f32 0, .float .f32 0, .float .f32 0, .float .f32 0, .float .f32 0, .float .f32 0, .float .f32 0, .float .f32 0, .float .f32 0, .float .f32 0, .float .f32 0, .float .f32 0, .float .f32 0, .float .f32 0, .float .f32 0, .float .f32 0, .float .f32 0, .float .f32 0, .float .f32 0, .float .f32 0, .float .f32 0, .float .f32 0, .float .f32 0, .float .f32 0, .float .f32 0, .float .f32 0, .float .f32 0, .float .f32 0, .float .f32 0, .float .f32 0, .float .f32 0] rfl
  generalize (W4.alloc (.cells #[.float .f32 0, .float .f32 0, .float .f32 0, .float .f32 0, .float .f32 0, .float .f32 0, .float .f32 0, .float .f32 0, .float .f32 0, .float .f32 0, .float .f32 0, .float .f32 0, .float .f32 0, .float .f32 0, .float .f32 0, .float .f32 0, .float .f32 0, .float .f32 0, .float .f32 0, .float .f32 0, .float .f32 0, .float .f32 0, .float .f32 0, .float .f32 0, .float .f32 0, .float .f32 0, .float .f32 0, .float .f32 0, .float .f32 0, .float .f32 0, .float .f32 0, .float .f32 0, .float .f32 0] 34)).setCells W4.heap.size 0 (V33 z y a).toArray.toList = V4 at *
  have hS7 := st_below hS6 hV4.2.1
  clear q2 q3 hS6
  go_wp2_with fail
  refine HR.out _ _ ?_
  clear HR K
  refine wp_seq_k (fun KX hKX => ?_)
  have HX := Lib.hid hKX
  clear hKX
  refine wp_seq_k (fun K hK => ?_)
  have HR := Lib.hid hK
  clear hK
  go_wp2_with fail
  refine HR.out _ _ ?_
  clear HR K
  refine wp_cond_true (by rfl) ?_
  refine wp_seq_k (fun K hK => ?_)
  have HR := Lib.hid hK
  clear hK
  refine wp_region_lit ?_
  refine wpList_plain (by rfl) fun K1 hK1 => ?_
  have HK := Lib.hid hK1
  clear hK1
  go_wp2_with fail
  refine HK.out _ _ ?_
  clear HK K1
  refine wpList_store_mid (by rfl) 34 (Operand.tmp 2) (Operand.tmp 63) (by rfl) w.heap.size 0 (V33 zero zero 0).toArray (by rfl) (by rfl) (hS7.1) (by kernel_rfl) (all_oneCell_toArray (one_v zero zero 0)) ?_
  go_wp2_with fail
  refine HR.out _ _ ?_
  clear HR K
  go_wp2_with fail
  have R := World.rangeAt_setCells_same V4 w.heap.size 0 (V33 zero zero 0) hS7.1
  have B := below_setCells (b := w.heap.size) (Nat.le_refl _) (V33 zero zero 0) 0 V4 hS7.2.2
  have L := run_loadVar_mid (P := Tryd.prog) _ w.heap.size 0 34 (V33 zero zero 0) _ R Tryd.underlying34 rfl (by kernel_rfl)
  exact bodyPost_ret (v := .tuple #[.agg (V33 zero zero 0).toArray, .int .i64 5]) (by simp [results, Tryd.results12, L, asAddr]) rfl ⟨rfl, B⟩
set_option maxHeartbeats 1000000 in
set_option maxRecDepth 100000 in
theorem rl_no2 (s : ByteArray) (hs : s.size ≤ 1048576) (w : World) (h4 : (pl s).length = 4) (h3 : (pl s).getD 3 [] = []) (f1 : okC (P s 0) = true) (f2 : okC (P s 1) = false) : Calls Tryd.prog 12 #[.string s] w fun e w' => e = .returned (.tuple #[.agg (V33 zero zero 0).toArray, .int .i64 5]) ∧ Below w.heap.size w w' := by
  have hcut : ∀ W, Calls Tryd.prog 21 #[.string s, .int .u8 10] W fun e w' => ∃ g cap, e = .returned (.slice (some ⟨g, 0, none⟩) 4 cap) ∧ R4 (P s 0) (P s 1) (P s 2) (P s 3) g w' ∧ Below W.heap.size W w' := fun W => (cut10_calls s hs W).mono fun e w' ⟨g, cap, h1, h2, h5⟩ => ⟨g, cap, by rw [h1, h4], r4_of h4 h2, h5⟩
  have hp3 : P s 3 = ⟨#[]⟩ := by unfold P; rw [h3]; rfl
  have hq : (P s 3).toList.isEmpty = true := by rw [hp3, ← decide_eq_emptyBytes]; exact decide_eq_true rfl
  clear hp3
  have hK := fun W => rc_calls (P s 0) (Nat.le_trans (P_le s 0) hs) W
  have hS := fun W => rc_calls (P s 1) (Nat.le_trans (P_le s 1) hs) W
  have hA := fun W => rd_calls (P s 2) W
  unfold RcQ cvV at hK hS
  unfold RdQ at hA
  rw [f1] at hK
  rw [f2] at hS
  replace hA : ∀ W, Calls Tryd.prog 15 #[.string (P s 2)] W fun e w' => ∃ a : Nat, e = .returned (.tuple #[.float .f32 a, .bool (okN (P s 2).data.toList)]) ∧ Below W.heap.size W w' := fun W => (hA W).mono fun e w' ⟨a, h1, h2, h3⟩ => ⟨a, h1, h3⟩
  generalize okN (P s 2).data.toList = o3 at hA
  clear h3 h4
  generalize zC (P s 0) = z at hK
  generalize zC (P s 1) = y at hS
  generalize P s 3 = d at hcut hq
  go_enter Tryd.func12, Tryd.ntmps12
  refine wp_seq_k (fun K hK => ?_)
  have HR := Lib.hid hK
  clear hK
  go_wp2_with fail
  refine HR.out _ _ ?_
  clear HR K
  have hS0 := st_new w 34 #[.float .f32 0, .float .f32 0, .float .f32 0, .float .f32 0, .float .f32 0, .float .f32 0, .float .f32 0, .float .f32 0, .float .f32 0, .float .f32 0, .float .f32 0, .float .f32 0, .float .f32 0, .float .f32 0, .float .f32 0, .float .f32 0, .float .f32 0, .float .f32 0, .float .f32 0, .float .f32 0, .float .f32 0, .float .f32 0, .float .f32 0, .float .f32 0, .float .f32 0, .float .f32 0, .float .f32 0, .float .f32 0, .float .f32 0, .float .f32 0, .float .f32 0, .float .f32 0, .float .f32 0] rfl
  generalize w.alloc (.cells #[.float .f32 0, .float .f32 0, .float .f32 0, .float .f32 0, .float .f32 0, .float .f32 0, .float .f32 0, .float .f32 0, .float .f32 0, .float .f32 0, .float .f32 0, .float .f32 0, .float .f32 0, .float .f32 0, .float .f32 0, .float .f32 0, .float .f32 0, .float .f32 0, .float .f32 0, .float .f32 0, .float .f32 0, .float .f32 0, .float .f32 0, .float .f32 0, .float .f32 0, .float .f32 0, .float .f32 0, .float .f32 0, .float .f32 0, .float .f32 0, .float .f32 0, .float .f32 0, .float .f32 0] 34) = W0 at *
  refine wp_seq_k (fun K hK => ?_)
  have HR := Lib.hid hK
  clear hK
  go_wp2_with (go_at_call 21; refine (hcut _).mono ?_; rintro e W1 ⟨g, cap, rfl, hr, hb1⟩; have hS1 := st_below hS0 hb1; clear hb1; have c0 := hr.2.1; have c3 := hr.2.2.2.2)
  refine HR.out _ _ ?_
  clear HR K
  refine wp_seq_k (fun KX hKX => ?_)
  have HX := Lib.hid hKX
  clear hKX
  refine wp_seq_k (fun K hK => ?_)
  have HR := Lib.hid hK
  clear hK
  go_wp2_with fail
  refine HR.out _ _ ?_
  clear HR K
  refine wp_cond_false (by rfl) ?_
  go_wp2_with fail
  refine HX.out _ _ ?_
  clear HX KX
  refine wp_seq_k (fun K hK => ?_)
  have HR := Lib.hid hK
  clear hK
  go_wp2_with (first
    | (go_at_call 19; first
        | (refine (hK _).mono ?_; rintro e W2 ⟨rfl, hb⟩; have hr2 := r4_below hr hb; have hS2 := st_below hS1 hb; clear hb hr hS1 c0 c3 hK)
        | (refine (hS _).mono ?_; rintro e W3 ⟨rfl, hb⟩; have hr4 := r4_below hr3 hb; have hS4 := st_below hS3 hb; have hV2 : W2.heap.size < W3.heap.size ∧ W3.rangeAt W2.heap.size 0 (zL z) := ⟨Nat.lt_of_lt_of_le hV2.2.2 hb.size, range_below hV2.2.2 hV2.1 hb⟩; clear hb hr3 hS3 c1 hS))
    | (refine wpList_store_mid (by rfl) 29 (Operand.tmp 5) (Operand.tmp 29) (by rfl) W2.heap.size 0 (zL z).toArray (by rfl) (by rfl) (there_new W2 29 #[.float .f32 0, .float .f32 0, .float .f32 0, .float .f32 0, .float .f32 0, .float .f32 0, .float .f32 0, .float .f32 0, .float .f32 0, .float .f32 0, .float .f32 0, .float .f32 0, .float .f32 0, .float .f32 0, .float .f32 0, .float .f32 0]) (by kernel_rfl) (all_oneCell_toArray (one_z z)) ?_; have hV2 := laid16 W2 z 29 #[.float .f32 0, .float .f32 0, .float .f32 0, .float .f32 0, .float .f32 0, .float .f32 0, .float .f32 0, .float .f32 0, .float .f32 0, .float .f32 0, .float .f32 0, .float .f32 0, .float .f32 0, .float .f32 0, .float .f32 0, .float .f32 0] rfl; generalize (W2.alloc (.cells #[.float .f32 0, .float .f32 0, .float .f32 0, .float .f32 0, .float .f32 0, .float .f32 0, .float .f32 0, .float .f32 0, .float .f32 0, .float .f32 0, .float .f32 0, .float .f32 0, .float .f32 0, .float .f32 0, .float .f32 0, .float .f32 0] 29)).setCells W2.heap.size 0 (zL z).toArray.toList = V2 at *; have hr3 := r4_below hr2 hV2.2.1; have c1 := hr3.2.2.1; have hS3 := st_below hS2 hV2.2.1; clear hr2 hS2))
  refine HR.out _ _ ?_
  clear HR K
  refine wp_seq_k (fun K hK => ?_)
  have HR := Lib.hid hK
  clear hK
  go_wp2_with (first
    | (go_at_call 19; first
        | (refine (hK _).mono ?_; rintro e W2 ⟨rfl, hb⟩; have hr2 := r4_below hr hb; have hS2 := st_below hS1 hb; clear hb hr hS1 c0 c3 hK)
        | (refine (hS _).mono ?_; rintro e W3 ⟨rfl, hb⟩; have hr4 := r4_below hr3 hb; have hS4 := st_below hS3 hb; have hV2 : W2.heap.size < W3.heap.size ∧ W3.rangeAt W2.heap.size 0 (zL z) := ⟨Nat.lt_of_lt_of_le hV2.2.2 hb.size, range_below hV2.2.2 hV2.1 hb⟩; clear hb hr3 hS3 c1 hS))
    | (refine wpList_store_mid (by rfl) 29 (Operand.tmp 7) (Operand.tmp 36) (by rfl) W3.heap.size 0 (zL y).toArray (by rfl) (by rfl) (there_new W3 29 #[.float .f32 0, .float .f32 0, .float .f32 0, .float .f32 0, .float .f32 0, .float .f32 0, .float .f32 0, .float .f32 0, .float .f32 0, .float .f32 0, .float .f32 0, .float .f32 0, .float .f32 0, .float .f32 0, .float .f32 0, .float .f32 0]) (by kernel_rfl) (all_oneCell_toArray (one_z y)) ?_; have hV3 := laid16 W3 y 29 #[.float .f32 0, .float .f32 0, .float .f32 0, .float .f32 0, .float .f32 0, .float .f32 0, .float .f32 0, .float .f32 0, .float .f32 0, .float .f32 0, .float .f32 0, .float .f32 0, .float .f32 0, .float .f32 0, .float .f32 0, .float .f32 0] rfl; generalize (W3.alloc (.cells #[.float .f32 0, .float .f32 0, .float .f32 0, .float .f32 0, .float .f32 0, .float .f32 0, .float .f32 0, .float .f32 0, .float .f32 0, .float .f32 0, .float .f32 0, .float .f32 0, .float .f32 0, .float .f32 0, .float .f32 0, .float .f32 0] 29)).setCells W3.heap.size 0 (zL y).toArray.toList = V3 at *; have hr5 := r4_below hr4 hV3.2.1; have c2 := hr5.2.2.2.1; have hS5 := st_below hS4 hV3.2.1; have hV2 : W2.heap.size < V3.heap.size ∧ V3.rangeAt W2.heap.size 0 (zL z) := ⟨Nat.lt_of_lt_of_le hV2.1 hV3.2.1.size, range_below hV2.1 hV2.2 hV3.2.1⟩; have hV3 : V3.rangeAt W3.heap.size 0 (zL y) ∧ W3.heap.size < V3.heap.size := ⟨hV3.1, hV3.2.2⟩; clear hr4 hS4))
  refine HR.out _ _ ?_
  clear HR K
  refine wp_seq_k (fun K hK => ?_)
  have HR := Lib.hid hK
  clear hK
  go_wp2_with (go_at_call 15; refine (hA _).mono ?_; rintro e W4 ⟨a, rfl, hb⟩; have hS6 := st_below hS5 hb; have q2 : W4.rangeAt W2.heap.size 0 (zL z) := range_below hV2.1 hV2.2 hb; have q3 : W4.rangeAt W3.heap.size 0 (zL y) := range_below hV3.2 hV3.1 hb; clear hb hS5 hA c2 hV2 hV3 hr5)
  refine HR.out _ _ ?_
  clear HR K
  refine wp_seq_k (fun K hK => ?_)
  have HR := Lib.hid hK
  clear hK
  refine wp_region_lit ?_
  refine wpList_load_mid (by rfl) 29 (Operand.tmp 5) (by rfl) (W2.heap.size) 0 (by rfl) (zL z) _ (q2) Tryd.underlying29 rfl (by kernel_rfl) ?_
  refine wpList_load_mid (by rfl) 29 (Operand.tmp 7) (by rfl) (W3.heap.size) 0 (by rfl) (zL y) _ (q3) Tryd.underlying29 rfl (by kernel_rfl) ?_
  refine wpList_plain (by rfl) fun K1 hK1 => ?_
  have HK := Lib.hid hK1
  clear hK1
  go_wp2_with fail
  refine HK.out _ _ ?_
  clear HK K1
  refine wpList_bld (by rfl) 34 #[(0, Operand.tmp 45), (1, Operand.tmp 46), (2, Operand.tmp 47)] (by rfl) (V33 z y a).toArray (by kernel_rfl) ?_
  refine wpList_plain (by rfl) fun K1 hK1 => ?_
  have HK := Lib.hid hK1
  clear hK1
  go_wp2_with fail
  refine HK.out _ _ ?_
  clear HK K1
  refine wpList_store_mid (by rfl) 34 (Operand.tmp 11) (Operand.tmp 48) (by rfl) W4.heap.size 0 (V33 z y a).toArray (by rfl) (by rfl) (there_new W4 34 #[.float .f32 0, .float .f32 0, .float .f32 0, .float .f32 0, .float .f32 0, .float .f32 0, .float .f32 0, .float .f32 0, .float .f32 0, .float .f32 0, .float .f32 0, .float .f32 0, .float .f32 0, .float .f32 0, .float .f32 0, .float .f32 0, .float .f32 0, .float .f32 0, .float .f32 0, .float .f32 0, .float .f32 0, .float .f32 0, .float .f32 0, .float .f32 0, .float .f32 0, .float .f32 0, .float .f32 0, .float .f32 0, .float .f32 0, .float .f32 0, .float .f32 0, .float .f32 0, .float .f32 0]) (by kernel_rfl) (all_oneCell_toArray (one_v z y a)) ?_
  have hV4 := laid33 W4 z y a 34 #[.float .f32 0, .float .f32 0, .float .f32 0, .float .f32 0, .float .f32 0, .float .f32 0, .float .f32 0, .float .f32 0, .float .f32 0, .float .f32 0, .float .f32 0, .float .f32 0, .float .f32 0, .float .f32 0, .float .f32 0, .float .f32 0, .float .f32 0, .float .f32 0, .float .f32 0, .float .f32 0, .float .f32 0, .float .f32 0, .float .f32 0, .float .f32 0, .float .f32 0, .float .f32 0, .float .f32 0, .float .f32 0, .float .f32 0, .float .f32 0, .float .f32 0, .float .f32 0, .float .f32 0] rfl
  generalize (W4.alloc (.cells #[.float .f32 0, .float .f32 0, .float .f32 0, .float .f32 0, .float .f32 0, .float .f32 0, .float .f32 0, .float .f32 0, .float .f32 0, .float .f32 0, .float .f32 0, .float .f32 0, .float .f32 0, .float .f32 0, .float .f32 0, .float .f32 0, .float .f32 0, .float .f32 0, .float .f32 0, .float .f32 0, .float .f32 0, .float .f32 0, .float .f32 0, .float .f32 0, .float .f32 0, .float .f32 0, .float .f32 0, .float .f32 0, .float .f32 0, .float .f32 0, .float .f32 0, .float .f32 0, .float .f32 0] 34)).setCells W4.heap.size 0 (V33 z y a).toArray.toList = V4 at *
  have hS7 := st_below hS6 hV4.2.1
  clear q2 q3 hS6
  go_wp2_with fail
  refine HR.out _ _ ?_
  clear HR K
  refine wp_seq_k (fun KX hKX => ?_)
  have HX := Lib.hid hKX
  clear hKX
  refine wp_seq_k (fun K hK => ?_)
  have HR := Lib.hid hK
  clear hK
  go_wp2_with fail
  refine HR.out _ _ ?_
  clear HR K
  refine wp_cond_true (by rfl) ?_
  refine wp_seq_k (fun K hK => ?_)
  have HR := Lib.hid hK
  clear hK
  refine wp_region_lit ?_
  refine wpList_plain (by rfl) fun K1 hK1 => ?_
  have HK := Lib.hid hK1
  clear hK1
  go_wp2_with fail
  refine HK.out _ _ ?_
  clear HK K1
  refine wpList_store_mid (by rfl) 34 (Operand.tmp 2) (Operand.tmp 63) (by rfl) w.heap.size 0 (V33 zero zero 0).toArray (by rfl) (by rfl) (hS7.1) (by kernel_rfl) (all_oneCell_toArray (one_v zero zero 0)) ?_
  go_wp2_with fail
  refine HR.out _ _ ?_
  clear HR K
  go_wp2_with fail
  have R := World.rangeAt_setCells_same V4 w.heap.size 0 (V33 zero zero 0) hS7.1
  have B := below_setCells (b := w.heap.size) (Nat.le_refl _) (V33 zero zero 0) 0 V4 hS7.2.2
  have L := run_loadVar_mid (P := Tryd.prog) _ w.heap.size 0 34 (V33 zero zero 0) _ R Tryd.underlying34 rfl (by kernel_rfl)
  exact bodyPost_ret (v := .tuple #[.agg (V33 zero zero 0).toArray, .int .i64 5]) (by simp [results, Tryd.results12, L, asAddr]) rfl ⟨rfl, B⟩
set_option maxHeartbeats 1000000 in
set_option maxRecDepth 100000 in
theorem rl_no3 (s : ByteArray) (hs : s.size ≤ 1048576) (w : World) (h4 : (pl s).length = 4) (h3 : (pl s).getD 3 [] = []) (f1 : okC (P s 0) = true) (f2 : okC (P s 1) = true) (f3 : okN (P s 2).data.toList = false) : Calls Tryd.prog 12 #[.string s] w fun e w' => e = .returned (.tuple #[.agg (V33 zero zero 0).toArray, .int .i64 5]) ∧ Below w.heap.size w w' := by
  have hcut : ∀ W, Calls Tryd.prog 21 #[.string s, .int .u8 10] W fun e w' => ∃ g cap, e = .returned (.slice (some ⟨g, 0, none⟩) 4 cap) ∧ R4 (P s 0) (P s 1) (P s 2) (P s 3) g w' ∧ Below W.heap.size W w' := fun W => (cut10_calls s hs W).mono fun e w' ⟨g, cap, h1, h2, h5⟩ => ⟨g, cap, by rw [h1, h4], r4_of h4 h2, h5⟩
  have hp3 : P s 3 = ⟨#[]⟩ := by unfold P; rw [h3]; rfl
  have hq : (P s 3).toList.isEmpty = true := by rw [hp3, ← decide_eq_emptyBytes]; exact decide_eq_true rfl
  clear hp3
  have hK := fun W => rc_calls (P s 0) (Nat.le_trans (P_le s 0) hs) W
  have hS := fun W => rc_calls (P s 1) (Nat.le_trans (P_le s 1) hs) W
  have hA := fun W => rd_calls (P s 2) W
  unfold RcQ cvV at hK hS
  unfold RdQ at hA
  rw [f1] at hK
  rw [f2] at hS
  rw [f3] at hA
  replace hA : ∀ W, Calls Tryd.prog 15 #[.string (P s 2)] W fun e w' => ∃ a : Nat, e = .returned (.tuple #[.float .f32 a, .bool false]) ∧ Below W.heap.size W w' := fun W => (hA W).mono fun e w' ⟨a, h1, h2, h3⟩ => ⟨a, h1, h3⟩
  clear h3 h4
  generalize zC (P s 0) = z at hK
  generalize zC (P s 1) = y at hS
  generalize P s 3 = d at hcut hq
  go_enter Tryd.func12, Tryd.ntmps12
  refine wp_seq_k (fun K hK => ?_)
  have HR := Lib.hid hK
  clear hK
  go_wp2_with fail
  refine HR.out _ _ ?_
  clear HR K
  have hS0 := st_new w 34 #[.float .f32 0, .float .f32 0, .float .f32 0, .float .f32 0, .float .f32 0, .float .f32 0, .float .f32 0, .float .f32 0, .float .f32 0, .float .f32 0, .float .f32 0, .float .f32 0, .float .f32 0, .float .f32 0, .float .f32 0, .float .f32 0, .float .f32 0, .float .f32 0, .float .f32 0, .float .f32 0, .float .f32 0, .float .f32 0, .float .f32 0, .float .f32 0, .float .f32 0, .float .f32 0, .float .f32 0, .float .f32 0, .float .f32 0, .float .f32 0, .float .f32 0, .float .f32 0, .float .f32 0] rfl
  generalize w.alloc (.cells #[.float .f32 0, .float .f32 0, .float .f32 0, .float .f32 0, .float .f32 0, .float .f32 0, .float .f32 0, .float .f32 0, .float .f32 0, .float .f32 0, .float .f32 0, .float .f32 0, .float .f32 0, .float .f32 0, .float .f32 0, .float .f32 0, .float .f32 0, .float .f32 0, .float .f32 0, .float .f32 0, .float .f32 0, .float .f32 0, .float .f32 0, .float .f32 0, .float .f32 0, .float .f32 0, .float .f32 0, .float .f32 0, .float .f32 0, .float .f32 0, .float .f32 0, .float .f32 0, .float .f32 0] 34) = W0 at *
  refine wp_seq_k (fun K hK => ?_)
  have HR := Lib.hid hK
  clear hK
  go_wp2_with (go_at_call 21; refine (hcut _).mono ?_; rintro e W1 ⟨g, cap, rfl, hr, hb1⟩; have hS1 := st_below hS0 hb1; clear hb1; have c0 := hr.2.1; have c3 := hr.2.2.2.2)
  refine HR.out _ _ ?_
  clear HR K
  refine wp_seq_k (fun KX hKX => ?_)
  have HX := Lib.hid hKX
  clear hKX
  refine wp_seq_k (fun K hK => ?_)
  have HR := Lib.hid hK
  clear hK
  go_wp2_with fail
  refine HR.out _ _ ?_
  clear HR K
  refine wp_cond_false (by rfl) ?_
  go_wp2_with fail
  refine HX.out _ _ ?_
  clear HX KX
  refine wp_seq_k (fun K hK => ?_)
  have HR := Lib.hid hK
  clear hK
  go_wp2_with (first
    | (go_at_call 19; first
        | (refine (hK _).mono ?_; rintro e W2 ⟨rfl, hb⟩; have hr2 := r4_below hr hb; have hS2 := st_below hS1 hb; clear hb hr hS1 c0 c3 hK)
        | (refine (hS _).mono ?_; rintro e W3 ⟨rfl, hb⟩; have hr4 := r4_below hr3 hb; have hS4 := st_below hS3 hb; have hV2 : W2.heap.size < W3.heap.size ∧ W3.rangeAt W2.heap.size 0 (zL z) := ⟨Nat.lt_of_lt_of_le hV2.2.2 hb.size, range_below hV2.2.2 hV2.1 hb⟩; clear hb hr3 hS3 c1 hS))
    | (refine wpList_store_mid (by rfl) 29 (Operand.tmp 5) (Operand.tmp 29) (by rfl) W2.heap.size 0 (zL z).toArray (by rfl) (by rfl) (there_new W2 29 #[.float .f32 0, .float .f32 0, .float .f32 0, .float .f32 0, .float .f32 0, .float .f32 0, .float .f32 0, .float .f32 0, .float .f32 0, .float .f32 0, .float .f32 0, .float .f32 0, .float .f32 0, .float .f32 0, .float .f32 0, .float .f32 0]) (by kernel_rfl) (all_oneCell_toArray (one_z z)) ?_; have hV2 := laid16 W2 z 29 #[.float .f32 0, .float .f32 0, .float .f32 0, .float .f32 0, .float .f32 0, .float .f32 0, .float .f32 0, .float .f32 0, .float .f32 0, .float .f32 0, .float .f32 0, .float .f32 0, .float .f32 0, .float .f32 0, .float .f32 0, .float .f32 0] rfl; generalize (W2.alloc (.cells #[.float .f32 0, .float .f32 0, .float .f32 0, .float .f32 0, .float .f32 0, .float .f32 0, .float .f32 0, .float .f32 0, .float .f32 0, .float .f32 0, .float .f32 0, .float .f32 0, .float .f32 0, .float .f32 0, .float .f32 0, .float .f32 0] 29)).setCells W2.heap.size 0 (zL z).toArray.toList = V2 at *; have hr3 := r4_below hr2 hV2.2.1; have c1 := hr3.2.2.1; have hS3 := st_below hS2 hV2.2.1; clear hr2 hS2))
  refine HR.out _ _ ?_
  clear HR K
  refine wp_seq_k (fun K hK => ?_)
  have HR := Lib.hid hK
  clear hK
  go_wp2_with (first
    | (go_at_call 19; first
        | (refine (hK _).mono ?_; rintro e W2 ⟨rfl, hb⟩; have hr2 := r4_below hr hb; have hS2 := st_below hS1 hb; clear hb hr hS1 c0 c3 hK)
        | (refine (hS _).mono ?_; rintro e W3 ⟨rfl, hb⟩; have hr4 := r4_below hr3 hb; have hS4 := st_below hS3 hb; have hV2 : W2.heap.size < W3.heap.size ∧ W3.rangeAt W2.heap.size 0 (zL z) := ⟨Nat.lt_of_lt_of_le hV2.2.2 hb.size, range_below hV2.2.2 hV2.1 hb⟩; clear hb hr3 hS3 c1 hS))
    | (refine wpList_store_mid (by rfl) 29 (Operand.tmp 7) (Operand.tmp 36) (by rfl) W3.heap.size 0 (zL y).toArray (by rfl) (by rfl) (there_new W3 29 #[.float .f32 0, .float .f32 0, .float .f32 0, .float .f32 0, .float .f32 0, .float .f32 0, .float .f32 0, .float .f32 0, .float .f32 0, .float .f32 0, .float .f32 0, .float .f32 0, .float .f32 0, .float .f32 0, .float .f32 0, .float .f32 0]) (by kernel_rfl) (all_oneCell_toArray (one_z y)) ?_; have hV3 := laid16 W3 y 29 #[.float .f32 0, .float .f32 0, .float .f32 0, .float .f32 0, .float .f32 0, .float .f32 0, .float .f32 0, .float .f32 0, .float .f32 0, .float .f32 0, .float .f32 0, .float .f32 0, .float .f32 0, .float .f32 0, .float .f32 0, .float .f32 0] rfl; generalize (W3.alloc (.cells #[.float .f32 0, .float .f32 0, .float .f32 0, .float .f32 0, .float .f32 0, .float .f32 0, .float .f32 0, .float .f32 0, .float .f32 0, .float .f32 0, .float .f32 0, .float .f32 0, .float .f32 0, .float .f32 0, .float .f32 0, .float .f32 0] 29)).setCells W3.heap.size 0 (zL y).toArray.toList = V3 at *; have hr5 := r4_below hr4 hV3.2.1; have c2 := hr5.2.2.2.1; have hS5 := st_below hS4 hV3.2.1; have hV2 : W2.heap.size < V3.heap.size ∧ V3.rangeAt W2.heap.size 0 (zL z) := ⟨Nat.lt_of_lt_of_le hV2.1 hV3.2.1.size, range_below hV2.1 hV2.2 hV3.2.1⟩; have hV3 : V3.rangeAt W3.heap.size 0 (zL y) ∧ W3.heap.size < V3.heap.size := ⟨hV3.1, hV3.2.2⟩; clear hr4 hS4))
  refine HR.out _ _ ?_
  clear HR K
  refine wp_seq_k (fun K hK => ?_)
  have HR := Lib.hid hK
  clear hK
  go_wp2_with (go_at_call 15; refine (hA _).mono ?_; rintro e W4 ⟨a, rfl, hb⟩; have hS6 := st_below hS5 hb; have q2 : W4.rangeAt W2.heap.size 0 (zL z) := range_below hV2.1 hV2.2 hb; have q3 : W4.rangeAt W3.heap.size 0 (zL y) := range_below hV3.2 hV3.1 hb; clear hb hS5 hA c2 hV2 hV3 hr5)
  refine HR.out _ _ ?_
  clear HR K
  refine wp_seq_k (fun K hK => ?_)
  have HR := Lib.hid hK
  clear hK
  refine wp_region_lit ?_
  refine wpList_load_mid (by rfl) 29 (Operand.tmp 5) (by rfl) (W2.heap.size) 0 (by rfl) (zL z) _ (q2) Tryd.underlying29 rfl (by kernel_rfl) ?_
  refine wpList_load_mid (by rfl) 29 (Operand.tmp 7) (by rfl) (W3.heap.size) 0 (by rfl) (zL y) _ (q3) Tryd.underlying29 rfl (by kernel_rfl) ?_
  refine wpList_plain (by rfl) fun K1 hK1 => ?_
  have HK := Lib.hid hK1
  clear hK1
  go_wp2_with fail
  refine HK.out _ _ ?_
  clear HK K1
  refine wpList_bld (by rfl) 34 #[(0, Operand.tmp 45), (1, Operand.tmp 46), (2, Operand.tmp 47)] (by rfl) (V33 z y a).toArray (by kernel_rfl) ?_
  refine wpList_plain (by rfl) fun K1 hK1 => ?_
  have HK := Lib.hid hK1
  clear hK1
  go_wp2_with fail
  refine HK.out _ _ ?_
  clear HK K1
  refine wpList_store_mid (by rfl) 34 (Operand.tmp 11) (Operand.tmp 48) (by rfl) W4.heap.size 0 (V33 z y a).toArray (by rfl) (by rfl) (there_new W4 34 #[.float .f32 0, .float .f32 0, .float .f32 0, .float .f32 0, .float .f32 0, .float .f32 0, .float .f32 0, .float .f32 0, .float .f32 0, .float .f32 0, .float .f32 0, .float .f32 0, .float .f32 0, .float .f32 0, .float .f32 0, .float .f32 0, .float .f32 0, .float .f32 0, .float .f32 0, .float .f32 0, .float .f32 0, .float .f32 0, .float .f32 0, .float .f32 0, .float .f32 0, .float .f32 0, .float .f32 0, .float .f32 0, .float .f32 0, .float .f32 0, .float .f32 0, .float .f32 0, .float .f32 0]) (by kernel_rfl) (all_oneCell_toArray (one_v z y a)) ?_
  have hV4 := laid33 W4 z y a 34 #[.float .f32 0, .float .f32 0, .float .f32 0, .float .f32 0, .float .f32 0, .float .f32 0, .float .f32 0, .float .f32 0, .float .f32 0, .float .f32 0, .float .f32 0, .float .f32 0, .float .f32 0, .float .f32 0, .float .f32 0, .float .f32 0, .float .f32 0, .float .f32 0, .float .f32 0, .float .f32 0, .float .f32 0, .float .f32 0, .float .f32 0, .float .f32 0, .float .f32 0, .float .f32 0, .float .f32 0, .float .f32 0, .float .f32 0, .float .f32 0, .float .f32 0, .float .f32 0, .float .f32 0] rfl
  generalize (W4.alloc (.cells #[.float .f32 0, .float .f32 0, .float .f32 0, .float .f32 0, .float .f32 0, .float .f32 0, .float .f32 0, .float .f32 0, .float .f32 0, .float .f32 0, .float .f32 0, .float .f32 0, .float .f32 0, .float .f32 0, .float .f32 0, .float .f32 0, .float .f32 0, .float .f32 0, .float .f32 0, .float .f32 0, .float .f32 0, .float .f32 0, .float .f32 0, .float .f32 0, .float .f32 0, .float .f32 0, .float .f32 0, .float .f32 0, .float .f32 0, .float .f32 0, .float .f32 0, .float .f32 0, .float .f32 0] 34)).setCells W4.heap.size 0 (V33 z y a).toArray.toList = V4 at *
  have hS7 := st_below hS6 hV4.2.1
  clear q2 q3 hS6
  go_wp2_with fail
  refine HR.out _ _ ?_
  clear HR K
  refine wp_seq_k (fun KX hKX => ?_)
  have HX := Lib.hid hKX
  clear hKX
  refine wp_seq_k (fun K hK => ?_)
  have HR := Lib.hid hK
  clear hK
  go_wp2_with fail
  refine HR.out _ _ ?_
  clear HR K
  refine wp_cond_true (by rfl) ?_
  refine wp_seq_k (fun K hK => ?_)
  have HR := Lib.hid hK
  clear hK
  refine wp_region_lit ?_
  refine wpList_plain (by rfl) fun K1 hK1 => ?_
  have HK := Lib.hid hK1
  clear hK1
  go_wp2_with fail
  refine HK.out _ _ ?_
  clear HK K1
  refine wpList_store_mid (by rfl) 34 (Operand.tmp 2) (Operand.tmp 63) (by rfl) w.heap.size 0 (V33 zero zero 0).toArray (by rfl) (by rfl) (hS7.1) (by kernel_rfl) (all_oneCell_toArray (one_v zero zero 0)) ?_
  go_wp2_with fail
  refine HR.out _ _ ?_
  clear HR K
  go_wp2_with fail
  have R := World.rangeAt_setCells_same V4 w.heap.size 0 (V33 zero zero 0) hS7.1
  have B := below_setCells (b := w.heap.size) (Nat.le_refl _) (V33 zero zero 0) 0 V4 hS7.2.2
  have L := run_loadVar_mid (P := Tryd.prog) _ w.heap.size 0 34 (V33 zero zero 0) _ R Tryd.underlying34 rfl (by kernel_rfl)
  exact bodyPost_ret (v := .tuple #[.agg (V33 zero zero 0).toArray, .int .i64 5]) (by simp [results, Tryd.results12, L, asAddr]) rfl ⟨rfl, B⟩
theorem rl_calls (s : ByteArray) (hs : s.size ≤ 1048576) (w : World) : Calls Tryd.prog 12 #[.string s] w (RlQ s w) := by
  have bad : okY s = false → (Calls Tryd.prog 12 #[.string s] w fun e w' => e = .returned (.tuple #[.agg (V33 zero zero 0).toArray, .int .i64 5]) ∧ Below w.heap.size w w') → Calls Tryd.prog 12 #[.string s] w (RlQ s w) := fun h hc => by
    unfold RlQ
    rw [(rl_no h).1, (rl_no h).2.1, (rl_no h).2.2.1, (rl_no h).2.2.2]
    exact hc
  by_cases h4 : (pl s).length = 4
  · by_cases h3 : (pl s).getD 3 [] = []
    · cases f1 : okC (P s 0) with
      | false => exact bad (by unfold okY; rw [f1]; simp) (rl_no1 s hs w h4 h3 f1)
      | true =>
        cases f2 : okC (P s 1) with
        | false => exact bad (by unfold okY; rw [f2]; simp) (rl_no2 s hs w h4 h3 f1 f2)
        | true =>
          cases f3 : okN (P s 2).data.toList with
          | false => exact bad (by unfold okY; rw [show okN (bL (P s 2)) = false from f3]; simp) (rl_no3 s hs w h4 h3 f1 f2 f3)
          | true =>
            cases f4 : Ty.okL (zC (P s 0)) (zC (P s 1)) (rnA (P s 2)) with
            | false => exact rl_no4 s hs w h4 h3 f1 f2 f3 f4
            | true => exact rl_all s hs w h4 h3 f1 f2 f3 f4
    · exact bad (by unfold okY; rw [decide_eq_false h3]; simp) (rl_end s hs w h4 h3)
  · exact bad (by unfold okY; rw [decide_eq_false h4]; simp) (rl_len s hs w h4)
end Tx
end Go.Proofs.YtbidagapkcmfnaaDoor
end
