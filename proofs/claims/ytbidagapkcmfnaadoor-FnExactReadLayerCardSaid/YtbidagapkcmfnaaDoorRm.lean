/-
  Layers read from their texts, by the program. No condition but that the text has at most 2^20 bytes and what some package-level variables hold.
-/
import Derived.Test.YtbidagapkcmfnaaDoorRl
import Derived.Test.YtbidagapkcmfnaaDoorLi
noncomputable section
namespace Go.Proofs.YtbidagapkcmfnaaDoor
namespace Tx
open Go Go.RowKit
/-- a layer that is being filled -/
def Sb (z y : Nat → Nat) (b k : Nat) (W : World) : Prop := b < W.heap.size ∧ W.there b 0 33 ∧ (1 ≤ k → W.rangeAt b 0 (zL z)) ∧ (2 ≤ k → W.rangeAt b 16 (zL y))
theorem sb_below {z y : Nat → Nat} {b k : Nat} {W W' : World} (h : Sb z y b k W) (hb : Below W.heap.size W W') : Sb z y b k W' :=
  ⟨Nat.lt_of_lt_of_le h.1 hb.size, there_below h.1 h.2.1 hb, fun q => range_below h.1 (h.2.2.1 q) hb, fun q => range_below h.1 (h.2.2.2 q) hb⟩
theorem there_part {b : Nat} {W : World} (h : W.there b 0 33) (o n : Nat) (hn : o + n ≤ 33) : W.there b o n := fun j hj => by
  have := h (o + j) (by omega)
  rwa [Nat.zero_add] at this
theorem sb_put1 {z y : Nat → Nat} {b : Nat} {W : World} (h : Sb z y b 0 W) : Sb z y b 1 (W.setCells b 0 (zL z).toArray.toList) :=
  ⟨by rw [size_cells]; exact h.1, World.there_setCells h.2.1 _ _ _, fun _ => World.rangeAt_setCells_same W b 0 (zL z) (there_part h.2.1 0 16 (by decide)), fun q => absurd q (by decide)⟩
theorem sb_put2 {z y : Nat → Nat} {b : Nat} {W : World} (h : Sb z y b 1 W) : Sb z y b 2 (W.setCells b 16 (zL y).toArray.toList) :=
  ⟨by rw [size_cells]; exact h.1, World.there_setCells h.2.1 _ _ _, fun _ => World.rangeAt_setCells_apart (h.2.2.1 (Nat.le_refl _)) _ _ _ (Or.inr (Or.inl (show 16 ≤ 16 by decide))), fun _ => World.rangeAt_setCells_same W b 16 (zL y) (there_part h.2.1 16 16 (by decide))⟩
theorem sb_put3 {z y : Nat → Nat} {b t : Nat} {W : World} (h : Sb z y b 2 W) : (W.setCell ⟨b, 32, none⟩ (.float .f32 t)).rangeAt b 0 (V33 z y t) ∧ b < (W.setCell ⟨b, 32, none⟩ (.float .f32 t)).heap.size := by
  have hc := (h.2.1 32 (by decide)).1
  rw [Nat.zero_add] at hc
  obtain ⟨u, hu⟩ := Option.isSome_iff_exists.1 hc
  refine ⟨range_join (World.rangeAt_setCells_apart (h.2.2.1 (by decide)) b 32 [.float .f32 t] (Or.inr (Or.inl (show 16 ≤ 32 by decide)))) (World.rangeAt_setCells_apart (h.2.2.2 (by decide)) b 32 [.float .f32 t] (Or.inr (Or.inl (show 32 ≤ 32 by decide)))) (World.cell?_setCell_same W ⟨b, 32, none⟩ _ hu), ?_⟩
  rw [World.size_setCell]
  exact h.1
theorem st_put {w W : World} {b o : Nat} {vs : List Value} (h : St w W) (hb : w.heap.size < b) : St w (W.setCells b o vs) :=
  ⟨World.there_setCells h.1 _ _ _, by rw [size_cells]; exact h.2.1, below_setCells (Nat.le_of_lt hb) _ _ _ h.2.2⟩
theorem r4_put {p q r d : ByteArray} {g b o : Nat} {vs : List Value} {W : World} (h : R4 p q r d g W) (hb : g ≠ b) : R4 p q r d g (W.setCells b o vs) := by
  have e : ∀ i, (W.setCells b o vs).cell? ⟨g, i, none⟩ = W.cell? ⟨g, i, none⟩ := fun i => World.cell?_setCells_out b vs o W ⟨g, i, none⟩ fun hx _ => absurd hx hb
  exact ⟨by rw [size_cells]; exact h.1, (e 0).trans h.2.1, (e 1).trans h.2.2.1, (e 2).trans h.2.2.2.1, (e 3).trans h.2.2.2.2⟩
set_option maxHeartbeats 4000000 in
set_option maxRecDepth 100000 in
theorem im_len (s : ByteArray) (hs : s.size ≤ 1048576) (w : World) (hE : EnvOk w) (h4 : (pl s).length ≠ 4) : Calls Tryd.prog 13 #[.string s] w fun e w' => e = .returned (.tuple #[.agg (V33 zero zero 0).toArray, .int .i64 5]) ∧ Below w.heap.size w w' := by
  have hcut := fun W h => lcut10_calls s hs W h
  have hli : ((pl s).length : Int) ≠ 4 := by omega
  go_enter Tryd.func13, Tryd.ntmps13
  refine wp_seq_k (fun K hK => ?_)
  have HR := Lib.hid hK
  clear hK
  go_wp2_with fail
  refine HR.out _ _ ?_
  clear HR K
  have hS0 := st_new w 34 #[.float .f32 0, .float .f32 0, .float .f32 0, .float .f32 0, .float .f32 0, .float .f32 0, .float .f32 0, .float .f32 0, .float .f32 0, .float .f32 0, .float .f32 0, .float .f32 0, .float .f32 0, .float .f32 0, .float .f32 0, .float .f32 0, .float .f32 0, .float .f32 0, .float .f32 0, .float .f32 0, .float .f32 0, .float .f32 0, .float .f32 0, .float .f32 0, .float .f32 0, .float .f32 0, .float .f32 0, .float .f32 0, .float .f32 0, .float .f32 0, .float .f32 0, .float .f32 0, .float .f32 0] rfl
  have hE0 := env_below hE hS0.2.2
  generalize w.alloc (.cells #[.float .f32 0, .float .f32 0, .float .f32 0, .float .f32 0, .float .f32 0, .float .f32 0, .float .f32 0, .float .f32 0, .float .f32 0, .float .f32 0, .float .f32 0, .float .f32 0, .float .f32 0, .float .f32 0, .float .f32 0, .float .f32 0, .float .f32 0, .float .f32 0, .float .f32 0, .float .f32 0, .float .f32 0, .float .f32 0, .float .f32 0, .float .f32 0, .float .f32 0, .float .f32 0, .float .f32 0, .float .f32 0, .float .f32 0, .float .f32 0, .float .f32 0, .float .f32 0, .float .f32 0] 34) = W0 at *
  refine wp_seq_k (fun K hK => ?_)
  have HR := Lib.hid hK
  clear hK
  go_wp2_with (go_at_call 20; refine (hcut _ hE0).mono ?_; rintro e W1 ⟨g, cap, rfl, hr, hb1⟩; have hS1 := st_below hS0 hb1; have hE1 := env_below hE0 hb1; clear hb1 hE0 hS0)
  refine HR.out _ _ ?_
  clear HR K
  refine wp_seq_k (fun KX hKX => ?_)
  have HX := Lib.hid hKX
  clear hKX
  refine wp_seq_k (fun K hK => ?_)
  have HR := Lib.hid hK
  clear hK
  go_wp2_with fail
  refine HR.out _ _ ?_
  clear HR K
  refine wp_cond_true (congrArg Value.bool (bne_iff_ne.2 hli)) ?_
  refine wp_seq_k (fun K hK => ?_)
  have HR := Lib.hid hK
  clear hK
  refine wp_region_lit ?_
  refine wpList_plain (by rfl) fun K1 hK1 => ?_
  have HK := Lib.hid hK1
  clear hK1
  go_wp2_with fail
  refine HK.out _ _ ?_
  clear HK K1
  refine wpList_store_mid (by rfl) 34 (Operand.tmp 2) (Operand.tmp 11) (by rfl) w.heap.size 0 (V33 zero zero 0).toArray (by rfl) (by rfl) (hS1.1) (by kernel_rfl) (all_oneCell_toArray (one_v zero zero 0)) ?_
  go_wp2_with fail
  refine HR.out _ _ ?_
  clear HR K
  go_wp2_with fail
  have R := World.rangeAt_setCells_same W1 w.heap.size 0 (V33 zero zero 0) hS1.1
  have B := below_setCells (b := w.heap.size) (Nat.le_refl _) (V33 zero zero 0) 0 W1 hS1.2.2
  have L := run_loadVar_mid (P := Tryd.prog) _ w.heap.size 0 34 (V33 zero zero 0) _ R Tryd.underlying34 rfl (by kernel_rfl)
  exact bodyPost_ret (v := .tuple #[.agg (V33 zero zero 0).toArray, .int .i64 5]) (by simp [results, Tryd.results13, L, asAddr]) rfl ⟨rfl, B⟩
set_option maxHeartbeats 1000000 in
set_option maxRecDepth 100000 in
theorem im_yes (s : ByteArray) (hs : s.size ≤ 1048576) (w : World) (hE : EnvOk w) (h4 : (pl s).length = 4) (hY : okY s = true) : Calls Tryd.prog 13 #[.string s] w (RlQ s w) := by
  have hcut : ∀ W, EnvOk W → Calls Tryd.prog 20 #[.string s, .string ⟨#[10]⟩] W fun e w' => ∃ g cap, e = .returned (.slice (some ⟨g, 0, none⟩) 4 cap) ∧ R4 (P s 0) (P s 1) (P s 2) (P s 3) g w' ∧ Below W.heap.size W w' := fun W h => (lcut10_calls s hs W h).mono fun e w' ⟨g, cap, h1, h2, h5⟩ => ⟨g, cap, by rw [h1, h4], r4_of h4 h2, h5⟩
  have hst : ∀ (a : Addr) (x : Nat) (W : World), (store a (.float .f32 x)).run Tryd.prog W = stored Tryd.prog W a (.float .f32 x) _ := fun a x W => run_store Tryd.prog W a (.float .f32 x) _ rfl
  have hK := fun W h => ric_calls (P s 0) (Nat.le_trans (P_le s 0) hs) W h
  have hS := fun W h => ric_calls (P s 1) (Nat.le_trans (P_le s 1) hs) W h
  have hA := fun W h => ri_calls (P s 2) (Nat.le_trans (P_le s 2) hs) W h
  have hLi : ∀ W, TabOk W → Calls Tryd.prog 23 #[.agg (V33 (zC (P s 0)) (zC (P s 1)) (rnA (P s 2))).toArray] W fun e w' => e = .returned (.string (Ty.lyA (zC (P s 0)) (zC (P s 1)) (rnA (P s 2)))) ∧ Below W.heap.size W w' := fun W h => Ty.lim_calls _ _ _ (zC_lt _) (zC_lt _) (rnA_lt _) W h
  unfold CuQ cvV at hK hS
  unfold RnQ at hA
  have hq : (!(Ty.lyA (zC (P s 0)) (zC (P s 1)) (rnA (P s 2))).toList == s.toList) = false := by rw [(layer_iff s h4).2 hY]; simp
  unfold RlQ
  rw [(rl_yes hY).1, (rl_yes hY).2.1, (rl_yes hY).2.2.1, (rl_yes hY).2.2.2]
  clear hY h4
  generalize Ty.lyA (zC (P s 0)) (zC (P s 1)) (rnA (P s 2)) = T at *
  generalize rnA (P s 2) = a at *
  generalize zC (P s 0) = z at *
  generalize zC (P s 1) = y at *
  go_enter Tryd.func13, Tryd.ntmps13
  refine wp_seq_k (fun K hK => ?_)
  have HR := Lib.hid hK
  clear hK
  go_wp2_with fail
  refine HR.out _ _ ?_
  clear HR K
  have hS0 := st_new w 34 #[.float .f32 0, .float .f32 0, .float .f32 0, .float .f32 0, .float .f32 0, .float .f32 0, .float .f32 0, .float .f32 0, .float .f32 0, .float .f32 0, .float .f32 0, .float .f32 0, .float .f32 0, .float .f32 0, .float .f32 0, .float .f32 0, .float .f32 0, .float .f32 0, .float .f32 0, .float .f32 0, .float .f32 0, .float .f32 0, .float .f32 0, .float .f32 0, .float .f32 0, .float .f32 0, .float .f32 0, .float .f32 0, .float .f32 0, .float .f32 0, .float .f32 0, .float .f32 0, .float .f32 0] rfl
  have hE0 := env_below hE hS0.2.2
  generalize w.alloc (.cells #[.float .f32 0, .float .f32 0, .float .f32 0, .float .f32 0, .float .f32 0, .float .f32 0, .float .f32 0, .float .f32 0, .float .f32 0, .float .f32 0, .float .f32 0, .float .f32 0, .float .f32 0, .float .f32 0, .float .f32 0, .float .f32 0, .float .f32 0, .float .f32 0, .float .f32 0, .float .f32 0, .float .f32 0, .float .f32 0, .float .f32 0, .float .f32 0, .float .f32 0, .float .f32 0, .float .f32 0, .float .f32 0, .float .f32 0, .float .f32 0, .float .f32 0, .float .f32 0, .float .f32 0] 34) = W0 at *
  refine wp_seq_k (fun K hK => ?_)
  have HR := Lib.hid hK
  clear hK
  go_wp2_with (go_at_call 20; refine (hcut _ hE0).mono ?_; rintro e W1 ⟨g, cap, rfl, hr, hb1⟩; have hS1 := st_below hS0 hb1; have hE1 := env_below hE0 hb1; clear hb1 hE0 hS0)
  refine HR.out _ _ ?_
  clear HR K
  refine wp_seq_k (fun KX hKX => ?_)
  have HX := Lib.hid hKX
  clear hKX
  refine wp_seq_k (fun K hK => ?_)
  have HR := Lib.hid hK
  clear hK
  go_wp2_with fail
  refine HR.out _ _ ?_
  clear HR K
  refine wp_cond_false (by rfl) ?_
  go_wp2_with fail
  refine HX.out _ _ ?_
  clear HX KX
  refine wp_seq_k (fun K hK => ?_)
  have HR := Lib.hid hK
  clear hK
  go_wp2_with fail
  refine HR.out _ _ ?_
  clear HR K
  have hN : Sb z y W1.heap.size 0 (W1.alloc (.cells #[.float .f32 0, .float .f32 0, .float .f32 0, .float .f32 0, .float .f32 0, .float .f32 0, .float .f32 0, .float .f32 0, .float .f32 0, .float .f32 0, .float .f32 0, .float .f32 0, .float .f32 0, .float .f32 0, .float .f32 0, .float .f32 0, .float .f32 0, .float .f32 0, .float .f32 0, .float .f32 0, .float .f32 0, .float .f32 0, .float .f32 0, .float .f32 0, .float .f32 0, .float .f32 0, .float .f32 0, .float .f32 0, .float .f32 0, .float .f32 0, .float .f32 0, .float .f32 0, .float .f32 0] 34)) := ⟨by simp, there_new W1 34 #[.float .f32 0, .float .f32 0, .float .f32 0, .float .f32 0, .float .f32 0, .float .f32 0, .float .f32 0, .float .f32 0, .float .f32 0, .float .f32 0, .float .f32 0, .float .f32 0, .float .f32 0, .float .f32 0, .float .f32 0, .float .f32 0, .float .f32 0, .float .f32 0, .float .f32 0, .float .f32 0, .float .f32 0, .float .f32 0, .float .f32 0, .float .f32 0, .float .f32 0, .float .f32 0, .float .f32 0, .float .f32 0, .float .f32 0, .float .f32 0, .float .f32 0, .float .f32 0, .float .f32 0], fun q => absurd q (by decide), fun q => absurd q (by decide)⟩
  have hb : Below W1.heap.size W1 (W1.alloc (.cells #[.float .f32 0, .float .f32 0, .float .f32 0, .float .f32 0, .float .f32 0, .float .f32 0, .float .f32 0, .float .f32 0, .float .f32 0, .float .f32 0, .float .f32 0, .float .f32 0, .float .f32 0, .float .f32 0, .float .f32 0, .float .f32 0, .float .f32 0, .float .f32 0, .float .f32 0, .float .f32 0, .float .f32 0, .float .f32 0, .float .f32 0, .float .f32 0, .float .f32 0, .float .f32 0, .float .f32 0, .float .f32 0, .float .f32 0, .float .f32 0, .float .f32 0, .float .f32 0, .float .f32 0] 34)) := bA (Below.refl _ _) _
  have hwb : w.heap.size < W1.heap.size := hS1.2.1
  have hgb : g ≠ W1.heap.size := Nat.ne_of_lt hr.1
  replace hr := r4_below hr hb
  replace hS1 := st_below hS1 hb
  replace hE1 := env_below hE1 hb
  clear hb
  generalize W1.alloc (.cells #[.float .f32 0, .float .f32 0, .float .f32 0, .float .f32 0, .float .f32 0, .float .f32 0, .float .f32 0, .float .f32 0, .float .f32 0, .float .f32 0, .float .f32 0, .float .f32 0, .float .f32 0, .float .f32 0, .float .f32 0, .float .f32 0, .float .f32 0, .float .f32 0, .float .f32 0, .float .f32 0, .float .f32 0, .float .f32 0, .float .f32 0, .float .f32 0, .float .f32 0, .float .f32 0, .float .f32 0, .float .f32 0, .float .f32 0, .float .f32 0, .float .f32 0, .float .f32 0, .float .f32 0] 34) = W2 at *
  generalize W1.heap.size = b at *
  have c := hr.2.1
  refine wp_seq_k (fun K hK => ?_)
  have HR := Lib.hid hK
  clear hK
  refine wp_region_lit ?_
  refine wpList_plain (by rfl) fun K1 hK1 => ?_
  have HK := Lib.hid hK1
  clear hK1
  go_wp2_with fail
  refine HK.out _ _ ?_
  clear HK K1
  refine wpList_plain (by rfl) fun K1 hK1 => ?_
  have HK := Lib.hid hK1
  clear hK1
  go_wp2_with fail
  refine HK.out _ _ ?_
  clear HK K1
  refine wpList_plain (by rfl) fun K1 hK1 => ?_
  have HK := Lib.hid hK1
  clear hK1
  go_wp2_with fail
  refine HK.out _ _ ?_
  clear HK K1
  refine wpList_plain (by rfl) fun K1 hK1 => ?_
  have HK := Lib.hid hK1
  clear hK1
  go_wp2_with (go_at_call 10; refine (hK _ hE1).mono ?_; rintro e W3 ⟨rfl, hb⟩; replace hr := r4_below hr hb; replace hS1 := st_below hS1 hb; replace hE1 := env_below hE1 hb; replace hN := sb_below hN hb; clear hb)
  refine HK.out _ _ ?_
  clear HK K1
  refine wpList_plain (by rfl) fun K1 hK1 => ?_
  have HK := Lib.hid hK1
  clear hK1
  go_wp2_with fail
  refine HK.out _ _ ?_
  clear HK K1
  refine wpList_plain (by rfl) fun K1 hK1 => ?_
  have HK := Lib.hid hK1
  clear hK1
  go_wp2_with fail
  refine HK.out _ _ ?_
  clear HK K1
  refine wpList_plain (by rfl) fun K1 hK1 => ?_
  have HK := Lib.hid hK1
  clear hK1
  go_wp2_with fail
  refine HK.out _ _ ?_
  clear HK K1
  refine wpList_plain (by rfl) fun K1 hK1 => ?_
  have HK := Lib.hid hK1
  clear hK1
  go_wp2_with fail
  refine HK.out _ _ ?_
  clear HK K1
  refine wpList_store_mid (by rfl) 29 (Operand.tmp 19) (Operand.tmp 17) (by rfl) b 0 (zL z).toArray (by rfl) (by rfl) (there_part hN.2.1 0 16 (by decide)) (by kernel_rfl) (all_oneCell_toArray (one_z z)) ?_
  replace hN := sb_put1 hN
  replace hr := r4_put (b := b) (o := 0) (vs := (zL z).toArray.toList) hr hgb
  replace hS1 := st_put (b := b) (o := 0) (vs := (zL z).toArray.toList) hS1 hwb
  replace hE1 := env_below hE hS1.2.2
  generalize W3.setCells b 0 (zL z).toArray.toList = V3 at *
  clear c
  have c := hr.2.2.1
  go_wp2_with fail
  refine HR.out _ _ ?_
  clear HR K
  refine wp_seq_k (fun K hK => ?_)
  have HR := Lib.hid hK
  clear hK
  refine wp_region_lit ?_
  refine wpList_plain (by rfl) fun K1 hK1 => ?_
  have HK := Lib.hid hK1
  clear hK1
  go_wp2_with fail
  refine HK.out _ _ ?_
  clear HK K1
  refine wpList_plain (by rfl) fun K1 hK1 => ?_
  have HK := Lib.hid hK1
  clear hK1
  go_wp2_with fail
  refine HK.out _ _ ?_
  clear HK K1
  refine wpList_plain (by rfl) fun K1 hK1 => ?_
  have HK := Lib.hid hK1
  clear hK1
  go_wp2_with fail
  refine HK.out _ _ ?_
  clear HK K1
  refine wpList_plain (by rfl) fun K1 hK1 => ?_
  have HK := Lib.hid hK1
  clear hK1
  go_wp2_with (go_at_call 10; refine (hS _ hE1).mono ?_; rintro e W4 ⟨rfl, hb⟩; replace hr := r4_below hr hb; replace hS1 := st_below hS1 hb; replace hE1 := env_below hE1 hb; replace hN := sb_below hN hb; clear hb)
  refine HK.out _ _ ?_
  clear HK K1
  refine wpList_plain (by rfl) fun K1 hK1 => ?_
  have HK := Lib.hid hK1
  clear hK1
  go_wp2_with fail
  refine HK.out _ _ ?_
  clear HK K1
  refine wpList_plain (by rfl) fun K1 hK1 => ?_
  have HK := Lib.hid hK1
  clear hK1
  go_wp2_with fail
  refine HK.out _ _ ?_
  clear HK K1
  refine wpList_plain (by rfl) fun K1 hK1 => ?_
  have HK := Lib.hid hK1
  clear hK1
  go_wp2_with fail
  refine HK.out _ _ ?_
  clear HK K1
  refine wpList_plain (by rfl) fun K1 hK1 => ?_
  have HK := Lib.hid hK1
  clear hK1
  go_wp2_with fail
  refine HK.out _ _ ?_
  clear HK K1
  refine wpList_store_mid (by rfl) 29 (Operand.tmp 27) (Operand.tmp 25) (by rfl) b 16 (zL y).toArray (by rfl) (by rfl) (there_part hN.2.1 16 16 (by decide)) (by kernel_rfl) (all_oneCell_toArray (one_z y)) ?_
  replace hN := sb_put2 hN
  replace hr := r4_put (b := b) (o := 16) (vs := (zL y).toArray.toList) hr hgb
  replace hS1 := st_put (b := b) (o := 16) (vs := (zL y).toArray.toList) hS1 hwb
  replace hE1 := env_below hE hS1.2.2
  generalize W4.setCells b 16 (zL y).toArray.toList = V4 at *
  clear c
  have c := hr.2.2.2.1
  go_wp2_with fail
  refine HR.out _ _ ?_
  clear HR K
  refine wp_seq_k (fun K hK => ?_)
  have HR := Lib.hid hK
  clear hK
  go_wp2_with (go_at_call 7; refine (hA _ hE1).mono ?_; rintro e W5 ⟨rfl, hb⟩; replace hS1 := st_below hS1 hb; replace hN := sb_below hN hb; have f32 := (hN.2.1 32 (by decide)).2; have g32 := (hN.2.1 32 (by decide)).1; rw [Nat.zero_add] at f32 g32; obtain ⟨u, hu⟩ := Option.isSome_iff_exists.1 g32; clear hb hE1 hr c)
  refine HR.out _ _ ?_
  clear HR K
  have hR := sb_put3 (t := a) hN
  replace hS1 := st_put (b := b) (o := 32) (vs := [.float .f32 a]) hS1 hwb
  have hS2 : St w (W5.setCell ⟨b, 32, none⟩ (.float .f32 a)) := hS1
  clear hS1 hN f32 g32 hu
  generalize W5.setCell ⟨b, 32, none⟩ (.float .f32 a) = W6 at *
  refine wp_seq_k (fun KX hKX => ?_)
  have HX := Lib.hid hKX
  clear hKX
  refine wp_seq_k (fun K hK => ?_)
  have HR := Lib.hid hK
  clear hK
  refine wp_region_lit ?_
  refine wpList_load_mid (by rfl) 34 (Operand.tmp 5) (by rfl) b 0 (by rfl) (V33 z y a) _ hR.1 Tryd.underlying34 rfl (by kernel_rfl) ?_
  go_wp2_with (go_at_call 23; refine (hLi _ (env_below hE hS2.2.2).1).mono ?_; rintro e W7 ⟨rfl, hb⟩; have hS3 := st_below hS2 hb; have hR3 := range_below hR.2 hR.1 hb; clear hb hS2 hR)
  refine HR.out _ _ ?_
  clear HR K
  refine wp_cond_false (by rfl) ?_
  go_wp2_with fail
  refine HX.out _ _ ?_
  clear HX KX
  refine wp_seq_k (fun K hK => ?_)
  have HR := Lib.hid hK
  clear hK
  refine wp_region_lit ?_
  refine wpList_load_mid (by rfl) 34 (Operand.tmp 5) (by rfl) b 0 (by rfl) (V33 z y a) _ hR3 Tryd.underlying34 rfl (by kernel_rfl) ?_
  refine wpList_store_mid (by rfl) 34 (Operand.tmp 2) (Operand.tmp 41) (by rfl) w.heap.size 0 (V33 z y a).toArray (by rfl) (by rfl) (hS3.1) (by kernel_rfl) (all_oneCell_toArray (one_v z y a)) ?_
  go_wp2_with fail
  refine HR.out _ _ ?_
  clear HR K
  go_wp2_with fail
  have R := World.rangeAt_setCells_same W7 w.heap.size 0 (V33 z y a) hS3.1
  have B := below_setCells (b := w.heap.size) (Nat.le_refl _) (V33 z y a) 0 W7 hS3.2.2
  have L := run_loadVar_mid (P := Tryd.prog) _ w.heap.size 0 34 (V33 z y a) _ R Tryd.underlying34 rfl (by kernel_rfl)
  exact bodyPost_ret (v := .tuple #[.agg (V33 z y a).toArray, .int .i64 0]) (by simp [results, Tryd.results13, L, asAddr]) rfl ⟨rfl, B⟩
set_option maxHeartbeats 1000000 in
set_option maxRecDepth 100000 in
theorem im_no (s : ByteArray) (hs : s.size ≤ 1048576) (w : World) (hE : EnvOk w) (h4 : (pl s).length = 4) (hY : okY s = false) : Calls Tryd.prog 13 #[.string s] w (RlQ s w) := by
  have hcut : ∀ W, EnvOk W → Calls Tryd.prog 20 #[.string s, .string ⟨#[10]⟩] W fun e w' => ∃ g cap, e = .returned (.slice (some ⟨g, 0, none⟩) 4 cap) ∧ R4 (P s 0) (P s 1) (P s 2) (P s 3) g w' ∧ Below W.heap.size W w' := fun W h => (lcut10_calls s hs W h).mono fun e w' ⟨g, cap, h1, h2, h5⟩ => ⟨g, cap, by rw [h1, h4], r4_of h4 h2, h5⟩
  have hst : ∀ (a : Addr) (x : Nat) (W : World), (store a (.float .f32 x)).run Tryd.prog W = stored Tryd.prog W a (.float .f32 x) _ := fun a x W => run_store Tryd.prog W a (.float .f32 x) _ rfl
  have hK := fun W h => ric_calls (P s 0) (Nat.le_trans (P_le s 0) hs) W h
  have hS := fun W h => ric_calls (P s 1) (Nat.le_trans (P_le s 1) hs) W h
  have hA := fun W h => ri_calls (P s 2) (Nat.le_trans (P_le s 2) hs) W h
  have hLi : ∀ W, TabOk W → Calls Tryd.prog 23 #[.agg (V33 (zC (P s 0)) (zC (P s 1)) (rnA (P s 2))).toArray] W fun e w' => e = .returned (.string (Ty.lyA (zC (P s 0)) (zC (P s 1)) (rnA (P s 2)))) ∧ Below W.heap.size W w' := fun W h => Ty.lim_calls _ _ _ (zC_lt _) (zC_lt _) (rnA_lt _) W h
  unfold CuQ cvV at hK hS
  unfold RnQ at hA
  have hq : (!(Ty.lyA (zC (P s 0)) (zC (P s 1)) (rnA (P s 2))).toList == s.toList) = true := by rw [beq_eq_false_iff_ne.2 fun h => absurd (hY.symm.trans ((layer_iff s h4).1 (toList_inj h))) (by decide)]; rfl
  unfold RlQ
  rw [(rl_no hY).1, (rl_no hY).2.1, (rl_no hY).2.2.1, (rl_no hY).2.2.2]
  clear hY h4
  generalize Ty.lyA (zC (P s 0)) (zC (P s 1)) (rnA (P s 2)) = T at *
  generalize rnA (P s 2) = a at *
  generalize zC (P s 0) = z at *
  generalize zC (P s 1) = y at *
  go_enter Tryd.func13, Tryd.ntmps13
  refine wp_seq_k (fun K hK => ?_)
  have HR := Lib.hid hK
  clear hK
  go_wp2_with fail
  refine HR.out _ _ ?_
  clear HR K
  have hS0 := st_new w 34 #[.float .f32 0, .float .f32 0, .float .f32 0, .float .f32 0, .float .f32 0, .float .f32 0, .float .f32 0, .float .f32 0, .float .f32 0, .float .f32 0, .float .f32 0, .float .f32 0, .float .f32 0, .float .f32 0, .float .f32 0, .float .f32 0, .float .f32 0, .float .f32 0, .float .f32 0, .float .f32 0, .float .f32 0, .float .f32 0, .float .f32 0, .float .f32 0, .float .f32 0, .float .f32 0, .float .f32 0, .float .f32 0, .float .f32 0, .float .f32 0, .float .f32 0, .float .f32 0, .float .f32 0] rfl
  have hE0 := env_below hE hS0.2.2
  generalize w.alloc (.cells #[.float .f32 0, .float .f32 0, .float .f32 0, .float .f32 0, .float .f32 0, .float .f32 0, .float .f32 0, .float .f32 0, .float .f32 0, .float .f32 0, .float .f32 0, .float .f32 0, .float .f32 0, .float .f32 0, .float .f32 0, .float .f32 0, .float .f32 0, .float .f32 0, .float .f32 0, .float .f32 0, .float .f32 0, .float .f32 0, .float .f32 0, .float .f32 0, .float .f32 0, .float .f32 0, .float .f32 0, .float .f32 0, .float .f32 0, .float .f32 0, .float .f32 0, .float .f32 0, .float .f32 0] 34) = W0 at *
  refine wp_seq_k (fun K hK => ?_)
  have HR := Lib.hid hK
  clear hK
  go_wp2_with (go_at_call 20; refine (hcut _ hE0).mono ?_; rintro e W1 ⟨g, cap, rfl, hr, hb1⟩; have hS1 := st_below hS0 hb1; have hE1 := env_below hE0 hb1; clear hb1 hE0 hS0)
  refine HR.out _ _ ?_
  clear HR K
  refine wp_seq_k (fun KX hKX => ?_)
  have HX := Lib.hid hKX
  clear hKX
  refine wp_seq_k (fun K hK => ?_)
  have HR := Lib.hid hK
  clear hK
  go_wp2_with fail
  refine HR.out _ _ ?_
  clear HR K
  refine wp_cond_false (by rfl) ?_
  go_wp2_with fail
  refine HX.out _ _ ?_
  clear HX KX
  refine wp_seq_k (fun K hK => ?_)
  have HR := Lib.hid hK
  clear hK
  go_wp2_with fail
  refine HR.out _ _ ?_
  clear HR K
  have hN : Sb z y W1.heap.size 0 (W1.alloc (.cells #[.float .f32 0, .float .f32 0, .float .f32 0, .float .f32 0, .float .f32 0, .float .f32 0, .float .f32 0, .float .f32 0, .float .f32 0, .float .f32 0, .float .f32 0, .float .f32 0, .float .f32 0, .float .f32 0, .float .f32 0, .float .f32 0, .float .f32 0, .float .f32 0, .float .f32 0, .float .f32 0, .float .f32 0, .float .f32 0, .float .f32 0, .float .f32 0, .float .f32 0, .float .f32 0, .float .f32 0, .float .f32 0, .float .f32 0, .float .f32 0, .float .f32 0, .float .f32 0, .float .f32 0] 34)) := ⟨by simp, there_new W1 34 #[.float .f32 0, .float .f32 0, .float .f32 0, .float .f32 0, .float .f32 0, .float .f32 0, .float .f32 0, .float .f32 0, .float .f32 0, .float .f32 0, .float .f32 0, .float .f32 0, .float .f32 0, .float .f32 0, .float .f32 0, .float .f32 0, .float .f32 0, .float .f32 0, .float .f32 0, .float .f32 0, .float .f32 0, .float .f32 0, .float .f32 0, .float .f32 0, .float .f32 0, .float .f32 0, .float .f32 0, .float .f32 0, .float .f32 0, .float .f32 0, .float .f32 0, .float .f32 0, .float .f32 0], fun q => absurd q (by decide), fun q => absurd q (by decide)⟩
  have hb : Below W1.heap.size W1 (W1.alloc (.cells #[.float .f32 0, .float .f32 0, .float .f32 0, .float .f32 0, .float .f32 0, .float .f32 0, .float .f32 0, .float .f32 0, .float .f32 0, .float .f32 0, .float .f32 0, .float .f32 0, .float .f32 0, .float .f32 0, .float .f32 0, .float .f32 0, .float .f32 0, .float .f32 0, .float .f32 0, .float .f32 0, .float .f32 0, .float .f32 0, .float .f32 0, .float .f32 0, .float .f32 0, .float .f32 0, .float .f32 0, .float .f32 0, .float .f32 0, .float .f32 0, .float .f32 0, .float .f32 0, .float .f32 0] 34)) := bA (Below.refl _ _) _
  have hwb : w.heap.size < W1.heap.size := hS1.2.1
  have hgb : g ≠ W1.heap.size := Nat.ne_of_lt hr.1
  replace hr := r4_below hr hb
  replace hS1 := st_below hS1 hb
  replace hE1 := env_below hE1 hb
  clear hb
  generalize W1.alloc (.cells #[.float .f32 0, .float .f32 0, .float .f32 0, .float .f32 0, .float .f32 0, .float .f32 0, .float .f32 0, .float .f32 0, .float .f32 0, .float .f32 0, .float .f32 0, .float .f32 0, .float .f32 0, .float .f32 0, .float .f32 0, .float .f32 0, .float .f32 0, .float .f32 0, .float .f32 0, .float .f32 0, .float .f32 0, .float .f32 0, .float .f32 0, .float .f32 0, .float .f32 0, .float .f32 0, .float .f32 0, .float .f32 0, .float .f32 0, .float .f32 0, .float .f32 0, .float .f32 0, .float .f32 0] 34) = W2 at *
  generalize W1.heap.size = b at *
  have c := hr.2.1
  refine wp_seq_k (fun K hK => ?_)
  have HR := Lib.hid hK
  clear hK
  refine wp_region_lit ?_
  refine wpList_plain (by rfl) fun K1 hK1 => ?_
  have HK := Lib.hid hK1
  clear hK1
  go_wp2_with fail
  refine HK.out _ _ ?_
  clear HK K1
  refine wpList_plain (by rfl) fun K1 hK1 => ?_
  have HK := Lib.hid hK1
  clear hK1
  go_wp2_with fail
  refine HK.out _ _ ?_
  clear HK K1
  refine wpList_plain (by rfl) fun K1 hK1 => ?_
  have HK := Lib.hid hK1
  clear hK1
  go_wp2_with fail
  refine HK.out _ _ ?_
  clear HK K1
  refine wpList_plain (by rfl) fun K1 hK1 => ?_
  have HK := Lib.hid hK1
  clear hK1
  go_wp2_with (go_at_call 10; refine (hK _ hE1).mono ?_; rintro e W3 ⟨rfl, hb⟩; replace hr := r4_below hr hb; replace hS1 := st_below hS1 hb; replace hE1 := env_below hE1 hb; replace hN := sb_below hN hb; clear hb)
  refine HK.out _ _ ?_
  clear HK K1
  refine wpList_plain (by rfl) fun K1 hK1 => ?_
  have HK := Lib.hid hK1
  clear hK1
  go_wp2_with fail
  refine HK.out _ _ ?_
  clear HK K1
  refine wpList_plain (by rfl) fun K1 hK1 => ?_
  have HK := Lib.hid hK1
  clear hK1
  go_wp2_with fail
  refine HK.out _ _ ?_
  clear HK K1
  refine wpList_plain (by rfl) fun K1 hK1 => ?_
  have HK := Lib.hid hK1
  clear hK1
  go_wp2_with fail
  refine HK.out _ _ ?_
  clear HK K1
  refine wpList_plain (by rfl) fun K1 hK1 => ?_
  have HK := Lib.hid hK1
  clear hK1
  go_wp2_with fail
  refine HK.out _ _ ?_
  clear HK K1
  refine wpList_store_mid (by rfl) 29 (Operand.tmp 19) (Operand.tmp 17) (by rfl) b 0 (zL z).toArray (by rfl) (by rfl) (there_part hN.2.1 0 16 (by decide)) (by kernel_rfl) (all_oneCell_toArray (one_z z)) ?_
  replace hN := sb_put1 hN
  replace hr := r4_put (b := b) (o := 0) (vs := (zL z).toArray.toList) hr hgb
  replace hS1 := st_put (b := b) (o := 0) (vs := (zL z).toArray.toList) hS1 hwb
  replace hE1 := env_below hE hS1.2.2
  generalize W3.setCells b 0 (zL z).toArray.toList = V3 at *
  clear c
  have c := hr.2.2.1
  go_wp2_with fail
  refine HR.out _ _ ?_
  clear HR K
  refine wp_seq_k (fun K hK => ?_)
  have HR := Lib.hid hK
  clear hK
  refine wp_region_lit ?_
  refine wpList_plain (by rfl) fun K1 hK1 => ?_
  have HK := Lib.hid hK1
  clear hK1
  go_wp2_with fail
  refine HK.out _ _ ?_
  clear HK K1
  refine wpList_plain (by rfl) fun K1 hK1 => ?_
  have HK := Lib.hid hK1
  clear hK1
  go_wp2_with fail
  refine HK.out _ _ ?_
  clear HK K1
  refine wpList_plain (by rfl) fun K1 hK1 => ?_
  have HK := Lib.hid hK1
  clear hK1
  go_wp2_with fail
  refine HK.out _ _ ?_
  clear HK K1
  refine wpList_plain (by rfl) fun K1 hK1 => ?_
  have HK := Lib.hid hK1
  clear hK1
  go_wp2_with (go_at_call 10; refine (hS _ hE1).mono ?_; rintro e W4 ⟨rfl, hb⟩; replace hr := r4_below hr hb; replace hS1 := st_below hS1 hb; replace hE1 := env_below hE1 hb; replace hN := sb_below hN hb; clear hb)
  refine HK.out _ _ ?_
  clear HK K1
  refine wpList_plain (by rfl) fun K1 hK1 => ?_
  have HK := Lib.hid hK1
  clear hK1
  go_wp2_with fail
  refine HK.out _ _ ?_
  clear HK K1
  refine wpList_plain (by rfl) fun K1 hK1 => ?_
  have HK := Lib.hid hK1
  clear hK1
  go_wp2_with fail
  refine HK.out _ _ ?_
  clear HK K1
  refine wpList_plain (by rfl) fun K1 hK1 => ?_
  have HK := Lib.hid hK1
  clear hK1
  go_wp2_with fail
  refine HK.out _ _ ?_
  clear HK K1
  refine wpList_plain (by rfl) fun K1 hK1 => ?_
  have HK := Lib.hid hK1
  clear hK1
  go_wp2_with fail
  refine HK.out _ _ ?_
  clear HK K1
  refine wpList_store_mid (by rfl) 29 (Operand.tmp 27) (Operand.tmp 25) (by rfl) b 16 (zL y).toArray (by rfl) (by rfl) (there_part hN.2.1 16 16 (by decide)) (by kernel_rfl) (all_oneCell_toArray (one_z y)) ?_
  replace hN := sb_put2 hN
  replace hr := r4_put (b := b) (o := 16) (vs := (zL y).toArray.toList) hr hgb
  replace hS1 := st_put (b := b) (o := 16) (vs := (zL y).toArray.toList) hS1 hwb
  replace hE1 := env_below hE hS1.2.2
  generalize W4.setCells b 16 (zL y).toArray.toList = V4 at *
  clear c
  have c := hr.2.2.2.1
  go_wp2_with fail
  refine HR.out _ _ ?_
  clear HR K
  refine wp_seq_k (fun K hK => ?_)
  have HR := Lib.hid hK
  clear hK
  go_wp2_with (go_at_call 7; refine (hA _ hE1).mono ?_; rintro e W5 ⟨rfl, hb⟩; replace hS1 := st_below hS1 hb; replace hN := sb_below hN hb; have f32 := (hN.2.1 32 (by decide)).2; have g32 := (hN.2.1 32 (by decide)).1; rw [Nat.zero_add] at f32 g32; obtain ⟨u, hu⟩ := Option.isSome_iff_exists.1 g32; clear hb hE1 hr c)
  refine HR.out _ _ ?_
  clear HR K
  have hR := sb_put3 (t := a) hN
  replace hS1 := st_put (b := b) (o := 32) (vs := [.float .f32 a]) hS1 hwb
  have hS2 : St w (W5.setCell ⟨b, 32, none⟩ (.float .f32 a)) := hS1
  clear hS1 hN f32 g32 hu
  generalize W5.setCell ⟨b, 32, none⟩ (.float .f32 a) = W6 at *
  refine wp_seq_k (fun KX hKX => ?_)
  have HX := Lib.hid hKX
  clear hKX
  refine wp_seq_k (fun K hK => ?_)
  have HR := Lib.hid hK
  clear hK
  refine wp_region_lit ?_
  refine wpList_load_mid (by rfl) 34 (Operand.tmp 5) (by rfl) b 0 (by rfl) (V33 z y a) _ hR.1 Tryd.underlying34 rfl (by kernel_rfl) ?_
  go_wp2_with (go_at_call 23; refine (hLi _ (env_below hE hS2.2.2).1).mono ?_; rintro e W7 ⟨rfl, hb⟩; have hS3 := st_below hS2 hb; have hR3 := range_below hR.2 hR.1 hb; clear hb hS2 hR)
  refine HR.out _ _ ?_
  clear HR K
  refine wp_cond_true (by rfl) ?_
  refine wp_seq_k (fun K hK => ?_)
  have HR := Lib.hid hK
  clear hK
  refine wp_region_lit ?_
  refine wpList_plain (by rfl) fun K1 hK1 => ?_
  have HK := Lib.hid hK1
  clear hK1
  go_wp2_with fail
  refine HK.out _ _ ?_
  clear HK K1
  refine wpList_store_mid (by rfl) 34 (Operand.tmp 2) (Operand.tmp 40) (by rfl) w.heap.size 0 (V33 zero zero 0).toArray (by rfl) (by rfl) (hS3.1) (by kernel_rfl) (all_oneCell_toArray (one_v zero zero 0)) ?_
  go_wp2_with fail
  refine HR.out _ _ ?_
  clear HR K
  go_wp2_with fail
  have R := World.rangeAt_setCells_same W7 w.heap.size 0 (V33 zero zero 0) hS3.1
  have B := below_setCells (b := w.heap.size) (Nat.le_refl _) (V33 zero zero 0) 0 W7 hS3.2.2
  have L := run_loadVar_mid (P := Tryd.prog) _ w.heap.size 0 34 (V33 zero zero 0) _ R Tryd.underlying34 rfl (by kernel_rfl)
  exact bodyPost_ret (v := .tuple #[.agg (V33 zero zero 0).toArray, .int .i64 5]) (by simp [results, Tryd.results13, L, asAddr]) rfl ⟨rfl, B⟩
theorem im_calls (s : ByteArray) (hs : s.size ≤ 1048576) (w : World) (hE : EnvOk w) : Calls Tryd.prog 13 #[.string s] w (RlQ s w) := by
  by_cases h4 : (pl s).length = 4
  · cases h : okY s with
    | false => exact im_no s hs w hE h4 h
    | true => exact im_yes s hs w hE h4 h
  · have h : okY s = false := by unfold okY; rw [decide_eq_false h4]; simp
    unfold RlQ
    rw [(rl_no h).1, (rl_no h).2.1, (rl_no h).2.2.1, (rl_no h).2.2.2]
    exact im_len s hs w hE h4
end Tx
end Go.Proofs.YtbidagapkcmfnaaDoor
end
