/-
  Layers: their texts, by the program. No condition.
-/
import Derived.Test.YtbidagapkcmfnaaDoorLe
import Derived.Test.YtbidagapkcmfnaaDoorLc
import Derived.Lib.Hide
noncomputable section
namespace Go.Proofs.YtbidagapkcmfnaaDoor
namespace Ty
open Tx Go Go.RowKit Ev Ieee
theorem lv_r33 {z s : Nat → Nat} {t b : Nat} {w : World} (h : Lv z s t b w) : w.rangeAt b 0 (zL z ++ (zL s ++ [.float .f32 t])) := fun j v hv => by
  rcases Nat.lt_or_ge j 16 with h1 | h1
  · exact lv_r1 h j v (by rwa [List.getElem?_append_left (by simpa [zL] using h1)] at hv)
  · rw [List.getElem?_append_right (by simpa [zL] using h1)] at hv
    rw [show (zL z).length = 16 from rfl] at hv
    rcases Nat.lt_or_ge (j - 16) 16 with h2 | h2
    · have := lv_r2 h (j - 16) v (by rwa [List.getElem?_append_left (by simpa [zL] using h2)] at hv)
      rwa [show 16 + (j - 16) = 0 + j by omega] at this
    · rw [List.getElem?_append_right (by simpa [zL] using h2)] at hv
      rw [show (zL s).length = 16 from rfl] at hv
      rcases Nat.eq_or_lt_of_le h2 with h3 | h3
      · rw [← h3] at hv
        obtain rfl : v = .float .f32 t := by simpa using hv.symm
        rw [show 0 + j = 32 by omega]
        exact lv_t h
      · rw [List.getElem?_eq_none (by simp; omega)] at hv
        cases hv
theorem ls_in {z s : Nat → Nat} {t : Nat} {w W : World} (h : Lv z s t w.heap.size W) (hW : Below w.heap.size w W) : Ls z s t w.heap.size w W.drew :=
  ls_below ⟨lv_r1 h, lv_r2 h, lv_t h, h.1, hW⟩ (Below.drew (Below.refl _ _))
set_option maxHeartbeats 8000000 in
set_option maxRecDepth 100000 in
theorem lim_calls (z s : Nat → Nat) (t : Nat) (bz : ∀ i, z i < 4294967296) (bs : ∀ i, s i < 4294967296) (bt : t < 4294967296) (w : World) (hT : TabOk w) : Calls Tryd.prog 23 #[lyV z s t] w fun e w' => e = .returned (.string (lyA z s t)) ∧ Below w.heap.size w w' := by
  have hC : Lv z s t w.heap.size (w.alloc (.cells #[.float .f32 (z 0), .float .f32 (z 1), .float .f32 (z 2), .float .f32 (z 3), .float .f32 (z 4), .float .f32 (z 5), .float .f32 (z 6), .float .f32 (z 7), .float .f32 (z 8), .float .f32 (z 9), .float .f32 (z 10), .float .f32 (z 11), .float .f32 (z 12), .float .f32 (z 13), .float .f32 (z 14), .float .f32 (z 15), .float .f32 (s 0), .float .f32 (s 1), .float .f32 (s 2), .float .f32 (s 3), .float .f32 (s 4), .float .f32 (s 5), .float .f32 (s 6), .float .f32 (s 7), .float .f32 (s 8), .float .f32 (s 9), .float .f32 (s 10), .float .f32 (s 11), .float .f32 (s 12), .float .f32 (s 13), .float .f32 (s 14), .float .f32 (s 15), .float .f32 t] 34)) := lv_new z s t rfl
  have hr : (w.alloc (.cells #[.float .f32 (z 0), .float .f32 (z 1), .float .f32 (z 2), .float .f32 (z 3), .float .f32 (z 4), .float .f32 (z 5), .float .f32 (z 6), .float .f32 (z 7), .float .f32 (z 8), .float .f32 (z 9), .float .f32 (z 10), .float .f32 (z 11), .float .f32 (z 12), .float .f32 (z 13), .float .f32 (z 14), .float .f32 (z 15), .float .f32 (s 0), .float .f32 (s 1), .float .f32 (s 2), .float .f32 (s 3), .float .f32 (s 4), .float .f32 (s 5), .float .f32 (s 6), .float .f32 (s 7), .float .f32 (s 8), .float .f32 (s 9), .float .f32 (s 10), .float .f32 (s 11), .float .f32 (s 12), .float .f32 (s 13), .float .f32 (s 14), .float .f32 (s 15), .float .f32 t] 34)).rangeAt w.heap.size 0 (#[.float .f32 (z 0), .float .f32 (z 1), .float .f32 (z 2), .float .f32 (z 3), .float .f32 (z 4), .float .f32 (z 5), .float .f32 (z 6), .float .f32 (z 7), .float .f32 (z 8), .float .f32 (z 9), .float .f32 (z 10), .float .f32 (z 11), .float .f32 (z 12), .float .f32 (z 13), .float .f32 (z 14), .float .f32 (z 15), .float .f32 (s 0), .float .f32 (s 1), .float .f32 (s 2), .float .f32 (s 3), .float .f32 (s 4), .float .f32 (s 5), .float .f32 (s 6), .float .f32 (s 7), .float .f32 (s 8), .float .f32 (s 9), .float .f32 (s 10), .float .f32 (s 11), .float .f32 (s 12), .float .f32 (s 13), .float .f32 (s 14), .float .f32 (s 15), .float .f32 t] : Array Value).toList := lv_r33 hC
  have hi33 : (Tryd.prog.info? 34).map (·.size) = some (#[.float .f32 (z 0), .float .f32 (z 1), .float .f32 (z 2), .float .f32 (z 3), .float .f32 (z 4), .float .f32 (z 5), .float .f32 (z 6), .float .f32 (z 7), .float .f32 (z 8), .float .f32 (z 9), .float .f32 (z 10), .float .f32 (z 11), .float .f32 (z 12), .float .f32 (z 13), .float .f32 (z 14), .float .f32 (z 15), .float .f32 (s 0), .float .f32 (s 1), .float .f32 (s 2), .float .f32 (s 3), .float .f32 (s 4), .float .f32 (s 5), .float .f32 (s 6), .float .f32 (s 7), .float .f32 (s 8), .float .f32 (s 9), .float .f32 (s 10), .float .f32 (s 11), .float .f32 (s 12), .float .f32 (s 13), .float .f32 (s 14), .float .f32 (s 15), .float .f32 t] : Array Value).toList.length := by kernel_rfl
  have hv := vl_calls z s t
  unfold lyV at *
  generalize hcs : (#[.float .f32 (z 0), .float .f32 (z 1), .float .f32 (z 2), .float .f32 (z 3), .float .f32 (z 4), .float .f32 (z 5), .float .f32 (z 6), .float .f32 (z 7), .float .f32 (z 8), .float .f32 (z 9), .float .f32 (z 10), .float .f32 (z 11), .float .f32 (z 12), .float .f32 (z 13), .float .f32 (z 14), .float .f32 (z 15), .float .f32 (s 0), .float .f32 (s 1), .float .f32 (s 2), .float .f32 (s 3), .float .f32 (s 4), .float .f32 (s 5), .float .f32 (s 6), .float .f32 (s 7), .float .f32 (s 8), .float .f32 (s 9), .float .f32 (s 10), .float .f32 (s 11), .float .f32 (s 12), .float .f32 (s 13), .float .f32 (s 14), .float .f32 (s 15), .float .f32 t] : Array Value) = cs at *
  have hW : Below w.heap.size w (w.alloc (.cells cs 34)) := bA (Below.refl _ _) _
  have hT1 : TabOk (w.alloc (.cells cs 34)) := tab_below hT hW
  have hz : ∀ w, TabOk w → Calls Tryd.prog 35 #[.agg (zL z).toArray] w _ := cimpl_calls z bz
  have hs : ∀ w, TabOk w → Calls Tryd.prog 35 #[.agg (zL s).toArray] w _ := cimpl_calls s bs
  have ht : ∀ w, TabOk w → Calls Tryd.prog 18 #[.float .f32 t] w fun e w' => e = .returned (.string (hx t)) ∧ Below w.heap.size w w' := nt_calls t bt
  have r1 := ly_r1 z
  have r2 := ly_r2 z s
  have r3 := ly_r3 z s
  have r4 := ly_r4 z s t
  have r5 := ly_r5 z s t
  have hu := Tryd.underlying29
  have i1 : (Tryd.prog.info? 29).map (·.size) = some (zL z).length := by kernel_rfl
  have i2 : (Tryd.prog.info? 29).map (·.size) = some (zL s).length := by kernel_rfl
  unfold lyA
  cases h1 : okL z s t with
  | false =>
    rw [if_neg (by decide)]
    rw [h1] at hv
    clear hcs
    go_enter Tryd.func23, Tryd.ntmps23
    refine wp_seq_k (fun K1 hK1 => ?_)
    have HK := Lib.hid hK1
    clear hK1
    go_wp2_with fail
    refine HK.out _ _ ?_
    clear HK
    refine wp_seq_k (fun K2 hK2 => ?_)
    refine wp_seq_k (fun K3 hK3 => ?_)
    refine wp_region_lit ?_
    refine wpList_load_mid (by rfl) 34 (Operand.tmp 1) (by rfl) w.heap.size 0 (by rfl) cs.toList _ hr Tryd.underlying34 rfl hi33 ?_
    rw [Array.toArray_toList]
    go_wp2_with (go_at_call 34; refine (hv _).mono ?_; rintro e w' ⟨rfl, hb⟩; have hW := Below.trans (by assumption) (hb.mono (Below.size (by assumption))))
    go_ret
    exact ⟨rfl, by assumption⟩
  | true =>
  rw [if_pos rfl]
  rw [h1] at hv
  clear hcs
  go_enter Tryd.func23, Tryd.ntmps23
  refine wp_seq_k (fun K1 hK1 => ?_)
  have HK := Lib.hid hK1
  clear hK1
  go_wp2_with fail
  refine HK.out _ _ ?_
  clear HK
  refine wp_seq_k (fun K2 hK2 => ?_)
  refine wp_seq_k (fun K3 hK3 => ?_)
  refine wp_region_lit ?_
  refine wpList_load_mid (by rfl) 34 (Operand.tmp 1) (by rfl) w.heap.size 0 (by rfl) cs.toList _ hr Tryd.underlying34 rfl hi33 ?_
  rw [Array.toArray_toList]
  go_wp2_with (go_at_call 34; refine (hv _).mono ?_; rintro e w' ⟨rfl, hb⟩; have hC := lv_below hb (by assumption); have hT := tab_below (by assumption) hb; have hW := Below.trans (by assumption) (hb.mono (Below.size (by assumption))))
  refine wp_region_held_drew (S := (fun W => (W.rangeAt w.heap.size 0 (zL z) ∧ W.rangeAt w.heap.size 16 (zL s) ∧ W.cell? ⟨w.heap.size, 32, none⟩ = some (.float .f32 t) ∧ w.heap.size < W.heap.size ∧ Below w.heap.size w W) ∧ TabOk W)) (by kernel_rfl) ⟨ls_in hC hW, tab_below hT (Below.drew (Below.refl _ _))⟩ (fun hHeld => ?_)
  refine wpAnyH_take (i := 0) (oi := { dst := some 6, op := Op.fieldAddr 34 (Operand.tmp 1) 0, type := 0, pos := "l02_layers.go:406", after := #[], guard := none }) (v := ?_) rfl (by kernel_rfl) (by kernel_rfl) (by kernel_rfl) (fun _ _ _ h => h) (Or.inl ⟨by rfl, ?_⟩) (by assumption) ?_
  rotate_left 1
  · intro W hSw
    try dsimp only at hSw
    obtain ⟨⟨_, _, _, _, _⟩, _⟩ := hSw
    go_simp
    try with_reducible rfl
  try simp only [Act.put, List.setIfInBounds_toArray, List.set_cons_zero, List.set_cons_succ]
  refine wpAnyH_take (i := 4) (oi := { dst := some 10, op := Op.fieldAddr 34 (Operand.tmp 1) 1, type := 0, pos := "l02_layers.go:406", after := #[], guard := none }) (v := ?_) rfl (by kernel_rfl) (by kernel_rfl) (by kernel_rfl) (fun _ _ _ h => h) (Or.inl ⟨by rfl, ?_⟩) (by assumption) ?_
  rotate_left 1
  · intro W hSw
    try dsimp only at hSw
    obtain ⟨⟨_, _, _, _, _⟩, _⟩ := hSw
    go_simp
    try with_reducible rfl
  try simp only [Act.put, List.setIfInBounds_toArray, List.set_cons_zero, List.set_cons_succ]
  refine wpAnyH_take (i := 9) (oi := { dst := some 15, op := Op.fieldAddr 34 (Operand.tmp 1) 2, type := 0, pos := "l02_layers.go:406", after := #[], guard := none }) (v := ?_) rfl (by kernel_rfl) (by kernel_rfl) (by kernel_rfl) (fun _ _ _ h => h) (Or.inl ⟨by rfl, ?_⟩) (by assumption) ?_
  rotate_left 1
  · intro W hSw
    try dsimp only at hSw
    obtain ⟨⟨_, _, _, _, _⟩, _⟩ := hSw
    go_simp
    try with_reducible rfl
  try simp only [Act.put, List.setIfInBounds_toArray, List.set_cons_zero, List.set_cons_succ]
  refine' wpAnyH_take (i := 1) (oi := { dst := some 7, op := Op.load 29 (Operand.tmp 6), type := 29, pos := "l02_layers.go:406", after := #[{ on := 0, ground := Ground.data }], guard := none }) (v := _) rfl (by kernel_rfl) (by kernel_rfl) (by kernel_rfl) (fun _ _ _ h => h) (yieldsIf_load_mid (by rfl) _ _ rfl _ _ rfl (zL z) _ ?hS1 ?hu1 ?hd1 ?hi1) (by assumption) ?rest1
  case hS1 => exact fun W h => h.1.1
  case hu1 => exact hu
  case hd1 => rfl
  case hi1 => exact i1
  try simp only [Act.put, List.setIfInBounds_toArray, List.set_cons_zero, List.set_cons_succ]
  refine' wpAnyH_take (i := 5) (oi := { dst := some 11, op := Op.load 29 (Operand.tmp 10), type := 29, pos := "l02_layers.go:406", after := #[{ on := 4, ground := Ground.data }], guard := none }) (v := _) rfl (by kernel_rfl) (by kernel_rfl) (by kernel_rfl) (fun _ _ _ h => h) (yieldsIf_load_mid (by rfl) _ _ rfl _ _ rfl (zL s) _ ?hS5 ?hu5 ?hd5 ?hi5) (by assumption) ?rest5
  case hS5 => exact fun W h => h.1.2.1
  case hu5 => exact hu
  case hd5 => rfl
  case hi5 => exact i2
  try simp only [Act.put, List.setIfInBounds_toArray, List.set_cons_zero, List.set_cons_succ]
  refine wpAnyH_take (i := 10) (oi := { dst := some 16, op := Op.load 22 (Operand.tmp 15), type := 22, pos := "l02_layers.go:406", after := #[{ on := 9, ground := Ground.data }], guard := none }) (v := ?_) rfl (by kernel_rfl) (by kernel_rfl) (by kernel_rfl) (fun _ _ _ h => h) (Or.inl ⟨by rfl, ?_⟩) (by assumption) ?_
  rotate_left 1
  · intro W hSw
    try dsimp only at hSw
    obtain ⟨⟨_, _, _, _, _⟩, _⟩ := hSw
    go_simp
    try with_reducible rfl
  try simp only [Act.put, List.setIfInBounds_toArray, List.set_cons_zero, List.set_cons_succ]
  refine wpAnyH_ready (rs := [2]) (by kernel_rfl) (by simp) ?_
  refine AllReadyH.cons (o := { dst := some 8, op := Op.call { callee := Callee.value (Operand.func 35), args := #[Operand.tmp 7], argTypes := #[29] }, type := 9, pos := "l02_layers.go:406", after := #[{ on := 1, ground := Ground.data }], guard := none }) rfl (fun K hK => ?_) AllReadyH.nil
  rw [if_pos (by rfl)]
  go_wp2_with (go_at_call 35; refine (hz _ hHeld.2).mono ?_; rintro e w1 ⟨rfl, hb1⟩)
  refine hK.out _ _ ⟨ls_below hHeld.1 hb1, tab_below hHeld.2 hb1⟩ (fun hHeld => ?_)
  clear hK K
  try simp only [Act.put, List.setIfInBounds_toArray, List.set_cons_zero, List.set_cons_succ]
  refine wpAnyH_take (i := 3) (oi := { dst := some 9, op := Op.binOp BinOp.add 9 (Operand.tmp 8) (Operand.const (Value.string { data := #[10] })) 9, type := 9, pos := "l02_layers.go:406", after := #[{ on := 2, ground := Ground.data }], guard := none }) (v := ?_) rfl (by kernel_rfl) (by kernel_rfl) (by kernel_rfl) (fun _ _ _ h => h) (Or.inl ⟨by rfl, ?_⟩) (by assumption) ?_
  rotate_left 1
  · intro W hSw
    try dsimp only at hSw
    obtain ⟨⟨_, _, _, _, _⟩, _⟩ := hSw
    go_simp
    try with_reducible rfl
  try simp only [Act.put, List.setIfInBounds_toArray, List.set_cons_zero, List.set_cons_succ]
  refine wpAnyH_ready (rs := [6]) (by kernel_rfl) (by simp) ?_
  refine AllReadyH.cons (o := { dst := some 12, op := Op.call { callee := Callee.value (Operand.func 35), args := #[Operand.tmp 11], argTypes := #[29] }, type := 9, pos := "l02_layers.go:406", after := #[{ on := 5, ground := Ground.data }, { on := 2, ground := Ground.chain }], guard := none }) rfl (fun K hK => ?_) AllReadyH.nil
  rw [if_pos (by rfl)]
  go_wp2_with (go_at_call 35; refine (hs _ hHeld.2).mono ?_; rintro e w2 ⟨rfl, hb2⟩)
  refine hK.out _ _ ⟨ls_below hHeld.1 hb2, tab_below hHeld.2 hb2⟩ (fun hHeld => ?_)
  clear hK K
  try simp only [Act.put, List.setIfInBounds_toArray, List.set_cons_zero, List.set_cons_succ]
  refine wpAnyH_take (i := 7) (oi := { dst := some 13, op := Op.binOp BinOp.add 9 (Operand.tmp 9) (Operand.tmp 12) 9, type := 9, pos := "l02_layers.go:406", after := #[{ on := 3, ground := Ground.data }, { on := 6, ground := Ground.data }], guard := none }) (v := ?_) rfl (by kernel_rfl) (by kernel_rfl) (by kernel_rfl) (fun _ _ _ h => h) (Or.inl ⟨by rfl, ?_⟩) (by assumption) ?_
  rotate_left 1
  · intro W hSw
    try dsimp only at hSw
    obtain ⟨⟨_, _, _, _, _⟩, _⟩ := hSw
    go_simp
    try with_reducible rfl
  try simp only [Act.put, List.setIfInBounds_toArray, List.set_cons_zero, List.set_cons_succ]
  refine wpAnyH_take (i := 8) (oi := { dst := some 14, op := Op.binOp BinOp.add 9 (Operand.tmp 13) (Operand.const (Value.string { data := #[10] })) 9, type := 9, pos := "l02_layers.go:406", after := #[{ on := 7, ground := Ground.data }], guard := none }) (v := ?_) rfl (by kernel_rfl) (by kernel_rfl) (by kernel_rfl) (fun _ _ _ h => h) (Or.inl ⟨by rfl, ?_⟩) (by assumption) ?_
  rotate_left 1
  · intro W hSw
    try dsimp only at hSw
    obtain ⟨⟨_, _, _, _, _⟩, _⟩ := hSw
    go_simp
    try with_reducible rfl
  try simp only [Act.put, List.setIfInBounds_toArray, List.set_cons_zero, List.set_cons_succ]
  refine wpAnyH_ready (rs := [11]) (by kernel_rfl) (by simp) ?_
  refine AllReadyH.cons (o := { dst := some 17, op := Op.call { callee := Callee.value (Operand.func 18), args := #[Operand.tmp 16], argTypes := #[22] }, type := 9, pos := "l02_layers.go:406", after := #[{ on := 10, ground := Ground.data }, { on := 6, ground := Ground.chain }], guard := none }) rfl (fun K hK => ?_) AllReadyH.nil
  rw [if_pos (by rfl)]
  go_wp2_with (go_at_call 18; refine (ht _ hHeld.2).mono ?_; rintro e w3 ⟨rfl, hb3⟩)
  refine hK.out _ _ ⟨ls_below hHeld.1 hb3, tab_below hHeld.2 hb3⟩ (fun hHeld => ?_)
  clear hK K
  try simp only [Act.put, List.setIfInBounds_toArray, List.set_cons_zero, List.set_cons_succ]
  refine wpAnyH_take (i := 12) (oi := { dst := some 18, op := Op.binOp BinOp.add 9 (Operand.tmp 14) (Operand.tmp 17) 9, type := 9, pos := "l02_layers.go:406", after := #[{ on := 8, ground := Ground.data }, { on := 11, ground := Ground.data }], guard := none }) (v := ?_) rfl (by kernel_rfl) (by kernel_rfl) (by kernel_rfl) (fun _ _ _ h => h) (Or.inl ⟨by rfl, ?_⟩) (by assumption) ?_
  rotate_left 1
  · intro W hSw
    try dsimp only at hSw
    obtain ⟨⟨_, _, _, _, _⟩, _⟩ := hSw
    go_simp
    try with_reducible rfl
  try simp only [Act.put, List.setIfInBounds_toArray, List.set_cons_zero, List.set_cons_succ]
  refine wpAnyH_take (i := 13) (oi := { dst := some 19, op := Op.binOp BinOp.add 9 (Operand.tmp 18) (Operand.const (Value.string { data := #[10] })) 9, type := 9, pos := "l02_layers.go:406", after := #[{ on := 12, ground := Ground.data }], guard := none }) (v := ?_) rfl (by kernel_rfl) (by kernel_rfl) (by kernel_rfl) (fun _ _ _ h => h) (Or.inl ⟨by rfl, ?_⟩) (by assumption) ?_
  rotate_left 1
  · intro W hSw
    try dsimp only at hSw
    obtain ⟨⟨_, _, _, _, _⟩, _⟩ := hSw
    go_simp
    try with_reducible rfl
  try simp only [Act.put, List.setIfInBounds_toArray, List.set_cons_zero, List.set_cons_succ]
  refine wpAnyH_ready (rs := [14]) (by kernel_rfl) (by simp) ?_
  refine AllReadyH.cons (o := _) rfl (fun K hK => ?_) AllReadyH.nil
  rw [if_pos (by rfl)]
  go_wp2_with fail
  refine hK.out _ _ hHeld (fun hHeld => ?_)
  clear hK K
  refine wpAnyH_done (by kernel_rfl) ?_ _
  go_wp2
  go_ret
  exact ⟨rfl, hHeld.1.2.2.2.2⟩
end Ty
end Go.Proofs.YtbidagapkcmfnaaDoor
end
