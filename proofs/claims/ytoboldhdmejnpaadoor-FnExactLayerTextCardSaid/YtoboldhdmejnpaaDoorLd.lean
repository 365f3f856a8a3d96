/-
  Layers: their texts, by the model. No condition.
-/
import Derived.Test.YtoboldhdmejnpaaDoorLb
import Derived.Deep.MidRow
import Derived.Deep.RegionHeld3
noncomputable section
namespace Go.Proofs.YtoboldhdmejnpaaDoor
namespace Tx
open Go Go.RowKit Ev Ieee
def zL (z : Nat → Nat) : List Value := [.float .f32 (z 0), .float .f32 (z 1), .float .f32 (z 2), .float .f32 (z 3), .float .f32 (z 4), .float .f32 (z 5), .float .f32 (z 6), .float .f32 (z 7), .float .f32 (z 8), .float .f32 (z 9), .float .f32 (z 10), .float .f32 (z 11), .float .f32 (z 12), .float .f32 (z 13), .float .f32 (z 14), .float .f32 (z 15)]
theorem lv_r1 {z s : Nat → Nat} {t b : Nat} {w : World} (h : Lv z s t b w) : w.rangeAt b 0 (zL z) := fun j v hv => by
    have hj : j < 16 := by
      rcases Nat.lt_or_ge j 16 with h1 | h1
      · exact h1
      · rw [List.getElem?_eq_none (by simpa [zL] using h1)] at hv; cases hv
    rw [Nat.zero_add, h.2.1 j hj]
    match j, hj with
    | 0, _ | 1, _ | 2, _ | 3, _ | 4, _ | 5, _ | 6, _ | 7, _ | 8, _ | 9, _ | 10, _ | 11, _ | 12, _ | 13, _ | 14, _ | 15, _ => cases hv; rfl
    | k + 16, h => exact absurd h (by omega)
theorem lv_r2 {z s : Nat → Nat} {t b : Nat} {w : World} (h : Lv z s t b w) : w.rangeAt b 16 (zL s) := fun j v hv => by
    have hj : j < 16 := by
      rcases Nat.lt_or_ge j 16 with h1 | h1
      · exact h1
      · rw [List.getElem?_eq_none (by simpa [zL] using h1)] at hv; cases hv
    rw [h.2.2.1 j hj]
    match j, hj with
    | 0, _ | 1, _ | 2, _ | 3, _ | 4, _ | 5, _ | 6, _ | 7, _ | 8, _ | 9, _ | 10, _ | 11, _ | 12, _ | 13, _ | 14, _ | 15, _ => cases hv; rfl
    | k + 16, h => exact absurd h (by omega)
theorem lv_k {z s : Nat → Nat} {t b : Nat} {w : World} (h : Lv z s t b w) : (Instr.loadAt 27 (.pointer (some ⟨b, 0, none⟩))).run Tryd.prog w = .ok (cvV z) w :=
  run_loadAt_mid w b 0 27 (zL z) _ (lv_r1 h) Tryd.underlying27 rfl (by kernel_rfl)
theorem lv_s {z s : Nat → Nat} {t b : Nat} {w : World} (h : Lv z s t b w) : (Instr.loadAt 27 (.pointer (some ⟨b, 16, none⟩))).run Tryd.prog w = .ok (cvV s) w :=
  run_loadAt_mid w b 16 27 (zL s) _ (lv_r2 h) Tryd.underlying27 rfl (by kernel_rfl)
theorem lv_t {z s : Nat → Nat} {t b : Nat} {w : World} (h : Lv z s t b w) : w.cell? ⟨b, 32, none⟩ = some (.float .f32 t) := h.2.2.2
theorem lv_drew {z s : Nat → Nat} {t b : Nat} {w : World} (h : Lv z s t b w) : Lv z s t b w.drew := lv_below (Below.drew (Below.refl _ _)) h
/-- what the loads read, in a world behind w0 -/
abbrev Ls (z s : Nat → Nat) (t b : Nat) (w0 W : World) : Prop := W.rangeAt b 0 (zL z) ∧ W.rangeAt b 16 (zL s) ∧ W.cell? ⟨b, 32, none⟩ = some (.float .f32 t) ∧ b < W.heap.size ∧ Below w0.heap.size w0 W
theorem range_below {b o : Nat} {cs : List Value} {w w' : World} (hlt : b < w.heap.size) (h : w.rangeAt b o cs) (hb : Below w.heap.size w w') : w'.rangeAt b o cs := fun j v hv => (hb.cell (p := ⟨b, o + j, none⟩) hlt).trans (h j v hv)
theorem ls_below {z s : Nat → Nat} {t b : Nat} {w0 w w' : World} (h : Ls z s t b w0 w) (hb : Below w.heap.size w w') : Ls z s t b w0 w' :=
  ⟨range_below h.2.2.2.1 h.1 hb, range_below h.2.2.2.1 h.2.1 hb, (hb.cell (p := ⟨b, 32, none⟩) h.2.2.2.1).trans h.2.2.1, Nat.lt_of_lt_of_le h.2.2.2.1 hb.size, h.2.2.2.2.trans (hb.mono h.2.2.2.2.size)⟩
theorem ls_drew {z s : Nat → Nat} {t b : Nat} {w : World} (h : Lv z s t b w) : Ls z s t b w w.drew :=
  ls_below ⟨lv_r1 h, lv_r2 h, lv_t h, h.1, Below.refl _ _⟩ (Below.drew (Below.refl _ _))
set_option maxHeartbeats 4000000 in
set_option maxRecDepth 100000 in
theorem ltx_calls (z s : Nat → Nat) (t b : Nat) (bz : ∀ i, z i < 4294967296) (bs : ∀ i, s i < 4294967296) (bt : t < 4294967296) (w : World) (hC : Lv z s t b w) : Calls Tryd.prog 25 #[.pointer (some ⟨b, 0, none⟩)] w fun e w' => e = .returned (.string (lyT z s t)) ∧ Below w.heap.size w w' := by
  have hz : ∀ w, Calls Tryd.prog 22 #[.agg (zL z).toArray] w _ := c1_calls z bz
  have hs : ∀ w, Calls Tryd.prog 22 #[.agg (zL s).toArray] w _ := c1_calls s bs
  have ht := hx_calls t bt
  have r1 := ly_r1 z
  have r2 := ly_r2 z s
  have r3 := ly_r3 z s
  have r4 := ly_r4 z s t
  have r5 := ly_r5 z s t
  have hu := Tryd.underlying27
  have i1 : (Tryd.prog.info? 27).map (·.size) = some (zL z).length := by kernel_rfl
  have i2 : (Tryd.prog.info? 27).map (·.size) = some (zL s).length := by kernel_rfl
  go_enter Tryd.func25, Tryd.ntmps25
  go_wp2_with fail
  refine wp_region_held_drew (S := (fun W => W.rangeAt b 0 (zL z) ∧ W.rangeAt b 16 (zL s) ∧ W.cell? ⟨b, 32, none⟩ = some (.float .f32 t) ∧ b < W.heap.size ∧ Below w.heap.size w W)) (by kernel_rfl) (ls_drew hC) (fun hHeld => ?_)
  refine wpAnyH_take (i := 0) (oi := { dst := some 3, op := Op.move (Operand.tmp 0), type := 55, pos := "l02_layers.go:376", after := #[], guard := none }) (v := ?_) rfl (by kernel_rfl) (by kernel_rfl) (by kernel_rfl) (fun _ _ _ h => h) (Or.inl ⟨by rfl, ?_⟩) (by assumption) ?_
  rotate_left 1
  · intro W hSw
    try dsimp only at hSw
    obtain ⟨_, _, _, _, _⟩ := hSw
    go_simp
    try with_reducible rfl
  try simp only [Act.put, List.setIfInBounds_toArray, List.set_cons_zero, List.set_cons_succ]
  refine wpAnyH_take (i := 6) (oi := { dst := some 9, op := Op.move (Operand.tmp 0), type := 55, pos := "l02_layers.go:376", after := #[], guard := none }) (v := ?_) rfl (by kernel_rfl) (by kernel_rfl) (by kernel_rfl) (fun _ _ _ h => h) (Or.inl ⟨by rfl, ?_⟩) (by assumption) ?_
  rotate_left 1
  · intro W hSw
    try dsimp only at hSw
    obtain ⟨_, _, _, _, _⟩ := hSw
    go_simp
    try with_reducible rfl
  try simp only [Act.put, List.setIfInBounds_toArray, List.set_cons_zero, List.set_cons_succ]
  refine wpAnyH_take (i := 13) (oi := { dst := some 16, op := Op.move (Operand.tmp 0), type := 55, pos := "l02_layers.go:376", after := #[], guard := none }) (v := ?_) rfl (by kernel_rfl) (by kernel_rfl) (by kernel_rfl) (fun _ _ _ h => h) (Or.inl ⟨by rfl, ?_⟩) (by assumption) ?_
  rotate_left 1
  · intro W hSw
    try dsimp only at hSw
    obtain ⟨_, _, _, _, _⟩ := hSw
    go_simp
    try with_reducible rfl
  try simp only [Act.put, List.setIfInBounds_toArray, List.set_cons_zero, List.set_cons_succ]
  refine wpAnyH_take (i := 1) (oi := { dst := some 4, op := Op.nilCheck (Operand.tmp 3), type := 0, pos := "l02_layers.go:376", after := #[{ on := 0, ground := Ground.data }], guard := none }) (v := ?_) rfl (by kernel_rfl) (by kernel_rfl) (by kernel_rfl) (fun _ _ _ h => h) (Or.inl ⟨by rfl, ?_⟩) (by assumption) ?_
  rotate_left 1
  · intro W hSw
    try dsimp only at hSw
    obtain ⟨_, _, _, _, _⟩ := hSw
    go_simp
    try with_reducible rfl
  try simp only [Act.put, List.setIfInBounds_toArray, List.set_cons_zero, List.set_cons_succ]
  refine wpAnyH_take (i := 7) (oi := { dst := some 10, op := Op.nilCheck (Operand.tmp 9), type := 0, pos := "l02_layers.go:376", after := #[{ on := 6, ground := Ground.data }], guard := none }) (v := ?_) rfl (by kernel_rfl) (by kernel_rfl) (by kernel_rfl) (fun _ _ _ h => h) (Or.inl ⟨by rfl, ?_⟩) (by assumption) ?_
  rotate_left 1
  · intro W hSw
    try dsimp only at hSw
    obtain ⟨_, _, _, _, _⟩ := hSw
    go_simp
    try with_reducible rfl
  try simp only [Act.put, List.setIfInBounds_toArray, List.set_cons_zero, List.set_cons_succ]
  refine wpAnyH_take (i := 14) (oi := { dst := some 17, op := Op.nilCheck (Operand.tmp 16), type := 0, pos := "l02_layers.go:376", after := #[{ on := 13, ground := Ground.data }], guard := none }) (v := ?_) rfl (by kernel_rfl) (by kernel_rfl) (by kernel_rfl) (fun _ _ _ h => h) (Or.inl ⟨by rfl, ?_⟩) (by assumption) ?_
  rotate_left 1
  · intro W hSw
    try dsimp only at hSw
    obtain ⟨_, _, _, _, _⟩ := hSw
    go_simp
    try with_reducible rfl
  try simp only [Act.put, List.setIfInBounds_toArray, List.set_cons_zero, List.set_cons_succ]
  refine wpAnyH_take (i := 2) (oi := { dst := some 5, op := Op.fieldAddr 34 (Operand.tmp 4) 0, type := 0, pos := "l02_layers.go:376", after := #[{ on := 1, ground := Ground.data }], guard := none }) (v := ?_) rfl (by kernel_rfl) (by kernel_rfl) (by kernel_rfl) (fun _ _ _ h => h) (Or.inl ⟨by rfl, ?_⟩) (by assumption) ?_
  rotate_left 1
  · intro W hSw
    try dsimp only at hSw
    obtain ⟨_, _, _, _, _⟩ := hSw
    go_simp
    try with_reducible rfl
  try simp only [Act.put, List.setIfInBounds_toArray, List.set_cons_zero, List.set_cons_succ]
  refine wpAnyH_take (i := 8) (oi := { dst := some 11, op := Op.fieldAddr 34 (Operand.tmp 10) 1, type := 0, pos := "l02_layers.go:376", after := #[{ on := 7, ground := Ground.data }], guard := none }) (v := ?_) rfl (by kernel_rfl) (by kernel_rfl) (by kernel_rfl) (fun _ _ _ h => h) (Or.inl ⟨by rfl, ?_⟩) (by assumption) ?_
  rotate_left 1
  · intro W hSw
    try dsimp only at hSw
    obtain ⟨_, _, _, _, _⟩ := hSw
    go_simp
    try with_reducible rfl
  try simp only [Act.put, List.setIfInBounds_toArray, List.set_cons_zero, List.set_cons_succ]
  refine wpAnyH_take (i := 15) (oi := { dst := some 18, op := Op.fieldAddr 34 (Operand.tmp 17) 2, type := 0, pos := "l02_layers.go:376", after := #[{ on := 14, ground := Ground.data }], guard := none }) (v := ?_) rfl (by kernel_rfl) (by kernel_rfl) (by kernel_rfl) (fun _ _ _ h => h) (Or.inl ⟨by rfl, ?_⟩) (by assumption) ?_
  rotate_left 1
  · intro W hSw
    try dsimp only at hSw
    obtain ⟨_, _, _, _, _⟩ := hSw
    go_simp
    try with_reducible rfl
  try simp only [Act.put, List.setIfInBounds_toArray, List.set_cons_zero, List.set_cons_succ]
  refine' wpAnyH_take (i := 3) (oi := { dst := some 6, op := Op.load 27 (Operand.tmp 5), type := 27, pos := "l02_layers.go:376", after := #[{ on := 2, ground := Ground.data }], guard := none }) (v := _) rfl (by kernel_rfl) (by kernel_rfl) (by kernel_rfl) (fun _ _ _ h => h) (yieldsIf_load_mid (by rfl) _ _ rfl _ _ rfl (zL z) _ ?hS3 ?hu3 ?hd3 ?hi3) (by assumption) ?rest3
  case hS3 => exact fun W h => h.1
  case hu3 => exact hu
  case hd3 => rfl
  case hi3 => exact i1
  try simp only [Act.put, List.setIfInBounds_toArray, List.set_cons_zero, List.set_cons_succ]
  refine' wpAnyH_take (i := 9) (oi := { dst := some 12, op := Op.load 27 (Operand.tmp 11), type := 27, pos := "l02_layers.go:376", after := #[{ on := 8, ground := Ground.data }], guard := none }) (v := _) rfl (by kernel_rfl) (by kernel_rfl) (by kernel_rfl) (fun _ _ _ h => h) (yieldsIf_load_mid (by rfl) _ _ rfl _ _ rfl (zL s) _ ?hS9 ?hu9 ?hd9 ?hi9) (by assumption) ?rest9
  case hS9 => exact fun W h => h.2.1
  case hu9 => exact hu
  case hd9 => rfl
  case hi9 => exact i2
  try simp only [Act.put, List.setIfInBounds_toArray, List.set_cons_zero, List.set_cons_succ]
  refine wpAnyH_take (i := 16) (oi := { dst := some 19, op := Op.load 22 (Operand.tmp 18), type := 22, pos := "l02_layers.go:376", after := #[{ on := 15, ground := Ground.data }], guard := none }) (v := ?_) rfl (by kernel_rfl) (by kernel_rfl) (by kernel_rfl) (fun _ _ _ h => h) (Or.inl ⟨by rfl, ?_⟩) (by assumption) ?_
  rotate_left 1
  · intro W hSw
    try dsimp only at hSw
    obtain ⟨_, _, _, _, _⟩ := hSw
    go_simp
    try with_reducible rfl
  try simp only [Act.put, List.setIfInBounds_toArray, List.set_cons_zero, List.set_cons_succ]
  refine wpAnyH_ready (rs := [4]) (by kernel_rfl) (by simp) ?_
  refine AllReadyH.cons (o := { dst := some 7, op := Op.call { callee := Callee.value (Operand.func 22), args := #[Operand.tmp 6], argTypes := #[27] }, type := 9, pos := "l02_layers.go:376", after := #[{ on := 3, ground := Ground.data }], guard := none }) rfl (fun K hK => ?_) AllReadyH.nil
  rw [if_pos (by rfl)]
  go_wp2_with (go_at_call 22; refine (hz _).mono ?_; rintro e w1 ⟨rfl, hb1⟩)
  refine hK.out _ _ (ls_below hHeld hb1) (fun hHeld => ?_)
  clear hK K
  try simp only [Act.put, List.setIfInBounds_toArray, List.set_cons_zero, List.set_cons_succ]
  refine wpAnyH_take (i := 5) (oi := { dst := some 8, op := Op.binOp BinOp.add 9 (Operand.tmp 7) (Operand.const (Value.string { data := #[10] })) 9, type := 9, pos := "l02_layers.go:376", after := #[{ on := 4, ground := Ground.data }], guard := none }) (v := ?_) rfl (by kernel_rfl) (by kernel_rfl) (by kernel_rfl) (fun _ _ _ h => h) (Or.inl ⟨by rfl, ?_⟩) (by assumption) ?_
  rotate_left 1
  · intro W hSw
    try dsimp only at hSw
    obtain ⟨_, _, _, _, _⟩ := hSw
    go_simp
    try with_reducible rfl
  try simp only [Act.put, List.setIfInBounds_toArray, List.set_cons_zero, List.set_cons_succ]
  refine wpAnyH_ready (rs := [10]) (by kernel_rfl) (by simp) ?_
  refine AllReadyH.cons (o := { dst := some 13, op := Op.call { callee := Callee.value (Operand.func 22), args := #[Operand.tmp 12], argTypes := #[27] }, type := 9, pos := "l02_layers.go:376", after := #[{ on := 9, ground := Ground.data }, { on := 4, ground := Ground.chain }], guard := none }) rfl (fun K hK => ?_) AllReadyH.nil
  rw [if_pos (by rfl)]
  go_wp2_with (go_at_call 22; refine (hs _).mono ?_; rintro e w2 ⟨rfl, hb2⟩)
  refine hK.out _ _ (ls_below hHeld hb2) (fun hHeld => ?_)
  clear hK K
  try simp only [Act.put, List.setIfInBounds_toArray, List.set_cons_zero, List.set_cons_succ]
  refine wpAnyH_take (i := 11) (oi := { dst := some 14, op := Op.binOp BinOp.add 9 (Operand.tmp 8) (Operand.tmp 13) 9, type := 9, pos := "l02_layers.go:376", after := #[{ on := 5, ground := Ground.data }, { on := 10, ground := Ground.data }], guard := none }) (v := ?_) rfl (by kernel_rfl) (by kernel_rfl) (by kernel_rfl) (fun _ _ _ h => h) (Or.inl ⟨by rfl, ?_⟩) (by assumption) ?_
  rotate_left 1
  · intro W hSw
    try dsimp only at hSw
    obtain ⟨_, _, _, _, _⟩ := hSw
    go_simp
    try with_reducible rfl
  try simp only [Act.put, List.setIfInBounds_toArray, List.set_cons_zero, List.set_cons_succ]
  refine wpAnyH_take (i := 12) (oi := { dst := some 15, op := Op.binOp BinOp.add 9 (Operand.tmp 14) (Operand.const (Value.string { data := #[10] })) 9, type := 9, pos := "l02_layers.go:376", after := #[{ on := 11, ground := Ground.data }], guard := none }) (v := ?_) rfl (by kernel_rfl) (by kernel_rfl) (by kernel_rfl) (fun _ _ _ h => h) (Or.inl ⟨by rfl, ?_⟩) (by assumption) ?_
  rotate_left 1
  · intro W hSw
    try dsimp only at hSw
    obtain ⟨_, _, _, _, _⟩ := hSw
    go_simp
    try with_reducible rfl
  try simp only [Act.put, List.setIfInBounds_toArray, List.set_cons_zero, List.set_cons_succ]
  refine wpAnyH_ready (rs := [17]) (by kernel_rfl) (by simp) ?_
  refine AllReadyH.cons (o := { dst := some 20, op := Op.call { callee := Callee.value (Operand.func 18), args := #[Operand.tmp 19], argTypes := #[22] }, type := 9, pos := "l02_layers.go:376", after := #[{ on := 16, ground := Ground.data }, { on := 10, ground := Ground.chain }], guard := none }) rfl (fun K hK => ?_) AllReadyH.nil
  rw [if_pos (by rfl)]
  go_wp2_with (go_at_call 18; refine (ht _).mono ?_; rintro e w3 ⟨rfl, hb3⟩)
  refine hK.out _ _ (ls_below hHeld hb3) (fun hHeld => ?_)
  clear hK K
  try simp only [Act.put, List.setIfInBounds_toArray, List.set_cons_zero, List.set_cons_succ]
  refine wpAnyH_take (i := 18) (oi := { dst := some 21, op := Op.binOp BinOp.add 9 (Operand.tmp 15) (Operand.tmp 20) 9, type := 9, pos := "l02_layers.go:376", after := #[{ on := 12, ground := Ground.data }, { on := 17, ground := Ground.data }], guard := none }) (v := ?_) rfl (by kernel_rfl) (by kernel_rfl) (by kernel_rfl) (fun _ _ _ h => h) (Or.inl ⟨by rfl, ?_⟩) (by assumption) ?_
  rotate_left 1
  · intro W hSw
    try dsimp only at hSw
    obtain ⟨_, _, _, _, _⟩ := hSw
    go_simp
    try with_reducible rfl
  try simp only [Act.put, List.setIfInBounds_toArray, List.set_cons_zero, List.set_cons_succ]
  refine wpAnyH_take (i := 19) (oi := { dst := some 22, op := Op.binOp BinOp.add 9 (Operand.tmp 21) (Operand.const (Value.string { data := #[10] })) 9, type := 9, pos := "l02_layers.go:376", after := #[{ on := 18, ground := Ground.data }], guard := none }) (v := ?_) rfl (by kernel_rfl) (by kernel_rfl) (by kernel_rfl) (fun _ _ _ h => h) (Or.inl ⟨by rfl, ?_⟩) (by assumption) ?_
  rotate_left 1
  · intro W hSw
    try dsimp only at hSw
    obtain ⟨_, _, _, _, _⟩ := hSw
    go_simp
    try with_reducible rfl
  try simp only [Act.put, List.setIfInBounds_toArray, List.set_cons_zero, List.set_cons_succ]
  refine wpAnyH_ready (rs := [20]) (by kernel_rfl) (by simp) ?_
  refine AllReadyH.cons (o := _) rfl (fun K hK => ?_) AllReadyH.nil
  rw [if_pos (by rfl)]
  go_wp2_with fail
  refine hK.out _ _ hHeld (fun hHeld => ?_)
  clear hK K
  refine wpAnyH_done (by kernel_rfl) ?_ _
  go_wp2
  go_ret
  exact ⟨rfl, hHeld.2.2.2.2⟩
end Tx
end Go.Proofs.YtoboldhdmejnpaaDoor
end
