/-
  The same curve, by the law's own test. No condition.
-/
import Derived.Test.YtbidagapkcmfnaaDoorCv
import Derived.Test.YtbidagapkcmfnaaDoorSf
import Derived.Deep.QuietTactic
import Derived.BigQuiet
import Derived.Deep.RegionHeld3
noncomputable section
namespace Go.Proofs.YtbidagapkcmfnaaDoor
namespace Tx
open Go Go.RowKit
theorem below_drewN {B : Nat} {a w : World} (h : Below B a w) (k : Nat) : Below B a (w.drewN k) := ⟨h.os, h.tape, h.output, h.size, h.block⟩
/-- two curves lie in their blocks -/
def Two (z : Nat → Nat) (b c : Nat) (w : World) : Prop := b < w.heap.size ∧ c < w.heap.size ∧ (∀ j, j < 16 → w.cell? ⟨b, j, none⟩ = some (.float .f32 (z j))) ∧ ∀ j, j < 16 → w.cell? ⟨c, j, none⟩ = some (.float .f32 (z j))
theorem two_new (z : Nat → Nat) (w : World) (t : TypeId) : Two z w.heap.size (w.heap.size + 1) ((w.alloc (.cells (zL z).toArray t)).alloc (.cells (zL z).toArray t)) := by
  refine ⟨by simp; omega, by simp, fun j hj => ?_, fun j hj => ?_⟩
  · rw [World.cell?_alloc_old (h := by simp), World.cell?_alloc_at (hn := rfl)]
    simpa using at_zL z hj
  · rw [World.cell?_alloc_at (hn := by simp)]
    simpa using at_zL z hj
theorem two_drewN {z : Nat → Nat} {b c n : Nat} {w : World} (h : Two z b c w) : Two z b c (w.drewN n) := h
theorem two_drew {z : Nat → Nat} {b c : Nat} {w : World} (h : Two z b c w) : Two z b c w.drew := h
def EqR (z : Nat → Nat) (w : World) (vi : Value) (wr : World) : Prop :=
  ∃ k : Nat, k ≤ 16 ∧ vi = .int .i64 k ∧ Two z w.heap.size (w.heap.size + 1) wr ∧ Below w.heap.size w wr
set_option maxHeartbeats 2000000 in
set_option maxRecDepth 100000 in
theorem eqc_calls (z : Nat → Nat) (w : World) : Calls Tryd.prog 11 #[cvV z, cvV z] w fun e w' => e = .returned (.bool true) ∧ Below w.heap.size w w' := by
  unfold cvV
  have hN := two_new z w 29
  have hB : Below w.heap.size w ((w.alloc (.cells (zL z).toArray 29)).alloc (.cells (zL z).toArray 29)) := bA (bA (Below.refl _ _) _) _
  go_enter Tryd.func11, Tryd.ntmps11
  go_wp2
  go_loopw [5] (EqR z w) (fun vi _ => 16 - (intOf vi).toNat)
  case atStart => exact ⟨0, Nat.zero_le _, rfl, hN, hB⟩
  case round =>
    obtain ⟨k, hk, rfl, hT, hB⟩ := hrel
    by_cases hlt : k < 16
    · have c := hT.2.2.1 k hlt
      have d := hT.2.2.2 k hlt
      cases hn : Ev.isN .f32 (z k) with
      | false =>
        obtain ⟨x, hx, hC⟩ := conv_num hn
        have hsf := fun W => sf_num hx W
        clear hn hx
        go_wp2_with fail
        go_quiet ((go_at_call 8; exact Calls.quiet_of_same (hsf _)))
        go_wp2
        go_roundw
        case rel => exact ⟨k + 1, hlt, by go_num, two_drewN hT, by repeat (first | assumption | apply below_drewN | apply Below.drew)⟩
        case measure => simp [intOf]; omega
      | true =>
        obtain ⟨x, hx, hC⟩ := conv_nan hn
        have hsf := fun W W' w => sf_nan (hx W) (hx W') w
        clear hn hx
        go_wp2_with fail
        refine wp_region_held_drew (S := fun W => Two z w.heap.size (w.heap.size + 1) W ∧ Below w.heap.size w W) (by kernel_rfl) ⟨two_drew hT, hB.drew⟩ (fun hHeld => ?_)
        clear c d hT hB
        refine wpAnyH_take (i := 0) (oi := { dst := some 10, op := Op.move (Operand.tmp 5), type := 3, pos := "exact.go:110", after := #[], guard := none }) (v := ?_) rfl (by kernel_rfl) (by kernel_rfl) (by kernel_rfl) (fun _ _ _ h => h) (Or.inl ⟨by rfl, ?_⟩) (by assumption) ?_
        rotate_left 1
        · intro W hSw
          have c := hSw.1.2.2.1 k hlt
          have d := hSw.1.2.2.2 k hlt
          clear hSw
          go_simp
          try with_reducible rfl
        try simp only [Act.put, List.setIfInBounds_toArray, List.set_cons_zero, List.set_cons_succ]
        refine wpAnyH_take (i := 1) (oi := { dst := some 11, op := Op.indexAddr 29 (Operand.tmp 2) (Operand.tmp 10), type := 0, pos := "exact.go:110", after := #[{ on := 0, ground := Ground.data }], guard := none }) (v := ?_) rfl (by kernel_rfl) (by kernel_rfl) (by kernel_rfl) (fun _ _ _ h => h) (Or.inl ⟨by rfl, ?_⟩) (by assumption) ?_
        rotate_left 1
        · intro W hSw
          have c := hSw.1.2.2.1 k hlt
          have d := hSw.1.2.2.2 k hlt
          clear hSw
          go_simp
          try with_reducible rfl
        try simp only [Act.put, List.setIfInBounds_toArray, List.set_cons_zero, List.set_cons_succ]
        refine wpAnyH_take (i := 2) (oi := { dst := some 12, op := Op.load 22 (Operand.tmp 11), type := 22, pos := "exact.go:110", after := #[{ on := 1, ground := Ground.data }], guard := none }) (v := ?_) rfl (by kernel_rfl) (by kernel_rfl) (by kernel_rfl) (fun _ _ _ h => h) (Or.inl ⟨by rfl, ?_⟩) (by assumption) ?_
        rotate_left 1
        · intro W hSw
          have c := hSw.1.2.2.1 k hlt
          have d := hSw.1.2.2.2 k hlt
          clear hSw
          go_simp
          try with_reducible rfl
        try simp only [Act.put, List.setIfInBounds_toArray, List.set_cons_zero, List.set_cons_succ]
        refine wpAnyH_take (i := 4) (oi := { dst := some 14, op := Op.move (Operand.tmp 5), type := 3, pos := "exact.go:110", after := #[], guard := none }) (v := ?_) rfl (by kernel_rfl) (by kernel_rfl) (by kernel_rfl) (fun _ _ _ h => h) (Or.inl ⟨by rfl, ?_⟩) (by assumption) ?_
        rotate_left 1
        · intro W hSw
          have c := hSw.1.2.2.1 k hlt
          have d := hSw.1.2.2.2 k hlt
          clear hSw
          go_simp
          try with_reducible rfl
        try simp only [Act.put, List.setIfInBounds_toArray, List.set_cons_zero, List.set_cons_succ]
        refine wpAnyH_take (i := 5) (oi := { dst := some 15, op := Op.indexAddr 29 (Operand.tmp 3) (Operand.tmp 14), type := 0, pos := "exact.go:110", after := #[{ on := 4, ground := Ground.data }], guard := none }) (v := ?_) rfl (by kernel_rfl) (by kernel_rfl) (by kernel_rfl) (fun _ _ _ h => h) (Or.inl ⟨by rfl, ?_⟩) (by assumption) ?_
        rotate_left 1
        · intro W hSw
          have c := hSw.1.2.2.1 k hlt
          have d := hSw.1.2.2.2 k hlt
          clear hSw
          go_simp
          try with_reducible rfl
        try simp only [Act.put, List.setIfInBounds_toArray, List.set_cons_zero, List.set_cons_succ]
        refine wpAnyH_take (i := 6) (oi := { dst := some 16, op := Op.load 22 (Operand.tmp 15), type := 22, pos := "exact.go:110", after := #[{ on := 5, ground := Ground.data }], guard := none }) (v := ?_) rfl (by kernel_rfl) (by kernel_rfl) (by kernel_rfl) (fun _ _ _ h => h) (Or.inl ⟨by rfl, ?_⟩) (by assumption) ?_
        rotate_left 1
        · intro W hSw
          have c := hSw.1.2.2.1 k hlt
          have d := hSw.1.2.2.2 k hlt
          clear hSw
          go_simp
          try with_reducible rfl
        try simp only [Act.put, List.setIfInBounds_toArray, List.set_cons_zero, List.set_cons_succ]
        refine wpAnyH_ready (rs := [3, 7]) (by kernel_rfl) (by simp) ?_
        refine AllReadyH.cons (o := { dst := some 13, op := Op.convert 22 26 (Operand.tmp 12), type := 26, pos := "exact.go:110", after := #[{ on := 2, ground := Ground.data }], guard := none }) rfl (fun K hK => ?_) (AllReadyH.cons (o := { dst := some 17, op := Op.convert 22 26 (Operand.tmp 16), type := 26, pos := "exact.go:110", after := #[{ on := 6, ground := Ground.data }], guard := none }) rfl (fun K hK => ?_) AllReadyH.nil)
        ·   rw [if_pos (by rfl)]
            go_wp2_with fail
            refine hK.out _ _ ⟨two_drew hHeld.1, hHeld.2.drew⟩ (fun hHeld => ?_)
            clear hK K
            try simp only [Act.put, List.setIfInBounds_toArray, List.set_cons_zero, List.set_cons_succ]
            refine wpAnyH_ready (rs := [7]) (by kernel_rfl) (by simp) ?_
            refine AllReadyH.cons (o := { dst := some 17, op := Op.convert 22 26 (Operand.tmp 16), type := 26, pos := "exact.go:110", after := #[{ on := 6, ground := Ground.data }], guard := none }) rfl (fun K hK => ?_) AllReadyH.nil
            rw [if_pos (by rfl)]
            go_wp2_with fail
            refine hK.out _ _ ⟨two_drew hHeld.1, hHeld.2.drew⟩ (fun hHeld => ?_)
            clear hK K
            try simp only [Act.put, List.setIfInBounds_toArray, List.set_cons_zero, List.set_cons_succ]
            refine wpAnyH_ready (rs := [8]) (by kernel_rfl) (by simp) ?_
            refine AllReadyH.cons (o := { dst := some 18, op := Op.call { callee := Callee.value (Operand.func 8), args := #[Operand.tmp 13, Operand.tmp 17], argTypes := #[26, 26] }, type := 4, pos := "exact.go:110", after := #[{ on := 3, ground := Ground.data }, { on := 7, ground := Ground.data }], guard := none }) rfl (fun K hK => ?_) AllReadyH.nil
            rw [if_pos (by rfl)]
            go_wp2_with (go_at_call 8; refine (hsf _ _ _).mono ?_; rintro e w1 ⟨rfl, hw⟩; subst hw)
            refine hK.out _ _ hHeld (fun hHeld => ?_)
            clear hK K
            try simp only [Act.put, List.setIfInBounds_toArray, List.set_cons_zero, List.set_cons_succ]
            refine wpAnyH_ready (rs := [9]) (by kernel_rfl) (by simp) ?_
            refine AllReadyH.cons (o := { dst := some 19, op := Op.unOp UnOp.not 4 (Operand.tmp 18), type := 4, pos := "exact.go:110", after := #[{ on := 8, ground := Ground.data }], guard := none }) rfl (fun K hK => ?_) AllReadyH.nil
            rw [if_pos (by rfl)]
            go_wp2_with fail
            refine hK.out _ _ hHeld (fun hHeld => ?_)
            clear hK K
            try simp only [Act.put, List.setIfInBounds_toArray, List.set_cons_zero, List.set_cons_succ]
            refine wpAnyH_done (by kernel_rfl) ?_ _
            go_wp2
            go_roundw
            case rel => exact ⟨k + 1, hlt, by go_num, hHeld.1, hHeld.2⟩
            case measure => simp [intOf]; omega
        ·   rw [if_pos (by rfl)]
            go_wp2_with fail
            refine hK.out _ _ ⟨two_drew hHeld.1, hHeld.2.drew⟩ (fun hHeld => ?_)
            clear hK K
            try simp only [Act.put, List.setIfInBounds_toArray, List.set_cons_zero, List.set_cons_succ]
            refine wpAnyH_ready (rs := [3]) (by kernel_rfl) (by simp) ?_
            refine AllReadyH.cons (o := { dst := some 13, op := Op.convert 22 26 (Operand.tmp 12), type := 26, pos := "exact.go:110", after := #[{ on := 2, ground := Ground.data }], guard := none }) rfl (fun K hK => ?_) AllReadyH.nil
            rw [if_pos (by rfl)]
            go_wp2_with fail
            refine hK.out _ _ ⟨two_drew hHeld.1, hHeld.2.drew⟩ (fun hHeld => ?_)
            clear hK K
            try simp only [Act.put, List.setIfInBounds_toArray, List.set_cons_zero, List.set_cons_succ]
            refine wpAnyH_ready (rs := [8]) (by kernel_rfl) (by simp) ?_
            refine AllReadyH.cons (o := { dst := some 18, op := Op.call { callee := Callee.value (Operand.func 8), args := #[Operand.tmp 13, Operand.tmp 17], argTypes := #[26, 26] }, type := 4, pos := "exact.go:110", after := #[{ on := 3, ground := Ground.data }, { on := 7, ground := Ground.data }], guard := none }) rfl (fun K hK => ?_) AllReadyH.nil
            rw [if_pos (by rfl)]
            go_wp2_with (go_at_call 8; refine (hsf _ _ _).mono ?_; rintro e w1 ⟨rfl, hw⟩; subst hw)
            refine hK.out _ _ hHeld (fun hHeld => ?_)
            clear hK K
            try simp only [Act.put, List.setIfInBounds_toArray, List.set_cons_zero, List.set_cons_succ]
            refine wpAnyH_ready (rs := [9]) (by kernel_rfl) (by simp) ?_
            refine AllReadyH.cons (o := { dst := some 19, op := Op.unOp UnOp.not 4 (Operand.tmp 18), type := 4, pos := "exact.go:110", after := #[{ on := 8, ground := Ground.data }], guard := none }) rfl (fun K hK => ?_) AllReadyH.nil
            rw [if_pos (by rfl)]
            go_wp2_with fail
            refine hK.out _ _ hHeld (fun hHeld => ?_)
            clear hK K
            try simp only [Act.put, List.setIfInBounds_toArray, List.set_cons_zero, List.set_cons_succ]
            refine wpAnyH_done (by kernel_rfl) ?_ _
            go_wp2
            go_roundw
            case rel => exact ⟨k + 1, hlt, by go_num, hHeld.1, hHeld.2⟩
            case measure => simp [intOf]; omega
    · go_wp2
      go_ret
      exact ⟨rfl, hB⟩
end Tx
end Go.Proofs.YtbidagapkcmfnaaDoor
end
