/-
  Deeds read from their text, by the model. No condition but that the text has at most 2^20 bytes.
-/
import Derived.Test.YtjbbljlefmgieaaDoorQa
import Derived.Deep.QuietTactic
import Derived.BigQuiet
noncomputable section
namespace Go.Proofs.YtjbbljlefmgieaaDoor
namespace Tx
open Go Go.RowKit
/-- what the model's cut leaves: N pieces, the first two -/
def Cu (s : ByteArray) (N : Nat) (x y : ByteArray) : Prop := ∀ w, Calls Tryd.prog 17 #[.string s, .int .u8 32] w fun e w' =>
  ∃ g cap, e = .returned (.slice (some ⟨g, 0, none⟩) N cap) ∧ w.heap.size ≤ g ∧ g < w'.heap.size ∧ w'.cell? ⟨g, 0, none⟩ = some (.string x) ∧ (N = 2 → w'.cell? ⟨g, 1, none⟩ = some (.string y)) ∧ Below w.heap.size w w'
theorem cu_calls (s : ByteArray) (hs : s.size ≤ 1048576) : Cu s (pieces 32 (bL s)).length (bS (pc0 (bL s))) (bS (pc1 (bL s))) := fun w => split2 s hs w
theorem below_drewN {B : Nat} {a w : World} (h : Below B a w) (k : Nat) : Below B a (w.drewN k) := ⟨h.os, h.tape, h.output, h.size, h.block⟩
set_option maxHeartbeats 4000000 in
set_option maxRecDepth 100000 in
theorem lw_calls (w : World) : Calls Tryd.prog 18 #[] w fun e w' => e = .returned (.tuple #[.slice (some ⟨w.heap.size, 0, none⟩) 7 7, .slice (some ⟨w.heap.size + 1, 0, none⟩) 7 7]) ∧ w' = (w.alloc (.cells wordsA 9)).alloc (.cells #[.int .i64 0, .int .i64 1, .int .i64 1, .int .i64 1, .int .i64 1, .int .i64 0, .int .i64 0] 3) := by
  unfold wordsA
  go_enter Tryd.func18, Tryd.ntmps18
  go_wp2
  go_ret2
  exact ⟨rfl, rfl⟩
set_option maxHeartbeats 4000000 in
set_option maxRecDepth 100000 in
theorem li_true (n a b : Int) (w : World) (h : a ≤ n) (k : n ≤ b) : Calls Tryd.prog 37 #[.int .i64 n, .int .i64 a, .int .i64 b] w fun e w' => e = .returned (.bool true) ∧ w' = w := by
  go_enter Tryd.func37, Tryd.ntmps37
  go_wp2
  go_ret
  exact ⟨rfl, rfl⟩
set_option maxHeartbeats 4000000 in
set_option maxRecDepth 100000 in
theorem li_hi (n a b : Int) (w : World) (h : a ≤ n) (k : b < n) : Calls Tryd.prog 37 #[.int .i64 n, .int .i64 a, .int .i64 b] w fun e w' => e = .returned (.bool false) ∧ w' = w := by
  have q : decide (n ≤ b) = false := by simp; omega
  go_enter Tryd.func37, Tryd.ntmps37
  go_wp2
  go_ret
  exact ⟨rfl, rfl⟩
set_option maxHeartbeats 4000000 in
set_option maxRecDepth 100000 in
theorem sd_1 (a : Int) (w : World) (h0 : 0 ≤ a) (h1 : a ≤ 999) : Calls Tryd.prog 20 #[.agg #[.int .i64 1, .int .i64 a]] w fun e w' => e = .returned (.bool true) ∧ Below w.heap.size w w' := by
  go_enter Tryd.func20, Tryd.ntmps20
  go_wp2_with (first | (go_at_call 37; refine (li_true _ _ _ _ (by omega) (by omega)).mono ?_; rintro e w3 ⟨rfl, hw⟩; subst hw) | (go_at_call 18; refine (lw_calls _).mono ?_; rintro e w2 ⟨rfl, hw⟩; subst hw; unfold wordsA))
  go_ret
  exact ⟨rfl, by repeat (first | exact Below.refl _ _ | apply below_drewN | apply Below.drew | apply bA)⟩
set_option maxHeartbeats 4000000 in
set_option maxRecDepth 100000 in
theorem sd_2 (a : Int) (w : World) (h0 : 0 ≤ a) (h1 : a ≤ 999) : Calls Tryd.prog 20 #[.agg #[.int .i64 2, .int .i64 a]] w fun e w' => e = .returned (.bool true) ∧ Below w.heap.size w w' := by
  go_enter Tryd.func20, Tryd.ntmps20
  go_wp2_with (first | (go_at_call 37; refine (li_true _ _ _ _ (by omega) (by omega)).mono ?_; rintro e w3 ⟨rfl, hw⟩; subst hw) | (go_at_call 18; refine (lw_calls _).mono ?_; rintro e w2 ⟨rfl, hw⟩; subst hw; unfold wordsA))
  go_ret
  exact ⟨rfl, by repeat (first | exact Below.refl _ _ | apply below_drewN | apply Below.drew | apply bA)⟩
set_option maxHeartbeats 4000000 in
set_option maxRecDepth 100000 in
theorem sd_3 (a : Int) (w : World) (h0 : 0 ≤ a) (h1 : a ≤ 999) : Calls Tryd.prog 20 #[.agg #[.int .i64 3, .int .i64 a]] w fun e w' => e = .returned (.bool true) ∧ Below w.heap.size w w' := by
  go_enter Tryd.func20, Tryd.ntmps20
  go_wp2_with (first | (go_at_call 37; refine (li_true _ _ _ _ (by omega) (by omega)).mono ?_; rintro e w3 ⟨rfl, hw⟩; subst hw) | (go_at_call 18; refine (lw_calls _).mono ?_; rintro e w2 ⟨rfl, hw⟩; subst hw; unfold wordsA))
  go_ret
  exact ⟨rfl, by repeat (first | exact Below.refl _ _ | apply below_drewN | apply Below.drew | apply bA)⟩
set_option maxHeartbeats 4000000 in
set_option maxRecDepth 100000 in
theorem sd_4 (a : Int) (w : World) (h0 : 0 ≤ a) (h1 : a ≤ 999) : Calls Tryd.prog 20 #[.agg #[.int .i64 4, .int .i64 a]] w fun e w' => e = .returned (.bool true) ∧ Below w.heap.size w w' := by
  go_enter Tryd.func20, Tryd.ntmps20
  go_wp2_with (first | (go_at_call 37; refine (li_true _ _ _ _ (by omega) (by omega)).mono ?_; rintro e w3 ⟨rfl, hw⟩; subst hw) | (go_at_call 18; refine (lw_calls _).mono ?_; rintro e w2 ⟨rfl, hw⟩; subst hw; unfold wordsA))
  go_ret
  exact ⟨rfl, by repeat (first | exact Below.refl _ _ | apply below_drewN | apply Below.drew | apply bA)⟩
set_option maxHeartbeats 4000000 in
set_option maxRecDepth 100000 in
theorem sd_5 (w : World) : Calls Tryd.prog 20 #[.agg #[.int .i64 5, .int .i64 0]] w fun e w' => e = .returned (.bool true) ∧ Below w.heap.size w w' := by
  go_enter Tryd.func20, Tryd.ntmps20
  go_wp2_with (first | (go_at_call 37; refine (li_true _ _ _ _ (by omega) (by omega)).mono ?_; rintro e w3 ⟨rfl, hw⟩; subst hw) | (go_at_call 18; refine (lw_calls _).mono ?_; rintro e w2 ⟨rfl, hw⟩; subst hw; unfold wordsA))
  go_ret
  exact ⟨rfl, by repeat (first | exact Below.refl _ _ | apply below_drewN | apply Below.drew | apply bA)⟩
set_option maxHeartbeats 4000000 in
set_option maxRecDepth 100000 in
theorem sd_6 (w : World) : Calls Tryd.prog 20 #[.agg #[.int .i64 6, .int .i64 0]] w fun e w' => e = .returned (.bool true) ∧ Below w.heap.size w w' := by
  go_enter Tryd.func20, Tryd.ntmps20
  go_wp2_with (first | (go_at_call 37; refine (li_true _ _ _ _ (by omega) (by omega)).mono ?_; rintro e w3 ⟨rfl, hw⟩; subst hw) | (go_at_call 18; refine (lw_calls _).mono ?_; rintro e w2 ⟨rfl, hw⟩; subst hw; unfold wordsA))
  go_ret
  exact ⟨rfl, by repeat (first | exact Below.refl _ _ | apply below_drewN | apply Below.drew | apply bA)⟩
set_option maxHeartbeats 4000000 in
set_option maxRecDepth 100000 in
theorem sb_1 (a : Int) (w : World) (h0 : 0 ≤ a) (h1 : 999 < a) : Calls Tryd.prog 20 #[.agg #[.int .i64 1, .int .i64 a]] w fun e w' => e = .returned (.bool false) ∧ Below w.heap.size w w' := by
  have h5 : decide (a ≤ 999) = false := by simp; omega
  go_enter Tryd.func20, Tryd.ntmps20
  go_wp2_with (first | (go_at_call 37; refine (li_true _ _ _ _ (by omega) (by omega)).mono ?_; rintro e w3 ⟨rfl, hw⟩; subst hw) | (go_at_call 37; refine (li_hi _ _ _ _ (by omega) (by omega)).mono ?_; rintro e w3 ⟨rfl, hw⟩; subst hw))
  go_ret
  exact ⟨rfl, by repeat (first | exact Below.refl _ _ | apply below_drewN | apply Below.drew | apply bA)⟩
set_option maxHeartbeats 4000000 in
set_option maxRecDepth 100000 in
theorem sb_2 (a : Int) (w : World) (h0 : 0 ≤ a) (h1 : 999 < a) : Calls Tryd.prog 20 #[.agg #[.int .i64 2, .int .i64 a]] w fun e w' => e = .returned (.bool false) ∧ Below w.heap.size w w' := by
  have h5 : decide (a ≤ 999) = false := by simp; omega
  go_enter Tryd.func20, Tryd.ntmps20
  go_wp2_with (first | (go_at_call 37; refine (li_true _ _ _ _ (by omega) (by omega)).mono ?_; rintro e w3 ⟨rfl, hw⟩; subst hw) | (go_at_call 37; refine (li_hi _ _ _ _ (by omega) (by omega)).mono ?_; rintro e w3 ⟨rfl, hw⟩; subst hw))
  go_ret
  exact ⟨rfl, by repeat (first | exact Below.refl _ _ | apply below_drewN | apply Below.drew | apply bA)⟩
set_option maxHeartbeats 4000000 in
set_option maxRecDepth 100000 in
theorem sb_3 (a : Int) (w : World) (h0 : 0 ≤ a) (h1 : 999 < a) : Calls Tryd.prog 20 #[.agg #[.int .i64 3, .int .i64 a]] w fun e w' => e = .returned (.bool false) ∧ Below w.heap.size w w' := by
  have h5 : decide (a ≤ 999) = false := by simp; omega
  go_enter Tryd.func20, Tryd.ntmps20
  go_wp2_with (first | (go_at_call 37; refine (li_true _ _ _ _ (by omega) (by omega)).mono ?_; rintro e w3 ⟨rfl, hw⟩; subst hw) | (go_at_call 37; refine (li_hi _ _ _ _ (by omega) (by omega)).mono ?_; rintro e w3 ⟨rfl, hw⟩; subst hw))
  go_ret
  exact ⟨rfl, by repeat (first | exact Below.refl _ _ | apply below_drewN | apply Below.drew | apply bA)⟩
set_option maxHeartbeats 4000000 in
set_option maxRecDepth 100000 in
theorem sb_4 (a : Int) (w : World) (h0 : 0 ≤ a) (h1 : 999 < a) : Calls Tryd.prog 20 #[.agg #[.int .i64 4, .int .i64 a]] w fun e w' => e = .returned (.bool false) ∧ Below w.heap.size w w' := by
  have h5 : decide (a ≤ 999) = false := by simp; omega
  go_enter Tryd.func20, Tryd.ntmps20
  go_wp2_with (first | (go_at_call 37; refine (li_true _ _ _ _ (by omega) (by omega)).mono ?_; rintro e w3 ⟨rfl, hw⟩; subst hw) | (go_at_call 37; refine (li_hi _ _ _ _ (by omega) (by omega)).mono ?_; rintro e w3 ⟨rfl, hw⟩; subst hw))
  go_ret
  exact ⟨rfl, by repeat (first | exact Below.refl _ _ | apply below_drewN | apply Below.drew | apply bA)⟩
end Tx
end Go.Proofs.YtjbbljlefmgieaaDoor
end
