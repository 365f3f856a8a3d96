/-
  Deeds that are not valid have no text. No condition.
-/
import Derived.Test.YtjbbljlefmgieaaDoorTb
noncomputable section
namespace Go.Proofs.YtjbbljlefmgieaaDoor
namespace Tx
open Go Go.RowKit
set_option maxHeartbeats 1000000 in
set_option maxRecDepth 100000 in
theorem vdf (k a : Int) (w : World) (hk : k = 5 ∨ k = 6) (h3 : 0 ≤ a) (h4 : a ≤ 999) (h : a ≠ 0) : Calls Tryd.prog 25 #[.agg #[.int .i64 k, .int .i64 a]] w fun e w' => e = .returned (.bool false) ∧ Below w.heap.size w w' := by
  rcases hk with rfl | rfl <;>
  · go_enter Tryd.func25, Tryd.ntmps25
    go_wp2
    all_goals go_ret
    all_goals refine ⟨by simp [h], ?_⟩
    all_goals repeat (first | exact Below.refl _ _ | apply Below.drew | apply bA)
set_option maxHeartbeats 1000000 in
set_option maxRecDepth 100000 in
theorem sdf (k a : Int) (w : World) (hk : k = 5 ∨ k = 6) (h3 : 0 ≤ a) (h4 : a ≤ 999) (h : a ≠ 0) : Calls Tryd.prog 20 #[.agg #[.int .i64 k, .int .i64 a]] w fun e w' => e = .returned (.bool false) ∧ Below w.heap.size w w' := by
  rcases hk with rfl | rfl <;>
  · go_enter Tryd.func20, Tryd.ntmps20
    go_wp2
    all_goals go_ret
    all_goals refine ⟨by simp [h], ?_⟩
    all_goals repeat (first | exact Below.refl _ _ | apply Below.drew | apply bA)
set_option maxHeartbeats 1000000 in
set_option maxRecDepth 100000 in
theorem impl_b1 (k a : Int) (w : World) (h : k < 1) : Calls Tryd.prog 26 #[.agg #[.int .i64 k, .int .i64 a]] w fun e w' => e = .returned (.string ⟨#[]⟩) ∧ Below w.heap.size w w' := by
  go_enter Tryd.func26, Tryd.ntmps26
  go_wp2
  all_goals go_ret
  all_goals refine ⟨rfl, ?_⟩
  all_goals repeat (first | exact Below.refl _ _ | apply Below.drew | apply bA)
set_option maxHeartbeats 1000000 in
set_option maxRecDepth 100000 in
theorem impl_b2 (k a : Int) (w : World) (h1 : 1 ≤ k) (h : 6 < k) : Calls Tryd.prog 26 #[.agg #[.int .i64 k, .int .i64 a]] w fun e w' => e = .returned (.string ⟨#[]⟩) ∧ Below w.heap.size w w' := by
  go_enter Tryd.func26, Tryd.ntmps26
  go_wp2
  all_goals go_ret
  all_goals refine ⟨rfl, ?_⟩
  all_goals repeat (first | exact Below.refl _ _ | apply Below.drew | apply bA)
set_option maxHeartbeats 1000000 in
set_option maxRecDepth 100000 in
theorem impl_b3 (k a : Int) (w : World) (h1 : 1 ≤ k) (h2 : k ≤ 6) (h : a < 0) : Calls Tryd.prog 26 #[.agg #[.int .i64 k, .int .i64 a]] w fun e w' => e = .returned (.string ⟨#[]⟩) ∧ Below w.heap.size w w' := by
  go_enter Tryd.func26, Tryd.ntmps26
  go_wp2
  all_goals go_ret
  all_goals refine ⟨rfl, ?_⟩
  all_goals repeat (first | exact Below.refl _ _ | apply Below.drew | apply bA)
set_option maxHeartbeats 1000000 in
set_option maxRecDepth 100000 in
theorem impl_b4 (k a : Int) (w : World) (h1 : 1 ≤ k) (h2 : k ≤ 6) (h3 : 0 ≤ a) (h : 999 < a) : Calls Tryd.prog 26 #[.agg #[.int .i64 k, .int .i64 a]] w fun e w' => e = .returned (.string ⟨#[]⟩) ∧ Below w.heap.size w w' := by
  go_enter Tryd.func26, Tryd.ntmps26
  go_wp2
  all_goals go_ret
  all_goals refine ⟨rfl, ?_⟩
  all_goals repeat (first | exact Below.refl _ _ | apply Below.drew | apply bA)
set_option maxHeartbeats 1000000 in
set_option maxRecDepth 100000 in
theorem impl_b5 (k a : Int) (w : World) (hk : k = 5 ∨ k = 6) (h3 : 0 ≤ a) (h4 : a ≤ 999) (h : a ≠ 0) : Calls Tryd.prog 26 #[.agg #[.int .i64 k, .int .i64 a]] w fun e w' => e = .returned (.string ⟨#[]⟩) ∧ Below w.heap.size w w' := by
  go_enter Tryd.func26, Tryd.ntmps26
  go_wp2_with (go_at_call 25; refine (vdf k a _ hk h3 h4 h).mono ?_; rintro e w' ⟨rfl, hb⟩)
  go_ret
  exact ⟨rfl, Below.trans (by repeat (first | exact Below.refl _ _ | apply Below.drew | apply bA)) (hb.mono (by simp))⟩
end Tx
end Go.Proofs.YtjbbljlefmgieaaDoor
end
