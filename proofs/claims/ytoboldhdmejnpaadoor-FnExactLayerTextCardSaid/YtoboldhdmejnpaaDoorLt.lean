/-
  Curves, as the law hands them on. No condition.
-/
import Derived.Test.YtoboldhdmejnpaaDoorVb
noncomputable section
namespace Go.Proofs.YtoboldhdmejnpaaDoor
namespace Tx
open Go Go.RowKit
set_option maxHeartbeats 8000000 in
set_option maxRecDepth 100000 in
theorem toc_calls (z : Nat → Nat) (w : World) : Calls Tryd.prog 10 #[cvV z] w fun e w' => e = .returned (cvV z) ∧ Below w.heap.size w w' := by
  unfold cvV
  have hst : ∀ (a : Addr) (x : Nat) (W : World), (store a (.float .f32 x)).run Tryd.prog W = stored Tryd.prog W a (.float .f32 x) _ := fun a x W => run_store Tryd.prog W a (.float .f32 x) _ rfl
  go_enter Tryd.func10, Tryd.ntmps10
  go_wp2
  refine wp_loop_rounds 17 ?_
  rw [rounds_succ]
  go_wp2
  rw [rounds_succ]
  go_wp2
  rw [rounds_succ]
  go_wp2
  rw [rounds_succ]
  go_wp2
  rw [rounds_succ]
  go_wp2
  rw [rounds_succ]
  go_wp2
  rw [rounds_succ]
  go_wp2
  rw [rounds_succ]
  go_wp2
  rw [rounds_succ]
  go_wp2
  rw [rounds_succ]
  go_wp2
  rw [rounds_succ]
  go_wp2
  rw [rounds_succ]
  go_wp2
  rw [rounds_succ]
  go_wp2
  rw [rounds_succ]
  go_wp2
  rw [rounds_succ]
  go_wp2
  rw [rounds_succ]
  go_wp2
  rw [rounds_succ]
  go_wp2
  exact bodyPost_ret (v := .agg #[.float .f32 (z 0), .float .f32 (z 1), .float .f32 (z 2), .float .f32 (z 3), .float .f32 (z 4), .float .f32 (z 5), .float .f32 (z 6), .float .f32 (z 7), .float .f32 (z 8), .float .f32 (z 9), .float .f32 (z 10), .float .f32 (z 11), .float .f32 (z 12), .float .f32 (z 13), .float .f32 (z 14), .float .f32 (z 15)]) (by simp [results, Tryd.results10, go_sem]) rfl ⟨rfl, by repeat (first | exact Below.refl _ _ | apply Below.drew | apply bA | (refine Below.setCell ?_ (by simp) _))⟩
end Tx
end Go.Proofs.YtoboldhdmejnpaaDoor
end
