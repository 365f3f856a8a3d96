/-
  Curves whose numbers are not negative: by the program. No condition.
-/
import Derived.Test.YtbidagapkcmfnaaDoorLa
noncomputable section
namespace Go.Proofs.YtbidagapkcmfnaaDoor
namespace Ty
open Tx Go Go.RowKit Ev Ieee
theorem cx0 (z : Nat → Nat) (W : World) : (Instr.index 29 (.agg #[.float .f32 (z 0), .float .f32 (z 1), .float .f32 (z 2), .float .f32 (z 3), .float .f32 (z 4), .float .f32 (z 5), .float .f32 (z 6), .float .f32 (z 7), .float .f32 (z 8), .float .f32 (z 9), .float .f32 (z 10), .float .f32 (z 11), .float .f32 (z 12), .float .f32 (z 13), .float .f32 (z 14), .float .f32 (z 15)]) (.int .i64 0)).run Tryd.prog W = .ok (.float .f32 (z 0)) W := by kernel_rfl
theorem cx1 (z : Nat → Nat) (W : World) : (Instr.index 29 (.agg #[.float .f32 (z 0), .float .f32 (z 1), .float .f32 (z 2), .float .f32 (z 3), .float .f32 (z 4), .float .f32 (z 5), .float .f32 (z 6), .float .f32 (z 7), .float .f32 (z 8), .float .f32 (z 9), .float .f32 (z 10), .float .f32 (z 11), .float .f32 (z 12), .float .f32 (z 13), .float .f32 (z 14), .float .f32 (z 15)]) (.int .i64 1)).run Tryd.prog W = .ok (.float .f32 (z 1)) W := by kernel_rfl
theorem cx2 (z : Nat → Nat) (W : World) : (Instr.index 29 (.agg #[.float .f32 (z 0), .float .f32 (z 1), .float .f32 (z 2), .float .f32 (z 3), .float .f32 (z 4), .float .f32 (z 5), .float .f32 (z 6), .float .f32 (z 7), .float .f32 (z 8), .float .f32 (z 9), .float .f32 (z 10), .float .f32 (z 11), .float .f32 (z 12), .float .f32 (z 13), .float .f32 (z 14), .float .f32 (z 15)]) (.int .i64 2)).run Tryd.prog W = .ok (.float .f32 (z 2)) W := by kernel_rfl
theorem cx3 (z : Nat → Nat) (W : World) : (Instr.index 29 (.agg #[.float .f32 (z 0), .float .f32 (z 1), .float .f32 (z 2), .float .f32 (z 3), .float .f32 (z 4), .float .f32 (z 5), .float .f32 (z 6), .float .f32 (z 7), .float .f32 (z 8), .float .f32 (z 9), .float .f32 (z 10), .float .f32 (z 11), .float .f32 (z 12), .float .f32 (z 13), .float .f32 (z 14), .float .f32 (z 15)]) (.int .i64 3)).run Tryd.prog W = .ok (.float .f32 (z 3)) W := by kernel_rfl
theorem cx4 (z : Nat → Nat) (W : World) : (Instr.index 29 (.agg #[.float .f32 (z 0), .float .f32 (z 1), .float .f32 (z 2), .float .f32 (z 3), .float .f32 (z 4), .float .f32 (z 5), .float .f32 (z 6), .float .f32 (z 7), .float .f32 (z 8), .float .f32 (z 9), .float .f32 (z 10), .float .f32 (z 11), .float .f32 (z 12), .float .f32 (z 13), .float .f32 (z 14), .float .f32 (z 15)]) (.int .i64 4)).run Tryd.prog W = .ok (.float .f32 (z 4)) W := by kernel_rfl
theorem cx5 (z : Nat → Nat) (W : World) : (Instr.index 29 (.agg #[.float .f32 (z 0), .float .f32 (z 1), .float .f32 (z 2), .float .f32 (z 3), .float .f32 (z 4), .float .f32 (z 5), .float .f32 (z 6), .float .f32 (z 7), .float .f32 (z 8), .float .f32 (z 9), .float .f32 (z 10), .float .f32 (z 11), .float .f32 (z 12), .float .f32 (z 13), .float .f32 (z 14), .float .f32 (z 15)]) (.int .i64 5)).run Tryd.prog W = .ok (.float .f32 (z 5)) W := by kernel_rfl
theorem cx6 (z : Nat → Nat) (W : World) : (Instr.index 29 (.agg #[.float .f32 (z 0), .float .f32 (z 1), .float .f32 (z 2), .float .f32 (z 3), .float .f32 (z 4), .float .f32 (z 5), .float .f32 (z 6), .float .f32 (z 7), .float .f32 (z 8), .float .f32 (z 9), .float .f32 (z 10), .float .f32 (z 11), .float .f32 (z 12), .float .f32 (z 13), .float .f32 (z 14), .float .f32 (z 15)]) (.int .i64 6)).run Tryd.prog W = .ok (.float .f32 (z 6)) W := by kernel_rfl
theorem cx7 (z : Nat → Nat) (W : World) : (Instr.index 29 (.agg #[.float .f32 (z 0), .float .f32 (z 1), .float .f32 (z 2), .float .f32 (z 3), .float .f32 (z 4), .float .f32 (z 5), .float .f32 (z 6), .float .f32 (z 7), .float .f32 (z 8), .float .f32 (z 9), .float .f32 (z 10), .float .f32 (z 11), .float .f32 (z 12), .float .f32 (z 13), .float .f32 (z 14), .float .f32 (z 15)]) (.int .i64 7)).run Tryd.prog W = .ok (.float .f32 (z 7)) W := by kernel_rfl
theorem cx8 (z : Nat → Nat) (W : World) : (Instr.index 29 (.agg #[.float .f32 (z 0), .float .f32 (z 1), .float .f32 (z 2), .float .f32 (z 3), .float .f32 (z 4), .float .f32 (z 5), .float .f32 (z 6), .float .f32 (z 7), .float .f32 (z 8), .float .f32 (z 9), .float .f32 (z 10), .float .f32 (z 11), .float .f32 (z 12), .float .f32 (z 13), .float .f32 (z 14), .float .f32 (z 15)]) (.int .i64 8)).run Tryd.prog W = .ok (.float .f32 (z 8)) W := by kernel_rfl
theorem cx9 (z : Nat → Nat) (W : World) : (Instr.index 29 (.agg #[.float .f32 (z 0), .float .f32 (z 1), .float .f32 (z 2), .float .f32 (z 3), .float .f32 (z 4), .float .f32 (z 5), .float .f32 (z 6), .float .f32 (z 7), .float .f32 (z 8), .float .f32 (z 9), .float .f32 (z 10), .float .f32 (z 11), .float .f32 (z 12), .float .f32 (z 13), .float .f32 (z 14), .float .f32 (z 15)]) (.int .i64 9)).run Tryd.prog W = .ok (.float .f32 (z 9)) W := by kernel_rfl
theorem cx10 (z : Nat → Nat) (W : World) : (Instr.index 29 (.agg #[.float .f32 (z 0), .float .f32 (z 1), .float .f32 (z 2), .float .f32 (z 3), .float .f32 (z 4), .float .f32 (z 5), .float .f32 (z 6), .float .f32 (z 7), .float .f32 (z 8), .float .f32 (z 9), .float .f32 (z 10), .float .f32 (z 11), .float .f32 (z 12), .float .f32 (z 13), .float .f32 (z 14), .float .f32 (z 15)]) (.int .i64 10)).run Tryd.prog W = .ok (.float .f32 (z 10)) W := by kernel_rfl
theorem cx11 (z : Nat → Nat) (W : World) : (Instr.index 29 (.agg #[.float .f32 (z 0), .float .f32 (z 1), .float .f32 (z 2), .float .f32 (z 3), .float .f32 (z 4), .float .f32 (z 5), .float .f32 (z 6), .float .f32 (z 7), .float .f32 (z 8), .float .f32 (z 9), .float .f32 (z 10), .float .f32 (z 11), .float .f32 (z 12), .float .f32 (z 13), .float .f32 (z 14), .float .f32 (z 15)]) (.int .i64 11)).run Tryd.prog W = .ok (.float .f32 (z 11)) W := by kernel_rfl
theorem cx12 (z : Nat → Nat) (W : World) : (Instr.index 29 (.agg #[.float .f32 (z 0), .float .f32 (z 1), .float .f32 (z 2), .float .f32 (z 3), .float .f32 (z 4), .float .f32 (z 5), .float .f32 (z 6), .float .f32 (z 7), .float .f32 (z 8), .float .f32 (z 9), .float .f32 (z 10), .float .f32 (z 11), .float .f32 (z 12), .float .f32 (z 13), .float .f32 (z 14), .float .f32 (z 15)]) (.int .i64 12)).run Tryd.prog W = .ok (.float .f32 (z 12)) W := by kernel_rfl
theorem cx13 (z : Nat → Nat) (W : World) : (Instr.index 29 (.agg #[.float .f32 (z 0), .float .f32 (z 1), .float .f32 (z 2), .float .f32 (z 3), .float .f32 (z 4), .float .f32 (z 5), .float .f32 (z 6), .float .f32 (z 7), .float .f32 (z 8), .float .f32 (z 9), .float .f32 (z 10), .float .f32 (z 11), .float .f32 (z 12), .float .f32 (z 13), .float .f32 (z 14), .float .f32 (z 15)]) (.int .i64 13)).run Tryd.prog W = .ok (.float .f32 (z 13)) W := by kernel_rfl
theorem cx14 (z : Nat → Nat) (W : World) : (Instr.index 29 (.agg #[.float .f32 (z 0), .float .f32 (z 1), .float .f32 (z 2), .float .f32 (z 3), .float .f32 (z 4), .float .f32 (z 5), .float .f32 (z 6), .float .f32 (z 7), .float .f32 (z 8), .float .f32 (z 9), .float .f32 (z 10), .float .f32 (z 11), .float .f32 (z 12), .float .f32 (z 13), .float .f32 (z 14), .float .f32 (z 15)]) (.int .i64 14)).run Tryd.prog W = .ok (.float .f32 (z 14)) W := by kernel_rfl
theorem cx15 (z : Nat → Nat) (W : World) : (Instr.index 29 (.agg #[.float .f32 (z 0), .float .f32 (z 1), .float .f32 (z 2), .float .f32 (z 3), .float .f32 (z 4), .float .f32 (z 5), .float .f32 (z 6), .float .f32 (z 7), .float .f32 (z 8), .float .f32 (z 9), .float .f32 (z 10), .float .f32 (z 11), .float .f32 (z 12), .float .f32 (z 13), .float .f32 (z 14), .float .f32 (z 15)]) (.int .i64 15)).run Tryd.prog W = .ok (.float .f32 (z 15)) W := by kernel_rfl
set_option maxHeartbeats 4000000 in
set_option maxRecDepth 100000 in
theorem aw_0 (z : Nat → Nat) (lo hi : Nat) (w : World)  (q : wi lo hi (z 0) = false) : Calls Tryd.prog 75 #[cvV z, .float .f32 lo, .float .f32 hi] w fun e w' => e = .returned (.bool false) ∧ Below w.heap.size w w' := by
  unfold cvV
  have x0 := cx0 z
  go_enter Tryd.func75, Tryd.ntmps75
  go_wp2_with fail
  refine wp_loop_rounds 17 ?_
  rw [rounds_succ]
  go_wp2_with (go_at_call 56; refine (within_calls (z 0) lo hi _).mono ?_; rw [q]; rintro e w' ⟨rfl, rfl⟩)
  go_ret
  exact ⟨rfl, bA (Below.refl _ _) _⟩
set_option maxHeartbeats 4000000 in
set_option maxRecDepth 100000 in
theorem aw_1 (z : Nat → Nat) (lo hi : Nat) (w : World) (p0 : wi lo hi (z 0) = true) (q : wi lo hi (z 1) = false) : Calls Tryd.prog 75 #[cvV z, .float .f32 lo, .float .f32 hi] w fun e w' => e = .returned (.bool false) ∧ Below w.heap.size w w' := by
  unfold cvV
  have x0 := cx0 z
  have x1 := cx1 z
  go_enter Tryd.func75, Tryd.ntmps75
  go_wp2_with fail
  refine wp_loop_rounds 17 ?_
  rw [rounds_succ]
  go_wp2_with (go_at_call 56; refine (within_calls (z 0) lo hi _).mono ?_; rw [p0]; rintro e w' ⟨rfl, rfl⟩)
  rw [rounds_succ]
  go_wp2_with (go_at_call 56; refine (within_calls (z 1) lo hi _).mono ?_; rw [q]; rintro e w' ⟨rfl, rfl⟩)
  go_ret
  exact ⟨rfl, bA (Below.refl _ _) _⟩
set_option maxHeartbeats 4000000 in
set_option maxRecDepth 100000 in
theorem aw_2 (z : Nat → Nat) (lo hi : Nat) (w : World) (p0 : wi lo hi (z 0) = true) (p1 : wi lo hi (z 1) = true) (q : wi lo hi (z 2) = false) : Calls Tryd.prog 75 #[cvV z, .float .f32 lo, .float .f32 hi] w fun e w' => e = .returned (.bool false) ∧ Below w.heap.size w w' := by
  unfold cvV
  have x0 := cx0 z
  have x1 := cx1 z
  have x2 := cx2 z
  go_enter Tryd.func75, Tryd.ntmps75
  go_wp2_with fail
  refine wp_loop_rounds 17 ?_
  rw [rounds_succ]
  go_wp2_with (go_at_call 56; refine (within_calls (z 0) lo hi _).mono ?_; rw [p0]; rintro e w' ⟨rfl, rfl⟩)
  rw [rounds_succ]
  go_wp2_with (go_at_call 56; refine (within_calls (z 1) lo hi _).mono ?_; rw [p1]; rintro e w' ⟨rfl, rfl⟩)
  rw [rounds_succ]
  go_wp2_with (go_at_call 56; refine (within_calls (z 2) lo hi _).mono ?_; rw [q]; rintro e w' ⟨rfl, rfl⟩)
  go_ret
  exact ⟨rfl, bA (Below.refl _ _) _⟩
set_option maxHeartbeats 4000000 in
set_option maxRecDepth 100000 in
theorem aw_3 (z : Nat → Nat) (lo hi : Nat) (w : World) (p0 : wi lo hi (z 0) = true) (p1 : wi lo hi (z 1) = true) (p2 : wi lo hi (z 2) = true) (q : wi lo hi (z 3) = false) : Calls Tryd.prog 75 #[cvV z, .float .f32 lo, .float .f32 hi] w fun e w' => e = .returned (.bool false) ∧ Below w.heap.size w w' := by
  unfold cvV
  have x0 := cx0 z
  have x1 := cx1 z
  have x2 := cx2 z
  have x3 := cx3 z
  go_enter Tryd.func75, Tryd.ntmps75
  go_wp2_with fail
  refine wp_loop_rounds 17 ?_
  rw [rounds_succ]
  go_wp2_with (go_at_call 56; refine (within_calls (z 0) lo hi _).mono ?_; rw [p0]; rintro e w' ⟨rfl, rfl⟩)
  rw [rounds_succ]
  go_wp2_with (go_at_call 56; refine (within_calls (z 1) lo hi _).mono ?_; rw [p1]; rintro e w' ⟨rfl, rfl⟩)
  rw [rounds_succ]
  go_wp2_with (go_at_call 56; refine (within_calls (z 2) lo hi _).mono ?_; rw [p2]; rintro e w' ⟨rfl, rfl⟩)
  rw [rounds_succ]
  go_wp2_with (go_at_call 56; refine (within_calls (z 3) lo hi _).mono ?_; rw [q]; rintro e w' ⟨rfl, rfl⟩)
  go_ret
  exact ⟨rfl, bA (Below.refl _ _) _⟩
set_option maxHeartbeats 4000000 in
set_option maxRecDepth 100000 in
theorem aw_4 (z : Nat → Nat) (lo hi : Nat) (w : World) (p0 : wi lo hi (z 0) = true) (p1 : wi lo hi (z 1) = true) (p2 : wi lo hi (z 2) = true) (p3 : wi lo hi (z 3) = true) (q : wi lo hi (z 4) = false) : Calls Tryd.prog 75 #[cvV z, .float .f32 lo, .float .f32 hi] w fun e w' => e = .returned (.bool false) ∧ Below w.heap.size w w' := by
  unfold cvV
  have x0 := cx0 z
  have x1 := cx1 z
  have x2 := cx2 z
  have x3 := cx3 z
  have x4 := cx4 z
  go_enter Tryd.func75, Tryd.ntmps75
  go_wp2_with fail
  refine wp_loop_rounds 17 ?_
  rw [rounds_succ]
  go_wp2_with (go_at_call 56; refine (within_calls (z 0) lo hi _).mono ?_; rw [p0]; rintro e w' ⟨rfl, rfl⟩)
  rw [rounds_succ]
  go_wp2_with (go_at_call 56; refine (within_calls (z 1) lo hi _).mono ?_; rw [p1]; rintro e w' ⟨rfl, rfl⟩)
  rw [rounds_succ]
  go_wp2_with (go_at_call 56; refine (within_calls (z 2) lo hi _).mono ?_; rw [p2]; rintro e w' ⟨rfl, rfl⟩)
  rw [rounds_succ]
  go_wp2_with (go_at_call 56; refine (within_calls (z 3) lo hi _).mono ?_; rw [p3]; rintro e w' ⟨rfl, rfl⟩)
  rw [rounds_succ]
  go_wp2_with (go_at_call 56; refine (within_calls (z 4) lo hi _).mono ?_; rw [q]; rintro e w' ⟨rfl, rfl⟩)
  go_ret
  exact ⟨rfl, bA (Below.refl _ _) _⟩
set_option maxHeartbeats 4000000 in
set_option maxRecDepth 100000 in
theorem aw_5 (z : Nat → Nat) (lo hi : Nat) (w : World) (p0 : wi lo hi (z 0) = true) (p1 : wi lo hi (z 1) = true) (p2 : wi lo hi (z 2) = true) (p3 : wi lo hi (z 3) = true) (p4 : wi lo hi (z 4) = true) (q : wi lo hi (z 5) = false) : Calls Tryd.prog 75 #[cvV z, .float .f32 lo, .float .f32 hi] w fun e w' => e = .returned (.bool false) ∧ Below w.heap.size w w' := by
  unfold cvV
  have x0 := cx0 z
  have x1 := cx1 z
  have x2 := cx2 z
  have x3 := cx3 z
  have x4 := cx4 z
  have x5 := cx5 z
  go_enter Tryd.func75, Tryd.ntmps75
  go_wp2_with fail
  refine wp_loop_rounds 17 ?_
  rw [rounds_succ]
  go_wp2_with (go_at_call 56; refine (within_calls (z 0) lo hi _).mono ?_; rw [p0]; rintro e w' ⟨rfl, rfl⟩)
  rw [rounds_succ]
  go_wp2_with (go_at_call 56; refine (within_calls (z 1) lo hi _).mono ?_; rw [p1]; rintro e w' ⟨rfl, rfl⟩)
  rw [rounds_succ]
  go_wp2_with (go_at_call 56; refine (within_calls (z 2) lo hi _).mono ?_; rw [p2]; rintro e w' ⟨rfl, rfl⟩)
  rw [rounds_succ]
  go_wp2_with (go_at_call 56; refine (within_calls (z 3) lo hi _).mono ?_; rw [p3]; rintro e w' ⟨rfl, rfl⟩)
  rw [rounds_succ]
  go_wp2_with (go_at_call 56; refine (within_calls (z 4) lo hi _).mono ?_; rw [p4]; rintro e w' ⟨rfl, rfl⟩)
  rw [rounds_succ]
  go_wp2_with (go_at_call 56; refine (within_calls (z 5) lo hi _).mono ?_; rw [q]; rintro e w' ⟨rfl, rfl⟩)
  go_ret
  exact ⟨rfl, bA (Below.refl _ _) _⟩
set_option maxHeartbeats 4000000 in
set_option maxRecDepth 100000 in
theorem aw_6 (z : Nat → Nat) (lo hi : Nat) (w : World) (p0 : wi lo hi (z 0) = true) (p1 : wi lo hi (z 1) = true) (p2 : wi lo hi (z 2) = true) (p3 : wi lo hi (z 3) = true) (p4 : wi lo hi (z 4) = true) (p5 : wi lo hi (z 5) = true) (q : wi lo hi (z 6) = false) : Calls Tryd.prog 75 #[cvV z, .float .f32 lo, .float .f32 hi] w fun e w' => e = .returned (.bool false) ∧ Below w.heap.size w w' := by
  unfold cvV
  have x0 := cx0 z
  have x1 := cx1 z
  have x2 := cx2 z
  have x3 := cx3 z
  have x4 := cx4 z
  have x5 := cx5 z
  have x6 := cx6 z
  go_enter Tryd.func75, Tryd.ntmps75
  go_wp2_with fail
  refine wp_loop_rounds 17 ?_
  rw [rounds_succ]
  go_wp2_with (go_at_call 56; refine (within_calls (z 0) lo hi _).mono ?_; rw [p0]; rintro e w' ⟨rfl, rfl⟩)
  rw [rounds_succ]
  go_wp2_with (go_at_call 56; refine (within_calls (z 1) lo hi _).mono ?_; rw [p1]; rintro e w' ⟨rfl, rfl⟩)
  rw [rounds_succ]
  go_wp2_with (go_at_call 56; refine (within_calls (z 2) lo hi _).mono ?_; rw [p2]; rintro e w' ⟨rfl, rfl⟩)
  rw [rounds_succ]
  go_wp2_with (go_at_call 56; refine (within_calls (z 3) lo hi _).mono ?_; rw [p3]; rintro e w' ⟨rfl, rfl⟩)
  rw [rounds_succ]
  go_wp2_with (go_at_call 56; refine (within_calls (z 4) lo hi _).mono ?_; rw [p4]; rintro e w' ⟨rfl, rfl⟩)
  rw [rounds_succ]
  go_wp2_with (go_at_call 56; refine (within_calls (z 5) lo hi _).mono ?_; rw [p5]; rintro e w' ⟨rfl, rfl⟩)
  rw [rounds_succ]
  go_wp2_with (go_at_call 56; refine (within_calls (z 6) lo hi _).mono ?_; rw [q]; rintro e w' ⟨rfl, rfl⟩)
  go_ret
  exact ⟨rfl, bA (Below.refl _ _) _⟩
set_option maxHeartbeats 4000000 in
set_option maxRecDepth 100000 in
theorem aw_7 (z : Nat → Nat) (lo hi : Nat) (w : World) (p0 : wi lo hi (z 0) = true) (p1 : wi lo hi (z 1) = true) (p2 : wi lo hi (z 2) = true) (p3 : wi lo hi (z 3) = true) (p4 : wi lo hi (z 4) = true) (p5 : wi lo hi (z 5) = true) (p6 : wi lo hi (z 6) = true) (q : wi lo hi (z 7) = false) : Calls Tryd.prog 75 #[cvV z, .float .f32 lo, .float .f32 hi] w fun e w' => e = .returned (.bool false) ∧ Below w.heap.size w w' := by
  unfold cvV
  have x0 := cx0 z
  have x1 := cx1 z
  have x2 := cx2 z
  have x3 := cx3 z
  have x4 := cx4 z
  have x5 := cx5 z
  have x6 := cx6 z
  have x7 := cx7 z
  go_enter Tryd.func75, Tryd.ntmps75
  go_wp2_with fail
  refine wp_loop_rounds 17 ?_
  rw [rounds_succ]
  go_wp2_with (go_at_call 56; refine (within_calls (z 0) lo hi _).mono ?_; rw [p0]; rintro e w' ⟨rfl, rfl⟩)
  rw [rounds_succ]
  go_wp2_with (go_at_call 56; refine (within_calls (z 1) lo hi _).mono ?_; rw [p1]; rintro e w' ⟨rfl, rfl⟩)
  rw [rounds_succ]
  go_wp2_with (go_at_call 56; refine (within_calls (z 2) lo hi _).mono ?_; rw [p2]; rintro e w' ⟨rfl, rfl⟩)
  rw [rounds_succ]
  go_wp2_with (go_at_call 56; refine (within_calls (z 3) lo hi _).mono ?_; rw [p3]; rintro e w' ⟨rfl, rfl⟩)
  rw [rounds_succ]
  go_wp2_with (go_at_call 56; refine (within_calls (z 4) lo hi _).mono ?_; rw [p4]; rintro e w' ⟨rfl, rfl⟩)
  rw [rounds_succ]
  go_wp2_with (go_at_call 56; refine (within_calls (z 5) lo hi _).mono ?_; rw [p5]; rintro e w' ⟨rfl, rfl⟩)
  rw [rounds_succ]
  go_wp2_with (go_at_call 56; refine (within_calls (z 6) lo hi _).mono ?_; rw [p6]; rintro e w' ⟨rfl, rfl⟩)
  rw [rounds_succ]
  go_wp2_with (go_at_call 56; refine (within_calls (z 7) lo hi _).mono ?_; rw [q]; rintro e w' ⟨rfl, rfl⟩)
  go_ret
  exact ⟨rfl, bA (Below.refl _ _) _⟩
set_option maxHeartbeats 4000000 in
set_option maxRecDepth 100000 in
theorem aw_8 (z : Nat → Nat) (lo hi : Nat) (w : World) (p0 : wi lo hi (z 0) = true) (p1 : wi lo hi (z 1) = true) (p2 : wi lo hi (z 2) = true) (p3 : wi lo hi (z 3) = true) (p4 : wi lo hi (z 4) = true) (p5 : wi lo hi (z 5) = true) (p6 : wi lo hi (z 6) = true) (p7 : wi lo hi (z 7) = true) (q : wi lo hi (z 8) = false) : Calls Tryd.prog 75 #[cvV z, .float .f32 lo, .float .f32 hi] w fun e w' => e = .returned (.bool false) ∧ Below w.heap.size w w' := by
  unfold cvV
  have x0 := cx0 z
  have x1 := cx1 z
  have x2 := cx2 z
  have x3 := cx3 z
  have x4 := cx4 z
  have x5 := cx5 z
  have x6 := cx6 z
  have x7 := cx7 z
  have x8 := cx8 z
  go_enter Tryd.func75, Tryd.ntmps75
  go_wp2_with fail
  refine wp_loop_rounds 17 ?_
  rw [rounds_succ]
  go_wp2_with (go_at_call 56; refine (within_calls (z 0) lo hi _).mono ?_; rw [p0]; rintro e w' ⟨rfl, rfl⟩)
  rw [rounds_succ]
  go_wp2_with (go_at_call 56; refine (within_calls (z 1) lo hi _).mono ?_; rw [p1]; rintro e w' ⟨rfl, rfl⟩)
  rw [rounds_succ]
  go_wp2_with (go_at_call 56; refine (within_calls (z 2) lo hi _).mono ?_; rw [p2]; rintro e w' ⟨rfl, rfl⟩)
  rw [rounds_succ]
  go_wp2_with (go_at_call 56; refine (within_calls (z 3) lo hi _).mono ?_; rw [p3]; rintro e w' ⟨rfl, rfl⟩)
  rw [rounds_succ]
  go_wp2_with (go_at_call 56; refine (within_calls (z 4) lo hi _).mono ?_; rw [p4]; rintro e w' ⟨rfl, rfl⟩)
  rw [rounds_succ]
  go_wp2_with (go_at_call 56; refine (within_calls (z 5) lo hi _).mono ?_; rw [p5]; rintro e w' ⟨rfl, rfl⟩)
  rw [rounds_succ]
  go_wp2_with (go_at_call 56; refine (within_calls (z 6) lo hi _).mono ?_; rw [p6]; rintro e w' ⟨rfl, rfl⟩)
  rw [rounds_succ]
  go_wp2_with (go_at_call 56; refine (within_calls (z 7) lo hi _).mono ?_; rw [p7]; rintro e w' ⟨rfl, rfl⟩)
  rw [rounds_succ]
  go_wp2_with (go_at_call 56; refine (within_calls (z 8) lo hi _).mono ?_; rw [q]; rintro e w' ⟨rfl, rfl⟩)
  go_ret
  exact ⟨rfl, bA (Below.refl _ _) _⟩
set_option maxHeartbeats 4000000 in
set_option maxRecDepth 100000 in
theorem aw_9 (z : Nat → Nat) (lo hi : Nat) (w : World) (p0 : wi lo hi (z 0) = true) (p1 : wi lo hi (z 1) = true) (p2 : wi lo hi (z 2) = true) (p3 : wi lo hi (z 3) = true) (p4 : wi lo hi (z 4) = true) (p5 : wi lo hi (z 5) = true) (p6 : wi lo hi (z 6) = true) (p7 : wi lo hi (z 7) = true) (p8 : wi lo hi (z 8) = true) (q : wi lo hi (z 9) = false) : Calls Tryd.prog 75 #[cvV z, .float .f32 lo, .float .f32 hi] w fun e w' => e = .returned (.bool false) ∧ Below w.heap.size w w' := by
  unfold cvV
  have x0 := cx0 z
  have x1 := cx1 z
  have x2 := cx2 z
  have x3 := cx3 z
  have x4 := cx4 z
  have x5 := cx5 z
  have x6 := cx6 z
  have x7 := cx7 z
  have x8 := cx8 z
  have x9 := cx9 z
  go_enter Tryd.func75, Tryd.ntmps75
  go_wp2_with fail
  refine wp_loop_rounds 17 ?_
  rw [rounds_succ]
  go_wp2_with (go_at_call 56; refine (within_calls (z 0) lo hi _).mono ?_; rw [p0]; rintro e w' ⟨rfl, rfl⟩)
  rw [rounds_succ]
  go_wp2_with (go_at_call 56; refine (within_calls (z 1) lo hi _).mono ?_; rw [p1]; rintro e w' ⟨rfl, rfl⟩)
  rw [rounds_succ]
  go_wp2_with (go_at_call 56; refine (within_calls (z 2) lo hi _).mono ?_; rw [p2]; rintro e w' ⟨rfl, rfl⟩)
  rw [rounds_succ]
  go_wp2_with (go_at_call 56; refine (within_calls (z 3) lo hi _).mono ?_; rw [p3]; rintro e w' ⟨rfl, rfl⟩)
  rw [rounds_succ]
  go_wp2_with (go_at_call 56; refine (within_calls (z 4) lo hi _).mono ?_; rw [p4]; rintro e w' ⟨rfl, rfl⟩)
  rw [rounds_succ]
  go_wp2_with (go_at_call 56; refine (within_calls (z 5) lo hi _).mono ?_; rw [p5]; rintro e w' ⟨rfl, rfl⟩)
  rw [rounds_succ]
  go_wp2_with (go_at_call 56; refine (within_calls (z 6) lo hi _).mono ?_; rw [p6]; rintro e w' ⟨rfl, rfl⟩)
  rw [rounds_succ]
  go_wp2_with (go_at_call 56; refine (within_calls (z 7) lo hi _).mono ?_; rw [p7]; rintro e w' ⟨rfl, rfl⟩)
  rw [rounds_succ]
  go_wp2_with (go_at_call 56; refine (within_calls (z 8) lo hi _).mono ?_; rw [p8]; rintro e w' ⟨rfl, rfl⟩)
  rw [rounds_succ]
  go_wp2_with (go_at_call 56; refine (within_calls (z 9) lo hi _).mono ?_; rw [q]; rintro e w' ⟨rfl, rfl⟩)
  go_ret
  exact ⟨rfl, bA (Below.refl _ _) _⟩
set_option maxHeartbeats 4000000 in
set_option maxRecDepth 100000 in
theorem aw_10 (z : Nat → Nat) (lo hi : Nat) (w : World) (p0 : wi lo hi (z 0) = true) (p1 : wi lo hi (z 1) = true) (p2 : wi lo hi (z 2) = true) (p3 : wi lo hi (z 3) = true) (p4 : wi lo hi (z 4) = true) (p5 : wi lo hi (z 5) = true) (p6 : wi lo hi (z 6) = true) (p7 : wi lo hi (z 7) = true) (p8 : wi lo hi (z 8) = true) (p9 : wi lo hi (z 9) = true) (q : wi lo hi (z 10) = false) : Calls Tryd.prog 75 #[cvV z, .float .f32 lo, .float .f32 hi] w fun e w' => e = .returned (.bool false) ∧ Below w.heap.size w w' := by
  unfold cvV
  have x0 := cx0 z
  have x1 := cx1 z
  have x2 := cx2 z
  have x3 := cx3 z
  have x4 := cx4 z
  have x5 := cx5 z
  have x6 := cx6 z
  have x7 := cx7 z
  have x8 := cx8 z
  have x9 := cx9 z
  have x10 := cx10 z
  go_enter Tryd.func75, Tryd.ntmps75
  go_wp2_with fail
  refine wp_loop_rounds 17 ?_
  rw [rounds_succ]
  go_wp2_with (go_at_call 56; refine (within_calls (z 0) lo hi _).mono ?_; rw [p0]; rintro e w' ⟨rfl, rfl⟩)
  rw [rounds_succ]
  go_wp2_with (go_at_call 56; refine (within_calls (z 1) lo hi _).mono ?_; rw [p1]; rintro e w' ⟨rfl, rfl⟩)
  rw [rounds_succ]
  go_wp2_with (go_at_call 56; refine (within_calls (z 2) lo hi _).mono ?_; rw [p2]; rintro e w' ⟨rfl, rfl⟩)
  rw [rounds_succ]
  go_wp2_with (go_at_call 56; refine (within_calls (z 3) lo hi _).mono ?_; rw [p3]; rintro e w' ⟨rfl, rfl⟩)
  rw [rounds_succ]
  go_wp2_with (go_at_call 56; refine (within_calls (z 4) lo hi _).mono ?_; rw [p4]; rintro e w' ⟨rfl, rfl⟩)
  rw [rounds_succ]
  go_wp2_with (go_at_call 56; refine (within_calls (z 5) lo hi _).mono ?_; rw [p5]; rintro e w' ⟨rfl, rfl⟩)
  rw [rounds_succ]
  go_wp2_with (go_at_call 56; refine (within_calls (z 6) lo hi _).mono ?_; rw [p6]; rintro e w' ⟨rfl, rfl⟩)
  rw [rounds_succ]
  go_wp2_with (go_at_call 56; refine (within_calls (z 7) lo hi _).mono ?_; rw [p7]; rintro e w' ⟨rfl, rfl⟩)
  rw [rounds_succ]
  go_wp2_with (go_at_call 56; refine (within_calls (z 8) lo hi _).mono ?_; rw [p8]; rintro e w' ⟨rfl, rfl⟩)
  rw [rounds_succ]
  go_wp2_with (go_at_call 56; refine (within_calls (z 9) lo hi _).mono ?_; rw [p9]; rintro e w' ⟨rfl, rfl⟩)
  rw [rounds_succ]
  go_wp2_with (go_at_call 56; refine (within_calls (z 10) lo hi _).mono ?_; rw [q]; rintro e w' ⟨rfl, rfl⟩)
  go_ret
  exact ⟨rfl, bA (Below.refl _ _) _⟩
set_option maxHeartbeats 4000000 in
set_option maxRecDepth 100000 in
theorem aw_11 (z : Nat → Nat) (lo hi : Nat) (w : World) (p0 : wi lo hi (z 0) = true) (p1 : wi lo hi (z 1) = true) (p2 : wi lo hi (z 2) = true) (p3 : wi lo hi (z 3) = true) (p4 : wi lo hi (z 4) = true) (p5 : wi lo hi (z 5) = true) (p6 : wi lo hi (z 6) = true) (p7 : wi lo hi (z 7) = true) (p8 : wi lo hi (z 8) = true) (p9 : wi lo hi (z 9) = true) (p10 : wi lo hi (z 10) = true) (q : wi lo hi (z 11) = false) : Calls Tryd.prog 75 #[cvV z, .float .f32 lo, .float .f32 hi] w fun e w' => e = .returned (.bool false) ∧ Below w.heap.size w w' := by
  unfold cvV
  have x0 := cx0 z
  have x1 := cx1 z
  have x2 := cx2 z
  have x3 := cx3 z
  have x4 := cx4 z
  have x5 := cx5 z
  have x6 := cx6 z
  have x7 := cx7 z
  have x8 := cx8 z
  have x9 := cx9 z
  have x10 := cx10 z
  have x11 := cx11 z
  go_enter Tryd.func75, Tryd.ntmps75
  go_wp2_with fail
  refine wp_loop_rounds 17 ?_
  rw [rounds_succ]
  go_wp2_with (go_at_call 56; refine (within_calls (z 0) lo hi _).mono ?_; rw [p0]; rintro e w' ⟨rfl, rfl⟩)
  rw [rounds_succ]
  go_wp2_with (go_at_call 56; refine (within_calls (z 1) lo hi _).mono ?_; rw [p1]; rintro e w' ⟨rfl, rfl⟩)
  rw [rounds_succ]
  go_wp2_with (go_at_call 56; refine (within_calls (z 2) lo hi _).mono ?_; rw [p2]; rintro e w' ⟨rfl, rfl⟩)
  rw [rounds_succ]
  go_wp2_with (go_at_call 56; refine (within_calls (z 3) lo hi _).mono ?_; rw [p3]; rintro e w' ⟨rfl, rfl⟩)
  rw [rounds_succ]
  go_wp2_with (go_at_call 56; refine (within_calls (z 4) lo hi _).mono ?_; rw [p4]; rintro e w' ⟨rfl, rfl⟩)
  rw [rounds_succ]
  go_wp2_with (go_at_call 56; refine (within_calls (z 5) lo hi _).mono ?_; rw [p5]; rintro e w' ⟨rfl, rfl⟩)
  rw [rounds_succ]
  go_wp2_with (go_at_call 56; refine (within_calls (z 6) lo hi _).mono ?_; rw [p6]; rintro e w' ⟨rfl, rfl⟩)
  rw [rounds_succ]
  go_wp2_with (go_at_call 56; refine (within_calls (z 7) lo hi _).mono ?_; rw [p7]; rintro e w' ⟨rfl, rfl⟩)
  rw [rounds_succ]
  go_wp2_with (go_at_call 56; refine (within_calls (z 8) lo hi _).mono ?_; rw [p8]; rintro e w' ⟨rfl, rfl⟩)
  rw [rounds_succ]
  go_wp2_with (go_at_call 56; refine (within_calls (z 9) lo hi _).mono ?_; rw [p9]; rintro e w' ⟨rfl, rfl⟩)
  rw [rounds_succ]
  go_wp2_with (go_at_call 56; refine (within_calls (z 10) lo hi _).mono ?_; rw [p10]; rintro e w' ⟨rfl, rfl⟩)
  rw [rounds_succ]
  go_wp2_with (go_at_call 56; refine (within_calls (z 11) lo hi _).mono ?_; rw [q]; rintro e w' ⟨rfl, rfl⟩)
  go_ret
  exact ⟨rfl, bA (Below.refl _ _) _⟩
set_option maxHeartbeats 4000000 in
set_option maxRecDepth 100000 in
theorem aw_12 (z : Nat → Nat) (lo hi : Nat) (w : World) (p0 : wi lo hi (z 0) = true) (p1 : wi lo hi (z 1) = true) (p2 : wi lo hi (z 2) = true) (p3 : wi lo hi (z 3) = true) (p4 : wi lo hi (z 4) = true) (p5 : wi lo hi (z 5) = true) (p6 : wi lo hi (z 6) = true) (p7 : wi lo hi (z 7) = true) (p8 : wi lo hi (z 8) = true) (p9 : wi lo hi (z 9) = true) (p10 : wi lo hi (z 10) = true) (p11 : wi lo hi (z 11) = true) (q : wi lo hi (z 12) = false) : Calls Tryd.prog 75 #[cvV z, .float .f32 lo, .float .f32 hi] w fun e w' => e = .returned (.bool false) ∧ Below w.heap.size w w' := by
  unfold cvV
  have x0 := cx0 z
  have x1 := cx1 z
  have x2 := cx2 z
  have x3 := cx3 z
  have x4 := cx4 z
  have x5 := cx5 z
  have x6 := cx6 z
  have x7 := cx7 z
  have x8 := cx8 z
  have x9 := cx9 z
  have x10 := cx10 z
  have x11 := cx11 z
  have x12 := cx12 z
  go_enter Tryd.func75, Tryd.ntmps75
  go_wp2_with fail
  refine wp_loop_rounds 17 ?_
  rw [rounds_succ]
  go_wp2_with (go_at_call 56; refine (within_calls (z 0) lo hi _).mono ?_; rw [p0]; rintro e w' ⟨rfl, rfl⟩)
  rw [rounds_succ]
  go_wp2_with (go_at_call 56; refine (within_calls (z 1) lo hi _).mono ?_; rw [p1]; rintro e w' ⟨rfl, rfl⟩)
  rw [rounds_succ]
  go_wp2_with (go_at_call 56; refine (within_calls (z 2) lo hi _).mono ?_; rw [p2]; rintro e w' ⟨rfl, rfl⟩)
  rw [rounds_succ]
  go_wp2_with (go_at_call 56; refine (within_calls (z 3) lo hi _).mono ?_; rw [p3]; rintro e w' ⟨rfl, rfl⟩)
  rw [rounds_succ]
  go_wp2_with (go_at_call 56; refine (within_calls (z 4) lo hi _).mono ?_; rw [p4]; rintro e w' ⟨rfl, rfl⟩)
  rw [rounds_succ]
  go_wp2_with (go_at_call 56; refine (within_calls (z 5) lo hi _).mono ?_; rw [p5]; rintro e w' ⟨rfl, rfl⟩)
  rw [rounds_succ]
  go_wp2_with (go_at_call 56; refine (within_calls (z 6) lo hi _).mono ?_; rw [p6]; rintro e w' ⟨rfl, rfl⟩)
  rw [rounds_succ]
  go_wp2_with (go_at_call 56; refine (within_calls (z 7) lo hi _).mono ?_; rw [p7]; rintro e w' ⟨rfl, rfl⟩)
  rw [rounds_succ]
  go_wp2_with (go_at_call 56; refine (within_calls (z 8) lo hi _).mono ?_; rw [p8]; rintro e w' ⟨rfl, rfl⟩)
  rw [rounds_succ]
  go_wp2_with (go_at_call 56; refine (within_calls (z 9) lo hi _).mono ?_; rw [p9]; rintro e w' ⟨rfl, rfl⟩)
  rw [rounds_succ]
  go_wp2_with (go_at_call 56; refine (within_calls (z 10) lo hi _).mono ?_; rw [p10]; rintro e w' ⟨rfl, rfl⟩)
  rw [rounds_succ]
  go_wp2_with (go_at_call 56; refine (within_calls (z 11) lo hi _).mono ?_; rw [p11]; rintro e w' ⟨rfl, rfl⟩)
  rw [rounds_succ]
  go_wp2_with (go_at_call 56; refine (within_calls (z 12) lo hi _).mono ?_; rw [q]; rintro e w' ⟨rfl, rfl⟩)
  go_ret
  exact ⟨rfl, bA (Below.refl _ _) _⟩
set_option maxHeartbeats 4000000 in
set_option maxRecDepth 100000 in
theorem aw_13 (z : Nat → Nat) (lo hi : Nat) (w : World) (p0 : wi lo hi (z 0) = true) (p1 : wi lo hi (z 1) = true) (p2 : wi lo hi (z 2) = true) (p3 : wi lo hi (z 3) = true) (p4 : wi lo hi (z 4) = true) (p5 : wi lo hi (z 5) = true) (p6 : wi lo hi (z 6) = true) (p7 : wi lo hi (z 7) = true) (p8 : wi lo hi (z 8) = true) (p9 : wi lo hi (z 9) = true) (p10 : wi lo hi (z 10) = true) (p11 : wi lo hi (z 11) = true) (p12 : wi lo hi (z 12) = true) (q : wi lo hi (z 13) = false) : Calls Tryd.prog 75 #[cvV z, .float .f32 lo, .float .f32 hi] w fun e w' => e = .returned (.bool false) ∧ Below w.heap.size w w' := by
  unfold cvV
  have x0 := cx0 z
  have x1 := cx1 z
  have x2 := cx2 z
  have x3 := cx3 z
  have x4 := cx4 z
  have x5 := cx5 z
  have x6 := cx6 z
  have x7 := cx7 z
  have x8 := cx8 z
  have x9 := cx9 z
  have x10 := cx10 z
  have x11 := cx11 z
  have x12 := cx12 z
  have x13 := cx13 z
  go_enter Tryd.func75, Tryd.ntmps75
  go_wp2_with fail
  refine wp_loop_rounds 17 ?_
  rw [rounds_succ]
  go_wp2_with (go_at_call 56; refine (within_calls (z 0) lo hi _).mono ?_; rw [p0]; rintro e w' ⟨rfl, rfl⟩)
  rw [rounds_succ]
  go_wp2_with (go_at_call 56; refine (within_calls (z 1) lo hi _).mono ?_; rw [p1]; rintro e w' ⟨rfl, rfl⟩)
  rw [rounds_succ]
  go_wp2_with (go_at_call 56; refine (within_calls (z 2) lo hi _).mono ?_; rw [p2]; rintro e w' ⟨rfl, rfl⟩)
  rw [rounds_succ]
  go_wp2_with (go_at_call 56; refine (within_calls (z 3) lo hi _).mono ?_; rw [p3]; rintro e w' ⟨rfl, rfl⟩)
  rw [rounds_succ]
  go_wp2_with (go_at_call 56; refine (within_calls (z 4) lo hi _).mono ?_; rw [p4]; rintro e w' ⟨rfl, rfl⟩)
  rw [rounds_succ]
  go_wp2_with (go_at_call 56; refine (within_calls (z 5) lo hi _).mono ?_; rw [p5]; rintro e w' ⟨rfl, rfl⟩)
  rw [rounds_succ]
  go_wp2_with (go_at_call 56; refine (within_calls (z 6) lo hi _).mono ?_; rw [p6]; rintro e w' ⟨rfl, rfl⟩)
  rw [rounds_succ]
  go_wp2_with (go_at_call 56; refine (within_calls (z 7) lo hi _).mono ?_; rw [p7]; rintro e w' ⟨rfl, rfl⟩)
  rw [rounds_succ]
  go_wp2_with (go_at_call 56; refine (within_calls (z 8) lo hi _).mono ?_; rw [p8]; rintro e w' ⟨rfl, rfl⟩)
  rw [rounds_succ]
  go_wp2_with (go_at_call 56; refine (within_calls (z 9) lo hi _).mono ?_; rw [p9]; rintro e w' ⟨rfl, rfl⟩)
  rw [rounds_succ]
  go_wp2_with (go_at_call 56; refine (within_calls (z 10) lo hi _).mono ?_; rw [p10]; rintro e w' ⟨rfl, rfl⟩)
  rw [rounds_succ]
  go_wp2_with (go_at_call 56; refine (within_calls (z 11) lo hi _).mono ?_; rw [p11]; rintro e w' ⟨rfl, rfl⟩)
  rw [rounds_succ]
  go_wp2_with (go_at_call 56; refine (within_calls (z 12) lo hi _).mono ?_; rw [p12]; rintro e w' ⟨rfl, rfl⟩)
  rw [rounds_succ]
  go_wp2_with (go_at_call 56; refine (within_calls (z 13) lo hi _).mono ?_; rw [q]; rintro e w' ⟨rfl, rfl⟩)
  go_ret
  exact ⟨rfl, bA (Below.refl _ _) _⟩
set_option maxHeartbeats 4000000 in
set_option maxRecDepth 100000 in
theorem aw_14 (z : Nat → Nat) (lo hi : Nat) (w : World) (p0 : wi lo hi (z 0) = true) (p1 : wi lo hi (z 1) = true) (p2 : wi lo hi (z 2) = true) (p3 : wi lo hi (z 3) = true) (p4 : wi lo hi (z 4) = true) (p5 : wi lo hi (z 5) = true) (p6 : wi lo hi (z 6) = true) (p7 : wi lo hi (z 7) = true) (p8 : wi lo hi (z 8) = true) (p9 : wi lo hi (z 9) = true) (p10 : wi lo hi (z 10) = true) (p11 : wi lo hi (z 11) = true) (p12 : wi lo hi (z 12) = true) (p13 : wi lo hi (z 13) = true) (q : wi lo hi (z 14) = false) : Calls Tryd.prog 75 #[cvV z, .float .f32 lo, .float .f32 hi] w fun e w' => e = .returned (.bool false) ∧ Below w.heap.size w w' := by
  unfold cvV
  have x0 := cx0 z
  have x1 := cx1 z
  have x2 := cx2 z
  have x3 := cx3 z
  have x4 := cx4 z
  have x5 := cx5 z
  have x6 := cx6 z
  have x7 := cx7 z
  have x8 := cx8 z
  have x9 := cx9 z
  have x10 := cx10 z
  have x11 := cx11 z
  have x12 := cx12 z
  have x13 := cx13 z
  have x14 := cx14 z
  go_enter Tryd.func75, Tryd.ntmps75
  go_wp2_with fail
  refine wp_loop_rounds 17 ?_
  rw [rounds_succ]
  go_wp2_with (go_at_call 56; refine (within_calls (z 0) lo hi _).mono ?_; rw [p0]; rintro e w' ⟨rfl, rfl⟩)
  rw [rounds_succ]
  go_wp2_with (go_at_call 56; refine (within_calls (z 1) lo hi _).mono ?_; rw [p1]; rintro e w' ⟨rfl, rfl⟩)
  rw [rounds_succ]
  go_wp2_with (go_at_call 56; refine (within_calls (z 2) lo hi _).mono ?_; rw [p2]; rintro e w' ⟨rfl, rfl⟩)
  rw [rounds_succ]
  go_wp2_with (go_at_call 56; refine (within_calls (z 3) lo hi _).mono ?_; rw [p3]; rintro e w' ⟨rfl, rfl⟩)
  rw [rounds_succ]
  go_wp2_with (go_at_call 56; refine (within_calls (z 4) lo hi _).mono ?_; rw [p4]; rintro e w' ⟨rfl, rfl⟩)
  rw [rounds_succ]
  go_wp2_with (go_at_call 56; refine (within_calls (z 5) lo hi _).mono ?_; rw [p5]; rintro e w' ⟨rfl, rfl⟩)
  rw [rounds_succ]
  go_wp2_with (go_at_call 56; refine (within_calls (z 6) lo hi _).mono ?_; rw [p6]; rintro e w' ⟨rfl, rfl⟩)
  rw [rounds_succ]
  go_wp2_with (go_at_call 56; refine (within_calls (z 7) lo hi _).mono ?_; rw [p7]; rintro e w' ⟨rfl, rfl⟩)
  rw [rounds_succ]
  go_wp2_with (go_at_call 56; refine (within_calls (z 8) lo hi _).mono ?_; rw [p8]; rintro e w' ⟨rfl, rfl⟩)
  rw [rounds_succ]
  go_wp2_with (go_at_call 56; refine (within_calls (z 9) lo hi _).mono ?_; rw [p9]; rintro e w' ⟨rfl, rfl⟩)
  rw [rounds_succ]
  go_wp2_with (go_at_call 56; refine (within_calls (z 10) lo hi _).mono ?_; rw [p10]; rintro e w' ⟨rfl, rfl⟩)
  rw [rounds_succ]
  go_wp2_with (go_at_call 56; refine (within_calls (z 11) lo hi _).mono ?_; rw [p11]; rintro e w' ⟨rfl, rfl⟩)
  rw [rounds_succ]
  go_wp2_with (go_at_call 56; refine (within_calls (z 12) lo hi _).mono ?_; rw [p12]; rintro e w' ⟨rfl, rfl⟩)
  rw [rounds_succ]
  go_wp2_with (go_at_call 56; refine (within_calls (z 13) lo hi _).mono ?_; rw [p13]; rintro e w' ⟨rfl, rfl⟩)
  rw [rounds_succ]
  go_wp2_with (go_at_call 56; refine (within_calls (z 14) lo hi _).mono ?_; rw [q]; rintro e w' ⟨rfl, rfl⟩)
  go_ret
  exact ⟨rfl, bA (Below.refl _ _) _⟩
set_option maxHeartbeats 4000000 in
set_option maxRecDepth 100000 in
theorem aw_15 (z : Nat → Nat) (lo hi : Nat) (w : World) (p0 : wi lo hi (z 0) = true) (p1 : wi lo hi (z 1) = true) (p2 : wi lo hi (z 2) = true) (p3 : wi lo hi (z 3) = true) (p4 : wi lo hi (z 4) = true) (p5 : wi lo hi (z 5) = true) (p6 : wi lo hi (z 6) = true) (p7 : wi lo hi (z 7) = true) (p8 : wi lo hi (z 8) = true) (p9 : wi lo hi (z 9) = true) (p10 : wi lo hi (z 10) = true) (p11 : wi lo hi (z 11) = true) (p12 : wi lo hi (z 12) = true) (p13 : wi lo hi (z 13) = true) (p14 : wi lo hi (z 14) = true) (q : wi lo hi (z 15) = false) : Calls Tryd.prog 75 #[cvV z, .float .f32 lo, .float .f32 hi] w fun e w' => e = .returned (.bool false) ∧ Below w.heap.size w w' := by
  unfold cvV
  have x0 := cx0 z
  have x1 := cx1 z
  have x2 := cx2 z
  have x3 := cx3 z
  have x4 := cx4 z
  have x5 := cx5 z
  have x6 := cx6 z
  have x7 := cx7 z
  have x8 := cx8 z
  have x9 := cx9 z
  have x10 := cx10 z
  have x11 := cx11 z
  have x12 := cx12 z
  have x13 := cx13 z
  have x14 := cx14 z
  have x15 := cx15 z
  go_enter Tryd.func75, Tryd.ntmps75
  go_wp2_with fail
  refine wp_loop_rounds 17 ?_
  rw [rounds_succ]
  go_wp2_with (go_at_call 56; refine (within_calls (z 0) lo hi _).mono ?_; rw [p0]; rintro e w' ⟨rfl, rfl⟩)
  rw [rounds_succ]
  go_wp2_with (go_at_call 56; refine (within_calls (z 1) lo hi _).mono ?_; rw [p1]; rintro e w' ⟨rfl, rfl⟩)
  rw [rounds_succ]
  go_wp2_with (go_at_call 56; refine (within_calls (z 2) lo hi _).mono ?_; rw [p2]; rintro e w' ⟨rfl, rfl⟩)
  rw [rounds_succ]
  go_wp2_with (go_at_call 56; refine (within_calls (z 3) lo hi _).mono ?_; rw [p3]; rintro e w' ⟨rfl, rfl⟩)
  rw [rounds_succ]
  go_wp2_with (go_at_call 56; refine (within_calls (z 4) lo hi _).mono ?_; rw [p4]; rintro e w' ⟨rfl, rfl⟩)
  rw [rounds_succ]
  go_wp2_with (go_at_call 56; refine (within_calls (z 5) lo hi _).mono ?_; rw [p5]; rintro e w' ⟨rfl, rfl⟩)
  rw [rounds_succ]
  go_wp2_with (go_at_call 56; refine (within_calls (z 6) lo hi _).mono ?_; rw [p6]; rintro e w' ⟨rfl, rfl⟩)
  rw [rounds_succ]
  go_wp2_with (go_at_call 56; refine (within_calls (z 7) lo hi _).mono ?_; rw [p7]; rintro e w' ⟨rfl, rfl⟩)
  rw [rounds_succ]
  go_wp2_with (go_at_call 56; refine (within_calls (z 8) lo hi _).mono ?_; rw [p8]; rintro e w' ⟨rfl, rfl⟩)
  rw [rounds_succ]
  go_wp2_with (go_at_call 56; refine (within_calls (z 9) lo hi _).mono ?_; rw [p9]; rintro e w' ⟨rfl, rfl⟩)
  rw [rounds_succ]
  go_wp2_with (go_at_call 56; refine (within_calls (z 10) lo hi _).mono ?_; rw [p10]; rintro e w' ⟨rfl, rfl⟩)
  rw [rounds_succ]
  go_wp2_with (go_at_call 56; refine (within_calls (z 11) lo hi _).mono ?_; rw [p11]; rintro e w' ⟨rfl, rfl⟩)
  rw [rounds_succ]
  go_wp2_with (go_at_call 56; refine (within_calls (z 12) lo hi _).mono ?_; rw [p12]; rintro e w' ⟨rfl, rfl⟩)
  rw [rounds_succ]
  go_wp2_with (go_at_call 56; refine (within_calls (z 13) lo hi _).mono ?_; rw [p13]; rintro e w' ⟨rfl, rfl⟩)
  rw [rounds_succ]
  go_wp2_with (go_at_call 56; refine (within_calls (z 14) lo hi _).mono ?_; rw [p14]; rintro e w' ⟨rfl, rfl⟩)
  rw [rounds_succ]
  go_wp2_with (go_at_call 56; refine (within_calls (z 15) lo hi _).mono ?_; rw [q]; rintro e w' ⟨rfl, rfl⟩)
  go_ret
  exact ⟨rfl, bA (Below.refl _ _) _⟩
set_option maxHeartbeats 4000000 in
set_option maxRecDepth 100000 in
theorem aw_16 (z : Nat → Nat) (lo hi : Nat) (w : World) (p0 : wi lo hi (z 0) = true) (p1 : wi lo hi (z 1) = true) (p2 : wi lo hi (z 2) = true) (p3 : wi lo hi (z 3) = true) (p4 : wi lo hi (z 4) = true) (p5 : wi lo hi (z 5) = true) (p6 : wi lo hi (z 6) = true) (p7 : wi lo hi (z 7) = true) (p8 : wi lo hi (z 8) = true) (p9 : wi lo hi (z 9) = true) (p10 : wi lo hi (z 10) = true) (p11 : wi lo hi (z 11) = true) (p12 : wi lo hi (z 12) = true) (p13 : wi lo hi (z 13) = true) (p14 : wi lo hi (z 14) = true) (p15 : wi lo hi (z 15) = true) : Calls Tryd.prog 75 #[cvV z, .float .f32 lo, .float .f32 hi] w fun e w' => e = .returned (.bool true) ∧ Below w.heap.size w w' := by
  unfold cvV
  have x0 := cx0 z
  have x1 := cx1 z
  have x2 := cx2 z
  have x3 := cx3 z
  have x4 := cx4 z
  have x5 := cx5 z
  have x6 := cx6 z
  have x7 := cx7 z
  have x8 := cx8 z
  have x9 := cx9 z
  have x10 := cx10 z
  have x11 := cx11 z
  have x12 := cx12 z
  have x13 := cx13 z
  have x14 := cx14 z
  have x15 := cx15 z
  go_enter Tryd.func75, Tryd.ntmps75
  go_wp2_with fail
  refine wp_loop_rounds 17 ?_
  rw [rounds_succ]
  go_wp2_with (go_at_call 56; refine (within_calls (z 0) lo hi _).mono ?_; rw [p0]; rintro e w' ⟨rfl, rfl⟩)
  rw [rounds_succ]
  go_wp2_with (go_at_call 56; refine (within_calls (z 1) lo hi _).mono ?_; rw [p1]; rintro e w' ⟨rfl, rfl⟩)
  rw [rounds_succ]
  go_wp2_with (go_at_call 56; refine (within_calls (z 2) lo hi _).mono ?_; rw [p2]; rintro e w' ⟨rfl, rfl⟩)
  rw [rounds_succ]
  go_wp2_with (go_at_call 56; refine (within_calls (z 3) lo hi _).mono ?_; rw [p3]; rintro e w' ⟨rfl, rfl⟩)
  rw [rounds_succ]
  go_wp2_with (go_at_call 56; refine (within_calls (z 4) lo hi _).mono ?_; rw [p4]; rintro e w' ⟨rfl, rfl⟩)
  rw [rounds_succ]
  go_wp2_with (go_at_call 56; refine (within_calls (z 5) lo hi _).mono ?_; rw [p5]; rintro e w' ⟨rfl, rfl⟩)
  rw [rounds_succ]
  go_wp2_with (go_at_call 56; refine (within_calls (z 6) lo hi _).mono ?_; rw [p6]; rintro e w' ⟨rfl, rfl⟩)
  rw [rounds_succ]
  go_wp2_with (go_at_call 56; refine (within_calls (z 7) lo hi _).mono ?_; rw [p7]; rintro e w' ⟨rfl, rfl⟩)
  rw [rounds_succ]
  go_wp2_with (go_at_call 56; refine (within_calls (z 8) lo hi _).mono ?_; rw [p8]; rintro e w' ⟨rfl, rfl⟩)
  rw [rounds_succ]
  go_wp2_with (go_at_call 56; refine (within_calls (z 9) lo hi _).mono ?_; rw [p9]; rintro e w' ⟨rfl, rfl⟩)
  rw [rounds_succ]
  go_wp2_with (go_at_call 56; refine (within_calls (z 10) lo hi _).mono ?_; rw [p10]; rintro e w' ⟨rfl, rfl⟩)
  rw [rounds_succ]
  go_wp2_with (go_at_call 56; refine (within_calls (z 11) lo hi _).mono ?_; rw [p11]; rintro e w' ⟨rfl, rfl⟩)
  rw [rounds_succ]
  go_wp2_with (go_at_call 56; refine (within_calls (z 12) lo hi _).mono ?_; rw [p12]; rintro e w' ⟨rfl, rfl⟩)
  rw [rounds_succ]
  go_wp2_with (go_at_call 56; refine (within_calls (z 13) lo hi _).mono ?_; rw [p13]; rintro e w' ⟨rfl, rfl⟩)
  rw [rounds_succ]
  go_wp2_with (go_at_call 56; refine (within_calls (z 14) lo hi _).mono ?_; rw [p14]; rintro e w' ⟨rfl, rfl⟩)
  rw [rounds_succ]
  go_wp2_with (go_at_call 56; refine (within_calls (z 15) lo hi _).mono ?_; rw [p15]; rintro e w' ⟨rfl, rfl⟩)
  rw [rounds_succ]
  go_wp2_with fail
  go_ret
  exact ⟨rfl, bA (Below.refl _ _) _⟩
theorem within16_calls (z : Nat → Nat) (lo hi : Nat) (w : World) : Calls Tryd.prog 75 #[cvV z, .float .f32 lo, .float .f32 hi] w fun e w' => e = .returned (.bool (all16 fun i => wi lo hi (z i))) ∧ Below w.heap.size w w' := by
  unfold all16
  cases p0 : wi lo hi (z 0) with
  | false => simpa only [p0, Bool.true_and, Bool.false_and] using aw_0 z lo hi w  p0
  | true =>
  cases p1 : wi lo hi (z 1) with
  | false => simpa only [p0, p1, Bool.true_and, Bool.false_and] using aw_1 z lo hi w p0 p1
  | true =>
  cases p2 : wi lo hi (z 2) with
  | false => simpa only [p0, p1, p2, Bool.true_and, Bool.false_and] using aw_2 z lo hi w p0 p1 p2
  | true =>
  cases p3 : wi lo hi (z 3) with
  | false => simpa only [p0, p1, p2, p3, Bool.true_and, Bool.false_and] using aw_3 z lo hi w p0 p1 p2 p3
  | true =>
  cases p4 : wi lo hi (z 4) with
  | false => simpa only [p0, p1, p2, p3, p4, Bool.true_and, Bool.false_and] using aw_4 z lo hi w p0 p1 p2 p3 p4
  | true =>
  cases p5 : wi lo hi (z 5) with
  | false => simpa only [p0, p1, p2, p3, p4, p5, Bool.true_and, Bool.false_and] using aw_5 z lo hi w p0 p1 p2 p3 p4 p5
  | true =>
  cases p6 : wi lo hi (z 6) with
  | false => simpa only [p0, p1, p2, p3, p4, p5, p6, Bool.true_and, Bool.false_and] using aw_6 z lo hi w p0 p1 p2 p3 p4 p5 p6
  | true =>
  cases p7 : wi lo hi (z 7) with
  | false => simpa only [p0, p1, p2, p3, p4, p5, p6, p7, Bool.true_and, Bool.false_and] using aw_7 z lo hi w p0 p1 p2 p3 p4 p5 p6 p7
  | true =>
  cases p8 : wi lo hi (z 8) with
  | false => simpa only [p0, p1, p2, p3, p4, p5, p6, p7, p8, Bool.true_and, Bool.false_and] using aw_8 z lo hi w p0 p1 p2 p3 p4 p5 p6 p7 p8
  | true =>
  cases p9 : wi lo hi (z 9) with
  | false => simpa only [p0, p1, p2, p3, p4, p5, p6, p7, p8, p9, Bool.true_and, Bool.false_and] using aw_9 z lo hi w p0 p1 p2 p3 p4 p5 p6 p7 p8 p9
  | true =>
  cases p10 : wi lo hi (z 10) with
  | false => simpa only [p0, p1, p2, p3, p4, p5, p6, p7, p8, p9, p10, Bool.true_and, Bool.false_and] using aw_10 z lo hi w p0 p1 p2 p3 p4 p5 p6 p7 p8 p9 p10
  | true =>
  cases p11 : wi lo hi (z 11) with
  | false => simpa only [p0, p1, p2, p3, p4, p5, p6, p7, p8, p9, p10, p11, Bool.true_and, Bool.false_and] using aw_11 z lo hi w p0 p1 p2 p3 p4 p5 p6 p7 p8 p9 p10 p11
  | true =>
  cases p12 : wi lo hi (z 12) with
  | false => simpa only [p0, p1, p2, p3, p4, p5, p6, p7, p8, p9, p10, p11, p12, Bool.true_and, Bool.false_and] using aw_12 z lo hi w p0 p1 p2 p3 p4 p5 p6 p7 p8 p9 p10 p11 p12
  | true =>
  cases p13 : wi lo hi (z 13) with
  | false => simpa only [p0, p1, p2, p3, p4, p5, p6, p7, p8, p9, p10, p11, p12, p13, Bool.true_and, Bool.false_and] using aw_13 z lo hi w p0 p1 p2 p3 p4 p5 p6 p7 p8 p9 p10 p11 p12 p13
  | true =>
  cases p14 : wi lo hi (z 14) with
  | false => simpa only [p0, p1, p2, p3, p4, p5, p6, p7, p8, p9, p10, p11, p12, p13, p14, Bool.true_and, Bool.false_and] using aw_14 z lo hi w p0 p1 p2 p3 p4 p5 p6 p7 p8 p9 p10 p11 p12 p13 p14
  | true =>
  cases p15 : wi lo hi (z 15) with
  | false => simpa only [p0, p1, p2, p3, p4, p5, p6, p7, p8, p9, p10, p11, p12, p13, p14, p15, Bool.true_and, Bool.false_and] using aw_15 z lo hi w p0 p1 p2 p3 p4 p5 p6 p7 p8 p9 p10 p11 p12 p13 p14 p15
  | true =>
  simpa only [p0, p1, p2, p3, p4, p5, p6, p7, p8, p9, p10, p11, p12, p13, p14, p15, Bool.true_and, Bool.and_true] using aw_16 z lo hi w p0 p1 p2 p3 p4 p5 p6 p7 p8 p9 p10 p11 p12 p13 p14 p15
end Ty
end Go.Proofs.YtbidagapkcmfnaaDoor
end
