/-
  Curves whose numbers are not negative: by the model. No condition.
-/
import Derived.Test.YtbidagapkcmfnaaDoorLa
noncomputable section
namespace Go.Proofs.YtbidagapkcmfnaaDoor
namespace Ty
open Tx Go Go.RowKit Ev Ieee
set_option maxHeartbeats 4000000 in
set_option maxRecDepth 100000 in
theorem am_0 (z : Nat → Nat) (w : World)  (q : wi 0 2139095039 (z 0) = false) : Calls Tryd.prog 32 #[cvV z] w fun e w' => e = .returned (.bool false) ∧ Below w.heap.size w w' := by
  unfold cvV
  have hC : Cv z w.heap.size (w.alloc (.cells #[.float .f32 (z 0), .float .f32 (z 1), .float .f32 (z 2), .float .f32 (z 3), .float .f32 (z 4), .float .f32 (z 5), .float .f32 (z 6), .float .f32 (z 7), .float .f32 (z 8), .float .f32 (z 9), .float .f32 (z 10), .float .f32 (z 11), .float .f32 (z 12), .float .f32 (z 13), .float .f32 (z 14), .float .f32 (z 15)] 29)) := cv_new z rfl
  have hW : Below w.heap.size w (w.alloc (.cells #[.float .f32 (z 0), .float .f32 (z 1), .float .f32 (z 2), .float .f32 (z 3), .float .f32 (z 4), .float .f32 (z 5), .float .f32 (z 6), .float .f32 (z 7), .float .f32 (z 8), .float .f32 (z 9), .float .f32 (z 10), .float .f32 (z 11), .float .f32 (z 12), .float .f32 (z 13), .float .f32 (z 14), .float .f32 (z 15)] 29)) := bA (Below.refl _ _) _
  have c := hC.2 0 (by decide)
  go_enter Tryd.func32, Tryd.ntmps32
  go_wp2_with fail
  refine wp_loop_rounds 17 ?_
  rw [rounds_succ]
  go_wp2_with (go_at_call 33; refine (amount_calls (z 0) _).mono ?_; rw [q]; rintro e w' ⟨rfl, hb⟩; have hC := cv_below hb (by assumption); have c := hC.2 1 (by decide); have hW := Below.trans (by assumption) (hb.mono (Below.size (by assumption))))
  go_ret
  exact ⟨rfl, by assumption⟩
set_option maxHeartbeats 4000000 in
set_option maxRecDepth 100000 in
theorem am_1 (z : Nat → Nat) (w : World) (p0 : wi 0 2139095039 (z 0) = true) (q : wi 0 2139095039 (z 1) = false) : Calls Tryd.prog 32 #[cvV z] w fun e w' => e = .returned (.bool false) ∧ Below w.heap.size w w' := by
  unfold cvV
  have hC : Cv z w.heap.size (w.alloc (.cells #[.float .f32 (z 0), .float .f32 (z 1), .float .f32 (z 2), .float .f32 (z 3), .float .f32 (z 4), .float .f32 (z 5), .float .f32 (z 6), .float .f32 (z 7), .float .f32 (z 8), .float .f32 (z 9), .float .f32 (z 10), .float .f32 (z 11), .float .f32 (z 12), .float .f32 (z 13), .float .f32 (z 14), .float .f32 (z 15)] 29)) := cv_new z rfl
  have hW : Below w.heap.size w (w.alloc (.cells #[.float .f32 (z 0), .float .f32 (z 1), .float .f32 (z 2), .float .f32 (z 3), .float .f32 (z 4), .float .f32 (z 5), .float .f32 (z 6), .float .f32 (z 7), .float .f32 (z 8), .float .f32 (z 9), .float .f32 (z 10), .float .f32 (z 11), .float .f32 (z 12), .float .f32 (z 13), .float .f32 (z 14), .float .f32 (z 15)] 29)) := bA (Below.refl _ _) _
  have c := hC.2 0 (by decide)
  go_enter Tryd.func32, Tryd.ntmps32
  go_wp2_with fail
  refine wp_loop_rounds 17 ?_
  rw [rounds_succ]
  go_wp2_with (go_at_call 33; refine (amount_calls (z 0) _).mono ?_; rw [p0]; rintro e w' ⟨rfl, hb⟩; have hC := cv_below hb (by assumption); have c := hC.2 1 (by decide); have hW := Below.trans (by assumption) (hb.mono (Below.size (by assumption))))
  rw [rounds_succ]
  go_wp2_with (go_at_call 33; refine (amount_calls (z 1) _).mono ?_; rw [q]; rintro e w' ⟨rfl, hb⟩; have hC := cv_below hb (by assumption); have c := hC.2 2 (by decide); have hW := Below.trans (by assumption) (hb.mono (Below.size (by assumption))))
  go_ret
  exact ⟨rfl, by assumption⟩
set_option maxHeartbeats 4000000 in
set_option maxRecDepth 100000 in
theorem am_2 (z : Nat → Nat) (w : World) (p0 : wi 0 2139095039 (z 0) = true) (p1 : wi 0 2139095039 (z 1) = true) (q : wi 0 2139095039 (z 2) = false) : Calls Tryd.prog 32 #[cvV z] w fun e w' => e = .returned (.bool false) ∧ Below w.heap.size w w' := by
  unfold cvV
  have hC : Cv z w.heap.size (w.alloc (.cells #[.float .f32 (z 0), .float .f32 (z 1), .float .f32 (z 2), .float .f32 (z 3), .float .f32 (z 4), .float .f32 (z 5), .float .f32 (z 6), .float .f32 (z 7), .float .f32 (z 8), .float .f32 (z 9), .float .f32 (z 10), .float .f32 (z 11), .float .f32 (z 12), .float .f32 (z 13), .float .f32 (z 14), .float .f32 (z 15)] 29)) := cv_new z rfl
  have hW : Below w.heap.size w (w.alloc (.cells #[.float .f32 (z 0), .float .f32 (z 1), .float .f32 (z 2), .float .f32 (z 3), .float .f32 (z 4), .float .f32 (z 5), .float .f32 (z 6), .float .f32 (z 7), .float .f32 (z 8), .float .f32 (z 9), .float .f32 (z 10), .float .f32 (z 11), .float .f32 (z 12), .float .f32 (z 13), .float .f32 (z 14), .float .f32 (z 15)] 29)) := bA (Below.refl _ _) _
  have c := hC.2 0 (by decide)
  go_enter Tryd.func32, Tryd.ntmps32
  go_wp2_with fail
  refine wp_loop_rounds 17 ?_
  rw [rounds_succ]
  go_wp2_with (go_at_call 33; refine (amount_calls (z 0) _).mono ?_; rw [p0]; rintro e w' ⟨rfl, hb⟩; have hC := cv_below hb (by assumption); have c := hC.2 1 (by decide); have hW := Below.trans (by assumption) (hb.mono (Below.size (by assumption))))
  rw [rounds_succ]
  go_wp2_with (go_at_call 33; refine (amount_calls (z 1) _).mono ?_; rw [p1]; rintro e w' ⟨rfl, hb⟩; have hC := cv_below hb (by assumption); have c := hC.2 2 (by decide); have hW := Below.trans (by assumption) (hb.mono (Below.size (by assumption))))
  rw [rounds_succ]
  go_wp2_with (go_at_call 33; refine (amount_calls (z 2) _).mono ?_; rw [q]; rintro e w' ⟨rfl, hb⟩; have hC := cv_below hb (by assumption); have c := hC.2 3 (by decide); have hW := Below.trans (by assumption) (hb.mono (Below.size (by assumption))))
  go_ret
  exact ⟨rfl, by assumption⟩
set_option maxHeartbeats 4000000 in
set_option maxRecDepth 100000 in
theorem am_3 (z : Nat → Nat) (w : World) (p0 : wi 0 2139095039 (z 0) = true) (p1 : wi 0 2139095039 (z 1) = true) (p2 : wi 0 2139095039 (z 2) = true) (q : wi 0 2139095039 (z 3) = false) : Calls Tryd.prog 32 #[cvV z] w fun e w' => e = .returned (.bool false) ∧ Below w.heap.size w w' := by
  unfold cvV
  have hC : Cv z w.heap.size (w.alloc (.cells #[.float .f32 (z 0), .float .f32 (z 1), .float .f32 (z 2), .float .f32 (z 3), .float .f32 (z 4), .float .f32 (z 5), .float .f32 (z 6), .float .f32 (z 7), .float .f32 (z 8), .float .f32 (z 9), .float .f32 (z 10), .float .f32 (z 11), .float .f32 (z 12), .float .f32 (z 13), .float .f32 (z 14), .float .f32 (z 15)] 29)) := cv_new z rfl
  have hW : Below w.heap.size w (w.alloc (.cells #[.float .f32 (z 0), .float .f32 (z 1), .float .f32 (z 2), .float .f32 (z 3), .float .f32 (z 4), .float .f32 (z 5), .float .f32 (z 6), .float .f32 (z 7), .float .f32 (z 8), .float .f32 (z 9), .float .f32 (z 10), .float .f32 (z 11), .float .f32 (z 12), .float .f32 (z 13), .float .f32 (z 14), .float .f32 (z 15)] 29)) := bA (Below.refl _ _) _
  have c := hC.2 0 (by decide)
  go_enter Tryd.func32, Tryd.ntmps32
  go_wp2_with fail
  refine wp_loop_rounds 17 ?_
  rw [rounds_succ]
  go_wp2_with (go_at_call 33; refine (amount_calls (z 0) _).mono ?_; rw [p0]; rintro e w' ⟨rfl, hb⟩; have hC := cv_below hb (by assumption); have c := hC.2 1 (by decide); have hW := Below.trans (by assumption) (hb.mono (Below.size (by assumption))))
  rw [rounds_succ]
  go_wp2_with (go_at_call 33; refine (amount_calls (z 1) _).mono ?_; rw [p1]; rintro e w' ⟨rfl, hb⟩; have hC := cv_below hb (by assumption); have c := hC.2 2 (by decide); have hW := Below.trans (by assumption) (hb.mono (Below.size (by assumption))))
  rw [rounds_succ]
  go_wp2_with (go_at_call 33; refine (amount_calls (z 2) _).mono ?_; rw [p2]; rintro e w' ⟨rfl, hb⟩; have hC := cv_below hb (by assumption); have c := hC.2 3 (by decide); have hW := Below.trans (by assumption) (hb.mono (Below.size (by assumption))))
  rw [rounds_succ]
  go_wp2_with (go_at_call 33; refine (amount_calls (z 3) _).mono ?_; rw [q]; rintro e w' ⟨rfl, hb⟩; have hC := cv_below hb (by assumption); have c := hC.2 4 (by decide); have hW := Below.trans (by assumption) (hb.mono (Below.size (by assumption))))
  go_ret
  exact ⟨rfl, by assumption⟩
set_option maxHeartbeats 4000000 in
set_option maxRecDepth 100000 in
theorem am_4 (z : Nat → Nat) (w : World) (p0 : wi 0 2139095039 (z 0) = true) (p1 : wi 0 2139095039 (z 1) = true) (p2 : wi 0 2139095039 (z 2) = true) (p3 : wi 0 2139095039 (z 3) = true) (q : wi 0 2139095039 (z 4) = false) : Calls Tryd.prog 32 #[cvV z] w fun e w' => e = .returned (.bool false) ∧ Below w.heap.size w w' := by
  unfold cvV
  have hC : Cv z w.heap.size (w.alloc (.cells #[.float .f32 (z 0), .float .f32 (z 1), .float .f32 (z 2), .float .f32 (z 3), .float .f32 (z 4), .float .f32 (z 5), .float .f32 (z 6), .float .f32 (z 7), .float .f32 (z 8), .float .f32 (z 9), .float .f32 (z 10), .float .f32 (z 11), .float .f32 (z 12), .float .f32 (z 13), .float .f32 (z 14), .float .f32 (z 15)] 29)) := cv_new z rfl
  have hW : Below w.heap.size w (w.alloc (.cells #[.float .f32 (z 0), .float .f32 (z 1), .float .f32 (z 2), .float .f32 (z 3), .float .f32 (z 4), .float .f32 (z 5), .float .f32 (z 6), .float .f32 (z 7), .float .f32 (z 8), .float .f32 (z 9), .float .f32 (z 10), .float .f32 (z 11), .float .f32 (z 12), .float .f32 (z 13), .float .f32 (z 14), .float .f32 (z 15)] 29)) := bA (Below.refl _ _) _
  have c := hC.2 0 (by decide)
  go_enter Tryd.func32, Tryd.ntmps32
  go_wp2_with fail
  refine wp_loop_rounds 17 ?_
  rw [rounds_succ]
  go_wp2_with (go_at_call 33; refine (amount_calls (z 0) _).mono ?_; rw [p0]; rintro e w' ⟨rfl, hb⟩; have hC := cv_below hb (by assumption); have c := hC.2 1 (by decide); have hW := Below.trans (by assumption) (hb.mono (Below.size (by assumption))))
  rw [rounds_succ]
  go_wp2_with (go_at_call 33; refine (amount_calls (z 1) _).mono ?_; rw [p1]; rintro e w' ⟨rfl, hb⟩; have hC := cv_below hb (by assumption); have c := hC.2 2 (by decide); have hW := Below.trans (by assumption) (hb.mono (Below.size (by assumption))))
  rw [rounds_succ]
  go_wp2_with (go_at_call 33; refine (amount_calls (z 2) _).mono ?_; rw [p2]; rintro e w' ⟨rfl, hb⟩; have hC := cv_below hb (by assumption); have c := hC.2 3 (by decide); have hW := Below.trans (by assumption) (hb.mono (Below.size (by assumption))))
  rw [rounds_succ]
  go_wp2_with (go_at_call 33; refine (amount_calls (z 3) _).mono ?_; rw [p3]; rintro e w' ⟨rfl, hb⟩; have hC := cv_below hb (by assumption); have c := hC.2 4 (by decide); have hW := Below.trans (by assumption) (hb.mono (Below.size (by assumption))))
  rw [rounds_succ]
  go_wp2_with (go_at_call 33; refine (amount_calls (z 4) _).mono ?_; rw [q]; rintro e w' ⟨rfl, hb⟩; have hC := cv_below hb (by assumption); have c := hC.2 5 (by decide); have hW := Below.trans (by assumption) (hb.mono (Below.size (by assumption))))
  go_ret
  exact ⟨rfl, by assumption⟩
set_option maxHeartbeats 4000000 in
set_option maxRecDepth 100000 in
theorem am_5 (z : Nat → Nat) (w : World) (p0 : wi 0 2139095039 (z 0) = true) (p1 : wi 0 2139095039 (z 1) = true) (p2 : wi 0 2139095039 (z 2) = true) (p3 : wi 0 2139095039 (z 3) = true) (p4 : wi 0 2139095039 (z 4) = true) (q : wi 0 2139095039 (z 5) = false) : Calls Tryd.prog 32 #[cvV z] w fun e w' => e = .returned (.bool false) ∧ Below w.heap.size w w' := by
  unfold cvV
  have hC : Cv z w.heap.size (w.alloc (.cells #[.float .f32 (z 0), .float .f32 (z 1), .float .f32 (z 2), .float .f32 (z 3), .float .f32 (z 4), .float .f32 (z 5), .float .f32 (z 6), .float .f32 (z 7), .float .f32 (z 8), .float .f32 (z 9), .float .f32 (z 10), .float .f32 (z 11), .float .f32 (z 12), .float .f32 (z 13), .float .f32 (z 14), .float .f32 (z 15)] 29)) := cv_new z rfl
  have hW : Below w.heap.size w (w.alloc (.cells #[.float .f32 (z 0), .float .f32 (z 1), .float .f32 (z 2), .float .f32 (z 3), .float .f32 (z 4), .float .f32 (z 5), .float .f32 (z 6), .float .f32 (z 7), .float .f32 (z 8), .float .f32 (z 9), .float .f32 (z 10), .float .f32 (z 11), .float .f32 (z 12), .float .f32 (z 13), .float .f32 (z 14), .float .f32 (z 15)] 29)) := bA (Below.refl _ _) _
  have c := hC.2 0 (by decide)
  go_enter Tryd.func32, Tryd.ntmps32
  go_wp2_with fail
  refine wp_loop_rounds 17 ?_
  rw [rounds_succ]
  go_wp2_with (go_at_call 33; refine (amount_calls (z 0) _).mono ?_; rw [p0]; rintro e w' ⟨rfl, hb⟩; have hC := cv_below hb (by assumption); have c := hC.2 1 (by decide); have hW := Below.trans (by assumption) (hb.mono (Below.size (by assumption))))
  rw [rounds_succ]
  go_wp2_with (go_at_call 33; refine (amount_calls (z 1) _).mono ?_; rw [p1]; rintro e w' ⟨rfl, hb⟩; have hC := cv_below hb (by assumption); have c := hC.2 2 (by decide); have hW := Below.trans (by assumption) (hb.mono (Below.size (by assumption))))
  rw [rounds_succ]
  go_wp2_with (go_at_call 33; refine (amount_calls (z 2) _).mono ?_; rw [p2]; rintro e w' ⟨rfl, hb⟩; have hC := cv_below hb (by assumption); have c := hC.2 3 (by decide); have hW := Below.trans (by assumption) (hb.mono (Below.size (by assumption))))
  rw [rounds_succ]
  go_wp2_with (go_at_call 33; refine (amount_calls (z 3) _).mono ?_; rw [p3]; rintro e w' ⟨rfl, hb⟩; have hC := cv_below hb (by assumption); have c := hC.2 4 (by decide); have hW := Below.trans (by assumption) (hb.mono (Below.size (by assumption))))
  rw [rounds_succ]
  go_wp2_with (go_at_call 33; refine (amount_calls (z 4) _).mono ?_; rw [p4]; rintro e w' ⟨rfl, hb⟩; have hC := cv_below hb (by assumption); have c := hC.2 5 (by decide); have hW := Below.trans (by assumption) (hb.mono (Below.size (by assumption))))
  rw [rounds_succ]
  go_wp2_with (go_at_call 33; refine (amount_calls (z 5) _).mono ?_; rw [q]; rintro e w' ⟨rfl, hb⟩; have hC := cv_below hb (by assumption); have c := hC.2 6 (by decide); have hW := Below.trans (by assumption) (hb.mono (Below.size (by assumption))))
  go_ret
  exact ⟨rfl, by assumption⟩
set_option maxHeartbeats 4000000 in
set_option maxRecDepth 100000 in
theorem am_6 (z : Nat → Nat) (w : World) (p0 : wi 0 2139095039 (z 0) = true) (p1 : wi 0 2139095039 (z 1) = true) (p2 : wi 0 2139095039 (z 2) = true) (p3 : wi 0 2139095039 (z 3) = true) (p4 : wi 0 2139095039 (z 4) = true) (p5 : wi 0 2139095039 (z 5) = true) (q : wi 0 2139095039 (z 6) = false) : Calls Tryd.prog 32 #[cvV z] w fun e w' => e = .returned (.bool false) ∧ Below w.heap.size w w' := by
  unfold cvV
  have hC : Cv z w.heap.size (w.alloc (.cells #[.float .f32 (z 0), .float .f32 (z 1), .float .f32 (z 2), .float .f32 (z 3), .float .f32 (z 4), .float .f32 (z 5), .float .f32 (z 6), .float .f32 (z 7), .float .f32 (z 8), .float .f32 (z 9), .float .f32 (z 10), .float .f32 (z 11), .float .f32 (z 12), .float .f32 (z 13), .float .f32 (z 14), .float .f32 (z 15)] 29)) := cv_new z rfl
  have hW : Below w.heap.size w (w.alloc (.cells #[.float .f32 (z 0), .float .f32 (z 1), .float .f32 (z 2), .float .f32 (z 3), .float .f32 (z 4), .float .f32 (z 5), .float .f32 (z 6), .float .f32 (z 7), .float .f32 (z 8), .float .f32 (z 9), .float .f32 (z 10), .float .f32 (z 11), .float .f32 (z 12), .float .f32 (z 13), .float .f32 (z 14), .float .f32 (z 15)] 29)) := bA (Below.refl _ _) _
  have c := hC.2 0 (by decide)
  go_enter Tryd.func32, Tryd.ntmps32
  go_wp2_with fail
  refine wp_loop_rounds 17 ?_
  rw [rounds_succ]
  go_wp2_with (go_at_call 33; refine (amount_calls (z 0) _).mono ?_; rw [p0]; rintro e w' ⟨rfl, hb⟩; have hC := cv_below hb (by assumption); have c := hC.2 1 (by decide); have hW := Below.trans (by assumption) (hb.mono (Below.size (by assumption))))
  rw [rounds_succ]
  go_wp2_with (go_at_call 33; refine (amount_calls (z 1) _).mono ?_; rw [p1]; rintro e w' ⟨rfl, hb⟩; have hC := cv_below hb (by assumption); have c := hC.2 2 (by decide); have hW := Below.trans (by assumption) (hb.mono (Below.size (by assumption))))
  rw [rounds_succ]
  go_wp2_with (go_at_call 33; refine (amount_calls (z 2) _).mono ?_; rw [p2]; rintro e w' ⟨rfl, hb⟩; have hC := cv_below hb (by assumption); have c := hC.2 3 (by decide); have hW := Below.trans (by assumption) (hb.mono (Below.size (by assumption))))
  rw [rounds_succ]
  go_wp2_with (go_at_call 33; refine (amount_calls (z 3) _).mono ?_; rw [p3]; rintro e w' ⟨rfl, hb⟩; have hC := cv_below hb (by assumption); have c := hC.2 4 (by decide); have hW := Below.trans (by assumption) (hb.mono (Below.size (by assumption))))
  rw [rounds_succ]
  go_wp2_with (go_at_call 33; refine (amount_calls (z 4) _).mono ?_; rw [p4]; rintro e w' ⟨rfl, hb⟩; have hC := cv_below hb (by assumption); have c := hC.2 5 (by decide); have hW := Below.trans (by assumption) (hb.mono (Below.size (by assumption))))
  rw [rounds_succ]
  go_wp2_with (go_at_call 33; refine (amount_calls (z 5) _).mono ?_; rw [p5]; rintro e w' ⟨rfl, hb⟩; have hC := cv_below hb (by assumption); have c := hC.2 6 (by decide); have hW := Below.trans (by assumption) (hb.mono (Below.size (by assumption))))
  rw [rounds_succ]
  go_wp2_with (go_at_call 33; refine (amount_calls (z 6) _).mono ?_; rw [q]; rintro e w' ⟨rfl, hb⟩; have hC := cv_below hb (by assumption); have c := hC.2 7 (by decide); have hW := Below.trans (by assumption) (hb.mono (Below.size (by assumption))))
  go_ret
  exact ⟨rfl, by assumption⟩
set_option maxHeartbeats 4000000 in
set_option maxRecDepth 100000 in
theorem am_7 (z : Nat → Nat) (w : World) (p0 : wi 0 2139095039 (z 0) = true) (p1 : wi 0 2139095039 (z 1) = true) (p2 : wi 0 2139095039 (z 2) = true) (p3 : wi 0 2139095039 (z 3) = true) (p4 : wi 0 2139095039 (z 4) = true) (p5 : wi 0 2139095039 (z 5) = true) (p6 : wi 0 2139095039 (z 6) = true) (q : wi 0 2139095039 (z 7) = false) : Calls Tryd.prog 32 #[cvV z] w fun e w' => e = .returned (.bool false) ∧ Below w.heap.size w w' := by
  unfold cvV
  have hC : Cv z w.heap.size (w.alloc (.cells #[.float .f32 (z 0), .float .f32 (z 1), .float .f32 (z 2), .float .f32 (z 3), .float .f32 (z 4), .float .f32 (z 5), .float .f32 (z 6), .float .f32 (z 7), .float .f32 (z 8), .float .f32 (z 9), .float .f32 (z 10), .float .f32 (z 11), .float .f32 (z 12), .float .f32 (z 13), .float .f32 (z 14), .float .f32 (z 15)] 29)) := cv_new z rfl
  have hW : Below w.heap.size w (w.alloc (.cells #[.float .f32 (z 0), .float .f32 (z 1), .float .f32 (z 2), .float .f32 (z 3), .float .f32 (z 4), .float .f32 (z 5), .float .f32 (z 6), .float .f32 (z 7), .float .f32 (z 8), .float .f32 (z 9), .float .f32 (z 10), .float .f32 (z 11), .float .f32 (z 12), .float .f32 (z 13), .float .f32 (z 14), .float .f32 (z 15)] 29)) := bA (Below.refl _ _) _
  have c := hC.2 0 (by decide)
  go_enter Tryd.func32, Tryd.ntmps32
  go_wp2_with fail
  refine wp_loop_rounds 17 ?_
  rw [rounds_succ]
  go_wp2_with (go_at_call 33; refine (amount_calls (z 0) _).mono ?_; rw [p0]; rintro e w' ⟨rfl, hb⟩; have hC := cv_below hb (by assumption); have c := hC.2 1 (by decide); have hW := Below.trans (by assumption) (hb.mono (Below.size (by assumption))))
  rw [rounds_succ]
  go_wp2_with (go_at_call 33; refine (amount_calls (z 1) _).mono ?_; rw [p1]; rintro e w' ⟨rfl, hb⟩; have hC := cv_below hb (by assumption); have c := hC.2 2 (by decide); have hW := Below.trans (by assumption) (hb.mono (Below.size (by assumption))))
  rw [rounds_succ]
  go_wp2_with (go_at_call 33; refine (amount_calls (z 2) _).mono ?_; rw [p2]; rintro e w' ⟨rfl, hb⟩; have hC := cv_below hb (by assumption); have c := hC.2 3 (by decide); have hW := Below.trans (by assumption) (hb.mono (Below.size (by assumption))))
  rw [rounds_succ]
  go_wp2_with (go_at_call 33; refine (amount_calls (z 3) _).mono ?_; rw [p3]; rintro e w' ⟨rfl, hb⟩; have hC := cv_below hb (by assumption); have c := hC.2 4 (by decide); have hW := Below.trans (by assumption) (hb.mono (Below.size (by assumption))))
  rw [rounds_succ]
  go_wp2_with (go_at_call 33; refine (amount_calls (z 4) _).mono ?_; rw [p4]; rintro e w' ⟨rfl, hb⟩; have hC := cv_below hb (by assumption); have c := hC.2 5 (by decide); have hW := Below.trans (by assumption) (hb.mono (Below.size (by assumption))))
  rw [rounds_succ]
  go_wp2_with (go_at_call 33; refine (amount_calls (z 5) _).mono ?_; rw [p5]; rintro e w' ⟨rfl, hb⟩; have hC := cv_below hb (by assumption); have c := hC.2 6 (by decide); have hW := Below.trans (by assumption) (hb.mono (Below.size (by assumption))))
  rw [rounds_succ]
  go_wp2_with (go_at_call 33; refine (amount_calls (z 6) _).mono ?_; rw [p6]; rintro e w' ⟨rfl, hb⟩; have hC := cv_below hb (by assumption); have c := hC.2 7 (by decide); have hW := Below.trans (by assumption) (hb.mono (Below.size (by assumption))))
  rw [rounds_succ]
  go_wp2_with (go_at_call 33; refine (amount_calls (z 7) _).mono ?_; rw [q]; rintro e w' ⟨rfl, hb⟩; have hC := cv_below hb (by assumption); have c := hC.2 8 (by decide); have hW := Below.trans (by assumption) (hb.mono (Below.size (by assumption))))
  go_ret
  exact ⟨rfl, by assumption⟩
set_option maxHeartbeats 4000000 in
set_option maxRecDepth 100000 in
theorem am_8 (z : Nat → Nat) (w : World) (p0 : wi 0 2139095039 (z 0) = true) (p1 : wi 0 2139095039 (z 1) = true) (p2 : wi 0 2139095039 (z 2) = true) (p3 : wi 0 2139095039 (z 3) = true) (p4 : wi 0 2139095039 (z 4) = true) (p5 : wi 0 2139095039 (z 5) = true) (p6 : wi 0 2139095039 (z 6) = true) (p7 : wi 0 2139095039 (z 7) = true) (q : wi 0 2139095039 (z 8) = false) : Calls Tryd.prog 32 #[cvV z] w fun e w' => e = .returned (.bool false) ∧ Below w.heap.size w w' := by
  unfold cvV
  have hC : Cv z w.heap.size (w.alloc (.cells #[.float .f32 (z 0), .float .f32 (z 1), .float .f32 (z 2), .float .f32 (z 3), .float .f32 (z 4), .float .f32 (z 5), .float .f32 (z 6), .float .f32 (z 7), .float .f32 (z 8), .float .f32 (z 9), .float .f32 (z 10), .float .f32 (z 11), .float .f32 (z 12), .float .f32 (z 13), .float .f32 (z 14), .float .f32 (z 15)] 29)) := cv_new z rfl
  have hW : Below w.heap.size w (w.alloc (.cells #[.float .f32 (z 0), .float .f32 (z 1), .float .f32 (z 2), .float .f32 (z 3), .float .f32 (z 4), .float .f32 (z 5), .float .f32 (z 6), .float .f32 (z 7), .float .f32 (z 8), .float .f32 (z 9), .float .f32 (z 10), .float .f32 (z 11), .float .f32 (z 12), .float .f32 (z 13), .float .f32 (z 14), .float .f32 (z 15)] 29)) := bA (Below.refl _ _) _
  have c := hC.2 0 (by decide)
  go_enter Tryd.func32, Tryd.ntmps32
  go_wp2_with fail
  refine wp_loop_rounds 17 ?_
  rw [rounds_succ]
  go_wp2_with (go_at_call 33; refine (amount_calls (z 0) _).mono ?_; rw [p0]; rintro e w' ⟨rfl, hb⟩; have hC := cv_below hb (by assumption); have c := hC.2 1 (by decide); have hW := Below.trans (by assumption) (hb.mono (Below.size (by assumption))))
  rw [rounds_succ]
  go_wp2_with (go_at_call 33; refine (amount_calls (z 1) _).mono ?_; rw [p1]; rintro e w' ⟨rfl, hb⟩; have hC := cv_below hb (by assumption); have c := hC.2 2 (by decide); have hW := Below.trans (by assumption) (hb.mono (Below.size (by assumption))))
  rw [rounds_succ]
  go_wp2_with (go_at_call 33; refine (amount_calls (z 2) _).mono ?_; rw [p2]; rintro e w' ⟨rfl, hb⟩; have hC := cv_below hb (by assumption); have c := hC.2 3 (by decide); have hW := Below.trans (by assumption) (hb.mono (Below.size (by assumption))))
  rw [rounds_succ]
  go_wp2_with (go_at_call 33; refine (amount_calls (z 3) _).mono ?_; rw [p3]; rintro e w' ⟨rfl, hb⟩; have hC := cv_below hb (by assumption); have c := hC.2 4 (by decide); have hW := Below.trans (by assumption) (hb.mono (Below.size (by assumption))))
  rw [rounds_succ]
  go_wp2_with (go_at_call 33; refine (amount_calls (z 4) _).mono ?_; rw [p4]; rintro e w' ⟨rfl, hb⟩; have hC := cv_below hb (by assumption); have c := hC.2 5 (by decide); have hW := Below.trans (by assumption) (hb.mono (Below.size (by assumption))))
  rw [rounds_succ]
  go_wp2_with (go_at_call 33; refine (amount_calls (z 5) _).mono ?_; rw [p5]; rintro e w' ⟨rfl, hb⟩; have hC := cv_below hb (by assumption); have c := hC.2 6 (by decide); have hW := Below.trans (by assumption) (hb.mono (Below.size (by assumption))))
  rw [rounds_succ]
  go_wp2_with (go_at_call 33; refine (amount_calls (z 6) _).mono ?_; rw [p6]; rintro e w' ⟨rfl, hb⟩; have hC := cv_below hb (by assumption); have c := hC.2 7 (by decide); have hW := Below.trans (by assumption) (hb.mono (Below.size (by assumption))))
  rw [rounds_succ]
  go_wp2_with (go_at_call 33; refine (amount_calls (z 7) _).mono ?_; rw [p7]; rintro e w' ⟨rfl, hb⟩; have hC := cv_below hb (by assumption); have c := hC.2 8 (by decide); have hW := Below.trans (by assumption) (hb.mono (Below.size (by assumption))))
  rw [rounds_succ]
  go_wp2_with (go_at_call 33; refine (amount_calls (z 8) _).mono ?_; rw [q]; rintro e w' ⟨rfl, hb⟩; have hC := cv_below hb (by assumption); have c := hC.2 9 (by decide); have hW := Below.trans (by assumption) (hb.mono (Below.size (by assumption))))
  go_ret
  exact ⟨rfl, by assumption⟩
set_option maxHeartbeats 4000000 in
set_option maxRecDepth 100000 in
theorem am_9 (z : Nat → Nat) (w : World) (p0 : wi 0 2139095039 (z 0) = true) (p1 : wi 0 2139095039 (z 1) = true) (p2 : wi 0 2139095039 (z 2) = true) (p3 : wi 0 2139095039 (z 3) = true) (p4 : wi 0 2139095039 (z 4) = true) (p5 : wi 0 2139095039 (z 5) = true) (p6 : wi 0 2139095039 (z 6) = true) (p7 : wi 0 2139095039 (z 7) = true) (p8 : wi 0 2139095039 (z 8) = true) (q : wi 0 2139095039 (z 9) = false) : Calls Tryd.prog 32 #[cvV z] w fun e w' => e = .returned (.bool false) ∧ Below w.heap.size w w' := by
  unfold cvV
  have hC : Cv z w.heap.size (w.alloc (.cells #[.float .f32 (z 0), .float .f32 (z 1), .float .f32 (z 2), .float .f32 (z 3), .float .f32 (z 4), .float .f32 (z 5), .float .f32 (z 6), .float .f32 (z 7), .float .f32 (z 8), .float .f32 (z 9), .float .f32 (z 10), .float .f32 (z 11), .float .f32 (z 12), .float .f32 (z 13), .float .f32 (z 14), .float .f32 (z 15)] 29)) := cv_new z rfl
  have hW : Below w.heap.size w (w.alloc (.cells #[.float .f32 (z 0), .float .f32 (z 1), .float .f32 (z 2), .float .f32 (z 3), .float .f32 (z 4), .float .f32 (z 5), .float .f32 (z 6), .float .f32 (z 7), .float .f32 (z 8), .float .f32 (z 9), .float .f32 (z 10), .float .f32 (z 11), .float .f32 (z 12), .float .f32 (z 13), .float .f32 (z 14), .float .f32 (z 15)] 29)) := bA (Below.refl _ _) _
  have c := hC.2 0 (by decide)
  go_enter Tryd.func32, Tryd.ntmps32
  go_wp2_with fail
  refine wp_loop_rounds 17 ?_
  rw [rounds_succ]
  go_wp2_with (go_at_call 33; refine (amount_calls (z 0) _).mono ?_; rw [p0]; rintro e w' ⟨rfl, hb⟩; have hC := cv_below hb (by assumption); have c := hC.2 1 (by decide); have hW := Below.trans (by assumption) (hb.mono (Below.size (by assumption))))
  rw [rounds_succ]
  go_wp2_with (go_at_call 33; refine (amount_calls (z 1) _).mono ?_; rw [p1]; rintro e w' ⟨rfl, hb⟩; have hC := cv_below hb (by assumption); have c := hC.2 2 (by decide); have hW := Below.trans (by assumption) (hb.mono (Below.size (by assumption))))
  rw [rounds_succ]
  go_wp2_with (go_at_call 33; refine (amount_calls (z 2) _).mono ?_; rw [p2]; rintro e w' ⟨rfl, hb⟩; have hC := cv_below hb (by assumption); have c := hC.2 3 (by decide); have hW := Below.trans (by assumption) (hb.mono (Below.size (by assumption))))
  rw [rounds_succ]
  go_wp2_with (go_at_call 33; refine (amount_calls (z 3) _).mono ?_; rw [p3]; rintro e w' ⟨rfl, hb⟩; have hC := cv_below hb (by assumption); have c := hC.2 4 (by decide); have hW := Below.trans (by assumption) (hb.mono (Below.size (by assumption))))
  rw [rounds_succ]
  go_wp2_with (go_at_call 33; refine (amount_calls (z 4) _).mono ?_; rw [p4]; rintro e w' ⟨rfl, hb⟩; have hC := cv_below hb (by assumption); have c := hC.2 5 (by decide); have hW := Below.trans (by assumption) (hb.mono (Below.size (by assumption))))
  rw [rounds_succ]
  go_wp2_with (go_at_call 33; refine (amount_calls (z 5) _).mono ?_; rw [p5]; rintro e w' ⟨rfl, hb⟩; have hC := cv_below hb (by assumption); have c := hC.2 6 (by decide); have hW := Below.trans (by assumption) (hb.mono (Below.size (by assumption))))
  rw [rounds_succ]
  go_wp2_with (go_at_call 33; refine (amount_calls (z 6) _).mono ?_; rw [p6]; rintro e w' ⟨rfl, hb⟩; have hC := cv_below hb (by assumption); have c := hC.2 7 (by decide); have hW := Below.trans (by assumption) (hb.mono (Below.size (by assumption))))
  rw [rounds_succ]
  go_wp2_with (go_at_call 33; refine (amount_calls (z 7) _).mono ?_; rw [p7]; rintro e w' ⟨rfl, hb⟩; have hC := cv_below hb (by assumption); have c := hC.2 8 (by decide); have hW := Below.trans (by assumption) (hb.mono (Below.size (by assumption))))
  rw [rounds_succ]
  go_wp2_with (go_at_call 33; refine (amount_calls (z 8) _).mono ?_; rw [p8]; rintro e w' ⟨rfl, hb⟩; have hC := cv_below hb (by assumption); have c := hC.2 9 (by decide); have hW := Below.trans (by assumption) (hb.mono (Below.size (by assumption))))
  rw [rounds_succ]
  go_wp2_with (go_at_call 33; refine (amount_calls (z 9) _).mono ?_; rw [q]; rintro e w' ⟨rfl, hb⟩; have hC := cv_below hb (by assumption); have c := hC.2 10 (by decide); have hW := Below.trans (by assumption) (hb.mono (Below.size (by assumption))))
  go_ret
  exact ⟨rfl, by assumption⟩
set_option maxHeartbeats 4000000 in
set_option maxRecDepth 100000 in
theorem am_10 (z : Nat → Nat) (w : World) (p0 : wi 0 2139095039 (z 0) = true) (p1 : wi 0 2139095039 (z 1) = true) (p2 : wi 0 2139095039 (z 2) = true) (p3 : wi 0 2139095039 (z 3) = true) (p4 : wi 0 2139095039 (z 4) = true) (p5 : wi 0 2139095039 (z 5) = true) (p6 : wi 0 2139095039 (z 6) = true) (p7 : wi 0 2139095039 (z 7) = true) (p8 : wi 0 2139095039 (z 8) = true) (p9 : wi 0 2139095039 (z 9) = true) (q : wi 0 2139095039 (z 10) = false) : Calls Tryd.prog 32 #[cvV z] w fun e w' => e = .returned (.bool false) ∧ Below w.heap.size w w' := by
  unfold cvV
  have hC : Cv z w.heap.size (w.alloc (.cells #[.float .f32 (z 0), .float .f32 (z 1), .float .f32 (z 2), .float .f32 (z 3), .float .f32 (z 4), .float .f32 (z 5), .float .f32 (z 6), .float .f32 (z 7), .float .f32 (z 8), .float .f32 (z 9), .float .f32 (z 10), .float .f32 (z 11), .float .f32 (z 12), .float .f32 (z 13), .float .f32 (z 14), .float .f32 (z 15)] 29)) := cv_new z rfl
  have hW : Below w.heap.size w (w.alloc (.cells #[.float .f32 (z 0), .float .f32 (z 1), .float .f32 (z 2), .float .f32 (z 3), .float .f32 (z 4), .float .f32 (z 5), .float .f32 (z 6), .float .f32 (z 7), .float .f32 (z 8), .float .f32 (z 9), .float .f32 (z 10), .float .f32 (z 11), .float .f32 (z 12), .float .f32 (z 13), .float .f32 (z 14), .float .f32 (z 15)] 29)) := bA (Below.refl _ _) _
  have c := hC.2 0 (by decide)
  go_enter Tryd.func32, Tryd.ntmps32
  go_wp2_with fail
  refine wp_loop_rounds 17 ?_
  rw [rounds_succ]
  go_wp2_with (go_at_call 33; refine (amount_calls (z 0) _).mono ?_; rw [p0]; rintro e w' ⟨rfl, hb⟩; have hC := cv_below hb (by assumption); have c := hC.2 1 (by decide); have hW := Below.trans (by assumption) (hb.mono (Below.size (by assumption))))
  rw [rounds_succ]
  go_wp2_with (go_at_call 33; refine (amount_calls (z 1) _).mono ?_; rw [p1]; rintro e w' ⟨rfl, hb⟩; have hC := cv_below hb (by assumption); have c := hC.2 2 (by decide); have hW := Below.trans (by assumption) (hb.mono (Below.size (by assumption))))
  rw [rounds_succ]
  go_wp2_with (go_at_call 33; refine (amount_calls (z 2) _).mono ?_; rw [p2]; rintro e w' ⟨rfl, hb⟩; have hC := cv_below hb (by assumption); have c := hC.2 3 (by decide); have hW := Below.trans (by assumption) (hb.mono (Below.size (by assumption))))
  rw [rounds_succ]
  go_wp2_with (go_at_call 33; refine (amount_calls (z 3) _).mono ?_; rw [p3]; rintro e w' ⟨rfl, hb⟩; have hC := cv_below hb (by assumption); have c := hC.2 4 (by decide); have hW := Below.trans (by assumption) (hb.mono (Below.size (by assumption))))
  rw [rounds_succ]
  go_wp2_with (go_at_call 33; refine (amount_calls (z 4) _).mono ?_; rw [p4]; rintro e w' ⟨rfl, hb⟩; have hC := cv_below hb (by assumption); have c := hC.2 5 (by decide); have hW := Below.trans (by assumption) (hb.mono (Below.size (by assumption))))
  rw [rounds_succ]
  go_wp2_with (go_at_call 33; refine (amount_calls (z 5) _).mono ?_; rw [p5]; rintro e w' ⟨rfl, hb⟩; have hC := cv_below hb (by assumption); have c := hC.2 6 (by decide); have hW := Below.trans (by assumption) (hb.mono (Below.size (by assumption))))
  rw [rounds_succ]
  go_wp2_with (go_at_call 33; refine (amount_calls (z 6) _).mono ?_; rw [p6]; rintro e w' ⟨rfl, hb⟩; have hC := cv_below hb (by assumption); have c := hC.2 7 (by decide); have hW := Below.trans (by assumption) (hb.mono (Below.size (by assumption))))
  rw [rounds_succ]
  go_wp2_with (go_at_call 33; refine (amount_calls (z 7) _).mono ?_; rw [p7]; rintro e w' ⟨rfl, hb⟩; have hC := cv_below hb (by assumption); have c := hC.2 8 (by decide); have hW := Below.trans (by assumption) (hb.mono (Below.size (by assumption))))
  rw [rounds_succ]
  go_wp2_with (go_at_call 33; refine (amount_calls (z 8) _).mono ?_; rw [p8]; rintro e w' ⟨rfl, hb⟩; have hC := cv_below hb (by assumption); have c := hC.2 9 (by decide); have hW := Below.trans (by assumption) (hb.mono (Below.size (by assumption))))
  rw [rounds_succ]
  go_wp2_with (go_at_call 33; refine (amount_calls (z 9) _).mono ?_; rw [p9]; rintro e w' ⟨rfl, hb⟩; have hC := cv_below hb (by assumption); have c := hC.2 10 (by decide); have hW := Below.trans (by assumption) (hb.mono (Below.size (by assumption))))
  rw [rounds_succ]
  go_wp2_with (go_at_call 33; refine (amount_calls (z 10) _).mono ?_; rw [q]; rintro e w' ⟨rfl, hb⟩; have hC := cv_below hb (by assumption); have c := hC.2 11 (by decide); have hW := Below.trans (by assumption) (hb.mono (Below.size (by assumption))))
  go_ret
  exact ⟨rfl, by assumption⟩
set_option maxHeartbeats 4000000 in
set_option maxRecDepth 100000 in
theorem am_11 (z : Nat → Nat) (w : World) (p0 : wi 0 2139095039 (z 0) = true) (p1 : wi 0 2139095039 (z 1) = true) (p2 : wi 0 2139095039 (z 2) = true) (p3 : wi 0 2139095039 (z 3) = true) (p4 : wi 0 2139095039 (z 4) = true) (p5 : wi 0 2139095039 (z 5) = true) (p6 : wi 0 2139095039 (z 6) = true) (p7 : wi 0 2139095039 (z 7) = true) (p8 : wi 0 2139095039 (z 8) = true) (p9 : wi 0 2139095039 (z 9) = true) (p10 : wi 0 2139095039 (z 10) = true) (q : wi 0 2139095039 (z 11) = false) : Calls Tryd.prog 32 #[cvV z] w fun e w' => e = .returned (.bool false) ∧ Below w.heap.size w w' := by
  unfold cvV
  have hC : Cv z w.heap.size (w.alloc (.cells #[.float .f32 (z 0), .float .f32 (z 1), .float .f32 (z 2), .float .f32 (z 3), .float .f32 (z 4), .float .f32 (z 5), .float .f32 (z 6), .float .f32 (z 7), .float .f32 (z 8), .float .f32 (z 9), .float .f32 (z 10), .float .f32 (z 11), .float .f32 (z 12), .float .f32 (z 13), .float .f32 (z 14), .float .f32 (z 15)] 29)) := cv_new z rfl
  have hW : Below w.heap.size w (w.alloc (.cells #[.float .f32 (z 0), .float .f32 (z 1), .float .f32 (z 2), .float .f32 (z 3), .float .f32 (z 4), .float .f32 (z 5), .float .f32 (z 6), .float .f32 (z 7), .float .f32 (z 8), .float .f32 (z 9), .float .f32 (z 10), .float .f32 (z 11), .float .f32 (z 12), .float .f32 (z 13), .float .f32 (z 14), .float .f32 (z 15)] 29)) := bA (Below.refl _ _) _
  have c := hC.2 0 (by decide)
  go_enter Tryd.func32, Tryd.ntmps32
  go_wp2_with fail
  refine wp_loop_rounds 17 ?_
  rw [rounds_succ]
  go_wp2_with (go_at_call 33; refine (amount_calls (z 0) _).mono ?_; rw [p0]; rintro e w' ⟨rfl, hb⟩; have hC := cv_below hb (by assumption); have c := hC.2 1 (by decide); have hW := Below.trans (by assumption) (hb.mono (Below.size (by assumption))))
  rw [rounds_succ]
  go_wp2_with (go_at_call 33; refine (amount_calls (z 1) _).mono ?_; rw [p1]; rintro e w' ⟨rfl, hb⟩; have hC := cv_below hb (by assumption); have c := hC.2 2 (by decide); have hW := Below.trans (by assumption) (hb.mono (Below.size (by assumption))))
  rw [rounds_succ]
  go_wp2_with (go_at_call 33; refine (amount_calls (z 2) _).mono ?_; rw [p2]; rintro e w' ⟨rfl, hb⟩; have hC := cv_below hb (by assumption); have c := hC.2 3 (by decide); have hW := Below.trans (by assumption) (hb.mono (Below.size (by assumption))))
  rw [rounds_succ]
  go_wp2_with (go_at_call 33; refine (amount_calls (z 3) _).mono ?_; rw [p3]; rintro e w' ⟨rfl, hb⟩; have hC := cv_below hb (by assumption); have c := hC.2 4 (by decide); have hW := Below.trans (by assumption) (hb.mono (Below.size (by assumption))))
  rw [rounds_succ]
  go_wp2_with (go_at_call 33; refine (amount_calls (z 4) _).mono ?_; rw [p4]; rintro e w' ⟨rfl, hb⟩; have hC := cv_below hb (by assumption); have c := hC.2 5 (by decide); have hW := Below.trans (by assumption) (hb.mono (Below.size (by assumption))))
  rw [rounds_succ]
  go_wp2_with (go_at_call 33; refine (amount_calls (z 5) _).mono ?_; rw [p5]; rintro e w' ⟨rfl, hb⟩; have hC := cv_below hb (by assumption); have c := hC.2 6 (by decide); have hW := Below.trans (by assumption) (hb.mono (Below.size (by assumption))))
  rw [rounds_succ]
  go_wp2_with (go_at_call 33; refine (amount_calls (z 6) _).mono ?_; rw [p6]; rintro e w' ⟨rfl, hb⟩; have hC := cv_below hb (by assumption); have c := hC.2 7 (by decide); have hW := Below.trans (by assumption) (hb.mono (Below.size (by assumption))))
  rw [rounds_succ]
  go_wp2_with (go_at_call 33; refine (amount_calls (z 7) _).mono ?_; rw [p7]; rintro e w' ⟨rfl, hb⟩; have hC := cv_below hb (by assumption); have c := hC.2 8 (by decide); have hW := Below.trans (by assumption) (hb.mono (Below.size (by assumption))))
  rw [rounds_succ]
  go_wp2_with (go_at_call 33; refine (amount_calls (z 8) _).mono ?_; rw [p8]; rintro e w' ⟨rfl, hb⟩; have hC := cv_below hb (by assumption); have c := hC.2 9 (by decide); have hW := Below.trans (by assumption) (hb.mono (Below.size (by assumption))))
  rw [rounds_succ]
  go_wp2_with (go_at_call 33; refine (amount_calls (z 9) _).mono ?_; rw [p9]; rintro e w' ⟨rfl, hb⟩; have hC := cv_below hb (by assumption); have c := hC.2 10 (by decide); have hW := Below.trans (by assumption) (hb.mono (Below.size (by assumption))))
  rw [rounds_succ]
  go_wp2_with (go_at_call 33; refine (amount_calls (z 10) _).mono ?_; rw [p10]; rintro e w' ⟨rfl, hb⟩; have hC := cv_below hb (by assumption); have c := hC.2 11 (by decide); have hW := Below.trans (by assumption) (hb.mono (Below.size (by assumption))))
  rw [rounds_succ]
  go_wp2_with (go_at_call 33; refine (amount_calls (z 11) _).mono ?_; rw [q]; rintro e w' ⟨rfl, hb⟩; have hC := cv_below hb (by assumption); have c := hC.2 12 (by decide); have hW := Below.trans (by assumption) (hb.mono (Below.size (by assumption))))
  go_ret
  exact ⟨rfl, by assumption⟩
set_option maxHeartbeats 4000000 in
set_option maxRecDepth 100000 in
theorem am_12 (z : Nat → Nat) (w : World) (p0 : wi 0 2139095039 (z 0) = true) (p1 : wi 0 2139095039 (z 1) = true) (p2 : wi 0 2139095039 (z 2) = true) (p3 : wi 0 2139095039 (z 3) = true) (p4 : wi 0 2139095039 (z 4) = true) (p5 : wi 0 2139095039 (z 5) = true) (p6 : wi 0 2139095039 (z 6) = true) (p7 : wi 0 2139095039 (z 7) = true) (p8 : wi 0 2139095039 (z 8) = true) (p9 : wi 0 2139095039 (z 9) = true) (p10 : wi 0 2139095039 (z 10) = true) (p11 : wi 0 2139095039 (z 11) = true) (q : wi 0 2139095039 (z 12) = false) : Calls Tryd.prog 32 #[cvV z] w fun e w' => e = .returned (.bool false) ∧ Below w.heap.size w w' := by
  unfold cvV
  have hC : Cv z w.heap.size (w.alloc (.cells #[.float .f32 (z 0), .float .f32 (z 1), .float .f32 (z 2), .float .f32 (z 3), .float .f32 (z 4), .float .f32 (z 5), .float .f32 (z 6), .float .f32 (z 7), .float .f32 (z 8), .float .f32 (z 9), .float .f32 (z 10), .float .f32 (z 11), .float .f32 (z 12), .float .f32 (z 13), .float .f32 (z 14), .float .f32 (z 15)] 29)) := cv_new z rfl
  have hW : Below w.heap.size w (w.alloc (.cells #[.float .f32 (z 0), .float .f32 (z 1), .float .f32 (z 2), .float .f32 (z 3), .float .f32 (z 4), .float .f32 (z 5), .float .f32 (z 6), .float .f32 (z 7), .float .f32 (z 8), .float .f32 (z 9), .float .f32 (z 10), .float .f32 (z 11), .float .f32 (z 12), .float .f32 (z 13), .float .f32 (z 14), .float .f32 (z 15)] 29)) := bA (Below.refl _ _) _
  have c := hC.2 0 (by decide)
  go_enter Tryd.func32, Tryd.ntmps32
  go_wp2_with fail
  refine wp_loop_rounds 17 ?_
  rw [rounds_succ]
  go_wp2_with (go_at_call 33; refine (amount_calls (z 0) _).mono ?_; rw [p0]; rintro e w' ⟨rfl, hb⟩; have hC := cv_below hb (by assumption); have c := hC.2 1 (by decide); have hW := Below.trans (by assumption) (hb.mono (Below.size (by assumption))))
  rw [rounds_succ]
  go_wp2_with (go_at_call 33; refine (amount_calls (z 1) _).mono ?_; rw [p1]; rintro e w' ⟨rfl, hb⟩; have hC := cv_below hb (by assumption); have c := hC.2 2 (by decide); have hW := Below.trans (by assumption) (hb.mono (Below.size (by assumption))))
  rw [rounds_succ]
  go_wp2_with (go_at_call 33; refine (amount_calls (z 2) _).mono ?_; rw [p2]; rintro e w' ⟨rfl, hb⟩; have hC := cv_below hb (by assumption); have c := hC.2 3 (by decide); have hW := Below.trans (by assumption) (hb.mono (Below.size (by assumption))))
  rw [rounds_succ]
  go_wp2_with (go_at_call 33; refine (amount_calls (z 3) _).mono ?_; rw [p3]; rintro e w' ⟨rfl, hb⟩; have hC := cv_below hb (by assumption); have c := hC.2 4 (by decide); have hW := Below.trans (by assumption) (hb.mono (Below.size (by assumption))))
  rw [rounds_succ]
  go_wp2_with (go_at_call 33; refine (amount_calls (z 4) _).mono ?_; rw [p4]; rintro e w' ⟨rfl, hb⟩; have hC := cv_below hb (by assumption); have c := hC.2 5 (by decide); have hW := Below.trans (by assumption) (hb.mono (Below.size (by assumption))))
  rw [rounds_succ]
  go_wp2_with (go_at_call 33; refine (amount_calls (z 5) _).mono ?_; rw [p5]; rintro e w' ⟨rfl, hb⟩; have hC := cv_below hb (by assumption); have c := hC.2 6 (by decide); have hW := Below.trans (by assumption) (hb.mono (Below.size (by assumption))))
  rw [rounds_succ]
  go_wp2_with (go_at_call 33; refine (amount_calls (z 6) _).mono ?_; rw [p6]; rintro e w' ⟨rfl, hb⟩; have hC := cv_below hb (by assumption); have c := hC.2 7 (by decide); have hW := Below.trans (by assumption) (hb.mono (Below.size (by assumption))))
  rw [rounds_succ]
  go_wp2_with (go_at_call 33; refine (amount_calls (z 7) _).mono ?_; rw [p7]; rintro e w' ⟨rfl, hb⟩; have hC := cv_below hb (by assumption); have c := hC.2 8 (by decide); have hW := Below.trans (by assumption) (hb.mono (Below.size (by assumption))))
  rw [rounds_succ]
  go_wp2_with (go_at_call 33; refine (amount_calls (z 8) _).mono ?_; rw [p8]; rintro e w' ⟨rfl, hb⟩; have hC := cv_below hb (by assumption); have c := hC.2 9 (by decide); have hW := Below.trans (by assumption) (hb.mono (Below.size (by assumption))))
  rw [rounds_succ]
  go_wp2_with (go_at_call 33; refine (amount_calls (z 9) _).mono ?_; rw [p9]; rintro e w' ⟨rfl, hb⟩; have hC := cv_below hb (by assumption); have c := hC.2 10 (by decide); have hW := Below.trans (by assumption) (hb.mono (Below.size (by assumption))))
  rw [rounds_succ]
  go_wp2_with (go_at_call 33; refine (amount_calls (z 10) _).mono ?_; rw [p10]; rintro e w' ⟨rfl, hb⟩; have hC := cv_below hb (by assumption); have c := hC.2 11 (by decide); have hW := Below.trans (by assumption) (hb.mono (Below.size (by assumption))))
  rw [rounds_succ]
  go_wp2_with (go_at_call 33; refine (amount_calls (z 11) _).mono ?_; rw [p11]; rintro e w' ⟨rfl, hb⟩; have hC := cv_below hb (by assumption); have c := hC.2 12 (by decide); have hW := Below.trans (by assumption) (hb.mono (Below.size (by assumption))))
  rw [rounds_succ]
  go_wp2_with (go_at_call 33; refine (amount_calls (z 12) _).mono ?_; rw [q]; rintro e w' ⟨rfl, hb⟩; have hC := cv_below hb (by assumption); have c := hC.2 13 (by decide); have hW := Below.trans (by assumption) (hb.mono (Below.size (by assumption))))
  go_ret
  exact ⟨rfl, by assumption⟩
set_option maxHeartbeats 4000000 in
set_option maxRecDepth 100000 in
theorem am_13 (z : Nat → Nat) (w : World) (p0 : wi 0 2139095039 (z 0) = true) (p1 : wi 0 2139095039 (z 1) = true) (p2 : wi 0 2139095039 (z 2) = true) (p3 : wi 0 2139095039 (z 3) = true) (p4 : wi 0 2139095039 (z 4) = true) (p5 : wi 0 2139095039 (z 5) = true) (p6 : wi 0 2139095039 (z 6) = true) (p7 : wi 0 2139095039 (z 7) = true) (p8 : wi 0 2139095039 (z 8) = true) (p9 : wi 0 2139095039 (z 9) = true) (p10 : wi 0 2139095039 (z 10) = true) (p11 : wi 0 2139095039 (z 11) = true) (p12 : wi 0 2139095039 (z 12) = true) (q : wi 0 2139095039 (z 13) = false) : Calls Tryd.prog 32 #[cvV z] w fun e w' => e = .returned (.bool false) ∧ Below w.heap.size w w' := by
  unfold cvV
  have hC : Cv z w.heap.size (w.alloc (.cells #[.float .f32 (z 0), .float .f32 (z 1), .float .f32 (z 2), .float .f32 (z 3), .float .f32 (z 4), .float .f32 (z 5), .float .f32 (z 6), .float .f32 (z 7), .float .f32 (z 8), .float .f32 (z 9), .float .f32 (z 10), .float .f32 (z 11), .float .f32 (z 12), .float .f32 (z 13), .float .f32 (z 14), .float .f32 (z 15)] 29)) := cv_new z rfl
  have hW : Below w.heap.size w (w.alloc (.cells #[.float .f32 (z 0), .float .f32 (z 1), .float .f32 (z 2), .float .f32 (z 3), .float .f32 (z 4), .float .f32 (z 5), .float .f32 (z 6), .float .f32 (z 7), .float .f32 (z 8), .float .f32 (z 9), .float .f32 (z 10), .float .f32 (z 11), .float .f32 (z 12), .float .f32 (z 13), .float .f32 (z 14), .float .f32 (z 15)] 29)) := bA (Below.refl _ _) _
  have c := hC.2 0 (by decide)
  go_enter Tryd.func32, Tryd.ntmps32
  go_wp2_with fail
  refine wp_loop_rounds 17 ?_
  rw [rounds_succ]
  go_wp2_with (go_at_call 33; refine (amount_calls (z 0) _).mono ?_; rw [p0]; rintro e w' ⟨rfl, hb⟩; have hC := cv_below hb (by assumption); have c := hC.2 1 (by decide); have hW := Below.trans (by assumption) (hb.mono (Below.size (by assumption))))
  rw [rounds_succ]
  go_wp2_with (go_at_call 33; refine (amount_calls (z 1) _).mono ?_; rw [p1]; rintro e w' ⟨rfl, hb⟩; have hC := cv_below hb (by assumption); have c := hC.2 2 (by decide); have hW := Below.trans (by assumption) (hb.mono (Below.size (by assumption))))
  rw [rounds_succ]
  go_wp2_with (go_at_call 33; refine (amount_calls (z 2) _).mono ?_; rw [p2]; rintro e w' ⟨rfl, hb⟩; have hC := cv_below hb (by assumption); have c := hC.2 3 (by decide); have hW := Below.trans (by assumption) (hb.mono (Below.size (by assumption))))
  rw [rounds_succ]
  go_wp2_with (go_at_call 33; refine (amount_calls (z 3) _).mono ?_; rw [p3]; rintro e w' ⟨rfl, hb⟩; have hC := cv_below hb (by assumption); have c := hC.2 4 (by decide); have hW := Below.trans (by assumption) (hb.mono (Below.size (by assumption))))
  rw [rounds_succ]
  go_wp2_with (go_at_call 33; refine (amount_calls (z 4) _).mono ?_; rw [p4]; rintro e w' ⟨rfl, hb⟩; have hC := cv_below hb (by assumption); have c := hC.2 5 (by decide); have hW := Below.trans (by assumption) (hb.mono (Below.size (by assumption))))
  rw [rounds_succ]
  go_wp2_with (go_at_call 33; refine (amount_calls (z 5) _).mono ?_; rw [p5]; rintro e w' ⟨rfl, hb⟩; have hC := cv_below hb (by assumption); have c := hC.2 6 (by decide); have hW := Below.trans (by assumption) (hb.mono (Below.size (by assumption))))
  rw [rounds_succ]
  go_wp2_with (go_at_call 33; refine (amount_calls (z 6) _).mono ?_; rw [p6]; rintro e w' ⟨rfl, hb⟩; have hC := cv_below hb (by assumption); have c := hC.2 7 (by decide); have hW := Below.trans (by assumption) (hb.mono (Below.size (by assumption))))
  rw [rounds_succ]
  go_wp2_with (go_at_call 33; refine (amount_calls (z 7) _).mono ?_; rw [p7]; rintro e w' ⟨rfl, hb⟩; have hC := cv_below hb (by assumption); have c := hC.2 8 (by decide); have hW := Below.trans (by assumption) (hb.mono (Below.size (by assumption))))
  rw [rounds_succ]
  go_wp2_with (go_at_call 33; refine (amount_calls (z 8) _).mono ?_; rw [p8]; rintro e w' ⟨rfl, hb⟩; have hC := cv_below hb (by assumption); have c := hC.2 9 (by decide); have hW := Below.trans (by assumption) (hb.mono (Below.size (by assumption))))
  rw [rounds_succ]
  go_wp2_with (go_at_call 33; refine (amount_calls (z 9) _).mono ?_; rw [p9]; rintro e w' ⟨rfl, hb⟩; have hC := cv_below hb (by assumption); have c := hC.2 10 (by decide); have hW := Below.trans (by assumption) (hb.mono (Below.size (by assumption))))
  rw [rounds_succ]
  go_wp2_with (go_at_call 33; refine (amount_calls (z 10) _).mono ?_; rw [p10]; rintro e w' ⟨rfl, hb⟩; have hC := cv_below hb (by assumption); have c := hC.2 11 (by decide); have hW := Below.trans (by assumption) (hb.mono (Below.size (by assumption))))
  rw [rounds_succ]
  go_wp2_with (go_at_call 33; refine (amount_calls (z 11) _).mono ?_; rw [p11]; rintro e w' ⟨rfl, hb⟩; have hC := cv_below hb (by assumption); have c := hC.2 12 (by decide); have hW := Below.trans (by assumption) (hb.mono (Below.size (by assumption))))
  rw [rounds_succ]
  go_wp2_with (go_at_call 33; refine (amount_calls (z 12) _).mono ?_; rw [p12]; rintro e w' ⟨rfl, hb⟩; have hC := cv_below hb (by assumption); have c := hC.2 13 (by decide); have hW := Below.trans (by assumption) (hb.mono (Below.size (by assumption))))
  rw [rounds_succ]
  go_wp2_with (go_at_call 33; refine (amount_calls (z 13) _).mono ?_; rw [q]; rintro e w' ⟨rfl, hb⟩; have hC := cv_below hb (by assumption); have c := hC.2 14 (by decide); have hW := Below.trans (by assumption) (hb.mono (Below.size (by assumption))))
  go_ret
  exact ⟨rfl, by assumption⟩
set_option maxHeartbeats 4000000 in
set_option maxRecDepth 100000 in
theorem am_14 (z : Nat → Nat) (w : World) (p0 : wi 0 2139095039 (z 0) = true) (p1 : wi 0 2139095039 (z 1) = true) (p2 : wi 0 2139095039 (z 2) = true) (p3 : wi 0 2139095039 (z 3) = true) (p4 : wi 0 2139095039 (z 4) = true) (p5 : wi 0 2139095039 (z 5) = true) (p6 : wi 0 2139095039 (z 6) = true) (p7 : wi 0 2139095039 (z 7) = true) (p8 : wi 0 2139095039 (z 8) = true) (p9 : wi 0 2139095039 (z 9) = true) (p10 : wi 0 2139095039 (z 10) = true) (p11 : wi 0 2139095039 (z 11) = true) (p12 : wi 0 2139095039 (z 12) = true) (p13 : wi 0 2139095039 (z 13) = true) (q : wi 0 2139095039 (z 14) = false) : Calls Tryd.prog 32 #[cvV z] w fun e w' => e = .returned (.bool false) ∧ Below w.heap.size w w' := by
  unfold cvV
  have hC : Cv z w.heap.size (w.alloc (.cells #[.float .f32 (z 0), .float .f32 (z 1), .float .f32 (z 2), .float .f32 (z 3), .float .f32 (z 4), .float .f32 (z 5), .float .f32 (z 6), .float .f32 (z 7), .float .f32 (z 8), .float .f32 (z 9), .float .f32 (z 10), .float .f32 (z 11), .float .f32 (z 12), .float .f32 (z 13), .float .f32 (z 14), .float .f32 (z 15)] 29)) := cv_new z rfl
  have hW : Below w.heap.size w (w.alloc (.cells #[.float .f32 (z 0), .float .f32 (z 1), .float .f32 (z 2), .float .f32 (z 3), .float .f32 (z 4), .float .f32 (z 5), .float .f32 (z 6), .float .f32 (z 7), .float .f32 (z 8), .float .f32 (z 9), .float .f32 (z 10), .float .f32 (z 11), .float .f32 (z 12), .float .f32 (z 13), .float .f32 (z 14), .float .f32 (z 15)] 29)) := bA (Below.refl _ _) _
  have c := hC.2 0 (by decide)
  go_enter Tryd.func32, Tryd.ntmps32
  go_wp2_with fail
  refine wp_loop_rounds 17 ?_
  rw [rounds_succ]
  go_wp2_with (go_at_call 33; refine (amount_calls (z 0) _).mono ?_; rw [p0]; rintro e w' ⟨rfl, hb⟩; have hC := cv_below hb (by assumption); have c := hC.2 1 (by decide); have hW := Below.trans (by assumption) (hb.mono (Below.size (by assumption))))
  rw [rounds_succ]
  go_wp2_with (go_at_call 33; refine (amount_calls (z 1) _).mono ?_; rw [p1]; rintro e w' ⟨rfl, hb⟩; have hC := cv_below hb (by assumption); have c := hC.2 2 (by decide); have hW := Below.trans (by assumption) (hb.mono (Below.size (by assumption))))
  rw [rounds_succ]
  go_wp2_with (go_at_call 33; refine (amount_calls (z 2) _).mono ?_; rw [p2]; rintro e w' ⟨rfl, hb⟩; have hC := cv_below hb (by assumption); have c := hC.2 3 (by decide); have hW := Below.trans (by assumption) (hb.mono (Below.size (by assumption))))
  rw [rounds_succ]
  go_wp2_with (go_at_call 33; refine (amount_calls (z 3) _).mono ?_; rw [p3]; rintro e w' ⟨rfl, hb⟩; have hC := cv_below hb (by assumption); have c := hC.2 4 (by decide); have hW := Below.trans (by assumption) (hb.mono (Below.size (by assumption))))
  rw [rounds_succ]
  go_wp2_with (go_at_call 33; refine (amount_calls (z 4) _).mono ?_; rw [p4]; rintro e w' ⟨rfl, hb⟩; have hC := cv_below hb (by assumption); have c := hC.2 5 (by decide); have hW := Below.trans (by assumption) (hb.mono (Below.size (by assumption))))
  rw [rounds_succ]
  go_wp2_with (go_at_call 33; refine (amount_calls (z 5) _).mono ?_; rw [p5]; rintro e w' ⟨rfl, hb⟩; have hC := cv_below hb (by assumption); have c := hC.2 6 (by decide); have hW := Below.trans (by assumption) (hb.mono (Below.size (by assumption))))
  rw [rounds_succ]
  go_wp2_with (go_at_call 33; refine (amount_calls (z 6) _).mono ?_; rw [p6]; rintro e w' ⟨rfl, hb⟩; have hC := cv_below hb (by assumption); have c := hC.2 7 (by decide); have hW := Below.trans (by assumption) (hb.mono (Below.size (by assumption))))
  rw [rounds_succ]
  go_wp2_with (go_at_call 33; refine (amount_calls (z 7) _).mono ?_; rw [p7]; rintro e w' ⟨rfl, hb⟩; have hC := cv_below hb (by assumption); have c := hC.2 8 (by decide); have hW := Below.trans (by assumption) (hb.mono (Below.size (by assumption))))
  rw [rounds_succ]
  go_wp2_with (go_at_call 33; refine (amount_calls (z 8) _).mono ?_; rw [p8]; rintro e w' ⟨rfl, hb⟩; have hC := cv_below hb (by assumption); have c := hC.2 9 (by decide); have hW := Below.trans (by assumption) (hb.mono (Below.size (by assumption))))
  rw [rounds_succ]
  go_wp2_with (go_at_call 33; refine (amount_calls (z 9) _).mono ?_; rw [p9]; rintro e w' ⟨rfl, hb⟩; have hC := cv_below hb (by assumption); have c := hC.2 10 (by decide); have hW := Below.trans (by assumption) (hb.mono (Below.size (by assumption))))
  rw [rounds_succ]
  go_wp2_with (go_at_call 33; refine (amount_calls (z 10) _).mono ?_; rw [p10]; rintro e w' ⟨rfl, hb⟩; have hC := cv_below hb (by assumption); have c := hC.2 11 (by decide); have hW := Below.trans (by assumption) (hb.mono (Below.size (by assumption))))
  rw [rounds_succ]
  go_wp2_with (go_at_call 33; refine (amount_calls (z 11) _).mono ?_; rw [p11]; rintro e w' ⟨rfl, hb⟩; have hC := cv_below hb (by assumption); have c := hC.2 12 (by decide); have hW := Below.trans (by assumption) (hb.mono (Below.size (by assumption))))
  rw [rounds_succ]
  go_wp2_with (go_at_call 33; refine (amount_calls (z 12) _).mono ?_; rw [p12]; rintro e w' ⟨rfl, hb⟩; have hC := cv_below hb (by assumption); have c := hC.2 13 (by decide); have hW := Below.trans (by assumption) (hb.mono (Below.size (by assumption))))
  rw [rounds_succ]
  go_wp2_with (go_at_call 33; refine (amount_calls (z 13) _).mono ?_; rw [p13]; rintro e w' ⟨rfl, hb⟩; have hC := cv_below hb (by assumption); have c := hC.2 14 (by decide); have hW := Below.trans (by assumption) (hb.mono (Below.size (by assumption))))
  rw [rounds_succ]
  go_wp2_with (go_at_call 33; refine (amount_calls (z 14) _).mono ?_; rw [q]; rintro e w' ⟨rfl, hb⟩; have hC := cv_below hb (by assumption); have c := hC.2 15 (by decide); have hW := Below.trans (by assumption) (hb.mono (Below.size (by assumption))))
  go_ret
  exact ⟨rfl, by assumption⟩
set_option maxHeartbeats 4000000 in
set_option maxRecDepth 100000 in
theorem am_15 (z : Nat → Nat) (w : World) (p0 : wi 0 2139095039 (z 0) = true) (p1 : wi 0 2139095039 (z 1) = true) (p2 : wi 0 2139095039 (z 2) = true) (p3 : wi 0 2139095039 (z 3) = true) (p4 : wi 0 2139095039 (z 4) = true) (p5 : wi 0 2139095039 (z 5) = true) (p6 : wi 0 2139095039 (z 6) = true) (p7 : wi 0 2139095039 (z 7) = true) (p8 : wi 0 2139095039 (z 8) = true) (p9 : wi 0 2139095039 (z 9) = true) (p10 : wi 0 2139095039 (z 10) = true) (p11 : wi 0 2139095039 (z 11) = true) (p12 : wi 0 2139095039 (z 12) = true) (p13 : wi 0 2139095039 (z 13) = true) (p14 : wi 0 2139095039 (z 14) = true) (q : wi 0 2139095039 (z 15) = false) : Calls Tryd.prog 32 #[cvV z] w fun e w' => e = .returned (.bool false) ∧ Below w.heap.size w w' := by
  unfold cvV
  have hC : Cv z w.heap.size (w.alloc (.cells #[.float .f32 (z 0), .float .f32 (z 1), .float .f32 (z 2), .float .f32 (z 3), .float .f32 (z 4), .float .f32 (z 5), .float .f32 (z 6), .float .f32 (z 7), .float .f32 (z 8), .float .f32 (z 9), .float .f32 (z 10), .float .f32 (z 11), .float .f32 (z 12), .float .f32 (z 13), .float .f32 (z 14), .float .f32 (z 15)] 29)) := cv_new z rfl
  have hW : Below w.heap.size w (w.alloc (.cells #[.float .f32 (z 0), .float .f32 (z 1), .float .f32 (z 2), .float .f32 (z 3), .float .f32 (z 4), .float .f32 (z 5), .float .f32 (z 6), .float .f32 (z 7), .float .f32 (z 8), .float .f32 (z 9), .float .f32 (z 10), .float .f32 (z 11), .float .f32 (z 12), .float .f32 (z 13), .float .f32 (z 14), .float .f32 (z 15)] 29)) := bA (Below.refl _ _) _
  have c := hC.2 0 (by decide)
  go_enter Tryd.func32, Tryd.ntmps32
  go_wp2_with fail
  refine wp_loop_rounds 17 ?_
  rw [rounds_succ]
  go_wp2_with (go_at_call 33; refine (amount_calls (z 0) _).mono ?_; rw [p0]; rintro e w' ⟨rfl, hb⟩; have hC := cv_below hb (by assumption); have c := hC.2 1 (by decide); have hW := Below.trans (by assumption) (hb.mono (Below.size (by assumption))))
  rw [rounds_succ]
  go_wp2_with (go_at_call 33; refine (amount_calls (z 1) _).mono ?_; rw [p1]; rintro e w' ⟨rfl, hb⟩; have hC := cv_below hb (by assumption); have c := hC.2 2 (by decide); have hW := Below.trans (by assumption) (hb.mono (Below.size (by assumption))))
  rw [rounds_succ]
  go_wp2_with (go_at_call 33; refine (amount_calls (z 2) _).mono ?_; rw [p2]; rintro e w' ⟨rfl, hb⟩; have hC := cv_below hb (by assumption); have c := hC.2 3 (by decide); have hW := Below.trans (by assumption) (hb.mono (Below.size (by assumption))))
  rw [rounds_succ]
  go_wp2_with (go_at_call 33; refine (amount_calls (z 3) _).mono ?_; rw [p3]; rintro e w' ⟨rfl, hb⟩; have hC := cv_below hb (by assumption); have c := hC.2 4 (by decide); have hW := Below.trans (by assumption) (hb.mono (Below.size (by assumption))))
  rw [rounds_succ]
  go_wp2_with (go_at_call 33; refine (amount_calls (z 4) _).mono ?_; rw [p4]; rintro e w' ⟨rfl, hb⟩; have hC := cv_below hb (by assumption); have c := hC.2 5 (by decide); have hW := Below.trans (by assumption) (hb.mono (Below.size (by assumption))))
  rw [rounds_succ]
  go_wp2_with (go_at_call 33; refine (amount_calls (z 5) _).mono ?_; rw [p5]; rintro e w' ⟨rfl, hb⟩; have hC := cv_below hb (by assumption); have c := hC.2 6 (by decide); have hW := Below.trans (by assumption) (hb.mono (Below.size (by assumption))))
  rw [rounds_succ]
  go_wp2_with (go_at_call 33; refine (amount_calls (z 6) _).mono ?_; rw [p6]; rintro e w' ⟨rfl, hb⟩; have hC := cv_below hb (by assumption); have c := hC.2 7 (by decide); have hW := Below.trans (by assumption) (hb.mono (Below.size (by assumption))))
  rw [rounds_succ]
  go_wp2_with (go_at_call 33; refine (amount_calls (z 7) _).mono ?_; rw [p7]; rintro e w' ⟨rfl, hb⟩; have hC := cv_below hb (by assumption); have c := hC.2 8 (by decide); have hW := Below.trans (by assumption) (hb.mono (Below.size (by assumption))))
  rw [rounds_succ]
  go_wp2_with (go_at_call 33; refine (amount_calls (z 8) _).mono ?_; rw [p8]; rintro e w' ⟨rfl, hb⟩; have hC := cv_below hb (by assumption); have c := hC.2 9 (by decide); have hW := Below.trans (by assumption) (hb.mono (Below.size (by assumption))))
  rw [rounds_succ]
  go_wp2_with (go_at_call 33; refine (amount_calls (z 9) _).mono ?_; rw [p9]; rintro e w' ⟨rfl, hb⟩; have hC := cv_below hb (by assumption); have c := hC.2 10 (by decide); have hW := Below.trans (by assumption) (hb.mono (Below.size (by assumption))))
  rw [rounds_succ]
  go_wp2_with (go_at_call 33; refine (amount_calls (z 10) _).mono ?_; rw [p10]; rintro e w' ⟨rfl, hb⟩; have hC := cv_below hb (by assumption); have c := hC.2 11 (by decide); have hW := Below.trans (by assumption) (hb.mono (Below.size (by assumption))))
  rw [rounds_succ]
  go_wp2_with (go_at_call 33; refine (amount_calls (z 11) _).mono ?_; rw [p11]; rintro e w' ⟨rfl, hb⟩; have hC := cv_below hb (by assumption); have c := hC.2 12 (by decide); have hW := Below.trans (by assumption) (hb.mono (Below.size (by assumption))))
  rw [rounds_succ]
  go_wp2_with (go_at_call 33; refine (amount_calls (z 12) _).mono ?_; rw [p12]; rintro e w' ⟨rfl, hb⟩; have hC := cv_below hb (by assumption); have c := hC.2 13 (by decide); have hW := Below.trans (by assumption) (hb.mono (Below.size (by assumption))))
  rw [rounds_succ]
  go_wp2_with (go_at_call 33; refine (amount_calls (z 13) _).mono ?_; rw [p13]; rintro e w' ⟨rfl, hb⟩; have hC := cv_below hb (by assumption); have c := hC.2 14 (by decide); have hW := Below.trans (by assumption) (hb.mono (Below.size (by assumption))))
  rw [rounds_succ]
  go_wp2_with (go_at_call 33; refine (amount_calls (z 14) _).mono ?_; rw [p14]; rintro e w' ⟨rfl, hb⟩; have hC := cv_below hb (by assumption); have c := hC.2 15 (by decide); have hW := Below.trans (by assumption) (hb.mono (Below.size (by assumption))))
  rw [rounds_succ]
  go_wp2_with (go_at_call 33; refine (amount_calls (z 15) _).mono ?_; rw [q]; rintro e w' ⟨rfl, hb⟩; have hC := cv_below hb (by assumption); have hW := Below.trans (by assumption) (hb.mono (Below.size (by assumption))))
  go_ret
  exact ⟨rfl, by assumption⟩
set_option maxHeartbeats 4000000 in
set_option maxRecDepth 100000 in
theorem am_16 (z : Nat → Nat) (w : World) (p0 : wi 0 2139095039 (z 0) = true) (p1 : wi 0 2139095039 (z 1) = true) (p2 : wi 0 2139095039 (z 2) = true) (p3 : wi 0 2139095039 (z 3) = true) (p4 : wi 0 2139095039 (z 4) = true) (p5 : wi 0 2139095039 (z 5) = true) (p6 : wi 0 2139095039 (z 6) = true) (p7 : wi 0 2139095039 (z 7) = true) (p8 : wi 0 2139095039 (z 8) = true) (p9 : wi 0 2139095039 (z 9) = true) (p10 : wi 0 2139095039 (z 10) = true) (p11 : wi 0 2139095039 (z 11) = true) (p12 : wi 0 2139095039 (z 12) = true) (p13 : wi 0 2139095039 (z 13) = true) (p14 : wi 0 2139095039 (z 14) = true) (p15 : wi 0 2139095039 (z 15) = true) : Calls Tryd.prog 32 #[cvV z] w fun e w' => e = .returned (.bool true) ∧ Below w.heap.size w w' := by
  unfold cvV
  have hC : Cv z w.heap.size (w.alloc (.cells #[.float .f32 (z 0), .float .f32 (z 1), .float .f32 (z 2), .float .f32 (z 3), .float .f32 (z 4), .float .f32 (z 5), .float .f32 (z 6), .float .f32 (z 7), .float .f32 (z 8), .float .f32 (z 9), .float .f32 (z 10), .float .f32 (z 11), .float .f32 (z 12), .float .f32 (z 13), .float .f32 (z 14), .float .f32 (z 15)] 29)) := cv_new z rfl
  have hW : Below w.heap.size w (w.alloc (.cells #[.float .f32 (z 0), .float .f32 (z 1), .float .f32 (z 2), .float .f32 (z 3), .float .f32 (z 4), .float .f32 (z 5), .float .f32 (z 6), .float .f32 (z 7), .float .f32 (z 8), .float .f32 (z 9), .float .f32 (z 10), .float .f32 (z 11), .float .f32 (z 12), .float .f32 (z 13), .float .f32 (z 14), .float .f32 (z 15)] 29)) := bA (Below.refl _ _) _
  have c := hC.2 0 (by decide)
  go_enter Tryd.func32, Tryd.ntmps32
  go_wp2_with fail
  refine wp_loop_rounds 17 ?_
  rw [rounds_succ]
  go_wp2_with (go_at_call 33; refine (amount_calls (z 0) _).mono ?_; rw [p0]; rintro e w' ⟨rfl, hb⟩; have hC := cv_below hb (by assumption); have c := hC.2 1 (by decide); have hW := Below.trans (by assumption) (hb.mono (Below.size (by assumption))))
  rw [rounds_succ]
  go_wp2_with (go_at_call 33; refine (amount_calls (z 1) _).mono ?_; rw [p1]; rintro e w' ⟨rfl, hb⟩; have hC := cv_below hb (by assumption); have c := hC.2 2 (by decide); have hW := Below.trans (by assumption) (hb.mono (Below.size (by assumption))))
  rw [rounds_succ]
  go_wp2_with (go_at_call 33; refine (amount_calls (z 2) _).mono ?_; rw [p2]; rintro e w' ⟨rfl, hb⟩; have hC := cv_below hb (by assumption); have c := hC.2 3 (by decide); have hW := Below.trans (by assumption) (hb.mono (Below.size (by assumption))))
  rw [rounds_succ]
  go_wp2_with (go_at_call 33; refine (amount_calls (z 3) _).mono ?_; rw [p3]; rintro e w' ⟨rfl, hb⟩; have hC := cv_below hb (by assumption); have c := hC.2 4 (by decide); have hW := Below.trans (by assumption) (hb.mono (Below.size (by assumption))))
  rw [rounds_succ]
  go_wp2_with (go_at_call 33; refine (amount_calls (z 4) _).mono ?_; rw [p4]; rintro e w' ⟨rfl, hb⟩; have hC := cv_below hb (by assumption); have c := hC.2 5 (by decide); have hW := Below.trans (by assumption) (hb.mono (Below.size (by assumption))))
  rw [rounds_succ]
  go_wp2_with (go_at_call 33; refine (amount_calls (z 5) _).mono ?_; rw [p5]; rintro e w' ⟨rfl, hb⟩; have hC := cv_below hb (by assumption); have c := hC.2 6 (by decide); have hW := Below.trans (by assumption) (hb.mono (Below.size (by assumption))))
  rw [rounds_succ]
  go_wp2_with (go_at_call 33; refine (amount_calls (z 6) _).mono ?_; rw [p6]; rintro e w' ⟨rfl, hb⟩; have hC := cv_below hb (by assumption); have c := hC.2 7 (by decide); have hW := Below.trans (by assumption) (hb.mono (Below.size (by assumption))))
  rw [rounds_succ]
  go_wp2_with (go_at_call 33; refine (amount_calls (z 7) _).mono ?_; rw [p7]; rintro e w' ⟨rfl, hb⟩; have hC := cv_below hb (by assumption); have c := hC.2 8 (by decide); have hW := Below.trans (by assumption) (hb.mono (Below.size (by assumption))))
  rw [rounds_succ]
  go_wp2_with (go_at_call 33; refine (amount_calls (z 8) _).mono ?_; rw [p8]; rintro e w' ⟨rfl, hb⟩; have hC := cv_below hb (by assumption); have c := hC.2 9 (by decide); have hW := Below.trans (by assumption) (hb.mono (Below.size (by assumption))))
  rw [rounds_succ]
  go_wp2_with (go_at_call 33; refine (amount_calls (z 9) _).mono ?_; rw [p9]; rintro e w' ⟨rfl, hb⟩; have hC := cv_below hb (by assumption); have c := hC.2 10 (by decide); have hW := Below.trans (by assumption) (hb.mono (Below.size (by assumption))))
  rw [rounds_succ]
  go_wp2_with (go_at_call 33; refine (amount_calls (z 10) _).mono ?_; rw [p10]; rintro e w' ⟨rfl, hb⟩; have hC := cv_below hb (by assumption); have c := hC.2 11 (by decide); have hW := Below.trans (by assumption) (hb.mono (Below.size (by assumption))))
  rw [rounds_succ]
  go_wp2_with (go_at_call 33; refine (amount_calls (z 11) _).mono ?_; rw [p11]; rintro e w' ⟨rfl, hb⟩; have hC := cv_below hb (by assumption); have c := hC.2 12 (by decide); have hW := Below.trans (by assumption) (hb.mono (Below.size (by assumption))))
  rw [rounds_succ]
  go_wp2_with (go_at_call 33; refine (amount_calls (z 12) _).mono ?_; rw [p12]; rintro e w' ⟨rfl, hb⟩; have hC := cv_below hb (by assumption); have c := hC.2 13 (by decide); have hW := Below.trans (by assumption) (hb.mono (Below.size (by assumption))))
  rw [rounds_succ]
  go_wp2_with (go_at_call 33; refine (amount_calls (z 13) _).mono ?_; rw [p13]; rintro e w' ⟨rfl, hb⟩; have hC := cv_below hb (by assumption); have c := hC.2 14 (by decide); have hW := Below.trans (by assumption) (hb.mono (Below.size (by assumption))))
  rw [rounds_succ]
  go_wp2_with (go_at_call 33; refine (amount_calls (z 14) _).mono ?_; rw [p14]; rintro e w' ⟨rfl, hb⟩; have hC := cv_below hb (by assumption); have c := hC.2 15 (by decide); have hW := Below.trans (by assumption) (hb.mono (Below.size (by assumption))))
  rw [rounds_succ]
  go_wp2_with (go_at_call 33; refine (amount_calls (z 15) _).mono ?_; rw [p15]; rintro e w' ⟨rfl, hb⟩; have hC := cv_below hb (by assumption); have hW := Below.trans (by assumption) (hb.mono (Below.size (by assumption))))
  rw [rounds_succ]
  go_wp2_with fail
  go_ret
  exact ⟨rfl, by assumption⟩
theorem amounts_calls (z : Nat → Nat) (w : World) : Calls Tryd.prog 32 #[cvV z] w fun e w' => e = .returned (.bool (all16 fun i => wi 0 2139095039 (z i))) ∧ Below w.heap.size w w' := by
  unfold all16
  cases p0 : wi 0 2139095039 (z 0) with
  | false => simpa only [p0, Bool.true_and, Bool.false_and] using am_0 z w  p0
  | true =>
  cases p1 : wi 0 2139095039 (z 1) with
  | false => simpa only [p0, p1, Bool.true_and, Bool.false_and] using am_1 z w p0 p1
  | true =>
  cases p2 : wi 0 2139095039 (z 2) with
  | false => simpa only [p0, p1, p2, Bool.true_and, Bool.false_and] using am_2 z w p0 p1 p2
  | true =>
  cases p3 : wi 0 2139095039 (z 3) with
  | false => simpa only [p0, p1, p2, p3, Bool.true_and, Bool.false_and] using am_3 z w p0 p1 p2 p3
  | true =>
  cases p4 : wi 0 2139095039 (z 4) with
  | false => simpa only [p0, p1, p2, p3, p4, Bool.true_and, Bool.false_and] using am_4 z w p0 p1 p2 p3 p4
  | true =>
  cases p5 : wi 0 2139095039 (z 5) with
  | false => simpa only [p0, p1, p2, p3, p4, p5, Bool.true_and, Bool.false_and] using am_5 z w p0 p1 p2 p3 p4 p5
  | true =>
  cases p6 : wi 0 2139095039 (z 6) with
  | false => simpa only [p0, p1, p2, p3, p4, p5, p6, Bool.true_and, Bool.false_and] using am_6 z w p0 p1 p2 p3 p4 p5 p6
  | true =>
  cases p7 : wi 0 2139095039 (z 7) with
  | false => simpa only [p0, p1, p2, p3, p4, p5, p6, p7, Bool.true_and, Bool.false_and] using am_7 z w p0 p1 p2 p3 p4 p5 p6 p7
  | true =>
  cases p8 : wi 0 2139095039 (z 8) with
  | false => simpa only [p0, p1, p2, p3, p4, p5, p6, p7, p8, Bool.true_and, Bool.false_and] using am_8 z w p0 p1 p2 p3 p4 p5 p6 p7 p8
  | true =>
  cases p9 : wi 0 2139095039 (z 9) with
  | false => simpa only [p0, p1, p2, p3, p4, p5, p6, p7, p8, p9, Bool.true_and, Bool.false_and] using am_9 z w p0 p1 p2 p3 p4 p5 p6 p7 p8 p9
  | true =>
  cases p10 : wi 0 2139095039 (z 10) with
  | false => simpa only [p0, p1, p2, p3, p4, p5, p6, p7, p8, p9, p10, Bool.true_and, Bool.false_and] using am_10 z w p0 p1 p2 p3 p4 p5 p6 p7 p8 p9 p10
  | true =>
  cases p11 : wi 0 2139095039 (z 11) with
  | false => simpa only [p0, p1, p2, p3, p4, p5, p6, p7, p8, p9, p10, p11, Bool.true_and, Bool.false_and] using am_11 z w p0 p1 p2 p3 p4 p5 p6 p7 p8 p9 p10 p11
  | true =>
  cases p12 : wi 0 2139095039 (z 12) with
  | false => simpa only [p0, p1, p2, p3, p4, p5, p6, p7, p8, p9, p10, p11, p12, Bool.true_and, Bool.false_and] using am_12 z w p0 p1 p2 p3 p4 p5 p6 p7 p8 p9 p10 p11 p12
  | true =>
  cases p13 : wi 0 2139095039 (z 13) with
  | false => simpa only [p0, p1, p2, p3, p4, p5, p6, p7, p8, p9, p10, p11, p12, p13, Bool.true_and, Bool.false_and] using am_13 z w p0 p1 p2 p3 p4 p5 p6 p7 p8 p9 p10 p11 p12 p13
  | true =>
  cases p14 : wi 0 2139095039 (z 14) with
  | false => simpa only [p0, p1, p2, p3, p4, p5, p6, p7, p8, p9, p10, p11, p12, p13, p14, Bool.true_and, Bool.false_and] using am_14 z w p0 p1 p2 p3 p4 p5 p6 p7 p8 p9 p10 p11 p12 p13 p14
  | true =>
  cases p15 : wi 0 2139095039 (z 15) with
  | false => simpa only [p0, p1, p2, p3, p4, p5, p6, p7, p8, p9, p10, p11, p12, p13, p14, p15, Bool.true_and, Bool.false_and] using am_15 z w p0 p1 p2 p3 p4 p5 p6 p7 p8 p9 p10 p11 p12 p13 p14 p15
  | true =>
  simpa only [p0, p1, p2, p3, p4, p5, p6, p7, p8, p9, p10, p11, p12, p13, p14, p15, Bool.true_and, Bool.and_true] using am_16 z w p0 p1 p2 p3 p4 p5 p6 p7 p8 p9 p10 p11 p12 p13 p14 p15
end Ty
end Go.Proofs.YtbidagapkcmfnaaDoor
end
