/-
  Drops: are they counts; the library's numbers. No condition.
-/
import Derived.Test.YtjbbljlefmgieaaDoorTb
noncomputable section
namespace Go.Proofs.YtjbbljlefmgieaaDoor
namespace Tx
open Go Go.RowKit
theorem itoa_calls (n : Int) (w : World) (h0 : 0 ≤ n) (h1 : n ≤ 1000000000000) (ht : TabOk w) : Calls Tryd.prog 44 #[.int .i64 n] w fun e w' => e = .returned (.string (decB n.toNat)) ∧ Below w.heap.size w w' := by
  refine (Tryd.strconv_Itoa n (by omega) (by omega) w ht).mono fun e w' ⟨he, k, os, hw⟩ => ⟨?_, ?_⟩
  · rw [he]
    unfold decB Lib.itoa
    rw [if_neg (by omega)]
  · rw [hw]
    exact below_grow w k os
set_option maxHeartbeats 2000000 in
set_option maxRecDepth 100000 in
theorem ac_true (n0 n1 n2 n3 n4 n5 : Int) (b : Nat) (w : World) (hb : b < w.heap.size) (c0 : w.cell? ⟨b, 0, none⟩ = some (.int .i16 n0)) (c1 : w.cell? ⟨b, 1, none⟩ = some (.int .i16 n1)) (c2 : w.cell? ⟨b, 2, none⟩ = some (.int .i16 n2)) (c3 : w.cell? ⟨b, 3, none⟩ = some (.int .i16 n3)) (c4 : w.cell? ⟨b, 4, none⟩ = some (.int .i16 n4)) (c5 : w.cell? ⟨b, 5, none⟩ = some (.int .i16 n5)) (h0 : 0 ≤ n0) (k0 : n0 ≤ 1000) (h1 : 0 ≤ n1) (k1 : n1 ≤ 1000) (h2 : 0 ≤ n2) (k2 : n2 ≤ 1000) (h3 : 0 ≤ n3) (k3 : n3 ≤ 1000) (h4 : 0 ≤ n4) (k4 : n4 ≤ 1000) (h5 : 0 ≤ n5) (k5 : n5 ≤ 1000) :
    Calls Tryd.prog 43 #[.slice (some ⟨b, 0, none⟩) 6 6, .int .i16 1000] w fun e w' => e = .returned (.bool true) ∧ w' = w.alloc (.cells #[.int .i16 1000] 28) := by
  have q0 : ∀ o, (w.alloc o).cell? ⟨b, 0, none⟩ = some (.int .i16 n0) := fun o => (World.cell?_alloc_lt w o _ hb).trans c0
  have q1 : ∀ o, (w.alloc o).cell? ⟨b, 1, none⟩ = some (.int .i16 n1) := fun o => (World.cell?_alloc_lt w o _ hb).trans c1
  have q2 : ∀ o, (w.alloc o).cell? ⟨b, 2, none⟩ = some (.int .i16 n2) := fun o => (World.cell?_alloc_lt w o _ hb).trans c2
  have q3 : ∀ o, (w.alloc o).cell? ⟨b, 3, none⟩ = some (.int .i16 n3) := fun o => (World.cell?_alloc_lt w o _ hb).trans c3
  have q4 : ∀ o, (w.alloc o).cell? ⟨b, 4, none⟩ = some (.int .i16 n4) := fun o => (World.cell?_alloc_lt w o _ hb).trans c4
  have q5 : ∀ o, (w.alloc o).cell? ⟨b, 5, none⟩ = some (.int .i16 n5) := fun o => (World.cell?_alloc_lt w o _ hb).trans c5
  go_enter Tryd.func43, Tryd.ntmps43
  go_wp2
  refine wp_loop_rounds 7 ?_
  rw [rounds_succ]
  go_wp2
  rw [rounds_succ]
  go_wp2
  rw [rounds_succ]
  go_wp2
  rw [rounds_succ]
  go_wp2
  rw [rounds_succ]
  go_wp2
  rw [rounds_succ]
  go_wp2
  rw [rounds_succ]
  go_wp2
  go_ret
  exact ⟨rfl, rfl⟩
set_option maxHeartbeats 2000000 in
set_option maxRecDepth 100000 in
theorem ac_0l (n0 : Int) (b : Nat) (w : World) (hb : b < w.heap.size) (c0 : w.cell? ⟨b, 0, none⟩ = some (.int .i16 n0))  (hx : n0 < 0) :
    Calls Tryd.prog 43 #[.slice (some ⟨b, 0, none⟩) 6 6, .int .i16 1000] w fun e w' => e = .returned (.bool false) ∧ w' = w.alloc (.cells #[.int .i16 1000] 28) := by
  have q0 : ∀ o, (w.alloc o).cell? ⟨b, 0, none⟩ = some (.int .i16 n0) := fun o => (World.cell?_alloc_lt w o _ hb).trans c0
  go_enter Tryd.func43, Tryd.ntmps43
  go_wp2
  refine wp_loop_rounds 7 ?_
  rw [rounds_succ]
  go_wp2
  go_ret
  exact ⟨rfl, rfl⟩
set_option maxHeartbeats 2000000 in
set_option maxRecDepth 100000 in
theorem ac_0h (n0 : Int) (b : Nat) (w : World) (hb : b < w.heap.size) (c0 : w.cell? ⟨b, 0, none⟩ = some (.int .i16 n0))  (hy : 0 ≤ n0) (hx : 1000 < n0) :
    Calls Tryd.prog 43 #[.slice (some ⟨b, 0, none⟩) 6 6, .int .i16 1000] w fun e w' => e = .returned (.bool false) ∧ w' = w.alloc (.cells #[.int .i16 1000] 28) := by
  have q0 : ∀ o, (w.alloc o).cell? ⟨b, 0, none⟩ = some (.int .i16 n0) := fun o => (World.cell?_alloc_lt w o _ hb).trans c0
  go_enter Tryd.func43, Tryd.ntmps43
  go_wp2
  refine wp_loop_rounds 7 ?_
  rw [rounds_succ]
  go_wp2
  go_ret
  exact ⟨rfl, rfl⟩
set_option maxHeartbeats 2000000 in
set_option maxRecDepth 100000 in
theorem ac_1l (n0 n1 : Int) (b : Nat) (w : World) (hb : b < w.heap.size) (c0 : w.cell? ⟨b, 0, none⟩ = some (.int .i16 n0)) (c1 : w.cell? ⟨b, 1, none⟩ = some (.int .i16 n1)) (h0 : 0 ≤ n0) (k0 : n0 ≤ 1000) (hx : n1 < 0) :
    Calls Tryd.prog 43 #[.slice (some ⟨b, 0, none⟩) 6 6, .int .i16 1000] w fun e w' => e = .returned (.bool false) ∧ w' = w.alloc (.cells #[.int .i16 1000] 28) := by
  have q0 : ∀ o, (w.alloc o).cell? ⟨b, 0, none⟩ = some (.int .i16 n0) := fun o => (World.cell?_alloc_lt w o _ hb).trans c0
  have q1 : ∀ o, (w.alloc o).cell? ⟨b, 1, none⟩ = some (.int .i16 n1) := fun o => (World.cell?_alloc_lt w o _ hb).trans c1
  go_enter Tryd.func43, Tryd.ntmps43
  go_wp2
  refine wp_loop_rounds 7 ?_
  rw [rounds_succ]
  go_wp2
  rw [rounds_succ]
  go_wp2
  go_ret
  exact ⟨rfl, rfl⟩
set_option maxHeartbeats 2000000 in
set_option maxRecDepth 100000 in
theorem ac_1h (n0 n1 : Int) (b : Nat) (w : World) (hb : b < w.heap.size) (c0 : w.cell? ⟨b, 0, none⟩ = some (.int .i16 n0)) (c1 : w.cell? ⟨b, 1, none⟩ = some (.int .i16 n1)) (h0 : 0 ≤ n0) (k0 : n0 ≤ 1000) (hy : 0 ≤ n1) (hx : 1000 < n1) :
    Calls Tryd.prog 43 #[.slice (some ⟨b, 0, none⟩) 6 6, .int .i16 1000] w fun e w' => e = .returned (.bool false) ∧ w' = w.alloc (.cells #[.int .i16 1000] 28) := by
  have q0 : ∀ o, (w.alloc o).cell? ⟨b, 0, none⟩ = some (.int .i16 n0) := fun o => (World.cell?_alloc_lt w o _ hb).trans c0
  have q1 : ∀ o, (w.alloc o).cell? ⟨b, 1, none⟩ = some (.int .i16 n1) := fun o => (World.cell?_alloc_lt w o _ hb).trans c1
  go_enter Tryd.func43, Tryd.ntmps43
  go_wp2
  refine wp_loop_rounds 7 ?_
  rw [rounds_succ]
  go_wp2
  rw [rounds_succ]
  go_wp2
  go_ret
  exact ⟨rfl, rfl⟩
set_option maxHeartbeats 2000000 in
set_option maxRecDepth 100000 in
theorem ac_2l (n0 n1 n2 : Int) (b : Nat) (w : World) (hb : b < w.heap.size) (c0 : w.cell? ⟨b, 0, none⟩ = some (.int .i16 n0)) (c1 : w.cell? ⟨b, 1, none⟩ = some (.int .i16 n1)) (c2 : w.cell? ⟨b, 2, none⟩ = some (.int .i16 n2)) (h0 : 0 ≤ n0) (k0 : n0 ≤ 1000) (h1 : 0 ≤ n1) (k1 : n1 ≤ 1000) (hx : n2 < 0) :
    Calls Tryd.prog 43 #[.slice (some ⟨b, 0, none⟩) 6 6, .int .i16 1000] w fun e w' => e = .returned (.bool false) ∧ w' = w.alloc (.cells #[.int .i16 1000] 28) := by
  have q0 : ∀ o, (w.alloc o).cell? ⟨b, 0, none⟩ = some (.int .i16 n0) := fun o => (World.cell?_alloc_lt w o _ hb).trans c0
  have q1 : ∀ o, (w.alloc o).cell? ⟨b, 1, none⟩ = some (.int .i16 n1) := fun o => (World.cell?_alloc_lt w o _ hb).trans c1
  have q2 : ∀ o, (w.alloc o).cell? ⟨b, 2, none⟩ = some (.int .i16 n2) := fun o => (World.cell?_alloc_lt w o _ hb).trans c2
  go_enter Tryd.func43, Tryd.ntmps43
  go_wp2
  refine wp_loop_rounds 7 ?_
  rw [rounds_succ]
  go_wp2
  rw [rounds_succ]
  go_wp2
  rw [rounds_succ]
  go_wp2
  go_ret
  exact ⟨rfl, rfl⟩
set_option maxHeartbeats 2000000 in
set_option maxRecDepth 100000 in
theorem ac_2h (n0 n1 n2 : Int) (b : Nat) (w : World) (hb : b < w.heap.size) (c0 : w.cell? ⟨b, 0, none⟩ = some (.int .i16 n0)) (c1 : w.cell? ⟨b, 1, none⟩ = some (.int .i16 n1)) (c2 : w.cell? ⟨b, 2, none⟩ = some (.int .i16 n2)) (h0 : 0 ≤ n0) (k0 : n0 ≤ 1000) (h1 : 0 ≤ n1) (k1 : n1 ≤ 1000) (hy : 0 ≤ n2) (hx : 1000 < n2) :
    Calls Tryd.prog 43 #[.slice (some ⟨b, 0, none⟩) 6 6, .int .i16 1000] w fun e w' => e = .returned (.bool false) ∧ w' = w.alloc (.cells #[.int .i16 1000] 28) := by
  have q0 : ∀ o, (w.alloc o).cell? ⟨b, 0, none⟩ = some (.int .i16 n0) := fun o => (World.cell?_alloc_lt w o _ hb).trans c0
  have q1 : ∀ o, (w.alloc o).cell? ⟨b, 1, none⟩ = some (.int .i16 n1) := fun o => (World.cell?_alloc_lt w o _ hb).trans c1
  have q2 : ∀ o, (w.alloc o).cell? ⟨b, 2, none⟩ = some (.int .i16 n2) := fun o => (World.cell?_alloc_lt w o _ hb).trans c2
  go_enter Tryd.func43, Tryd.ntmps43
  go_wp2
  refine wp_loop_rounds 7 ?_
  rw [rounds_succ]
  go_wp2
  rw [rounds_succ]
  go_wp2
  rw [rounds_succ]
  go_wp2
  go_ret
  exact ⟨rfl, rfl⟩
set_option maxHeartbeats 2000000 in
set_option maxRecDepth 100000 in
theorem ac_3l (n0 n1 n2 n3 : Int) (b : Nat) (w : World) (hb : b < w.heap.size) (c0 : w.cell? ⟨b, 0, none⟩ = some (.int .i16 n0)) (c1 : w.cell? ⟨b, 1, none⟩ = some (.int .i16 n1)) (c2 : w.cell? ⟨b, 2, none⟩ = some (.int .i16 n2)) (c3 : w.cell? ⟨b, 3, none⟩ = some (.int .i16 n3)) (h0 : 0 ≤ n0) (k0 : n0 ≤ 1000) (h1 : 0 ≤ n1) (k1 : n1 ≤ 1000) (h2 : 0 ≤ n2) (k2 : n2 ≤ 1000) (hx : n3 < 0) :
    Calls Tryd.prog 43 #[.slice (some ⟨b, 0, none⟩) 6 6, .int .i16 1000] w fun e w' => e = .returned (.bool false) ∧ w' = w.alloc (.cells #[.int .i16 1000] 28) := by
  have q0 : ∀ o, (w.alloc o).cell? ⟨b, 0, none⟩ = some (.int .i16 n0) := fun o => (World.cell?_alloc_lt w o _ hb).trans c0
  have q1 : ∀ o, (w.alloc o).cell? ⟨b, 1, none⟩ = some (.int .i16 n1) := fun o => (World.cell?_alloc_lt w o _ hb).trans c1
  have q2 : ∀ o, (w.alloc o).cell? ⟨b, 2, none⟩ = some (.int .i16 n2) := fun o => (World.cell?_alloc_lt w o _ hb).trans c2
  have q3 : ∀ o, (w.alloc o).cell? ⟨b, 3, none⟩ = some (.int .i16 n3) := fun o => (World.cell?_alloc_lt w o _ hb).trans c3
  go_enter Tryd.func43, Tryd.ntmps43
  go_wp2
  refine wp_loop_rounds 7 ?_
  rw [rounds_succ]
  go_wp2
  rw [rounds_succ]
  go_wp2
  rw [rounds_succ]
  go_wp2
  rw [rounds_succ]
  go_wp2
  go_ret
  exact ⟨rfl, rfl⟩
set_option maxHeartbeats 2000000 in
set_option maxRecDepth 100000 in
theorem ac_3h (n0 n1 n2 n3 : Int) (b : Nat) (w : World) (hb : b < w.heap.size) (c0 : w.cell? ⟨b, 0, none⟩ = some (.int .i16 n0)) (c1 : w.cell? ⟨b, 1, none⟩ = some (.int .i16 n1)) (c2 : w.cell? ⟨b, 2, none⟩ = some (.int .i16 n2)) (c3 : w.cell? ⟨b, 3, none⟩ = some (.int .i16 n3)) (h0 : 0 ≤ n0) (k0 : n0 ≤ 1000) (h1 : 0 ≤ n1) (k1 : n1 ≤ 1000) (h2 : 0 ≤ n2) (k2 : n2 ≤ 1000) (hy : 0 ≤ n3) (hx : 1000 < n3) :
    Calls Tryd.prog 43 #[.slice (some ⟨b, 0, none⟩) 6 6, .int .i16 1000] w fun e w' => e = .returned (.bool false) ∧ w' = w.alloc (.cells #[.int .i16 1000] 28) := by
  have q0 : ∀ o, (w.alloc o).cell? ⟨b, 0, none⟩ = some (.int .i16 n0) := fun o => (World.cell?_alloc_lt w o _ hb).trans c0
  have q1 : ∀ o, (w.alloc o).cell? ⟨b, 1, none⟩ = some (.int .i16 n1) := fun o => (World.cell?_alloc_lt w o _ hb).trans c1
  have q2 : ∀ o, (w.alloc o).cell? ⟨b, 2, none⟩ = some (.int .i16 n2) := fun o => (World.cell?_alloc_lt w o _ hb).trans c2
  have q3 : ∀ o, (w.alloc o).cell? ⟨b, 3, none⟩ = some (.int .i16 n3) := fun o => (World.cell?_alloc_lt w o _ hb).trans c3
  go_enter Tryd.func43, Tryd.ntmps43
  go_wp2
  refine wp_loop_rounds 7 ?_
  rw [rounds_succ]
  go_wp2
  rw [rounds_succ]
  go_wp2
  rw [rounds_succ]
  go_wp2
  rw [rounds_succ]
  go_wp2
  go_ret
  exact ⟨rfl, rfl⟩
set_option maxHeartbeats 2000000 in
set_option maxRecDepth 100000 in
theorem ac_4l (n0 n1 n2 n3 n4 : Int) (b : Nat) (w : World) (hb : b < w.heap.size) (c0 : w.cell? ⟨b, 0, none⟩ = some (.int .i16 n0)) (c1 : w.cell? ⟨b, 1, none⟩ = some (.int .i16 n1)) (c2 : w.cell? ⟨b, 2, none⟩ = some (.int .i16 n2)) (c3 : w.cell? ⟨b, 3, none⟩ = some (.int .i16 n3)) (c4 : w.cell? ⟨b, 4, none⟩ = some (.int .i16 n4)) (h0 : 0 ≤ n0) (k0 : n0 ≤ 1000) (h1 : 0 ≤ n1) (k1 : n1 ≤ 1000) (h2 : 0 ≤ n2) (k2 : n2 ≤ 1000) (h3 : 0 ≤ n3) (k3 : n3 ≤ 1000) (hx : n4 < 0) :
    Calls Tryd.prog 43 #[.slice (some ⟨b, 0, none⟩) 6 6, .int .i16 1000] w fun e w' => e = .returned (.bool false) ∧ w' = w.alloc (.cells #[.int .i16 1000] 28) := by
  have q0 : ∀ o, (w.alloc o).cell? ⟨b, 0, none⟩ = some (.int .i16 n0) := fun o => (World.cell?_alloc_lt w o _ hb).trans c0
  have q1 : ∀ o, (w.alloc o).cell? ⟨b, 1, none⟩ = some (.int .i16 n1) := fun o => (World.cell?_alloc_lt w o _ hb).trans c1
  have q2 : ∀ o, (w.alloc o).cell? ⟨b, 2, none⟩ = some (.int .i16 n2) := fun o => (World.cell?_alloc_lt w o _ hb).trans c2
  have q3 : ∀ o, (w.alloc o).cell? ⟨b, 3, none⟩ = some (.int .i16 n3) := fun o => (World.cell?_alloc_lt w o _ hb).trans c3
  have q4 : ∀ o, (w.alloc o).cell? ⟨b, 4, none⟩ = some (.int .i16 n4) := fun o => (World.cell?_alloc_lt w o _ hb).trans c4
  go_enter Tryd.func43, Tryd.ntmps43
  go_wp2
  refine wp_loop_rounds 7 ?_
  rw [rounds_succ]
  go_wp2
  rw [rounds_succ]
  go_wp2
  rw [rounds_succ]
  go_wp2
  rw [rounds_succ]
  go_wp2
  rw [rounds_succ]
  go_wp2
  go_ret
  exact ⟨rfl, rfl⟩
set_option maxHeartbeats 2000000 in
set_option maxRecDepth 100000 in
theorem ac_4h (n0 n1 n2 n3 n4 : Int) (b : Nat) (w : World) (hb : b < w.heap.size) (c0 : w.cell? ⟨b, 0, none⟩ = some (.int .i16 n0)) (c1 : w.cell? ⟨b, 1, none⟩ = some (.int .i16 n1)) (c2 : w.cell? ⟨b, 2, none⟩ = some (.int .i16 n2)) (c3 : w.cell? ⟨b, 3, none⟩ = some (.int .i16 n3)) (c4 : w.cell? ⟨b, 4, none⟩ = some (.int .i16 n4)) (h0 : 0 ≤ n0) (k0 : n0 ≤ 1000) (h1 : 0 ≤ n1) (k1 : n1 ≤ 1000) (h2 : 0 ≤ n2) (k2 : n2 ≤ 1000) (h3 : 0 ≤ n3) (k3 : n3 ≤ 1000) (hy : 0 ≤ n4) (hx : 1000 < n4) :
    Calls Tryd.prog 43 #[.slice (some ⟨b, 0, none⟩) 6 6, .int .i16 1000] w fun e w' => e = .returned (.bool false) ∧ w' = w.alloc (.cells #[.int .i16 1000] 28) := by
  have q0 : ∀ o, (w.alloc o).cell? ⟨b, 0, none⟩ = some (.int .i16 n0) := fun o => (World.cell?_alloc_lt w o _ hb).trans c0
  have q1 : ∀ o, (w.alloc o).cell? ⟨b, 1, none⟩ = some (.int .i16 n1) := fun o => (World.cell?_alloc_lt w o _ hb).trans c1
  have q2 : ∀ o, (w.alloc o).cell? ⟨b, 2, none⟩ = some (.int .i16 n2) := fun o => (World.cell?_alloc_lt w o _ hb).trans c2
  have q3 : ∀ o, (w.alloc o).cell? ⟨b, 3, none⟩ = some (.int .i16 n3) := fun o => (World.cell?_alloc_lt w o _ hb).trans c3
  have q4 : ∀ o, (w.alloc o).cell? ⟨b, 4, none⟩ = some (.int .i16 n4) := fun o => (World.cell?_alloc_lt w o _ hb).trans c4
  go_enter Tryd.func43, Tryd.ntmps43
  go_wp2
  refine wp_loop_rounds 7 ?_
  rw [rounds_succ]
  go_wp2
  rw [rounds_succ]
  go_wp2
  rw [rounds_succ]
  go_wp2
  rw [rounds_succ]
  go_wp2
  rw [rounds_succ]
  go_wp2
  go_ret
  exact ⟨rfl, rfl⟩
set_option maxHeartbeats 2000000 in
set_option maxRecDepth 100000 in
theorem ac_5l (n0 n1 n2 n3 n4 n5 : Int) (b : Nat) (w : World) (hb : b < w.heap.size) (c0 : w.cell? ⟨b, 0, none⟩ = some (.int .i16 n0)) (c1 : w.cell? ⟨b, 1, none⟩ = some (.int .i16 n1)) (c2 : w.cell? ⟨b, 2, none⟩ = some (.int .i16 n2)) (c3 : w.cell? ⟨b, 3, none⟩ = some (.int .i16 n3)) (c4 : w.cell? ⟨b, 4, none⟩ = some (.int .i16 n4)) (c5 : w.cell? ⟨b, 5, none⟩ = some (.int .i16 n5)) (h0 : 0 ≤ n0) (k0 : n0 ≤ 1000) (h1 : 0 ≤ n1) (k1 : n1 ≤ 1000) (h2 : 0 ≤ n2) (k2 : n2 ≤ 1000) (h3 : 0 ≤ n3) (k3 : n3 ≤ 1000) (h4 : 0 ≤ n4) (k4 : n4 ≤ 1000) (hx : n5 < 0) :
    Calls Tryd.prog 43 #[.slice (some ⟨b, 0, none⟩) 6 6, .int .i16 1000] w fun e w' => e = .returned (.bool false) ∧ w' = w.alloc (.cells #[.int .i16 1000] 28) := by
  have q0 : ∀ o, (w.alloc o).cell? ⟨b, 0, none⟩ = some (.int .i16 n0) := fun o => (World.cell?_alloc_lt w o _ hb).trans c0
  have q1 : ∀ o, (w.alloc o).cell? ⟨b, 1, none⟩ = some (.int .i16 n1) := fun o => (World.cell?_alloc_lt w o _ hb).trans c1
  have q2 : ∀ o, (w.alloc o).cell? ⟨b, 2, none⟩ = some (.int .i16 n2) := fun o => (World.cell?_alloc_lt w o _ hb).trans c2
  have q3 : ∀ o, (w.alloc o).cell? ⟨b, 3, none⟩ = some (.int .i16 n3) := fun o => (World.cell?_alloc_lt w o _ hb).trans c3
  have q4 : ∀ o, (w.alloc o).cell? ⟨b, 4, none⟩ = some (.int .i16 n4) := fun o => (World.cell?_alloc_lt w o _ hb).trans c4
  have q5 : ∀ o, (w.alloc o).cell? ⟨b, 5, none⟩ = some (.int .i16 n5) := fun o => (World.cell?_alloc_lt w o _ hb).trans c5
  go_enter Tryd.func43, Tryd.ntmps43
  go_wp2
  refine wp_loop_rounds 7 ?_
  rw [rounds_succ]
  go_wp2
  rw [rounds_succ]
  go_wp2
  rw [rounds_succ]
  go_wp2
  rw [rounds_succ]
  go_wp2
  rw [rounds_succ]
  go_wp2
  rw [rounds_succ]
  go_wp2
  go_ret
  exact ⟨rfl, rfl⟩
set_option maxHeartbeats 2000000 in
set_option maxRecDepth 100000 in
theorem ac_5h (n0 n1 n2 n3 n4 n5 : Int) (b : Nat) (w : World) (hb : b < w.heap.size) (c0 : w.cell? ⟨b, 0, none⟩ = some (.int .i16 n0)) (c1 : w.cell? ⟨b, 1, none⟩ = some (.int .i16 n1)) (c2 : w.cell? ⟨b, 2, none⟩ = some (.int .i16 n2)) (c3 : w.cell? ⟨b, 3, none⟩ = some (.int .i16 n3)) (c4 : w.cell? ⟨b, 4, none⟩ = some (.int .i16 n4)) (c5 : w.cell? ⟨b, 5, none⟩ = some (.int .i16 n5)) (h0 : 0 ≤ n0) (k0 : n0 ≤ 1000) (h1 : 0 ≤ n1) (k1 : n1 ≤ 1000) (h2 : 0 ≤ n2) (k2 : n2 ≤ 1000) (h3 : 0 ≤ n3) (k3 : n3 ≤ 1000) (h4 : 0 ≤ n4) (k4 : n4 ≤ 1000) (hy : 0 ≤ n5) (hx : 1000 < n5) :
    Calls Tryd.prog 43 #[.slice (some ⟨b, 0, none⟩) 6 6, .int .i16 1000] w fun e w' => e = .returned (.bool false) ∧ w' = w.alloc (.cells #[.int .i16 1000] 28) := by
  have q0 : ∀ o, (w.alloc o).cell? ⟨b, 0, none⟩ = some (.int .i16 n0) := fun o => (World.cell?_alloc_lt w o _ hb).trans c0
  have q1 : ∀ o, (w.alloc o).cell? ⟨b, 1, none⟩ = some (.int .i16 n1) := fun o => (World.cell?_alloc_lt w o _ hb).trans c1
  have q2 : ∀ o, (w.alloc o).cell? ⟨b, 2, none⟩ = some (.int .i16 n2) := fun o => (World.cell?_alloc_lt w o _ hb).trans c2
  have q3 : ∀ o, (w.alloc o).cell? ⟨b, 3, none⟩ = some (.int .i16 n3) := fun o => (World.cell?_alloc_lt w o _ hb).trans c3
  have q4 : ∀ o, (w.alloc o).cell? ⟨b, 4, none⟩ = some (.int .i16 n4) := fun o => (World.cell?_alloc_lt w o _ hb).trans c4
  have q5 : ∀ o, (w.alloc o).cell? ⟨b, 5, none⟩ = some (.int .i16 n5) := fun o => (World.cell?_alloc_lt w o _ hb).trans c5
  go_enter Tryd.func43, Tryd.ntmps43
  go_wp2
  refine wp_loop_rounds 7 ?_
  rw [rounds_succ]
  go_wp2
  rw [rounds_succ]
  go_wp2
  rw [rounds_succ]
  go_wp2
  rw [rounds_succ]
  go_wp2
  rw [rounds_succ]
  go_wp2
  rw [rounds_succ]
  go_wp2
  go_ret
  exact ⟨rfl, rfl⟩
end Tx
end Go.Proofs.YtjbbljlefmgieaaDoor
end
