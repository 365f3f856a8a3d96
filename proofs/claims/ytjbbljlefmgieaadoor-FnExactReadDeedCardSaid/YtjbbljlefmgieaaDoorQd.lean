/-
  Deeds read by the model: too many or too few words, no word of a deed. No condition but that the text has at most 2^20 bytes.
-/
import Derived.Test.YtjbbljlefmgieaaDoorQb
noncomputable section
namespace Go.Proofs.YtjbbljlefmgieaaDoor
namespace Tx
open Go Go.RowKit
set_option maxHeartbeats 4000000 in
set_option maxRecDepth 100000 in
theorem mb_1 (s : ByteArray) (w : World) (N : Nat) (y : ByteArray) (hN : 0 < N) (hne : ((N : Int) != 2) = true) (HC : Hid (Cu s N ⟨#[97, 115, 107]⟩ y))  (HR : Hid (wV (bL s) = .tuple #[.agg #[.int .i64 0, .int .i64 0], .int .i64 5])) : Calls Tryd.prog 6 #[.string s] w (WdQ s w) := by
  have hix : ∀ (g cap : Nat) (W : World), (Instr.indexAt 45 (.slice (some ⟨g, 0, none⟩) N cap) (.int .i64 0)).run Tryd.prog W = .ok (.pointer (some ⟨g, 0, none⟩)) W := fun g cap W => by
    rw [run_indexAt_slice W 45 ⟨g, 0, none⟩ N cap .i64 0 (by kernel_rfl), if_pos (by omega)]
    rfl
  go_enter Tryd.func6, Tryd.ntmps6
  go_wp2_with (go_at_call 17; refine (HC.out _).mono ?_; rintro e w1 ⟨g, cap, rfl, hg1, hg2, c0, c1, hb⟩; have hsz : w.heap.size < w1.heap.size := Nat.lt_of_lt_of_le (by simp) hb.size; have q0 : w1.cell? ⟨w.heap.size, 0, none⟩ = some (.int .i64 0) := (hb.cell (p := ⟨w.heap.size, 0, none⟩) (by first | assumption | simp)).trans (by first | assumption | simp); have f0 : w1.frozen? ⟨w.heap.size, 0, none⟩ = false := (hb.frozen (p := ⟨w.heap.size, 0, none⟩) (by first | assumption | simp)).trans (World.frozen?_alloc_at _ _ _ _ rfl); have q1 : w1.cell? ⟨w.heap.size, 1, none⟩ = some (.int .i64 0) := (hb.cell (p := ⟨w.heap.size, 1, none⟩) (by first | assumption | simp)).trans (by first | assumption | simp); have f1 : w1.frozen? ⟨w.heap.size, 1, none⟩ = false := (hb.frozen (p := ⟨w.heap.size, 1, none⟩) (by first | assumption | simp)).trans (World.frozen?_alloc_at _ _ _ _ rfl); have hgn : ¬ g = w1.heap.size := (by omega); have hgn2 : ¬ g = w1.heap.size + 1 := (by omega); have hgn3 : ¬ g = w1.heap.size + 1 + 1 := (by omega); have hg3 : g < w1.heap.size + 1 := (by omega); have hsz2 : w.heap.size < w1.heap.size + 1 := (by omega); have hsz3 : w.heap.size < w1.heap.size + 1 + 1 := (by omega); have hg4 : g < w1.heap.size + 1 + 1 := (by omega); have hgm : ¬ g = w.heap.size := (by simp at hg1; omega); have hW : Below w.heap.size w w1 := Below.trans (bA (Below.refl _ _) _) (hb.mono (by simp)); clear hb hg1 c1)
  refine (lw_calls _).mono ?_
  rintro e w2 ⟨rfl, hw⟩
  subst hw
  unfold wordsA
  go_wp2_with (fail)
  refine wp_loop_rounds 7 ?_
  rw [rounds_succ]
  go_wp2_with (fail)
  go_quiet (fail)
  go_wp2_with (fail)
  rw [rounds_succ]
  go_wp2_with (fail)
  go_quiet (fail)
  go_wp2_with (fail)
  rw [rounds_succ]
  go_wp2_with (fail)
  go_quiet (fail)
  go_wp2_with (fail)
  rw [rounds_succ]
  go_wp2_with (fail)
  go_quiet (fail)
  go_wp2_with (fail)
  rw [rounds_succ]
  go_wp2_with (fail)
  go_quiet (fail)
  go_wp2_with (fail)
  rw [rounds_succ]
  go_wp2_with (fail)
  go_quiet (fail)
  go_wp2_with (fail)
  rw [rounds_succ]
  go_wp2_with (fail)
  exact bodyPost_ret (v := .tuple #[.agg #[.int .i64 0, .int .i64 0], .int .i64 5]) (by simp [results, Tryd.results6, go_sem, q0, q1, World.cell?_alloc_lt, hsz, hsz2, hsz3]) rfl ⟨congrArg Ending.returned HR.out.symm, by repeat (first | (with_reducible exact hW) | (with_reducible apply below_drewN) | (with_reducible refine Below.setCell ?_ (by first | exact Nat.le_refl _ | exact Nat.le_of_lt (by assumption) | (simp; omega)) _) | (with_reducible refine bA' ?_ (by first | exact Nat.le_of_lt (by assumption) | (simp; omega)) _))⟩
set_option maxHeartbeats 4000000 in
set_option maxRecDepth 100000 in
theorem mb_2 (s : ByteArray) (w : World) (N : Nat) (y : ByteArray) (hN : 0 < N) (hne : ((N : Int) != 2) = true) (HC : Hid (Cu s N ⟨#[100, 101, 108, 105, 118, 101, 114]⟩ y))  (HR : Hid (wV (bL s) = .tuple #[.agg #[.int .i64 0, .int .i64 0], .int .i64 5])) : Calls Tryd.prog 6 #[.string s] w (WdQ s w) := by
  have hix : ∀ (g cap : Nat) (W : World), (Instr.indexAt 45 (.slice (some ⟨g, 0, none⟩) N cap) (.int .i64 0)).run Tryd.prog W = .ok (.pointer (some ⟨g, 0, none⟩)) W := fun g cap W => by
    rw [run_indexAt_slice W 45 ⟨g, 0, none⟩ N cap .i64 0 (by kernel_rfl), if_pos (by omega)]
    rfl
  go_enter Tryd.func6, Tryd.ntmps6
  go_wp2_with (go_at_call 17; refine (HC.out _).mono ?_; rintro e w1 ⟨g, cap, rfl, hg1, hg2, c0, c1, hb⟩; have hsz : w.heap.size < w1.heap.size := Nat.lt_of_lt_of_le (by simp) hb.size; have q0 : w1.cell? ⟨w.heap.size, 0, none⟩ = some (.int .i64 0) := (hb.cell (p := ⟨w.heap.size, 0, none⟩) (by first | assumption | simp)).trans (by first | assumption | simp); have f0 : w1.frozen? ⟨w.heap.size, 0, none⟩ = false := (hb.frozen (p := ⟨w.heap.size, 0, none⟩) (by first | assumption | simp)).trans (World.frozen?_alloc_at _ _ _ _ rfl); have q1 : w1.cell? ⟨w.heap.size, 1, none⟩ = some (.int .i64 0) := (hb.cell (p := ⟨w.heap.size, 1, none⟩) (by first | assumption | simp)).trans (by first | assumption | simp); have f1 : w1.frozen? ⟨w.heap.size, 1, none⟩ = false := (hb.frozen (p := ⟨w.heap.size, 1, none⟩) (by first | assumption | simp)).trans (World.frozen?_alloc_at _ _ _ _ rfl); have hgn : ¬ g = w1.heap.size := (by omega); have hgn2 : ¬ g = w1.heap.size + 1 := (by omega); have hgn3 : ¬ g = w1.heap.size + 1 + 1 := (by omega); have hg3 : g < w1.heap.size + 1 := (by omega); have hsz2 : w.heap.size < w1.heap.size + 1 := (by omega); have hsz3 : w.heap.size < w1.heap.size + 1 + 1 := (by omega); have hg4 : g < w1.heap.size + 1 + 1 := (by omega); have hgm : ¬ g = w.heap.size := (by simp at hg1; omega); have hW : Below w.heap.size w w1 := Below.trans (bA (Below.refl _ _) _) (hb.mono (by simp)); clear hb hg1 c1)
  refine (lw_calls _).mono ?_
  rintro e w2 ⟨rfl, hw⟩
  subst hw
  unfold wordsA
  go_wp2_with (fail)
  refine wp_loop_rounds 7 ?_
  rw [rounds_succ]
  go_wp2_with (fail)
  go_quiet (fail)
  go_wp2_with (fail)
  rw [rounds_succ]
  go_wp2_with (fail)
  go_quiet (fail)
  go_wp2_with (fail)
  rw [rounds_succ]
  go_wp2_with (fail)
  go_quiet (fail)
  go_wp2_with (fail)
  rw [rounds_succ]
  go_wp2_with (fail)
  go_quiet (fail)
  go_wp2_with (fail)
  rw [rounds_succ]
  go_wp2_with (fail)
  go_quiet (fail)
  go_wp2_with (fail)
  rw [rounds_succ]
  go_wp2_with (fail)
  go_quiet (fail)
  go_wp2_with (fail)
  rw [rounds_succ]
  go_wp2_with (fail)
  exact bodyPost_ret (v := .tuple #[.agg #[.int .i64 0, .int .i64 0], .int .i64 5]) (by simp [results, Tryd.results6, go_sem, q0, q1, World.cell?_alloc_lt, hsz, hsz2, hsz3]) rfl ⟨congrArg Ending.returned HR.out.symm, by repeat (first | (with_reducible exact hW) | (with_reducible apply below_drewN) | (with_reducible refine Below.setCell ?_ (by first | exact Nat.le_refl _ | exact Nat.le_of_lt (by assumption) | (simp; omega)) _) | (with_reducible refine bA' ?_ (by first | exact Nat.le_of_lt (by assumption) | (simp; omega)) _))⟩
set_option maxHeartbeats 4000000 in
set_option maxRecDepth 100000 in
theorem mb_3 (s : ByteArray) (w : World) (N : Nat) (y : ByteArray) (hN : 0 < N) (hne : ((N : Int) != 2) = true) (HC : Hid (Cu s N ⟨#[99, 111, 112, 121]⟩ y))  (HR : Hid (wV (bL s) = .tuple #[.agg #[.int .i64 0, .int .i64 0], .int .i64 5])) : Calls Tryd.prog 6 #[.string s] w (WdQ s w) := by
  have hix : ∀ (g cap : Nat) (W : World), (Instr.indexAt 45 (.slice (some ⟨g, 0, none⟩) N cap) (.int .i64 0)).run Tryd.prog W = .ok (.pointer (some ⟨g, 0, none⟩)) W := fun g cap W => by
    rw [run_indexAt_slice W 45 ⟨g, 0, none⟩ N cap .i64 0 (by kernel_rfl), if_pos (by omega)]
    rfl
  go_enter Tryd.func6, Tryd.ntmps6
  go_wp2_with (go_at_call 17; refine (HC.out _).mono ?_; rintro e w1 ⟨g, cap, rfl, hg1, hg2, c0, c1, hb⟩; have hsz : w.heap.size < w1.heap.size := Nat.lt_of_lt_of_le (by simp) hb.size; have q0 : w1.cell? ⟨w.heap.size, 0, none⟩ = some (.int .i64 0) := (hb.cell (p := ⟨w.heap.size, 0, none⟩) (by first | assumption | simp)).trans (by first | assumption | simp); have f0 : w1.frozen? ⟨w.heap.size, 0, none⟩ = false := (hb.frozen (p := ⟨w.heap.size, 0, none⟩) (by first | assumption | simp)).trans (World.frozen?_alloc_at _ _ _ _ rfl); have q1 : w1.cell? ⟨w.heap.size, 1, none⟩ = some (.int .i64 0) := (hb.cell (p := ⟨w.heap.size, 1, none⟩) (by first | assumption | simp)).trans (by first | assumption | simp); have f1 : w1.frozen? ⟨w.heap.size, 1, none⟩ = false := (hb.frozen (p := ⟨w.heap.size, 1, none⟩) (by first | assumption | simp)).trans (World.frozen?_alloc_at _ _ _ _ rfl); have hgn : ¬ g = w1.heap.size := (by omega); have hgn2 : ¬ g = w1.heap.size + 1 := (by omega); have hgn3 : ¬ g = w1.heap.size + 1 + 1 := (by omega); have hg3 : g < w1.heap.size + 1 := (by omega); have hsz2 : w.heap.size < w1.heap.size + 1 := (by omega); have hsz3 : w.heap.size < w1.heap.size + 1 + 1 := (by omega); have hg4 : g < w1.heap.size + 1 + 1 := (by omega); have hgm : ¬ g = w.heap.size := (by simp at hg1; omega); have hW : Below w.heap.size w w1 := Below.trans (bA (Below.refl _ _) _) (hb.mono (by simp)); clear hb hg1 c1)
  refine (lw_calls _).mono ?_
  rintro e w2 ⟨rfl, hw⟩
  subst hw
  unfold wordsA
  go_wp2_with (fail)
  refine wp_loop_rounds 7 ?_
  rw [rounds_succ]
  go_wp2_with (fail)
  go_quiet (fail)
  go_wp2_with (fail)
  rw [rounds_succ]
  go_wp2_with (fail)
  go_quiet (fail)
  go_wp2_with (fail)
  rw [rounds_succ]
  go_wp2_with (fail)
  go_quiet (fail)
  go_wp2_with (fail)
  rw [rounds_succ]
  go_wp2_with (fail)
  go_quiet (fail)
  go_wp2_with (fail)
  rw [rounds_succ]
  go_wp2_with (fail)
  go_quiet (fail)
  go_wp2_with (fail)
  rw [rounds_succ]
  go_wp2_with (fail)
  go_quiet (fail)
  go_wp2_with (fail)
  rw [rounds_succ]
  go_wp2_with (fail)
  exact bodyPost_ret (v := .tuple #[.agg #[.int .i64 0, .int .i64 0], .int .i64 5]) (by simp [results, Tryd.results6, go_sem, q0, q1, World.cell?_alloc_lt, hsz, hsz2, hsz3]) rfl ⟨congrArg Ending.returned HR.out.symm, by repeat (first | (with_reducible exact hW) | (with_reducible apply below_drewN) | (with_reducible refine Below.setCell ?_ (by first | exact Nat.le_refl _ | exact Nat.le_of_lt (by assumption) | (simp; omega)) _) | (with_reducible refine bA' ?_ (by first | exact Nat.le_of_lt (by assumption) | (simp; omega)) _))⟩
set_option maxHeartbeats 4000000 in
set_option maxRecDepth 100000 in
theorem mb_4 (s : ByteArray) (w : World) (N : Nat) (y : ByteArray) (hN : 0 < N) (hne : ((N : Int) != 2) = true) (HC : Hid (Cu s N ⟨#[100, 114, 111, 112]⟩ y))  (HR : Hid (wV (bL s) = .tuple #[.agg #[.int .i64 0, .int .i64 0], .int .i64 5])) : Calls Tryd.prog 6 #[.string s] w (WdQ s w) := by
  have hix : ∀ (g cap : Nat) (W : World), (Instr.indexAt 45 (.slice (some ⟨g, 0, none⟩) N cap) (.int .i64 0)).run Tryd.prog W = .ok (.pointer (some ⟨g, 0, none⟩)) W := fun g cap W => by
    rw [run_indexAt_slice W 45 ⟨g, 0, none⟩ N cap .i64 0 (by kernel_rfl), if_pos (by omega)]
    rfl
  go_enter Tryd.func6, Tryd.ntmps6
  go_wp2_with (go_at_call 17; refine (HC.out _).mono ?_; rintro e w1 ⟨g, cap, rfl, hg1, hg2, c0, c1, hb⟩; have hsz : w.heap.size < w1.heap.size := Nat.lt_of_lt_of_le (by simp) hb.size; have q0 : w1.cell? ⟨w.heap.size, 0, none⟩ = some (.int .i64 0) := (hb.cell (p := ⟨w.heap.size, 0, none⟩) (by first | assumption | simp)).trans (by first | assumption | simp); have f0 : w1.frozen? ⟨w.heap.size, 0, none⟩ = false := (hb.frozen (p := ⟨w.heap.size, 0, none⟩) (by first | assumption | simp)).trans (World.frozen?_alloc_at _ _ _ _ rfl); have q1 : w1.cell? ⟨w.heap.size, 1, none⟩ = some (.int .i64 0) := (hb.cell (p := ⟨w.heap.size, 1, none⟩) (by first | assumption | simp)).trans (by first | assumption | simp); have f1 : w1.frozen? ⟨w.heap.size, 1, none⟩ = false := (hb.frozen (p := ⟨w.heap.size, 1, none⟩) (by first | assumption | simp)).trans (World.frozen?_alloc_at _ _ _ _ rfl); have hgn : ¬ g = w1.heap.size := (by omega); have hgn2 : ¬ g = w1.heap.size + 1 := (by omega); have hgn3 : ¬ g = w1.heap.size + 1 + 1 := (by omega); have hg3 : g < w1.heap.size + 1 := (by omega); have hsz2 : w.heap.size < w1.heap.size + 1 := (by omega); have hsz3 : w.heap.size < w1.heap.size + 1 + 1 := (by omega); have hg4 : g < w1.heap.size + 1 + 1 := (by omega); have hgm : ¬ g = w.heap.size := (by simp at hg1; omega); have hW : Below w.heap.size w w1 := Below.trans (bA (Below.refl _ _) _) (hb.mono (by simp)); clear hb hg1 c1)
  refine (lw_calls _).mono ?_
  rintro e w2 ⟨rfl, hw⟩
  subst hw
  unfold wordsA
  go_wp2_with (fail)
  refine wp_loop_rounds 7 ?_
  rw [rounds_succ]
  go_wp2_with (fail)
  go_quiet (fail)
  go_wp2_with (fail)
  rw [rounds_succ]
  go_wp2_with (fail)
  go_quiet (fail)
  go_wp2_with (fail)
  rw [rounds_succ]
  go_wp2_with (fail)
  go_quiet (fail)
  go_wp2_with (fail)
  rw [rounds_succ]
  go_wp2_with (fail)
  go_quiet (fail)
  go_wp2_with (fail)
  rw [rounds_succ]
  go_wp2_with (fail)
  go_quiet (fail)
  go_wp2_with (fail)
  rw [rounds_succ]
  go_wp2_with (fail)
  go_quiet (fail)
  go_wp2_with (fail)
  rw [rounds_succ]
  go_wp2_with (fail)
  exact bodyPost_ret (v := .tuple #[.agg #[.int .i64 0, .int .i64 0], .int .i64 5]) (by simp [results, Tryd.results6, go_sem, q0, q1, World.cell?_alloc_lt, hsz, hsz2, hsz3]) rfl ⟨congrArg Ending.returned HR.out.symm, by repeat (first | (with_reducible exact hW) | (with_reducible apply below_drewN) | (with_reducible refine Below.setCell ?_ (by first | exact Nat.le_refl _ | exact Nat.le_of_lt (by assumption) | (simp; omega)) _) | (with_reducible refine bA' ?_ (by first | exact Nat.le_of_lt (by assumption) | (simp; omega)) _))⟩
set_option maxHeartbeats 4000000 in
set_option maxRecDepth 100000 in
theorem mb_5 (s : ByteArray) (w : World) (N : Nat) (y : ByteArray) (hN : 0 < N) (hne : ((N : Int) != 1) = true) (HC : Hid (Cu s N ⟨#[115, 97, 118, 101]⟩ y))  (HR : Hid (wV (bL s) = .tuple #[.agg #[.int .i64 0, .int .i64 0], .int .i64 5])) : Calls Tryd.prog 6 #[.string s] w (WdQ s w) := by
  have hix : ∀ (g cap : Nat) (W : World), (Instr.indexAt 45 (.slice (some ⟨g, 0, none⟩) N cap) (.int .i64 0)).run Tryd.prog W = .ok (.pointer (some ⟨g, 0, none⟩)) W := fun g cap W => by
    rw [run_indexAt_slice W 45 ⟨g, 0, none⟩ N cap .i64 0 (by kernel_rfl), if_pos (by omega)]
    rfl
  go_enter Tryd.func6, Tryd.ntmps6
  go_wp2_with (go_at_call 17; refine (HC.out _).mono ?_; rintro e w1 ⟨g, cap, rfl, hg1, hg2, c0, c1, hb⟩; have hsz : w.heap.size < w1.heap.size := Nat.lt_of_lt_of_le (by simp) hb.size; have q0 : w1.cell? ⟨w.heap.size, 0, none⟩ = some (.int .i64 0) := (hb.cell (p := ⟨w.heap.size, 0, none⟩) (by first | assumption | simp)).trans (by first | assumption | simp); have f0 : w1.frozen? ⟨w.heap.size, 0, none⟩ = false := (hb.frozen (p := ⟨w.heap.size, 0, none⟩) (by first | assumption | simp)).trans (World.frozen?_alloc_at _ _ _ _ rfl); have q1 : w1.cell? ⟨w.heap.size, 1, none⟩ = some (.int .i64 0) := (hb.cell (p := ⟨w.heap.size, 1, none⟩) (by first | assumption | simp)).trans (by first | assumption | simp); have f1 : w1.frozen? ⟨w.heap.size, 1, none⟩ = false := (hb.frozen (p := ⟨w.heap.size, 1, none⟩) (by first | assumption | simp)).trans (World.frozen?_alloc_at _ _ _ _ rfl); have hgn : ¬ g = w1.heap.size := (by omega); have hgn2 : ¬ g = w1.heap.size + 1 := (by omega); have hgn3 : ¬ g = w1.heap.size + 1 + 1 := (by omega); have hg3 : g < w1.heap.size + 1 := (by omega); have hsz2 : w.heap.size < w1.heap.size + 1 := (by omega); have hsz3 : w.heap.size < w1.heap.size + 1 + 1 := (by omega); have hg4 : g < w1.heap.size + 1 + 1 := (by omega); have hgm : ¬ g = w.heap.size := (by simp at hg1; omega); have hW : Below w.heap.size w w1 := Below.trans (bA (Below.refl _ _) _) (hb.mono (by simp)); clear hb hg1 c1)
  refine (lw_calls _).mono ?_
  rintro e w2 ⟨rfl, hw⟩
  subst hw
  unfold wordsA
  go_wp2_with (fail)
  refine wp_loop_rounds 7 ?_
  rw [rounds_succ]
  go_wp2_with (fail)
  go_quiet (fail)
  go_wp2_with (fail)
  rw [rounds_succ]
  go_wp2_with (fail)
  go_quiet (fail)
  go_wp2_with (fail)
  rw [rounds_succ]
  go_wp2_with (fail)
  go_quiet (fail)
  go_wp2_with (fail)
  rw [rounds_succ]
  go_wp2_with (fail)
  go_quiet (fail)
  go_wp2_with (fail)
  rw [rounds_succ]
  go_wp2_with (fail)
  go_quiet (fail)
  go_wp2_with (fail)
  rw [rounds_succ]
  go_wp2_with (fail)
  go_quiet (fail)
  go_wp2_with (fail)
  rw [rounds_succ]
  go_wp2_with (fail)
  exact bodyPost_ret (v := .tuple #[.agg #[.int .i64 0, .int .i64 0], .int .i64 5]) (by simp [results, Tryd.results6, go_sem, q0, q1, World.cell?_alloc_lt, hsz, hsz2, hsz3]) rfl ⟨congrArg Ending.returned HR.out.symm, by repeat (first | (with_reducible exact hW) | (with_reducible apply below_drewN) | (with_reducible refine Below.setCell ?_ (by first | exact Nat.le_refl _ | exact Nat.le_of_lt (by assumption) | (simp; omega)) _) | (with_reducible refine bA' ?_ (by first | exact Nat.le_of_lt (by assumption) | (simp; omega)) _))⟩
set_option maxHeartbeats 4000000 in
set_option maxRecDepth 100000 in
theorem mb_6 (s : ByteArray) (w : World) (N : Nat) (y : ByteArray) (hN : 0 < N) (hne : ((N : Int) != 1) = true) (HC : Hid (Cu s N ⟨#[99, 114, 97, 115, 104]⟩ y))  (HR : Hid (wV (bL s) = .tuple #[.agg #[.int .i64 0, .int .i64 0], .int .i64 5])) : Calls Tryd.prog 6 #[.string s] w (WdQ s w) := by
  have hix : ∀ (g cap : Nat) (W : World), (Instr.indexAt 45 (.slice (some ⟨g, 0, none⟩) N cap) (.int .i64 0)).run Tryd.prog W = .ok (.pointer (some ⟨g, 0, none⟩)) W := fun g cap W => by
    rw [run_indexAt_slice W 45 ⟨g, 0, none⟩ N cap .i64 0 (by kernel_rfl), if_pos (by omega)]
    rfl
  go_enter Tryd.func6, Tryd.ntmps6
  go_wp2_with (go_at_call 17; refine (HC.out _).mono ?_; rintro e w1 ⟨g, cap, rfl, hg1, hg2, c0, c1, hb⟩; have hsz : w.heap.size < w1.heap.size := Nat.lt_of_lt_of_le (by simp) hb.size; have q0 : w1.cell? ⟨w.heap.size, 0, none⟩ = some (.int .i64 0) := (hb.cell (p := ⟨w.heap.size, 0, none⟩) (by first | assumption | simp)).trans (by first | assumption | simp); have f0 : w1.frozen? ⟨w.heap.size, 0, none⟩ = false := (hb.frozen (p := ⟨w.heap.size, 0, none⟩) (by first | assumption | simp)).trans (World.frozen?_alloc_at _ _ _ _ rfl); have q1 : w1.cell? ⟨w.heap.size, 1, none⟩ = some (.int .i64 0) := (hb.cell (p := ⟨w.heap.size, 1, none⟩) (by first | assumption | simp)).trans (by first | assumption | simp); have f1 : w1.frozen? ⟨w.heap.size, 1, none⟩ = false := (hb.frozen (p := ⟨w.heap.size, 1, none⟩) (by first | assumption | simp)).trans (World.frozen?_alloc_at _ _ _ _ rfl); have hgn : ¬ g = w1.heap.size := (by omega); have hgn2 : ¬ g = w1.heap.size + 1 := (by omega); have hgn3 : ¬ g = w1.heap.size + 1 + 1 := (by omega); have hg3 : g < w1.heap.size + 1 := (by omega); have hsz2 : w.heap.size < w1.heap.size + 1 := (by omega); have hsz3 : w.heap.size < w1.heap.size + 1 + 1 := (by omega); have hg4 : g < w1.heap.size + 1 + 1 := (by omega); have hgm : ¬ g = w.heap.size := (by simp at hg1; omega); have hW : Below w.heap.size w w1 := Below.trans (bA (Below.refl _ _) _) (hb.mono (by simp)); clear hb hg1 c1)
  refine (lw_calls _).mono ?_
  rintro e w2 ⟨rfl, hw⟩
  subst hw
  unfold wordsA
  go_wp2_with (fail)
  refine wp_loop_rounds 7 ?_
  rw [rounds_succ]
  go_wp2_with (fail)
  go_quiet (fail)
  go_wp2_with (fail)
  rw [rounds_succ]
  go_wp2_with (fail)
  go_quiet (fail)
  go_wp2_with (fail)
  rw [rounds_succ]
  go_wp2_with (fail)
  go_quiet (fail)
  go_wp2_with (fail)
  rw [rounds_succ]
  go_wp2_with (fail)
  go_quiet (fail)
  go_wp2_with (fail)
  rw [rounds_succ]
  go_wp2_with (fail)
  go_quiet (fail)
  go_wp2_with (fail)
  rw [rounds_succ]
  go_wp2_with (fail)
  go_quiet (fail)
  go_wp2_with (fail)
  rw [rounds_succ]
  go_wp2_with (fail)
  exact bodyPost_ret (v := .tuple #[.agg #[.int .i64 0, .int .i64 0], .int .i64 5]) (by simp [results, Tryd.results6, go_sem, q0, q1, World.cell?_alloc_lt, hsz, hsz2, hsz3]) rfl ⟨congrArg Ending.returned HR.out.symm, by repeat (first | (with_reducible exact hW) | (with_reducible apply below_drewN) | (with_reducible refine Below.setCell ?_ (by first | exact Nat.le_refl _ | exact Nat.le_of_lt (by assumption) | (simp; omega)) _) | (with_reducible refine bA' ?_ (by first | exact Nat.le_of_lt (by assumption) | (simp; omega)) _))⟩
set_option maxHeartbeats 4000000 in
set_option maxRecDepth 100000 in
theorem mn_0 (s : ByteArray) (w : World) (N : Nat) (x y : ByteArray) (hN : 0 < N) (z1 : ([97, 115, 107] == x.toList) = false) (z2 : ([100, 101, 108, 105, 118, 101, 114] == x.toList) = false) (z3 : ([99, 111, 112, 121] == x.toList) = false) (z4 : ([100, 114, 111, 112] == x.toList) = false) (z5 : ([115, 97, 118, 101] == x.toList) = false) (z6 : ([99, 114, 97, 115, 104] == x.toList) = false) (HC : Hid (Cu s N x y))  (HR : Hid (wV (bL s) = .tuple #[.agg #[.int .i64 0, .int .i64 0], .int .i64 5])) : Calls Tryd.prog 6 #[.string s] w (WdQ s w) := by
  have hix : ∀ (g cap : Nat) (W : World), (Instr.indexAt 45 (.slice (some ⟨g, 0, none⟩) N cap) (.int .i64 0)).run Tryd.prog W = .ok (.pointer (some ⟨g, 0, none⟩)) W := fun g cap W => by
    rw [run_indexAt_slice W 45 ⟨g, 0, none⟩ N cap .i64 0 (by kernel_rfl), if_pos (by omega)]
    rfl
  go_enter Tryd.func6, Tryd.ntmps6
  go_wp2_with (go_at_call 17; refine (HC.out _).mono ?_; rintro e w1 ⟨g, cap, rfl, hg1, hg2, c0, c1, hb⟩; have hsz : w.heap.size < w1.heap.size := Nat.lt_of_lt_of_le (by simp) hb.size; have q0 : w1.cell? ⟨w.heap.size, 0, none⟩ = some (.int .i64 0) := (hb.cell (p := ⟨w.heap.size, 0, none⟩) (by first | assumption | simp)).trans (by first | assumption | simp); have f0 : w1.frozen? ⟨w.heap.size, 0, none⟩ = false := (hb.frozen (p := ⟨w.heap.size, 0, none⟩) (by first | assumption | simp)).trans (World.frozen?_alloc_at _ _ _ _ rfl); have q1 : w1.cell? ⟨w.heap.size, 1, none⟩ = some (.int .i64 0) := (hb.cell (p := ⟨w.heap.size, 1, none⟩) (by first | assumption | simp)).trans (by first | assumption | simp); have f1 : w1.frozen? ⟨w.heap.size, 1, none⟩ = false := (hb.frozen (p := ⟨w.heap.size, 1, none⟩) (by first | assumption | simp)).trans (World.frozen?_alloc_at _ _ _ _ rfl); have hgn : ¬ g = w1.heap.size := (by omega); have hgn2 : ¬ g = w1.heap.size + 1 := (by omega); have hgn3 : ¬ g = w1.heap.size + 1 + 1 := (by omega); have hg3 : g < w1.heap.size + 1 := (by omega); have hsz2 : w.heap.size < w1.heap.size + 1 := (by omega); have hsz3 : w.heap.size < w1.heap.size + 1 + 1 := (by omega); have hg4 : g < w1.heap.size + 1 + 1 := (by omega); have hgm : ¬ g = w.heap.size := (by simp at hg1; omega); have hW : Below w.heap.size w w1 := Below.trans (bA (Below.refl _ _) _) (hb.mono (by simp)); clear hb hg1 c1)
  refine (lw_calls _).mono ?_
  rintro e w2 ⟨rfl, hw⟩
  subst hw
  unfold wordsA
  go_wp2_with (fail)
  refine wp_loop_rounds 7 ?_
  rw [rounds_succ]
  go_wp2_with (fail)
  go_quiet (fail)
  go_wp2_with (fail)
  rw [rounds_succ]
  go_wp2_with (fail)
  go_quiet (fail)
  go_wp2_with (fail)
  rw [rounds_succ]
  go_wp2_with (fail)
  go_quiet (fail)
  go_wp2_with (fail)
  rw [rounds_succ]
  go_wp2_with (fail)
  go_quiet (fail)
  go_wp2_with (fail)
  rw [rounds_succ]
  go_wp2_with (fail)
  go_quiet (fail)
  go_wp2_with (fail)
  rw [rounds_succ]
  go_wp2_with (fail)
  go_quiet (fail)
  go_wp2_with (fail)
  rw [rounds_succ]
  go_wp2_with (fail)
  exact bodyPost_ret (v := .tuple #[.agg #[.int .i64 0, .int .i64 0], .int .i64 5]) (by simp [results, Tryd.results6, go_sem, q0, q1, World.cell?_alloc_lt, hsz, hsz2, hsz3]) rfl ⟨congrArg Ending.returned HR.out.symm, by repeat (first | (with_reducible exact hW) | (with_reducible apply below_drewN) | (with_reducible refine Below.setCell ?_ (by first | exact Nat.le_refl _ | exact Nat.le_of_lt (by assumption) | (simp; omega)) _) | (with_reducible refine bA' ?_ (by first | exact Nat.le_of_lt (by assumption) | (simp; omega)) _))⟩
end Tx
end Go.Proofs.YtjbbljlefmgieaaDoor
end
