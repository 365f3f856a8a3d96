/-
  Deeds read by the model: those that are right. No condition but that the text has at most 2^20 bytes.
-/
import Derived.Test.YtjbbljlefmgieaaDoorQb
noncomputable section
namespace Go.Proofs.YtjbbljlefmgieaaDoor
namespace Tx
open Go Go.RowKit
set_option maxHeartbeats 4000000 in
set_option maxRecDepth 100000 in
theorem mk_1 (s : ByteArray) (w : World) (n : Nat) (hn : n ≤ 999) (y : ByteArray) (HM : Hid (∀ w, Calls Tryd.prog 19 #[.string y] w fun e w' => e = .returned (.tuple #[.int .i64 n, .bool true]) ∧ w' = w)) (HC : Hid (Cu s 2 ⟨#[97, 115, 107]⟩ y))  (HR : Hid (wV (bL s) = .tuple #[.agg #[.int .i64 1, .int .i64 n], .int .i64 0])) : Calls Tryd.prog 6 #[.string s] w (WdQ s w) := by
  have hix : ∀ (g cap : Nat) (W : World), (Instr.indexAt 45 (.slice (some ⟨g, 0, none⟩) 2 cap) (.int .i64 0)).run Tryd.prog W = .ok (.pointer (some ⟨g, 0, none⟩)) W := fun g cap W => by
    rw [run_indexAt_slice W 45 ⟨g, 0, none⟩ 2 cap .i64 0 (by kernel_rfl), if_pos (by omega)]
    rfl
  go_enter Tryd.func6, Tryd.ntmps6
  go_wp2_with (go_at_call 17; refine (HC.out _).mono ?_; rintro e w1 ⟨g, cap, rfl, hg1, hg2, c0, c1, hb⟩; have hsz : w.heap.size < w1.heap.size := Nat.lt_of_lt_of_le (by simp) hb.size; have q0 : w1.cell? ⟨w.heap.size, 0, none⟩ = some (.int .i64 0) := (hb.cell (p := ⟨w.heap.size, 0, none⟩) (by first | assumption | simp)).trans (by first | assumption | simp); have f0 : w1.frozen? ⟨w.heap.size, 0, none⟩ = false := (hb.frozen (p := ⟨w.heap.size, 0, none⟩) (by first | assumption | simp)).trans (World.frozen?_alloc_at _ _ _ _ rfl); have q1 : w1.cell? ⟨w.heap.size, 1, none⟩ = some (.int .i64 0) := (hb.cell (p := ⟨w.heap.size, 1, none⟩) (by first | assumption | simp)).trans (by first | assumption | simp); have f1 : w1.frozen? ⟨w.heap.size, 1, none⟩ = false := (hb.frozen (p := ⟨w.heap.size, 1, none⟩) (by first | assumption | simp)).trans (World.frozen?_alloc_at _ _ _ _ rfl); have hgn : ¬ g = w1.heap.size := (by omega); have hgn2 : ¬ g = w1.heap.size + 1 := (by omega); have hgn3 : ¬ g = w1.heap.size + 1 + 1 := (by omega); have hg3 : g < w1.heap.size + 1 := (by omega); have hsz2 : w.heap.size < w1.heap.size + 1 := (by omega); have hsz3 : w.heap.size < w1.heap.size + 1 + 1 := (by omega); have hg4 : g < w1.heap.size + 1 + 1 := (by omega); have hgm : ¬ g = w.heap.size := (by simp at hg1; omega); have hW : Below w.heap.size w w1 := Below.trans (bA (Below.refl _ _) _) (hb.mono (by simp)); have d1 := c1 rfl; clear hb hg1 c1)
  refine (lw_calls _).mono ?_
  rintro e w2 ⟨rfl, hw⟩
  subst hw
  unfold wordsA
  go_wp2_with (fail)
  refine wp_loop_rounds 7 ?_
  rw [rounds_succ]
  go_wp2_with (fail)
  go_quiet (fail)
  go_wp2_with (fail)
  rw [rounds_succ]
  go_wp2_with (fail)
  go_quiet (fail)
  go_wp2_with (fail)
  rw [rounds_succ]
  go_wp2_with (fail)
  go_quiet (fail)
  go_wp2_with (fail)
  rw [rounds_succ]
  go_wp2_with (fail)
  go_quiet (fail)
  go_wp2_with (fail)
  rw [rounds_succ]
  go_wp2_with (fail)
  go_quiet (fail)
  go_wp2_with (fail)
  rw [rounds_succ]
  go_wp2_with (fail)
  go_quiet (fail)
  go_wp2_with (fail)
  rw [rounds_succ]
  go_wp2_with (first | (go_at_call 19; refine (HM.out _).mono ?_; rintro e w4 ⟨rfl, hw⟩; subst hw) | (go_at_call 20; refine (sd_1 n _ (by omega) (by omega)).mono ?_; rintro e w5 ⟨rfl, hb5⟩; have b5 : Below w1.heap.size w1 w5 := Below.trans (by repeat (first | (with_reducible exact Below.refl _ _) | (with_reducible apply below_drewN) | (with_reducible refine Below.setCell ?_ (by simp; try omega) _) | (with_reducible refine bA' ?_ (by simp; try omega) _))) (hb5.mono (by first | (simp; done) | (simp; omega))); have q0' : w5.cell? ⟨w.heap.size, 0, none⟩ = some (.int .i64 0) := (b5.cell (p := ⟨w.heap.size, 0, none⟩) hsz).trans q0; have f0' : w5.frozen? ⟨w.heap.size, 0, none⟩ = false := (b5.frozen (p := ⟨w.heap.size, 0, none⟩) hsz).trans f0; have q1' : w5.cell? ⟨w.heap.size, 1, none⟩ = some (.int .i64 0) := (b5.cell (p := ⟨w.heap.size, 1, none⟩) hsz).trans q1; have f1' : w5.frozen? ⟨w.heap.size, 1, none⟩ = false := (b5.frozen (p := ⟨w.heap.size, 1, none⟩) hsz).trans f1; have e0 : w5.cell? ⟨w1.heap.size + 1 + 1, 0, none⟩ = some (.int .i64 1) := (hb5.cell (p := ⟨w1.heap.size + 1 + 1, 0, none⟩) (by first | (simp; done) | (simp; omega))).trans (by first | exact World.cell?_setCell_same _ _ _ (show _ = some (Value.int .i64 0) from ((World.cell?_alloc_at _ _ _ _ (by simp)).trans rfl)) | exact (World.cell?_setCell_other _ _ _ _ (by simp)).trans ((World.cell?_alloc_at _ _ _ _ (by simp)).trans rfl) | exact (World.cell?_setCell_other _ _ _ _ (by simp)).trans (World.cell?_setCell_same _ _ _ (show _ = some (Value.int .i64 0) from ((World.cell?_alloc_at _ _ _ _ (by simp)).trans rfl))) | exact World.cell?_setCell_same _ _ _ (show _ = some (Value.int .i64 0) from (World.cell?_setCell_other _ _ _ _ (by simp)).trans ((World.cell?_alloc_at _ _ _ _ (by simp)).trans rfl))); have e1 : w5.cell? ⟨w1.heap.size + 1 + 1, 1, none⟩ = some (.int .i64 ↑n) := (hb5.cell (p := ⟨w1.heap.size + 1 + 1, 1, none⟩) (by first | (simp; done) | (simp; omega))).trans (by first | exact World.cell?_setCell_same _ _ _ (show _ = some (Value.int .i64 0) from ((World.cell?_alloc_at _ _ _ _ (by simp)).trans rfl)) | exact (World.cell?_setCell_other _ _ _ _ (by simp)).trans ((World.cell?_alloc_at _ _ _ _ (by simp)).trans rfl) | exact (World.cell?_setCell_other _ _ _ _ (by simp)).trans (World.cell?_setCell_same _ _ _ (show _ = some (Value.int .i64 0) from ((World.cell?_alloc_at _ _ _ _ (by simp)).trans rfl))) | exact World.cell?_setCell_same _ _ _ (show _ = some (Value.int .i64 0) from (World.cell?_setCell_other _ _ _ _ (by simp)).trans ((World.cell?_alloc_at _ _ _ _ (by simp)).trans rfl))); have hs5 : w.heap.size < w5.heap.size := Nat.lt_of_lt_of_le hsz b5.size; have hW5 : Below w.heap.size w w5 := hW.trans (b5.mono hW.size); clear q0 q1 f0 f1 hb5 b5))
  exact bodyPost_ret (v := .tuple #[.agg #[.int .i64 1, .int .i64 n], .int .i64 0]) (by simp [results, Tryd.results6, go_sem, q0', q1']) rfl ⟨congrArg Ending.returned HR.out.symm, by repeat (first | (with_reducible exact hW5) | (with_reducible apply below_drewN) | (with_reducible refine Below.setCell ?_ (by first | exact Nat.le_refl _ | exact Nat.le_of_lt (by assumption)) _) | (with_reducible refine bA' ?_ (by exact Nat.le_of_lt (by assumption)) _))⟩
set_option maxHeartbeats 4000000 in
set_option maxRecDepth 100000 in
theorem mk_2 (s : ByteArray) (w : World) (n : Nat) (hn : n ≤ 999) (y : ByteArray) (HM : Hid (∀ w, Calls Tryd.prog 19 #[.string y] w fun e w' => e = .returned (.tuple #[.int .i64 n, .bool true]) ∧ w' = w)) (HC : Hid (Cu s 2 ⟨#[100, 101, 108, 105, 118, 101, 114]⟩ y))  (HR : Hid (wV (bL s) = .tuple #[.agg #[.int .i64 2, .int .i64 n], .int .i64 0])) : Calls Tryd.prog 6 #[.string s] w (WdQ s w) := by
  have hix : ∀ (g cap : Nat) (W : World), (Instr.indexAt 45 (.slice (some ⟨g, 0, none⟩) 2 cap) (.int .i64 0)).run Tryd.prog W = .ok (.pointer (some ⟨g, 0, none⟩)) W := fun g cap W => by
    rw [run_indexAt_slice W 45 ⟨g, 0, none⟩ 2 cap .i64 0 (by kernel_rfl), if_pos (by omega)]
    rfl
  go_enter Tryd.func6, Tryd.ntmps6
  go_wp2_with (go_at_call 17; refine (HC.out _).mono ?_; rintro e w1 ⟨g, cap, rfl, hg1, hg2, c0, c1, hb⟩; have hsz : w.heap.size < w1.heap.size := Nat.lt_of_lt_of_le (by simp) hb.size; have q0 : w1.cell? ⟨w.heap.size, 0, none⟩ = some (.int .i64 0) := (hb.cell (p := ⟨w.heap.size, 0, none⟩) (by first | assumption | simp)).trans (by first | assumption | simp); have f0 : w1.frozen? ⟨w.heap.size, 0, none⟩ = false := (hb.frozen (p := ⟨w.heap.size, 0, none⟩) (by first | assumption | simp)).trans (World.frozen?_alloc_at _ _ _ _ rfl); have q1 : w1.cell? ⟨w.heap.size, 1, none⟩ = some (.int .i64 0) := (hb.cell (p := ⟨w.heap.size, 1, none⟩) (by first | assumption | simp)).trans (by first | assumption | simp); have f1 : w1.frozen? ⟨w.heap.size, 1, none⟩ = false := (hb.frozen (p := ⟨w.heap.size, 1, none⟩) (by first | assumption | simp)).trans (World.frozen?_alloc_at _ _ _ _ rfl); have hgn : ¬ g = w1.heap.size := (by omega); have hgn2 : ¬ g = w1.heap.size + 1 := (by omega); have hgn3 : ¬ g = w1.heap.size + 1 + 1 := (by omega); have hg3 : g < w1.heap.size + 1 := (by omega); have hsz2 : w.heap.size < w1.heap.size + 1 := (by omega); have hsz3 : w.heap.size < w1.heap.size + 1 + 1 := (by omega); have hg4 : g < w1.heap.size + 1 + 1 := (by omega); have hgm : ¬ g = w.heap.size := (by simp at hg1; omega); have hW : Below w.heap.size w w1 := Below.trans (bA (Below.refl _ _) _) (hb.mono (by simp)); have d1 := c1 rfl; clear hb hg1 c1)
  refine (lw_calls _).mono ?_
  rintro e w2 ⟨rfl, hw⟩
  subst hw
  unfold wordsA
  go_wp2_with (fail)
  refine wp_loop_rounds 7 ?_
  rw [rounds_succ]
  go_wp2_with (fail)
  go_quiet (fail)
  go_wp2_with (fail)
  rw [rounds_succ]
  go_wp2_with (fail)
  go_quiet (fail)
  go_wp2_with (fail)
  rw [rounds_succ]
  go_wp2_with (fail)
  go_quiet (fail)
  go_wp2_with (fail)
  rw [rounds_succ]
  go_wp2_with (fail)
  go_quiet (fail)
  go_wp2_with (fail)
  rw [rounds_succ]
  go_wp2_with (fail)
  go_quiet (fail)
  go_wp2_with (fail)
  rw [rounds_succ]
  go_wp2_with (fail)
  go_quiet (fail)
  go_wp2_with (fail)
  rw [rounds_succ]
  go_wp2_with (first | (go_at_call 19; refine (HM.out _).mono ?_; rintro e w4 ⟨rfl, hw⟩; subst hw) | (go_at_call 20; refine (sd_2 n _ (by omega) (by omega)).mono ?_; rintro e w5 ⟨rfl, hb5⟩; have b5 : Below w1.heap.size w1 w5 := Below.trans (by repeat (first | (with_reducible exact Below.refl _ _) | (with_reducible apply below_drewN) | (with_reducible refine Below.setCell ?_ (by simp; try omega) _) | (with_reducible refine bA' ?_ (by simp; try omega) _))) (hb5.mono (by first | (simp; done) | (simp; omega))); have q0' : w5.cell? ⟨w.heap.size, 0, none⟩ = some (.int .i64 0) := (b5.cell (p := ⟨w.heap.size, 0, none⟩) hsz).trans q0; have f0' : w5.frozen? ⟨w.heap.size, 0, none⟩ = false := (b5.frozen (p := ⟨w.heap.size, 0, none⟩) hsz).trans f0; have q1' : w5.cell? ⟨w.heap.size, 1, none⟩ = some (.int .i64 0) := (b5.cell (p := ⟨w.heap.size, 1, none⟩) hsz).trans q1; have f1' : w5.frozen? ⟨w.heap.size, 1, none⟩ = false := (b5.frozen (p := ⟨w.heap.size, 1, none⟩) hsz).trans f1; have e0 : w5.cell? ⟨w1.heap.size + 1 + 1, 0, none⟩ = some (.int .i64 2) := (hb5.cell (p := ⟨w1.heap.size + 1 + 1, 0, none⟩) (by first | (simp; done) | (simp; omega))).trans (by first | exact World.cell?_setCell_same _ _ _ (show _ = some (Value.int .i64 0) from ((World.cell?_alloc_at _ _ _ _ (by simp)).trans rfl)) | exact (World.cell?_setCell_other _ _ _ _ (by simp)).trans ((World.cell?_alloc_at _ _ _ _ (by simp)).trans rfl) | exact (World.cell?_setCell_other _ _ _ _ (by simp)).trans (World.cell?_setCell_same _ _ _ (show _ = some (Value.int .i64 0) from ((World.cell?_alloc_at _ _ _ _ (by simp)).trans rfl))) | exact World.cell?_setCell_same _ _ _ (show _ = some (Value.int .i64 0) from (World.cell?_setCell_other _ _ _ _ (by simp)).trans ((World.cell?_alloc_at _ _ _ _ (by simp)).trans rfl))); have e1 : w5.cell? ⟨w1.heap.size + 1 + 1, 1, none⟩ = some (.int .i64 ↑n) := (hb5.cell (p := ⟨w1.heap.size + 1 + 1, 1, none⟩) (by first | (simp; done) | (simp; omega))).trans (by first | exact World.cell?_setCell_same _ _ _ (show _ = some (Value.int .i64 0) from ((World.cell?_alloc_at _ _ _ _ (by simp)).trans rfl)) | exact (World.cell?_setCell_other _ _ _ _ (by simp)).trans ((World.cell?_alloc_at _ _ _ _ (by simp)).trans rfl) | exact (World.cell?_setCell_other _ _ _ _ (by simp)).trans (World.cell?_setCell_same _ _ _ (show _ = some (Value.int .i64 0) from ((World.cell?_alloc_at _ _ _ _ (by simp)).trans rfl))) | exact World.cell?_setCell_same _ _ _ (show _ = some (Value.int .i64 0) from (World.cell?_setCell_other _ _ _ _ (by simp)).trans ((World.cell?_alloc_at _ _ _ _ (by simp)).trans rfl))); have hs5 : w.heap.size < w5.heap.size := Nat.lt_of_lt_of_le hsz b5.size; have hW5 : Below w.heap.size w w5 := hW.trans (b5.mono hW.size); clear q0 q1 f0 f1 hb5 b5))
  exact bodyPost_ret (v := .tuple #[.agg #[.int .i64 2, .int .i64 n], .int .i64 0]) (by simp [results, Tryd.results6, go_sem, q0', q1']) rfl ⟨congrArg Ending.returned HR.out.symm, by repeat (first | (with_reducible exact hW5) | (with_reducible apply below_drewN) | (with_reducible refine Below.setCell ?_ (by first | exact Nat.le_refl _ | exact Nat.le_of_lt (by assumption)) _) | (with_reducible refine bA' ?_ (by exact Nat.le_of_lt (by assumption)) _))⟩
set_option maxHeartbeats 4000000 in
set_option maxRecDepth 100000 in
theorem mk_3 (s : ByteArray) (w : World) (n : Nat) (hn : n ≤ 999) (y : ByteArray) (HM : Hid (∀ w, Calls Tryd.prog 19 #[.string y] w fun e w' => e = .returned (.tuple #[.int .i64 n, .bool true]) ∧ w' = w)) (HC : Hid (Cu s 2 ⟨#[99, 111, 112, 121]⟩ y))  (HR : Hid (wV (bL s) = .tuple #[.agg #[.int .i64 3, .int .i64 n], .int .i64 0])) : Calls Tryd.prog 6 #[.string s] w (WdQ s w) := by
  have hix : ∀ (g cap : Nat) (W : World), (Instr.indexAt 45 (.slice (some ⟨g, 0, none⟩) 2 cap) (.int .i64 0)).run Tryd.prog W = .ok (.pointer (some ⟨g, 0, none⟩)) W := fun g cap W => by
    rw [run_indexAt_slice W 45 ⟨g, 0, none⟩ 2 cap .i64 0 (by kernel_rfl), if_pos (by omega)]
    rfl
  go_enter Tryd.func6, Tryd.ntmps6
  go_wp2_with (go_at_call 17; refine (HC.out _).mono ?_; rintro e w1 ⟨g, cap, rfl, hg1, hg2, c0, c1, hb⟩; have hsz : w.heap.size < w1.heap.size := Nat.lt_of_lt_of_le (by simp) hb.size; have q0 : w1.cell? ⟨w.heap.size, 0, none⟩ = some (.int .i64 0) := (hb.cell (p := ⟨w.heap.size, 0, none⟩) (by first | assumption | simp)).trans (by first | assumption | simp); have f0 : w1.frozen? ⟨w.heap.size, 0, none⟩ = false := (hb.frozen (p := ⟨w.heap.size, 0, none⟩) (by first | assumption | simp)).trans (World.frozen?_alloc_at _ _ _ _ rfl); have q1 : w1.cell? ⟨w.heap.size, 1, none⟩ = some (.int .i64 0) := (hb.cell (p := ⟨w.heap.size, 1, none⟩) (by first | assumption | simp)).trans (by first | assumption | simp); have f1 : w1.frozen? ⟨w.heap.size, 1, none⟩ = false := (hb.frozen (p := ⟨w.heap.size, 1, none⟩) (by first | assumption | simp)).trans (World.frozen?_alloc_at _ _ _ _ rfl); have hgn : ¬ g = w1.heap.size := (by omega); have hgn2 : ¬ g = w1.heap.size + 1 := (by omega); have hgn3 : ¬ g = w1.heap.size + 1 + 1 := (by omega); have hg3 : g < w1.heap.size + 1 := (by omega); have hsz2 : w.heap.size < w1.heap.size + 1 := (by omega); have hsz3 : w.heap.size < w1.heap.size + 1 + 1 := (by omega); have hg4 : g < w1.heap.size + 1 + 1 := (by omega); have hgm : ¬ g = w.heap.size := (by simp at hg1; omega); have hW : Below w.heap.size w w1 := Below.trans (bA (Below.refl _ _) _) (hb.mono (by simp)); have d1 := c1 rfl; clear hb hg1 c1)
  refine (lw_calls _).mono ?_
  rintro e w2 ⟨rfl, hw⟩
  subst hw
  unfold wordsA
  go_wp2_with (fail)
  refine wp_loop_rounds 7 ?_
  rw [rounds_succ]
  go_wp2_with (fail)
  go_quiet (fail)
  go_wp2_with (fail)
  rw [rounds_succ]
  go_wp2_with (fail)
  go_quiet (fail)
  go_wp2_with (fail)
  rw [rounds_succ]
  go_wp2_with (fail)
  go_quiet (fail)
  go_wp2_with (fail)
  rw [rounds_succ]
  go_wp2_with (fail)
  go_quiet (fail)
  go_wp2_with (fail)
  rw [rounds_succ]
  go_wp2_with (fail)
  go_quiet (fail)
  go_wp2_with (fail)
  rw [rounds_succ]
  go_wp2_with (fail)
  go_quiet (fail)
  go_wp2_with (fail)
  rw [rounds_succ]
  go_wp2_with (first | (go_at_call 19; refine (HM.out _).mono ?_; rintro e w4 ⟨rfl, hw⟩; subst hw) | (go_at_call 20; refine (sd_3 n _ (by omega) (by omega)).mono ?_; rintro e w5 ⟨rfl, hb5⟩; have b5 : Below w1.heap.size w1 w5 := Below.trans (by repeat (first | (with_reducible exact Below.refl _ _) | (with_reducible apply below_drewN) | (with_reducible refine Below.setCell ?_ (by simp; try omega) _) | (with_reducible refine bA' ?_ (by simp; try omega) _))) (hb5.mono (by first | (simp; done) | (simp; omega))); have q0' : w5.cell? ⟨w.heap.size, 0, none⟩ = some (.int .i64 0) := (b5.cell (p := ⟨w.heap.size, 0, none⟩) hsz).trans q0; have f0' : w5.frozen? ⟨w.heap.size, 0, none⟩ = false := (b5.frozen (p := ⟨w.heap.size, 0, none⟩) hsz).trans f0; have q1' : w5.cell? ⟨w.heap.size, 1, none⟩ = some (.int .i64 0) := (b5.cell (p := ⟨w.heap.size, 1, none⟩) hsz).trans q1; have f1' : w5.frozen? ⟨w.heap.size, 1, none⟩ = false := (b5.frozen (p := ⟨w.heap.size, 1, none⟩) hsz).trans f1; have e0 : w5.cell? ⟨w1.heap.size + 1 + 1, 0, none⟩ = some (.int .i64 3) := (hb5.cell (p := ⟨w1.heap.size + 1 + 1, 0, none⟩) (by first | (simp; done) | (simp; omega))).trans (by first | exact World.cell?_setCell_same _ _ _ (show _ = some (Value.int .i64 0) from ((World.cell?_alloc_at _ _ _ _ (by simp)).trans rfl)) | exact (World.cell?_setCell_other _ _ _ _ (by simp)).trans ((World.cell?_alloc_at _ _ _ _ (by simp)).trans rfl) | exact (World.cell?_setCell_other _ _ _ _ (by simp)).trans (World.cell?_setCell_same _ _ _ (show _ = some (Value.int .i64 0) from ((World.cell?_alloc_at _ _ _ _ (by simp)).trans rfl))) | exact World.cell?_setCell_same _ _ _ (show _ = some (Value.int .i64 0) from (World.cell?_setCell_other _ _ _ _ (by simp)).trans ((World.cell?_alloc_at _ _ _ _ (by simp)).trans rfl))); have e1 : w5.cell? ⟨w1.heap.size + 1 + 1, 1, none⟩ = some (.int .i64 ↑n) := (hb5.cell (p := ⟨w1.heap.size + 1 + 1, 1, none⟩) (by first | (simp; done) | (simp; omega))).trans (by first | exact World.cell?_setCell_same _ _ _ (show _ = some (Value.int .i64 0) from ((World.cell?_alloc_at _ _ _ _ (by simp)).trans rfl)) | exact (World.cell?_setCell_other _ _ _ _ (by simp)).trans ((World.cell?_alloc_at _ _ _ _ (by simp)).trans rfl) | exact (World.cell?_setCell_other _ _ _ _ (by simp)).trans (World.cell?_setCell_same _ _ _ (show _ = some (Value.int .i64 0) from ((World.cell?_alloc_at _ _ _ _ (by simp)).trans rfl))) | exact World.cell?_setCell_same _ _ _ (show _ = some (Value.int .i64 0) from (World.cell?_setCell_other _ _ _ _ (by simp)).trans ((World.cell?_alloc_at _ _ _ _ (by simp)).trans rfl))); have hs5 : w.heap.size < w5.heap.size := Nat.lt_of_lt_of_le hsz b5.size; have hW5 : Below w.heap.size w w5 := hW.trans (b5.mono hW.size); clear q0 q1 f0 f1 hb5 b5))
  exact bodyPost_ret (v := .tuple #[.agg #[.int .i64 3, .int .i64 n], .int .i64 0]) (by simp [results, Tryd.results6, go_sem, q0', q1']) rfl ⟨congrArg Ending.returned HR.out.symm, by repeat (first | (with_reducible exact hW5) | (with_reducible apply below_drewN) | (with_reducible refine Below.setCell ?_ (by first | exact Nat.le_refl _ | exact Nat.le_of_lt (by assumption)) _) | (with_reducible refine bA' ?_ (by exact Nat.le_of_lt (by assumption)) _))⟩
set_option maxHeartbeats 4000000 in
set_option maxRecDepth 100000 in
theorem mk_4 (s : ByteArray) (w : World) (n : Nat) (hn : n ≤ 999) (y : ByteArray) (HM : Hid (∀ w, Calls Tryd.prog 19 #[.string y] w fun e w' => e = .returned (.tuple #[.int .i64 n, .bool true]) ∧ w' = w)) (HC : Hid (Cu s 2 ⟨#[100, 114, 111, 112]⟩ y))  (HR : Hid (wV (bL s) = .tuple #[.agg #[.int .i64 4, .int .i64 n], .int .i64 0])) : Calls Tryd.prog 6 #[.string s] w (WdQ s w) := by
  have hix : ∀ (g cap : Nat) (W : World), (Instr.indexAt 45 (.slice (some ⟨g, 0, none⟩) 2 cap) (.int .i64 0)).run Tryd.prog W = .ok (.pointer (some ⟨g, 0, none⟩)) W := fun g cap W => by
    rw [run_indexAt_slice W 45 ⟨g, 0, none⟩ 2 cap .i64 0 (by kernel_rfl), if_pos (by omega)]
    rfl
  go_enter Tryd.func6, Tryd.ntmps6
  go_wp2_with (go_at_call 17; refine (HC.out _).mono ?_; rintro e w1 ⟨g, cap, rfl, hg1, hg2, c0, c1, hb⟩; have hsz : w.heap.size < w1.heap.size := Nat.lt_of_lt_of_le (by simp) hb.size; have q0 : w1.cell? ⟨w.heap.size, 0, none⟩ = some (.int .i64 0) := (hb.cell (p := ⟨w.heap.size, 0, none⟩) (by first | assumption | simp)).trans (by first | assumption | simp); have f0 : w1.frozen? ⟨w.heap.size, 0, none⟩ = false := (hb.frozen (p := ⟨w.heap.size, 0, none⟩) (by first | assumption | simp)).trans (World.frozen?_alloc_at _ _ _ _ rfl); have q1 : w1.cell? ⟨w.heap.size, 1, none⟩ = some (.int .i64 0) := (hb.cell (p := ⟨w.heap.size, 1, none⟩) (by first | assumption | simp)).trans (by first | assumption | simp); have f1 : w1.frozen? ⟨w.heap.size, 1, none⟩ = false := (hb.frozen (p := ⟨w.heap.size, 1, none⟩) (by first | assumption | simp)).trans (World.frozen?_alloc_at _ _ _ _ rfl); have hgn : ¬ g = w1.heap.size := (by omega); have hgn2 : ¬ g = w1.heap.size + 1 := (by omega); have hgn3 : ¬ g = w1.heap.size + 1 + 1 := (by omega); have hg3 : g < w1.heap.size + 1 := (by omega); have hsz2 : w.heap.size < w1.heap.size + 1 := (by omega); have hsz3 : w.heap.size < w1.heap.size + 1 + 1 := (by omega); have hg4 : g < w1.heap.size + 1 + 1 := (by omega); have hgm : ¬ g = w.heap.size := (by simp at hg1; omega); have hW : Below w.heap.size w w1 := Below.trans (bA (Below.refl _ _) _) (hb.mono (by simp)); have d1 := c1 rfl; clear hb hg1 c1)
  refine (lw_calls _).mono ?_
  rintro e w2 ⟨rfl, hw⟩
  subst hw
  unfold wordsA
  go_wp2_with (fail)
  refine wp_loop_rounds 7 ?_
  rw [rounds_succ]
  go_wp2_with (fail)
  go_quiet (fail)
  go_wp2_with (fail)
  rw [rounds_succ]
  go_wp2_with (fail)
  go_quiet (fail)
  go_wp2_with (fail)
  rw [rounds_succ]
  go_wp2_with (fail)
  go_quiet (fail)
  go_wp2_with (fail)
  rw [rounds_succ]
  go_wp2_with (fail)
  go_quiet (fail)
  go_wp2_with (fail)
  rw [rounds_succ]
  go_wp2_with (fail)
  go_quiet (fail)
  go_wp2_with (fail)
  rw [rounds_succ]
  go_wp2_with (fail)
  go_quiet (fail)
  go_wp2_with (fail)
  rw [rounds_succ]
  go_wp2_with (first | (go_at_call 19; refine (HM.out _).mono ?_; rintro e w4 ⟨rfl, hw⟩; subst hw) | (go_at_call 20; refine (sd_4 n _ (by omega) (by omega)).mono ?_; rintro e w5 ⟨rfl, hb5⟩; have b5 : Below w1.heap.size w1 w5 := Below.trans (by repeat (first | (with_reducible exact Below.refl _ _) | (with_reducible apply below_drewN) | (with_reducible refine Below.setCell ?_ (by simp; try omega) _) | (with_reducible refine bA' ?_ (by simp; try omega) _))) (hb5.mono (by first | (simp; done) | (simp; omega))); have q0' : w5.cell? ⟨w.heap.size, 0, none⟩ = some (.int .i64 0) := (b5.cell (p := ⟨w.heap.size, 0, none⟩) hsz).trans q0; have f0' : w5.frozen? ⟨w.heap.size, 0, none⟩ = false := (b5.frozen (p := ⟨w.heap.size, 0, none⟩) hsz).trans f0; have q1' : w5.cell? ⟨w.heap.size, 1, none⟩ = some (.int .i64 0) := (b5.cell (p := ⟨w.heap.size, 1, none⟩) hsz).trans q1; have f1' : w5.frozen? ⟨w.heap.size, 1, none⟩ = false := (b5.frozen (p := ⟨w.heap.size, 1, none⟩) hsz).trans f1; have e0 : w5.cell? ⟨w1.heap.size + 1 + 1, 0, none⟩ = some (.int .i64 4) := (hb5.cell (p := ⟨w1.heap.size + 1 + 1, 0, none⟩) (by first | (simp; done) | (simp; omega))).trans (by first | exact World.cell?_setCell_same _ _ _ (show _ = some (Value.int .i64 0) from ((World.cell?_alloc_at _ _ _ _ (by simp)).trans rfl)) | exact (World.cell?_setCell_other _ _ _ _ (by simp)).trans ((World.cell?_alloc_at _ _ _ _ (by simp)).trans rfl) | exact (World.cell?_setCell_other _ _ _ _ (by simp)).trans (World.cell?_setCell_same _ _ _ (show _ = some (Value.int .i64 0) from ((World.cell?_alloc_at _ _ _ _ (by simp)).trans rfl))) | exact World.cell?_setCell_same _ _ _ (show _ = some (Value.int .i64 0) from (World.cell?_setCell_other _ _ _ _ (by simp)).trans ((World.cell?_alloc_at _ _ _ _ (by simp)).trans rfl))); have e1 : w5.cell? ⟨w1.heap.size + 1 + 1, 1, none⟩ = some (.int .i64 ↑n) := (hb5.cell (p := ⟨w1.heap.size + 1 + 1, 1, none⟩) (by first | (simp; done) | (simp; omega))).trans (by first | exact World.cell?_setCell_same _ _ _ (show _ = some (Value.int .i64 0) from ((World.cell?_alloc_at _ _ _ _ (by simp)).trans rfl)) | exact (World.cell?_setCell_other _ _ _ _ (by simp)).trans ((World.cell?_alloc_at _ _ _ _ (by simp)).trans rfl) | exact (World.cell?_setCell_other _ _ _ _ (by simp)).trans (World.cell?_setCell_same _ _ _ (show _ = some (Value.int .i64 0) from ((World.cell?_alloc_at _ _ _ _ (by simp)).trans rfl))) | exact World.cell?_setCell_same _ _ _ (show _ = some (Value.int .i64 0) from (World.cell?_setCell_other _ _ _ _ (by simp)).trans ((World.cell?_alloc_at _ _ _ _ (by simp)).trans rfl))); have hs5 : w.heap.size < w5.heap.size := Nat.lt_of_lt_of_le hsz b5.size; have hW5 : Below w.heap.size w w5 := hW.trans (b5.mono hW.size); clear q0 q1 f0 f1 hb5 b5))
  exact bodyPost_ret (v := .tuple #[.agg #[.int .i64 4, .int .i64 n], .int .i64 0]) (by simp [results, Tryd.results6, go_sem, q0', q1']) rfl ⟨congrArg Ending.returned HR.out.symm, by repeat (first | (with_reducible exact hW5) | (with_reducible apply below_drewN) | (with_reducible refine Below.setCell ?_ (by first | exact Nat.le_refl _ | exact Nat.le_of_lt (by assumption)) _) | (with_reducible refine bA' ?_ (by exact Nat.le_of_lt (by assumption)) _))⟩
set_option maxHeartbeats 4000000 in
set_option maxRecDepth 100000 in
theorem mk_5 (s : ByteArray) (w : World) (y : ByteArray) (HC : Hid (Cu s 1 ⟨#[115, 97, 118, 101]⟩ y))  (HR : Hid (wV (bL s) = .tuple #[.agg #[.int .i64 5, .int .i64 0], .int .i64 0])) : Calls Tryd.prog 6 #[.string s] w (WdQ s w) := by
  have hix : ∀ (g cap : Nat) (W : World), (Instr.indexAt 45 (.slice (some ⟨g, 0, none⟩) 1 cap) (.int .i64 0)).run Tryd.prog W = .ok (.pointer (some ⟨g, 0, none⟩)) W := fun g cap W => by
    rw [run_indexAt_slice W 45 ⟨g, 0, none⟩ 1 cap .i64 0 (by kernel_rfl), if_pos (by omega)]
    rfl
  go_enter Tryd.func6, Tryd.ntmps6
  go_wp2_with (go_at_call 17; refine (HC.out _).mono ?_; rintro e w1 ⟨g, cap, rfl, hg1, hg2, c0, c1, hb⟩; have hsz : w.heap.size < w1.heap.size := Nat.lt_of_lt_of_le (by simp) hb.size; have q0 : w1.cell? ⟨w.heap.size, 0, none⟩ = some (.int .i64 0) := (hb.cell (p := ⟨w.heap.size, 0, none⟩) (by first | assumption | simp)).trans (by first | assumption | simp); have f0 : w1.frozen? ⟨w.heap.size, 0, none⟩ = false := (hb.frozen (p := ⟨w.heap.size, 0, none⟩) (by first | assumption | simp)).trans (World.frozen?_alloc_at _ _ _ _ rfl); have q1 : w1.cell? ⟨w.heap.size, 1, none⟩ = some (.int .i64 0) := (hb.cell (p := ⟨w.heap.size, 1, none⟩) (by first | assumption | simp)).trans (by first | assumption | simp); have f1 : w1.frozen? ⟨w.heap.size, 1, none⟩ = false := (hb.frozen (p := ⟨w.heap.size, 1, none⟩) (by first | assumption | simp)).trans (World.frozen?_alloc_at _ _ _ _ rfl); have hgn : ¬ g = w1.heap.size := (by omega); have hgn2 : ¬ g = w1.heap.size + 1 := (by omega); have hgn3 : ¬ g = w1.heap.size + 1 + 1 := (by omega); have hg3 : g < w1.heap.size + 1 := (by omega); have hsz2 : w.heap.size < w1.heap.size + 1 := (by omega); have hsz3 : w.heap.size < w1.heap.size + 1 + 1 := (by omega); have hg4 : g < w1.heap.size + 1 + 1 := (by omega); have hgm : ¬ g = w.heap.size := (by simp at hg1; omega); have hW : Below w.heap.size w w1 := Below.trans (bA (Below.refl _ _) _) (hb.mono (by simp)); clear hb hg1 c1)
  refine (lw_calls _).mono ?_
  rintro e w2 ⟨rfl, hw⟩
  subst hw
  unfold wordsA
  go_wp2_with (fail)
  refine wp_loop_rounds 7 ?_
  rw [rounds_succ]
  go_wp2_with (fail)
  go_quiet (fail)
  go_wp2_with (fail)
  rw [rounds_succ]
  go_wp2_with (fail)
  go_quiet (fail)
  go_wp2_with (fail)
  rw [rounds_succ]
  go_wp2_with (fail)
  go_quiet (fail)
  go_wp2_with (fail)
  rw [rounds_succ]
  go_wp2_with (fail)
  go_quiet (fail)
  go_wp2_with (fail)
  rw [rounds_succ]
  go_wp2_with (fail)
  go_quiet (fail)
  go_wp2_with (fail)
  rw [rounds_succ]
  go_wp2_with (fail)
  go_quiet (fail)
  go_wp2_with (fail)
  rw [rounds_succ]
  go_wp2_with (first | (go_at_call 20; refine (sd_5 _).mono ?_; rintro e w5 ⟨rfl, hb5⟩; have b5 : Below w1.heap.size w1 w5 := Below.trans (by repeat (first | (with_reducible exact Below.refl _ _) | (with_reducible apply below_drewN) | (with_reducible refine Below.setCell ?_ (by simp; try omega) _) | (with_reducible refine bA' ?_ (by simp; try omega) _))) (hb5.mono (by first | (simp; done) | (simp; omega))); have q0' : w5.cell? ⟨w.heap.size, 0, none⟩ = some (.int .i64 0) := (b5.cell (p := ⟨w.heap.size, 0, none⟩) hsz).trans q0; have f0' : w5.frozen? ⟨w.heap.size, 0, none⟩ = false := (b5.frozen (p := ⟨w.heap.size, 0, none⟩) hsz).trans f0; have q1' : w5.cell? ⟨w.heap.size, 1, none⟩ = some (.int .i64 0) := (b5.cell (p := ⟨w.heap.size, 1, none⟩) hsz).trans q1; have f1' : w5.frozen? ⟨w.heap.size, 1, none⟩ = false := (b5.frozen (p := ⟨w.heap.size, 1, none⟩) hsz).trans f1; have e0 : w5.cell? ⟨w1.heap.size + 1 + 1, 0, none⟩ = some (.int .i64 5) := (hb5.cell (p := ⟨w1.heap.size + 1 + 1, 0, none⟩) (by first | (simp; done) | (simp; omega))).trans (by first | exact World.cell?_setCell_same _ _ _ (show _ = some (Value.int .i64 0) from ((World.cell?_alloc_at _ _ _ _ (by simp)).trans rfl)) | exact (World.cell?_setCell_other _ _ _ _ (by simp)).trans ((World.cell?_alloc_at _ _ _ _ (by simp)).trans rfl) | exact (World.cell?_setCell_other _ _ _ _ (by simp)).trans (World.cell?_setCell_same _ _ _ (show _ = some (Value.int .i64 0) from ((World.cell?_alloc_at _ _ _ _ (by simp)).trans rfl))) | exact World.cell?_setCell_same _ _ _ (show _ = some (Value.int .i64 0) from (World.cell?_setCell_other _ _ _ _ (by simp)).trans ((World.cell?_alloc_at _ _ _ _ (by simp)).trans rfl))); have e1 : w5.cell? ⟨w1.heap.size + 1 + 1, 1, none⟩ = some (.int .i64 0) := (hb5.cell (p := ⟨w1.heap.size + 1 + 1, 1, none⟩) (by first | (simp; done) | (simp; omega))).trans (by first | exact World.cell?_setCell_same _ _ _ (show _ = some (Value.int .i64 0) from ((World.cell?_alloc_at _ _ _ _ (by simp)).trans rfl)) | exact (World.cell?_setCell_other _ _ _ _ (by simp)).trans ((World.cell?_alloc_at _ _ _ _ (by simp)).trans rfl) | exact (World.cell?_setCell_other _ _ _ _ (by simp)).trans (World.cell?_setCell_same _ _ _ (show _ = some (Value.int .i64 0) from ((World.cell?_alloc_at _ _ _ _ (by simp)).trans rfl))) | exact World.cell?_setCell_same _ _ _ (show _ = some (Value.int .i64 0) from (World.cell?_setCell_other _ _ _ _ (by simp)).trans ((World.cell?_alloc_at _ _ _ _ (by simp)).trans rfl))); have hs5 : w.heap.size < w5.heap.size := Nat.lt_of_lt_of_le hsz b5.size; have hW5 : Below w.heap.size w w5 := hW.trans (b5.mono hW.size); clear q0 q1 f0 f1 hb5 b5))
  exact bodyPost_ret (v := .tuple #[.agg #[.int .i64 5, .int .i64 0], .int .i64 0]) (by simp [results, Tryd.results6, go_sem, q0', q1']) rfl ⟨congrArg Ending.returned HR.out.symm, by repeat (first | (with_reducible exact hW5) | (with_reducible apply below_drewN) | (with_reducible refine Below.setCell ?_ (by first | exact Nat.le_refl _ | exact Nat.le_of_lt (by assumption)) _) | (with_reducible refine bA' ?_ (by exact Nat.le_of_lt (by assumption)) _))⟩
set_option maxHeartbeats 4000000 in
set_option maxRecDepth 100000 in
theorem mk_6 (s : ByteArray) (w : World) (y : ByteArray) (HC : Hid (Cu s 1 ⟨#[99, 114, 97, 115, 104]⟩ y))  (HR : Hid (wV (bL s) = .tuple #[.agg #[.int .i64 6, .int .i64 0], .int .i64 0])) : Calls Tryd.prog 6 #[.string s] w (WdQ s w) := by
  have hix : ∀ (g cap : Nat) (W : World), (Instr.indexAt 45 (.slice (some ⟨g, 0, none⟩) 1 cap) (.int .i64 0)).run Tryd.prog W = .ok (.pointer (some ⟨g, 0, none⟩)) W := fun g cap W => by
    rw [run_indexAt_slice W 45 ⟨g, 0, none⟩ 1 cap .i64 0 (by kernel_rfl), if_pos (by omega)]
    rfl
  go_enter Tryd.func6, Tryd.ntmps6
  go_wp2_with (go_at_call 17; refine (HC.out _).mono ?_; rintro e w1 ⟨g, cap, rfl, hg1, hg2, c0, c1, hb⟩; have hsz : w.heap.size < w1.heap.size := Nat.lt_of_lt_of_le (by simp) hb.size; have q0 : w1.cell? ⟨w.heap.size, 0, none⟩ = some (.int .i64 0) := (hb.cell (p := ⟨w.heap.size, 0, none⟩) (by first | assumption | simp)).trans (by first | assumption | simp); have f0 : w1.frozen? ⟨w.heap.size, 0, none⟩ = false := (hb.frozen (p := ⟨w.heap.size, 0, none⟩) (by first | assumption | simp)).trans (World.frozen?_alloc_at _ _ _ _ rfl); have q1 : w1.cell? ⟨w.heap.size, 1, none⟩ = some (.int .i64 0) := (hb.cell (p := ⟨w.heap.size, 1, none⟩) (by first | assumption | simp)).trans (by first | assumption | simp); have f1 : w1.frozen? ⟨w.heap.size, 1, none⟩ = false := (hb.frozen (p := ⟨w.heap.size, 1, none⟩) (by first | assumption | simp)).trans (World.frozen?_alloc_at _ _ _ _ rfl); have hgn : ¬ g = w1.heap.size := (by omega); have hgn2 : ¬ g = w1.heap.size + 1 := (by omega); have hgn3 : ¬ g = w1.heap.size + 1 + 1 := (by omega); have hg3 : g < w1.heap.size + 1 := (by omega); have hsz2 : w.heap.size < w1.heap.size + 1 := (by omega); have hsz3 : w.heap.size < w1.heap.size + 1 + 1 := (by omega); have hg4 : g < w1.heap.size + 1 + 1 := (by omega); have hgm : ¬ g = w.heap.size := (by simp at hg1; omega); have hW : Below w.heap.size w w1 := Below.trans (bA (Below.refl _ _) _) (hb.mono (by simp)); clear hb hg1 c1)
  refine (lw_calls _).mono ?_
  rintro e w2 ⟨rfl, hw⟩
  subst hw
  unfold wordsA
  go_wp2_with (fail)
  refine wp_loop_rounds 7 ?_
  rw [rounds_succ]
  go_wp2_with (fail)
  go_quiet (fail)
  go_wp2_with (fail)
  rw [rounds_succ]
  go_wp2_with (fail)
  go_quiet (fail)
  go_wp2_with (fail)
  rw [rounds_succ]
  go_wp2_with (fail)
  go_quiet (fail)
  go_wp2_with (fail)
  rw [rounds_succ]
  go_wp2_with (fail)
  go_quiet (fail)
  go_wp2_with (fail)
  rw [rounds_succ]
  go_wp2_with (fail)
  go_quiet (fail)
  go_wp2_with (fail)
  rw [rounds_succ]
  go_wp2_with (fail)
  go_quiet (fail)
  go_wp2_with (fail)
  rw [rounds_succ]
  go_wp2_with (first | (go_at_call 20; refine (sd_6 _).mono ?_; rintro e w5 ⟨rfl, hb5⟩; have b5 : Below w1.heap.size w1 w5 := Below.trans (by repeat (first | (with_reducible exact Below.refl _ _) | (with_reducible apply below_drewN) | (with_reducible refine Below.setCell ?_ (by simp; try omega) _) | (with_reducible refine bA' ?_ (by simp; try omega) _))) (hb5.mono (by first | (simp; done) | (simp; omega))); have q0' : w5.cell? ⟨w.heap.size, 0, none⟩ = some (.int .i64 0) := (b5.cell (p := ⟨w.heap.size, 0, none⟩) hsz).trans q0; have f0' : w5.frozen? ⟨w.heap.size, 0, none⟩ = false := (b5.frozen (p := ⟨w.heap.size, 0, none⟩) hsz).trans f0; have q1' : w5.cell? ⟨w.heap.size, 1, none⟩ = some (.int .i64 0) := (b5.cell (p := ⟨w.heap.size, 1, none⟩) hsz).trans q1; have f1' : w5.frozen? ⟨w.heap.size, 1, none⟩ = false := (b5.frozen (p := ⟨w.heap.size, 1, none⟩) hsz).trans f1; have e0 : w5.cell? ⟨w1.heap.size + 1 + 1, 0, none⟩ = some (.int .i64 6) := (hb5.cell (p := ⟨w1.heap.size + 1 + 1, 0, none⟩) (by first | (simp; done) | (simp; omega))).trans (by first | exact World.cell?_setCell_same _ _ _ (show _ = some (Value.int .i64 0) from ((World.cell?_alloc_at _ _ _ _ (by simp)).trans rfl)) | exact (World.cell?_setCell_other _ _ _ _ (by simp)).trans ((World.cell?_alloc_at _ _ _ _ (by simp)).trans rfl) | exact (World.cell?_setCell_other _ _ _ _ (by simp)).trans (World.cell?_setCell_same _ _ _ (show _ = some (Value.int .i64 0) from ((World.cell?_alloc_at _ _ _ _ (by simp)).trans rfl))) | exact World.cell?_setCell_same _ _ _ (show _ = some (Value.int .i64 0) from (World.cell?_setCell_other _ _ _ _ (by simp)).trans ((World.cell?_alloc_at _ _ _ _ (by simp)).trans rfl))); have e1 : w5.cell? ⟨w1.heap.size + 1 + 1, 1, none⟩ = some (.int .i64 0) := (hb5.cell (p := ⟨w1.heap.size + 1 + 1, 1, none⟩) (by first | (simp; done) | (simp; omega))).trans (by first | exact World.cell?_setCell_same _ _ _ (show _ = some (Value.int .i64 0) from ((World.cell?_alloc_at _ _ _ _ (by simp)).trans rfl)) | exact (World.cell?_setCell_other _ _ _ _ (by simp)).trans ((World.cell?_alloc_at _ _ _ _ (by simp)).trans rfl) | exact (World.cell?_setCell_other _ _ _ _ (by simp)).trans (World.cell?_setCell_same _ _ _ (show _ = some (Value.int .i64 0) from ((World.cell?_alloc_at _ _ _ _ (by simp)).trans rfl))) | exact World.cell?_setCell_same _ _ _ (show _ = some (Value.int .i64 0) from (World.cell?_setCell_other _ _ _ _ (by simp)).trans ((World.cell?_alloc_at _ _ _ _ (by simp)).trans rfl))); have hs5 : w.heap.size < w5.heap.size := Nat.lt_of_lt_of_le hsz b5.size; have hW5 : Below w.heap.size w w5 := hW.trans (b5.mono hW.size); clear q0 q1 f0 f1 hb5 b5))
  exact bodyPost_ret (v := .tuple #[.agg #[.int .i64 6, .int .i64 0], .int .i64 0]) (by simp [results, Tryd.results6, go_sem, q0', q1']) rfl ⟨congrArg Ending.returned HR.out.symm, by repeat (first | (with_reducible exact hW5) | (with_reducible apply below_drewN) | (with_reducible refine Below.setCell ?_ (by first | exact Nat.le_refl _ | exact Nat.le_of_lt (by assumption)) _) | (with_reducible refine bA' ?_ (by exact Nat.le_of_lt (by assumption)) _))⟩
end Tx
end Go.Proofs.YtjbbljlefmgieaaDoor
end
