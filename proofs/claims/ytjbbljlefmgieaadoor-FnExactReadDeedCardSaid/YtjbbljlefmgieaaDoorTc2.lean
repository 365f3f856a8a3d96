/-
  Deeds: their texts, by the program. No condition.
-/
import Derived.Test.YtjbbljlefmgieaaDoorTb
noncomputable section
namespace Go.Proofs.YtjbbljlefmgieaaDoor
namespace Tx
open Go Go.RowKit
def dV (k a : Int) : Value := .agg #[.int .i64 k, .int .i64 a]
def okD (k a : Int) : Prop := 1 ≤ k ∧ k ≤ 6 ∧ 0 ≤ a ∧ a ≤ 999 ∧ (a = 0 ∨ (k ≠ 5 ∧ k ≠ 6))
set_option maxHeartbeats 1000000 in
set_option maxRecDepth 100000 in
theorem vd_true (k a : Int) (w : World) (h : okD k a) : Calls Tryd.prog 25 #[dV k a] w fun e w' => e = .returned (.bool true) ∧ w' = w.alloc (.cells #[.int .i64 k, .int .i64 a] 23) := by
  obtain ⟨h1, h2, h3, h4, h5⟩ := h
  unfold dV
  by_cases h0 : a = 0
  · subst h0
    go_enter Tryd.func25, Tryd.ntmps25
    go_wp2
    go_ret
    exact ⟨rfl, rfl⟩
  · obtain ⟨h6, h7⟩ : k ≠ 5 ∧ k ≠ 6 := h5.resolve_left h0
    go_enter Tryd.func25, Tryd.ntmps25
    go_wp2
    go_ret
    refine ⟨?_, rfl⟩
    simp [h0, h6, h7]
def wordsA : Array Value := #[.string ⟨#[]⟩, .string ⟨#[97, 115, 107]⟩, .string ⟨#[100, 101, 108, 105, 118, 101, 114]⟩, .string ⟨#[99, 111, 112, 121]⟩, .string ⟨#[100, 114, 111, 112]⟩, .string ⟨#[115, 97, 118, 101]⟩, .string ⟨#[99, 114, 97, 115, 104]⟩]
set_option maxHeartbeats 1000000 in
set_option maxRecDepth 100000 in
theorem words_calls (w : World) : Calls Tryd.prog 24 #[] w fun e w' => e = .returned (.slice (some ⟨w.heap.size, 0, none⟩) 7 7) ∧ w' = w.alloc (.cells wordsA 9) := by
  go_enter Tryd.func24, Tryd.ntmps24
  go_wp2_with fail
  go_ret
  exact ⟨rfl, rfl⟩
set_option maxHeartbeats 1000000 in
set_option maxRecDepth 100000 in
theorem mn_true (k : Int) (w : World) (h5 : k ≠ 5) (h6 : k ≠ 6) : Calls Tryd.prog 41 #[.int .i64 k] w fun e w' => e = .returned (.bool true) ∧ w' = w := by
  go_enter Tryd.func41, Tryd.ntmps41
  go_wp2_with fail
  go_ret
  exact ⟨by simp [h5, h6], rfl⟩
set_option maxHeartbeats 1000000 in
set_option maxRecDepth 100000 in
theorem mn_false (k : Int) (w : World) (h : k = 5 ∨ k = 6) : Calls Tryd.prog 41 #[.int .i64 k] w fun e w' => e = .returned (.bool false) ∧ w' = w := by
  rcases h with rfl | rfl <;>
  · go_enter Tryd.func41, Tryd.ntmps41
    go_wp2_with fail
    go_ret
    exact ⟨rfl, rfl⟩
set_option maxHeartbeats 1000000 in
set_option maxRecDepth 100000 in
theorem impl_1 (a : Int) (w : World) (h0 : 0 ≤ a) (h1 : a ≤ 999) (ht : TabOk w) : Calls Tryd.prog 26 #[dV 1 a] w fun e w' => e = .returned (.string (⟨#[97, 115, 107]⟩ ++ (sp ++ decB a.toNat))) ∧ Below w.heap.size w w' := by
  unfold dV
  go_enter Tryd.func26, Tryd.ntmps26
  go_wp2_with (go_at_call 25; refine (vd_true 1 a _ ⟨by omega, by omega, h0, h1, .inr ⟨by omega, by omega⟩⟩).mono ?_; rintro e w1 ⟨rfl, rfl⟩)
  go_region_with (go_at_call 24; refine (words_calls _).mono ?_; rintro e w1 ⟨rfl, rfl⟩; unfold wordsA)
  all_goals go_wp2_with (first
    | (go_at_call 41; refine (mn_true 1 _ (by omega) (by omega)).mono ?_; rintro e w1 ⟨rfl, rfl⟩)
    | (go_at_call 34; refine (line_calls _ a _ _ (cell_last _ _ _ _ (by simp)) h0 (by omega) (by decide) (tab_below ht (by repeat (first | exact Below.refl _ _ | apply Below.drew | apply bA)))).mono ?_; rintro e w1 ⟨rfl, hb⟩))
  all_goals go_ret
  all_goals refine ⟨rfl, ?_⟩
  all_goals exact (Below.trans (by repeat (first | exact Below.refl _ _ | apply Below.drew | apply bA)) (hb.mono (by simp; try omega)))
set_option maxHeartbeats 1000000 in
set_option maxRecDepth 100000 in
theorem impl_2 (a : Int) (w : World) (h0 : 0 ≤ a) (h1 : a ≤ 999) (ht : TabOk w) : Calls Tryd.prog 26 #[dV 2 a] w fun e w' => e = .returned (.string (⟨#[100, 101, 108, 105, 118, 101, 114]⟩ ++ (sp ++ decB a.toNat))) ∧ Below w.heap.size w w' := by
  unfold dV
  go_enter Tryd.func26, Tryd.ntmps26
  go_wp2_with (go_at_call 25; refine (vd_true 2 a _ ⟨by omega, by omega, h0, h1, .inr ⟨by omega, by omega⟩⟩).mono ?_; rintro e w1 ⟨rfl, rfl⟩)
  go_region_with (go_at_call 24; refine (words_calls _).mono ?_; rintro e w1 ⟨rfl, rfl⟩; unfold wordsA)
  all_goals go_wp2_with (first
    | (go_at_call 41; refine (mn_true 2 _ (by omega) (by omega)).mono ?_; rintro e w1 ⟨rfl, rfl⟩)
    | (go_at_call 34; refine (line_calls _ a _ _ (cell_last _ _ _ _ (by simp)) h0 (by omega) (by decide) (tab_below ht (by repeat (first | exact Below.refl _ _ | apply Below.drew | apply bA)))).mono ?_; rintro e w1 ⟨rfl, hb⟩))
  all_goals go_ret
  all_goals refine ⟨rfl, ?_⟩
  all_goals exact (Below.trans (by repeat (first | exact Below.refl _ _ | apply Below.drew | apply bA)) (hb.mono (by simp; try omega)))
set_option maxHeartbeats 1000000 in
set_option maxRecDepth 100000 in
theorem impl_3 (a : Int) (w : World) (h0 : 0 ≤ a) (h1 : a ≤ 999) (ht : TabOk w) : Calls Tryd.prog 26 #[dV 3 a] w fun e w' => e = .returned (.string (⟨#[99, 111, 112, 121]⟩ ++ (sp ++ decB a.toNat))) ∧ Below w.heap.size w w' := by
  unfold dV
  go_enter Tryd.func26, Tryd.ntmps26
  go_wp2_with (go_at_call 25; refine (vd_true 3 a _ ⟨by omega, by omega, h0, h1, .inr ⟨by omega, by omega⟩⟩).mono ?_; rintro e w1 ⟨rfl, rfl⟩)
  go_region_with (go_at_call 24; refine (words_calls _).mono ?_; rintro e w1 ⟨rfl, rfl⟩; unfold wordsA)
  all_goals go_wp2_with (first
    | (go_at_call 41; refine (mn_true 3 _ (by omega) (by omega)).mono ?_; rintro e w1 ⟨rfl, rfl⟩)
    | (go_at_call 34; refine (line_calls _ a _ _ (cell_last _ _ _ _ (by simp)) h0 (by omega) (by decide) (tab_below ht (by repeat (first | exact Below.refl _ _ | apply Below.drew | apply bA)))).mono ?_; rintro e w1 ⟨rfl, hb⟩))
  all_goals go_ret
  all_goals refine ⟨rfl, ?_⟩
  all_goals exact (Below.trans (by repeat (first | exact Below.refl _ _ | apply Below.drew | apply bA)) (hb.mono (by simp; try omega)))
set_option maxHeartbeats 1000000 in
set_option maxRecDepth 100000 in
theorem impl_4 (a : Int) (w : World) (h0 : 0 ≤ a) (h1 : a ≤ 999) (ht : TabOk w) : Calls Tryd.prog 26 #[dV 4 a] w fun e w' => e = .returned (.string (⟨#[100, 114, 111, 112]⟩ ++ (sp ++ decB a.toNat))) ∧ Below w.heap.size w w' := by
  unfold dV
  go_enter Tryd.func26, Tryd.ntmps26
  go_wp2_with (go_at_call 25; refine (vd_true 4 a _ ⟨by omega, by omega, h0, h1, .inr ⟨by omega, by omega⟩⟩).mono ?_; rintro e w1 ⟨rfl, rfl⟩)
  go_region_with (go_at_call 24; refine (words_calls _).mono ?_; rintro e w1 ⟨rfl, rfl⟩; unfold wordsA)
  all_goals go_wp2_with (first
    | (go_at_call 41; refine (mn_true 4 _ (by omega) (by omega)).mono ?_; rintro e w1 ⟨rfl, rfl⟩)
    | (go_at_call 34; refine (line_calls _ a _ _ (cell_last _ _ _ _ (by simp)) h0 (by omega) (by decide) (tab_below ht (by repeat (first | exact Below.refl _ _ | apply Below.drew | apply bA)))).mono ?_; rintro e w1 ⟨rfl, hb⟩))
  all_goals go_ret
  all_goals refine ⟨rfl, ?_⟩
  all_goals exact (Below.trans (by repeat (first | exact Below.refl _ _ | apply Below.drew | apply bA)) (hb.mono (by simp; try omega)))
set_option maxHeartbeats 1000000 in
set_option maxRecDepth 100000 in
theorem impl_5 (w : World)  (_ : TabOk w) : Calls Tryd.prog 26 #[dV 5 0] w fun e w' => e = .returned (.string (⟨#[115, 97, 118, 101]⟩)) ∧ Below w.heap.size w w' := by
  unfold dV
  go_enter Tryd.func26, Tryd.ntmps26
  go_wp2_with (go_at_call 25; refine (vd_true 5 0 _ ⟨by omega, by omega, by omega, by omega, .inl rfl⟩).mono ?_; rintro e w1 ⟨rfl, rfl⟩)
  go_region_with (go_at_call 24; refine (words_calls _).mono ?_; rintro e w1 ⟨rfl, rfl⟩; unfold wordsA)
  all_goals go_wp2_with (go_at_call 41; refine (mn_false 5 _ (by omega)).mono ?_; rintro e w1 ⟨rfl, rfl⟩)
  all_goals go_ret
  all_goals refine ⟨rfl, ?_⟩
  all_goals (repeat (first | exact Below.refl _ _ | apply Below.drew | apply bA))
set_option maxHeartbeats 1000000 in
set_option maxRecDepth 100000 in
theorem impl_6 (w : World)  (_ : TabOk w) : Calls Tryd.prog 26 #[dV 6 0] w fun e w' => e = .returned (.string (⟨#[99, 114, 97, 115, 104]⟩)) ∧ Below w.heap.size w w' := by
  unfold dV
  go_enter Tryd.func26, Tryd.ntmps26
  go_wp2_with (go_at_call 25; refine (vd_true 6 0 _ ⟨by omega, by omega, by omega, by omega, .inl rfl⟩).mono ?_; rintro e w1 ⟨rfl, rfl⟩)
  go_region_with (go_at_call 24; refine (words_calls _).mono ?_; rintro e w1 ⟨rfl, rfl⟩; unfold wordsA)
  all_goals go_wp2_with (go_at_call 41; refine (mn_false 6 _ (by omega)).mono ?_; rintro e w1 ⟨rfl, rfl⟩)
  all_goals go_ret
  all_goals refine ⟨rfl, ?_⟩
  all_goals (repeat (first | exact Below.refl _ _ | apply Below.drew | apply bA))
end Tx
end Go.Proofs.YtjbbljlefmgieaaDoor
end
