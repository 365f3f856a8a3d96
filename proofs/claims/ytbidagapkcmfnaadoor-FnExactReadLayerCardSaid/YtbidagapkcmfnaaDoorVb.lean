/-
  Curves: their texts, by the program, and by the model once more. No condition.
-/
import Derived.Test.YtbidagapkcmfnaaDoorVa
noncomputable section
namespace Go.Proofs.YtbidagapkcmfnaaDoor
namespace Ty
open Tx Go Go.RowKit
/-- a curve's value -/
def cvV (z : Nat → Nat) : Value := .agg #[.float .f32 (z 0), .float .f32 (z 1), .float .f32 (z 2), .float .f32 (z 3), .float .f32 (z 4), .float .f32 (z 5), .float .f32 (z 6), .float .f32 (z 7), .float .f32 (z 8), .float .f32 (z 9), .float .f32 (z 10), .float .f32 (z 11), .float .f32 (z 12), .float .f32 (z 13), .float .f32 (z 14), .float .f32 (z 15)]
/-- the first i of sixteen texts lie in a block -/
def Txt (z : Nat → Nat) (b i : Nat) (w : World) : Prop := b < w.heap.size ∧ (∀ j, w.frozen? ⟨b, j, none⟩ = false) ∧ ∀ j, j < 16 → w.cell? ⟨b, j, none⟩ = some (.string (if j < i then hx (z j) else ⟨#[]⟩))
theorem txt_below {z : Nat → Nat} {b i : Nat} {w w' : World} (hb : Below w.heap.size w w') (h : Txt z b i w) : Txt z b i w' :=
  ⟨Nat.lt_of_lt_of_le h.1 hb.size, fun j => (hb.frozen (p := ⟨b, j, none⟩) h.1).trans (h.2.1 j), fun j hj => (hb.cell (p := ⟨b, j, none⟩) h.1).trans (h.2.2 j hj)⟩
theorem txt_set {z : Nat → Nat} {b i : Nat} {w : World} (hi : i < 16) (h : Txt z b i w) : Txt z b (i + 1) (w.setCell ⟨b, i, none⟩ (.string (hx (z i)))) := by
  refine ⟨by rw [World.size_setCell]; exact h.1, fun j => (World.frozen?_setCell _ _ _ _).trans (h.2.1 j), fun j hj => ?_⟩
  by_cases e : j = i
  · subst e
    rw [if_pos (by omega)]
    exact World.cell?_setCell_same _ _ _ (h.2.2 j hj)
  · rw [World.cell?_setCell_other _ _ _ _ (by intro h; cases h; exact e rfl), h.2.2 j hj]
    by_cases l : j < i
    · rw [if_pos l, if_pos (by omega)]
    · rw [if_neg l, if_neg (by omega)]
theorem txt_new {z : Nat → Nat} {b : Nat} {w : World} {t : TypeId} (hb : b = w.heap.size) : Txt z b 0 (w.alloc (.cells #[.string ⟨#[]⟩, .string ⟨#[]⟩, .string ⟨#[]⟩, .string ⟨#[]⟩, .string ⟨#[]⟩, .string ⟨#[]⟩, .string ⟨#[]⟩, .string ⟨#[]⟩, .string ⟨#[]⟩, .string ⟨#[]⟩, .string ⟨#[]⟩, .string ⟨#[]⟩, .string ⟨#[]⟩, .string ⟨#[]⟩, .string ⟨#[]⟩, .string ⟨#[]⟩] t)) := by
  subst hb
  refine ⟨by simp, fun j => World.frozen?_alloc_at _ _ _ _ rfl, fun j hj => ?_⟩
  rw [World.cell?_alloc_at (hn := rfl), if_neg (by omega)]
  match j, hj with
  | 0, _ | 1, _ | 2, _ | 3, _ | 4, _ | 5, _ | 6, _ | 7, _ | 8, _ | 9, _ | 10, _ | 11, _ | 12, _ | 13, _ | 14, _ | 15, _ => rfl
  | k + 16, h => exact absurd h (by omega)
theorem txt_at {z : Nat → Nat} {b i : Nat} {w : World} (hi : i < 16) (h : Txt z b i w) : w.cell? ⟨b, i, none⟩ = some (.string ⟨#[]⟩) := by rw [h.2.2 i hi, if_neg (by omega)]
theorem join16 (z : Nat → Nat) : (⟨(Lib.join ([hx (z 0), hx (z 1), hx (z 2), hx (z 3), hx (z 4), hx (z 5), hx (z 6), hx (z 7), hx (z 8), hx (z 9), hx (z 10), hx (z 11), hx (z 12), hx (z 13), hx (z 14), hx (z 15)].map (·.data.toList)) (⟨#[32]⟩ : ByteArray).data.toList).toArray⟩ : ByteArray) = rowT z 15 := by
  apply ByteArray.ext
  simp only [List.map_cons, List.map_nil, Lib.join_cons, Lib.joinTail, rowT, ByteArray.data_append]
  apply Array.ext'
  simp
theorem join16_len (z : Nat → Nat) : (Lib.join ([hx (z 0), hx (z 1), hx (z 2), hx (z 3), hx (z 4), hx (z 5), hx (z 6), hx (z 7), hx (z 8), hx (z 9), hx (z 10), hx (z 11), hx (z 12), hx (z 13), hx (z 14), hx (z 15)].map (·.data.toList)) (⟨#[32]⟩ : ByteArray).data.toList).length ≤ 140737488355328 := by
  have h := congrArg ByteArray.size (join16 z)
  rw [rowT_size] at h
  have h1 : (Lib.join ([hx (z 0), hx (z 1), hx (z 2), hx (z 3), hx (z 4), hx (z 5), hx (z 6), hx (z 7), hx (z 8), hx (z 9), hx (z 10), hx (z 11), hx (z 12), hx (z 13), hx (z 14), hx (z 15)].map (·.data.toList)) (⟨#[32]⟩ : ByteArray).data.toList).length = 9 * 15 + 8 := by rw [← h]; simp [ByteArray.size]
  omega
set_option maxHeartbeats 8000000 in
set_option maxRecDepth 100000 in
theorem cimpl_calls (z : Nat → Nat) (hz : ∀ i, z i < 4294967296) (w : World) (ht : TabOk w) : Calls Tryd.prog 35 #[cvV z] w fun e w' => e = .returned (.string (rowT z 15)) ∧ Below w.heap.size w w' := by
  unfold cvV
  have x0 : ∀ W : World, (Instr.index 29 (.agg #[.float .f32 (z 0), .float .f32 (z 1), .float .f32 (z 2), .float .f32 (z 3), .float .f32 (z 4), .float .f32 (z 5), .float .f32 (z 6), .float .f32 (z 7), .float .f32 (z 8), .float .f32 (z 9), .float .f32 (z 10), .float .f32 (z 11), .float .f32 (z 12), .float .f32 (z 13), .float .f32 (z 14), .float .f32 (z 15)]) (.int .i64 0)).run Tryd.prog W = .ok (.float .f32 (z 0)) W := fun _ => by kernel_rfl
  have x1 : ∀ W : World, (Instr.index 29 (.agg #[.float .f32 (z 0), .float .f32 (z 1), .float .f32 (z 2), .float .f32 (z 3), .float .f32 (z 4), .float .f32 (z 5), .float .f32 (z 6), .float .f32 (z 7), .float .f32 (z 8), .float .f32 (z 9), .float .f32 (z 10), .float .f32 (z 11), .float .f32 (z 12), .float .f32 (z 13), .float .f32 (z 14), .float .f32 (z 15)]) (.int .i64 1)).run Tryd.prog W = .ok (.float .f32 (z 1)) W := fun _ => by kernel_rfl
  have x2 : ∀ W : World, (Instr.index 29 (.agg #[.float .f32 (z 0), .float .f32 (z 1), .float .f32 (z 2), .float .f32 (z 3), .float .f32 (z 4), .float .f32 (z 5), .float .f32 (z 6), .float .f32 (z 7), .float .f32 (z 8), .float .f32 (z 9), .float .f32 (z 10), .float .f32 (z 11), .float .f32 (z 12), .float .f32 (z 13), .float .f32 (z 14), .float .f32 (z 15)]) (.int .i64 2)).run Tryd.prog W = .ok (.float .f32 (z 2)) W := fun _ => by kernel_rfl
  have x3 : ∀ W : World, (Instr.index 29 (.agg #[.float .f32 (z 0), .float .f32 (z 1), .float .f32 (z 2), .float .f32 (z 3), .float .f32 (z 4), .float .f32 (z 5), .float .f32 (z 6), .float .f32 (z 7), .float .f32 (z 8), .float .f32 (z 9), .float .f32 (z 10), .float .f32 (z 11), .float .f32 (z 12), .float .f32 (z 13), .float .f32 (z 14), .float .f32 (z 15)]) (.int .i64 3)).run Tryd.prog W = .ok (.float .f32 (z 3)) W := fun _ => by kernel_rfl
  have x4 : ∀ W : World, (Instr.index 29 (.agg #[.float .f32 (z 0), .float .f32 (z 1), .float .f32 (z 2), .float .f32 (z 3), .float .f32 (z 4), .float .f32 (z 5), .float .f32 (z 6), .float .f32 (z 7), .float .f32 (z 8), .float .f32 (z 9), .float .f32 (z 10), .float .f32 (z 11), .float .f32 (z 12), .float .f32 (z 13), .float .f32 (z 14), .float .f32 (z 15)]) (.int .i64 4)).run Tryd.prog W = .ok (.float .f32 (z 4)) W := fun _ => by kernel_rfl
  have x5 : ∀ W : World, (Instr.index 29 (.agg #[.float .f32 (z 0), .float .f32 (z 1), .float .f32 (z 2), .float .f32 (z 3), .float .f32 (z 4), .float .f32 (z 5), .float .f32 (z 6), .float .f32 (z 7), .float .f32 (z 8), .float .f32 (z 9), .float .f32 (z 10), .float .f32 (z 11), .float .f32 (z 12), .float .f32 (z 13), .float .f32 (z 14), .float .f32 (z 15)]) (.int .i64 5)).run Tryd.prog W = .ok (.float .f32 (z 5)) W := fun _ => by kernel_rfl
  have x6 : ∀ W : World, (Instr.index 29 (.agg #[.float .f32 (z 0), .float .f32 (z 1), .float .f32 (z 2), .float .f32 (z 3), .float .f32 (z 4), .float .f32 (z 5), .float .f32 (z 6), .float .f32 (z 7), .float .f32 (z 8), .float .f32 (z 9), .float .f32 (z 10), .float .f32 (z 11), .float .f32 (z 12), .float .f32 (z 13), .float .f32 (z 14), .float .f32 (z 15)]) (.int .i64 6)).run Tryd.prog W = .ok (.float .f32 (z 6)) W := fun _ => by kernel_rfl
  have x7 : ∀ W : World, (Instr.index 29 (.agg #[.float .f32 (z 0), .float .f32 (z 1), .float .f32 (z 2), .float .f32 (z 3), .float .f32 (z 4), .float .f32 (z 5), .float .f32 (z 6), .float .f32 (z 7), .float .f32 (z 8), .float .f32 (z 9), .float .f32 (z 10), .float .f32 (z 11), .float .f32 (z 12), .float .f32 (z 13), .float .f32 (z 14), .float .f32 (z 15)]) (.int .i64 7)).run Tryd.prog W = .ok (.float .f32 (z 7)) W := fun _ => by kernel_rfl
  have x8 : ∀ W : World, (Instr.index 29 (.agg #[.float .f32 (z 0), .float .f32 (z 1), .float .f32 (z 2), .float .f32 (z 3), .float .f32 (z 4), .float .f32 (z 5), .float .f32 (z 6), .float .f32 (z 7), .float .f32 (z 8), .float .f32 (z 9), .float .f32 (z 10), .float .f32 (z 11), .float .f32 (z 12), .float .f32 (z 13), .float .f32 (z 14), .float .f32 (z 15)]) (.int .i64 8)).run Tryd.prog W = .ok (.float .f32 (z 8)) W := fun _ => by kernel_rfl
  have x9 : ∀ W : World, (Instr.index 29 (.agg #[.float .f32 (z 0), .float .f32 (z 1), .float .f32 (z 2), .float .f32 (z 3), .float .f32 (z 4), .float .f32 (z 5), .float .f32 (z 6), .float .f32 (z 7), .float .f32 (z 8), .float .f32 (z 9), .float .f32 (z 10), .float .f32 (z 11), .float .f32 (z 12), .float .f32 (z 13), .float .f32 (z 14), .float .f32 (z 15)]) (.int .i64 9)).run Tryd.prog W = .ok (.float .f32 (z 9)) W := fun _ => by kernel_rfl
  have x10 : ∀ W : World, (Instr.index 29 (.agg #[.float .f32 (z 0), .float .f32 (z 1), .float .f32 (z 2), .float .f32 (z 3), .float .f32 (z 4), .float .f32 (z 5), .float .f32 (z 6), .float .f32 (z 7), .float .f32 (z 8), .float .f32 (z 9), .float .f32 (z 10), .float .f32 (z 11), .float .f32 (z 12), .float .f32 (z 13), .float .f32 (z 14), .float .f32 (z 15)]) (.int .i64 10)).run Tryd.prog W = .ok (.float .f32 (z 10)) W := fun _ => by kernel_rfl
  have x11 : ∀ W : World, (Instr.index 29 (.agg #[.float .f32 (z 0), .float .f32 (z 1), .float .f32 (z 2), .float .f32 (z 3), .float .f32 (z 4), .float .f32 (z 5), .float .f32 (z 6), .float .f32 (z 7), .float .f32 (z 8), .float .f32 (z 9), .float .f32 (z 10), .float .f32 (z 11), .float .f32 (z 12), .float .f32 (z 13), .float .f32 (z 14), .float .f32 (z 15)]) (.int .i64 11)).run Tryd.prog W = .ok (.float .f32 (z 11)) W := fun _ => by kernel_rfl
  have x12 : ∀ W : World, (Instr.index 29 (.agg #[.float .f32 (z 0), .float .f32 (z 1), .float .f32 (z 2), .float .f32 (z 3), .float .f32 (z 4), .float .f32 (z 5), .float .f32 (z 6), .float .f32 (z 7), .float .f32 (z 8), .float .f32 (z 9), .float .f32 (z 10), .float .f32 (z 11), .float .f32 (z 12), .float .f32 (z 13), .float .f32 (z 14), .float .f32 (z 15)]) (.int .i64 12)).run Tryd.prog W = .ok (.float .f32 (z 12)) W := fun _ => by kernel_rfl
  have x13 : ∀ W : World, (Instr.index 29 (.agg #[.float .f32 (z 0), .float .f32 (z 1), .float .f32 (z 2), .float .f32 (z 3), .float .f32 (z 4), .float .f32 (z 5), .float .f32 (z 6), .float .f32 (z 7), .float .f32 (z 8), .float .f32 (z 9), .float .f32 (z 10), .float .f32 (z 11), .float .f32 (z 12), .float .f32 (z 13), .float .f32 (z 14), .float .f32 (z 15)]) (.int .i64 13)).run Tryd.prog W = .ok (.float .f32 (z 13)) W := fun _ => by kernel_rfl
  have x14 : ∀ W : World, (Instr.index 29 (.agg #[.float .f32 (z 0), .float .f32 (z 1), .float .f32 (z 2), .float .f32 (z 3), .float .f32 (z 4), .float .f32 (z 5), .float .f32 (z 6), .float .f32 (z 7), .float .f32 (z 8), .float .f32 (z 9), .float .f32 (z 10), .float .f32 (z 11), .float .f32 (z 12), .float .f32 (z 13), .float .f32 (z 14), .float .f32 (z 15)]) (.int .i64 14)).run Tryd.prog W = .ok (.float .f32 (z 14)) W := fun _ => by kernel_rfl
  have x15 : ∀ W : World, (Instr.index 29 (.agg #[.float .f32 (z 0), .float .f32 (z 1), .float .f32 (z 2), .float .f32 (z 3), .float .f32 (z 4), .float .f32 (z 5), .float .f32 (z 6), .float .f32 (z 7), .float .f32 (z 8), .float .f32 (z 9), .float .f32 (z 10), .float .f32 (z 11), .float .f32 (z 12), .float .f32 (z 13), .float .f32 (z 14), .float .f32 (z 15)]) (.int .i64 15)).run Tryd.prog W = .ok (.float .f32 (z 15)) W := fun _ => by kernel_rfl
  go_enter Tryd.func35, Tryd.ntmps35
  go_wp2_with fail
  refine wp_loop_rounds 17 ?_
  have hW0 : Below w.heap.size w _ := bA (bA (Below.refl w.heap.size w) (.cells #[.float .f32 (z 0), .float .f32 (z 1), .float .f32 (z 2), .float .f32 (z 3), .float .f32 (z 4), .float .f32 (z 5), .float .f32 (z 6), .float .f32 (z 7), .float .f32 (z 8), .float .f32 (z 9), .float .f32 (z 10), .float .f32 (z 11), .float .f32 (z 12), .float .f32 (z 13), .float .f32 (z 14), .float .f32 (z 15)] 29)) (.cells #[.string ⟨#[]⟩, .string ⟨#[]⟩, .string ⟨#[]⟩, .string ⟨#[]⟩, .string ⟨#[]⟩, .string ⟨#[]⟩, .string ⟨#[]⟩, .string ⟨#[]⟩, .string ⟨#[]⟩, .string ⟨#[]⟩, .string ⟨#[]⟩, .string ⟨#[]⟩, .string ⟨#[]⟩, .string ⟨#[]⟩, .string ⟨#[]⟩, .string ⟨#[]⟩] 89)
  have hX0 : Txt z (w.heap.size + 1) 0 _ := txt_new (w := w.alloc (.cells #[.float .f32 (z 0), .float .f32 (z 1), .float .f32 (z 2), .float .f32 (z 3), .float .f32 (z 4), .float .f32 (z 5), .float .f32 (z 6), .float .f32 (z 7), .float .f32 (z 8), .float .f32 (z 9), .float .f32 (z 10), .float .f32 (z 11), .float .f32 (z 12), .float .f32 (z 13), .float .f32 (z 14), .float .f32 (z 15)] 29)) (t := 89) (by simp)
  have n := txt_at (by decide) hX0
  have q := hX0.2.1 0
  rw [rounds_succ]
  go_wp2_with (go_at_call 18; refine (nt_calls (z 0) (hz 0) _ (tab_below ht (by first | assumption | exact Below.setCell (by assumption) (by simp) _))).mono ?_; rintro e w' ⟨rfl, hb⟩; have hX : Txt z (w.heap.size + 1) 0 w' := txt_below hb (by first | assumption | exact txt_set (by decide) (by assumption)); have hW : Below w.heap.size w w' := Below.trans (by first | assumption | exact Below.setCell (by assumption) (by simp) _) (hb.mono (by first | exact Below.size (by assumption) | (rw [World.size_setCell]; exact Below.size (by assumption)))); have n := txt_at (by decide) hX; have q := hX.2.1 0)
  rw [rounds_succ]
  go_wp2_with (go_at_call 18; refine (nt_calls (z 1) (hz 1) _ (tab_below ht (by first | assumption | exact Below.setCell (by assumption) (by simp) _))).mono ?_; rintro e w' ⟨rfl, hb⟩; have hX : Txt z (w.heap.size + 1) 1 w' := txt_below hb (by first | assumption | exact txt_set (by decide) (by assumption)); have hW : Below w.heap.size w w' := Below.trans (by first | assumption | exact Below.setCell (by assumption) (by simp) _) (hb.mono (by first | exact Below.size (by assumption) | (rw [World.size_setCell]; exact Below.size (by assumption)))); have n := txt_at (by decide) hX; have q := hX.2.1 1)
  rw [rounds_succ]
  go_wp2_with (go_at_call 18; refine (nt_calls (z 2) (hz 2) _ (tab_below ht (by first | assumption | exact Below.setCell (by assumption) (by simp) _))).mono ?_; rintro e w' ⟨rfl, hb⟩; have hX : Txt z (w.heap.size + 1) 2 w' := txt_below hb (by first | assumption | exact txt_set (by decide) (by assumption)); have hW : Below w.heap.size w w' := Below.trans (by first | assumption | exact Below.setCell (by assumption) (by simp) _) (hb.mono (by first | exact Below.size (by assumption) | (rw [World.size_setCell]; exact Below.size (by assumption)))); have n := txt_at (by decide) hX; have q := hX.2.1 2)
  rw [rounds_succ]
  go_wp2_with (go_at_call 18; refine (nt_calls (z 3) (hz 3) _ (tab_below ht (by first | assumption | exact Below.setCell (by assumption) (by simp) _))).mono ?_; rintro e w' ⟨rfl, hb⟩; have hX : Txt z (w.heap.size + 1) 3 w' := txt_below hb (by first | assumption | exact txt_set (by decide) (by assumption)); have hW : Below w.heap.size w w' := Below.trans (by first | assumption | exact Below.setCell (by assumption) (by simp) _) (hb.mono (by first | exact Below.size (by assumption) | (rw [World.size_setCell]; exact Below.size (by assumption)))); have n := txt_at (by decide) hX; have q := hX.2.1 3)
  rw [rounds_succ]
  go_wp2_with (go_at_call 18; refine (nt_calls (z 4) (hz 4) _ (tab_below ht (by first | assumption | exact Below.setCell (by assumption) (by simp) _))).mono ?_; rintro e w' ⟨rfl, hb⟩; have hX : Txt z (w.heap.size + 1) 4 w' := txt_below hb (by first | assumption | exact txt_set (by decide) (by assumption)); have hW : Below w.heap.size w w' := Below.trans (by first | assumption | exact Below.setCell (by assumption) (by simp) _) (hb.mono (by first | exact Below.size (by assumption) | (rw [World.size_setCell]; exact Below.size (by assumption)))); have n := txt_at (by decide) hX; have q := hX.2.1 4)
  rw [rounds_succ]
  go_wp2_with (go_at_call 18; refine (nt_calls (z 5) (hz 5) _ (tab_below ht (by first | assumption | exact Below.setCell (by assumption) (by simp) _))).mono ?_; rintro e w' ⟨rfl, hb⟩; have hX : Txt z (w.heap.size + 1) 5 w' := txt_below hb (by first | assumption | exact txt_set (by decide) (by assumption)); have hW : Below w.heap.size w w' := Below.trans (by first | assumption | exact Below.setCell (by assumption) (by simp) _) (hb.mono (by first | exact Below.size (by assumption) | (rw [World.size_setCell]; exact Below.size (by assumption)))); have n := txt_at (by decide) hX; have q := hX.2.1 5)
  rw [rounds_succ]
  go_wp2_with (go_at_call 18; refine (nt_calls (z 6) (hz 6) _ (tab_below ht (by first | assumption | exact Below.setCell (by assumption) (by simp) _))).mono ?_; rintro e w' ⟨rfl, hb⟩; have hX : Txt z (w.heap.size + 1) 6 w' := txt_below hb (by first | assumption | exact txt_set (by decide) (by assumption)); have hW : Below w.heap.size w w' := Below.trans (by first | assumption | exact Below.setCell (by assumption) (by simp) _) (hb.mono (by first | exact Below.size (by assumption) | (rw [World.size_setCell]; exact Below.size (by assumption)))); have n := txt_at (by decide) hX; have q := hX.2.1 6)
  rw [rounds_succ]
  go_wp2_with (go_at_call 18; refine (nt_calls (z 7) (hz 7) _ (tab_below ht (by first | assumption | exact Below.setCell (by assumption) (by simp) _))).mono ?_; rintro e w' ⟨rfl, hb⟩; have hX : Txt z (w.heap.size + 1) 7 w' := txt_below hb (by first | assumption | exact txt_set (by decide) (by assumption)); have hW : Below w.heap.size w w' := Below.trans (by first | assumption | exact Below.setCell (by assumption) (by simp) _) (hb.mono (by first | exact Below.size (by assumption) | (rw [World.size_setCell]; exact Below.size (by assumption)))); have n := txt_at (by decide) hX; have q := hX.2.1 7)
  rw [rounds_succ]
  go_wp2_with (go_at_call 18; refine (nt_calls (z 8) (hz 8) _ (tab_below ht (by first | assumption | exact Below.setCell (by assumption) (by simp) _))).mono ?_; rintro e w' ⟨rfl, hb⟩; have hX : Txt z (w.heap.size + 1) 8 w' := txt_below hb (by first | assumption | exact txt_set (by decide) (by assumption)); have hW : Below w.heap.size w w' := Below.trans (by first | assumption | exact Below.setCell (by assumption) (by simp) _) (hb.mono (by first | exact Below.size (by assumption) | (rw [World.size_setCell]; exact Below.size (by assumption)))); have n := txt_at (by decide) hX; have q := hX.2.1 8)
  rw [rounds_succ]
  go_wp2_with (go_at_call 18; refine (nt_calls (z 9) (hz 9) _ (tab_below ht (by first | assumption | exact Below.setCell (by assumption) (by simp) _))).mono ?_; rintro e w' ⟨rfl, hb⟩; have hX : Txt z (w.heap.size + 1) 9 w' := txt_below hb (by first | assumption | exact txt_set (by decide) (by assumption)); have hW : Below w.heap.size w w' := Below.trans (by first | assumption | exact Below.setCell (by assumption) (by simp) _) (hb.mono (by first | exact Below.size (by assumption) | (rw [World.size_setCell]; exact Below.size (by assumption)))); have n := txt_at (by decide) hX; have q := hX.2.1 9)
  rw [rounds_succ]
  go_wp2_with (go_at_call 18; refine (nt_calls (z 10) (hz 10) _ (tab_below ht (by first | assumption | exact Below.setCell (by assumption) (by simp) _))).mono ?_; rintro e w' ⟨rfl, hb⟩; have hX : Txt z (w.heap.size + 1) 10 w' := txt_below hb (by first | assumption | exact txt_set (by decide) (by assumption)); have hW : Below w.heap.size w w' := Below.trans (by first | assumption | exact Below.setCell (by assumption) (by simp) _) (hb.mono (by first | exact Below.size (by assumption) | (rw [World.size_setCell]; exact Below.size (by assumption)))); have n := txt_at (by decide) hX; have q := hX.2.1 10)
  rw [rounds_succ]
  go_wp2_with (go_at_call 18; refine (nt_calls (z 11) (hz 11) _ (tab_below ht (by first | assumption | exact Below.setCell (by assumption) (by simp) _))).mono ?_; rintro e w' ⟨rfl, hb⟩; have hX : Txt z (w.heap.size + 1) 11 w' := txt_below hb (by first | assumption | exact txt_set (by decide) (by assumption)); have hW : Below w.heap.size w w' := Below.trans (by first | assumption | exact Below.setCell (by assumption) (by simp) _) (hb.mono (by first | exact Below.size (by assumption) | (rw [World.size_setCell]; exact Below.size (by assumption)))); have n := txt_at (by decide) hX; have q := hX.2.1 11)
  rw [rounds_succ]
  go_wp2_with (go_at_call 18; refine (nt_calls (z 12) (hz 12) _ (tab_below ht (by first | assumption | exact Below.setCell (by assumption) (by simp) _))).mono ?_; rintro e w' ⟨rfl, hb⟩; have hX : Txt z (w.heap.size + 1) 12 w' := txt_below hb (by first | assumption | exact txt_set (by decide) (by assumption)); have hW : Below w.heap.size w w' := Below.trans (by first | assumption | exact Below.setCell (by assumption) (by simp) _) (hb.mono (by first | exact Below.size (by assumption) | (rw [World.size_setCell]; exact Below.size (by assumption)))); have n := txt_at (by decide) hX; have q := hX.2.1 12)
  rw [rounds_succ]
  go_wp2_with (go_at_call 18; refine (nt_calls (z 13) (hz 13) _ (tab_below ht (by first | assumption | exact Below.setCell (by assumption) (by simp) _))).mono ?_; rintro e w' ⟨rfl, hb⟩; have hX : Txt z (w.heap.size + 1) 13 w' := txt_below hb (by first | assumption | exact txt_set (by decide) (by assumption)); have hW : Below w.heap.size w w' := Below.trans (by first | assumption | exact Below.setCell (by assumption) (by simp) _) (hb.mono (by first | exact Below.size (by assumption) | (rw [World.size_setCell]; exact Below.size (by assumption)))); have n := txt_at (by decide) hX; have q := hX.2.1 13)
  rw [rounds_succ]
  go_wp2_with (go_at_call 18; refine (nt_calls (z 14) (hz 14) _ (tab_below ht (by first | assumption | exact Below.setCell (by assumption) (by simp) _))).mono ?_; rintro e w' ⟨rfl, hb⟩; have hX : Txt z (w.heap.size + 1) 14 w' := txt_below hb (by first | assumption | exact txt_set (by decide) (by assumption)); have hW : Below w.heap.size w w' := Below.trans (by first | assumption | exact Below.setCell (by assumption) (by simp) _) (hb.mono (by first | exact Below.size (by assumption) | (rw [World.size_setCell]; exact Below.size (by assumption)))); have n := txt_at (by decide) hX; have q := hX.2.1 14)
  rw [rounds_succ]
  go_wp2_with (go_at_call 18; refine (nt_calls (z 15) (hz 15) _ (tab_below ht (by first | assumption | exact Below.setCell (by assumption) (by simp) _))).mono ?_; rintro e w' ⟨rfl, hb⟩; have hX : Txt z (w.heap.size + 1) 15 w' := txt_below hb (by first | assumption | exact txt_set (by decide) (by assumption)); have hW : Below w.heap.size w w' := Below.trans (by first | assumption | exact Below.setCell (by assumption) (by simp) _) (hb.mono (by first | exact Below.size (by assumption) | (rw [World.size_setCell]; exact Below.size (by assumption)))); have n := txt_at (by decide) hX; have q := hX.2.1 15)
  rw [rounds_succ]
  go_wp2_with (fail)
  have hX := txt_set (z := z) (i := 15) (by decide) (by assumption)
  refine (Tryd.strings_Join (w.heap.size + 1) 0 16 [hx (z 0), hx (z 1), hx (z 2), hx (z 3), hx (z 4), hx (z 5), hx (z 6), hx (z 7), hx (z 8), hx (z 9), hx (z 10), hx (z 11), hx (z 12), hx (z 13), hx (z 14), hx (z 15)] ⟨#[32]⟩ _ ?_ hX.1 (by simp) (by simp) (join16_len z)).mono ?_
  · intro j x hx
    have hj : j < 16 := by
      rcases Nat.lt_or_ge j 16 with h | h
      · exact h
      · rw [List.getElem?_eq_none (by simpa using h)] at hx; cases hx
    rw [Nat.zero_add, hX.2.2 j hj, if_pos hj]
    match j, hj with
    | 0, _ | 1, _ | 2, _ | 3, _ | 4, _ | 5, _ | 6, _ | 7, _ | 8, _ | 9, _ | 10, _ | 11, _ | 12, _ | 13, _ | 14, _ | 15, _ => cases hx; rfl
    | k + 16, h => exact absurd h (by omega)
  rintro e w2 ⟨rfl, hj⟩
  rw [join16]
  go_wp2
  go_ret
  exact ⟨rfl, Below.trans (Below.setCell (by assumption) (by simp) _) (hj.mono (by rw [World.size_setCell]; exact Below.size (by assumption)))⟩
theorem cv_new (z : Nat → Nat) {b : Nat} {w : World} {t : TypeId} (hb : b = w.heap.size) : Cv z b (w.alloc (.cells #[.float .f32 (z 0), .float .f32 (z 1), .float .f32 (z 2), .float .f32 (z 3), .float .f32 (z 4), .float .f32 (z 5), .float .f32 (z 6), .float .f32 (z 7), .float .f32 (z 8), .float .f32 (z 9), .float .f32 (z 10), .float .f32 (z 11), .float .f32 (z 12), .float .f32 (z 13), .float .f32 (z 14), .float .f32 (z 15)] t)) := by
  subst hb
  refine ⟨by simp, fun j hj => ?_⟩
  rw [World.cell?_alloc_at (hn := rfl)]
  match j, hj with
  | 0, _ | 1, _ | 2, _ | 3, _ | 4, _ | 5, _ | 6, _ | 7, _ | 8, _ | 9, _ | 10, _ | 11, _ | 12, _ | 13, _ | 14, _ | 15, _ => rfl
  | k + 16, h => exact absurd h (by omega)
end Ty
end Go.Proofs.YtbidagapkcmfnaaDoor
end
