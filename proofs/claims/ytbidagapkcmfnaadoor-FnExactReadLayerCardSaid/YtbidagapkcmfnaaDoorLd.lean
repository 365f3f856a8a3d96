/-
  Layers: their texts, by the model. No condition.
-/
import Derived.Test.YtbidagapkcmfnaaDoorLb
import Derived.Deep.MidRow
import Derived.Deep.RegionHeld3
noncomputable section
namespace Go.Proofs.YtbidagapkcmfnaaDoor
namespace Ty
open Tx Go Go.RowKit Ev Ieee
def zL (z : Nat → Nat) : List Value := [.float .f32 (z 0), .float .f32 (z 1), .float .f32 (z 2), .float .f32 (z 3), .float .f32 (z 4), .float .f32 (z 5), .float .f32 (z 6), .float .f32 (z 7), .float .f32 (z 8), .float .f32 (z 9), .float .f32 (z 10), .float .f32 (z 11), .float .f32 (z 12), .float .f32 (z 13), .float .f32 (z 14), .float .f32 (z 15)]
theorem lv_r1 {z s : Nat → Nat} {t b : Nat} {w : World} (h : Lv z s t b w) : w.rangeAt b 0 (zL z) := fun j v hv => by
    have hj : j < 16 := by
      rcases Nat.lt_or_ge j 16 with h1 | h1
      · exact h1
      · rw [List.getElem?_eq_none (by simpa [zL] using h1)] at hv; cases hv
    rw [Nat.zero_add, h.2.1 j hj]
    match j, hj with
    | 0, _ | 1, _ | 2, _ | 3, _ | 4, _ | 5, _ | 6, _ | 7, _ | 8, _ | 9, _ | 10, _ | 11, _ | 12, _ | 13, _ | 14, _ | 15, _ => cases hv; rfl
    | k + 16, h => exact absurd h (by omega)
theorem lv_r2 {z s : Nat → Nat} {t b : Nat} {w : World} (h : Lv z s t b w) : w.rangeAt b 16 (zL s) := fun j v hv => by
    have hj : j < 16 := by
      rcases Nat.lt_or_ge j 16 with h1 | h1
      · exact h1
      · rw [List.getElem?_eq_none (by simpa [zL] using h1)] at hv; cases hv
    rw [h.2.2.1 j hj]
    match j, hj with
    | 0, _ | 1, _ | 2, _ | 3, _ | 4, _ | 5, _ | 6, _ | 7, _ | 8, _ | 9, _ | 10, _ | 11, _ | 12, _ | 13, _ | 14, _ | 15, _ => cases hv; rfl
    | k + 16, h => exact absurd h (by omega)
theorem lv_k {z s : Nat → Nat} {t b : Nat} {w : World} (h : Lv z s t b w) : (Instr.loadAt 29 (.pointer (some ⟨b, 0, none⟩))).run Tryd.prog w = .ok (cvV z) w :=
  run_loadAt_mid w b 0 29 (zL z) _ (lv_r1 h) Tryd.underlying29 rfl (by kernel_rfl)
theorem lv_s {z s : Nat → Nat} {t b : Nat} {w : World} (h : Lv z s t b w) : (Instr.loadAt 29 (.pointer (some ⟨b, 16, none⟩))).run Tryd.prog w = .ok (cvV s) w :=
  run_loadAt_mid w b 16 29 (zL s) _ (lv_r2 h) Tryd.underlying29 rfl (by kernel_rfl)
theorem lv_t {z s : Nat → Nat} {t b : Nat} {w : World} (h : Lv z s t b w) : w.cell? ⟨b, 32, none⟩ = some (.float .f32 t) := h.2.2.2
theorem lv_drew {z s : Nat → Nat} {t b : Nat} {w : World} (h : Lv z s t b w) : Lv z s t b w.drew := lv_below (Below.drew (Below.refl _ _)) h
/-- what the loads read, in a world behind w0 -/
abbrev Ls (z s : Nat → Nat) (t b : Nat) (w0 W : World) : Prop := W.rangeAt b 0 (zL z) ∧ W.rangeAt b 16 (zL s) ∧ W.cell? ⟨b, 32, none⟩ = some (.float .f32 t) ∧ b < W.heap.size ∧ Below w0.heap.size w0 W
theorem range_below {b o : Nat} {cs : List Value} {w w' : World} (hlt : b < w.heap.size) (h : w.rangeAt b o cs) (hb : Below w.heap.size w w') : w'.rangeAt b o cs := fun j v hv => (hb.cell (p := ⟨b, o + j, none⟩) hlt).trans (h j v hv)
theorem ls_below {z s : Nat → Nat} {t b : Nat} {w0 w w' : World} (h : Ls z s t b w0 w) (hb : Below w.heap.size w w') : Ls z s t b w0 w' :=
  ⟨range_below h.2.2.2.1 h.1 hb, range_below h.2.2.2.1 h.2.1 hb, (hb.cell (p := ⟨b, 32, none⟩) h.2.2.2.1).trans h.2.2.1, Nat.lt_of_lt_of_le h.2.2.2.1 hb.size, h.2.2.2.2.trans (hb.mono h.2.2.2.2.size)⟩
theorem ls_drew {z s : Nat → Nat} {t b : Nat} {w : World} (h : Lv z s t b w) : Ls z s t b w w.drew :=
  ls_below ⟨lv_r1 h, lv_r2 h, lv_t h, h.1, Below.refl _ _⟩ (Below.drew (Below.refl _ _))
end Ty
end Go.Proofs.YtbidagapkcmfnaaDoor
end
