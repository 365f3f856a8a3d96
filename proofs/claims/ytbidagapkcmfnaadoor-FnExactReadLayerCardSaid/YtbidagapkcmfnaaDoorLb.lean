/-
  Layers: their texts, by the model. No condition.
-/
import Derived.Test.YtbidagapkcmfnaaDoorLm
import Derived.Deep.MidRow
noncomputable section
namespace Go.Proofs.YtbidagapkcmfnaaDoor
namespace Ty
open Tx Go Go.RowKit Ev Ieee
/-- a layer's value -/
def lyV (z s : Nat → Nat) (t : Nat) : Value := .agg #[.float .f32 (z 0), .float .f32 (z 1), .float .f32 (z 2), .float .f32 (z 3), .float .f32 (z 4), .float .f32 (z 5), .float .f32 (z 6), .float .f32 (z 7), .float .f32 (z 8), .float .f32 (z 9), .float .f32 (z 10), .float .f32 (z 11), .float .f32 (z 12), .float .f32 (z 13), .float .f32 (z 14), .float .f32 (z 15), .float .f32 (s 0), .float .f32 (s 1), .float .f32 (s 2), .float .f32 (s 3), .float .f32 (s 4), .float .f32 (s 5), .float .f32 (s 6), .float .f32 (s 7), .float .f32 (s 8), .float .f32 (s 9), .float .f32 (s 10), .float .f32 (s 11), .float .f32 (s 12), .float .f32 (s 13), .float .f32 (s 14), .float .f32 (s 15), .float .f32 t]
def okL (z s : Nat → Nat) (t : Nat) : Bool := (all16 fun i => wi 0 2139095039 (z i)) && ((all16 fun i => wi 0 2139095039 (s i)) && wi 0 2139095039 t)
/-- the layer's numbers lie in a block -/
def Lv (z s : Nat → Nat) (t b : Nat) (w : World) : Prop := b < w.heap.size ∧ (∀ j, j < 16 → w.cell? ⟨b, j, none⟩ = some (.float .f32 (z j))) ∧ (∀ j, j < 16 → w.cell? ⟨b, 16 + j, none⟩ = some (.float .f32 (s j))) ∧ w.cell? ⟨b, 32, none⟩ = some (.float .f32 t)
theorem lv_below {z s : Nat → Nat} {t b : Nat} {w w' : World} (hb : Below w.heap.size w w') (h : Lv z s t b w) : Lv z s t b w' :=
  ⟨Nat.lt_of_lt_of_le h.1 hb.size, fun j hj => (hb.cell (p := ⟨b, j, none⟩) h.1).trans (h.2.1 j hj), fun j hj => (hb.cell (p := ⟨b, 16 + j, none⟩) h.1).trans (h.2.2.1 j hj), (hb.cell (p := ⟨b, 32, none⟩) h.1).trans h.2.2.2⟩
theorem lv_new (z s : Nat → Nat) (t : Nat) {b : Nat} {w : World} {T : TypeId} (hb : b = w.heap.size) : Lv z s t b (w.alloc (.cells #[.float .f32 (z 0), .float .f32 (z 1), .float .f32 (z 2), .float .f32 (z 3), .float .f32 (z 4), .float .f32 (z 5), .float .f32 (z 6), .float .f32 (z 7), .float .f32 (z 8), .float .f32 (z 9), .float .f32 (z 10), .float .f32 (z 11), .float .f32 (z 12), .float .f32 (z 13), .float .f32 (z 14), .float .f32 (z 15), .float .f32 (s 0), .float .f32 (s 1), .float .f32 (s 2), .float .f32 (s 3), .float .f32 (s 4), .float .f32 (s 5), .float .f32 (s 6), .float .f32 (s 7), .float .f32 (s 8), .float .f32 (s 9), .float .f32 (s 10), .float .f32 (s 11), .float .f32 (s 12), .float .f32 (s 13), .float .f32 (s 14), .float .f32 (s 15), .float .f32 t] T)) := by
  subst hb
  refine ⟨by simp, fun j hj => ?_, fun j hj => ?_, ?_⟩
  · rw [World.cell?_alloc_at (hn := rfl)]
    match j, hj with
    | 0, _ | 1, _ | 2, _ | 3, _ | 4, _ | 5, _ | 6, _ | 7, _ | 8, _ | 9, _ | 10, _ | 11, _ | 12, _ | 13, _ | 14, _ | 15, _ => rfl
    | k + 16, h => exact absurd h (by omega)
  · rw [World.cell?_alloc_at (hn := rfl)]
    match j, hj with
    | 0, _ | 1, _ | 2, _ | 3, _ | 4, _ | 5, _ | 6, _ | 7, _ | 8, _ | 9, _ | 10, _ | 11, _ | 12, _ | 13, _ | 14, _ | 15, _ => rfl
    | k + 16, h => exact absurd h (by omega)
  · rw [World.cell?_alloc_at (hn := rfl)]; rfl
/-- the layer's text -/
def lyT (z s : Nat → Nat) (t : Nat) : ByteArray := ((((rowT z 15 ++ ⟨#[10]⟩) ++ rowT s 15) ++ ⟨#[10]⟩) ++ hx t) ++ ⟨#[10]⟩
theorem lv_m0 {z s : Nat → Nat} {t b : Nat} {w : World} (h : Lv z s t b w) : w.cell? ⟨b, 16, none⟩ = some (.float .f32 (s 0)) := h.2.2.1 0 (by decide)
theorem lv_m1 {z s : Nat → Nat} {t b : Nat} {w : World} (h : Lv z s t b w) : w.cell? ⟨b, 17, none⟩ = some (.float .f32 (s 1)) := h.2.2.1 1 (by decide)
theorem lv_m2 {z s : Nat → Nat} {t b : Nat} {w : World} (h : Lv z s t b w) : w.cell? ⟨b, 18, none⟩ = some (.float .f32 (s 2)) := h.2.2.1 2 (by decide)
theorem lv_m3 {z s : Nat → Nat} {t b : Nat} {w : World} (h : Lv z s t b w) : w.cell? ⟨b, 19, none⟩ = some (.float .f32 (s 3)) := h.2.2.1 3 (by decide)
theorem lv_m4 {z s : Nat → Nat} {t b : Nat} {w : World} (h : Lv z s t b w) : w.cell? ⟨b, 20, none⟩ = some (.float .f32 (s 4)) := h.2.2.1 4 (by decide)
theorem lv_m5 {z s : Nat → Nat} {t b : Nat} {w : World} (h : Lv z s t b w) : w.cell? ⟨b, 21, none⟩ = some (.float .f32 (s 5)) := h.2.2.1 5 (by decide)
theorem lv_m6 {z s : Nat → Nat} {t b : Nat} {w : World} (h : Lv z s t b w) : w.cell? ⟨b, 22, none⟩ = some (.float .f32 (s 6)) := h.2.2.1 6 (by decide)
theorem lv_m7 {z s : Nat → Nat} {t b : Nat} {w : World} (h : Lv z s t b w) : w.cell? ⟨b, 23, none⟩ = some (.float .f32 (s 7)) := h.2.2.1 7 (by decide)
theorem lv_m8 {z s : Nat → Nat} {t b : Nat} {w : World} (h : Lv z s t b w) : w.cell? ⟨b, 24, none⟩ = some (.float .f32 (s 8)) := h.2.2.1 8 (by decide)
theorem lv_m9 {z s : Nat → Nat} {t b : Nat} {w : World} (h : Lv z s t b w) : w.cell? ⟨b, 25, none⟩ = some (.float .f32 (s 9)) := h.2.2.1 9 (by decide)
theorem lv_m10 {z s : Nat → Nat} {t b : Nat} {w : World} (h : Lv z s t b w) : w.cell? ⟨b, 26, none⟩ = some (.float .f32 (s 10)) := h.2.2.1 10 (by decide)
theorem lv_m11 {z s : Nat → Nat} {t b : Nat} {w : World} (h : Lv z s t b w) : w.cell? ⟨b, 27, none⟩ = some (.float .f32 (s 11)) := h.2.2.1 11 (by decide)
theorem lv_m12 {z s : Nat → Nat} {t b : Nat} {w : World} (h : Lv z s t b w) : w.cell? ⟨b, 28, none⟩ = some (.float .f32 (s 12)) := h.2.2.1 12 (by decide)
theorem lv_m13 {z s : Nat → Nat} {t b : Nat} {w : World} (h : Lv z s t b w) : w.cell? ⟨b, 29, none⟩ = some (.float .f32 (s 13)) := h.2.2.1 13 (by decide)
theorem lv_m14 {z s : Nat → Nat} {t b : Nat} {w : World} (h : Lv z s t b w) : w.cell? ⟨b, 30, none⟩ = some (.float .f32 (s 14)) := h.2.2.1 14 (by decide)
theorem lv_m15 {z s : Nat → Nat} {t b : Nat} {w : World} (h : Lv z s t b w) : w.cell? ⟨b, 31, none⟩ = some (.float .f32 (s 15)) := h.2.2.1 15 (by decide)
set_option maxHeartbeats 8000000 in
set_option maxRecDepth 100000 in
theorem lok_calls (z s : Nat → Nat) (t b : Nat) (w : World) (hC : Lv z s t b w) : Calls Tryd.prog 22 #[.pointer (some ⟨b, 0, none⟩)] w fun e w' => e = .returned (.bool (okL z s t)) ∧ Below w.heap.size w w' := by
  have hz := amounts_calls z
  have hs := amounts_calls s
  have ht := amount_calls t
  have k0 := hC.2.1 0 (by decide); have k1 := hC.2.1 1 (by decide); have k2 := hC.2.1 2 (by decide); have k3 := hC.2.1 3 (by decide); have k4 := hC.2.1 4 (by decide); have k5 := hC.2.1 5 (by decide); have k6 := hC.2.1 6 (by decide); have k7 := hC.2.1 7 (by decide); have k8 := hC.2.1 8 (by decide); have k9 := hC.2.1 9 (by decide); have k10 := hC.2.1 10 (by decide); have k11 := hC.2.1 11 (by decide); have k12 := hC.2.1 12 (by decide); have k13 := hC.2.1 13 (by decide); have k14 := hC.2.1 14 (by decide); have k15 := hC.2.1 15 (by decide)
  have hW := Below.refl w.heap.size w
  unfold okL
  cases h1 : (all16 fun i => wi 0 2139095039 (z i)) with
  | false =>
    go_enter Tryd.func22, Tryd.ntmps22
    go_wp2_with (first | (go_at_call 32; refine (hz _).mono ?_; rw [h1]; rintro e w' ⟨rfl, hb⟩; have hC := lv_below hb (by assumption); have hW := Below.trans (by assumption) (hb.mono (Below.size (by assumption)))))
    go_ret
    exact ⟨rfl, by assumption⟩
  | true =>
  cases h2 : (all16 fun i => wi 0 2139095039 (s i)) with
  | false =>
    go_enter Tryd.func22, Tryd.ntmps22
    go_wp2_with (first | (go_at_call 32; refine (hz _).mono ?_; rw [h1]; rintro e w' ⟨rfl, hb⟩; have hC := lv_below hb (by assumption); have hW := Below.trans (by assumption) (hb.mono (Below.size (by assumption))); clear hz; clear k0 k1 k2 k3 k4 k5 k6 k7 k8 k9 k10 k11 k12 k13 k14 k15; have m0 := lv_m0 hC; have m1 := lv_m1 hC; have m2 := lv_m2 hC; have m3 := lv_m3 hC; have m4 := lv_m4 hC; have m5 := lv_m5 hC; have m6 := lv_m6 hC; have m7 := lv_m7 hC; have m8 := lv_m8 hC; have m9 := lv_m9 hC; have m10 := lv_m10 hC; have m11 := lv_m11 hC; have m12 := lv_m12 hC; have m13 := lv_m13 hC; have m14 := lv_m14 hC; have m15 := lv_m15 hC) | (go_at_call 32; refine (hs _).mono ?_; rw [h2]; rintro e w' ⟨rfl, hb⟩; have hC := lv_below hb (by assumption); have hW := Below.trans (by assumption) (hb.mono (Below.size (by assumption)))))
    go_ret
    exact ⟨rfl, by assumption⟩
  | true =>
  cases h3 : wi 0 2139095039 t with
  | false =>
    go_enter Tryd.func22, Tryd.ntmps22
    go_wp2_with (first | (go_at_call 32; refine (hz _).mono ?_; rw [h1]; rintro e w' ⟨rfl, hb⟩; have hC := lv_below hb (by assumption); have hW := Below.trans (by assumption) (hb.mono (Below.size (by assumption))); clear hz; clear k0 k1 k2 k3 k4 k5 k6 k7 k8 k9 k10 k11 k12 k13 k14 k15; have m0 := lv_m0 hC; have m1 := lv_m1 hC; have m2 := lv_m2 hC; have m3 := lv_m3 hC; have m4 := lv_m4 hC; have m5 := lv_m5 hC; have m6 := lv_m6 hC; have m7 := lv_m7 hC; have m8 := lv_m8 hC; have m9 := lv_m9 hC; have m10 := lv_m10 hC; have m11 := lv_m11 hC; have m12 := lv_m12 hC; have m13 := lv_m13 hC; have m14 := lv_m14 hC; have m15 := lv_m15 hC) | (go_at_call 32; refine (hs _).mono ?_; rw [h2]; rintro e w' ⟨rfl, hb⟩; have hC := lv_below hb (by assumption); have hW := Below.trans (by assumption) (hb.mono (Below.size (by assumption))); clear m0 m1 m2 m3 m4 m5 m6 m7 m8 m9 m10 m11 m12 m13 m14 m15; have tt := hC.2.2.2) | (go_at_call 33; refine (ht _).mono ?_; rw [h3]; rintro e w' ⟨rfl, hb⟩; have hC := lv_below hb (by assumption); have hW := Below.trans (by assumption) (hb.mono (Below.size (by assumption)))))
    go_ret
    exact ⟨rfl, by assumption⟩
  | true =>
    go_enter Tryd.func22, Tryd.ntmps22
    go_wp2_with (first | (go_at_call 32; refine (hz _).mono ?_; rw [h1]; rintro e w' ⟨rfl, hb⟩; have hC := lv_below hb (by assumption); have hW := Below.trans (by assumption) (hb.mono (Below.size (by assumption))); clear hz; clear k0 k1 k2 k3 k4 k5 k6 k7 k8 k9 k10 k11 k12 k13 k14 k15; have m0 := lv_m0 hC; have m1 := lv_m1 hC; have m2 := lv_m2 hC; have m3 := lv_m3 hC; have m4 := lv_m4 hC; have m5 := lv_m5 hC; have m6 := lv_m6 hC; have m7 := lv_m7 hC; have m8 := lv_m8 hC; have m9 := lv_m9 hC; have m10 := lv_m10 hC; have m11 := lv_m11 hC; have m12 := lv_m12 hC; have m13 := lv_m13 hC; have m14 := lv_m14 hC; have m15 := lv_m15 hC) | (go_at_call 32; refine (hs _).mono ?_; rw [h2]; rintro e w' ⟨rfl, hb⟩; have hC := lv_below hb (by assumption); have hW := Below.trans (by assumption) (hb.mono (Below.size (by assumption))); clear m0 m1 m2 m3 m4 m5 m6 m7 m8 m9 m10 m11 m12 m13 m14 m15; have tt := hC.2.2.2) | (go_at_call 33; refine (ht _).mono ?_; rw [h3]; rintro e w' ⟨rfl, hb⟩; have hC := lv_below hb (by assumption); have hW := Below.trans (by assumption) (hb.mono (Below.size (by assumption)))))
    go_ret
    exact ⟨rfl, by assumption⟩
theorem nl_run (a : ByteArray) (h : a.size ≤ 1000000) (W : World) : (Op.stringOp .add a ⟨#[10]⟩).run Tryd.prog W = .ok (.string (a ++ ⟨#[10]⟩)) W := cat_run _ _ (by have h1 : (⟨#[10]⟩ : ByteArray).size = 1 := rfl; omega) W
/-- a layer's text, step by step -/
def ly1 (z : Nat → Nat) : ByteArray := rowT z 15 ++ ⟨#[10]⟩
def ly2 (z s : Nat → Nat) : ByteArray := ly1 z ++ rowT s 15
def ly3 (z s : Nat → Nat) : ByteArray := ly2 z s ++ ⟨#[10]⟩
def ly4 (z s : Nat → Nat) (t : Nat) : ByteArray := ly3 z s ++ hx t
theorem ly1_size (z : Nat → Nat) : (ly1 z).size = 144 := by unfold ly1; rw [ByteArray.size_append, rowT_size]; rfl
theorem ly2_size (z s : Nat → Nat) : (ly2 z s).size = 287 := by unfold ly2; rw [ByteArray.size_append, ly1_size, rowT_size]
theorem ly3_size (z s : Nat → Nat) : (ly3 z s).size = 288 := by unfold ly3; rw [ByteArray.size_append, ly2_size]; rfl
theorem ly4_size (z s : Nat → Nat) (t : Nat) : (ly4 z s t).size = 296 := by unfold ly4; rw [ByteArray.size_append, ly3_size, hx_size]
theorem ly_r1 (z : Nat → Nat) (W : World) : (Op.stringOp .add (rowT z 15) ⟨#[10]⟩).run Tryd.prog W = .ok (.string (ly1 z)) W := nl_run _ (by rw [rowT_size]; decide) W
theorem ly_r2 (z s : Nat → Nat) (W : World) : (Op.stringOp .add (ly1 z) (rowT s 15)).run Tryd.prog W = .ok (.string (ly2 z s)) W := cat_run _ _ (by rw [ly1_size, rowT_size]; decide) W
theorem ly_r3 (z s : Nat → Nat) (W : World) : (Op.stringOp .add (ly2 z s) ⟨#[10]⟩).run Tryd.prog W = .ok (.string (ly3 z s)) W := nl_run _ (by rw [ly2_size]; decide) W
theorem ly_r4 (z s : Nat → Nat) (t : Nat) (W : World) : (Op.stringOp .add (ly3 z s) (hx t)).run Tryd.prog W = .ok (.string (ly4 z s t)) W := cat_run _ _ (by rw [ly3_size, hx_size]; decide) W
theorem ly_r5 (z s : Nat → Nat) (t : Nat) (W : World) : (Op.stringOp .add (ly4 z s t) ⟨#[10]⟩).run Tryd.prog W = .ok (.string (lyT z s t)) W := nl_run _ (by rw [ly4_size]; decide) W
end Ty
end Go.Proofs.YtbidagapkcmfnaaDoor
end
