/-
  Layers: their texts, by the program. No condition.
-/
import Derived.Test.YtbidagapkcmfnaaDoorLw
import Derived.Test.YtbidagapkcmfnaaDoorLb
noncomputable section
namespace Go.Proofs.YtbidagapkcmfnaaDoor
namespace Ty
open Tx Go Go.RowKit Ev Ieee
set_option maxHeartbeats 8000000 in
set_option maxRecDepth 100000 in
theorem isam_calls (z : Nat → Nat) (w : World) : Calls Tryd.prog 55 #[cvV z] w fun e w' => e = .returned (.bool (all16 fun i => wi 0 2139095039 (z i))) ∧ Below w.heap.size w w' := by
  have h := within16_calls z 0 2139095039
  unfold cvV at *
  go_enter Tryd.func55, Tryd.ntmps55
  go_wp2_with (go_at_call 75; refine (h _).mono ?_; rintro e w' ⟨rfl, hb⟩)
  go_ret
  exact ⟨rfl, Below.trans (bA (Below.refl w.heap.size w) _) (hb.mono (by simp))⟩
set_option maxHeartbeats 8000000 in
set_option maxRecDepth 100000 in
theorem vl_calls (z s : Nat → Nat) (t : Nat) (w : World) : Calls Tryd.prog 34 #[lyV z s t] w fun e w' => e = .returned (.bool (okL z s t)) ∧ Below w.heap.size w w' := by
  have hz := isam_calls z
  have hs := isam_calls s
  have ht : ∀ w, Calls Tryd.prog 56 #[.float .f32 t, .float .f32 0, .float .f32 2139095039] w fun e w' => e = .returned (.bool (wi 0 2139095039 t)) ∧ Below w.heap.size w w' := fun w => (within_calls t 0 2139095039 w).mono fun e w' h => ⟨h.1, by rw [h.2]; exact Below.refl _ _⟩
  have hW : Below w.heap.size w (w.alloc (.cells #[.float .f32 (z 0), .float .f32 (z 1), .float .f32 (z 2), .float .f32 (z 3), .float .f32 (z 4), .float .f32 (z 5), .float .f32 (z 6), .float .f32 (z 7), .float .f32 (z 8), .float .f32 (z 9), .float .f32 (z 10), .float .f32 (z 11), .float .f32 (z 12), .float .f32 (z 13), .float .f32 (z 14), .float .f32 (z 15), .float .f32 (s 0), .float .f32 (s 1), .float .f32 (s 2), .float .f32 (s 3), .float .f32 (s 4), .float .f32 (s 5), .float .f32 (s 6), .float .f32 (s 7), .float .f32 (s 8), .float .f32 (s 9), .float .f32 (s 10), .float .f32 (s 11), .float .f32 (s 12), .float .f32 (s 13), .float .f32 (s 14), .float .f32 (s 15), .float .f32 t] 34)) := bA (Below.refl _ _) _
  have hC : Lv z s t w.heap.size (w.alloc (.cells #[.float .f32 (z 0), .float .f32 (z 1), .float .f32 (z 2), .float .f32 (z 3), .float .f32 (z 4), .float .f32 (z 5), .float .f32 (z 6), .float .f32 (z 7), .float .f32 (z 8), .float .f32 (z 9), .float .f32 (z 10), .float .f32 (z 11), .float .f32 (z 12), .float .f32 (z 13), .float .f32 (z 14), .float .f32 (z 15), .float .f32 (s 0), .float .f32 (s 1), .float .f32 (s 2), .float .f32 (s 3), .float .f32 (s 4), .float .f32 (s 5), .float .f32 (s 6), .float .f32 (s 7), .float .f32 (s 8), .float .f32 (s 9), .float .f32 (s 10), .float .f32 (s 11), .float .f32 (s 12), .float .f32 (s 13), .float .f32 (s 14), .float .f32 (s 15), .float .f32 t] 34)) := lv_new z s t rfl
  unfold okL lyV
  cases h1 : (all16 fun i => wi 0 2139095039 (z i)) with
  | false =>
    go_enter Tryd.func34, Tryd.ntmps34
    go_wp2_with (first | (go_at_call 55; refine (hz _).mono ?_; rw [h1]; rintro e w' ⟨rfl, hb⟩; have hC := lv_below hb (by assumption); have hW := Below.trans (by assumption) (hb.mono (Below.size (by assumption))); clear hz; have m0 := lv_m0 hC; have m1 := lv_m1 hC; have m2 := lv_m2 hC; have m3 := lv_m3 hC; have m4 := lv_m4 hC; have m5 := lv_m5 hC; have m6 := lv_m6 hC; have m7 := lv_m7 hC; have m8 := lv_m8 hC; have m9 := lv_m9 hC; have m10 := lv_m10 hC; have m11 := lv_m11 hC; have m12 := lv_m12 hC; have m13 := lv_m13 hC; have m14 := lv_m14 hC; have m15 := lv_m15 hC))
    go_ret
    exact ⟨rfl, by assumption⟩
  | true =>
  cases h2 : (all16 fun i => wi 0 2139095039 (s i)) with
  | false =>
    go_enter Tryd.func34, Tryd.ntmps34
    go_wp2_with (first | (go_at_call 55; refine (hz _).mono ?_; rw [h1]; rintro e w' ⟨rfl, hb⟩; have hC := lv_below hb (by assumption); have hW := Below.trans (by assumption) (hb.mono (Below.size (by assumption))); clear hz; have m0 := lv_m0 hC; have m1 := lv_m1 hC; have m2 := lv_m2 hC; have m3 := lv_m3 hC; have m4 := lv_m4 hC; have m5 := lv_m5 hC; have m6 := lv_m6 hC; have m7 := lv_m7 hC; have m8 := lv_m8 hC; have m9 := lv_m9 hC; have m10 := lv_m10 hC; have m11 := lv_m11 hC; have m12 := lv_m12 hC; have m13 := lv_m13 hC; have m14 := lv_m14 hC; have m15 := lv_m15 hC) | (go_at_call 55; refine (hs _).mono ?_; rw [h2]; rintro e w' ⟨rfl, hb⟩; have hC := lv_below hb (by assumption); have hW := Below.trans (by assumption) (hb.mono (Below.size (by assumption))); clear m0 m1 m2 m3 m4 m5 m6 m7 m8 m9 m10 m11 m12 m13 m14 m15; have tt := hC.2.2.2))
    go_ret
    exact ⟨rfl, by assumption⟩
  | true =>
  cases h3 : wi 0 2139095039 t with
  | false =>
    go_enter Tryd.func34, Tryd.ntmps34
    go_wp2_with (first | (go_at_call 55; refine (hz _).mono ?_; rw [h1]; rintro e w' ⟨rfl, hb⟩; have hC := lv_below hb (by assumption); have hW := Below.trans (by assumption) (hb.mono (Below.size (by assumption))); clear hz; have m0 := lv_m0 hC; have m1 := lv_m1 hC; have m2 := lv_m2 hC; have m3 := lv_m3 hC; have m4 := lv_m4 hC; have m5 := lv_m5 hC; have m6 := lv_m6 hC; have m7 := lv_m7 hC; have m8 := lv_m8 hC; have m9 := lv_m9 hC; have m10 := lv_m10 hC; have m11 := lv_m11 hC; have m12 := lv_m12 hC; have m13 := lv_m13 hC; have m14 := lv_m14 hC; have m15 := lv_m15 hC) | (go_at_call 55; refine (hs _).mono ?_; rw [h2]; rintro e w' ⟨rfl, hb⟩; have hC := lv_below hb (by assumption); have hW := Below.trans (by assumption) (hb.mono (Below.size (by assumption))); clear m0 m1 m2 m3 m4 m5 m6 m7 m8 m9 m10 m11 m12 m13 m14 m15; have tt := hC.2.2.2) | (go_at_call 56; refine (ht _).mono ?_; rw [h3]; rintro e w' ⟨rfl, hb⟩; have hC := lv_below hb (by assumption); have hW := Below.trans (by assumption) (hb.mono (Below.size (by assumption)))))
    go_ret
    exact ⟨rfl, by assumption⟩
  | true =>
    go_enter Tryd.func34, Tryd.ntmps34
    go_wp2_with (first | (go_at_call 55; refine (hz _).mono ?_; rw [h1]; rintro e w' ⟨rfl, hb⟩; have hC := lv_below hb (by assumption); have hW := Below.trans (by assumption) (hb.mono (Below.size (by assumption))); clear hz; have m0 := lv_m0 hC; have m1 := lv_m1 hC; have m2 := lv_m2 hC; have m3 := lv_m3 hC; have m4 := lv_m4 hC; have m5 := lv_m5 hC; have m6 := lv_m6 hC; have m7 := lv_m7 hC; have m8 := lv_m8 hC; have m9 := lv_m9 hC; have m10 := lv_m10 hC; have m11 := lv_m11 hC; have m12 := lv_m12 hC; have m13 := lv_m13 hC; have m14 := lv_m14 hC; have m15 := lv_m15 hC) | (go_at_call 55; refine (hs _).mono ?_; rw [h2]; rintro e w' ⟨rfl, hb⟩; have hC := lv_below hb (by assumption); have hW := Below.trans (by assumption) (hb.mono (Below.size (by assumption))); clear m0 m1 m2 m3 m4 m5 m6 m7 m8 m9 m10 m11 m12 m13 m14 m15; have tt := hC.2.2.2) | (go_at_call 56; refine (ht _).mono ?_; rw [h3]; rintro e w' ⟨rfl, hb⟩; have hC := lv_below hb (by assumption); have hW := Below.trans (by assumption) (hb.mono (Below.size (by assumption)))))
    go_ret
    exact ⟨rfl, by assumption⟩
end Ty
end Go.Proofs.YtbidagapkcmfnaaDoor
end
