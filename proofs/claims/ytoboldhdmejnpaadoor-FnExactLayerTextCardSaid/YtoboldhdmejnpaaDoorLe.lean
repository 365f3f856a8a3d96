/-
  Layers: their texts, by the model, whatever the layer. No condition.
-/
import Derived.Test.YtoboldhdmejnpaaDoorLd
noncomputable section
namespace Go.Proofs.YtoboldhdmejnpaaDoor
namespace Tx
open Go Go.RowKit Ev Ieee
/-- the layer's text, or none -/
def lyA (z s : Nat → Nat) (t : Nat) : ByteArray := if okL z s t = true then lyT z s t else ⟨#[]⟩
set_option maxHeartbeats 8000000 in
set_option maxRecDepth 100000 in
theorem lsp_calls (z s : Nat → Nat) (t : Nat) (bz : ∀ i, z i < 4294967296) (bs : ∀ i, s i < 4294967296) (bt : t < 4294967296) (w : World) : Calls Tryd.prog 12 #[lyV z s t] w fun e w' => e = .returned (.string (lyA z s t)) ∧ Below w.heap.size w w' := by
  have hC : Lv z s t w.heap.size (w.alloc (.cells #[.float .f32 (z 0), .float .f32 (z 1), .float .f32 (z 2), .float .f32 (z 3), .float .f32 (z 4), .float .f32 (z 5), .float .f32 (z 6), .float .f32 (z 7), .float .f32 (z 8), .float .f32 (z 9), .float .f32 (z 10), .float .f32 (z 11), .float .f32 (z 12), .float .f32 (z 13), .float .f32 (z 14), .float .f32 (z 15), .float .f32 (s 0), .float .f32 (s 1), .float .f32 (s 2), .float .f32 (s 3), .float .f32 (s 4), .float .f32 (s 5), .float .f32 (s 6), .float .f32 (s 7), .float .f32 (s 8), .float .f32 (s 9), .float .f32 (s 10), .float .f32 (s 11), .float .f32 (s 12), .float .f32 (s 13), .float .f32 (s 14), .float .f32 (s 15), .float .f32 t] 34)) := lv_new z s t rfl
  have hW : Below w.heap.size w (w.alloc (.cells #[.float .f32 (z 0), .float .f32 (z 1), .float .f32 (z 2), .float .f32 (z 3), .float .f32 (z 4), .float .f32 (z 5), .float .f32 (z 6), .float .f32 (z 7), .float .f32 (z 8), .float .f32 (z 9), .float .f32 (z 10), .float .f32 (z 11), .float .f32 (z 12), .float .f32 (z 13), .float .f32 (z 14), .float .f32 (z 15), .float .f32 (s 0), .float .f32 (s 1), .float .f32 (s 2), .float .f32 (s 3), .float .f32 (s 4), .float .f32 (s 5), .float .f32 (s 6), .float .f32 (s 7), .float .f32 (s 8), .float .f32 (s 9), .float .f32 (s 10), .float .f32 (s 11), .float .f32 (s 12), .float .f32 (s 13), .float .f32 (s 14), .float .f32 (s 15), .float .f32 t] 34)) := bA (Below.refl _ _) _
  unfold lyA lyV
  cases h1 : okL z s t with
  | false =>
    rw [if_neg (by decide)]
    go_enter Tryd.func12, Tryd.ntmps12
    go_wp2_with (go_at_call 24; refine (lok_calls z s t _ _ (by assumption)).mono ?_; rw [h1]; rintro e w' ⟨rfl, hb⟩; have hC := lv_below hb (by assumption); have hW := Below.trans (by assumption) (hb.mono (Below.size (by assumption))))
    go_ret
    exact ⟨rfl, by assumption⟩
  | true =>
    rw [if_pos rfl]
    go_enter Tryd.func12, Tryd.ntmps12
    go_wp2_with (first | (go_at_call 24; refine (lok_calls z s t _ _ (by assumption)).mono ?_; rw [h1]; rintro e w' ⟨rfl, hb⟩; have hC := lv_below hb (by assumption); have hW := Below.trans (by assumption) (hb.mono (Below.size (by assumption)))) | (go_at_call 25; refine (ltx_calls z s t _ bz bs bt _ (by assumption)).mono ?_; rintro e w' ⟨rfl, hb⟩; have hW := Below.trans (by assumption) (hb.mono (Below.size (by assumption)))))
    go_ret
    exact ⟨rfl, by assumption⟩
end Tx
end Go.Proofs.YtoboldhdmejnpaaDoor
end
