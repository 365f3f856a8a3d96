/-
  Curves: their texts, by the model. No condition.
-/
import Derived.Test.YtoboldhdmejnpaaDoorHe
noncomputable section
namespace Go.Proofs.YtoboldhdmejnpaaDoor
namespace Tx
open Go Go.RowKit
/-- a number's text -/
def hx (a : Nat) : ByteArray := hexB (nB a)
/-- the texts of z 0, z 1, .. z k, a blank between two -/
def rowT (z : Nat → Nat) : Nat → ByteArray
  | 0 => hx (z 0)
  | k + 1 => (rowT z k ++ ⟨#[32]⟩) ++ hx (z (k + 1))
def rowU (z : Nat → Nat) (k : Nat) : ByteArray := rowT z k ++ ⟨#[32]⟩
theorem hx_size (a : Nat) : (hx a).size = 8 := rfl
theorem rowT_size (z : Nat → Nat) : ∀ k, (rowT z k).size = 9 * k + 8
  | 0 => rfl
  | k + 1 => by
    unfold rowT
    rw [ByteArray.size_append, ByteArray.size_append, rowT_size z k, hx_size]
    show 9 * k + 8 + 1 + 8 = _
    omega
theorem emp_app (b : ByteArray) : (⟨#[]⟩ : ByteArray) ++ b = b := by
  apply ByteArray.ext
  simp
theorem run_u (z : Nat → Nat) (k : Nat) (h : k < 1000) (W : World) : (Op.stringOp .add (rowT z k) ⟨#[32]⟩).run Tryd.prog W = .ok (.string (rowU z k)) W := by
  have := rowT_size z k
  have h1 : (⟨#[32]⟩ : ByteArray).size = 1 := rfl
  rw [cat_run _ _ (by omega)]; rfl
theorem run_t (z : Nat → Nat) (k : Nat) (h : k < 1000) (W : World) : (Op.stringOp .add (rowU z k) (hx (z (k + 1)))).run Tryd.prog W = .ok (.string (rowT z (k + 1))) W := by
  have := rowT_size z k
  have h1 : (⟨#[32]⟩ : ByteArray).size = 1 := rfl
  have h2 : (rowU z k).size = 9 * k + 9 := by unfold rowU; rw [ByteArray.size_append]; omega
  have h3 := hx_size (z (k + 1))
  rw [cat_run _ _ (by omega)]; rfl
/-- the sixteen numbers lie in a block -/
def Cv (z : Nat → Nat) (b : Nat) (w : World) : Prop := b < w.heap.size ∧ ∀ j, j < 16 → w.cell? ⟨b, j, none⟩ = some (.float .f32 (z j))
theorem cv_below {z : Nat → Nat} {b : Nat} {w w' : World} (hb : Below w.heap.size w w') (h : Cv z b w) : Cv z b w' :=
  ⟨Nat.lt_of_lt_of_le h.1 hb.size, fun j hj => (hb.cell (p := ⟨b, j, none⟩) h.1).trans (h.2 j hj)⟩
theorem hx_calls (a : Nat) (ha : a < 4294967296) (w : World) : Calls Tryd.prog 18 #[.float .f32 a] w fun e w' => e = .returned (.string (hx a)) ∧ Below w.heap.size w w' := hex_calls a w (nB_lt ha)
set_option maxHeartbeats 4000000 in
set_option maxRecDepth 100000 in
theorem row_calls (z : Nat → Nat) (hz : ∀ i, z i < 4294967296) (b : Nat) (w : World) (hc : Cv z b w) : Calls Tryd.prog 41 #[.slice (some ⟨b, 0, none⟩) 16 16] w fun e w' => e = .returned (.string (rowT z 15)) ∧ Below w.heap.size w w' := by
  have e0 : ∀ W : World, (Op.stringOp .add ⟨#[]⟩ (hx (z 0))).run Tryd.prog W = .ok (.string (rowT z 0)) W := fun W => by rw [cat_run _ _ (by rw [hx_size]; decide), emp_app]; rfl
  have u0 := run_u z 0 (by decide)
  have t0 := run_t z 0 (by decide)
  have u1 := run_u z 1 (by decide)
  have t1 := run_t z 1 (by decide)
  have u2 := run_u z 2 (by decide)
  have t2 := run_t z 2 (by decide)
  have u3 := run_u z 3 (by decide)
  have t3 := run_t z 3 (by decide)
  have u4 := run_u z 4 (by decide)
  have t4 := run_t z 4 (by decide)
  have u5 := run_u z 5 (by decide)
  have t5 := run_t z 5 (by decide)
  have u6 := run_u z 6 (by decide)
  have t6 := run_t z 6 (by decide)
  have u7 := run_u z 7 (by decide)
  have t7 := run_t z 7 (by decide)
  have u8 := run_u z 8 (by decide)
  have t8 := run_t z 8 (by decide)
  have u9 := run_u z 9 (by decide)
  have t9 := run_t z 9 (by decide)
  have u10 := run_u z 10 (by decide)
  have t10 := run_t z 10 (by decide)
  have u11 := run_u z 11 (by decide)
  have t11 := run_t z 11 (by decide)
  have u12 := run_u z 12 (by decide)
  have t12 := run_t z 12 (by decide)
  have u13 := run_u z 13 (by decide)
  have t13 := run_t z 13 (by decide)
  have u14 := run_u z 14 (by decide)
  have t14 := run_t z 14 (by decide)
  have c := hc.2 0 (by decide)
  have hW := Below.refl w.heap.size w
  go_enter Tryd.func41, Tryd.ntmps41
  go_wp2_with fail
  refine wp_loop_rounds 17 ?_
  rw [rounds_succ]
  go_wp2_with (go_at_call 18; refine (hx_calls (z 0) (hz 0) _).mono ?_; rintro e w' ⟨rfl, hb⟩; have hc := cv_below hb (by assumption); have c := hc.2 1 (by decide); have hW := Below.trans (by assumption) (hb.mono (Below.size (by assumption))))
  rw [rounds_succ]
  go_wp2_with (go_at_call 18; refine (hx_calls (z 1) (hz 1) _).mono ?_; rintro e w' ⟨rfl, hb⟩; have hc := cv_below hb (by assumption); have c := hc.2 2 (by decide); have hW := Below.trans (by assumption) (hb.mono (Below.size (by assumption))))
  rw [rounds_succ]
  go_wp2_with (go_at_call 18; refine (hx_calls (z 2) (hz 2) _).mono ?_; rintro e w' ⟨rfl, hb⟩; have hc := cv_below hb (by assumption); have c := hc.2 3 (by decide); have hW := Below.trans (by assumption) (hb.mono (Below.size (by assumption))))
  rw [rounds_succ]
  go_wp2_with (go_at_call 18; refine (hx_calls (z 3) (hz 3) _).mono ?_; rintro e w' ⟨rfl, hb⟩; have hc := cv_below hb (by assumption); have c := hc.2 4 (by decide); have hW := Below.trans (by assumption) (hb.mono (Below.size (by assumption))))
  rw [rounds_succ]
  go_wp2_with (go_at_call 18; refine (hx_calls (z 4) (hz 4) _).mono ?_; rintro e w' ⟨rfl, hb⟩; have hc := cv_below hb (by assumption); have c := hc.2 5 (by decide); have hW := Below.trans (by assumption) (hb.mono (Below.size (by assumption))))
  rw [rounds_succ]
  go_wp2_with (go_at_call 18; refine (hx_calls (z 5) (hz 5) _).mono ?_; rintro e w' ⟨rfl, hb⟩; have hc := cv_below hb (by assumption); have c := hc.2 6 (by decide); have hW := Below.trans (by assumption) (hb.mono (Below.size (by assumption))))
  rw [rounds_succ]
  go_wp2_with (go_at_call 18; refine (hx_calls (z 6) (hz 6) _).mono ?_; rintro e w' ⟨rfl, hb⟩; have hc := cv_below hb (by assumption); have c := hc.2 7 (by decide); have hW := Below.trans (by assumption) (hb.mono (Below.size (by assumption))))
  rw [rounds_succ]
  go_wp2_with (go_at_call 18; refine (hx_calls (z 7) (hz 7) _).mono ?_; rintro e w' ⟨rfl, hb⟩; have hc := cv_below hb (by assumption); have c := hc.2 8 (by decide); have hW := Below.trans (by assumption) (hb.mono (Below.size (by assumption))))
  rw [rounds_succ]
  go_wp2_with (go_at_call 18; refine (hx_calls (z 8) (hz 8) _).mono ?_; rintro e w' ⟨rfl, hb⟩; have hc := cv_below hb (by assumption); have c := hc.2 9 (by decide); have hW := Below.trans (by assumption) (hb.mono (Below.size (by assumption))))
  rw [rounds_succ]
  go_wp2_with (go_at_call 18; refine (hx_calls (z 9) (hz 9) _).mono ?_; rintro e w' ⟨rfl, hb⟩; have hc := cv_below hb (by assumption); have c := hc.2 10 (by decide); have hW := Below.trans (by assumption) (hb.mono (Below.size (by assumption))))
  rw [rounds_succ]
  go_wp2_with (go_at_call 18; refine (hx_calls (z 10) (hz 10) _).mono ?_; rintro e w' ⟨rfl, hb⟩; have hc := cv_below hb (by assumption); have c := hc.2 11 (by decide); have hW := Below.trans (by assumption) (hb.mono (Below.size (by assumption))))
  rw [rounds_succ]
  go_wp2_with (go_at_call 18; refine (hx_calls (z 11) (hz 11) _).mono ?_; rintro e w' ⟨rfl, hb⟩; have hc := cv_below hb (by assumption); have c := hc.2 12 (by decide); have hW := Below.trans (by assumption) (hb.mono (Below.size (by assumption))))
  rw [rounds_succ]
  go_wp2_with (go_at_call 18; refine (hx_calls (z 12) (hz 12) _).mono ?_; rintro e w' ⟨rfl, hb⟩; have hc := cv_below hb (by assumption); have c := hc.2 13 (by decide); have hW := Below.trans (by assumption) (hb.mono (Below.size (by assumption))))
  rw [rounds_succ]
  go_wp2_with (go_at_call 18; refine (hx_calls (z 13) (hz 13) _).mono ?_; rintro e w' ⟨rfl, hb⟩; have hc := cv_below hb (by assumption); have c := hc.2 14 (by decide); have hW := Below.trans (by assumption) (hb.mono (Below.size (by assumption))))
  rw [rounds_succ]
  go_wp2_with (go_at_call 18; refine (hx_calls (z 14) (hz 14) _).mono ?_; rintro e w' ⟨rfl, hb⟩; have hc := cv_below hb (by assumption); have c := hc.2 15 (by decide); have hW := Below.trans (by assumption) (hb.mono (Below.size (by assumption))))
  rw [rounds_succ]
  go_wp2_with (go_at_call 18; refine (hx_calls (z 15) (hz 15) _).mono ?_; rintro e w' ⟨rfl, hb⟩; have hc := cv_below hb (by assumption); have hW := Below.trans (by assumption) (hb.mono (Below.size (by assumption))))
  rw [rounds_succ]
  go_wp2_with fail
  go_ret
  exact ⟨rfl, by assumption⟩
end Tx
end Go.Proofs.YtoboldhdmejnpaaDoor
end
