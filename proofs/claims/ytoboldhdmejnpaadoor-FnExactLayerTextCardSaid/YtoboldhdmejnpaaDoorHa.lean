/-
  Numbers: their texts, by the model. No condition.
-/
import Derived.Test.YtoboldhdmejnpaaDoorHf
noncomputable section
namespace Go.Proofs.YtoboldhdmejnpaaDoor
namespace Tx
open Go Go.RowKit
/-- the last of a number's digits to the base 16 -/
def hexD (n : Nat) : UInt8 := if n % 16 < 10 then UInt8.ofNat (48 + n % 16) else UInt8.ofNat (87 + n % 16)
theorem hexC (n : Nat) (h : n % 16 < (⟨#[48, 49, 50, 51, 52, 53, 54, 55, 56, 57, 97, 98, 99, 100, 101, 102]⟩ : ByteArray).size) : (⟨#[48, 49, 50, 51, 52, 53, 54, 55, 56, 57, 97, 98, 99, 100, 101, 102]⟩ : ByteArray)[n % 16] = hexD n := by
  unfold hexD
  have hl : n % 16 < 16 := Nat.mod_lt _ (by decide)
  generalize n % 16 = m at *
  match m, hl with
  | 0, _ | 1, _ | 2, _ | 3, _ | 4, _ | 5, _ | 6, _ | 7, _ | 8, _ | 9, _ | 10, _ | 11, _ | 12, _ | 13, _ | 14, _ | 15, _ => rfl
  | k + 16, h => exact absurd h (by omega)
/-- eight digits -/
def hexB (n : Nat) : ByteArray := ⟨#[hexD (n / 16 / 16 / 16 / 16 / 16 / 16 / 16), hexD (n / 16 / 16 / 16 / 16 / 16 / 16), hexD (n / 16 / 16 / 16 / 16 / 16), hexD (n / 16 / 16 / 16 / 16), hexD (n / 16 / 16 / 16), hexD (n / 16 / 16), hexD (n / 16), hexD n]⟩
set_option maxHeartbeats 4000000 in
set_option maxRecDepth 100000 in
theorem hex_calls (a : Nat) (w : World) (hA : nB a < 4294967296) : Calls Tryd.prog 18 #[.float .f32 a] w fun e w' => e = .returned (.string (hexB (nB a))) ∧ Below w.heap.size w w' := by
  have hM : ∀ w : World, (Instr.makeSlice 64 (.int .i64 8) (.int .i64 8)).run Tryd.prog w = .ok (.slice (some ⟨w.heap.size, 0, none⟩) 8 8) (w.alloc (.cells #[.int .u8 0, .int .u8 0, .int .u8 0, .int .u8 0, .int .u8 0, .int .u8 0, .int .u8 0, .int .u8 0] 5)) := fun _ => by kernel_rfl
  unfold hexB
  generalize hn : nB a = n0 at *
  go_enter Tryd.func18, Tryd.ntmps18
  go_wp2_with (go_at_call 33; refine (sbits_calls a _).mono ?_; rw [hn]; rintro e w' ⟨rfl, hb⟩)
  refine wp_loop_rounds 9 ?_
  rw [rounds_succ]
  go_wp2
  simp only [hexC]
  rw [rounds_succ]
  go_wp2
  simp only [hexC]
  rw [rounds_succ]
  go_wp2
  simp only [hexC]
  rw [rounds_succ]
  go_wp2
  simp only [hexC]
  rw [rounds_succ]
  go_wp2
  simp only [hexC]
  rw [rounds_succ]
  go_wp2
  simp only [hexC]
  rw [rounds_succ]
  go_wp2
  simp only [hexC]
  rw [rounds_succ]
  go_wp2
  simp only [hexC]
  rw [rounds_succ]
  go_wp2
  have hC := fun (W : World) hc => (show (convert 64 9 (.slice (some ⟨w'.heap.size, 0, none⟩) 8 8)).run Tryd.prog W = .ok (.string ⟨#[hexD (n0 / 16 / 16 / 16 / 16 / 16 / 16 / 16), hexD (n0 / 16 / 16 / 16 / 16 / 16 / 16), hexD (n0 / 16 / 16 / 16 / 16 / 16), hexD (n0 / 16 / 16 / 16 / 16), hexD (n0 / 16 / 16 / 16), hexD (n0 / 16 / 16), hexD (n0 / 16), hexD n0]⟩) W from run_convert_bytes_back W 64 9 5 ⟨w'.heap.size, 0, none⟩ 8 [hexD (n0 / 16 / 16 / 16 / 16 / 16 / 16 / 16), hexD (n0 / 16 / 16 / 16 / 16 / 16 / 16), hexD (n0 / 16 / 16 / 16 / 16 / 16), hexD (n0 / 16 / 16 / 16 / 16), hexD (n0 / 16 / 16 / 16), hexD (n0 / 16 / 16), hexD (n0 / 16), hexD n0] Tryd.underlying64 Tryd.underlying5 Tryd.underlying9 hc)
  rw [hC]
  · go_wp2
    go_ret
    exact ⟨rfl, hb.trans ((bA (Below.refl _ _) _).mono hb.size)⟩
  · intro j hj
    match j, hj with
    | 0, _ | 1, _ | 2, _ | 3, _ | 4, _ | 5, _ | 6, _ | 7, _ => rw [show (⟨w'.heap.size, 0, none⟩ : Addr).add _ = ⟨w'.heap.size, _, none⟩ from rfl]; simp
end Tx
end Go.Proofs.YtoboldhdmejnpaaDoor
end
