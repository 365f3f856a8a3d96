/-
  Numbers to the base 16, by the library. No condition.
-/
import Derived.Test.YtbidagapkcmfnaaDoorHb
import Derived.Laws.Bits64b
noncomputable section
namespace Go.Proofs.YtbidagapkcmfnaaDoor
namespace Tx
open Go Go.RowKit
theorem and15 (n : Nat) (h : n < 18446744073709551616) : bits BinOp.and IntKind.u64 (n : Int) 15 = ((n % 16 : Nat) : Int) := by
  rw [show (15 : Int) = ((15 : Nat) : Int) from rfl, bits_and_u64_nat n 15 h (by decide), show 15 = 2 ^ 4 - 1 from rfl, Nat.and_two_pow_sub_one_eq_mod]
theorem hexC36 (n : Nat) (h : n % 16 < (⟨#[48, 49, 50, 51, 52, 53, 54, 55, 56, 57, 97, 98, 99, 100, 101, 102, 103, 104, 105, 106, 107, 108, 109, 110, 111, 112, 113, 114, 115, 116, 117, 118, 119, 120, 121, 122]⟩ : ByteArray).size) : (⟨#[48, 49, 50, 51, 52, 53, 54, 55, 56, 57, 97, 98, 99, 100, 101, 102, 103, 104, 105, 106, 107, 108, 109, 110, 111, 112, 113, 114, 115, 116, 117, 118, 119, 120, 121, 122]⟩ : ByteArray)[n % 16] = hexD n := by
  unfold hexD
  have hl : n % 16 < 16 := Nat.mod_lt _ (by decide)
  generalize n % 16 = m at *
  match m, hl with
  | 0, _ | 1, _ | 2, _ | 3, _ | 4, _ | 5, _ | 6, _ | 7, _ | 8, _ | 9, _ | 10, _ | 11, _ | 12, _ | 13, _ | 14, _ | 15, _ => rfl
  | k + 16, h => exact absurd h (by omega)
theorem hexE (n : Nat) (hn : n < 16) (h : n < (⟨#[48, 49, 50, 51, 52, 53, 54, 55, 56, 57, 97, 98, 99, 100, 101, 102, 103, 104, 105, 106, 107, 108, 109, 110, 111, 112, 113, 114, 115, 116, 117, 118, 119, 120, 121, 122]⟩ : ByteArray).size) : (⟨#[48, 49, 50, 51, 52, 53, 54, 55, 56, 57, 97, 98, 99, 100, 101, 102, 103, 104, 105, 106, 107, 108, 109, 110, 111, 112, 113, 114, 115, 116, 117, 118, 119, 120, 121, 122]⟩ : ByteArray)[n] = hexD n := by
  unfold hexD
  match n, hn with
  | 0, _ | 1, _ | 2, _ | 3, _ | 4, _ | 5, _ | 6, _ | 7, _ | 8, _ | 9, _ | 10, _ | 11, _ | 12, _ | 13, _ | 14, _ | 15, _ => rfl
  | k + 16, h => exact absurd h (by omega)
set_option maxHeartbeats 1000000 in
set_option maxRecDepth 100000 in
theorem pow_calls (w : World) : Calls Tryd.prog 80 #[.int .i64 16] w fun e w' => e = .returned (.bool true) ∧ w' = w := by
  have hp : bits BinOp.and IntKind.i64 16 15 = 0 := by kernel_rfl
  go_enter Tryd.func80, Tryd.ntmps80
  go_wp2
  go_ret
  exact ⟨rfl, rfl⟩
set_option maxHeartbeats 4000000 in
set_option maxRecDepth 100000 in
theorem fb_1 (n : Nat) (w : World) (ht : TabOk w) (h1 : n < 16) : Calls Tryd.prog 64 #[.slice none 0 0, .int .u64 n, .int .i64 16, .bool false, .bool false] w fun e w' => e = .returned (.tuple #[.slice none 0 0, .string ⟨#[hexD n]⟩]) ∧ Below w.heap.size w w' := by
  have c64 : (w.alloc (.cells Tryd.zeroCells118 118)).cell? ⟨w.heap.size, 64, none⟩ = some (.int .u8 0) := by rw [World.cell?_alloc_at (hn := rfl)]; kernel_rfl
  have z64 : (w.alloc (.cells Tryd.zeroCells118 118)).frozen? ⟨w.heap.size, 64, none⟩ = false := World.frozen?_alloc_at _ _ _ _ rfl
  go_enter Tryd.func64, Tryd.ntmps64
  go_wp2_with (first
    | (go_at_call 80; refine (pow_calls _).mono ?_; rintro e w1 ⟨rfl, rfl⟩)
    | (go_at_call 81; refine (tz_calls _ (tab_below ht (by repeat (first | exact Below.refl _ _ | apply bA)))).mono ?_; rintro e w1 ⟨rfl, rfl⟩))
  refine wp_loop_rounds 1 ?_
  rw [rounds_succ]
  go_wp2
  simp only [hexE (n) (by omega)]
  have hsz : (Tryd.zeroCells118).size = 65 := by kernel_rfl
  have hC := fun (W : World) hc => (show (convert 71 9 (.slice (some ⟨w.heap.size, 64, none⟩) 1 1)).run Tryd.prog W = .ok (.string ⟨#[hexD n]⟩) W from run_convert_bytes_back W 71 9 5 ⟨w.heap.size, 64, none⟩ 1 [hexD n] Tryd.underlying71 Tryd.underlying5 Tryd.underlying9 hc)
  rw [hC]
  · go_wp2
    exact bodyPost_ret (v := .tuple #[.slice none 0 0, .string ⟨#[hexD n]⟩]) (by simp [results, Tryd.results64, go_sem]) rfl ⟨rfl, bA (Below.refl _ _) _⟩
  · intro j hj
    match j, hj with
    | 0, _ => rw [show (⟨w.heap.size, 64, none⟩ : Addr).add _ = ⟨w.heap.size, _, none⟩ from rfl, World.cell?_alloc_at (hn := rfl)]; simp [hsz]
set_option maxHeartbeats 4000000 in
set_option maxRecDepth 100000 in
theorem fb_2 (n : Nat) (w : World) (ht : TabOk w) (h0 : 16 ≤ n) (h1 : n < 256) : Calls Tryd.prog 64 #[.slice none 0 0, .int .u64 n, .int .i64 16, .bool false, .bool false] w fun e w' => e = .returned (.tuple #[.slice none 0 0, .string ⟨#[hexD (n / 16), hexD n]⟩]) ∧ Below w.heap.size w w' := by
  have c63 : (w.alloc (.cells Tryd.zeroCells118 118)).cell? ⟨w.heap.size, 63, none⟩ = some (.int .u8 0) := by rw [World.cell?_alloc_at (hn := rfl)]; kernel_rfl
  have z63 : (w.alloc (.cells Tryd.zeroCells118 118)).frozen? ⟨w.heap.size, 63, none⟩ = false := World.frozen?_alloc_at _ _ _ _ rfl
  have c64 : (w.alloc (.cells Tryd.zeroCells118 118)).cell? ⟨w.heap.size, 64, none⟩ = some (.int .u8 0) := by rw [World.cell?_alloc_at (hn := rfl)]; kernel_rfl
  have z64 : (w.alloc (.cells Tryd.zeroCells118 118)).frozen? ⟨w.heap.size, 64, none⟩ = false := World.frozen?_alloc_at _ _ _ _ rfl
  have a0 : bits BinOp.and IntKind.u64 ((n : Int)) 15 = ((n % 16 : Nat) : Int) := and15 (n) (by omega)
  go_enter Tryd.func64, Tryd.ntmps64
  go_wp2_with (first
    | (go_at_call 80; refine (pow_calls _).mono ?_; rintro e w1 ⟨rfl, rfl⟩)
    | (go_at_call 81; refine (tz_calls _ (tab_below ht (by repeat (first | exact Below.refl _ _ | apply bA)))).mono ?_; rintro e w1 ⟨rfl, rfl⟩))
  refine wp_loop_rounds 2 ?_
  rw [rounds_succ]
  go_wp2
  simp only [hexC36]
  rw [rounds_succ]
  go_wp2
  simp only [hexE (n / 16) (by omega)]
  have hsz : (Tryd.zeroCells118).size = 65 := by kernel_rfl
  have hC := fun (W : World) hc => (show (convert 71 9 (.slice (some ⟨w.heap.size, 63, none⟩) 2 2)).run Tryd.prog W = .ok (.string ⟨#[hexD (n / 16), hexD n]⟩) W from run_convert_bytes_back W 71 9 5 ⟨w.heap.size, 63, none⟩ 2 [hexD (n / 16), hexD n] Tryd.underlying71 Tryd.underlying5 Tryd.underlying9 hc)
  rw [hC]
  · go_wp2
    exact bodyPost_ret (v := .tuple #[.slice none 0 0, .string ⟨#[hexD (n / 16), hexD n]⟩]) (by simp [results, Tryd.results64, go_sem]) rfl ⟨rfl, bA (Below.refl _ _) _⟩
  · intro j hj
    match j, hj with
    | 0, _ | 1, _ => rw [show (⟨w.heap.size, 63, none⟩ : Addr).add _ = ⟨w.heap.size, _, none⟩ from rfl, World.cell?_alloc_at (hn := rfl)]; simp [hsz]
set_option maxHeartbeats 4000000 in
set_option maxRecDepth 100000 in
theorem fb_3 (n : Nat) (w : World) (ht : TabOk w) (h0 : 256 ≤ n) (h1 : n < 4096) : Calls Tryd.prog 64 #[.slice none 0 0, .int .u64 n, .int .i64 16, .bool false, .bool false] w fun e w' => e = .returned (.tuple #[.slice none 0 0, .string ⟨#[hexD (n / 16 / 16), hexD (n / 16), hexD n]⟩]) ∧ Below w.heap.size w w' := by
  have c62 : (w.alloc (.cells Tryd.zeroCells118 118)).cell? ⟨w.heap.size, 62, none⟩ = some (.int .u8 0) := by rw [World.cell?_alloc_at (hn := rfl)]; kernel_rfl
  have z62 : (w.alloc (.cells Tryd.zeroCells118 118)).frozen? ⟨w.heap.size, 62, none⟩ = false := World.frozen?_alloc_at _ _ _ _ rfl
  have c63 : (w.alloc (.cells Tryd.zeroCells118 118)).cell? ⟨w.heap.size, 63, none⟩ = some (.int .u8 0) := by rw [World.cell?_alloc_at (hn := rfl)]; kernel_rfl
  have z63 : (w.alloc (.cells Tryd.zeroCells118 118)).frozen? ⟨w.heap.size, 63, none⟩ = false := World.frozen?_alloc_at _ _ _ _ rfl
  have c64 : (w.alloc (.cells Tryd.zeroCells118 118)).cell? ⟨w.heap.size, 64, none⟩ = some (.int .u8 0) := by rw [World.cell?_alloc_at (hn := rfl)]; kernel_rfl
  have z64 : (w.alloc (.cells Tryd.zeroCells118 118)).frozen? ⟨w.heap.size, 64, none⟩ = false := World.frozen?_alloc_at _ _ _ _ rfl
  have a0 : bits BinOp.and IntKind.u64 ((n : Int)) 15 = ((n % 16 : Nat) : Int) := and15 (n) (by omega)
  have a1 : bits BinOp.and IntKind.u64 ((n : Int) / 16) 15 = ((n / 16 % 16 : Nat) : Int) := and15 (n / 16) (by omega)
  go_enter Tryd.func64, Tryd.ntmps64
  go_wp2_with (first
    | (go_at_call 80; refine (pow_calls _).mono ?_; rintro e w1 ⟨rfl, rfl⟩)
    | (go_at_call 81; refine (tz_calls _ (tab_below ht (by repeat (first | exact Below.refl _ _ | apply bA)))).mono ?_; rintro e w1 ⟨rfl, rfl⟩))
  refine wp_loop_rounds 3 ?_
  rw [rounds_succ]
  go_wp2
  simp only [hexC36]
  rw [rounds_succ]
  go_wp2
  simp only [hexC36]
  rw [rounds_succ]
  go_wp2
  simp only [hexE (n / 16 / 16) (by omega)]
  have hsz : (Tryd.zeroCells118).size = 65 := by kernel_rfl
  have hC := fun (W : World) hc => (show (convert 71 9 (.slice (some ⟨w.heap.size, 62, none⟩) 3 3)).run Tryd.prog W = .ok (.string ⟨#[hexD (n / 16 / 16), hexD (n / 16), hexD n]⟩) W from run_convert_bytes_back W 71 9 5 ⟨w.heap.size, 62, none⟩ 3 [hexD (n / 16 / 16), hexD (n / 16), hexD n] Tryd.underlying71 Tryd.underlying5 Tryd.underlying9 hc)
  rw [hC]
  · go_wp2
    exact bodyPost_ret (v := .tuple #[.slice none 0 0, .string ⟨#[hexD (n / 16 / 16), hexD (n / 16), hexD n]⟩]) (by simp [results, Tryd.results64, go_sem]) rfl ⟨rfl, bA (Below.refl _ _) _⟩
  · intro j hj
    match j, hj with
    | 0, _ | 1, _ | 2, _ => rw [show (⟨w.heap.size, 62, none⟩ : Addr).add _ = ⟨w.heap.size, _, none⟩ from rfl, World.cell?_alloc_at (hn := rfl)]; simp [hsz]
set_option maxHeartbeats 4000000 in
set_option maxRecDepth 100000 in
theorem fb_4 (n : Nat) (w : World) (ht : TabOk w) (h0 : 4096 ≤ n) (h1 : n < 65536) : Calls Tryd.prog 64 #[.slice none 0 0, .int .u64 n, .int .i64 16, .bool false, .bool false] w fun e w' => e = .returned (.tuple #[.slice none 0 0, .string ⟨#[hexD (n / 16 / 16 / 16), hexD (n / 16 / 16), hexD (n / 16), hexD n]⟩]) ∧ Below w.heap.size w w' := by
  have c61 : (w.alloc (.cells Tryd.zeroCells118 118)).cell? ⟨w.heap.size, 61, none⟩ = some (.int .u8 0) := by rw [World.cell?_alloc_at (hn := rfl)]; kernel_rfl
  have z61 : (w.alloc (.cells Tryd.zeroCells118 118)).frozen? ⟨w.heap.size, 61, none⟩ = false := World.frozen?_alloc_at _ _ _ _ rfl
  have c62 : (w.alloc (.cells Tryd.zeroCells118 118)).cell? ⟨w.heap.size, 62, none⟩ = some (.int .u8 0) := by rw [World.cell?_alloc_at (hn := rfl)]; kernel_rfl
  have z62 : (w.alloc (.cells Tryd.zeroCells118 118)).frozen? ⟨w.heap.size, 62, none⟩ = false := World.frozen?_alloc_at _ _ _ _ rfl
  have c63 : (w.alloc (.cells Tryd.zeroCells118 118)).cell? ⟨w.heap.size, 63, none⟩ = some (.int .u8 0) := by rw [World.cell?_alloc_at (hn := rfl)]; kernel_rfl
  have z63 : (w.alloc (.cells Tryd.zeroCells118 118)).frozen? ⟨w.heap.size, 63, none⟩ = false := World.frozen?_alloc_at _ _ _ _ rfl
  have c64 : (w.alloc (.cells Tryd.zeroCells118 118)).cell? ⟨w.heap.size, 64, none⟩ = some (.int .u8 0) := by rw [World.cell?_alloc_at (hn := rfl)]; kernel_rfl
  have z64 : (w.alloc (.cells Tryd.zeroCells118 118)).frozen? ⟨w.heap.size, 64, none⟩ = false := World.frozen?_alloc_at _ _ _ _ rfl
  have a0 : bits BinOp.and IntKind.u64 ((n : Int)) 15 = ((n % 16 : Nat) : Int) := and15 (n) (by omega)
  have a1 : bits BinOp.and IntKind.u64 ((n : Int) / 16) 15 = ((n / 16 % 16 : Nat) : Int) := and15 (n / 16) (by omega)
  have a2 : bits BinOp.and IntKind.u64 ((n : Int) / 16 / 16) 15 = ((n / 16 / 16 % 16 : Nat) : Int) := and15 (n / 16 / 16) (by omega)
  go_enter Tryd.func64, Tryd.ntmps64
  go_wp2_with (first
    | (go_at_call 80; refine (pow_calls _).mono ?_; rintro e w1 ⟨rfl, rfl⟩)
    | (go_at_call 81; refine (tz_calls _ (tab_below ht (by repeat (first | exact Below.refl _ _ | apply bA)))).mono ?_; rintro e w1 ⟨rfl, rfl⟩))
  refine wp_loop_rounds 4 ?_
  rw [rounds_succ]
  go_wp2
  simp only [hexC36]
  rw [rounds_succ]
  go_wp2
  simp only [hexC36]
  rw [rounds_succ]
  go_wp2
  simp only [hexC36]
  rw [rounds_succ]
  go_wp2
  simp only [hexE (n / 16 / 16 / 16) (by omega)]
  have hsz : (Tryd.zeroCells118).size = 65 := by kernel_rfl
  have hC := fun (W : World) hc => (show (convert 71 9 (.slice (some ⟨w.heap.size, 61, none⟩) 4 4)).run Tryd.prog W = .ok (.string ⟨#[hexD (n / 16 / 16 / 16), hexD (n / 16 / 16), hexD (n / 16), hexD n]⟩) W from run_convert_bytes_back W 71 9 5 ⟨w.heap.size, 61, none⟩ 4 [hexD (n / 16 / 16 / 16), hexD (n / 16 / 16), hexD (n / 16), hexD n] Tryd.underlying71 Tryd.underlying5 Tryd.underlying9 hc)
  rw [hC]
  · go_wp2
    exact bodyPost_ret (v := .tuple #[.slice none 0 0, .string ⟨#[hexD (n / 16 / 16 / 16), hexD (n / 16 / 16), hexD (n / 16), hexD n]⟩]) (by simp [results, Tryd.results64, go_sem]) rfl ⟨rfl, bA (Below.refl _ _) _⟩
  · intro j hj
    match j, hj with
    | 0, _ | 1, _ | 2, _ | 3, _ => rw [show (⟨w.heap.size, 61, none⟩ : Addr).add _ = ⟨w.heap.size, _, none⟩ from rfl, World.cell?_alloc_at (hn := rfl)]; simp [hsz]
set_option maxHeartbeats 4000000 in
set_option maxRecDepth 100000 in
theorem fb_5 (n : Nat) (w : World) (ht : TabOk w) (h0 : 65536 ≤ n) (h1 : n < 1048576) : Calls Tryd.prog 64 #[.slice none 0 0, .int .u64 n, .int .i64 16, .bool false, .bool false] w fun e w' => e = .returned (.tuple #[.slice none 0 0, .string ⟨#[hexD (n / 16 / 16 / 16 / 16), hexD (n / 16 / 16 / 16), hexD (n / 16 / 16), hexD (n / 16), hexD n]⟩]) ∧ Below w.heap.size w w' := by
  have c60 : (w.alloc (.cells Tryd.zeroCells118 118)).cell? ⟨w.heap.size, 60, none⟩ = some (.int .u8 0) := by rw [World.cell?_alloc_at (hn := rfl)]; kernel_rfl
  have z60 : (w.alloc (.cells Tryd.zeroCells118 118)).frozen? ⟨w.heap.size, 60, none⟩ = false := World.frozen?_alloc_at _ _ _ _ rfl
  have c61 : (w.alloc (.cells Tryd.zeroCells118 118)).cell? ⟨w.heap.size, 61, none⟩ = some (.int .u8 0) := by rw [World.cell?_alloc_at (hn := rfl)]; kernel_rfl
  have z61 : (w.alloc (.cells Tryd.zeroCells118 118)).frozen? ⟨w.heap.size, 61, none⟩ = false := World.frozen?_alloc_at _ _ _ _ rfl
  have c62 : (w.alloc (.cells Tryd.zeroCells118 118)).cell? ⟨w.heap.size, 62, none⟩ = some (.int .u8 0) := by rw [World.cell?_alloc_at (hn := rfl)]; kernel_rfl
  have z62 : (w.alloc (.cells Tryd.zeroCells118 118)).frozen? ⟨w.heap.size, 62, none⟩ = false := World.frozen?_alloc_at _ _ _ _ rfl
  have c63 : (w.alloc (.cells Tryd.zeroCells118 118)).cell? ⟨w.heap.size, 63, none⟩ = some (.int .u8 0) := by rw [World.cell?_alloc_at (hn := rfl)]; kernel_rfl
  have z63 : (w.alloc (.cells Tryd.zeroCells118 118)).frozen? ⟨w.heap.size, 63, none⟩ = false := World.frozen?_alloc_at _ _ _ _ rfl
  have c64 : (w.alloc (.cells Tryd.zeroCells118 118)).cell? ⟨w.heap.size, 64, none⟩ = some (.int .u8 0) := by rw [World.cell?_alloc_at (hn := rfl)]; kernel_rfl
  have z64 : (w.alloc (.cells Tryd.zeroCells118 118)).frozen? ⟨w.heap.size, 64, none⟩ = false := World.frozen?_alloc_at _ _ _ _ rfl
  have a0 : bits BinOp.and IntKind.u64 ((n : Int)) 15 = ((n % 16 : Nat) : Int) := and15 (n) (by omega)
  have a1 : bits BinOp.and IntKind.u64 ((n : Int) / 16) 15 = ((n / 16 % 16 : Nat) : Int) := and15 (n / 16) (by omega)
  have a2 : bits BinOp.and IntKind.u64 ((n : Int) / 16 / 16) 15 = ((n / 16 / 16 % 16 : Nat) : Int) := and15 (n / 16 / 16) (by omega)
  have a3 : bits BinOp.and IntKind.u64 ((n : Int) / 16 / 16 / 16) 15 = ((n / 16 / 16 / 16 % 16 : Nat) : Int) := and15 (n / 16 / 16 / 16) (by omega)
  go_enter Tryd.func64, Tryd.ntmps64
  go_wp2_with (first
    | (go_at_call 80; refine (pow_calls _).mono ?_; rintro e w1 ⟨rfl, rfl⟩)
    | (go_at_call 81; refine (tz_calls _ (tab_below ht (by repeat (first | exact Below.refl _ _ | apply bA)))).mono ?_; rintro e w1 ⟨rfl, rfl⟩))
  refine wp_loop_rounds 5 ?_
  rw [rounds_succ]
  go_wp2
  simp only [hexC36]
  rw [rounds_succ]
  go_wp2
  simp only [hexC36]
  rw [rounds_succ]
  go_wp2
  simp only [hexC36]
  rw [rounds_succ]
  go_wp2
  simp only [hexC36]
  rw [rounds_succ]
  go_wp2
  simp only [hexE (n / 16 / 16 / 16 / 16) (by omega)]
  have hsz : (Tryd.zeroCells118).size = 65 := by kernel_rfl
  have hC := fun (W : World) hc => (show (convert 71 9 (.slice (some ⟨w.heap.size, 60, none⟩) 5 5)).run Tryd.prog W = .ok (.string ⟨#[hexD (n / 16 / 16 / 16 / 16), hexD (n / 16 / 16 / 16), hexD (n / 16 / 16), hexD (n / 16), hexD n]⟩) W from run_convert_bytes_back W 71 9 5 ⟨w.heap.size, 60, none⟩ 5 [hexD (n / 16 / 16 / 16 / 16), hexD (n / 16 / 16 / 16), hexD (n / 16 / 16), hexD (n / 16), hexD n] Tryd.underlying71 Tryd.underlying5 Tryd.underlying9 hc)
  rw [hC]
  · go_wp2
    exact bodyPost_ret (v := .tuple #[.slice none 0 0, .string ⟨#[hexD (n / 16 / 16 / 16 / 16), hexD (n / 16 / 16 / 16), hexD (n / 16 / 16), hexD (n / 16), hexD n]⟩]) (by simp [results, Tryd.results64, go_sem]) rfl ⟨rfl, bA (Below.refl _ _) _⟩
  · intro j hj
    match j, hj with
    | 0, _ | 1, _ | 2, _ | 3, _ | 4, _ => rw [show (⟨w.heap.size, 60, none⟩ : Addr).add _ = ⟨w.heap.size, _, none⟩ from rfl, World.cell?_alloc_at (hn := rfl)]; simp [hsz]
set_option maxHeartbeats 4000000 in
set_option maxRecDepth 100000 in
theorem fb_6 (n : Nat) (w : World) (ht : TabOk w) (h0 : 1048576 ≤ n) (h1 : n < 16777216) : Calls Tryd.prog 64 #[.slice none 0 0, .int .u64 n, .int .i64 16, .bool false, .bool false] w fun e w' => e = .returned (.tuple #[.slice none 0 0, .string ⟨#[hexD (n / 16 / 16 / 16 / 16 / 16), hexD (n / 16 / 16 / 16 / 16), hexD (n / 16 / 16 / 16), hexD (n / 16 / 16), hexD (n / 16), hexD n]⟩]) ∧ Below w.heap.size w w' := by
  have c59 : (w.alloc (.cells Tryd.zeroCells118 118)).cell? ⟨w.heap.size, 59, none⟩ = some (.int .u8 0) := by rw [World.cell?_alloc_at (hn := rfl)]; kernel_rfl
  have z59 : (w.alloc (.cells Tryd.zeroCells118 118)).frozen? ⟨w.heap.size, 59, none⟩ = false := World.frozen?_alloc_at _ _ _ _ rfl
  have c60 : (w.alloc (.cells Tryd.zeroCells118 118)).cell? ⟨w.heap.size, 60, none⟩ = some (.int .u8 0) := by rw [World.cell?_alloc_at (hn := rfl)]; kernel_rfl
  have z60 : (w.alloc (.cells Tryd.zeroCells118 118)).frozen? ⟨w.heap.size, 60, none⟩ = false := World.frozen?_alloc_at _ _ _ _ rfl
  have c61 : (w.alloc (.cells Tryd.zeroCells118 118)).cell? ⟨w.heap.size, 61, none⟩ = some (.int .u8 0) := by rw [World.cell?_alloc_at (hn := rfl)]; kernel_rfl
  have z61 : (w.alloc (.cells Tryd.zeroCells118 118)).frozen? ⟨w.heap.size, 61, none⟩ = false := World.frozen?_alloc_at _ _ _ _ rfl
  have c62 : (w.alloc (.cells Tryd.zeroCells118 118)).cell? ⟨w.heap.size, 62, none⟩ = some (.int .u8 0) := by rw [World.cell?_alloc_at (hn := rfl)]; kernel_rfl
  have z62 : (w.alloc (.cells Tryd.zeroCells118 118)).frozen? ⟨w.heap.size, 62, none⟩ = false := World.frozen?_alloc_at _ _ _ _ rfl
  have c63 : (w.alloc (.cells Tryd.zeroCells118 118)).cell? ⟨w.heap.size, 63, none⟩ = some (.int .u8 0) := by rw [World.cell?_alloc_at (hn := rfl)]; kernel_rfl
  have z63 : (w.alloc (.cells Tryd.zeroCells118 118)).frozen? ⟨w.heap.size, 63, none⟩ = false := World.frozen?_alloc_at _ _ _ _ rfl
  have c64 : (w.alloc (.cells Tryd.zeroCells118 118)).cell? ⟨w.heap.size, 64, none⟩ = some (.int .u8 0) := by rw [World.cell?_alloc_at (hn := rfl)]; kernel_rfl
  have z64 : (w.alloc (.cells Tryd.zeroCells118 118)).frozen? ⟨w.heap.size, 64, none⟩ = false := World.frozen?_alloc_at _ _ _ _ rfl
  have a0 : bits BinOp.and IntKind.u64 ((n : Int)) 15 = ((n % 16 : Nat) : Int) := and15 (n) (by omega)
  have a1 : bits BinOp.and IntKind.u64 ((n : Int) / 16) 15 = ((n / 16 % 16 : Nat) : Int) := and15 (n / 16) (by omega)
  have a2 : bits BinOp.and IntKind.u64 ((n : Int) / 16 / 16) 15 = ((n / 16 / 16 % 16 : Nat) : Int) := and15 (n / 16 / 16) (by omega)
  have a3 : bits BinOp.and IntKind.u64 ((n : Int) / 16 / 16 / 16) 15 = ((n / 16 / 16 / 16 % 16 : Nat) : Int) := and15 (n / 16 / 16 / 16) (by omega)
  have a4 : bits BinOp.and IntKind.u64 ((n : Int) / 16 / 16 / 16 / 16) 15 = ((n / 16 / 16 / 16 / 16 % 16 : Nat) : Int) := and15 (n / 16 / 16 / 16 / 16) (by omega)
  go_enter Tryd.func64, Tryd.ntmps64
  go_wp2_with (first
    | (go_at_call 80; refine (pow_calls _).mono ?_; rintro e w1 ⟨rfl, rfl⟩)
    | (go_at_call 81; refine (tz_calls _ (tab_below ht (by repeat (first | exact Below.refl _ _ | apply bA)))).mono ?_; rintro e w1 ⟨rfl, rfl⟩))
  refine wp_loop_rounds 6 ?_
  rw [rounds_succ]
  go_wp2
  simp only [hexC36]
  rw [rounds_succ]
  go_wp2
  simp only [hexC36]
  rw [rounds_succ]
  go_wp2
  simp only [hexC36]
  rw [rounds_succ]
  go_wp2
  simp only [hexC36]
  rw [rounds_succ]
  go_wp2
  simp only [hexC36]
  rw [rounds_succ]
  go_wp2
  simp only [hexE (n / 16 / 16 / 16 / 16 / 16) (by omega)]
  have hsz : (Tryd.zeroCells118).size = 65 := by kernel_rfl
  have hC := fun (W : World) hc => (show (convert 71 9 (.slice (some ⟨w.heap.size, 59, none⟩) 6 6)).run Tryd.prog W = .ok (.string ⟨#[hexD (n / 16 / 16 / 16 / 16 / 16), hexD (n / 16 / 16 / 16 / 16), hexD (n / 16 / 16 / 16), hexD (n / 16 / 16), hexD (n / 16), hexD n]⟩) W from run_convert_bytes_back W 71 9 5 ⟨w.heap.size, 59, none⟩ 6 [hexD (n / 16 / 16 / 16 / 16 / 16), hexD (n / 16 / 16 / 16 / 16), hexD (n / 16 / 16 / 16), hexD (n / 16 / 16), hexD (n / 16), hexD n] Tryd.underlying71 Tryd.underlying5 Tryd.underlying9 hc)
  rw [hC]
  · go_wp2
    exact bodyPost_ret (v := .tuple #[.slice none 0 0, .string ⟨#[hexD (n / 16 / 16 / 16 / 16 / 16), hexD (n / 16 / 16 / 16 / 16), hexD (n / 16 / 16 / 16), hexD (n / 16 / 16), hexD (n / 16), hexD n]⟩]) (by simp [results, Tryd.results64, go_sem]) rfl ⟨rfl, bA (Below.refl _ _) _⟩
  · intro j hj
    match j, hj with
    | 0, _ | 1, _ | 2, _ | 3, _ | 4, _ | 5, _ => rw [show (⟨w.heap.size, 59, none⟩ : Addr).add _ = ⟨w.heap.size, _, none⟩ from rfl, World.cell?_alloc_at (hn := rfl)]; simp [hsz]
set_option maxHeartbeats 4000000 in
set_option maxRecDepth 100000 in
theorem fb_7 (n : Nat) (w : World) (ht : TabOk w) (h0 : 16777216 ≤ n) (h1 : n < 268435456) : Calls Tryd.prog 64 #[.slice none 0 0, .int .u64 n, .int .i64 16, .bool false, .bool false] w fun e w' => e = .returned (.tuple #[.slice none 0 0, .string ⟨#[hexD (n / 16 / 16 / 16 / 16 / 16 / 16), hexD (n / 16 / 16 / 16 / 16 / 16), hexD (n / 16 / 16 / 16 / 16), hexD (n / 16 / 16 / 16), hexD (n / 16 / 16), hexD (n / 16), hexD n]⟩]) ∧ Below w.heap.size w w' := by
  have c58 : (w.alloc (.cells Tryd.zeroCells118 118)).cell? ⟨w.heap.size, 58, none⟩ = some (.int .u8 0) := by rw [World.cell?_alloc_at (hn := rfl)]; kernel_rfl
  have z58 : (w.alloc (.cells Tryd.zeroCells118 118)).frozen? ⟨w.heap.size, 58, none⟩ = false := World.frozen?_alloc_at _ _ _ _ rfl
  have c59 : (w.alloc (.cells Tryd.zeroCells118 118)).cell? ⟨w.heap.size, 59, none⟩ = some (.int .u8 0) := by rw [World.cell?_alloc_at (hn := rfl)]; kernel_rfl
  have z59 : (w.alloc (.cells Tryd.zeroCells118 118)).frozen? ⟨w.heap.size, 59, none⟩ = false := World.frozen?_alloc_at _ _ _ _ rfl
  have c60 : (w.alloc (.cells Tryd.zeroCells118 118)).cell? ⟨w.heap.size, 60, none⟩ = some (.int .u8 0) := by rw [World.cell?_alloc_at (hn := rfl)]; kernel_rfl
  have z60 : (w.alloc (.cells Tryd.zeroCells118 118)).frozen? ⟨w.heap.size, 60, none⟩ = false := World.frozen?_alloc_at _ _ _ _ rfl
  have c61 : (w.alloc (.cells Tryd.zeroCells118 118)).cell? ⟨w.heap.size, 61, none⟩ = some (.int .u8 0) := by rw [World.cell?_alloc_at (hn := rfl)]; kernel_rfl
  have z61 : (w.alloc (.cells Tryd.zeroCells118 118)).frozen? ⟨w.heap.size, 61, none⟩ = false := World.frozen?_alloc_at _ _ _ _ rfl
  have c62 : (w.alloc (.cells Tryd.zeroCells118 118)).cell? ⟨w.heap.size, 62, none⟩ = some (.int .u8 0) := by rw [World.cell?_alloc_at (hn := rfl)]; kernel_rfl
  have z62 : (w.alloc (.cells Tryd.zeroCells118 118)).frozen? ⟨w.heap.size, 62, none⟩ = false := World.frozen?_alloc_at _ _ _ _ rfl
  have c63 : (w.alloc (.cells Tryd.zeroCells118 118)).cell? ⟨w.heap.size, 63, none⟩ = some (.int .u8 0) := by rw [World.cell?_alloc_at (hn := rfl)]; kernel_rfl
  have z63 : (w.alloc (.cells Tryd.zeroCells118 118)).frozen? ⟨w.heap.size, 63, none⟩ = false := World.frozen?_alloc_at _ _ _ _ rfl
  have c64 : (w.alloc (.cells Tryd.zeroCells118 118)).cell? ⟨w.heap.size, 64, none⟩ = some (.int .u8 0) := by rw [World.cell?_alloc_at (hn := rfl)]; kernel_rfl
  have z64 : (w.alloc (.cells Tryd.zeroCells118 118)).frozen? ⟨w.heap.size, 64, none⟩ = false := World.frozen?_alloc_at _ _ _ _ rfl
  have a0 : bits BinOp.and IntKind.u64 ((n : Int)) 15 = ((n % 16 : Nat) : Int) := and15 (n) (by omega)
  have a1 : bits BinOp.and IntKind.u64 ((n : Int) / 16) 15 = ((n / 16 % 16 : Nat) : Int) := and15 (n / 16) (by omega)
  have a2 : bits BinOp.and IntKind.u64 ((n : Int) / 16 / 16) 15 = ((n / 16 / 16 % 16 : Nat) : Int) := and15 (n / 16 / 16) (by omega)
  have a3 : bits BinOp.and IntKind.u64 ((n : Int) / 16 / 16 / 16) 15 = ((n / 16 / 16 / 16 % 16 : Nat) : Int) := and15 (n / 16 / 16 / 16) (by omega)
  have a4 : bits BinOp.and IntKind.u64 ((n : Int) / 16 / 16 / 16 / 16) 15 = ((n / 16 / 16 / 16 / 16 % 16 : Nat) : Int) := and15 (n / 16 / 16 / 16 / 16) (by omega)
  have a5 : bits BinOp.and IntKind.u64 ((n : Int) / 16 / 16 / 16 / 16 / 16) 15 = ((n / 16 / 16 / 16 / 16 / 16 % 16 : Nat) : Int) := and15 (n / 16 / 16 / 16 / 16 / 16) (by omega)
  go_enter Tryd.func64, Tryd.ntmps64
  go_wp2_with (first
    | (go_at_call 80; refine (pow_calls _).mono ?_; rintro e w1 ⟨rfl, rfl⟩)
    | (go_at_call 81; refine (tz_calls _ (tab_below ht (by repeat (first | exact Below.refl _ _ | apply bA)))).mono ?_; rintro e w1 ⟨rfl, rfl⟩))
  refine wp_loop_rounds 7 ?_
  rw [rounds_succ]
  go_wp2
  simp only [hexC36]
  rw [rounds_succ]
  go_wp2
  simp only [hexC36]
  rw [rounds_succ]
  go_wp2
  simp only [hexC36]
  rw [rounds_succ]
  go_wp2
  simp only [hexC36]
  rw [rounds_succ]
  go_wp2
  simp only [hexC36]
  rw [rounds_succ]
  go_wp2
  simp only [hexC36]
  rw [rounds_succ]
  go_wp2
  simp only [hexE (n / 16 / 16 / 16 / 16 / 16 / 16) (by omega)]
  have hsz : (Tryd.zeroCells118).size = 65 := by kernel_rfl
  have hC := fun (W : World) hc => (show (convert 71 9 (.slice (some ⟨w.heap.size, 58, none⟩) 7 7)).run Tryd.prog W = .ok (.string ⟨#[hexD (n / 16 / 16 / 16 / 16 / 16 / 16), hexD (n / 16 / 16 / 16 / 16 / 16), hexD (n / 16 / 16 / 16 / 16), hexD (n / 16 / 16 / 16), hexD (n / 16 / 16), hexD (n / 16), hexD n]⟩) W from run_convert_bytes_back W 71 9 5 ⟨w.heap.size, 58, none⟩ 7 [hexD (n / 16 / 16 / 16 / 16 / 16 / 16), hexD (n / 16 / 16 / 16 / 16 / 16), hexD (n / 16 / 16 / 16 / 16), hexD (n / 16 / 16 / 16), hexD (n / 16 / 16), hexD (n / 16), hexD n] Tryd.underlying71 Tryd.underlying5 Tryd.underlying9 hc)
  rw [hC]
  · go_wp2
    exact bodyPost_ret (v := .tuple #[.slice none 0 0, .string ⟨#[hexD (n / 16 / 16 / 16 / 16 / 16 / 16), hexD (n / 16 / 16 / 16 / 16 / 16), hexD (n / 16 / 16 / 16 / 16), hexD (n / 16 / 16 / 16), hexD (n / 16 / 16), hexD (n / 16), hexD n]⟩]) (by simp [results, Tryd.results64, go_sem]) rfl ⟨rfl, bA (Below.refl _ _) _⟩
  · intro j hj
    match j, hj with
    | 0, _ | 1, _ | 2, _ | 3, _ | 4, _ | 5, _ | 6, _ => rw [show (⟨w.heap.size, 58, none⟩ : Addr).add _ = ⟨w.heap.size, _, none⟩ from rfl, World.cell?_alloc_at (hn := rfl)]; simp [hsz]
set_option maxHeartbeats 4000000 in
set_option maxRecDepth 100000 in
theorem fb_8 (n : Nat) (w : World) (ht : TabOk w) (h0 : 268435456 ≤ n) (h1 : n < 4294967296) : Calls Tryd.prog 64 #[.slice none 0 0, .int .u64 n, .int .i64 16, .bool false, .bool false] w fun e w' => e = .returned (.tuple #[.slice none 0 0, .string ⟨#[hexD (n / 16 / 16 / 16 / 16 / 16 / 16 / 16), hexD (n / 16 / 16 / 16 / 16 / 16 / 16), hexD (n / 16 / 16 / 16 / 16 / 16), hexD (n / 16 / 16 / 16 / 16), hexD (n / 16 / 16 / 16), hexD (n / 16 / 16), hexD (n / 16), hexD n]⟩]) ∧ Below w.heap.size w w' := by
  have c57 : (w.alloc (.cells Tryd.zeroCells118 118)).cell? ⟨w.heap.size, 57, none⟩ = some (.int .u8 0) := by rw [World.cell?_alloc_at (hn := rfl)]; kernel_rfl
  have z57 : (w.alloc (.cells Tryd.zeroCells118 118)).frozen? ⟨w.heap.size, 57, none⟩ = false := World.frozen?_alloc_at _ _ _ _ rfl
  have c58 : (w.alloc (.cells Tryd.zeroCells118 118)).cell? ⟨w.heap.size, 58, none⟩ = some (.int .u8 0) := by rw [World.cell?_alloc_at (hn := rfl)]; kernel_rfl
  have z58 : (w.alloc (.cells Tryd.zeroCells118 118)).frozen? ⟨w.heap.size, 58, none⟩ = false := World.frozen?_alloc_at _ _ _ _ rfl
  have c59 : (w.alloc (.cells Tryd.zeroCells118 118)).cell? ⟨w.heap.size, 59, none⟩ = some (.int .u8 0) := by rw [World.cell?_alloc_at (hn := rfl)]; kernel_rfl
  have z59 : (w.alloc (.cells Tryd.zeroCells118 118)).frozen? ⟨w.heap.size, 59, none⟩ = false := World.frozen?_alloc_at _ _ _ _ rfl
  have c60 : (w.alloc (.cells Tryd.zeroCells118 118)).cell? ⟨w.heap.size, 60, none⟩ = some (.int .u8 0) := by rw [World.cell?_alloc_at (hn := rfl)]; kernel_rfl
  have z60 : (w.alloc (.cells Tryd.zeroCells118 118)).frozen? ⟨w.heap.size, 60, none⟩ = false := World.frozen?_alloc_at _ _ _ _ rfl
  have c61 : (w.alloc (.cells Tryd.zeroCells118 118)).cell? ⟨w.heap.size, 61, none⟩ = some (.int .u8 0) := by rw [World.cell?_alloc_at (hn := rfl)]; kernel_rfl
  have z61 : (w.alloc (.cells Tryd.zeroCells118 118)).frozen? ⟨w.heap.size, 61, none⟩ = false := World.frozen?_alloc_at _ _ _ _ rfl
  have c62 : (w.alloc (.cells Tryd.zeroCells118 118)).cell? ⟨w.heap.size, 62, none⟩ = some (.int .u8 0) := by rw [World.cell?_alloc_at (hn := rfl)]; kernel_rfl
  have z62 : (w.alloc (.cells Tryd.zeroCells118 118)).frozen? ⟨w.heap.size, 62, none⟩ = false := World.frozen?_alloc_at _ _ _ _ rfl
  have c63 : (w.alloc (.cells Tryd.zeroCells118 118)).cell? ⟨w.heap.size, 63, none⟩ = some (.int .u8 0) := by rw [World.cell?_alloc_at (hn := rfl)]; kernel_rfl
  have z63 : (w.alloc (.cells Tryd.zeroCells118 118)).frozen? ⟨w.heap.size, 63, none⟩ = false := World.frozen?_alloc_at _ _ _ _ rfl
  have c64 : (w.alloc (.cells Tryd.zeroCells118 118)).cell? ⟨w.heap.size, 64, none⟩ = some (.int .u8 0) := by rw [World.cell?_alloc_at (hn := rfl)]; kernel_rfl
  have z64 : (w.alloc (.cells Tryd.zeroCells118 118)).frozen? ⟨w.heap.size, 64, none⟩ = false := World.frozen?_alloc_at _ _ _ _ rfl
  have a0 : bits BinOp.and IntKind.u64 ((n : Int)) 15 = ((n % 16 : Nat) : Int) := and15 (n) (by omega)
  have a1 : bits BinOp.and IntKind.u64 ((n : Int) / 16) 15 = ((n / 16 % 16 : Nat) : Int) := and15 (n / 16) (by omega)
  have a2 : bits BinOp.and IntKind.u64 ((n : Int) / 16 / 16) 15 = ((n / 16 / 16 % 16 : Nat) : Int) := and15 (n / 16 / 16) (by omega)
  have a3 : bits BinOp.and IntKind.u64 ((n : Int) / 16 / 16 / 16) 15 = ((n / 16 / 16 / 16 % 16 : Nat) : Int) := and15 (n / 16 / 16 / 16) (by omega)
  have a4 : bits BinOp.and IntKind.u64 ((n : Int) / 16 / 16 / 16 / 16) 15 = ((n / 16 / 16 / 16 / 16 % 16 : Nat) : Int) := and15 (n / 16 / 16 / 16 / 16) (by omega)
  have a5 : bits BinOp.and IntKind.u64 ((n : Int) / 16 / 16 / 16 / 16 / 16) 15 = ((n / 16 / 16 / 16 / 16 / 16 % 16 : Nat) : Int) := and15 (n / 16 / 16 / 16 / 16 / 16) (by omega)
  have a6 : bits BinOp.and IntKind.u64 ((n : Int) / 16 / 16 / 16 / 16 / 16 / 16) 15 = ((n / 16 / 16 / 16 / 16 / 16 / 16 % 16 : Nat) : Int) := and15 (n / 16 / 16 / 16 / 16 / 16 / 16) (by omega)
  go_enter Tryd.func64, Tryd.ntmps64
  go_wp2_with (first
    | (go_at_call 80; refine (pow_calls _).mono ?_; rintro e w1 ⟨rfl, rfl⟩)
    | (go_at_call 81; refine (tz_calls _ (tab_below ht (by repeat (first | exact Below.refl _ _ | apply bA)))).mono ?_; rintro e w1 ⟨rfl, rfl⟩))
  refine wp_loop_rounds 8 ?_
  rw [rounds_succ]
  go_wp2
  simp only [hexC36]
  rw [rounds_succ]
  go_wp2
  simp only [hexC36]
  rw [rounds_succ]
  go_wp2
  simp only [hexC36]
  rw [rounds_succ]
  go_wp2
  simp only [hexC36]
  rw [rounds_succ]
  go_wp2
  simp only [hexC36]
  rw [rounds_succ]
  go_wp2
  simp only [hexC36]
  rw [rounds_succ]
  go_wp2
  simp only [hexC36]
  rw [rounds_succ]
  go_wp2
  simp only [hexE (n / 16 / 16 / 16 / 16 / 16 / 16 / 16) (by omega)]
  have hsz : (Tryd.zeroCells118).size = 65 := by kernel_rfl
  have hC := fun (W : World) hc => (show (convert 71 9 (.slice (some ⟨w.heap.size, 57, none⟩) 8 8)).run Tryd.prog W = .ok (.string ⟨#[hexD (n / 16 / 16 / 16 / 16 / 16 / 16 / 16), hexD (n / 16 / 16 / 16 / 16 / 16 / 16), hexD (n / 16 / 16 / 16 / 16 / 16), hexD (n / 16 / 16 / 16 / 16), hexD (n / 16 / 16 / 16), hexD (n / 16 / 16), hexD (n / 16), hexD n]⟩) W from run_convert_bytes_back W 71 9 5 ⟨w.heap.size, 57, none⟩ 8 [hexD (n / 16 / 16 / 16 / 16 / 16 / 16 / 16), hexD (n / 16 / 16 / 16 / 16 / 16 / 16), hexD (n / 16 / 16 / 16 / 16 / 16), hexD (n / 16 / 16 / 16 / 16), hexD (n / 16 / 16 / 16), hexD (n / 16 / 16), hexD (n / 16), hexD n] Tryd.underlying71 Tryd.underlying5 Tryd.underlying9 hc)
  rw [hC]
  · go_wp2
    exact bodyPost_ret (v := .tuple #[.slice none 0 0, .string ⟨#[hexD (n / 16 / 16 / 16 / 16 / 16 / 16 / 16), hexD (n / 16 / 16 / 16 / 16 / 16 / 16), hexD (n / 16 / 16 / 16 / 16 / 16), hexD (n / 16 / 16 / 16 / 16), hexD (n / 16 / 16 / 16), hexD (n / 16 / 16), hexD (n / 16), hexD n]⟩]) (by simp [results, Tryd.results64, go_sem]) rfl ⟨rfl, bA (Below.refl _ _) _⟩
  · intro j hj
    match j, hj with
    | 0, _ | 1, _ | 2, _ | 3, _ | 4, _ | 5, _ | 6, _ | 7, _ => rw [show (⟨w.heap.size, 57, none⟩ : Addr).add _ = ⟨w.heap.size, _, none⟩ from rfl, World.cell?_alloc_at (hn := rfl)]; simp [hsz]
end Tx
end Go.Proofs.YtbidagapkcmfnaaDoor
end
