/-
  Numbers: their texts, by the program. No condition.
-/
import Derived.Test.YtbidagapkcmfnaaDoorHc
noncomputable section
namespace Go.Proofs.YtbidagapkcmfnaaDoor
namespace Tx
open Go Go.RowKit
theorem cat_run (a b : ByteArray) (h : a.size + b.size ≤ 9223372036854775807) (w : World) : (Op.stringOp .add a b).run Tryd.prog w = .ok (.string (a ++ b)) w := by
  exact run_string_add_sum w a b h
set_option maxHeartbeats 4000000 in
set_option maxRecDepth 100000 in
theorem fi_1 (n : Nat) (w : World) (ht : TabOk w) (h1 : n < 16) : Calls Tryd.prog 43 #[.int .u64 n, .int .i64 16] w fun e w' => e = .returned (.string ⟨#[hexD n]⟩) ∧ Below w.heap.size w w' := by
  go_enter Tryd.func43, Tryd.ntmps43
  go_wp2_with (go_at_call 64; refine (fb_1 n _ ht h1).mono ?_; rintro e w' ⟨rfl, hb⟩)
  go_ret
  exact ⟨rfl, hb⟩
set_option maxHeartbeats 4000000 in
set_option maxRecDepth 100000 in
theorem fs_1 (n : Nat) (w : World) (ht : TabOk w) (h1 : n < 16) : Calls Tryd.prog 27 #[.int .u64 n, .int .i64 16] w fun e w' => e = .returned (.string ⟨#[hexD n]⟩) ∧ Below w.heap.size w w' := by
  go_enter Tryd.func27, Tryd.ntmps27
  go_wp2_with (go_at_call 43; refine (fi_1 n _ ht h1).mono ?_; rintro e w' ⟨rfl, hb⟩)
  go_ret
  exact ⟨rfl, hb⟩
set_option maxHeartbeats 4000000 in
set_option maxRecDepth 100000 in
theorem nt_1 (a n : Nat) (w : World) (ht : TabOk w) (hn : nB a = n) (h1 : n < 16) : Calls Tryd.prog 18 #[.float .f32 a] w fun e w' => e = .returned (.string (hexB n)) ∧ Below w.heap.size w w' := by
  have hZ : (⟨(Lib.repeatL (⟨#[48]⟩ : ByteArray).data.toList 7).toArray⟩ : ByteArray) = ⟨#[48, 48, 48, 48, 48, 48, 48]⟩ := by rfl
  have hB : (⟨#[48, 48, 48, 48, 48, 48, 48]⟩ : ByteArray) ++ ⟨#[hexD n]⟩ = hexB n := by
    unfold hexB
    have z1 : n / 16 = 0 := by omega
    have z2 : n / 16 / 16 = 0 := by omega
    have z3 : n / 16 / 16 / 16 = 0 := by omega
    have z4 : n / 16 / 16 / 16 / 16 = 0 := by omega
    have z5 : n / 16 / 16 / 16 / 16 / 16 = 0 := by omega
    have z6 : n / 16 / 16 / 16 / 16 / 16 / 16 = 0 := by omega
    have z7 : n / 16 / 16 / 16 / 16 / 16 / 16 / 16 = 0 := by omega
    rw [z7, z6, z5, z4, z3, z2, z1]
    rfl
  have hS : ∀ W : World, (Op.stringOp .add ⟨#[48, 48, 48, 48, 48, 48, 48]⟩ ⟨#[hexD n]⟩).run Tryd.prog W = .ok (.string (hexB n)) W := fun W => by rw [cat_run _ _ (by simp [ByteArray.size]), hB]
  go_enter Tryd.func18, Tryd.ntmps18
  go_wp2_with (first
    | (go_at_call 28; refine (ibits_calls a _).mono ?_; rw [hn]; rintro e w1 ⟨rfl, hb⟩)
    | (go_at_call 27; refine (fs_1 n _ (tab_below ht hb) h1).mono ?_; rintro e w2 ⟨rfl, hc⟩)
    | (go_at_call 29; refine (Tryd.strings_Repeat ⟨#[48]⟩ 7 _ (by decide) (by decide)).mono ?_; rw [hZ]; rintro e w3 ⟨rfl, hd⟩))
  go_ret
  exact ⟨rfl, hb.trans ((hc.mono hb.size).trans (hd.mono (Nat.le_trans hb.size hc.size)))⟩
set_option maxHeartbeats 4000000 in
set_option maxRecDepth 100000 in
theorem fi_2 (n : Nat) (w : World) (ht : TabOk w) (h0 : 16 ≤ n) (h1 : n < 256) : Calls Tryd.prog 43 #[.int .u64 n, .int .i64 16] w fun e w' => e = .returned (.string ⟨#[hexD (n / 16), hexD n]⟩) ∧ Below w.heap.size w w' := by
  go_enter Tryd.func43, Tryd.ntmps43
  go_wp2_with (go_at_call 64; refine (fb_2 n _ ht h0 h1).mono ?_; rintro e w' ⟨rfl, hb⟩)
  go_ret
  exact ⟨rfl, hb⟩
set_option maxHeartbeats 4000000 in
set_option maxRecDepth 100000 in
theorem fs_2 (n : Nat) (w : World) (ht : TabOk w) (h0 : 16 ≤ n) (h1 : n < 256) : Calls Tryd.prog 27 #[.int .u64 n, .int .i64 16] w fun e w' => e = .returned (.string ⟨#[hexD (n / 16), hexD n]⟩) ∧ Below w.heap.size w w' := by
  go_enter Tryd.func27, Tryd.ntmps27
  go_wp2_with (go_at_call 43; refine (fi_2 n _ ht h0 h1).mono ?_; rintro e w' ⟨rfl, hb⟩)
  go_ret
  exact ⟨rfl, hb⟩
set_option maxHeartbeats 4000000 in
set_option maxRecDepth 100000 in
theorem nt_2 (a n : Nat) (w : World) (ht : TabOk w) (hn : nB a = n) (h0 : 16 ≤ n) (h1 : n < 256) : Calls Tryd.prog 18 #[.float .f32 a] w fun e w' => e = .returned (.string (hexB n)) ∧ Below w.heap.size w w' := by
  have hZ : (⟨(Lib.repeatL (⟨#[48]⟩ : ByteArray).data.toList 6).toArray⟩ : ByteArray) = ⟨#[48, 48, 48, 48, 48, 48]⟩ := by rfl
  have hB : (⟨#[48, 48, 48, 48, 48, 48]⟩ : ByteArray) ++ ⟨#[hexD (n / 16), hexD n]⟩ = hexB n := by
    unfold hexB
    have z2 : n / 16 / 16 = 0 := by omega
    have z3 : n / 16 / 16 / 16 = 0 := by omega
    have z4 : n / 16 / 16 / 16 / 16 = 0 := by omega
    have z5 : n / 16 / 16 / 16 / 16 / 16 = 0 := by omega
    have z6 : n / 16 / 16 / 16 / 16 / 16 / 16 = 0 := by omega
    have z7 : n / 16 / 16 / 16 / 16 / 16 / 16 / 16 = 0 := by omega
    rw [z7, z6, z5, z4, z3, z2]
    rfl
  have hS : ∀ W : World, (Op.stringOp .add ⟨#[48, 48, 48, 48, 48, 48]⟩ ⟨#[hexD (n / 16), hexD n]⟩).run Tryd.prog W = .ok (.string (hexB n)) W := fun W => by rw [cat_run _ _ (by simp [ByteArray.size]), hB]
  go_enter Tryd.func18, Tryd.ntmps18
  go_wp2_with (first
    | (go_at_call 28; refine (ibits_calls a _).mono ?_; rw [hn]; rintro e w1 ⟨rfl, hb⟩)
    | (go_at_call 27; refine (fs_2 n _ (tab_below ht hb) h0 h1).mono ?_; rintro e w2 ⟨rfl, hc⟩)
    | (go_at_call 29; refine (Tryd.strings_Repeat ⟨#[48]⟩ 6 _ (by decide) (by decide)).mono ?_; rw [hZ]; rintro e w3 ⟨rfl, hd⟩))
  go_ret
  exact ⟨rfl, hb.trans ((hc.mono hb.size).trans (hd.mono (Nat.le_trans hb.size hc.size)))⟩
set_option maxHeartbeats 4000000 in
set_option maxRecDepth 100000 in
theorem fi_3 (n : Nat) (w : World) (ht : TabOk w) (h0 : 256 ≤ n) (h1 : n < 4096) : Calls Tryd.prog 43 #[.int .u64 n, .int .i64 16] w fun e w' => e = .returned (.string ⟨#[hexD (n / 16 / 16), hexD (n / 16), hexD n]⟩) ∧ Below w.heap.size w w' := by
  go_enter Tryd.func43, Tryd.ntmps43
  go_wp2_with (go_at_call 64; refine (fb_3 n _ ht h0 h1).mono ?_; rintro e w' ⟨rfl, hb⟩)
  go_ret
  exact ⟨rfl, hb⟩
set_option maxHeartbeats 4000000 in
set_option maxRecDepth 100000 in
theorem fs_3 (n : Nat) (w : World) (ht : TabOk w) (h0 : 256 ≤ n) (h1 : n < 4096) : Calls Tryd.prog 27 #[.int .u64 n, .int .i64 16] w fun e w' => e = .returned (.string ⟨#[hexD (n / 16 / 16), hexD (n / 16), hexD n]⟩) ∧ Below w.heap.size w w' := by
  go_enter Tryd.func27, Tryd.ntmps27
  go_wp2_with (go_at_call 43; refine (fi_3 n _ ht h0 h1).mono ?_; rintro e w' ⟨rfl, hb⟩)
  go_ret
  exact ⟨rfl, hb⟩
set_option maxHeartbeats 4000000 in
set_option maxRecDepth 100000 in
theorem nt_3 (a n : Nat) (w : World) (ht : TabOk w) (hn : nB a = n) (h0 : 256 ≤ n) (h1 : n < 4096) : Calls Tryd.prog 18 #[.float .f32 a] w fun e w' => e = .returned (.string (hexB n)) ∧ Below w.heap.size w w' := by
  have hZ : (⟨(Lib.repeatL (⟨#[48]⟩ : ByteArray).data.toList 5).toArray⟩ : ByteArray) = ⟨#[48, 48, 48, 48, 48]⟩ := by rfl
  have hB : (⟨#[48, 48, 48, 48, 48]⟩ : ByteArray) ++ ⟨#[hexD (n / 16 / 16), hexD (n / 16), hexD n]⟩ = hexB n := by
    unfold hexB
    have z3 : n / 16 / 16 / 16 = 0 := by omega
    have z4 : n / 16 / 16 / 16 / 16 = 0 := by omega
    have z5 : n / 16 / 16 / 16 / 16 / 16 = 0 := by omega
    have z6 : n / 16 / 16 / 16 / 16 / 16 / 16 = 0 := by omega
    have z7 : n / 16 / 16 / 16 / 16 / 16 / 16 / 16 = 0 := by omega
    rw [z7, z6, z5, z4, z3]
    rfl
  have hS : ∀ W : World, (Op.stringOp .add ⟨#[48, 48, 48, 48, 48]⟩ ⟨#[hexD (n / 16 / 16), hexD (n / 16), hexD n]⟩).run Tryd.prog W = .ok (.string (hexB n)) W := fun W => by rw [cat_run _ _ (by simp [ByteArray.size]), hB]
  go_enter Tryd.func18, Tryd.ntmps18
  go_wp2_with (first
    | (go_at_call 28; refine (ibits_calls a _).mono ?_; rw [hn]; rintro e w1 ⟨rfl, hb⟩)
    | (go_at_call 27; refine (fs_3 n _ (tab_below ht hb) h0 h1).mono ?_; rintro e w2 ⟨rfl, hc⟩)
    | (go_at_call 29; refine (Tryd.strings_Repeat ⟨#[48]⟩ 5 _ (by decide) (by decide)).mono ?_; rw [hZ]; rintro e w3 ⟨rfl, hd⟩))
  go_ret
  exact ⟨rfl, hb.trans ((hc.mono hb.size).trans (hd.mono (Nat.le_trans hb.size hc.size)))⟩
set_option maxHeartbeats 4000000 in
set_option maxRecDepth 100000 in
theorem fi_4 (n : Nat) (w : World) (ht : TabOk w) (h0 : 4096 ≤ n) (h1 : n < 65536) : Calls Tryd.prog 43 #[.int .u64 n, .int .i64 16] w fun e w' => e = .returned (.string ⟨#[hexD (n / 16 / 16 / 16), hexD (n / 16 / 16), hexD (n / 16), hexD n]⟩) ∧ Below w.heap.size w w' := by
  go_enter Tryd.func43, Tryd.ntmps43
  go_wp2_with (go_at_call 64; refine (fb_4 n _ ht h0 h1).mono ?_; rintro e w' ⟨rfl, hb⟩)
  go_ret
  exact ⟨rfl, hb⟩
set_option maxHeartbeats 4000000 in
set_option maxRecDepth 100000 in
theorem fs_4 (n : Nat) (w : World) (ht : TabOk w) (h0 : 4096 ≤ n) (h1 : n < 65536) : Calls Tryd.prog 27 #[.int .u64 n, .int .i64 16] w fun e w' => e = .returned (.string ⟨#[hexD (n / 16 / 16 / 16), hexD (n / 16 / 16), hexD (n / 16), hexD n]⟩) ∧ Below w.heap.size w w' := by
  go_enter Tryd.func27, Tryd.ntmps27
  go_wp2_with (go_at_call 43; refine (fi_4 n _ ht h0 h1).mono ?_; rintro e w' ⟨rfl, hb⟩)
  go_ret
  exact ⟨rfl, hb⟩
set_option maxHeartbeats 4000000 in
set_option maxRecDepth 100000 in
theorem nt_4 (a n : Nat) (w : World) (ht : TabOk w) (hn : nB a = n) (h0 : 4096 ≤ n) (h1 : n < 65536) : Calls Tryd.prog 18 #[.float .f32 a] w fun e w' => e = .returned (.string (hexB n)) ∧ Below w.heap.size w w' := by
  have hZ : (⟨(Lib.repeatL (⟨#[48]⟩ : ByteArray).data.toList 4).toArray⟩ : ByteArray) = ⟨#[48, 48, 48, 48]⟩ := by rfl
  have hB : (⟨#[48, 48, 48, 48]⟩ : ByteArray) ++ ⟨#[hexD (n / 16 / 16 / 16), hexD (n / 16 / 16), hexD (n / 16), hexD n]⟩ = hexB n := by
    unfold hexB
    have z4 : n / 16 / 16 / 16 / 16 = 0 := by omega
    have z5 : n / 16 / 16 / 16 / 16 / 16 = 0 := by omega
    have z6 : n / 16 / 16 / 16 / 16 / 16 / 16 = 0 := by omega
    have z7 : n / 16 / 16 / 16 / 16 / 16 / 16 / 16 = 0 := by omega
    rw [z7, z6, z5, z4]
    rfl
  have hS : ∀ W : World, (Op.stringOp .add ⟨#[48, 48, 48, 48]⟩ ⟨#[hexD (n / 16 / 16 / 16), hexD (n / 16 / 16), hexD (n / 16), hexD n]⟩).run Tryd.prog W = .ok (.string (hexB n)) W := fun W => by rw [cat_run _ _ (by simp [ByteArray.size]), hB]
  go_enter Tryd.func18, Tryd.ntmps18
  go_wp2_with (first
    | (go_at_call 28; refine (ibits_calls a _).mono ?_; rw [hn]; rintro e w1 ⟨rfl, hb⟩)
    | (go_at_call 27; refine (fs_4 n _ (tab_below ht hb) h0 h1).mono ?_; rintro e w2 ⟨rfl, hc⟩)
    | (go_at_call 29; refine (Tryd.strings_Repeat ⟨#[48]⟩ 4 _ (by decide) (by decide)).mono ?_; rw [hZ]; rintro e w3 ⟨rfl, hd⟩))
  go_ret
  exact ⟨rfl, hb.trans ((hc.mono hb.size).trans (hd.mono (Nat.le_trans hb.size hc.size)))⟩
set_option maxHeartbeats 4000000 in
set_option maxRecDepth 100000 in
theorem fi_5 (n : Nat) (w : World) (ht : TabOk w) (h0 : 65536 ≤ n) (h1 : n < 1048576) : Calls Tryd.prog 43 #[.int .u64 n, .int .i64 16] w fun e w' => e = .returned (.string ⟨#[hexD (n / 16 / 16 / 16 / 16), hexD (n / 16 / 16 / 16), hexD (n / 16 / 16), hexD (n / 16), hexD n]⟩) ∧ Below w.heap.size w w' := by
  go_enter Tryd.func43, Tryd.ntmps43
  go_wp2_with (go_at_call 64; refine (fb_5 n _ ht h0 h1).mono ?_; rintro e w' ⟨rfl, hb⟩)
  go_ret
  exact ⟨rfl, hb⟩
set_option maxHeartbeats 4000000 in
set_option maxRecDepth 100000 in
theorem fs_5 (n : Nat) (w : World) (ht : TabOk w) (h0 : 65536 ≤ n) (h1 : n < 1048576) : Calls Tryd.prog 27 #[.int .u64 n, .int .i64 16] w fun e w' => e = .returned (.string ⟨#[hexD (n / 16 / 16 / 16 / 16), hexD (n / 16 / 16 / 16), hexD (n / 16 / 16), hexD (n / 16), hexD n]⟩) ∧ Below w.heap.size w w' := by
  go_enter Tryd.func27, Tryd.ntmps27
  go_wp2_with (go_at_call 43; refine (fi_5 n _ ht h0 h1).mono ?_; rintro e w' ⟨rfl, hb⟩)
  go_ret
  exact ⟨rfl, hb⟩
set_option maxHeartbeats 4000000 in
set_option maxRecDepth 100000 in
theorem nt_5 (a n : Nat) (w : World) (ht : TabOk w) (hn : nB a = n) (h0 : 65536 ≤ n) (h1 : n < 1048576) : Calls Tryd.prog 18 #[.float .f32 a] w fun e w' => e = .returned (.string (hexB n)) ∧ Below w.heap.size w w' := by
  have hZ : (⟨(Lib.repeatL (⟨#[48]⟩ : ByteArray).data.toList 3).toArray⟩ : ByteArray) = ⟨#[48, 48, 48]⟩ := by rfl
  have hB : (⟨#[48, 48, 48]⟩ : ByteArray) ++ ⟨#[hexD (n / 16 / 16 / 16 / 16), hexD (n / 16 / 16 / 16), hexD (n / 16 / 16), hexD (n / 16), hexD n]⟩ = hexB n := by
    unfold hexB
    have z5 : n / 16 / 16 / 16 / 16 / 16 = 0 := by omega
    have z6 : n / 16 / 16 / 16 / 16 / 16 / 16 = 0 := by omega
    have z7 : n / 16 / 16 / 16 / 16 / 16 / 16 / 16 = 0 := by omega
    rw [z7, z6, z5]
    rfl
  have hS : ∀ W : World, (Op.stringOp .add ⟨#[48, 48, 48]⟩ ⟨#[hexD (n / 16 / 16 / 16 / 16), hexD (n / 16 / 16 / 16), hexD (n / 16 / 16), hexD (n / 16), hexD n]⟩).run Tryd.prog W = .ok (.string (hexB n)) W := fun W => by rw [cat_run _ _ (by simp [ByteArray.size]), hB]
  go_enter Tryd.func18, Tryd.ntmps18
  go_wp2_with (first
    | (go_at_call 28; refine (ibits_calls a _).mono ?_; rw [hn]; rintro e w1 ⟨rfl, hb⟩)
    | (go_at_call 27; refine (fs_5 n _ (tab_below ht hb) h0 h1).mono ?_; rintro e w2 ⟨rfl, hc⟩)
    | (go_at_call 29; refine (Tryd.strings_Repeat ⟨#[48]⟩ 3 _ (by decide) (by decide)).mono ?_; rw [hZ]; rintro e w3 ⟨rfl, hd⟩))
  go_ret
  exact ⟨rfl, hb.trans ((hc.mono hb.size).trans (hd.mono (Nat.le_trans hb.size hc.size)))⟩
set_option maxHeartbeats 4000000 in
set_option maxRecDepth 100000 in
theorem fi_6 (n : Nat) (w : World) (ht : TabOk w) (h0 : 1048576 ≤ n) (h1 : n < 16777216) : Calls Tryd.prog 43 #[.int .u64 n, .int .i64 16] w fun e w' => e = .returned (.string ⟨#[hexD (n / 16 / 16 / 16 / 16 / 16), hexD (n / 16 / 16 / 16 / 16), hexD (n / 16 / 16 / 16), hexD (n / 16 / 16), hexD (n / 16), hexD n]⟩) ∧ Below w.heap.size w w' := by
  go_enter Tryd.func43, Tryd.ntmps43
  go_wp2_with (go_at_call 64; refine (fb_6 n _ ht h0 h1).mono ?_; rintro e w' ⟨rfl, hb⟩)
  go_ret
  exact ⟨rfl, hb⟩
set_option maxHeartbeats 4000000 in
set_option maxRecDepth 100000 in
theorem fs_6 (n : Nat) (w : World) (ht : TabOk w) (h0 : 1048576 ≤ n) (h1 : n < 16777216) : Calls Tryd.prog 27 #[.int .u64 n, .int .i64 16] w fun e w' => e = .returned (.string ⟨#[hexD (n / 16 / 16 / 16 / 16 / 16), hexD (n / 16 / 16 / 16 / 16), hexD (n / 16 / 16 / 16), hexD (n / 16 / 16), hexD (n / 16), hexD n]⟩) ∧ Below w.heap.size w w' := by
  go_enter Tryd.func27, Tryd.ntmps27
  go_wp2_with (go_at_call 43; refine (fi_6 n _ ht h0 h1).mono ?_; rintro e w' ⟨rfl, hb⟩)
  go_ret
  exact ⟨rfl, hb⟩
set_option maxHeartbeats 4000000 in
set_option maxRecDepth 100000 in
theorem nt_6 (a n : Nat) (w : World) (ht : TabOk w) (hn : nB a = n) (h0 : 1048576 ≤ n) (h1 : n < 16777216) : Calls Tryd.prog 18 #[.float .f32 a] w fun e w' => e = .returned (.string (hexB n)) ∧ Below w.heap.size w w' := by
  have hZ : (⟨(Lib.repeatL (⟨#[48]⟩ : ByteArray).data.toList 2).toArray⟩ : ByteArray) = ⟨#[48, 48]⟩ := by rfl
  have hB : (⟨#[48, 48]⟩ : ByteArray) ++ ⟨#[hexD (n / 16 / 16 / 16 / 16 / 16), hexD (n / 16 / 16 / 16 / 16), hexD (n / 16 / 16 / 16), hexD (n / 16 / 16), hexD (n / 16), hexD n]⟩ = hexB n := by
    unfold hexB
    have z6 : n / 16 / 16 / 16 / 16 / 16 / 16 = 0 := by omega
    have z7 : n / 16 / 16 / 16 / 16 / 16 / 16 / 16 = 0 := by omega
    rw [z7, z6]
    rfl
  have hS : ∀ W : World, (Op.stringOp .add ⟨#[48, 48]⟩ ⟨#[hexD (n / 16 / 16 / 16 / 16 / 16), hexD (n / 16 / 16 / 16 / 16), hexD (n / 16 / 16 / 16), hexD (n / 16 / 16), hexD (n / 16), hexD n]⟩).run Tryd.prog W = .ok (.string (hexB n)) W := fun W => by rw [cat_run _ _ (by simp [ByteArray.size]), hB]
  go_enter Tryd.func18, Tryd.ntmps18
  go_wp2_with (first
    | (go_at_call 28; refine (ibits_calls a _).mono ?_; rw [hn]; rintro e w1 ⟨rfl, hb⟩)
    | (go_at_call 27; refine (fs_6 n _ (tab_below ht hb) h0 h1).mono ?_; rintro e w2 ⟨rfl, hc⟩)
    | (go_at_call 29; refine (Tryd.strings_Repeat ⟨#[48]⟩ 2 _ (by decide) (by decide)).mono ?_; rw [hZ]; rintro e w3 ⟨rfl, hd⟩))
  go_ret
  exact ⟨rfl, hb.trans ((hc.mono hb.size).trans (hd.mono (Nat.le_trans hb.size hc.size)))⟩
set_option maxHeartbeats 4000000 in
set_option maxRecDepth 100000 in
theorem fi_7 (n : Nat) (w : World) (ht : TabOk w) (h0 : 16777216 ≤ n) (h1 : n < 268435456) : Calls Tryd.prog 43 #[.int .u64 n, .int .i64 16] w fun e w' => e = .returned (.string ⟨#[hexD (n / 16 / 16 / 16 / 16 / 16 / 16), hexD (n / 16 / 16 / 16 / 16 / 16), hexD (n / 16 / 16 / 16 / 16), hexD (n / 16 / 16 / 16), hexD (n / 16 / 16), hexD (n / 16), hexD n]⟩) ∧ Below w.heap.size w w' := by
  go_enter Tryd.func43, Tryd.ntmps43
  go_wp2_with (go_at_call 64; refine (fb_7 n _ ht h0 h1).mono ?_; rintro e w' ⟨rfl, hb⟩)
  go_ret
  exact ⟨rfl, hb⟩
set_option maxHeartbeats 4000000 in
set_option maxRecDepth 100000 in
theorem fs_7 (n : Nat) (w : World) (ht : TabOk w) (h0 : 16777216 ≤ n) (h1 : n < 268435456) : Calls Tryd.prog 27 #[.int .u64 n, .int .i64 16] w fun e w' => e = .returned (.string ⟨#[hexD (n / 16 / 16 / 16 / 16 / 16 / 16), hexD (n / 16 / 16 / 16 / 16 / 16), hexD (n / 16 / 16 / 16 / 16), hexD (n / 16 / 16 / 16), hexD (n / 16 / 16), hexD (n / 16), hexD n]⟩) ∧ Below w.heap.size w w' := by
  go_enter Tryd.func27, Tryd.ntmps27
  go_wp2_with (go_at_call 43; refine (fi_7 n _ ht h0 h1).mono ?_; rintro e w' ⟨rfl, hb⟩)
  go_ret
  exact ⟨rfl, hb⟩
set_option maxHeartbeats 4000000 in
set_option maxRecDepth 100000 in
theorem nt_7 (a n : Nat) (w : World) (ht : TabOk w) (hn : nB a = n) (h0 : 16777216 ≤ n) (h1 : n < 268435456) : Calls Tryd.prog 18 #[.float .f32 a] w fun e w' => e = .returned (.string (hexB n)) ∧ Below w.heap.size w w' := by
  have hZ : (⟨(Lib.repeatL (⟨#[48]⟩ : ByteArray).data.toList 1).toArray⟩ : ByteArray) = ⟨#[48]⟩ := by rfl
  have hB : (⟨#[48]⟩ : ByteArray) ++ ⟨#[hexD (n / 16 / 16 / 16 / 16 / 16 / 16), hexD (n / 16 / 16 / 16 / 16 / 16), hexD (n / 16 / 16 / 16 / 16), hexD (n / 16 / 16 / 16), hexD (n / 16 / 16), hexD (n / 16), hexD n]⟩ = hexB n := by
    unfold hexB
    have z7 : n / 16 / 16 / 16 / 16 / 16 / 16 / 16 = 0 := by omega
    rw [z7]
    rfl
  have hS : ∀ W : World, (Op.stringOp .add ⟨#[48]⟩ ⟨#[hexD (n / 16 / 16 / 16 / 16 / 16 / 16), hexD (n / 16 / 16 / 16 / 16 / 16), hexD (n / 16 / 16 / 16 / 16), hexD (n / 16 / 16 / 16), hexD (n / 16 / 16), hexD (n / 16), hexD n]⟩).run Tryd.prog W = .ok (.string (hexB n)) W := fun W => by rw [cat_run _ _ (by simp [ByteArray.size]), hB]
  go_enter Tryd.func18, Tryd.ntmps18
  go_wp2_with (first
    | (go_at_call 28; refine (ibits_calls a _).mono ?_; rw [hn]; rintro e w1 ⟨rfl, hb⟩)
    | (go_at_call 27; refine (fs_7 n _ (tab_below ht hb) h0 h1).mono ?_; rintro e w2 ⟨rfl, hc⟩)
    | (go_at_call 29; refine (Tryd.strings_Repeat ⟨#[48]⟩ 1 _ (by decide) (by decide)).mono ?_; rw [hZ]; rintro e w3 ⟨rfl, hd⟩))
  go_ret
  exact ⟨rfl, hb.trans ((hc.mono hb.size).trans (hd.mono (Nat.le_trans hb.size hc.size)))⟩
set_option maxHeartbeats 4000000 in
set_option maxRecDepth 100000 in
theorem fi_8 (n : Nat) (w : World) (ht : TabOk w) (h0 : 268435456 ≤ n) (h1 : n < 4294967296) : Calls Tryd.prog 43 #[.int .u64 n, .int .i64 16] w fun e w' => e = .returned (.string ⟨#[hexD (n / 16 / 16 / 16 / 16 / 16 / 16 / 16), hexD (n / 16 / 16 / 16 / 16 / 16 / 16), hexD (n / 16 / 16 / 16 / 16 / 16), hexD (n / 16 / 16 / 16 / 16), hexD (n / 16 / 16 / 16), hexD (n / 16 / 16), hexD (n / 16), hexD n]⟩) ∧ Below w.heap.size w w' := by
  go_enter Tryd.func43, Tryd.ntmps43
  go_wp2_with (go_at_call 64; refine (fb_8 n _ ht h0 h1).mono ?_; rintro e w' ⟨rfl, hb⟩)
  go_ret
  exact ⟨rfl, hb⟩
set_option maxHeartbeats 4000000 in
set_option maxRecDepth 100000 in
theorem fs_8 (n : Nat) (w : World) (ht : TabOk w) (h0 : 268435456 ≤ n) (h1 : n < 4294967296) : Calls Tryd.prog 27 #[.int .u64 n, .int .i64 16] w fun e w' => e = .returned (.string ⟨#[hexD (n / 16 / 16 / 16 / 16 / 16 / 16 / 16), hexD (n / 16 / 16 / 16 / 16 / 16 / 16), hexD (n / 16 / 16 / 16 / 16 / 16), hexD (n / 16 / 16 / 16 / 16), hexD (n / 16 / 16 / 16), hexD (n / 16 / 16), hexD (n / 16), hexD n]⟩) ∧ Below w.heap.size w w' := by
  go_enter Tryd.func27, Tryd.ntmps27
  go_wp2_with (go_at_call 43; refine (fi_8 n _ ht h0 h1).mono ?_; rintro e w' ⟨rfl, hb⟩)
  go_ret
  exact ⟨rfl, hb⟩
set_option maxHeartbeats 4000000 in
set_option maxRecDepth 100000 in
theorem nt_8 (a n : Nat) (w : World) (ht : TabOk w) (hn : nB a = n) (h0 : 268435456 ≤ n) (h1 : n < 4294967296) : Calls Tryd.prog 18 #[.float .f32 a] w fun e w' => e = .returned (.string (hexB n)) ∧ Below w.heap.size w w' := by
  have hZ : (⟨(Lib.repeatL (⟨#[48]⟩ : ByteArray).data.toList 0).toArray⟩ : ByteArray) = ⟨#[]⟩ := by rfl
  have hB : (⟨#[]⟩ : ByteArray) ++ ⟨#[hexD (n / 16 / 16 / 16 / 16 / 16 / 16 / 16), hexD (n / 16 / 16 / 16 / 16 / 16 / 16), hexD (n / 16 / 16 / 16 / 16 / 16), hexD (n / 16 / 16 / 16 / 16), hexD (n / 16 / 16 / 16), hexD (n / 16 / 16), hexD (n / 16), hexD n]⟩ = hexB n := by
    unfold hexB
    rfl
  have hS : ∀ W : World, (Op.stringOp .add ⟨#[]⟩ ⟨#[hexD (n / 16 / 16 / 16 / 16 / 16 / 16 / 16), hexD (n / 16 / 16 / 16 / 16 / 16 / 16), hexD (n / 16 / 16 / 16 / 16 / 16), hexD (n / 16 / 16 / 16 / 16), hexD (n / 16 / 16 / 16), hexD (n / 16 / 16), hexD (n / 16), hexD n]⟩).run Tryd.prog W = .ok (.string (hexB n)) W := fun W => by rw [cat_run _ _ (by simp [ByteArray.size]), hB]
  go_enter Tryd.func18, Tryd.ntmps18
  go_wp2_with (first
    | (go_at_call 28; refine (ibits_calls a _).mono ?_; rw [hn]; rintro e w1 ⟨rfl, hb⟩)
    | (go_at_call 27; refine (fs_8 n _ (tab_below ht hb) h0 h1).mono ?_; rintro e w2 ⟨rfl, hc⟩)
    | (go_at_call 29; refine (Tryd.strings_Repeat ⟨#[48]⟩ 0 _ (by decide) (by decide)).mono ?_; rw [hZ]; rintro e w3 ⟨rfl, hd⟩))
  go_ret
  exact ⟨rfl, hb.trans ((hc.mono hb.size).trans (hd.mono (Nat.le_trans hb.size hc.size)))⟩
end Tx
end Go.Proofs.YtbidagapkcmfnaaDoor
end
