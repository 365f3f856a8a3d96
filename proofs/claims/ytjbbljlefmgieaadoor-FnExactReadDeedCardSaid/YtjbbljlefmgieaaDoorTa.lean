/-
  Decimal texts. No condition.
-/
import Derived.Test.YtjbbljlefmgieaaDoorProg
import Derived.WalkKit
import Derived.WalkSpells
import Derived.WalkLawsBesides
import Derived.Shelf.Strconv.Itoa4
import Derived.Deep.RegionWith
import Derived.Deep.DeepFit
noncomputable section
namespace Go.Proofs.YtjbbljlefmgieaaDoor
namespace Tx
open Go Go.RowKit
def decB (n : Nat) : ByteArray := ⟨(Lib.decDigits n).toArray⟩
theorem conv_one (w : World) (b : Nat) (x : Int) (h0 : 0 ≤ x) (h1 : x ≤ 255) (h : w.cell? ⟨b, 0, none⟩ = some (.int .u8 x)) : (convert 96 9 (.slice (some ⟨b, 0, none⟩) 1 1)).run Tryd.prog w = .ok (.string ⟨#[UInt8.ofNat x.toNat]⟩) w := by
  have := run_convert_bytes_back (P := Tryd.prog) w 96 9 5 ⟨b, 0, none⟩ 1 [UInt8.ofNat x.toNat] (by kernel_rfl) (by kernel_rfl) (by kernel_rfl) (fun j hj => by
    obtain rfl : j = 0 := by simp at hj; omega
    show w.cell? ⟨b, 0, none⟩ = _
    rw [h]
    simp only [List.getElem_cons_zero]
    have : (UInt8.ofNat x.toNat).toNat = x.toNat := by rw [UInt8.toNat_ofNat']; omega
    rw [this, Int.toNat_of_nonneg h0])
  exact this
theorem cell_alloc (w : World) (x : Value) (T : TypeId) : (w.alloc (.cells #[x] T)).cell? ⟨w.heap.size, 0, none⟩ = some x :=
  cell_one_new w x T 0 x rfl
theorem digits_le (u : Nat) : Lib.nDigits u ≤ u + 1 := by
  induction u using Nat.strongRecOn with
  | ind u ih =>
    by_cases h : u < 10
    · rw [Lib.nDigits_small h]; omega
    · rw [Lib.nDigits_big h]
      have := ih (u / 10) (by omega)
      omega
theorem decB_size (n : Nat) : (decB n).size ≤ n + 1 := by
  have : (decB n).size = (Lib.decDigits n).length := by simp [decB, ByteArray.size]
  rw [this, Lib.decDigits_length]
  exact digits_le n
theorem decB_small {n : Nat} (h : n < 10) : decB n = ⟨#[UInt8.ofNat (48 + n)]⟩ := by
  unfold decB
  rw [Lib.decDigits_one h]
theorem decB_big {n : Nat} (h : ¬ n < 10) : decB (n / 10) ++ ⟨#[UInt8.ofNat (48 + n % 10)]⟩ = decB n := by
  unfold decB
  conv => rhs; rw [Lib.decDigits, dif_neg h]
  apply ByteArray.ext
  simp
theorem cat_run (a b : ByteArray) (h : a.size + b.size ≤ 9223372036854775807) (w : World) : (Op.stringOp .add a b).run Tryd.prog w = .ok (.string (a ++ b)) w := run_string_add_sum w a b h
set_option maxHeartbeats 1000000 in
set_option maxRecDepth 100000 in
theorem dec_any (k : Nat) : ∀ (n : Int) (w : World), n < k → 0 ≤ n → n ≤ 1000000000000 →
    Calls Tryd.prog 49 #[.int .i64 n] w fun e w' => e = .returned (.string (decB n.toNat)) ∧ Below w.heap.size w w' := by
  induction k with
  | zero => intro n w h h0; omega
  | succ k ih =>
    intro n w hk h0 hhi
    by_cases hn : n < 10
    · have hx : IntKind.u8.wrap (IntKind.i64.wrap (48 + n)) = 48 + n := by rw [IntKind.wrap_i64, IntKind.wrap_u8]; omega
      have hA : ∀ W : World, (convert 96 9 (.slice (some ⟨W.heap.size, 0, none⟩) 1 1)).run Tryd.prog (W.alloc (.cells #[.int .u8 (48 + n)] 5)) = .ok (.string ⟨#[UInt8.ofNat (48 + n).toNat]⟩) (W.alloc (.cells #[.int .u8 (48 + n)] 5)) := fun W =>
        conv_one _ _ _ (by omega) (by omega) (cell_alloc W _ _)
      go_enter Tryd.func49, Tryd.ntmps49
      go_wp2_with fail
      go_ret
      refine ⟨?_, (Below.refl _ w).alloc (Nat.le_refl _) _⟩
      rw [decB_small (show n.toNat < 10 by omega), show (48 + n).toNat = 48 + n.toNat by omega]
      rfl
    · have hq : IntKind.i64.wrap (n.tdiv 10) = n / 10 := by rw [Int.tdiv_eq_ediv_of_nonneg h0, IntKind.wrap_i64]; omega
      have hx : IntKind.u8.wrap (IntKind.i64.wrap (48 + n.tmod 10)) = 48 + n % 10 := by rw [Int.tmod_eq_emod_of_nonneg h0, IntKind.wrap_i64, IntKind.wrap_u8]; omega
      have hA : ∀ W : World, (convert 96 9 (.slice (some ⟨W.heap.size, 0, none⟩) 1 1)).run Tryd.prog (W.alloc (.cells #[.int .u8 (48 + n % 10)] 5)) = .ok (.string ⟨#[UInt8.ofNat (48 + n % 10).toNat]⟩) (W.alloc (.cells #[.int .u8 (48 + n % 10)] 5)) := fun W =>
        conv_one _ _ _ (by omega) (by omega) (cell_alloc W _ _)
      have hA2 : ∀ W : World, (convert 96 9 (.slice (some ⟨W.heap.size, 0, none⟩) 1 1)).run Tryd.prog (W.alloc (.cells #[.int .u8 (48 + n % 10)] 5)).drew = .ok (.string ⟨#[UInt8.ofNat (48 + n % 10).toNat]⟩) (W.alloc (.cells #[.int .u8 (48 + n % 10)] 5)).drew := fun W =>
        conv_one _ _ _ (by omega) (by omega) (cell_alloc W.drew _ _)
      have hS : ∀ W : World, (Op.stringOp .add (decB (n / 10).toNat) ⟨#[UInt8.ofNat (48 + n % 10).toNat]⟩).run Tryd.prog W = .ok (.string (decB n.toNat)) W := fun W => by
        have h1 := decB_size (n / 10).toNat
        have h2 : (⟨#[UInt8.ofNat (48 + n % 10).toNat]⟩ : ByteArray).size = 1 := rfl
        rw [cat_run _ _ (by omega), show (48 + n % 10).toNat = 48 + n.toNat % 10 by omega, show (n / 10).toNat = n.toNat / 10 by omega, decB_big (by omega)]
      go_enter Tryd.func49, Tryd.ntmps49
      go_wp2_with fail
      go_region_with (go_at_call 49; refine (ih (n / 10) _ (by omega) (by omega) (by omega)).mono ?_; rintro e w' ⟨rfl, hb⟩; first | have hD := conv_one w' w.heap.size (48 + n % 10) (by omega) (by omega) ((hb.cell (by simp)).trans (cell_alloc w.drew _ 5)) | skip)
      all_goals go_wp2_with fail
      all_goals go_ret
      all_goals refine ⟨rfl, ?_⟩
      · have h1 : Below w.heap.size w w' := ((Below.refl _ w).drew).trans hb
        exact h1.alloc h1.size _
      · exact ((Below.refl _ w).alloc (Nat.le_refl _) _).drew.trans (hb.mono (by simp))
      · exact ((Below.refl _ w).alloc (Nat.le_refl _) _).drew.trans (hb.mono (by simp))
theorem dec_calls (n : Int) (w : World) (h0 : 0 ≤ n) (h1 : n ≤ 1000000000000) : Calls Tryd.prog 49 #[.int .i64 n] w fun e w' => e = .returned (.string (decB n.toNat)) ∧ Below w.heap.size w w' :=
  dec_any (n.toNat + 1) n w (by omega) h0 h1
end Tx
end Go.Proofs.YtjbbljlefmgieaaDoor
end
