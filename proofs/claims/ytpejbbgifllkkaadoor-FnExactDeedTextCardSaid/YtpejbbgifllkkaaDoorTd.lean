/-
  Deeds: their texts, by the model. No condition.
-/
import Derived.Test.YtpejbbgifllkkaaDoorTc2
noncomputable section
namespace Go.Proofs.YtpejbbgifllkkaaDoor
namespace Tx
open Go Go.RowKit
set_option maxHeartbeats 2000000 in
set_option maxRecDepth 100000 in
theorem spec_1 (a : Int) (w : World) (h0 : 0 ≤ a) (h1 : a ≤ 999) : Calls Tryd.prog 13 #[dV 1 a] w fun e w' => e = .returned (.string (⟨#[97, 115, 107]⟩ ++ (sp ++ decB a.toNat))) ∧ Below w.heap.size w w' := by
  unfold dV
  have hS : ∀ W : World, (Op.stringOp .add (⟨#[97, 115, 107]⟩ ++ sp) (decB a.toNat)).run Tryd.prog W = .ok (.string (⟨#[97, 115, 107]⟩ ++ (sp ++ decB a.toNat))) W := fun W => by
    have := decB_size a.toNat
    have h2 : (⟨#[97, 115, 107]⟩ ++ sp).size = 4 := by decide
    rw [cat_run _ _ (by omega), ByteArray.append_assoc]
  have hT : ∀ W : World, (Op.stringOp .add ⟨#[97, 115, 107]⟩ ⟨#[32]⟩).run Tryd.prog W = .ok (.string (⟨#[97, 115, 107]⟩ ++ sp)) W := fun W => cat_run _ _ (by decide) W
  go_enter Tryd.func13, Tryd.ntmps13
  go_wp2
  go_region_with (go_at_call 38; refine (dec_calls a _ h0 (by omega)).mono ?_; rintro e w' ⟨rfl, hb⟩; have hc := fun (b o : Nat) (h : b < _) => hb.cell (p := ⟨b, o, none⟩) h)
  all_goals go_wp2_with fail
  all_goals go_ret
  all_goals exact ⟨rfl, Below.trans (by repeat (first | exact Below.refl _ _ | apply Below.drew | apply bA)) (hb.mono (by simp; try omega))⟩
set_option maxHeartbeats 2000000 in
set_option maxRecDepth 100000 in
theorem spec_2 (a : Int) (w : World) (h0 : 0 ≤ a) (h1 : a ≤ 999) : Calls Tryd.prog 13 #[dV 2 a] w fun e w' => e = .returned (.string (⟨#[100, 101, 108, 105, 118, 101, 114]⟩ ++ (sp ++ decB a.toNat))) ∧ Below w.heap.size w w' := by
  unfold dV
  have hS : ∀ W : World, (Op.stringOp .add (⟨#[100, 101, 108, 105, 118, 101, 114]⟩ ++ sp) (decB a.toNat)).run Tryd.prog W = .ok (.string (⟨#[100, 101, 108, 105, 118, 101, 114]⟩ ++ (sp ++ decB a.toNat))) W := fun W => by
    have := decB_size a.toNat
    have h2 : (⟨#[100, 101, 108, 105, 118, 101, 114]⟩ ++ sp).size = 8 := by decide
    rw [cat_run _ _ (by omega), ByteArray.append_assoc]
  have hT : ∀ W : World, (Op.stringOp .add ⟨#[100, 101, 108, 105, 118, 101, 114]⟩ ⟨#[32]⟩).run Tryd.prog W = .ok (.string (⟨#[100, 101, 108, 105, 118, 101, 114]⟩ ++ sp)) W := fun W => cat_run _ _ (by decide) W
  go_enter Tryd.func13, Tryd.ntmps13
  go_wp2
  go_region_with (go_at_call 38; refine (dec_calls a _ h0 (by omega)).mono ?_; rintro e w' ⟨rfl, hb⟩; have hc := fun (b o : Nat) (h : b < _) => hb.cell (p := ⟨b, o, none⟩) h)
  all_goals go_wp2_with fail
  all_goals go_ret
  all_goals exact ⟨rfl, Below.trans (by repeat (first | exact Below.refl _ _ | apply Below.drew | apply bA)) (hb.mono (by simp; try omega))⟩
set_option maxHeartbeats 2000000 in
set_option maxRecDepth 100000 in
theorem spec_3 (a : Int) (w : World) (h0 : 0 ≤ a) (h1 : a ≤ 999) : Calls Tryd.prog 13 #[dV 3 a] w fun e w' => e = .returned (.string (⟨#[99, 111, 112, 121]⟩ ++ (sp ++ decB a.toNat))) ∧ Below w.heap.size w w' := by
  unfold dV
  have hS : ∀ W : World, (Op.stringOp .add (⟨#[99, 111, 112, 121]⟩ ++ sp) (decB a.toNat)).run Tryd.prog W = .ok (.string (⟨#[99, 111, 112, 121]⟩ ++ (sp ++ decB a.toNat))) W := fun W => by
    have := decB_size a.toNat
    have h2 : (⟨#[99, 111, 112, 121]⟩ ++ sp).size = 5 := by decide
    rw [cat_run _ _ (by omega), ByteArray.append_assoc]
  have hT : ∀ W : World, (Op.stringOp .add ⟨#[99, 111, 112, 121]⟩ ⟨#[32]⟩).run Tryd.prog W = .ok (.string (⟨#[99, 111, 112, 121]⟩ ++ sp)) W := fun W => cat_run _ _ (by decide) W
  go_enter Tryd.func13, Tryd.ntmps13
  go_wp2
  go_region_with (go_at_call 38; refine (dec_calls a _ h0 (by omega)).mono ?_; rintro e w' ⟨rfl, hb⟩; have hc := fun (b o : Nat) (h : b < _) => hb.cell (p := ⟨b, o, none⟩) h)
  all_goals go_wp2_with fail
  all_goals go_ret
  all_goals exact ⟨rfl, Below.trans (by repeat (first | exact Below.refl _ _ | apply Below.drew | apply bA)) (hb.mono (by simp; try omega))⟩
set_option maxHeartbeats 2000000 in
set_option maxRecDepth 100000 in
theorem spec_4 (a : Int) (w : World) (h0 : 0 ≤ a) (h1 : a ≤ 999) : Calls Tryd.prog 13 #[dV 4 a] w fun e w' => e = .returned (.string (⟨#[100, 114, 111, 112]⟩ ++ (sp ++ decB a.toNat))) ∧ Below w.heap.size w w' := by
  unfold dV
  have hS : ∀ W : World, (Op.stringOp .add (⟨#[100, 114, 111, 112]⟩ ++ sp) (decB a.toNat)).run Tryd.prog W = .ok (.string (⟨#[100, 114, 111, 112]⟩ ++ (sp ++ decB a.toNat))) W := fun W => by
    have := decB_size a.toNat
    have h2 : (⟨#[100, 114, 111, 112]⟩ ++ sp).size = 5 := by decide
    rw [cat_run _ _ (by omega), ByteArray.append_assoc]
  have hT : ∀ W : World, (Op.stringOp .add ⟨#[100, 114, 111, 112]⟩ ⟨#[32]⟩).run Tryd.prog W = .ok (.string (⟨#[100, 114, 111, 112]⟩ ++ sp)) W := fun W => cat_run _ _ (by decide) W
  go_enter Tryd.func13, Tryd.ntmps13
  go_wp2
  go_region_with (go_at_call 38; refine (dec_calls a _ h0 (by omega)).mono ?_; rintro e w' ⟨rfl, hb⟩; have hc := fun (b o : Nat) (h : b < _) => hb.cell (p := ⟨b, o, none⟩) h)
  all_goals go_wp2_with fail
  all_goals go_ret
  all_goals exact ⟨rfl, Below.trans (by repeat (first | exact Below.refl _ _ | apply Below.drew | apply bA)) (hb.mono (by simp; try omega))⟩
set_option maxHeartbeats 2000000 in
set_option maxRecDepth 100000 in
theorem spec_5 (w : World)  : Calls Tryd.prog 13 #[dV 5 0] w fun e w' => e = .returned (.string (⟨#[115, 97, 118, 101]⟩)) ∧ Below w.heap.size w w' := by
  unfold dV
  go_enter Tryd.func13, Tryd.ntmps13
  go_wp2
  go_ret
  refine ⟨rfl, ?_⟩
  repeat (first | exact Below.refl _ _ | apply Below.drew | apply bA)
set_option maxHeartbeats 2000000 in
set_option maxRecDepth 100000 in
theorem spec_6 (w : World)  : Calls Tryd.prog 13 #[dV 6 0] w fun e w' => e = .returned (.string (⟨#[99, 114, 97, 115, 104]⟩)) ∧ Below w.heap.size w w' := by
  unfold dV
  go_enter Tryd.func13, Tryd.ntmps13
  go_wp2
  go_ret
  refine ⟨rfl, ?_⟩
  repeat (first | exact Below.refl _ _ | apply Below.drew | apply bA)
end Tx
end Go.Proofs.YtpejbbgifllkkaaDoor
end
