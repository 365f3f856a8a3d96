/-
  Curves whose numbers are not negative. No condition.
-/
import Derived.Test.YtbidagapkcmfnaaDoorVb
import Derived.Test.YtbidagapkcmfnaaDoorLf
noncomputable section
namespace Go.Proofs.YtbidagapkcmfnaaDoor
namespace Ty
open Tx Go Go.RowKit Ev Ieee
/-- not below lo, not above hi -/
def wi (lo hi a : Nat) : Bool := fge .f32 a lo && fle .f32 a hi
theorem ge_is {a b : Nat} {c : Bool} (h : fge .f32 a b = c) : (FloatKind.f32.format.order a b == some Ordering.gt || FloatKind.f32.format.order a b == some Ordering.eq) = c := h
theorem le_is {a b : Nat} {c : Bool} (h : fle .f32 a b = c) : (FloatKind.f32.format.order a b == some Ordering.lt || FloatKind.f32.format.order a b == some Ordering.eq) = c := h
theorem eq_is {a b : Nat} {c : Bool} (h : feq .f32 a b = c) : (FloatKind.f32.format.order a b == some Ordering.eq) = c := h
/-- the difference of a number and itself -/
theorem sub_num {a r : Nat} (h : FloatKind.f32.format.sub a a = some r) (W : World) : (binOp .sub 22 (.float .f32 a) (.float .f32 a)).run Tryd.prog W = .ok (.float .f32 r) W := run_float_arith W .sub 22 .f32 a a r h
theorem sub_nan {a : Nat} (h : FloatKind.f32.format.sub a a = none) : ∃ z : World → Nat, (∀ W, isN .f32 (z W) = true) ∧ ∀ W, (binOp .sub 22 (.float .f32 a) (.float .f32 a)).run Tryd.prog W = .ok (.float .f32 (z W)) W.drew :=
  ⟨fun W => (Question.nanBits .f32 a a).cut (W.tape W.drawn (Question.nanBits .f32 a a)), fun W => nanBits_cut .f32 a a _, fun W => by simp [binOp, Op.floatArith, h, Question.forced]⟩
theorem eq_N {x : Nat} (h : isN .f32 x = true) (y : Nat) : feq .f32 x y = false := by
  obtain ⟨s, t, e⟩ := read_N h
  unfold feq Format.order
  rw [e]; rfl
set_option maxHeartbeats 4000000 in
set_option maxRecDepth 100000 in
theorem within_calls (a lo hi : Nat) (w : World) : Calls Tryd.prog 56 #[.float .f32 a, .float .f32 lo, .float .f32 hi] w fun e w' => e = .returned (.bool (wi lo hi a)) ∧ w' = w := by
  unfold wi
  cases h1 : fge .f32 a lo with
  | false =>
    have h2 := ge_is h1
    go_enter Tryd.func56, Tryd.ntmps56
    go_wp2
    go_ret
    exact ⟨rfl, rfl⟩
  | true =>
    have h2 := ge_is h1
    cases h3 : fle .f32 a hi with
    | false =>
      have h4 := le_is h3
      go_enter Tryd.func56, Tryd.ntmps56
      go_wp2
      go_ret
      exact ⟨rfl, rfl⟩
    | true =>
      have h4 := le_is h3
      go_enter Tryd.func56, Tryd.ntmps56
      go_wp2
      go_ret
      exact ⟨rfl, rfl⟩
set_option maxHeartbeats 4000000 in
set_option maxRecDepth 100000 in
theorem finite_calls (a : Nat) (w : World) : Calls Tryd.prog 54 #[.float .f32 a] w fun e w' => e = .returned (.bool (finB a)) ∧ Below w.heap.size w w' := by
  rw [← fin_model]
  cases h : FloatKind.f32.format.sub a a with
  | some r =>
    have hr : fsub .f32 a a = r := by unfold fsub; rw [h]; rfl
    rw [hr]
    have hs := sub_num h
    cases h1 : feq .f32 r 0 with
    | false =>
      have h2 := eq_is h1
      go_enter Tryd.func54, Tryd.ntmps54
      go_wp2
      go_ret
      exact ⟨rfl, Below.refl _ _⟩
    | true =>
      have h2 := eq_is h1
      go_enter Tryd.func54, Tryd.ntmps54
      go_wp2
      go_ret
      exact ⟨rfl, Below.refl _ _⟩
  | none =>
    have hr : fsub .f32 a a = qn .f32 := by unfold fsub; rw [h]; rfl
    rw [hr, eq_N (isN_qn .f32)]
    obtain ⟨z, hz, hs⟩ := sub_nan h
    have h2 := fun W => eq_is (eq_N (hz W) 0)
    go_enter Tryd.func54, Tryd.ntmps54
    go_wp2
    go_ret
    exact ⟨rfl, Below.drew (Below.refl _ _)⟩
set_option maxHeartbeats 4000000 in
set_option maxRecDepth 100000 in
theorem amount_calls (a : Nat) (w : World) : Calls Tryd.prog 33 #[.float .f32 a] w fun e w' => e = .returned (.bool (wi 0 2139095039 a)) ∧ Below w.heap.size w w' := by
  unfold wi
  cases h1 : fge .f32 a 0 with
  | false =>
    have h2 := ge_is h1
    go_enter Tryd.func33, Tryd.ntmps33
    go_wp2
    go_ret
    exact ⟨rfl, Below.refl _ _⟩
  | true =>
    have h2 := ge_is h1
    rw [fin_cmp h1]
    cases h3 : finB a <;>
    · go_enter Tryd.func33, Tryd.ntmps33
      go_wp2_with (go_at_call 54; refine (finite_calls a _).mono ?_; rw [h3]; rintro e w' ⟨rfl, hb⟩)
      go_ret
      exact ⟨rfl, hb⟩
/-- all sixteen -/
def all16 (p : Nat → Bool) : Bool := p 0 && (p 1 && (p 2 && (p 3 && (p 4 && (p 5 && (p 6 && (p 7 && (p 8 && (p 9 && (p 10 && (p 11 && (p 12 && (p 13 && (p 14 && p 15))))))))))))))
end Ty
end Go.Proofs.YtbidagapkcmfnaaDoor
end
