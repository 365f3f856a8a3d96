/-
  Numbers that are wider, and that are none. No condition.
-/
import Derived.Test.YtbidagapkcmfnaaDoorShl
import Derived.Test.YtbidagapkcmfnaaDoorFl
import Derived.ProofKit
import Derived.Laws.Cover2
import Derived.Laws.Externs
noncomputable section
namespace Go.Proofs.YtbidagapkcmfnaaDoor
namespace Tx
open Go Go.RowKit Ev Ieee
theorem bA {a w : World} (h : Below a.heap.size a w) (o : Obj) : Below a.heap.size a (w.alloc o) := h.alloc h.size o
theorem fb_run (a : Nat) (W : World) : (callFunc 36 #[.float .f32 a]).run Tryd.prog W = .ok (.value (.int .u32 a)) W := by
  rw [run_callFunc_extern (e := Extern.MathFloatBits.float32bits) Tryd.func36 (by kernel_rfl) (by kernel_rfl) (by kernel_rfl) (by kernel_rfl)]
  rfl
theorem isN_wide (a : Nat) : isN .f64 (fcv .f32 .f64 a) = isN .f32 a := by
  unfold fcv
  cases hn : isN .f32 a with
  | true =>
    obtain ⟨s, t, e⟩ := read_N hn
    rw [e]
    exact isN_qn .f64
  | false =>
    cases e : FloatKind.f32.format.read a with
    | nan s t => rw [isN, e] at hn; cases hn
    | infinity g => exact write_cn .f64 rfl
    | number g m q => exact write_cn .f64 rfl
theorem conv_is (x : Nat) (W : World) : (convert 22 26 (.float .f32 x)).run Tryd.prog W = (Conv.floatToFloat .f32 x .f64).run Tryd.prog W := by
  simp [convert, run_underlying Tryd.underlying22, run_underlying Tryd.underlying26]
theorem conv_num {x : Nat} (hx : isN .f32 x = false) : ∃ z, isN .f64 z = false ∧ ∀ W, (convert 22 26 (.float .f32 x)).run Tryd.prog W = .ok (.float .f64 z) W := by
  refine ⟨fcv .f32 .f64 x, by rw [isN_wide, hx], fun W => ?_⟩
  rw [conv_is]
  have hok := fcvOk_widen x
  unfold Conv.floatToFloat
  rw [if_neg (by decide)]
  unfold fcv
  unfold fcvOk at hok
  cases e : FloatKind.f32.format.read x with
  | nan g q => rw [isN, e] at hx; cases hx
  | infinity g =>
    have e1 : FloatKind.f32.decode x = .infinity g := e
    rw [e1]
    rfl
  | number g m q =>
    have e1 : FloatKind.f32.decode x = .number g m q := e
    rw [e] at hok
    rw [e1]
    simp only [Bool.not_eq_true'] at hok
    have : (FloatKind.f64.decode (FloatKind.f64.encode (.number g m q))).isInfinity = false := hok
    simp [this]
    rfl
theorem conv_nan {x : Nat} (hx : isN .f32 x = true) : ∃ z : World → Nat, (∀ W, isN .f64 (z W) = true) ∧ ∀ W, (convert 22 26 (.float .f32 x)).run Tryd.prog W = .ok (.float .f64 (z W)) W.drew := by
  obtain ⟨g, q, e⟩ := read_N hx
  have e1 : FloatKind.f32.decode x = .nan g q := e
  refine ⟨fun W => (Question.nanConv .f64 x).cut (W.tape W.drawn (Question.nanConv .f64 x)), fun W => nanConv_cut .f64 x _, fun W => ?_⟩
  rw [conv_is]
  unfold Conv.floatToFloat
  rw [if_neg (by decide), e1]
  simp [Question.forced]
theorem ne_num {k : FloatKind} {x : Nat} (h : isN k x = false) : (k.format.order x x != some Ordering.eq) = false := fne_self h
theorem ne_nan {k : FloatKind} {x : Nat} (h : isN k x = true) : (k.format.order x x != some Ordering.eq) = true := fne_N h
/-- a number's bits, in its one form -/
def nB (a : Nat) : Nat := if isN .f32 a = true then 2143289344 else a
set_option maxHeartbeats 1000000 in
set_option maxRecDepth 100000 in
theorem sbits_calls (a : Nat) (w : World) : Calls Tryd.prog 24 #[.float .f32 a] w fun e w' => e = .returned (.int .u32 (nB a)) ∧ Below w.heap.size w w' := by
  have hF := fb_run a
  unfold nB
  cases h : isN .f32 a with
  | false =>
    have h2 := ne_num h
    rw [if_neg (by decide)]
    go_enter Tryd.func24, Tryd.ntmps24
    go_wp2
    go_ret
    exact ⟨rfl, by repeat (first | exact Below.refl _ _ | apply Below.drew | apply bA)⟩
  | true =>
    have h2 := ne_nan h
    rw [if_pos rfl]
    go_enter Tryd.func24, Tryd.ntmps24
    go_wp2
    go_ret
    exact ⟨rfl, by repeat (first | exact Below.refl _ _ | apply Below.drew | apply bA)⟩
set_option maxHeartbeats 1000000 in
set_option maxRecDepth 100000 in
theorem nan_calls (a : Nat) (w : World) : Calls Tryd.prog 44 #[.float .f32 a] w fun e w' => e = .returned (.bool (isN .f32 a)) ∧ Below w.heap.size w w' := by
  cases h : isN .f32 a with
  | false =>
    obtain ⟨z, hz, hC⟩ := conv_num h
    have h2 := ne_num hz
    go_enter Tryd.func44, Tryd.ntmps44
    go_wp2
    go_ret
    exact ⟨rfl, by repeat (first | exact Below.refl _ _ | apply Below.drew | apply bA)⟩
  | true =>
    obtain ⟨z, hz, hC⟩ := conv_nan h
    have h2 := fun W => ne_nan (hz W)
    go_enter Tryd.func44, Tryd.ntmps44
    go_wp2
    go_ret
    exact ⟨rfl, by repeat (first | exact Below.refl _ _ | apply Below.drew | apply bA)⟩
set_option maxHeartbeats 1000000 in
set_option maxRecDepth 100000 in
theorem ibits_calls (a : Nat) (w : World) : Calls Tryd.prog 28 #[.float .f32 a] w fun e w' => e = .returned (.int .u32 (nB a)) ∧ Below w.heap.size w w' := by
  have hF := fb_run a
  unfold nB
  cases h : isN .f32 a with
  | false =>
    rw [if_neg (by decide)]
    go_enter Tryd.func28, Tryd.ntmps28
    go_wp2_with (go_at_call 44; refine (nan_calls a _).mono ?_; rw [h]; rintro e w' ⟨rfl, hb⟩)
    go_ret
    exact ⟨rfl, hb⟩
  | true =>
    rw [if_pos rfl]
    go_enter Tryd.func28, Tryd.ntmps28
    go_wp2_with (go_at_call 44; refine (nan_calls a _).mono ?_; rw [h]; rintro e w' ⟨rfl, hb⟩)
    go_ret
    exact ⟨rfl, hb⟩
end Tx
end Go.Proofs.YtbidagapkcmfnaaDoor
end
