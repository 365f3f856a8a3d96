/-
  The same number, by the law's own test. No condition.
-/
import Derived.Test.YtbidagapkcmfnaaDoorHf
import Derived.Lib.Hide
import Derived.Laws.FloatArith
noncomputable section
namespace Go.Proofs.YtbidagapkcmfnaaDoor
namespace Tx
open Go Go.RowKit Ev Ieee
def numB : Datum → Bool
  | .number _ m _ => m != 0
  | _ => false
theorem one_read : ∃ g m e, FloatKind.f64.format.read 4607182418800017408 = .number g m e ∧ m ≠ 0 := by
  have h : numB (FloatKind.f64.format.read 4607182418800017408) = true := by decide +kernel
  cases e : FloatKind.f64.format.read 4607182418800017408 with
  | nan s t => rw [e] at h; cases h
  | infinity s => rw [e] at h; cases h
  | number g m q =>
    rw [e] at h
    exact ⟨g, m, q, rfl, fun h0 => by subst h0; cases h⟩
theorem div_one {z : Nat} (h : isN .f64 z = false) : ∃ r, FloatKind.f64.format.div 4607182418800017408 z = some r := by
  obtain ⟨g, m, e, h1, hm⟩ := one_read
  unfold Format.div
  rw [h1]
  cases hz : FloatKind.f64.format.read z with
  | nan s t => rw [isN, hz] at h; cases h
  | infinity s => exact ⟨_, rfl⟩
  | number s n j =>
    by_cases hn : n = 0
    · simp only [Datum.quotient, if_pos hn, if_neg hm]
      exact ⟨_, rfl⟩
    · simp only [Datum.quotient, if_neg hn]
      exact ⟨_, rfl⟩
theorem eq_num {k : FloatKind} {x : Nat} (h : isN k x = false) : (k.format.order x x == some Ordering.eq) = true := feq_self h
set_option maxHeartbeats 1000000 in
set_option maxRecDepth 100000 in
theorem sf_num {z : Nat} (h : isN .f64 z = false) (w : World) : Calls Tryd.prog 8 #[.float .f64 z, .float .f64 z] w fun e w' => e = .returned (.bool true) ∧ w' = w := by
  have h2 := ne_num h
  have h3 := eq_num h
  obtain ⟨r, hr⟩ := div_one h
  have hq : ∀ W, (binOp .quo 26 (.float .f64 4607182418800017408) (.float .f64 z)).run Tryd.prog W = .ok (.float .f64 r) W := fun W => run_float_arith W .quo _ .f64 _ _ r hr
  clear h
  cases h0 : (FloatKind.f64.format.order z 0 == some Ordering.eq) with
  | true =>
    cases h1 : (FloatKind.f64.format.order r 0 == some Ordering.gt) with
    | true =>
      go_enter Tryd.func8, Tryd.ntmps8
      go_wp2
      go_ret
      exact ⟨rfl, rfl⟩
    | false =>
      go_enter Tryd.func8, Tryd.ntmps8
      go_wp2
      go_ret
      exact ⟨rfl, rfl⟩
  | false =>
    go_enter Tryd.func8, Tryd.ntmps8
    go_wp2
    go_ret
    exact ⟨rfl, rfl⟩
set_option maxHeartbeats 1000000 in
set_option maxRecDepth 100000 in
theorem sf_nan {x y : Nat} (hx : isN .f64 x = true) (hy : isN .f64 y = true) (w : World) : Calls Tryd.prog 8 #[.float .f64 x, .float .f64 y] w fun e w' => e = .returned (.bool true) ∧ w' = w := by
  have h2 := ne_nan hx
  have h3 := ne_nan hy
  clear hx hy
  go_enter Tryd.func8, Tryd.ntmps8
  go_wp2
  go_ret
  exact ⟨rfl, rfl⟩
end Tx
end Go.Proofs.YtbidagapkcmfnaaDoor
end
