/-
  The third root: the program's function and its model answer the same ('rootV', with the code 'rootC'), whatever number comes in: both loops end, and what is found is narrowed without overflow. No condition.
-/
import Derived.Test.YtofjdlhalbeniaaX
import Derived.Test.YtofjdlhalbeniaaFl
import Derived.Test.YtofjdlhalbeniaaEb
noncomputable section
namespace Go.Proofs.Ytofjdlhalbeniaa.root
open Go Go.RowKit Go.ChangeShapes Go.WideShapes Go.ChangeAt Ev Sx Ieee

abbrev J := Nat → Value × Bool
def up (j : J) (i : Nat) (p : Value × Bool) : J := fun m => bif Nat.beq m i then p else j m
def v32 (a : Nat) : Value × Bool := (.float .f32 a, true)
def v64 (a : Nat) : Value × Bool := (.float .f64 a, true)
def vB (b : Bool) : Value × Bool := (.bool b, true)
def vI (z : Int) : Value × Bool := (.int .i64 z, true)
def S (n : Nat) (j : J) : St := ⟨(List.range n).map j, [], true⟩
def base (a b x : Nat) (j : J) : J := up (up (up j 0 (v32 a)) 4 (v64 b)) 5 (v64 x)

/-! ### loops whose state is two numbers -/
theorem loop_lp {E : Env} {N id : Nat} {B : Code} {T : Nat → Nat → J → St} {g : Nat → Bool} {fb fx : Nat → Nat}
    (step : ∀ b x j, g b = true → ∃ j', Goes E N B (T b x j) .normal (T (fb b) (fx x) j')) (stop : ∀ b x j, g b = false → ∃ j', Goes E N B (T b x j) (.exit id) (T b x j')) :
    ∀ (n b x : Nat) (j : J), g (lp g fb fx n b x).1 = false → ∃ j', Goes E (N + n + 1) (.loop B) (T b x j) (.exit id) (T (lp g fb fx n b x).1 (lp g fb fx n b x).2 j')
  | n, b, x, j, h => by
    cases hg : g b with
    | false =>
      obtain ⟨j', k⟩ := stop b x j hg
      have e : lp g fb fx n b x = (b, x) := by
        cases n with
        | zero => rfl
        | succ n => rw [lp, hg, cond_false]
      rw [e]
      exact ⟨j', (Goes.loopX k).more (by omega)⟩
    | true =>
      cases n with
      | zero => exact absurd (show g b = false from h) (by rw [hg]; decide)
      | succ n =>
        obtain ⟨j1, k1⟩ := step b x j hg
        rw [lp, hg, cond_true] at h ⊢
        obtain ⟨j', k2⟩ := loop_lp step stop n (fb b) (fx x) j1 h
        exact ⟨j', (Goes.loop (k1.more (show N ≤ N + n + 1 by omega)) k2).more (by omega)⟩

/-! ### math.Abs, math.Copysign -/
def absO : Sig
  | [.float .f64 a] => some (.float .f64 (fabs a), true)
  | _ => none
theorem abs_one : OrcOne Try.prog 57 absO := by
  refine ⟨by kernel_rfl, fun args v k he hk μ cargs w hx => ?_⟩
  unfold absO at he
  split at he
  · simp only [Option.some.injEq, Prod.mk.injEq] at he
    obtain ⟨rfl, rfl⟩ := he
    obtain ⟨y, rfl, hy⟩ := one_arg hx
    obtain ⟨x, rfl, rfl⟩ := hy.float_inv
    refine (abs_walk x w).mono fun e w' ⟨h1, h2⟩ => ?_
    subst h1; subst h2
    exact ⟨_, rfl, .float _ _ _ (fabs_cn x).symm, Below.refl _ _⟩
  · cases he
set_option maxHeartbeats 400000 in
theorem cs_walk (x s : Nat) (w : World) : Calls Try.prog 58 #[.float .f64 x, .float .f64 s] w fun e w' => e = .returned (.float .f64 (csR x s)) ∧ w' = w := by
  have h1 : ∀ x w, (callFunc 83 #[.float .f64 x]).run Try.prog w = .ok (.value (.int .u64 (x : Nat))) w := fun x w => ext_run isF64bits rfl
  have h2 : ∀ (n : Int) w, (callFunc 82 #[.int .u64 n]).run Try.prog w = .ok (.value (.float .f64 n.toNat)) w := fun n w => ext_run isF64from rfl
  go_enter Try.func58, Try.ntmps58
  go_wp2
  go_ret
  exact ⟨rfl, rfl⟩
/-- a number that is not negative gets a sign -/
def csO : Sig
  | [.float .f64 x, .float .f64 s] => some (.float .f64 (csR x s), Nat.blt x inf64 && (!isN .f64 s && Nat.beq (cn .f64 (csR x s)) (csR x s)))
  | _ => none
theorem cs_one : OrcOne Try.prog 58 csO := by
  refine ⟨by kernel_rfl, fun args v k he hk μ cargs w hx => ?_⟩
  unfold csO at he
  split at he
  · rename_i x s
    simp only [Option.some.injEq, Prod.mk.injEq] at he
    obtain ⟨rfl, rfl⟩ := he
    simp only [Bool.and_eq_true, Bool.not_eq_true'] at hk
    obtain ⟨y, z, rfl, hy, hz⟩ := two_args hx
    obtain ⟨x', rfl, ex⟩ := hy.float_inv
    obtain ⟨s', rfl, es⟩ := hz.float_inv
    have hn : isN .f64 x' = false := by
      cases h : isN .f64 x' with
      | false => rfl
      | true =>
        rw [cn_of_N h] at ex
        subst ex
        exact absurd hk.1 (by decide)
    have hm : isN .f64 s' = false := by
      cases h : isN .f64 s' with
      | false => rfl
      | true =>
        rw [cn_of_N h] at es
        subst es
        exact absurd hk.2.1 (by decide +kernel)
    rw [cn_of_not hn] at ex
    rw [cn_of_not hm] at es
    subst ex; subst es
    refine (cs_walk x s w).mono fun e w' ⟨h1, h2⟩ => ?_
    subst h1; subst h2
    exact ⟨_, rfl, .float _ _ _ (beqT hk.2.2).symm, Below.refl _ _⟩
  · cases he
def orcR : List (Nat × Sig) := (57, absO) :: (58, csO) :: orcX
theorem orcROk : ∀ p ∈ orcR, OrcOne Try.prog p.1 p.2 := all_cons abs_one (all_cons cs_one orcXOk)

/-! ### loop.example/g01213/spec.CubeRoot -/
def usM : List Nat := [28, 56]

def envM (P : Program) : Env := ⟨P, fun f => seek f extX, funD P (fun f => seek f extX) (fun f => seek f orcR) usM 300 4⟩
theorem stepM1 (a b x : Nat) (j : J) (hg : g1 b = true) : ∃ j', Goes (envM Try.prog) 20 (inn (inn (sa (sb (sb (sb (sb (sb (sb (Try.f28.body.getD .skip)))))))))) (S 61 (base a b x j)) .normal (S 61 (base a (d8 b) (m2 x) j')) := by
  refine ⟨up (up (up (up (up (up j 21 (v64 b)) 22 (vB (g1 b))) 23 (v64 b)) 24 (v64 (d8 b))) 25 (v64 x)) 26 (v64 (m2 x)), ?_⟩
  have h1 : regionOf (envM Try.prog) (sa (sa (inn (inn (sa (sb (sb (sb (sb (sb (sb (Try.f28.body.getD .skip)))))))))))) (S 61 (base a b x j)) = some (S 61 (base a b x (up (up j 21 (v64 b)) 22 (vB (g1 b))))) := by kernel_rfl
  have h2 : regionOf (envM Try.prog) (sa (inn (sb (inn (inn (sa (sb (sb (sb (sb (sb (sb (Try.f28.body.getD .skip))))))))))))) (S 61 (base a b x (up (up j 21 (v64 b)) 22 (vB (g1 b))))) = some (S 61 (base a (d8 b) x (up (up (up (up j 21 (v64 b)) 22 (vB (g1 b))) 23 (v64 b)) 24 (v64 (d8 b))))) := by kernel_rfl
  have h3 : regionOf (envM Try.prog) (sb (inn (sb (inn (inn (sa (sb (sb (sb (sb (sb (sb (Try.f28.body.getD .skip))))))))))))) (S 61 (base a (d8 b) x (up (up (up (up j 21 (v64 b)) 22 (vB (g1 b))) 23 (v64 b)) 24 (v64 (d8 b))))) = some (S 61 (base a (d8 b) (m2 x) (up (up (up (up (up (up j 21 (v64 b)) 22 (vB (g1 b))) 23 (v64 b)) 24 (v64 (d8 b))) 25 (v64 x)) 26 (v64 (m2 x))))) := by kernel_rfl
  have h4 : evl (S 61 (base a b x (up (up j 21 (v64 b)) 22 (vB (g1 b))))).tmps (cx (sb (sa (inn (inn (sa (sb (sb (sb (sb (sb (sb (Try.f28.body.getD .skip))))))))))))) = vB (g1 b) := by kernel_rfl
  have h5 := h4.trans (show vB (g1 b) = vB true by rw [hg])
  exact Goes.seq' (N := 19) (by kernel_rfl) (Goes.seq' (N := 18) (by kernel_rfl) (.reg (N := 17) h1) (Goes.condT' (N := 17) (by kernel_rfl) h5 (Goes.skip' (N := 16) (by kernel_rfl)))) (Goes.block' (N := 18) (by kernel_rfl) (Goes.seq' (N := 17) (by kernel_rfl) (.reg (N := 16) h2) (.reg (N := 16) h3)))
theorem stopM1 (a b x : Nat) (j : J) (hg : g1 b = false) : ∃ j', Goes (envM Try.prog) 20 (inn (inn (sa (sb (sb (sb (sb (sb (sb (Try.f28.body.getD .skip)))))))))) (S 61 (base a b x j)) (.exit 0) (S 61 (base a b x j')) := by
  refine ⟨(up (up j 21 (v64 b)) 22 (vB (g1 b))), ?_⟩
  have h1 : regionOf (envM Try.prog) (sa (sa (inn (inn (sa (sb (sb (sb (sb (sb (sb (Try.f28.body.getD .skip)))))))))))) (S 61 (base a b x j)) = some (S 61 (base a b x (up (up j 21 (v64 b)) 22 (vB (g1 b))))) := by kernel_rfl
  have h4 : evl (S 61 (base a b x (up (up j 21 (v64 b)) 22 (vB (g1 b))))).tmps (cx (sb (sa (inn (inn (sa (sb (sb (sb (sb (sb (sb (Try.f28.body.getD .skip))))))))))))) = vB (g1 b) := by kernel_rfl
  have h5 := h4.trans (show vB (g1 b) = vB false by rw [hg])
  exact Goes.seqX' (N := 19) (by kernel_rfl) (Goes.seq' (N := 18) (by kernel_rfl) (.reg (N := 17) h1) (Goes.condF' (N := 17) (by kernel_rfl) h5 (Goes.exit' (N := 16) (by kernel_rfl))))
theorem loopM1 (a b x : Nat) (j : J) (h : g1 (lp g1 d8 m2 43 b x).1 = false) : ∃ j', Goes (envM Try.prog) 100 (sa (sb (sb (sb (sb (sb (sb (Try.f28.body.getD .skip)))))))) (S 61 (base a b x j)) .normal (S 61 (base a (lp g1 d8 m2 43 b x).1 (lp g1 d8 m2 43 b x).2 j')) := by
  obtain ⟨j', hk⟩ := loop_lp (T := fun b x j => S 61 (base a b x j)) (stepM1 a) (stopM1 a) 43 b x j h
  refine ⟨j', Goes.blockX' (N := 99) (by kernel_rfl) ?_⟩
  have hc : inn (sa (sb (sb (sb (sb (sb (sb (Try.f28.body.getD .skip)))))))) = .loop (inn (inn (sa (sb (sb (sb (sb (sb (sb (Try.f28.body.getD .skip)))))))))) := by kernel_rfl
  rw [hc]
  exact hk.more (by decide)

theorem stepM2 (a b x : Nat) (j : J) (hg : g2 b = true) : ∃ j', Goes (envM Try.prog) 20 (inn (inn (sa (sb (sb (sb (sb (sb (sb (sb (Try.f28.body.getD .skip))))))))))) (S 61 (base a b x j)) .normal (S 61 (base a (m8 b) (d2 x) j')) := by
  refine ⟨up (up (up (up (up (up j 27 (v64 b)) 28 (vB (g2 b))) 29 (v64 b)) 30 (v64 (m8 b))) 31 (v64 x)) 32 (v64 (d2 x)), ?_⟩
  have h1 : regionOf (envM Try.prog) (sa (sa (inn (inn (sa (sb (sb (sb (sb (sb (sb (sb (Try.f28.body.getD .skip))))))))))))) (S 61 (base a b x j)) = some (S 61 (base a b x (up (up j 27 (v64 b)) 28 (vB (g2 b))))) := by kernel_rfl
  have h2 : regionOf (envM Try.prog) (sa (inn (sb (inn (inn (sa (sb (sb (sb (sb (sb (sb (sb (Try.f28.body.getD .skip)))))))))))))) (S 61 (base a b x (up (up j 27 (v64 b)) 28 (vB (g2 b))))) = some (S 61 (base a (m8 b) x (up (up (up (up j 27 (v64 b)) 28 (vB (g2 b))) 29 (v64 b)) 30 (v64 (m8 b))))) := by kernel_rfl
  have h3 : regionOf (envM Try.prog) (sb (inn (sb (inn (inn (sa (sb (sb (sb (sb (sb (sb (sb (Try.f28.body.getD .skip)))))))))))))) (S 61 (base a (m8 b) x (up (up (up (up j 27 (v64 b)) 28 (vB (g2 b))) 29 (v64 b)) 30 (v64 (m8 b))))) = some (S 61 (base a (m8 b) (d2 x) (up (up (up (up (up (up j 27 (v64 b)) 28 (vB (g2 b))) 29 (v64 b)) 30 (v64 (m8 b))) 31 (v64 x)) 32 (v64 (d2 x))))) := by kernel_rfl
  have h4 : evl (S 61 (base a b x (up (up j 27 (v64 b)) 28 (vB (g2 b))))).tmps (cx (sb (sa (inn (inn (sa (sb (sb (sb (sb (sb (sb (sb (Try.f28.body.getD .skip)))))))))))))) = vB (g2 b) := by kernel_rfl
  have h5 := h4.trans (show vB (g2 b) = vB true by rw [hg])
  exact Goes.seq' (N := 19) (by kernel_rfl) (Goes.seq' (N := 18) (by kernel_rfl) (.reg (N := 17) h1) (Goes.condT' (N := 17) (by kernel_rfl) h5 (Goes.skip' (N := 16) (by kernel_rfl)))) (Goes.block' (N := 18) (by kernel_rfl) (Goes.seq' (N := 17) (by kernel_rfl) (.reg (N := 16) h2) (.reg (N := 16) h3)))
theorem stopM2 (a b x : Nat) (j : J) (hg : g2 b = false) : ∃ j', Goes (envM Try.prog) 20 (inn (inn (sa (sb (sb (sb (sb (sb (sb (sb (Try.f28.body.getD .skip))))))))))) (S 61 (base a b x j)) (.exit 2) (S 61 (base a b x j')) := by
  refine ⟨(up (up j 27 (v64 b)) 28 (vB (g2 b))), ?_⟩
  have h1 : regionOf (envM Try.prog) (sa (sa (inn (inn (sa (sb (sb (sb (sb (sb (sb (sb (Try.f28.body.getD .skip))))))))))))) (S 61 (base a b x j)) = some (S 61 (base a b x (up (up j 27 (v64 b)) 28 (vB (g2 b))))) := by kernel_rfl
  have h4 : evl (S 61 (base a b x (up (up j 27 (v64 b)) 28 (vB (g2 b))))).tmps (cx (sb (sa (inn (inn (sa (sb (sb (sb (sb (sb (sb (sb (Try.f28.body.getD .skip)))))))))))))) = vB (g2 b) := by kernel_rfl
  have h5 := h4.trans (show vB (g2 b) = vB false by rw [hg])
  exact Goes.seqX' (N := 19) (by kernel_rfl) (Goes.seq' (N := 18) (by kernel_rfl) (.reg (N := 17) h1) (Goes.condF' (N := 17) (by kernel_rfl) h5 (Goes.exit' (N := 16) (by kernel_rfl))))
theorem loopM2 (a b x : Nat) (j : J) (h : g2 (lp g2 m8 d2 50 b x).1 = false) : ∃ j', Goes (envM Try.prog) 100 (sa (sb (sb (sb (sb (sb (sb (sb (Try.f28.body.getD .skip))))))))) (S 61 (base a b x j)) .normal (S 61 (base a (lp g2 m8 d2 50 b x).1 (lp g2 m8 d2 50 b x).2 j')) := by
  obtain ⟨j', hk⟩ := loop_lp (T := fun b x j => S 61 (base a b x j)) (stepM2 a) (stopM2 a) 50 b x j h
  refine ⟨j', Goes.blockX' (N := 99) (by kernel_rfl) ?_⟩
  have hc : inn (sa (sb (sb (sb (sb (sb (sb (sb (Try.f28.body.getD .skip))))))))) = .loop (inn (inn (sa (sb (sb (sb (sb (sb (sb (sb (Try.f28.body.getD .skip))))))))))) := by kernel_rfl
  rw [hc]
  exact hk.more (by decide)

def jM6 (j : J) : J := up j 6 (v64 4609434218613702656)
def jM7 (b : Nat) (j : J) : J := (up (up (up (up (up (up (up (up (up (up (up (up (up (up (up (up (up (up (up (up (up (up j 7 (vI 6)) 33 (vI 6)) 34 (vB false)) 35 (vI 5)) 36 (vI 6)) 37 (v64 (nsteps b 5 4609434218613702656))) 38 (v64 (nsteps b 5 4609434218613702656))) 40 (v64 (nsteps b 5 4609434218613702656))) 42 (v64 (nsteps b 5 4609434218613702656))) 46 (v64 (nsteps b 5 4609434218613702656))) 48 (v64 (nsteps b 5 4609434218613702656))) 39 (v64 (fmul .f64 (nsteps b 5 4609434218613702656) (nsteps b 5 4609434218613702656)))) 41 (v64 (cubeF (nsteps b 5 4609434218613702656)))) 8 (v64 (cubeF (nsteps b 5 4609434218613702656)))) 43 (v64 (cubeF (nsteps b 5 4609434218613702656)))) 44 (v64 b)) 45 (v64 (fsub .f64 (cubeF (nsteps b 5 4609434218613702656)) b))) 47 (v64 (fmul .f64 4613937818241073152 (nsteps b 5 4609434218613702656)))) 49 (v64 (denF (nsteps b 5 4609434218613702656)))) 50 (v64 (fdiv .f64 (fsub .f64 (cubeF (nsteps b 5 4609434218613702656)) b) (denF (nsteps b 5 4609434218613702656))))) 51 (v64 (nsteps b 6 4609434218613702656))) 6 (v64 (nsteps b 6 4609434218613702656)))
theorem runM (a b x : Nat) (j : J) : Goes (envM Try.prog) 120 (sa (sb (sb (sb (sb (sb (sb (sb (sb (sb (Try.f28.body.getD .skip))))))))))) (S 61 (jM6 (base a b x j))) .normal (S 61 (jM7 b (base a b x j))) := .run 120 fun m k => by kernel_rfl


/-! ### loop.example/g01213/impl.CubeRoot -/
def usI : List Nat := [29]

def envI (P : Program) : Env := ⟨P, fun f => seek f extX, funD P (fun f => seek f extX) (fun f => seek f orcR) usI 300 4⟩
theorem stepI1 (a b x : Nat) (j : J) (hg : g1 b = true) : ∃ j', Goes (envI Try.prog) 20 (inn (inn (sa (sb (sb (sb (sb (Try.f29.body.getD .skip)))))))) (S 53 (base a b x j)) .normal (S 53 (base a (d8 b) (m2 x) j')) := by
  refine ⟨up (up (up (up (up (up j 16 (v64 b)) 17 (vB (g1 b))) 18 (v64 b)) 19 (v64 (d8 b))) 20 (v64 x)) 21 (v64 (m2 x)), ?_⟩
  have h1 : regionOf (envI Try.prog) (sa (sa (inn (inn (sa (sb (sb (sb (sb (Try.f29.body.getD .skip)))))))))) (S 53 (base a b x j)) = some (S 53 (base a b x (up (up j 16 (v64 b)) 17 (vB (g1 b))))) := by kernel_rfl
  have h2 : regionOf (envI Try.prog) (sa (inn (sb (inn (inn (sa (sb (sb (sb (sb (Try.f29.body.getD .skip))))))))))) (S 53 (base a b x (up (up j 16 (v64 b)) 17 (vB (g1 b))))) = some (S 53 (base a (d8 b) x (up (up (up (up j 16 (v64 b)) 17 (vB (g1 b))) 18 (v64 b)) 19 (v64 (d8 b))))) := by kernel_rfl
  have h3 : regionOf (envI Try.prog) (sb (inn (sb (inn (inn (sa (sb (sb (sb (sb (Try.f29.body.getD .skip))))))))))) (S 53 (base a (d8 b) x (up (up (up (up j 16 (v64 b)) 17 (vB (g1 b))) 18 (v64 b)) 19 (v64 (d8 b))))) = some (S 53 (base a (d8 b) (m2 x) (up (up (up (up (up (up j 16 (v64 b)) 17 (vB (g1 b))) 18 (v64 b)) 19 (v64 (d8 b))) 20 (v64 x)) 21 (v64 (m2 x))))) := by kernel_rfl
  have h4 : evl (S 53 (base a b x (up (up j 16 (v64 b)) 17 (vB (g1 b))))).tmps (cx (sb (sa (inn (inn (sa (sb (sb (sb (sb (Try.f29.body.getD .skip))))))))))) = vB (g1 b) := by kernel_rfl
  have h5 := h4.trans (show vB (g1 b) = vB true by rw [hg])
  exact Goes.seq' (N := 19) (by kernel_rfl) (Goes.seq' (N := 18) (by kernel_rfl) (.reg (N := 17) h1) (Goes.condT' (N := 17) (by kernel_rfl) h5 (Goes.skip' (N := 16) (by kernel_rfl)))) (Goes.block' (N := 18) (by kernel_rfl) (Goes.seq' (N := 17) (by kernel_rfl) (.reg (N := 16) h2) (.reg (N := 16) h3)))
theorem stopI1 (a b x : Nat) (j : J) (hg : g1 b = false) : ∃ j', Goes (envI Try.prog) 20 (inn (inn (sa (sb (sb (sb (sb (Try.f29.body.getD .skip)))))))) (S 53 (base a b x j)) (.exit 0) (S 53 (base a b x j')) := by
  refine ⟨(up (up j 16 (v64 b)) 17 (vB (g1 b))), ?_⟩
  have h1 : regionOf (envI Try.prog) (sa (sa (inn (inn (sa (sb (sb (sb (sb (Try.f29.body.getD .skip)))))))))) (S 53 (base a b x j)) = some (S 53 (base a b x (up (up j 16 (v64 b)) 17 (vB (g1 b))))) := by kernel_rfl
  have h4 : evl (S 53 (base a b x (up (up j 16 (v64 b)) 17 (vB (g1 b))))).tmps (cx (sb (sa (inn (inn (sa (sb (sb (sb (sb (Try.f29.body.getD .skip))))))))))) = vB (g1 b) := by kernel_rfl
  have h5 := h4.trans (show vB (g1 b) = vB false by rw [hg])
  exact Goes.seqX' (N := 19) (by kernel_rfl) (Goes.seq' (N := 18) (by kernel_rfl) (.reg (N := 17) h1) (Goes.condF' (N := 17) (by kernel_rfl) h5 (Goes.exit' (N := 16) (by kernel_rfl))))
theorem loopI1 (a b x : Nat) (j : J) (h : g1 (lp g1 d8 m2 43 b x).1 = false) : ∃ j', Goes (envI Try.prog) 100 (sa (sb (sb (sb (sb (Try.f29.body.getD .skip)))))) (S 53 (base a b x j)) .normal (S 53 (base a (lp g1 d8 m2 43 b x).1 (lp g1 d8 m2 43 b x).2 j')) := by
  obtain ⟨j', hk⟩ := loop_lp (T := fun b x j => S 53 (base a b x j)) (stepI1 a) (stopI1 a) 43 b x j h
  refine ⟨j', Goes.blockX' (N := 99) (by kernel_rfl) ?_⟩
  have hc : inn (sa (sb (sb (sb (sb (Try.f29.body.getD .skip)))))) = .loop (inn (inn (sa (sb (sb (sb (sb (Try.f29.body.getD .skip)))))))) := by kernel_rfl
  rw [hc]
  exact hk.more (by decide)

theorem stepI2 (a b x : Nat) (j : J) (hg : g2 b = true) : ∃ j', Goes (envI Try.prog) 20 (inn (inn (sa (sb (sb (sb (sb (sb (Try.f29.body.getD .skip))))))))) (S 53 (base a b x j)) .normal (S 53 (base a (m8 b) (d2 x) j')) := by
  refine ⟨up (up (up (up (up (up j 22 (v64 b)) 23 (vB (g2 b))) 24 (v64 b)) 25 (v64 (m8 b))) 26 (v64 x)) 27 (v64 (d2 x)), ?_⟩
  have h1 : regionOf (envI Try.prog) (sa (sa (inn (inn (sa (sb (sb (sb (sb (sb (Try.f29.body.getD .skip))))))))))) (S 53 (base a b x j)) = some (S 53 (base a b x (up (up j 22 (v64 b)) 23 (vB (g2 b))))) := by kernel_rfl
  have h2 : regionOf (envI Try.prog) (sa (inn (sb (inn (inn (sa (sb (sb (sb (sb (sb (Try.f29.body.getD .skip)))))))))))) (S 53 (base a b x (up (up j 22 (v64 b)) 23 (vB (g2 b))))) = some (S 53 (base a (m8 b) x (up (up (up (up j 22 (v64 b)) 23 (vB (g2 b))) 24 (v64 b)) 25 (v64 (m8 b))))) := by kernel_rfl
  have h3 : regionOf (envI Try.prog) (sb (inn (sb (inn (inn (sa (sb (sb (sb (sb (sb (Try.f29.body.getD .skip)))))))))))) (S 53 (base a (m8 b) x (up (up (up (up j 22 (v64 b)) 23 (vB (g2 b))) 24 (v64 b)) 25 (v64 (m8 b))))) = some (S 53 (base a (m8 b) (d2 x) (up (up (up (up (up (up j 22 (v64 b)) 23 (vB (g2 b))) 24 (v64 b)) 25 (v64 (m8 b))) 26 (v64 x)) 27 (v64 (d2 x))))) := by kernel_rfl
  have h4 : evl (S 53 (base a b x (up (up j 22 (v64 b)) 23 (vB (g2 b))))).tmps (cx (sb (sa (inn (inn (sa (sb (sb (sb (sb (sb (Try.f29.body.getD .skip)))))))))))) = vB (g2 b) := by kernel_rfl
  have h5 := h4.trans (show vB (g2 b) = vB true by rw [hg])
  exact Goes.seq' (N := 19) (by kernel_rfl) (Goes.seq' (N := 18) (by kernel_rfl) (.reg (N := 17) h1) (Goes.condT' (N := 17) (by kernel_rfl) h5 (Goes.skip' (N := 16) (by kernel_rfl)))) (Goes.block' (N := 18) (by kernel_rfl) (Goes.seq' (N := 17) (by kernel_rfl) (.reg (N := 16) h2) (.reg (N := 16) h3)))
theorem stopI2 (a b x : Nat) (j : J) (hg : g2 b = false) : ∃ j', Goes (envI Try.prog) 20 (inn (inn (sa (sb (sb (sb (sb (sb (Try.f29.body.getD .skip))))))))) (S 53 (base a b x j)) (.exit 2) (S 53 (base a b x j')) := by
  refine ⟨(up (up j 22 (v64 b)) 23 (vB (g2 b))), ?_⟩
  have h1 : regionOf (envI Try.prog) (sa (sa (inn (inn (sa (sb (sb (sb (sb (sb (Try.f29.body.getD .skip))))))))))) (S 53 (base a b x j)) = some (S 53 (base a b x (up (up j 22 (v64 b)) 23 (vB (g2 b))))) := by kernel_rfl
  have h4 : evl (S 53 (base a b x (up (up j 22 (v64 b)) 23 (vB (g2 b))))).tmps (cx (sb (sa (inn (inn (sa (sb (sb (sb (sb (sb (Try.f29.body.getD .skip)))))))))))) = vB (g2 b) := by kernel_rfl
  have h5 := h4.trans (show vB (g2 b) = vB false by rw [hg])
  exact Goes.seqX' (N := 19) (by kernel_rfl) (Goes.seq' (N := 18) (by kernel_rfl) (.reg (N := 17) h1) (Goes.condF' (N := 17) (by kernel_rfl) h5 (Goes.exit' (N := 16) (by kernel_rfl))))
theorem loopI2 (a b x : Nat) (j : J) (h : g2 (lp g2 m8 d2 50 b x).1 = false) : ∃ j', Goes (envI Try.prog) 100 (sa (sb (sb (sb (sb (sb (Try.f29.body.getD .skip))))))) (S 53 (base a b x j)) .normal (S 53 (base a (lp g2 m8 d2 50 b x).1 (lp g2 m8 d2 50 b x).2 j')) := by
  obtain ⟨j', hk⟩ := loop_lp (T := fun b x j => S 53 (base a b x j)) (stepI2 a) (stopI2 a) 50 b x j h
  refine ⟨j', Goes.blockX' (N := 99) (by kernel_rfl) ?_⟩
  have hc : inn (sa (sb (sb (sb (sb (sb (Try.f29.body.getD .skip))))))) = .loop (inn (inn (sa (sb (sb (sb (sb (sb (Try.f29.body.getD .skip))))))))) := by kernel_rfl
  rw [hc]
  exact hk.more (by decide)

def jI6 (j : J) : J := up j 6 (v64 4609434218613702656)
def jI7 (b : Nat) (j : J) : J := (up (up (up (up (up (up (up (up (up (up (up (up (up (up (up (up (up (up (up (up j 28 (vI 6)) 29 (vB false)) 30 (v64 (nsteps b 5 4609434218613702656))) 31 (v64 (nsteps b 5 4609434218613702656))) 33 (v64 (nsteps b 5 4609434218613702656))) 35 (v64 (nsteps b 5 4609434218613702656))) 39 (v64 (nsteps b 5 4609434218613702656))) 41 (v64 (nsteps b 5 4609434218613702656))) 32 (v64 (fmul .f64 (nsteps b 5 4609434218613702656) (nsteps b 5 4609434218613702656)))) 34 (v64 (cubeF (nsteps b 5 4609434218613702656)))) 7 (v64 (cubeF (nsteps b 5 4609434218613702656)))) 36 (v64 (cubeF (nsteps b 5 4609434218613702656)))) 37 (v64 b)) 38 (v64 (fsub .f64 (cubeF (nsteps b 5 4609434218613702656)) b))) 40 (v64 (fmul .f64 4613937818241073152 (nsteps b 5 4609434218613702656)))) 42 (v64 (denF (nsteps b 5 4609434218613702656)))) 43 (v64 (fdiv .f64 (fsub .f64 (cubeF (nsteps b 5 4609434218613702656)) b) (denF (nsteps b 5 4609434218613702656))))) 44 (v64 (nsteps b 6 4609434218613702656))) 6 (v64 (nsteps b 6 4609434218613702656))) 45 (vI 6))
theorem runI (a b x : Nat) (j : J) : Goes (envI Try.prog) 120 (sa (sb (sb (sb (sb (sb (sb (sb (Try.f29.body.getD .skip))))))))) (S 53 (jI6 (base a b x j))) .normal (S 53 (jI7 b (base a b x j))) := .run 120 fun m k => by kernel_rfl


/-! ### what a number is made of -/
theorem slim_lt {y : Nat} (h : y ≤ 4809844402031689728) : slim y < FloatKind.f32.format.infRung := by
  have h1 := slim_hi h
  rw [show FloatKind.f32.format.infRung = 2139095040 from inf32]
  exact h1
theorem pos_slim {y : Nat} (h : y ≤ 4809844402031689728) : fcv .f64 .f32 y = single.word false (slim y) ∧ fcvOk .f64 .f32 y = true := slim_word (g := false) h
theorem neg_slim {y : Nat} (h : y ≤ 4809844402031689728) : fneg .f32 (fcv .f64 .f32 y) = single.word true (slim y) := by
  rw [(pos_slim h).1]
  exact fneg_word (k := .f32) (g := false) (slim_lt h)
theorem made {a : Nat} (hf : finB a = true) (hz : feq .f32 a 0 = false) : ∃ g W, flt .f32 a 0 = g ∧ fcv .f32 .f64 a = double.word g W ∧ Q0 ≤ W ∧ W ≤ P0 ∧ rootV a = single.word g (slim (rootY W)) ∧ isN .f64 (fcv .f32 .f64 a) = false := by
  obtain ⟨g, hu, hr⟩ := apart hf
  have hw := wide_word hu hr
  obtain ⟨z1, z2⟩ := zero32 hu hr
  have hu0 : ¬ a % 2147483648 = 0 := fun e => by rw [z1, decide_eq_true e] at hz; cases hz
  have hs : flt .f32 a 0 = g := by rw [z2, decide_eq_false hu0]; cases g <;> rfl
  refine ⟨g, _, hs, hw, wide_lo (Nat.pos_of_ne_zero hu0), wide_hi hu, ?_, ?_⟩
  · unfold rootV
    rw [hf, cond_true, hz, cond_false, hs]
  · rw [isN_widen]
    unfold isN
    obtain ⟨m, e, q1, _⟩ := read_word single (g := g) (r := a % 2147483648) (by rw [inf32]; exact hu)
    rw [show FloatKind.f32.format.read a = .number g m e from hr.trans q1]; rfl
theorem neg_wide {W : Nat} (h : W ≤ P0) : fneg .f64 (double.word true W) = W := fneg_word (k := .f64) (g := true) (k64 (Nat.lt_of_le_of_lt h (by decide)))
theorem abs_wide {W : Nat} {g : Bool} (h : W ≤ P0) : fabs (double.word g W) = W := by
  have h2 : W < inf64 := Nat.lt_of_le_of_lt h (by decide)
  have h63 : inf64 < 9223372036854775808 := by decide
  have hs63 : double.signWeight = 9223372036854775808 := by decide
  unfold fabs
  rw [fabsR_eq]
  have e : double.word g W % 9223372036854775808 = W := by
    unfold Format.word
    rw [hs63]
    cases g with
    | false => rw [if_neg (by decide)]; omega
    | true => rw [if_pos rfl]; omega
  rw [e]
  exact num_cn (k := .f64) (g := false) (k64 h2)

/-! ### before the loops, and where they are not reached -/
def j0 (a : Nat) : J := fun i => bif Nat.beq i 0 then v32 a else (undef, false)

theorem startM (a : Nat) : startS Try.f28 [.float .f32 a] [] = S 61 (j0 a) := by kernel_rfl
theorem r0M (a : Nat) : regionOf (envM Try.prog) (sa (Try.f28.body.getD .skip)) (S 61 (j0 a)) = some (S 61 (up (up (j0 a) 2 (v32 0)) 3 (vI 0))) := by kernel_rfl
theorem r1M (a : Nat) : regionOf (envM Try.prog) (sa (sa (sb (Try.f28.body.getD .skip)))) (S 61 (up (up (j0 a) 2 (v32 0)) 3 (vI 0))) = some (S 61 (up (up (up (up (up (j0 a) 2 (v32 0)) 3 (vI 0)) 10 (v32 a)) 11 (vB (feq .f32 (fsub .f32 a a) 0))) 12 (vB (!feq .f32 (fsub .f32 a a) 0)))) := by kernel_rfl
theorem c1M (a : Nat) : evl (S 61 (up (up (up (up (up (j0 a) 2 (v32 0)) 3 (vI 0)) 10 (v32 a)) 11 (vB (feq .f32 (fsub .f32 a a) 0))) 12 (vB (!feq .f32 (fsub .f32 a a) 0)))).tmps (cx (sb (sa (sb (Try.f28.body.getD .skip))))) = vB (!feq .f32 (fsub .f32 a a) 0) := by kernel_rfl
theorem r2M (a : Nat) : regionOf (envM Try.prog) (sa (sa (sb (sb (Try.f28.body.getD .skip))))) (S 61 (up (up (up (up (up (j0 a) 2 (v32 0)) 3 (vI 0)) 10 (v32 a)) 11 (vB (feq .f32 (fsub .f32 a a) 0))) 12 (vB (!feq .f32 (fsub .f32 a a) 0)))) = some (S 61 (up (up (up (up (up (up (up (j0 a) 2 (v32 0)) 3 (vI 0)) 10 (v32 a)) 11 (vB (feq .f32 (fsub .f32 a a) 0))) 12 (vB (!feq .f32 (fsub .f32 a a) 0))) 13 (v32 a)) 14 (vB (feq .f32 a 0)))) := by kernel_rfl
theorem c2M (a : Nat) : evl (S 61 (up (up (up (up (up (up (up (j0 a) 2 (v32 0)) 3 (vI 0)) 10 (v32 a)) 11 (vB (feq .f32 (fsub .f32 a a) 0))) 12 (vB (!feq .f32 (fsub .f32 a a) 0))) 13 (v32 a)) 14 (vB (feq .f32 a 0)))).tmps (cx (sb (sa (sb (sb (Try.f28.body.getD .skip)))))) = vB (feq .f32 a 0) := by kernel_rfl
theorem badM (a : Nat) (h : (feq .f32 (fsub .f32 a a) 0) = false) : funD Try.prog (fun f => seek f extX) (fun f => seek f orcR) usM 300 5 28 [.float .f32 a] [] = some (.tuple #[.float .f32 0, .int .i64 2], [], true) := by
  have h1 : regionOf (envM Try.prog) (sa (ca (sb (sa (sb (Try.f28.body.getD .skip)))))) (S 61 (up (up (up (up (up (j0 a) 2 (v32 0)) 3 (vI 0)) 10 (v32 a)) 11 (vB (feq .f32 (fsub .f32 a a) 0))) 12 (vB (!feq .f32 (fsub .f32 a a) 0)))) = some (S 61 (up (up (up (up (up (up (up (j0 a) 2 (v32 0)) 3 (vI 0)) 10 (v32 a)) 11 (vB (feq .f32 (fsub .f32 a a) 0))) 12 (vB (!feq .f32 (fsub .f32 a a) 0))) 2 (v32 0)) 3 (vI 2))) := by kernel_rfl
  have h2 : finK Try.prog Try.f28 .ret (S 61 (up (up (up (up (up (up (up (j0 a) 2 (v32 0)) 3 (vI 0)) 10 (v32 a)) 11 (vB (feq .f32 (fsub .f32 a a) 0))) 12 (vB (!feq .f32 (fsub .f32 a a) 0))) 2 (v32 0)) 3 (vI 2))) = some (.tuple #[.float .f32 0, .int .i64 2], [], true) := by kernel_rfl
  have h3 := (c1M a).trans (show vB (!feq .f32 (fsub .f32 a a) 0) = vB true by rw [h]; rfl)
  refine fun_of (N := 60) (c := (Try.f28.body.getD .skip)) (e := .ret) (s' := S 61 (up (up (up (up (up (up (up (j0 a) 2 (v32 0)) 3 (vI 0)) 10 (v32 a)) 11 (vB (feq .f32 (fsub .f32 a a) 0))) 12 (vB (!feq .f32 (fsub .f32 a a) 0))) 2 (v32 0)) 3 (vI 2))) (by kernel_rfl) (by kernel_rfl) (by kernel_rfl) (by kernel_rfl) ?_ (by decide) h2
  rw [startM]
  exact Goes.seq' (N := 59) (by kernel_rfl) (.reg (N := 58) (r0M a)) (Goes.seqR' (N := 58) (by kernel_rfl) (Goes.seq' (N := 57) (by kernel_rfl) (.reg (N := 56) (r1M a)) (Goes.condT' (N := 56) (by kernel_rfl) h3 (Goes.seq' (N := 55) (by kernel_rfl) (.reg (N := 54) h1) (Goes.ret' (N := 54) (by kernel_rfl))))))
theorem zeroM (a : Nat) (h : (feq .f32 (fsub .f32 a a) 0) = true) (hz : feq .f32 a 0 = true) : funD Try.prog (fun f => seek f extX) (fun f => seek f orcR) usM 300 5 28 [.float .f32 a] [] = some (.tuple #[.float .f32 0, .int .i64 0], [], true) := by
  have h1 : regionOf (envM Try.prog) (sa (ca (sb (sa (sb (sb (Try.f28.body.getD .skip))))))) (S 61 (up (up (up (up (up (up (up (j0 a) 2 (v32 0)) 3 (vI 0)) 10 (v32 a)) 11 (vB (feq .f32 (fsub .f32 a a) 0))) 12 (vB (!feq .f32 (fsub .f32 a a) 0))) 13 (v32 a)) 14 (vB (feq .f32 a 0)))) = some (S 61 (up (up (up (up (up (up (up (up (up (j0 a) 2 (v32 0)) 3 (vI 0)) 10 (v32 a)) 11 (vB (feq .f32 (fsub .f32 a a) 0))) 12 (vB (!feq .f32 (fsub .f32 a a) 0))) 13 (v32 a)) 14 (vB (feq .f32 a 0))) 2 (v32 0)) 3 (vI 0))) := by kernel_rfl
  have h2 : finK Try.prog Try.f28 .ret (S 61 (up (up (up (up (up (up (up (up (up (j0 a) 2 (v32 0)) 3 (vI 0)) 10 (v32 a)) 11 (vB (feq .f32 (fsub .f32 a a) 0))) 12 (vB (!feq .f32 (fsub .f32 a a) 0))) 13 (v32 a)) 14 (vB (feq .f32 a 0))) 2 (v32 0)) 3 (vI 0))) = some (.tuple #[.float .f32 0, .int .i64 0], [], true) := by kernel_rfl
  have h3 := (c1M a).trans (show vB (!feq .f32 (fsub .f32 a a) 0) = vB false by rw [h]; rfl)
  have h4 := (c2M a).trans (show vB (feq .f32 a 0) = vB true by rw [hz])
  refine fun_of (N := 60) (c := (Try.f28.body.getD .skip)) (e := .ret) (s' := S 61 (up (up (up (up (up (up (up (up (up (j0 a) 2 (v32 0)) 3 (vI 0)) 10 (v32 a)) 11 (vB (feq .f32 (fsub .f32 a a) 0))) 12 (vB (!feq .f32 (fsub .f32 a a) 0))) 13 (v32 a)) 14 (vB (feq .f32 a 0))) 2 (v32 0)) 3 (vI 0))) (by kernel_rfl) (by kernel_rfl) (by kernel_rfl) (by kernel_rfl) ?_ (by decide) h2
  rw [startM]
  exact Goes.seq' (N := 59) (by kernel_rfl) (.reg (N := 58) (r0M a)) (Goes.seq' (N := 58) (by kernel_rfl) (Goes.seq' (N := 57) (by kernel_rfl) (.reg (N := 56) (r1M a)) (Goes.condF' (N := 56) (by kernel_rfl) h3 (Goes.skip' (N := 55) (by kernel_rfl))))
    (Goes.seqR' (N := 57) (by kernel_rfl) (Goes.seq' (N := 56) (by kernel_rfl) (.reg (N := 55) (r2M a)) (Goes.condT' (N := 55) (by kernel_rfl) h4 (Goes.seq' (N := 54) (by kernel_rfl) (.reg (N := 53) h1) (Goes.ret' (N := 53) (by kernel_rfl)))))))
/-- up to the loops, if what follows goes -/
theorem headM (a : Nat) (h : (feq .f32 (fsub .f32 a a) 0) = true) (hz : feq .f32 a 0 = false) {s' : St} (k : Goes (envM Try.prog) 270 (sb (sb (sb (Try.f28.body.getD .skip)))) (S 61 (up (up (up (up (up (up (up (j0 a) 2 (v32 0)) 3 (vI 0)) 10 (v32 a)) 11 (vB (feq .f32 (fsub .f32 a a) 0))) 12 (vB (!feq .f32 (fsub .f32 a a) 0))) 13 (v32 a)) 14 (vB (feq .f32 a 0)))) .ret s') : Goes (envM Try.prog) 280 (Try.f28.body.getD .skip) (startS Try.f28 [.float .f32 a] []) .ret s' := by
  have h3 := (c1M a).trans (show vB (!feq .f32 (fsub .f32 a a) 0) = vB false by rw [h]; rfl)
  have h4 := (c2M a).trans (show vB (feq .f32 a 0) = vB false by rw [hz])
  rw [startM]
  exact Goes.seq' (N := 279) (by kernel_rfl) (.reg (N := 278) (r0M a)) (Goes.seq' (N := 278) (by kernel_rfl) (Goes.seq' (N := 277) (by kernel_rfl) (.reg (N := 276) (r1M a)) (Goes.condF' (N := 276) (by kernel_rfl) h3 (Goes.skip' (N := 275) (by kernel_rfl))))
    (Goes.seq' (N := 277) (by kernel_rfl) (Goes.seq' (N := 276) (by kernel_rfl) (.reg (N := 275) (r2M a)) (Goes.condF' (N := 275) (by kernel_rfl) h4 (Goes.skip' (N := 274) (by kernel_rfl)))) (k.more (by decide))))

/-- behind the loops -/
theorem tailM (a b x y : Nat) (j : J) (hY : (fmul .f64 (nsteps b 6 4609434218613702656) x) = y) (hok : fcvOk .f64 .f32 y = true) : ∃ s', Goes (envM Try.prog) 200 (sb (sb (sb (sb (sb (sb (sb (sb (Try.f28.body.getD .skip))))))))) (S 61 (base a b x j)) .ret s' ∧ finK Try.prog Try.f28 .ret s' = some (.tuple #[.float .f32 (bif flt .f32 a 0 then fneg .f32 (fcv .f64 .f32 y) else fcv .f64 .f32 y), .int .i64 0], [], true) := by
  subst hY
  have h1 : regionOf (envM Try.prog) (sa (sb (sb (sb (sb (sb (sb (sb (sb (Try.f28.body.getD .skip)))))))))) (S 61 (base a b x j)) = some (S 61 (jM6 (base a b x j))) := by kernel_rfl
  have h2 : regionOf (envM Try.prog) (sa (sb (sb (sb (sb (sb (sb (sb (sb (sb (sb (Try.f28.body.getD .skip)))))))))))) (S 61 (jM7 b (base a b x j))) = some ⟨(List.range 61).map (up (up (up (up (up (jM7 b (base a b x j)) 52 (v64 (nsteps b 6 4609434218613702656))) 53 (v64 x)) 54 (v64 (fmul .f64 (nsteps b 6 4609434218613702656) x))) 55 (v32 (fcv .f64 .f32 (fmul .f64 (nsteps b 6 4609434218613702656) x)))) 9 (v32 (fcv .f64 .f32 (fmul .f64 (nsteps b 6 4609434218613702656) x)))), [], fcvOk .f64 .f32 (fmul .f64 (nsteps b 6 4609434218613702656) x) && true⟩ := by kernel_rfl
  have h2 : regionOf (envM Try.prog) (sa (sb (sb (sb (sb (sb (sb (sb (sb (sb (sb (Try.f28.body.getD .skip)))))))))))) (S 61 (jM7 b (base a b x j))) = some (S 61 (up (up (up (up (up (jM7 b (base a b x j)) 52 (v64 (nsteps b 6 4609434218613702656))) 53 (v64 x)) 54 (v64 (fmul .f64 (nsteps b 6 4609434218613702656) x))) 55 (v32 (fcv .f64 .f32 (fmul .f64 (nsteps b 6 4609434218613702656) x)))) 9 (v32 (fcv .f64 .f32 (fmul .f64 (nsteps b 6 4609434218613702656) x))))) := h2.trans (by rw [hok]; rfl)
  have h3 : regionOf (envM Try.prog) (sa (sa (sb (sb (sb (sb (sb (sb (sb (sb (sb (sb (sb (Try.f28.body.getD .skip)))))))))))))) (S 61 (up (up (up (up (up (jM7 b (base a b x j)) 52 (v64 (nsteps b 6 4609434218613702656))) 53 (v64 x)) 54 (v64 (fmul .f64 (nsteps b 6 4609434218613702656) x))) 55 (v32 (fcv .f64 .f32 (fmul .f64 (nsteps b 6 4609434218613702656) x)))) 9 (v32 (fcv .f64 .f32 (fmul .f64 (nsteps b 6 4609434218613702656) x))))) = some (S 61 (up (up (up (up (up (up (up (jM7 b (base a b x j)) 52 (v64 (nsteps b 6 4609434218613702656))) 53 (v64 x)) 54 (v64 (fmul .f64 (nsteps b 6 4609434218613702656) x))) 55 (v32 (fcv .f64 .f32 (fmul .f64 (nsteps b 6 4609434218613702656) x)))) 9 (v32 (fcv .f64 .f32 (fmul .f64 (nsteps b 6 4609434218613702656) x)))) 56 (v32 a)) 57 (vB (flt .f32 a 0)))) := by kernel_rfl
  have h4 : evl (S 61 (up (up (up (up (up (up (up (jM7 b (base a b x j)) 52 (v64 (nsteps b 6 4609434218613702656))) 53 (v64 x)) 54 (v64 (fmul .f64 (nsteps b 6 4609434218613702656) x))) 55 (v32 (fcv .f64 .f32 (fmul .f64 (nsteps b 6 4609434218613702656) x)))) 9 (v32 (fcv .f64 .f32 (fmul .f64 (nsteps b 6 4609434218613702656) x)))) 56 (v32 a)) 57 (vB (flt .f32 a 0)))).tmps (cx (sb (sa (sb (sb (sb (sb (sb (sb (sb (sb (sb (sb (sb (Try.f28.body.getD .skip))))))))))))))) = vB (flt .f32 a 0) := by kernel_rfl
  cases hs : flt .f32 a 0 with
  | false =>
    have h5 := h4.trans (show vB (flt .f32 a 0) = vB false by rw [hs])
    have h6 : regionOf (envM Try.prog) (sa (sb (sb (sb (sb (sb (sb (sb (sb (sb (sb (sb (sb (Try.f28.body.getD .skip)))))))))))))) (S 61 (up (up (up (up (up (up (up (jM7 b (base a b x j)) 52 (v64 (nsteps b 6 4609434218613702656))) 53 (v64 x)) 54 (v64 (fmul .f64 (nsteps b 6 4609434218613702656) x))) 55 (v32 (fcv .f64 .f32 (fmul .f64 (nsteps b 6 4609434218613702656) x)))) 9 (v32 (fcv .f64 .f32 (fmul .f64 (nsteps b 6 4609434218613702656) x)))) 56 (v32 a)) 57 (vB (flt .f32 a 0)))) = some (S 61 (up (up (up (up (up (up (up (up (up (up (jM7 b (base a b x j)) 52 (v64 (nsteps b 6 4609434218613702656))) 53 (v64 x)) 54 (v64 (fmul .f64 (nsteps b 6 4609434218613702656) x))) 55 (v32 (fcv .f64 .f32 (fmul .f64 (nsteps b 6 4609434218613702656) x)))) 9 (v32 (fcv .f64 .f32 (fmul .f64 (nsteps b 6 4609434218613702656) x)))) 56 (v32 a)) 57 (vB (flt .f32 a 0))) 60 (v32 (fcv .f64 .f32 (fmul .f64 (nsteps b 6 4609434218613702656) x)))) 2 (v32 (fcv .f64 .f32 (fmul .f64 (nsteps b 6 4609434218613702656) x)))) 3 (vI 0))) := by kernel_rfl
    have h7 : finK Try.prog Try.f28 .ret (S 61 (up (up (up (up (up (up (up (up (up (up (jM7 b (base a b x j)) 52 (v64 (nsteps b 6 4609434218613702656))) 53 (v64 x)) 54 (v64 (fmul .f64 (nsteps b 6 4609434218613702656) x))) 55 (v32 (fcv .f64 .f32 (fmul .f64 (nsteps b 6 4609434218613702656) x)))) 9 (v32 (fcv .f64 .f32 (fmul .f64 (nsteps b 6 4609434218613702656) x)))) 56 (v32 a)) 57 (vB (flt .f32 a 0))) 60 (v32 (fcv .f64 .f32 (fmul .f64 (nsteps b 6 4609434218613702656) x)))) 2 (v32 (fcv .f64 .f32 (fmul .f64 (nsteps b 6 4609434218613702656) x)))) 3 (vI 0))) = some (.tuple #[.float .f32 (fcv .f64 .f32 (fmul .f64 (nsteps b 6 4609434218613702656) x)), .int .i64 0], [], true) := by kernel_rfl
    refine ⟨_, ?_, h7.trans (by rw [cond_false])⟩
    exact Goes.seq' (N := 199) (by kernel_rfl) (.reg (N := 198) h1) (Goes.seq' (N := 198) (by kernel_rfl) ((runM a b x j).more (by decide)) (Goes.seq' (N := 197) (by kernel_rfl) (.reg (N := 196) h2)
      (Goes.seq' (N := 196) (by kernel_rfl) (Goes.seq' (N := 195) (by kernel_rfl) (.reg (N := 194) h3) (Goes.condF' (N := 194) (by kernel_rfl) h5 (Goes.skip' (N := 193) (by kernel_rfl)))) (Goes.seq' (N := 195) (by kernel_rfl) (.reg (N := 194) h6) (Goes.ret' (N := 194) (by kernel_rfl))))))
  | true =>
    have h5 := h4.trans (show vB (flt .f32 a 0) = vB true by rw [hs])
    have h8 : regionOf (envM Try.prog) (ca (sb (sa (sb (sb (sb (sb (sb (sb (sb (sb (sb (sb (sb (Try.f28.body.getD .skip))))))))))))))) (S 61 (up (up (up (up (up (up (up (jM7 b (base a b x j)) 52 (v64 (nsteps b 6 4609434218613702656))) 53 (v64 x)) 54 (v64 (fmul .f64 (nsteps b 6 4609434218613702656) x))) 55 (v32 (fcv .f64 .f32 (fmul .f64 (nsteps b 6 4609434218613702656) x)))) 9 (v32 (fcv .f64 .f32 (fmul .f64 (nsteps b 6 4609434218613702656) x)))) 56 (v32 a)) 57 (vB (flt .f32 a 0)))) = some (S 61 (up (up (up (up (up (up (up (up (up (up (jM7 b (base a b x j)) 52 (v64 (nsteps b 6 4609434218613702656))) 53 (v64 x)) 54 (v64 (fmul .f64 (nsteps b 6 4609434218613702656) x))) 55 (v32 (fcv .f64 .f32 (fmul .f64 (nsteps b 6 4609434218613702656) x)))) 9 (v32 (fcv .f64 .f32 (fmul .f64 (nsteps b 6 4609434218613702656) x)))) 56 (v32 a)) 57 (vB (flt .f32 a 0))) 58 (v32 (fcv .f64 .f32 (fmul .f64 (nsteps b 6 4609434218613702656) x)))) 59 (v32 (fneg .f32 (fcv .f64 .f32 (fmul .f64 (nsteps b 6 4609434218613702656) x))))) 9 (v32 (fneg .f32 (fcv .f64 .f32 (fmul .f64 (nsteps b 6 4609434218613702656) x)))))) := by kernel_rfl
    have h6 : regionOf (envM Try.prog) (sa (sb (sb (sb (sb (sb (sb (sb (sb (sb (sb (sb (sb (Try.f28.body.getD .skip)))))))))))))) (S 61 (up (up (up (up (up (up (up (up (up (up (jM7 b (base a b x j)) 52 (v64 (nsteps b 6 4609434218613702656))) 53 (v64 x)) 54 (v64 (fmul .f64 (nsteps b 6 4609434218613702656) x))) 55 (v32 (fcv .f64 .f32 (fmul .f64 (nsteps b 6 4609434218613702656) x)))) 9 (v32 (fcv .f64 .f32 (fmul .f64 (nsteps b 6 4609434218613702656) x)))) 56 (v32 a)) 57 (vB (flt .f32 a 0))) 58 (v32 (fcv .f64 .f32 (fmul .f64 (nsteps b 6 4609434218613702656) x)))) 59 (v32 (fneg .f32 (fcv .f64 .f32 (fmul .f64 (nsteps b 6 4609434218613702656) x))))) 9 (v32 (fneg .f32 (fcv .f64 .f32 (fmul .f64 (nsteps b 6 4609434218613702656) x)))))) = some (S 61 (up (up (up (up (up (up (up (up (up (up (up (up (up (jM7 b (base a b x j)) 52 (v64 (nsteps b 6 4609434218613702656))) 53 (v64 x)) 54 (v64 (fmul .f64 (nsteps b 6 4609434218613702656) x))) 55 (v32 (fcv .f64 .f32 (fmul .f64 (nsteps b 6 4609434218613702656) x)))) 9 (v32 (fcv .f64 .f32 (fmul .f64 (nsteps b 6 4609434218613702656) x)))) 56 (v32 a)) 57 (vB (flt .f32 a 0))) 58 (v32 (fcv .f64 .f32 (fmul .f64 (nsteps b 6 4609434218613702656) x)))) 59 (v32 (fneg .f32 (fcv .f64 .f32 (fmul .f64 (nsteps b 6 4609434218613702656) x))))) 9 (v32 (fneg .f32 (fcv .f64 .f32 (fmul .f64 (nsteps b 6 4609434218613702656) x))))) 60 (v32 (fneg .f32 (fcv .f64 .f32 (fmul .f64 (nsteps b 6 4609434218613702656) x))))) 2 (v32 (fneg .f32 (fcv .f64 .f32 (fmul .f64 (nsteps b 6 4609434218613702656) x))))) 3 (vI 0))) := by kernel_rfl
    have h7 : finK Try.prog Try.f28 .ret (S 61 (up (up (up (up (up (up (up (up (up (up (up (up (up (jM7 b (base a b x j)) 52 (v64 (nsteps b 6 4609434218613702656))) 53 (v64 x)) 54 (v64 (fmul .f64 (nsteps b 6 4609434218613702656) x))) 55 (v32 (fcv .f64 .f32 (fmul .f64 (nsteps b 6 4609434218613702656) x)))) 9 (v32 (fcv .f64 .f32 (fmul .f64 (nsteps b 6 4609434218613702656) x)))) 56 (v32 a)) 57 (vB (flt .f32 a 0))) 58 (v32 (fcv .f64 .f32 (fmul .f64 (nsteps b 6 4609434218613702656) x)))) 59 (v32 (fneg .f32 (fcv .f64 .f32 (fmul .f64 (nsteps b 6 4609434218613702656) x))))) 9 (v32 (fneg .f32 (fcv .f64 .f32 (fmul .f64 (nsteps b 6 4609434218613702656) x))))) 60 (v32 (fneg .f32 (fcv .f64 .f32 (fmul .f64 (nsteps b 6 4609434218613702656) x))))) 2 (v32 (fneg .f32 (fcv .f64 .f32 (fmul .f64 (nsteps b 6 4609434218613702656) x))))) 3 (vI 0))) = some (.tuple #[.float .f32 (fneg .f32 (fcv .f64 .f32 (fmul .f64 (nsteps b 6 4609434218613702656) x))), .int .i64 0], [], true) := by kernel_rfl
    refine ⟨_, ?_, h7.trans (by rw [cond_true])⟩
    exact Goes.seq' (N := 199) (by kernel_rfl) (.reg (N := 198) h1) (Goes.seq' (N := 198) (by kernel_rfl) ((runM a b x j).more (by decide)) (Goes.seq' (N := 197) (by kernel_rfl) (.reg (N := 196) h2)
      (Goes.seq' (N := 196) (by kernel_rfl) (Goes.seq' (N := 195) (by kernel_rfl) (.reg (N := 194) h3) (Goes.condT' (N := 194) (by kernel_rfl) h5 (.reg (N := 193) h8))) (Goes.seq' (N := 195) (by kernel_rfl) (.reg (N := 194) h6) (Goes.ret' (N := 194) (by kernel_rfl))))))
set_option maxRecDepth 100000 in
/-- from the loops on -/
theorem backM (a b : Nat) (j : J) (w1 : Q0 ≤ b) (w2 : b ≤ P0) : ∃ s', Goes (envM Try.prog) 230 (sb (sb (sb (sb (sb (sb (Try.f28.body.getD .skip))))))) (S 61 (base a b c1 j)) .ret s' ∧ finK Try.prog Try.f28 .ret s' = some (.tuple #[.float .f32 (bif flt .f32 a 0 then fneg .f32 (fcv .f64 .f32 (rootY b)) else fcv .f64 .f32 (rootY b)), .int .i64 0], [], true) := by
  obtain ⟨e1, e2, _, _, _⟩ := ends_ok w1 w2
  obtain ⟨j1, k1⟩ := loopM1 a b c1 j e1
  obtain ⟨j2, k2⟩ := loopM2 a _ _ j1 e2
  obtain ⟨s', k3, k4⟩ := tailM a (ends b).1 (ends b).2 (rootY b) j2 rfl (pos_slim (y_bound w1 w2)).2
  exact ⟨s', Goes.seq' (N := 229) (by kernel_rfl) (k1.more (by decide)) (Goes.seq' (N := 228) (by kernel_rfl) (k2.more (by decide)) (k3.more (by decide))), k4⟩
set_option maxRecDepth 100000 in
theorem rootM (a : Nat) (hf : finB a = true) (hz : feq .f32 a 0 = false) : funD Try.prog (fun f => seek f extX) (fun f => seek f orcR) usM 300 5 28 [.float .f32 a] [] = some (.tuple #[.float .f32 (rootV a), .int .i64 0], [], true) := by
  obtain ⟨g, W, hs, hw, w1, w2, hv, _⟩ := made hf hz
  have hy := y_bound w1 w2
  have ho : (bif flt .f32 a 0 then fneg .f32 (fcv .f64 .f32 (rootY W)) else fcv .f64 .f32 (rootY W)) = rootV a := by
    rw [hv, hs]
    cases g with
    | false => exact (pos_slim hy).1
    | true => exact neg_slim hy
  have hfin : (feq .f32 (fsub .f32 a a) 0) = true := (fin_model a).trans hf
  have g5 : regionOf (envM Try.prog) (sa (sb (sb (sb (Try.f28.body.getD .skip))))) (S 61 (up (up (up (up (up (up (up (j0 a) 2 (v32 0)) 3 (vI 0)) 10 (v32 a)) 11 (vB (feq .f32 (fsub .f32 a a) 0))) 12 (vB (!feq .f32 (fsub .f32 a a) 0))) 13 (v32 a)) 14 (vB (feq .f32 a 0)))) = some (S 61 (up (up (up (up (up (up (up (up (up (up (j0 a) 2 (v32 0)) 3 (vI 0)) 10 (v32 a)) 11 (vB (feq .f32 (fsub .f32 a a) 0))) 12 (vB (!feq .f32 (fsub .f32 a a) 0))) 13 (v32 a)) 14 (vB (feq .f32 a 0))) 15 (v32 a)) 16 (v64 (fcv .f32 .f64 a))) 4 (v64 (fcv .f32 .f64 a)))) := by kernel_rfl
  have g6 : regionOf (envM Try.prog) (sa (sa (sb (sb (sb (sb (Try.f28.body.getD .skip))))))) (S 61 (up (up (up (up (up (up (up (up (up (up (j0 a) 2 (v32 0)) 3 (vI 0)) 10 (v32 a)) 11 (vB (feq .f32 (fsub .f32 a a) 0))) 12 (vB (!feq .f32 (fsub .f32 a a) 0))) 13 (v32 a)) 14 (vB (feq .f32 a 0))) 15 (v32 a)) 16 (v64 (fcv .f32 .f64 a))) 4 (v64 (fcv .f32 .f64 a)))) = some (S 61 (up (up (up (up (up (up (up (up (up (up (up (up (j0 a) 2 (v32 0)) 3 (vI 0)) 10 (v32 a)) 11 (vB (feq .f32 (fsub .f32 a a) 0))) 12 (vB (!feq .f32 (fsub .f32 a a) 0))) 13 (v32 a)) 14 (vB (feq .f32 a 0))) 15 (v32 a)) 16 (v64 (fcv .f32 .f64 a))) 4 (v64 (fcv .f32 .f64 a))) 17 (v32 a)) 18 (vB (flt .f32 a 0)))) := by kernel_rfl
  have g7 : evl (S 61 (up (up (up (up (up (up (up (up (up (up (up (up (j0 a) 2 (v32 0)) 3 (vI 0)) 10 (v32 a)) 11 (vB (feq .f32 (fsub .f32 a a) 0))) 12 (vB (!feq .f32 (fsub .f32 a a) 0))) 13 (v32 a)) 14 (vB (feq .f32 a 0))) 15 (v32 a)) 16 (v64 (fcv .f32 .f64 a))) 4 (v64 (fcv .f32 .f64 a))) 17 (v32 a)) 18 (vB (flt .f32 a 0)))).tmps (cx (sb (sa (sb (sb (sb (sb (Try.f28.body.getD .skip)))))))) = vB (flt .f32 a 0) := by kernel_rfl
  cases hg : flt .f32 a 0 with
  | false =>
    have hb : fcv .f32 .f64 a = W := by
      rw [hw, ← hs, hg]; rfl
    have g8 : regionOf (envM Try.prog) (sa (sb (sb (sb (sb (sb (Try.f28.body.getD .skip))))))) (S 61 (up (up (up (up (up (up (up (up (up (up (up (up (j0 a) 2 (v32 0)) 3 (vI 0)) 10 (v32 a)) 11 (vB (feq .f32 (fsub .f32 a a) 0))) 12 (vB (!feq .f32 (fsub .f32 a a) 0))) 13 (v32 a)) 14 (vB (feq .f32 a 0))) 15 (v32 a)) 16 (v64 (fcv .f32 .f64 a))) 4 (v64 (fcv .f32 .f64 a))) 17 (v32 a)) 18 (vB (flt .f32 a 0)))) = some (S 61 (base a (fcv .f32 .f64 a) c1 (up (up (up (up (up (up (up (up (up (up (up (up (up (j0 a) 2 (v32 0)) 3 (vI 0)) 10 (v32 a)) 11 (vB (feq .f32 (fsub .f32 a a) 0))) 12 (vB (!feq .f32 (fsub .f32 a a) 0))) 13 (v32 a)) 14 (vB (feq .f32 a 0))) 15 (v32 a)) 16 (v64 (fcv .f32 .f64 a))) 4 (v64 (fcv .f32 .f64 a))) 17 (v32 a)) 18 (vB (flt .f32 a 0))) 5 (v64 c1)))) := by kernel_rfl
    have g8 := g8.trans (congrArg (fun z => some (S 61 (base a z c1 (up (up (up (up (up (up (up (up (up (up (up (up (up (j0 a) 2 (v32 0)) 3 (vI 0)) 10 (v32 a)) 11 (vB (feq .f32 (fsub .f32 a a) 0))) 12 (vB (!feq .f32 (fsub .f32 a a) 0))) 13 (v32 a)) 14 (vB (feq .f32 a 0))) 15 (v32 a)) 16 (v64 (fcv .f32 .f64 a))) 4 (v64 (fcv .f32 .f64 a))) 17 (v32 a)) 18 (vB (flt .f32 a 0))) 5 (v64 c1))))) hb)
    obtain ⟨s', k1, k2⟩ := backM a W (up (up (up (up (up (up (up (up (up (up (up (up (up (j0 a) 2 (v32 0)) 3 (vI 0)) 10 (v32 a)) 11 (vB (feq .f32 (fsub .f32 a a) 0))) 12 (vB (!feq .f32 (fsub .f32 a a) 0))) 13 (v32 a)) 14 (vB (feq .f32 a 0))) 15 (v32 a)) 16 (v64 (fcv .f32 .f64 a))) 4 (v64 (fcv .f32 .f64 a))) 17 (v32 a)) 18 (vB (flt .f32 a 0))) 5 (v64 c1)) w1 w2
    have k2 := k2.trans (by rw [ho])
    refine fun_of (N := 280) (c := (Try.f28.body.getD .skip)) (e := .ret) (s' := s') (by kernel_rfl) (by kernel_rfl) (by kernel_rfl) (by kernel_rfl) (headM a hfin hz ?_) (by decide) k2
    have g9 := g7.trans (show vB (flt .f32 a 0) = vB false by rw [hg])
    exact Goes.seq' (N := 269) (by kernel_rfl) (.reg (N := 268) g5) (Goes.seq' (N := 268) (by kernel_rfl) (Goes.seq' (N := 267) (by kernel_rfl) (.reg (N := 266) g6) (Goes.condF' (N := 266) (by kernel_rfl) g9 (Goes.skip' (N := 265) (by kernel_rfl)))) (Goes.seq' (N := 267) (by kernel_rfl) (.reg (N := 266) g8) (k1.more (by decide))))
  | true =>
    have hb : fneg .f64 (fcv .f32 .f64 a) = W := by
      rw [hw, ← hs, hg]; exact neg_wide w2
    have g10 : regionOf (envM Try.prog) (ca (sb (sa (sb (sb (sb (sb (Try.f28.body.getD .skip)))))))) (S 61 (up (up (up (up (up (up (up (up (up (up (up (up (j0 a) 2 (v32 0)) 3 (vI 0)) 10 (v32 a)) 11 (vB (feq .f32 (fsub .f32 a a) 0))) 12 (vB (!feq .f32 (fsub .f32 a a) 0))) 13 (v32 a)) 14 (vB (feq .f32 a 0))) 15 (v32 a)) 16 (v64 (fcv .f32 .f64 a))) 4 (v64 (fcv .f32 .f64 a))) 17 (v32 a)) 18 (vB (flt .f32 a 0)))) = some (S 61 (up (up (up (up (up (up (up (up (up (up (up (up (up (up (up (j0 a) 2 (v32 0)) 3 (vI 0)) 10 (v32 a)) 11 (vB (feq .f32 (fsub .f32 a a) 0))) 12 (vB (!feq .f32 (fsub .f32 a a) 0))) 13 (v32 a)) 14 (vB (feq .f32 a 0))) 15 (v32 a)) 16 (v64 (fcv .f32 .f64 a))) 4 (v64 (fcv .f32 .f64 a))) 17 (v32 a)) 18 (vB (flt .f32 a 0))) 19 (v64 (fcv .f32 .f64 a))) 20 (v64 (fneg .f64 (fcv .f32 .f64 a)))) 4 (v64 (fneg .f64 (fcv .f32 .f64 a))))) := by kernel_rfl
    have g8 : regionOf (envM Try.prog) (sa (sb (sb (sb (sb (sb (Try.f28.body.getD .skip))))))) (S 61 (up (up (up (up (up (up (up (up (up (up (up (up (up (up (up (j0 a) 2 (v32 0)) 3 (vI 0)) 10 (v32 a)) 11 (vB (feq .f32 (fsub .f32 a a) 0))) 12 (vB (!feq .f32 (fsub .f32 a a) 0))) 13 (v32 a)) 14 (vB (feq .f32 a 0))) 15 (v32 a)) 16 (v64 (fcv .f32 .f64 a))) 4 (v64 (fcv .f32 .f64 a))) 17 (v32 a)) 18 (vB (flt .f32 a 0))) 19 (v64 (fcv .f32 .f64 a))) 20 (v64 (fneg .f64 (fcv .f32 .f64 a)))) 4 (v64 (fneg .f64 (fcv .f32 .f64 a))))) = some (S 61 (base a (fneg .f64 (fcv .f32 .f64 a)) c1 (up (up (up (up (up (up (up (up (up (up (up (up (up (up (up (up (j0 a) 2 (v32 0)) 3 (vI 0)) 10 (v32 a)) 11 (vB (feq .f32 (fsub .f32 a a) 0))) 12 (vB (!feq .f32 (fsub .f32 a a) 0))) 13 (v32 a)) 14 (vB (feq .f32 a 0))) 15 (v32 a)) 16 (v64 (fcv .f32 .f64 a))) 4 (v64 (fcv .f32 .f64 a))) 17 (v32 a)) 18 (vB (flt .f32 a 0))) 19 (v64 (fcv .f32 .f64 a))) 20 (v64 (fneg .f64 (fcv .f32 .f64 a)))) 4 (v64 (fneg .f64 (fcv .f32 .f64 a)))) 5 (v64 c1)))) := by kernel_rfl
    have g8 := g8.trans (congrArg (fun z => some (S 61 (base a z c1 (up (up (up (up (up (up (up (up (up (up (up (up (up (up (up (up (j0 a) 2 (v32 0)) 3 (vI 0)) 10 (v32 a)) 11 (vB (feq .f32 (fsub .f32 a a) 0))) 12 (vB (!feq .f32 (fsub .f32 a a) 0))) 13 (v32 a)) 14 (vB (feq .f32 a 0))) 15 (v32 a)) 16 (v64 (fcv .f32 .f64 a))) 4 (v64 (fcv .f32 .f64 a))) 17 (v32 a)) 18 (vB (flt .f32 a 0))) 19 (v64 (fcv .f32 .f64 a))) 20 (v64 (fneg .f64 (fcv .f32 .f64 a)))) 4 (v64 (fneg .f64 (fcv .f32 .f64 a)))) 5 (v64 c1))))) hb)
    obtain ⟨s', k1, k2⟩ := backM a W (up (up (up (up (up (up (up (up (up (up (up (up (up (up (up (up (j0 a) 2 (v32 0)) 3 (vI 0)) 10 (v32 a)) 11 (vB (feq .f32 (fsub .f32 a a) 0))) 12 (vB (!feq .f32 (fsub .f32 a a) 0))) 13 (v32 a)) 14 (vB (feq .f32 a 0))) 15 (v32 a)) 16 (v64 (fcv .f32 .f64 a))) 4 (v64 (fcv .f32 .f64 a))) 17 (v32 a)) 18 (vB (flt .f32 a 0))) 19 (v64 (fcv .f32 .f64 a))) 20 (v64 (fneg .f64 (fcv .f32 .f64 a)))) 4 (v64 (fneg .f64 (fcv .f32 .f64 a)))) 5 (v64 c1)) w1 w2
    have k2 := k2.trans (by rw [ho])
    refine fun_of (N := 280) (c := (Try.f28.body.getD .skip)) (e := .ret) (s' := s') (by kernel_rfl) (by kernel_rfl) (by kernel_rfl) (by kernel_rfl) (headM a hfin hz ?_) (by decide) k2
    have g9 := g7.trans (show vB (flt .f32 a 0) = vB true by rw [hg])
    exact Goes.seq' (N := 269) (by kernel_rfl) (.reg (N := 268) g5) (Goes.seq' (N := 268) (by kernel_rfl) (Goes.seq' (N := 267) (by kernel_rfl) (.reg (N := 266) g6) (Goes.condT' (N := 266) (by kernel_rfl) g9 (.reg (N := 265) g10))) (Goes.seq' (N := 267) (by kernel_rfl) (.reg (N := 266) g8) (k1.more (by decide))))

theorem startI (a : Nat) : startS Try.f29 [.float .f32 a] [] = S 53 (j0 a) := by kernel_rfl
theorem r0I (a : Nat) : regionOf (envI Try.prog) (sa (Try.f29.body.getD .skip)) (S 53 (j0 a)) = some (S 53 (up (up (j0 a) 2 (v32 0)) 3 (vI 0))) := by kernel_rfl
theorem r1I (a : Nat) : regionOf (envI Try.prog) (sa (sa (sb (Try.f29.body.getD .skip)))) (S 53 (up (up (j0 a) 2 (v32 0)) 3 (vI 0))) = some (S 53 (up (up (up (up (up (j0 a) 2 (v32 0)) 3 (vI 0)) 8 (v32 a)) 9 (vB (finB a))) 10 (vB (!finB a)))) := by kernel_rfl
theorem c1I (a : Nat) : evl (S 53 (up (up (up (up (up (j0 a) 2 (v32 0)) 3 (vI 0)) 8 (v32 a)) 9 (vB (finB a))) 10 (vB (!finB a)))).tmps (cx (sb (sa (sb (Try.f29.body.getD .skip))))) = vB (!finB a) := by kernel_rfl
theorem r2I (a : Nat) : regionOf (envI Try.prog) (sa (sa (sb (sb (Try.f29.body.getD .skip))))) (S 53 (up (up (up (up (up (j0 a) 2 (v32 0)) 3 (vI 0)) 8 (v32 a)) 9 (vB (finB a))) 10 (vB (!finB a)))) = some (S 53 (up (up (up (up (up (up (up (j0 a) 2 (v32 0)) 3 (vI 0)) 8 (v32 a)) 9 (vB (finB a))) 10 (vB (!finB a))) 11 (v32 a)) 12 (vB (feq .f32 a 0)))) := by kernel_rfl
theorem c2I (a : Nat) : evl (S 53 (up (up (up (up (up (up (up (j0 a) 2 (v32 0)) 3 (vI 0)) 8 (v32 a)) 9 (vB (finB a))) 10 (vB (!finB a))) 11 (v32 a)) 12 (vB (feq .f32 a 0)))).tmps (cx (sb (sa (sb (sb (Try.f29.body.getD .skip)))))) = vB (feq .f32 a 0) := by kernel_rfl
theorem badI (a : Nat) (h : (finB a) = false) : funD Try.prog (fun f => seek f extX) (fun f => seek f orcR) usI 300 5 29 [.float .f32 a] [] = some (.tuple #[.float .f32 0, .int .i64 2], [], true) := by
  have h1 : regionOf (envI Try.prog) (sa (ca (sb (sa (sb (Try.f29.body.getD .skip)))))) (S 53 (up (up (up (up (up (j0 a) 2 (v32 0)) 3 (vI 0)) 8 (v32 a)) 9 (vB (finB a))) 10 (vB (!finB a)))) = some (S 53 (up (up (up (up (up (up (up (j0 a) 2 (v32 0)) 3 (vI 0)) 8 (v32 a)) 9 (vB (finB a))) 10 (vB (!finB a))) 2 (v32 0)) 3 (vI 2))) := by kernel_rfl
  have h2 : finK Try.prog Try.f29 .ret (S 53 (up (up (up (up (up (up (up (j0 a) 2 (v32 0)) 3 (vI 0)) 8 (v32 a)) 9 (vB (finB a))) 10 (vB (!finB a))) 2 (v32 0)) 3 (vI 2))) = some (.tuple #[.float .f32 0, .int .i64 2], [], true) := by kernel_rfl
  have h3 := (c1I a).trans (show vB (!finB a) = vB true by rw [h]; rfl)
  refine fun_of (N := 60) (c := (Try.f29.body.getD .skip)) (e := .ret) (s' := S 53 (up (up (up (up (up (up (up (j0 a) 2 (v32 0)) 3 (vI 0)) 8 (v32 a)) 9 (vB (finB a))) 10 (vB (!finB a))) 2 (v32 0)) 3 (vI 2))) (by kernel_rfl) (by kernel_rfl) (by kernel_rfl) (by kernel_rfl) ?_ (by decide) h2
  rw [startI]
  exact Goes.seq' (N := 59) (by kernel_rfl) (.reg (N := 58) (r0I a)) (Goes.seqR' (N := 58) (by kernel_rfl) (Goes.seq' (N := 57) (by kernel_rfl) (.reg (N := 56) (r1I a)) (Goes.condT' (N := 56) (by kernel_rfl) h3 (Goes.seq' (N := 55) (by kernel_rfl) (.reg (N := 54) h1) (Goes.ret' (N := 54) (by kernel_rfl))))))
theorem zeroI (a : Nat) (h : (finB a) = true) (hz : feq .f32 a 0 = true) : funD Try.prog (fun f => seek f extX) (fun f => seek f orcR) usI 300 5 29 [.float .f32 a] [] = some (.tuple #[.float .f32 0, .int .i64 0], [], true) := by
  have h1 : regionOf (envI Try.prog) (sa (ca (sb (sa (sb (sb (Try.f29.body.getD .skip))))))) (S 53 (up (up (up (up (up (up (up (j0 a) 2 (v32 0)) 3 (vI 0)) 8 (v32 a)) 9 (vB (finB a))) 10 (vB (!finB a))) 11 (v32 a)) 12 (vB (feq .f32 a 0)))) = some (S 53 (up (up (up (up (up (up (up (up (up (j0 a) 2 (v32 0)) 3 (vI 0)) 8 (v32 a)) 9 (vB (finB a))) 10 (vB (!finB a))) 11 (v32 a)) 12 (vB (feq .f32 a 0))) 2 (v32 0)) 3 (vI 0))) := by kernel_rfl
  have h2 : finK Try.prog Try.f29 .ret (S 53 (up (up (up (up (up (up (up (up (up (j0 a) 2 (v32 0)) 3 (vI 0)) 8 (v32 a)) 9 (vB (finB a))) 10 (vB (!finB a))) 11 (v32 a)) 12 (vB (feq .f32 a 0))) 2 (v32 0)) 3 (vI 0))) = some (.tuple #[.float .f32 0, .int .i64 0], [], true) := by kernel_rfl
  have h3 := (c1I a).trans (show vB (!finB a) = vB false by rw [h]; rfl)
  have h4 := (c2I a).trans (show vB (feq .f32 a 0) = vB true by rw [hz])
  refine fun_of (N := 60) (c := (Try.f29.body.getD .skip)) (e := .ret) (s' := S 53 (up (up (up (up (up (up (up (up (up (j0 a) 2 (v32 0)) 3 (vI 0)) 8 (v32 a)) 9 (vB (finB a))) 10 (vB (!finB a))) 11 (v32 a)) 12 (vB (feq .f32 a 0))) 2 (v32 0)) 3 (vI 0))) (by kernel_rfl) (by kernel_rfl) (by kernel_rfl) (by kernel_rfl) ?_ (by decide) h2
  rw [startI]
  exact Goes.seq' (N := 59) (by kernel_rfl) (.reg (N := 58) (r0I a)) (Goes.seq' (N := 58) (by kernel_rfl) (Goes.seq' (N := 57) (by kernel_rfl) (.reg (N := 56) (r1I a)) (Goes.condF' (N := 56) (by kernel_rfl) h3 (Goes.skip' (N := 55) (by kernel_rfl))))
    (Goes.seqR' (N := 57) (by kernel_rfl) (Goes.seq' (N := 56) (by kernel_rfl) (.reg (N := 55) (r2I a)) (Goes.condT' (N := 55) (by kernel_rfl) h4 (Goes.seq' (N := 54) (by kernel_rfl) (.reg (N := 53) h1) (Goes.ret' (N := 53) (by kernel_rfl)))))))
/-- up to the loops, if what follows goes -/
theorem headI (a : Nat) (h : (finB a) = true) (hz : feq .f32 a 0 = false) {s' : St} (k : Goes (envI Try.prog) 270 (sb (sb (sb (Try.f29.body.getD .skip)))) (S 53 (up (up (up (up (up (up (up (j0 a) 2 (v32 0)) 3 (vI 0)) 8 (v32 a)) 9 (vB (finB a))) 10 (vB (!finB a))) 11 (v32 a)) 12 (vB (feq .f32 a 0)))) .ret s') : Goes (envI Try.prog) 280 (Try.f29.body.getD .skip) (startS Try.f29 [.float .f32 a] []) .ret s' := by
  have h3 := (c1I a).trans (show vB (!finB a) = vB false by rw [h]; rfl)
  have h4 := (c2I a).trans (show vB (feq .f32 a 0) = vB false by rw [hz])
  rw [startI]
  exact Goes.seq' (N := 279) (by kernel_rfl) (.reg (N := 278) (r0I a)) (Goes.seq' (N := 278) (by kernel_rfl) (Goes.seq' (N := 277) (by kernel_rfl) (.reg (N := 276) (r1I a)) (Goes.condF' (N := 276) (by kernel_rfl) h3 (Goes.skip' (N := 275) (by kernel_rfl))))
    (Goes.seq' (N := 277) (by kernel_rfl) (Goes.seq' (N := 276) (by kernel_rfl) (.reg (N := 275) (r2I a)) (Goes.condF' (N := 275) (by kernel_rfl) h4 (Goes.skip' (N := 274) (by kernel_rfl)))) (k.more (by decide))))

/-- behind the loops -/
theorem tailI (a b x y : Nat) (j : J) (hY : (fmul .f64 (nsteps b 6 4609434218613702656) x) = y) (hok : fcvOk .f64 .f32 (csR y (fcv .f32 .f64 a)) = true) (hc : (Nat.blt y inf64 && (!isN .f64 (fcv .f32 .f64 a) && Nat.beq (cn .f64 (csR y (fcv .f32 .f64 a))) (csR y (fcv .f32 .f64 a)))) = true) : ∃ s', Goes (envI Try.prog) 200 (sb (sb (sb (sb (sb (sb (Try.f29.body.getD .skip))))))) (S 53 (base a b x j)) .ret s' ∧ finK Try.prog Try.f29 .ret s' = some (.tuple #[.float .f32 (fcv .f64 .f32 (csR y (fcv .f32 .f64 a))), .int .i64 0], [], true) := by
  subst hY
  have h1 : regionOf (envI Try.prog) (sa (sb (sb (sb (sb (sb (sb (Try.f29.body.getD .skip)))))))) (S 53 (base a b x j)) = some (S 53 (jI6 (base a b x j))) := by kernel_rfl
  have h2 : regionOf (envI Try.prog) (sa (sb (sb (sb (sb (sb (sb (sb (sb (Try.f29.body.getD .skip)))))))))) (S 53 (jI7 b (base a b x j))) = some ⟨(List.range 53).map (up (up (up (up (up (up (up (up (up (jI7 b (base a b x j)) 46 (v64 (nsteps b 6 4609434218613702656))) 47 (v64 x)) 48 (v64 (fmul .f64 (nsteps b 6 4609434218613702656) x))) 49 (v32 a)) 50 (v64 (fcv .f32 .f64 a))) 51 (v64 (csR (fmul .f64 (nsteps b 6 4609434218613702656) x) (fcv .f32 .f64 a)))) 52 (v32 (fcv .f64 .f32 (csR (fmul .f64 (nsteps b 6 4609434218613702656) x) (fcv .f32 .f64 a))))) 2 (v32 (fcv .f64 .f32 (csR (fmul .f64 (nsteps b 6 4609434218613702656) x) (fcv .f32 .f64 a))))) 3 (vI 0)), [], fcvOk .f64 .f32 (csR (fmul .f64 (nsteps b 6 4609434218613702656) x) (fcv .f32 .f64 a)) && ((Nat.blt (fmul .f64 (nsteps b 6 4609434218613702656) x) inf64 && (!isN .f64 (fcv .f32 .f64 a) && Nat.beq (cn .f64 (csR (fmul .f64 (nsteps b 6 4609434218613702656) x) (fcv .f32 .f64 a))) (csR (fmul .f64 (nsteps b 6 4609434218613702656) x) (fcv .f32 .f64 a)))) && true)⟩ := by kernel_rfl
  have h2 : regionOf (envI Try.prog) (sa (sb (sb (sb (sb (sb (sb (sb (sb (Try.f29.body.getD .skip)))))))))) (S 53 (jI7 b (base a b x j))) = some (S 53 (up (up (up (up (up (up (up (up (up (jI7 b (base a b x j)) 46 (v64 (nsteps b 6 4609434218613702656))) 47 (v64 x)) 48 (v64 (fmul .f64 (nsteps b 6 4609434218613702656) x))) 49 (v32 a)) 50 (v64 (fcv .f32 .f64 a))) 51 (v64 (csR (fmul .f64 (nsteps b 6 4609434218613702656) x) (fcv .f32 .f64 a)))) 52 (v32 (fcv .f64 .f32 (csR (fmul .f64 (nsteps b 6 4609434218613702656) x) (fcv .f32 .f64 a))))) 2 (v32 (fcv .f64 .f32 (csR (fmul .f64 (nsteps b 6 4609434218613702656) x) (fcv .f32 .f64 a))))) 3 (vI 0))) := h2.trans (by rw [hok, hc]; rfl)
  have h7 : finK Try.prog Try.f29 .ret (S 53 (up (up (up (up (up (up (up (up (up (jI7 b (base a b x j)) 46 (v64 (nsteps b 6 4609434218613702656))) 47 (v64 x)) 48 (v64 (fmul .f64 (nsteps b 6 4609434218613702656) x))) 49 (v32 a)) 50 (v64 (fcv .f32 .f64 a))) 51 (v64 (csR (fmul .f64 (nsteps b 6 4609434218613702656) x) (fcv .f32 .f64 a)))) 52 (v32 (fcv .f64 .f32 (csR (fmul .f64 (nsteps b 6 4609434218613702656) x) (fcv .f32 .f64 a))))) 2 (v32 (fcv .f64 .f32 (csR (fmul .f64 (nsteps b 6 4609434218613702656) x) (fcv .f32 .f64 a))))) 3 (vI 0))) = some (.tuple #[.float .f32 (fcv .f64 .f32 (csR (fmul .f64 (nsteps b 6 4609434218613702656) x) (fcv .f32 .f64 a))), .int .i64 0], [], true) := by kernel_rfl
  refine ⟨_, ?_, h7⟩
  exact Goes.seq' (N := 199) (by kernel_rfl) (.reg (N := 198) h1) (Goes.seq' (N := 198) (by kernel_rfl) ((runI a b x j).more (by decide)) (Goes.seq' (N := 197) (by kernel_rfl) (.reg (N := 196) h2) (Goes.ret' (N := 196) (by kernel_rfl))))
set_option maxRecDepth 100000 in
theorem rootI (a : Nat) (hf : finB a = true) (hz : feq .f32 a 0 = false) : funD Try.prog (fun f => seek f extX) (fun f => seek f orcR) usI 300 5 29 [.float .f32 a] [] = some (.tuple #[.float .f32 (rootV a), .int .i64 0], [], true) := by
  obtain ⟨g, W, hs, hw, w1, w2, hv, hN⟩ := made hf hz
  have hy := y_bound w1 w2
  have hb : fabs (fcv .f32 .f64 a) = W := by rw [hw]; exact abs_wide w2
  have key : ∀ y, y ≤ 4809844402031689728 → csR y (fcv .f32 .f64 a) = double.word g y ∧ (Nat.blt y inf64 && (!isN .f64 (fcv .f32 .f64 a) && Nat.beq (cn .f64 (csR y (fcv .f32 .f64 a))) (csR y (fcv .f32 .f64 a)))) = true := fun y hy => by
    have h63 : inf64 < 9223372036854775808 := by decide
    have hi : y < inf64 := Nat.lt_of_le_of_lt hy (by decide)
    have hW : W < inf64 := Nat.lt_of_le_of_lt w2 (by decide)
    have hcs : csR y (fcv .f32 .f64 a) = double.word g y := by rw [hw]; exact csR_word (by omega) (by omega)
    refine ⟨hcs, ?_⟩
    rw [hN, hcs, show cn .f64 (double.word g y) = double.word g y from num_cn (k := .f64) (k64 hi), Nat.beq_refl]
    have : Nat.blt y inf64 = true := Nat.ble_eq_true_of_le hi
    rw [this]; rfl
  obtain ⟨hcs, hc⟩ := key (rootY W) hy
  have ho : fcv .f64 .f32 (csR (rootY W) (fcv .f32 .f64 a)) = rootV a := by rw [hcs, hv]; exact (slim_word hy).1
  have hok : fcvOk .f64 .f32 (csR (rootY W) (fcv .f32 .f64 a)) = true := by rw [hcs]; exact (slim_word hy).2
  have g5 : regionOf (envI Try.prog) (sa (sb (sb (sb (Try.f29.body.getD .skip))))) (S 53 (up (up (up (up (up (up (up (j0 a) 2 (v32 0)) 3 (vI 0)) 8 (v32 a)) 9 (vB (finB a))) 10 (vB (!finB a))) 11 (v32 a)) 12 (vB (feq .f32 a 0)))) = some (S 53 (base a (fabs (fcv .f32 .f64 a)) c1 (up (up (up (up (up (up (up (up (up (up (up (up (j0 a) 2 (v32 0)) 3 (vI 0)) 8 (v32 a)) 9 (vB (finB a))) 10 (vB (!finB a))) 11 (v32 a)) 12 (vB (feq .f32 a 0))) 13 (v32 a)) 14 (v64 (fcv .f32 .f64 a))) 15 (v64 (fabs (fcv .f32 .f64 a)))) 4 (v64 (fabs (fcv .f32 .f64 a)))) 5 (v64 c1)))) := by kernel_rfl
  have g5 := g5.trans (congrArg (fun z => some (S 53 (base a z c1 (up (up (up (up (up (up (up (up (up (up (up (up (j0 a) 2 (v32 0)) 3 (vI 0)) 8 (v32 a)) 9 (vB (finB a))) 10 (vB (!finB a))) 11 (v32 a)) 12 (vB (feq .f32 a 0))) 13 (v32 a)) 14 (v64 (fcv .f32 .f64 a))) 15 (v64 (fabs (fcv .f32 .f64 a)))) 4 (v64 (fabs (fcv .f32 .f64 a)))) 5 (v64 c1))))) hb)
  obtain ⟨e1, e2, _, _, _⟩ := ends_ok w1 w2
  obtain ⟨j1, k1⟩ := loopI1 a W c1 (up (up (up (up (up (up (up (up (up (up (up (up (j0 a) 2 (v32 0)) 3 (vI 0)) 8 (v32 a)) 9 (vB (finB a))) 10 (vB (!finB a))) 11 (v32 a)) 12 (vB (feq .f32 a 0))) 13 (v32 a)) 14 (v64 (fcv .f32 .f64 a))) 15 (v64 (fabs (fcv .f32 .f64 a)))) 4 (v64 (fabs (fcv .f32 .f64 a)))) 5 (v64 c1)) e1
  obtain ⟨j2, k2⟩ := loopI2 a _ _ j1 e2
  obtain ⟨s', k3, k4⟩ := tailI a (ends W).1 (ends W).2 (rootY W) j2 rfl hok hc
  have k4 := k4.trans (by rw [ho])
  refine fun_of (N := 280) (c := (Try.f29.body.getD .skip)) (e := .ret) (s' := s') (by kernel_rfl) (by kernel_rfl) (by kernel_rfl) (by kernel_rfl) (headI a hf hz ?_) (by decide) k4
  exact Goes.seq' (N := 269) (by kernel_rfl) (.reg (N := 268) g5) (Goes.seq' (N := 268) (by kernel_rfl) (k1.more (by decide)) (Goes.seq' (N := 267) (by kernel_rfl) (k2.more (by decide)) (k3.more (by decide))))

/-! ### the contract -/
def rootO : Sig
  | [.float .f32 a] => some (.tuple #[.float .f32 (rootV a), .int .i64 (rootC a)], true)
  | _ => none
theorem root_case {f : Nat} {us : List Nat} (hb : ∀ a, finB a = false → funD Try.prog (fun f => seek f extX) (fun f => seek f orcR) us 300 5 f [.float .f32 a] [] = some (.tuple #[.float .f32 0, .int .i64 2], [], true))
    (h0 : ∀ a, finB a = true → feq .f32 a 0 = true → funD Try.prog (fun f => seek f extX) (fun f => seek f orcR) us 300 5 f [.float .f32 a] [] = some (.tuple #[.float .f32 0, .int .i64 0], [], true))
    (h1 : ∀ a, finB a = true → feq .f32 a 0 = false → funD Try.prog (fun f => seek f extX) (fun f => seek f orcR) us 300 5 f [.float .f32 a] [] = some (.tuple #[.float .f32 (rootV a), .int .i64 0], [], true)) (a : Nat) :
    funD Try.prog (fun f => seek f extX) (fun f => seek f orcR) us 300 5 f [.float .f32 a] [] = some (.tuple #[.float .f32 (rootV a), .int .i64 (rootC a)], [], true) := by
  cases hf : finB a with
  | false =>
    rw [hb a hf]
    unfold rootV rootC
    rw [hf]; rfl
  | true =>
    cases hz : feq .f32 a 0 with
    | true =>
      rw [h0 a hf hz]
      unfold rootV rootC
      rw [hf, hz]; rfl
    | false =>
      rw [h1 a hf hz]
      unfold rootC
      rw [hf]; rfl
theorem root_orc {f : Nat} {us : List Nat} (hus : us.all (funcOk Try.prog) = true) (hb : hasBody Try.prog f = true) (h : ∀ a, funD Try.prog (fun f => seek f extX) (fun f => seek f orcR) us 300 5 f [.float .f32 a] [] = some (.tuple #[.float .f32 (rootV a), .int .i64 (rootC a)], [], true)) : OrcOne Try.prog f rootO := by
  refine orc_one (us := us) (cf := 300) (d := 5) mixed hus extXOk orcROk hb fun args v k he hk _ => ?_
  unfold rootO at he
  split at he
  · simp only [Option.some.injEq, Prod.mk.injEq] at he
    obtain ⟨rfl, rfl⟩ := he
    exact ⟨rfl, rfl, [], h _⟩
  · cases he
theorem orcRootI : OrcOne Try.prog 29 rootO := root_orc (by kernel_rfl) (by kernel_rfl) (root_case badI zeroI rootI)
theorem orcRootM : OrcOne Try.prog 28 rootO :=
  root_orc (by kernel_rfl) (by kernel_rfl) (root_case (fun a h => badM a ((fin_model a).trans h)) (fun a h => zeroM a ((fin_model a).trans h)) rootM)

end Go.Proofs.Ytofjdlhalbeniaa.root
end
