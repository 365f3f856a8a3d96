/-
  What the symbolic runs of exact laws lean on, at this program: which functions are told by contracts (one and the same number; is it finite?). No condition.
-/
import Derived.Test.YtjfbhjnkojnmcaaC
import Derived.Test.YtjfbhjnkojnmcaaSx
import Derived.WalkSpells
import Derived.WalkLawsBesides
noncomputable section
namespace Go.Proofs.Ytjfbhjnkojnmcaa
open Go.ChangeShapes Go.WideShapes Go.ChangeAt Go.RowKit Ev Sx

set_option maxHeartbeats 400000 in
theorem abs_walk (x : Nat) (w : World) : Calls Try.prog 102 #[.float .f64 x] w fun e w' => e = .returned (.float .f64 (fabsR x)) ∧ w' = w := by
  have h1 : ∀ x w, (callFunc 106 #[.float .f64 x]).run Try.prog w = .ok (.value (.int .u64 (x : Nat))) w := fun x w => ext_run isF64bits rfl
  have h2 : ∀ (n : Int) w, (callFunc 105 #[.int .u64 n]).run Try.prog w = .ok (.value (.float .f64 n.toNat)) w := fun n w => ext_run isF64from rfl
  go_enter Try.func102, Try.ntmps102
  go_wp2
  go_ret
  exact ⟨rfl, rfl⟩
def absO : Sig
  | [.float .f64 a] => some (.float .f64 (fabs a), true)
  | _ => none
theorem abs_one : OrcOne Try.prog 102 absO := by
  refine ⟨by kernel_rfl, fun args v k he hk μ cargs w hx _ => ?_⟩
  unfold absO at he
  split at he
  · simp only [Option.some.injEq, Prod.mk.injEq] at he
    obtain ⟨rfl, rfl⟩ := he
    obtain ⟨y, rfl, hy⟩ := one_arg hx
    obtain ⟨x, rfl, rfl⟩ := hy.float_inv
    refine (abs_walk x w).mono fun e w' ⟨h1, h2⟩ => ?_
    subst h1; subst h2
    exact ⟨_, rfl, .float _ _ _ (fabs_cn x).symm, Below.refl _ _⟩
  · cases he

theorem fin_eval (a : Nat) : ∃ h', funD Try.prog ext (orcOf [(102, absO)]) [94] 100 5 94 [.float .f32 a] [] = some (.bool (finB a), h', true) := by
  rw [← fin_impl]
  refine of_map ?_
  kernel_rfl
theorem finX_one : OrcOne Try.prog 94 finO32 := by
  refine orc_one (us := [94]) (cf := 100) (d := 5) mixed (by kernel_rfl) extsOk (l0 := [(102, absO)]) (all_cons abs_one all_nil) (by kernel_rfl) fun args v k he hk hx => ?_
  unfold finO32 at he
  split at he
  · simp only [Option.some.injEq, Prod.mk.injEq] at he
    obtain ⟨rfl, rfl⟩ := he
    exact ⟨rfl, rfl, fin_eval _⟩
  · cases he
theorem sfO_eq : sfO = sameO64 := rfl
def orcX : List (Nat × Sig) := [
  (94, finO32),
  (24, eqN 16),
  (19, idN 16),
  (43, sameO64)]
theorem orcXOk : ∀ p ∈ orcX, OrcOne Try.prog p.1 p.2 :=
  all_cons finX_one <|
  all_cons ec_one <|
  all_cons tc_one <|
  all_cons (sfO_eq ▸ sf_one) all_nil
def symX : List (Nat × SymF) := [
  (94, finSy),
  (24, eqSy 16),
  (19, idSy 16),
  (43, sameFSy)]
theorem symXR {U : Nat → Vl → Vl} (F : Tab) (ρ : Nat → Int) (hB : Base F ρ U) : ListR F ρ U symX (fun f => seek f orcX) :=
  ListR.cons (finSy_ok hB) <|
  ListR.cons (eqSy_ok hB) <|
  ListR.cons idSy_ok <|
  ListR.cons (sameFSy_ok hB) ListR.nil
def extX : List (Nat × Sig) := [
  (100, f32bitsO),
  ]
theorem extXOk : ∀ p ∈ extX, ExtOne Try.prog p.1 p.2 :=
  all_cons (f32bits_one isF32bits) <|
  all_nil
def symE : List (Nat × SymF) := [
  (100, f32bitsS),
  ]
theorem symER {U : Nat → Vl → Vl} (F : Tab) (ρ : Nat → Int) (hB : Base F ρ U) : ListR F ρ U symE (fun f => seek f extX) :=
  ListR.cons (f32bitsS_ok hB) <|
  (fun (_ : Base F ρ U) => ListR.nil) hB
end Go.Proofs.Ytjfbhjnkojnmcaa
end
