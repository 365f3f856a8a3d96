/-
  Contracts of math.Abs and of what tells a finite number, at this program. No condition.
-/
import Derived.Test.YtdpaaphdfkonkabC
import Derived.WalkSpells
import Derived.WalkLawsBesides
namespace Go.Proofs.Ytdpaaphdfkonkab
open Go.ChangeShapes Go.WideShapes Go.ChangeAt Go.RowKit Ev

set_option maxHeartbeats 400000 in
theorem abs_walk (x : Nat) (w : World) : Calls Try.prog 65 #[.float .f64 x] w fun e w' => e = .returned (.float .f64 (fabsR x)) ∧ w' = w := by
  have h1 : ∀ x w, (callFunc 85 #[.float .f64 x]).run Try.prog w = .ok (.value (.int .u64 (x : Nat))) w := fun x w => ext_run isF64bits rfl
  have h2 : ∀ (n : Int) w, (callFunc 84 #[.int .u64 n]).run Try.prog w = .ok (.value (.float .f64 n.toNat)) w := fun n w => ext_run isF64from rfl
  go_enter Try.func65, Try.ntmps65
  go_wp2
  go_ret
  exact ⟨rfl, rfl⟩
def absO : Sig
  | [.float .f64 a] => some (.float .f64 (fabs a), true)
  | _ => none
theorem abs_one : OrcOne Try.prog 65 absO := by
  refine ⟨by kernel_rfl, fun args v k he hk μ cargs w hx => ?_⟩
  unfold absO at he
  split at he
  · simp only [Option.some.injEq, Prod.mk.injEq] at he
    obtain ⟨rfl, rfl⟩ := he
    obtain ⟨y, rfl, hy⟩ := one_arg hx
    obtain ⟨x, rfl, rfl⟩ := hy.float_inv
    refine (abs_walk x w).mono fun e w' ⟨h1, h2⟩ => ?_
    subst h1; subst h2
    exact ⟨_, rfl, .float _ _ _ (fabs_cn x).symm, Below.refl _ _⟩
  · cases he

def finO : Sig
  | [.float .f32 a] => some (.bool (finB a), true)
  | _ => none
theorem fin_eval (a : Nat) : ∃ h', funD Try.prog ext (orcOf [(65, absO)]) [51] 100 5 51 [.float .f32 a] [] = some (.bool (finB a), h', true) := by
  rw [← fin_impl]
  refine of_map ?_
  kernel_rfl
theorem fin2_eval (a : Nat) : ∃ h', funD Try.prog ext (orcOf []) [49] 100 5 49 [.float .f32 a] [] = some (.bool (finB a), h', true) := by
  rw [← fin_model]
  refine of_map ?_
  kernel_rfl
theorem fin_one : OrcOne Try.prog 51 finO := by
  refine orc_one (us := [51]) (cf := 100) (d := 5) mixed (by kernel_rfl) extsOk (l0 := [(65, absO)]) (all_cons abs_one all_nil) (by kernel_rfl) fun args v k he hk hx => ?_
  unfold finO at he
  split at he
  · simp only [Option.some.injEq, Prod.mk.injEq] at he
    obtain ⟨rfl, rfl⟩ := he
    exact ⟨rfl, rfl, fin_eval _⟩
  · cases he
theorem fin2_one : OrcOne Try.prog 49 finO := by
  refine orc_one (us := [49]) (cf := 100) (d := 5) mixed (by kernel_rfl) extsOk (l0 := []) all_nil (by kernel_rfl) fun args v k he hk hx => ?_
  unfold finO at he
  split at he
  · simp only [Option.some.injEq, Prod.mk.injEq] at he
    obtain ⟨rfl, rfl⟩ := he
    exact ⟨rfl, rfl, fin2_eval _⟩
  · cases he
def orcF : List (Nat × Sig) := [(51, finO), (49, finO)]
theorem orcFOk : ∀ p ∈ orcF, OrcOne Try.prog p.1 p.2 := all_cons fin_one (all_cons fin2_one all_nil)

/-! ### curves of finite numbers -/
def allFin : List Nat → Bool
  | [] => true
  | a :: r => bif finB a then allFin r else false
def treeF : List Nat → Ans
  | [] => some (.bool true, [], true)
  | a :: r => bif !(finB a) then some (.bool false, [], true) else treeF r
theorem treeF_eq : ∀ (l : List Nat), treeF l = some (.bool (allFin l), [], true)
  | [] => rfl
  | a :: r => by
    show (bif !(finB a) then some (.bool false, [], true) else treeF r) = some (Value.bool (bif finB a then allFin r else false), ([] : Heap), true)
    rw [treeF_eq r]
    cases finB a <;> rfl
def floatsOf : List Value → List Nat
  | .float .f32 a :: r => a :: floatsOf r
  | _ => []
theorem floatsOf_fl : ∀ l, floatsOf (fl .f32 l) = l
  | [] => rfl
  | a :: r => by
    show a :: floatsOf (fl .f32 r) = a :: r
    rw [floatsOf_fl r]
def isF : List Value → Bool
  | [] => true
  | .float .f32 _ :: r => isF r
  | _ => false
theorem isF_spec : ∀ {xs : List Value}, isF xs = true → ∃ l, xs = fl .f32 l
  | [], _ => ⟨[], rfl⟩
  | x :: r, h => by
    unfold isF at h
    split at h
    · rename_i h1; cases h1
    · rename_i a r' h1
      cases h1
      obtain ⟨l, rfl⟩ := isF_spec h
      exact ⟨a :: l, rfl⟩
    · cases h
theorem row_spec {xs : Array Value} (h : (Nat.beq xs.toList.length 16 && isF xs.toList) = true) : ∃ l : List Nat, l.length = 16 ∧ xs = (fl .f32 l).toArray := by
  simp only [Bool.and_eq_true] at h
  obtain ⟨l, hl⟩ := isF_spec h.2
  refine ⟨l, ?_, by rw [← hl]⟩
  have := Nat.eq_of_beq_eq_true h.1
  rw [hl] at this
  simpa [fl] using this
def fcO : Sig
  | [.agg xs] => some (.bool (allFin (floatsOf xs.toList)), Nat.beq xs.toList.length 16 && isF xs.toList)
  | _ => none
end Go.Proofs.Ytdpaaphdfkonkab
