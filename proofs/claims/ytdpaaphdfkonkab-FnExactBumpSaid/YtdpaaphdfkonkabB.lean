/-
  Contracts of 'Bump', of the program and of its model, in the case 'b': the place and the width are such as a bump may have, or not. No condition.
-/
import Derived.Test.YtdpaaphdfkonkabF
namespace Go.Proofs.Ytdpaaphdfkonkab
open Go.ChangeShapes Go.WideShapes Go.ChangeAt Go.RowKit Ev

/-- the flags of '.. || ..', as the evaluator lays them -/
def gN (c : Bool) : Bool := (true && (c == false)) && true
def clN (c : Bool) : Bool := ((gN c && true) && true) || !(true && (c == false))
def ntN (c : Bool) : Bool := gN c || !(true && (c == false))
def lqN (c : Bool) : Bool := (gN c && true) || !(true && (c == false))
def pkN (c : Bool) : Bool := true && ((bif c then true else gN c) && true)
def orC (p w : Nat) : Bool := bif !(finB p) then true else !(finB w)
def flI (c d : Bool) : Bool := pkN d && (lqN d && (pkN c && (ntN c && (clN c && true))))
def flM (c d : Bool) : Bool := pkN d && (ntN d && (lqN d && (pkN c && (ntN c && (clN c && true)))))
theorem flI_true (c d : Bool) : flI c d = true := by cases c <;> cases d <;> rfl
theorem flM_true (c d : Bool) : flM c d = true := by cases c <;> cases d <;> rfl

def bumpN (p w : Nat) : List Nat := [0, 1065353216, 1073741824, 1077936128, 1082130432, 1084227584, 1086324736, 1088421888, 1090519040, 1091567616, 1092616192, 1093664768, 1094713344, 1095761920, 1096810496, 1097859072].map fun i => fdiv .f32 1065353216 (fmul .f32 (fadd .f32 1065353216 (fmul .f32 (fdiv .f32 (fsub .f32 i p) w) (fdiv .f32 (fsub .f32 i p) w))) (fadd .f32 1065353216 (fmul .f32 (fdiv .f32 (fsub .f32 i p) w) (fdiv .f32 (fsub .f32 i p) w))))
def bumpT (p w : Nat) : Bool → Value
  | true => .tuple #[.agg (fl .f32 (bumpN p w)).toArray, .int .i64 0]
  | false => .tuple #[.agg (fl .f32 [0, 0, 0, 0, 0, 0, 0, 0, 0, 0, 0, 0, 0, 0, 0, 0]).toArray, .int .i64 2]
theorem bump_plain (p w : Nat) (b : Bool) : plainB (bumpT p w b) = true := by cases b <;> rfl
/-- out of range, as the program says it -/
def outB (p w : Nat) : Bool := bif orC p w then true else fle .f32 w 0
theorem out_model (p w : Nat) : (bif orC p w then true else !(fgt .f32 w 0)) = outB p w := by
  unfold outB
  cases hc : orC p w with
  | true => rfl
  | false =>
    have hw : finB w = true := by
      unfold orC at hc
      revert hc
      cases finB p <;> cases finB w <;> simp
    simp only [cond_false]
    unfold fle fgt Ieee.Format.order
    unfold finB at hw
    split at hw
    · rename_i g m e h
      rw [show FloatKind.f32.format.read w = .number g m e from h, show FloatKind.f32.format.read 0 = .number false 0 (-149) by decide +kernel]
      simp only [Ieee.Datum.order]
      generalize compare (α := Int) _ _ = o
      cases o <;> rfl
    · cases hw
def bumpO (b : Bool) : Sig
  | [.float .f32 p, .float .f32 w] => some (bumpT p w b, (!(outB p w)) == b)
  | _ => none
theorem bump_eval (p w : Nat) (b : Bool) (hb : (!(outB p w)) = b) : ∃ h', funD Try.prog ext (orcOf orcF) [22, 53, 54, 52] 100 6 22 [.float .f32 p, .float .f32 w] [] = some (bumpT p w b, h', true) := by
  refine of_funM (by kernel_rfl) (by kernel_rfl) ?_
  refine Eq.trans (b := bif outB p w then some (bumpT p w false, [], flI (!(finB p)) (orC p w)) else some (bumpT p w true, [], flI (!(finB p)) (orC p w))) (by kernel_rfl) ?_
  rw [flI_true, ← hb]
  cases outB p w <;> rfl
theorem bump2_eval (p w : Nat) (b : Bool) (hb : (!(outB p w)) = b) : ∃ h', funD Try.prog ext (orcOf orcF) [21, 50] 100 6 21 [.float .f32 p, .float .f32 w] [] = some (bumpT p w b, h', true) := by
  refine of_funM (by kernel_rfl) (by kernel_rfl) ?_
  refine Eq.trans (b := bif (bif orC p w then true else !(fgt .f32 w 0)) then some (bumpT p w false, [], flM (!(finB p)) (orC p w)) else some (bumpT p w true, [], flM (!(finB p)) (orC p w))) (by kernel_rfl) ?_
  rw [flM_true, out_model, ← hb]
  cases outB p w <;> rfl
theorem beq_bool {c b : Bool} (h : (c == b) = true) : c = b := by cases c <;> cases b <;> simp_all
theorem bump_one (b : Bool) : OrcOne Try.prog 22 (bumpO b) := by
  refine orc_one (us := [22, 53, 54, 52]) (cf := 100) (d := 6) mixed (by kernel_rfl) extsOk orcFOk (by kernel_rfl) fun args v k he hk hx => ?_
  unfold bumpO at he
  split at he
  · simp only [Option.some.injEq, Prod.mk.injEq] at he
    obtain ⟨rfl, rfl⟩ := he
    exact ⟨rfl, bump_plain _ _ _, bump_eval _ _ _ (beq_bool hk)⟩
  · cases he
theorem bump2_one (b : Bool) : OrcOne Try.prog 21 (bumpO b) := by
  refine orc_one (us := [21, 50]) (cf := 100) (d := 6) mixed (by kernel_rfl) extsOk orcFOk (by kernel_rfl) fun args v k he hk hx => ?_
  unfold bumpO at he
  split at he
  · simp only [Option.some.injEq, Prod.mk.injEq] at he
    obtain ⟨rfl, rfl⟩ := he
    exact ⟨rfl, bump_plain _ _ _, bump2_eval _ _ _ (beq_bool hk)⟩
  · cases he
def orcB (b : Bool) : List (Nat × Sig) := (22, bumpO b) :: (21, bumpO b) :: orc2
theorem orcBOk (b : Bool) : ∀ p ∈ orcB b, OrcOne Try.prog p.1 p.2 := all_cons (bump_one b) (all_cons (bump2_one b) orc2Ok)
end Go.Proofs.Ytdpaaphdfkonkab
