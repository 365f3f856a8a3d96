/-
  The observers, of the program and of its model: the same numbers. No condition.
-/
import Derived.Test.YtbodmmniiaggoaaBs
namespace Go.Proofs.Ytbodmmniiaggoaa
open Go.ChangeShapes Go.WideShapes Go.ChangeAt Go.RowKit Ev

def obsL : List Nat := [1026770599, 1038257727, 1047483677, 1047937007, 1040740287, 1035577116, 1038150301, 1044293055, 1051988599, 1059344791, 1064477081, 1064470137, 1059320973, 1051884464, 1043851041, 1036138086, 1014565065, 1019559995, 1025758986, 1032814706, 1040496092, 1048576000, 1056269695, 1062165544, 1065353216, 1062165544, 1056269695, 1048576000, 1040496092, 1032814706, 1025758986, 1019559995, 1041329037, 1052770304, 1064682127, 1069547520, 1064682127, 1052770304, 1041329037, 1031127695, 1021953890, 1014350479, 1007418366, 1001001853, 995734155, 990997389, 986272668, 982490436]
def obsO : Sig
  | [] => some (.agg (fl .f32 obsL).toArray, true)
  | _ => none
noncomputable def usO : List Nat := [9, 10, 15, 21, 22, 23, 24, 17, 19, 30, 31]
theorem usO_ok : usO.all (funcOk Try.prog) = true := by kernel_rfl
theorem obs_eval : ∃ h', funD Try.prog ext (orcOf []) usO 400 20 9 [] [] = some (.agg (fl .f32 obsL).toArray, h', true) := by
  refine of_map ?_
  kernel_rfl
theorem obs2_eval : ∃ h', funD Try.prog ext (orcOf []) usO 400 20 10 [] [] = some (.agg (fl .f32 obsL).toArray, h', true) := by
  refine of_map ?_
  kernel_rfl
theorem obs_one : OrcOne Try.prog 9 obsO := by
  refine orc_one (us := usO) (cf := 400) (d := 20) mixed usO_ok extsOk (l0 := []) all_nil (by kernel_rfl) fun args v k he hk hx => ?_
  unfold obsO at he
  split at he
  · simp only [Option.some.injEq, Prod.mk.injEq] at he
    obtain ⟨rfl, rfl⟩ := he
    exact ⟨rfl, fl_plain _ _, obs_eval⟩
  · cases he
theorem obs2_one : OrcOne Try.prog 10 obsO := by
  refine orc_one (us := usO) (cf := 400) (d := 20) mixed usO_ok extsOk (l0 := []) all_nil (by kernel_rfl) fun args v k he hk hx => ?_
  unfold obsO at he
  split at he
  · simp only [Option.some.injEq, Prod.mk.injEq] at he
    obtain ⟨rfl, rfl⟩ := he
    exact ⟨rfl, fl_plain _ _, obs2_eval⟩
  · cases he
theorem obsO_bare : BareSig obsO := fun args v he => by
  unfold obsO at he
  split at he
  · simp only [Option.some.injEq, Prod.mk.injEq] at he
    obtain ⟨rfl, h⟩ := he
    exact ⟨rfl, fl_bare⟩
  · cases he
def orcBq : List (Nat × Sig) := (9, obsO) :: (10, obsO) :: orcBp
theorem orcBqOk {ι : Frn} : ∀ p ∈ orcBq, @OrcOne ι Try.prog p.1 p.2 := all_cons (orc_any obs_one obsO_bare) <| all_cons (orc_any obs2_one obsO_bare) orcBpOk
end Go.Proofs.Ytbodmmniiaggoaa
