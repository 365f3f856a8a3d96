/-
  Very thick layers and looks under lights: program and model answer alike, told by names alone. No condition.
-/
import Derived.Test.YtigpiogljfedpaaGw
set_option linter.unusedSectionVars false
noncomputable section
namespace Go.Proofs.Ytigpiogljfedpaa
open Go Go.ChangeShapes Go.WideShapes Go.ChangeAt Go.RowKit Ev Sx

def akT : List AK := [.row (List.replicate 16 (.f .f32)), .row (List.replicate 16 (.f .f32))]
def psT : List Par := [.agg (List.replicate 16 (.f .f32)), .agg (List.replicate 16 (.f .f32))]
def qsT : List Par := [.agg (List.replicate 16 (.f .f32)), .one (.n .i64)]
def usT : List Nat := [81, 71, 131, 111, 126, 127, 128, 83, 140, 156, 157, 144, 153, 154, 155, 146, 171, 172, 164, 170]
theorem thick_run : @pair2B noSFrn Try.prog symE symV usT 300 30 (argsK akT).length [] [] ⟨81, argsS akT 0 ((argsK akT).length + 2), []⟩ ⟨71, argsS akT 0 ((argsK akT).length + 2), []⟩ qsT = true := by kernel_rfl
theorem thick_pair (xs : List Value) (h : fitA psT xs = true) : ∃ vs, Both qsT 81 71 xs vs := pair_plain (ak := akT) rfl rfl thick_run (by kernel_rfl) h
abbrev thickG : List Value → List Value := unkG qsT 81 71
/-- what the named functions answer -/
def UU (op : Nat) (z : Vl) : Vl := if 144 ≤ op ∧ op < 161 then valT psT qsT thickG (op - 144) z else .i 0
theorem UU_thick {k : Nat} (hk : k < 17) (z : Vl) : UU (144 + k) z = valT psT qsT thickG k z := by
  unfold UU
  rw [if_pos ⟨by omega, by omega⟩, Nat.add_sub_cancel_left]
def orcU : List (Nat × Sig) := (81, sigT psT thickG) :: (71, sigT psT thickG) :: orcV
theorem orcU_any (ι : Frn) : @OrcOk ι Try.prog (fun f => seek f orcU) :=
  have h := unk_one (ps := psT) (qs := qsT) (f1 := 81) (f2 := 71) (by kernel_rfl) (by kernel_rfl) thick_pair (ι := ι)
  @orc_list ι _ _ (all_cons h.1 (all_cons h.2 orcVOk))
theorem thickSy_ok {F : Tab} {ρ : Nat → Int} (hB : Base F ρ UU) : SymOk F ρ UU (sigT psT thickG) (uT 144 psT qsT) :=
  uT_ok hB (fun k hk => op_any (by omega)) (fun k hk z => UU_thick hk z) (fun args h => (unk_spec (thick_pair args h)).1)
end Go.Proofs.Ytigpiogljfedpaa
end
