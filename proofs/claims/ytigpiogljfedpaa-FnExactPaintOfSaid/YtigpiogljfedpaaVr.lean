/-
  Shelves of up to 6 pigments, as variables: whether program and model tell alike that they are valid (the runs). No condition.
-/
import Derived.Test.YtigpiogljfedpaaPv
set_option linter.unusedSectionVars false
noncomputable section
namespace Go.Proofs.Ytigpiogljfedpaa
open Go Go.ChangeShapes Go.WideShapes Go.ChangeAt Go.RowKit Ev Sx

/-- a variable that is true or false -/
def atomV (j : Nat) : M SV := bnd (mkP 2 j) fun i => bnd (mk3 60 i 0 0) fun a => bnd (atomS a) fun r => ret (.b r)
def pgSyM (n jb : Nat) : SymF := fun _ args =>
  match args with
  | [.lit (.pointer (some ⟨0, o, some 0⟩))] => gd (Nat.beq (Nat.mod o 34) 0 && Nat.blt (Nat.div o 34) n) (atomV (Nat.add jb (Nat.div o 34)))
  | _ => non
def pgSyI (n jb : Nat) (row : List SV) : SymF := fun _ args =>
  match args with
  | [.agg (.s i :: r)] => force (Nat.div (Nat.sub i 2) 34) fun q => gd (Nat.blt q n && allEq (eqSV 3) (.s i :: r) ((row.drop (q * 34)).take 34)) (atomV (Nat.add jb q))
  | _ => non
def vsRow (n : Nat) : List SV := svsK (repK pigK n) 0 0
def vsTin (n : Nat) : List SV := svsK tinK (34 * n) (35 * n + 8)
def vsSh (n : Nat) : List SV := .lit (.slice (some ⟨0, 0, some 0⟩) n 0) :: vsTin n
abbrev vsF (n : Nat) : SFrn := ⟨fun k => bif Nat.beq k 0 then vsRow n else bif Nat.beq k 1 then vsSh n else [], fun _ => none⟩
def vsWs (n : Nat) : List (IntKind × Nat) := wsK tinK (34 * n)
def vsSym (n : Nat) : List (Nat × SymF) := [(105, pgSyM n (34 * n + 6)), (55, pgSyI n (34 * n + 6) (vsRow n))]
def vsUs : List Nat := [16, 18, 50, 53, 54, 56, 72, 107, 108, 109, 112, 113, 141]
def vsA : Job := ⟨50, [.lit (.pointer (some ⟨1, 0, some 0⟩))], []⟩
def vsB (n : Nat) : Job := ⟨18, [.agg (vsSh n)], []⟩
def vsRun (n : Nat) : Bool := @pair2B (vsF n) Try.prog [] (vsSym n) vsUs 300 30 (35 * n + 6) (vsWs n) [] vsA (vsB n) [.one .b]
theorem vs_run0 : vsRun 0 = true := by kernel_rfl
theorem vs_run1 : vsRun 1 = true := by kernel_rfl
theorem vs_run2 : vsRun 2 = true := by kernel_rfl
theorem vs_run3 : vsRun 3 = true := by kernel_rfl
theorem vs_run4 : vsRun 4 = true := by kernel_rfl
theorem vs_run5 : vsRun 5 = true := by kernel_rfl
theorem vs_run6 : vsRun 6 = true := by kernel_rfl
abbrev vsF1 (n : Nat) : SFrn := ⟨fun k => bif Nat.beq k 0 then vsRow n else [], fun _ => none⟩
def vsA1 (n : Nat) : Job := ⟨16, [.agg (vsSh n)], []⟩
def vs1Run (n : Nat) : Bool := @pair2B (vsF1 n) Try.prog [] (vsSym n) vsUs 300 30 (35 * n + 6) (vsWs n) [] (vsA1 n) (vsB n) [.one .b]
theorem vs1_run0 : vs1Run 0 = true := by kernel_rfl
theorem vs1_run1 : vs1Run 1 = true := by kernel_rfl
theorem vs1_run2 : vs1Run 2 = true := by kernel_rfl
theorem vs1_run3 : vs1Run 3 = true := by kernel_rfl
theorem vs1_run4 : vs1Run 4 = true := by kernel_rfl
theorem vs1_run5 : vs1Run 5 = true := by kernel_rfl
theorem vs1_run6 : vs1Run 6 = true := by kernel_rfl
end Go.Proofs.Ytigpiogljfedpaa
end
