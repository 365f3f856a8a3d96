/-
  FnExactPaintOf: program and model answer the same to every shelf. No condition.
-/
import Derived.Test.YtigpiogljfedpaaGc
import Derived.Test.YtigpiogljfedpaaEp
import Derived.Test.YtigpiogljfedpaaRows
import Derived.Test.YtigpiogljfedpaaGq
import Derived.Test.YtigpiogljfedpaaGMixDrops
set_option linter.unusedSectionVars false
set_option linter.unusedVariables false
set_option linter.unusedSimpArgs false
noncomputable section
namespace Go.Proofs.Ytigpiogljfedpaa.fnExactPaintOf
open Go Go.ChangeShapes Go.WideShapes Go.ChangeAt Go.RowKit Go.Deep Ev Sx

def ak : List AK := [.row (List.replicate 6 (.i .i16))]
def ps : List Par := [.agg ((List.replicate 16 (.f .f32)).map tyK), .one (.n .i64)]
abbrev xs (x0 : (Nat → Int)) : List Value := [.agg (cellsK (List.replicate 6 (.i .i16)) 0 x0).toArray]
abbrev ans (y0 : (Nat → Int)) (y1 : Int) : Value := .tuple #[.agg (cellsK (List.replicate 16 (.f .f32)) 0 y0).toArray, .int .i64 y1]
def us : List Nat := [26, 27, 59, 63, 70, 98, 119, 62, 72, 118, 140, 146, 83]
def usF : List Nat := [26, 59, 63, 70, 119, 62, 118, 140, 146, 83]
def ds : List Nat := [98, 60, 61]
def usG : List Nat := [27, 24, 65, 120, 66, 22, 196]
def usE : List Nat := [27, 24, 65, 120, 66, 196]
def gs : List Nat := [64]
def lawL (l : Nat) (cs ts : List Value) (z : Int) (x0 : (Nat → Int)) (y0 : (Nat → Int)) (y1 : Int) : List (Nat × ConT) := [(26, ansX l cs ts (xs x0) (ans y0 y1)), (27, ansX l cs ts (xs x0) (ans y0 y1)), (15, szZ l cs ts z), (17, ansTo l cs ts), (19, ansEq l cs ts), (21, plCon [.agg (cellsK (List.replicate 6 (.i .i16)) 0 x0).toArray] (.agg (cellsK (List.replicate 6 (.i .i16)) 0 x0).toArray)), (28, plCon [.agg (cellsK (List.replicate 16 (.f .f32)) 0 y0).toArray, .agg (cellsK (List.replicate 16 (.f .f32)) 0 y0).toArray] (.bool true))]
noncomputable def lawC : Code := (Try.f6.body.getD .skip)
theorem sF (base l : Nat) (v : Value) (cs : List Value) (t0 t1 t2 t3 t4 t5 : Int) (x0 : (Nat → Int)) : ∃ h', (@funD (frnOf base (tk1 v l cs) (conW ds l (tins t0 t1 t2 t3 t4 t5) false)) Try.prog noOrc noOrc usF 100 12 26 (shelf (tok 0 l 0) (tins t0 t1 t2 t3 t4 t5) :: xs x0) []) = some (ans (fun _ => 0) (1), h', true) :=
  of_era (show (@funD (frnOf base (tk1 v l cs) (conW ds l (tins t0 t1 t2 t3 t4 t5) false)) Try.prog noOrc noOrc usF 100 12 26 (shelf (tok 0 l 0) (tins t0 t1 t2 t3 t4 t5) :: xs x0) []).map eraseH = some (ans (fun _ => 0) (1), [], ((isB ([(Value.slice (some ⟨0, 0, (some 0)⟩) l 0), (Value.int .i32 t0), (Value.int .i32 t1), (Value.int .i32 t2), (Value.int .i32 t3), (Value.int .i32 t4), (Value.int .i32 t5)] = [(Value.slice (some ⟨0, 0, (some 0)⟩) l 0), (Value.int .i32 t0), (Value.int .i32 t1), (Value.int .i32 t2), (Value.int .i32 t3), (Value.int .i32 t4), (Value.int .i32 t5)]) && true) && true)) by kernel_rfl) (by simp [isB_true])
theorem iF (base l : Nat) (v : Value) (cs : List Value) (t0 t1 t2 t3 t4 t5 : Int) (x0 : (Nat → Int)) : ∃ h', (@funG (frnOf base (tk1 v l cs) (conW ds l (tins t0 t1 t2 t3 t4 t5) false)) Try.prog noOrc noOrc usG gs 100 30 12 27 (shelf (tok 0 l 0) (tins t0 t1 t2 t3 t4 t5) :: xs x0) []) = some (.val (ans (fun _ => 0) (1)), h', true) :=
  of_erx (show (@funG (frnOf base (tk1 v l cs) (conW ds l (tins t0 t1 t2 t3 t4 t5) false)) Try.prog noOrc noOrc usG gs 100 30 12 27 (shelf (tok 0 l 0) (tins t0 t1 t2 t3 t4 t5) :: xs x0) []).map eraseX = some (.val (ans (fun _ => 0) (1)), [], ((((((isB ((l = l) ∧ ([(Value.int .i32 t0), (Value.int .i32 t1), (Value.int .i32 t2), (Value.int .i32 t3), (Value.int .i32 t4), (Value.int .i32 t5)] = [(Value.int .i32 t0), (Value.int .i32 t1), (Value.int .i32 t2), (Value.int .i32 t3), (Value.int .i32 t4), (Value.int .i32 t5)])) && true) && true) && true) && true) && true) && true)) by kernel_rfl) (by simp [isB_true])
theorem dF (base l : Nat) (v : Value) (cs : List Value) (t0 t1 t2 t3 t4 t5 : Int) (x0 : (Nat → Int)) : ∃ h', (@funG (frnOf base (tk1 v l cs) (conX3 l (tins t0 t1 t2 t3 t4 t5) true [(22, [.agg (cellsK (List.replicate 6 (.i .i16)) 0 x0).toArray], .bool false)])) Try.prog noOrc noOrc usE gs 100 30 12 27 (shelf (tok 0 l 0) (tins t0 t1 t2 t3 t4 t5) :: xs x0) []) = some (.val (ans (fun _ => 0) (1)), h', true) :=
  of_erx (show (@funG (frnOf base (tk1 v l cs) (conX3 l (tins t0 t1 t2 t3 t4 t5) true [(22, [.agg (cellsK (List.replicate 6 (.i .i16)) 0 x0).toArray], .bool false)])) Try.prog noOrc noOrc usE gs 100 30 12 27 (shelf (tok 0 l 0) (tins t0 t1 t2 t3 t4 t5) :: xs x0) []).map eraseX = some (.val (ans (fun _ => 0) (1)), [], (((((isB ((l = l) ∧ (([(Value.int .i32 t0), (Value.int .i32 t1), (Value.int .i32 t2), (Value.int .i32 t3), (Value.int .i32 t4), (Value.int .i32 t5)] = [(Value.int .i32 t0), (Value.int .i32 t1), (Value.int .i32 t2), (Value.int .i32 t3), (Value.int .i32 t4), (Value.int .i32 t5)]) ∧ ([(Value.agg #[(Value.int .i16 (x0 0)), (Value.int .i16 (x0 1)), (Value.int .i16 (x0 2)), (Value.int .i16 (x0 3)), (Value.int .i16 (x0 4)), (Value.int .i16 (x0 5))])] = [(Value.agg #[(Value.int .i16 (x0 0)), (Value.int .i16 (x0 1)), (Value.int .i16 (x0 2)), (Value.int .i16 (x0 3)), (Value.int .i16 (x0 4)), (Value.int .i16 (x0 5))])]))) && true) && true) && true) && true) && true)) by kernel_rfl) (by simp [isB_true])
theorem xsB (x0 : (Nat → Int)) : (xs x0).all bareP = true := by kernel_rfl
theorem ansB (y0 : (Nat → Int)) (y1 : Int) : bareP (ans y0 y1) = true := by kernel_rfl
def cds (b : Bool) (n : Nat) : List (Job × Bool) := [(⟨20, .agg (gSh ak n) :: (gArgs ak n).take 1, []⟩, b)]
def kn (n : Nat) : List KnS := [(22, (gArgs ak n).take 1, .lit (.bool true))]
def go (n : Nat) : Bool := g4 ak [] symV fnExactValidDrops.us 300 30 [] [] symV fnExactMixDrops.us 300 30 ⟨23, .agg (gSh ak n) :: (gArgs ak n).take 1, []⟩ 24 ((gArgs ak n).take 1) [] symUv us 300 30 [] (kn n) ⟨26, .agg (gSh ak n) :: gArgs ak n, []⟩ ⟨27, .agg (gSh ak n) :: gArgs ak n, []⟩ ps n
def no (n : Nat) : Bool := g3s ak [] symV fnExactValidDrops.us 300 30 (cds false n) [] symUv us 300 30 [] [] ⟨26, .agg (gSh ak n) :: gArgs ak n, []⟩ (.tuple [.agg [.lit (.float .f32 0), .lit (.float .f32 0), .lit (.float .f32 0), .lit (.float .f32 0), .lit (.float .f32 0), .lit (.float .f32 0), .lit (.float .f32 0), .lit (.float .f32 0), .lit (.float .f32 0), .lit (.float .f32 0), .lit (.float .f32 0), .lit (.float .f32 0), .lit (.float .f32 0), .lit (.float .f32 0), .lit (.float .f32 0), .lit (.float .f32 0)], .lit (.int .i64 (1))]) n
end Go.Proofs.Ytigpiogljfedpaa.fnExactPaintOf
end
