/-
  FnExactTimesInTins: program and model answer the same to every shelf. No condition.
-/
import Derived.Test.YtigpiogljfedpaaGc
import Derived.Test.YtigpiogljfedpaaEp
import Derived.Test.YtigpiogljfedpaaRows
import Derived.Test.YtigpiogljfedpaaGValidDrops
set_option linter.unusedSectionVars false
set_option linter.unusedVariables false
set_option linter.unusedSimpArgs false
noncomputable section
namespace Go.Proofs.Ytigpiogljfedpaa.fnExactTimesInTins
open Go Go.ChangeShapes Go.WideShapes Go.ChangeAt Go.RowKit Go.Deep Ev Sx

def ak : List AK := [.row (List.replicate 6 (.i .i16))]
def ps : List Par := [.one (.n .i64), .one (.n .i64)]
abbrev xs (x0 : (Nat → Int)) : List Value := [.agg (cellsK (List.replicate 6 (.i .i16)) 0 x0).toArray]
abbrev ans (y0 : Int) (y1 : Int) : Value := .tuple #[.int .i64 y0, .int .i64 y1]
def us : List Nat := [32, 80, 59, 78, 66, 98, 72, 119]
def usF : List Nat := [32, 80, 59, 78, 66, 22]
def ds : List Nat := [98, 60, 61]
def usG : List Nat := [33, 80, 130, 85, 66, 22, 196]
def usE : List Nat := [33, 80, 130, 85, 66, 196]
def usC : List Nat := [33, 130]
def gs : List Nat := [79]
def bs : List Bx := [.sh, .arg 0, .no, .no, .lit [.int .i64 0], .lit [.int .i64 0]]
def A : List Value := [.pointer (some ⟨0, 0, none⟩), .pointer (some ⟨1, 0, none⟩)]
def AS : List SV := [.ptr 0 0, .ptr 1 0]
def clL (l : Nat) (ts xs : List Value) (V : Value) : List (Nat × ConT) := [(80, clCon A (bs.map (Bx.v l ts xs)) V)]
def lawL (l : Nat) (cs ts : List Value) (z : Int) (x0 : (Nat → Int)) (y0 : Int) (y1 : Int) : List (Nat × ConT) := [(32, ansX l cs ts (xs x0) (ans y0 y1)), (33, ansX l cs ts (xs x0) (ans y0 y1)), (15, szZ l cs ts z), (17, ansTo l cs ts), (19, ansEq l cs ts), (21, plCon [.agg (cellsK (List.replicate 6 (.i .i16)) 0 x0).toArray] (.agg (cellsK (List.replicate 6 (.i .i16)) 0 x0).toArray))]
noncomputable def lawC : Code := (Try.f8.body.getD .skip)
theorem sF (base l : Nat) (v : Value) (cs : List Value) (t0 t1 t2 t3 t4 t5 : Int) (x0 : (Nat → Int)) : ∃ h', (@funD (frnOf base (tk1 v l cs) (conW ds l (tins t0 t1 t2 t3 t4 t5) false)) Try.prog noOrc noOrc usF 100 12 32 (shelf (tok 0 l 0) (tins t0 t1 t2 t3 t4 t5) :: xs x0) []) = some (ans (0) (1), h', true) :=
  of_era (show (@funD (frnOf base (tk1 v l cs) (conW ds l (tins t0 t1 t2 t3 t4 t5) false)) Try.prog noOrc noOrc usF 100 12 32 (shelf (tok 0 l 0) (tins t0 t1 t2 t3 t4 t5) :: xs x0) []).map eraseH = some (ans (0) (1), [], ((isB ([(Value.slice (some ⟨0, 0, (some 0)⟩) l 0), (Value.int .i32 t0), (Value.int .i32 t1), (Value.int .i32 t2), (Value.int .i32 t3), (Value.int .i32 t4), (Value.int .i32 t5)] = [(Value.slice (some ⟨0, 0, (some 0)⟩) l 0), (Value.int .i32 t0), (Value.int .i32 t1), (Value.int .i32 t2), (Value.int .i32 t3), (Value.int .i32 t4), (Value.int .i32 t5)]) && true) && true)) by kernel_rfl) (by simp [isB_true])
theorem iF (base l : Nat) (v : Value) (cs : List Value) (t0 t1 t2 t3 t4 t5 : Int) (x0 : (Nat → Int)) : ∃ h', (@funG (frnOf base (tk1 v l cs) (conW ds l (tins t0 t1 t2 t3 t4 t5) false)) Try.prog noOrc noOrc usG gs 100 30 12 33 (shelf (tok 0 l 0) (tins t0 t1 t2 t3 t4 t5) :: xs x0) []) = some (.val (ans (0) (1)), h', true) :=
  of_erx (show (@funG (frnOf base (tk1 v l cs) (conW ds l (tins t0 t1 t2 t3 t4 t5) false)) Try.prog noOrc noOrc usG gs 100 30 12 33 (shelf (tok 0 l 0) (tins t0 t1 t2 t3 t4 t5) :: xs x0) []).map eraseX = some (.val (ans (0) (1)), [], (((((isB ((l = l) ∧ ([(Value.int .i32 t0), (Value.int .i32 t1), (Value.int .i32 t2), (Value.int .i32 t3), (Value.int .i32 t4), (Value.int .i32 t5)] = [(Value.int .i32 t0), (Value.int .i32 t1), (Value.int .i32 t2), (Value.int .i32 t3), (Value.int .i32 t4), (Value.int .i32 t5)])) && true) && true) && true) && true) && true)) by kernel_rfl) (by simp [isB_true])
theorem cF (base l : Nat) (v : Value) (cs : List Value) (t0 t1 t2 t3 t4 t5 : Int) (x0 : (Nat → Int)) (y0 : Int) (y1 : Int) : ∃ h', (@funG (frnOf base (tk1 v l cs) (seekC (clL l (tins t0 t1 t2 t3 t4 t5) (xs x0) (ans y0 y1)))) Try.prog noOrc noOrc usC gs 100 30 12 33 (shelf (tok 0 l 0) (tins t0 t1 t2 t3 t4 t5) :: xs x0) []) = some (.val (ans y0 y1), h', true) :=
  of_erx (show (@funG (frnOf base (tk1 v l cs) (seekC (clL l (tins t0 t1 t2 t3 t4 t5) (xs x0) (ans y0 y1)))) Try.prog noOrc noOrc usC gs 100 30 12 33 (shelf (tok 0 l 0) (tins t0 t1 t2 t3 t4 t5) :: xs x0) []).map eraseX = some (.val (ans y0 y1), [], ((isB (([(Value.pointer (some ⟨0, 0, none⟩)), (Value.pointer (some ⟨1, 0, none⟩))] = [(Value.pointer (some ⟨0, 0, none⟩)), (Value.pointer (some ⟨1, 0, none⟩))]) ∧ ([(some [(Value.slice (some ⟨0, 0, (some 0)⟩) l 0), (Value.int .i32 t0), (Value.int .i32 t1), (Value.int .i32 t2), (Value.int .i32 t3), (Value.int .i32 t4), (Value.int .i32 t5)]), (some [(Value.int .i16 (x0 0)), (Value.int .i16 (x0 1)), (Value.int .i16 (x0 2)), (Value.int .i16 (x0 3)), (Value.int .i16 (x0 4)), (Value.int .i16 (x0 5))]), none, none, (some [(Value.int .i64 0)]), (some [(Value.int .i64 0)])] = [(some [(Value.slice (some ⟨0, 0, (some 0)⟩) l 0), (Value.int .i32 t0), (Value.int .i32 t1), (Value.int .i32 t2), (Value.int .i32 t3), (Value.int .i32 t4), (Value.int .i32 t5)]), (some [(Value.int .i16 (x0 0)), (Value.int .i16 (x0 1)), (Value.int .i16 (x0 2)), (Value.int .i16 (x0 3)), (Value.int .i16 (x0 4)), (Value.int .i16 (x0 5))]), none, none, (some [(Value.int .i64 0)]), (some [(Value.int .i64 0)])])) && true) && true)) by kernel_rfl) (by simp [isB_true])
theorem dF (base l : Nat) (v : Value) (cs : List Value) (t0 t1 t2 t3 t4 t5 : Int) (x0 : (Nat → Int)) : ∃ h', (@funG (frnOf base (tk1 v l cs) (conX3 l (tins t0 t1 t2 t3 t4 t5) true [(22, [.agg (cellsK (List.replicate 6 (.i .i16)) 0 x0).toArray], .bool false)])) Try.prog noOrc noOrc usE gs 100 30 12 33 (shelf (tok 0 l 0) (tins t0 t1 t2 t3 t4 t5) :: xs x0) []) = some (.val (ans (0) (1)), h', true) :=
  of_erx (show (@funG (frnOf base (tk1 v l cs) (conX3 l (tins t0 t1 t2 t3 t4 t5) true [(22, [.agg (cellsK (List.replicate 6 (.i .i16)) 0 x0).toArray], .bool false)])) Try.prog noOrc noOrc usE gs 100 30 12 33 (shelf (tok 0 l 0) (tins t0 t1 t2 t3 t4 t5) :: xs x0) []).map eraseX = some (.val (ans (0) (1)), [], ((((isB ((l = l) ∧ (([(Value.int .i32 t0), (Value.int .i32 t1), (Value.int .i32 t2), (Value.int .i32 t3), (Value.int .i32 t4), (Value.int .i32 t5)] = [(Value.int .i32 t0), (Value.int .i32 t1), (Value.int .i32 t2), (Value.int .i32 t3), (Value.int .i32 t4), (Value.int .i32 t5)]) ∧ ([(Value.agg #[(Value.int .i16 (x0 0)), (Value.int .i16 (x0 1)), (Value.int .i16 (x0 2)), (Value.int .i16 (x0 3)), (Value.int .i16 (x0 4)), (Value.int .i16 (x0 5))])] = [(Value.agg #[(Value.int .i16 (x0 0)), (Value.int .i16 (x0 1)), (Value.int .i16 (x0 2)), (Value.int .i16 (x0 3)), (Value.int .i16 (x0 4)), (Value.int .i16 (x0 5))])]))) && true) && true) && true) && true)) by kernel_rfl) (by simp [isB_true])
theorem xsB (x0 : (Nat → Int)) : (xs x0).all bareP = true := by kernel_rfl
theorem ansB (y0 : Int) (y1 : Int) : bareP (ans y0 y1) = true := by kernel_rfl
def cds (b : Bool) (n : Nat) : List (Job × Bool) := [(⟨20, .agg (gSh ak n) :: (gArgs ak n).take 1, []⟩, b)]
def kn (n : Nat) : List KnS := [(22, (gArgs ak n).take 1, .lit (.bool true))]
def spl (n : Nat) : SV := match gArgs ak n with
  | .agg l :: _ => l.getD (n - 1) (.lit undef)
  | _ => .lit undef
def fsN (b : Bool) (n : Nat) : List Fact := match n with
  | 6 => [(spl 6, 1, b)]
  | _ => []
theorem fact_any {g : Nat → Vl} {x : SV} {c : Int} : factsH g [(x, c, decide (factV (conc g x) < c))] := ⟨by cases decide (factV (conc g x) < c) <;> rfl, trivial⟩
theorem fs_any {g : Nat → Vl} {n : Nat} : factsH g (fsN (decide (factV (conc g (spl 6)) < 1)) n) := by
  unfold fsN
  split
  · exact fact_any
  · trivial
def go (b : Bool) (n : Nat) : Bool := g3 ak [] symV fnExactValidDrops.us 300 30 (cds true n) [] symV us 300 30 (fsN b n) (kn n) ⟨32, .agg (gSh ak n) :: gArgs ak n, []⟩ ⟨80, AS, bs.map (Bx.s ak n)⟩ ps n
def no (n : Nat) : Bool := g3s ak [] symV fnExactValidDrops.us 300 30 (cds false n) [] symV us 300 30 [] [] ⟨32, .agg (gSh ak n) :: gArgs ak n, []⟩ (.tuple [.lit (.int .i64 (0)), .lit (.int .i64 (1))]) n
end Go.Proofs.Ytigpiogljfedpaa.fnExactTimesInTins
end
