/-
  The thickness that hides enough: the runs, and what is reckoned outright. No condition.
-/
import Derived.Test.YtfgomdngffaffaaCx
import Derived.Test.YtfgomdngffaffaaHd
set_option linter.unusedSectionVars false
set_option linter.unusedVariables false
noncomputable section
namespace Go.Proofs.Ytfgomdngffaffaa
namespace Hb
open Go Go.ChangeShapes Go.WideShapes Go.ChangeAt Go.RowKit Ev Sx
def hS : HeapS := [some ((LSn 33).take 16), some (((LSn 33).drop 16).take 16), none, none, none, none, none, none, none, none, some (LSn 33), none]
def jT : Job := ⟨26, [.ptr 10 0], hS⟩
theorem t_run : @pair3B noSFrn Ct.gC Try.prog symE (symG Try.prog) Fg.us 300 30 [(Fg.cA, true)] [] Ct.symC Ct.usC 300 30 33 [] [] jT Ct.jB qsE = true := by kernel_rfl
def okT (t : Nat) : Bool := fge .f32 t 0 && feq .f32 (fsub .f32 t t) 0
theorem ok_eval (k s : Nat → Nat) (t : Nat) : (@funD noFrn Try.prog Ct.extR Ct.orcR Fg.us 300 30 25 [.pointer (some ⟨0, 0, none⟩)] [some (row33 k s t)]).map (fun r => r.1) = some (.bool ((allO .amount (row16 k) && allO .amount (row16 s)) && okT t)) := by kernel_rfl
theorem tN_all : (List.range 257).all (fun n => okT (tN n)) = true := by kernel_rfl
def FW2 (c : Bool) : Bool := (((bif c then (decide (c = true) && true) else true) && true) && ((((decide (c = true) && true) && (decide (c = true) && true)) || (!decide (c = true))) && true))
theorem FW2_true (a : Bool) : FW2 a = true := by cases a <;> rfl
theorem wi_eval (x a b : Nat) : (@funD noFrn Try.prog (fun f => seek f []) (fun f => seek f []) [33] 40 5 33 [.float .f32 x, .float .f32 a, .float .f32 b] []).map (fun r => (r.1, r.2.2)) = some (.bool (fge .f32 x a && fle .f32 x b), FW2 (fge .f32 x a)) := by kernel_rfl
end Hb
end Go.Proofs.Ytfgomdngffaffaa
end
