/-
  Sorks that are the same: states and regions of the functions that tell it, over contracts. No condition.
-/
import Derived.Test.YteelhhdadcdclaaWi
set_option linter.unusedSectionVars false
set_option linter.unusedVariables false
noncomputable section
namespace Go.Proofs.Yteelhhdadcdclaa
namespace Zb
open Go Go.ChangeShapes Go.WideShapes Go.ChangeAt Go.RowKit Ev
abbrev J := Nat → Value × Bool
def up (j : J) (i : Nat) (p : Value × Bool) : J := fun m => bif Nat.beq m i then p else j m
def S (n : Nat) (j : J) (h : Heap) (ok : Bool) : St := ⟨(List.range n).map j, h, ok⟩
def vI (z : Int) : Value × Bool := (.int .i64 z, true)
def vB (b : Bool) : Value × Bool := (.bool b, true)
def vP (n : Nat) : Value × Bool := (.pointer (some ⟨n, 0, none⟩), true)
noncomputable def vR (k n : Nat) : Value × Bool := (.pointer (some ⟨k, n, some 0⟩), true)
noncomputable def vT (k l c : Nat) : Value × Bool := (tok k l c, true)
def vA (r : List Value) : Value × Bool := (.agg r.toArray, true)
noncomputable def fV : Value × Bool := (.func (.func 22) #[] #[], true)
def j0 : J := fun _ => (undef, false)
def see (sl : List Nat) (s : St) : Nat × Heap × Bool × List (Value × Bool) := (s.tmps.length, s.heap, s.ok, sl.map fun i => s.tmps.getD i (undef, false))
/-- what is told: curves and pigments that are the same -/
structure Told where
  sp : List Value → List Value → Bool
variable (T : Told)
def spO : Sig
  | [.agg xs, .agg ys] => some (.bool (T.sp xs.toList ys.toList), shapeB batK xs.toList && shapeB batK ys.toList)
  | _ => none
def orcZ : List (Nat × Sig) := [(22, spO T)]
abbrev EZ [Frn] : Env := conE Try.prog noOrc (fun f => seek f (orcZ T))
noncomputable def eC : Code := (Try.f21.body.getD .skip)
noncomputable def e0 : Code := sa eC
noncomputable def e1 : Code := sa (sa (sb eC))
noncomputable def e1c : Code := sb (sa (sb eC))
noncomputable def e3 : Code := sa (sa (sb (sb eC)))
noncomputable def eL : Code := inn (inn (sb (sa (sb (sb eC)))))
noncomputable def e4 : Code := sa eL
noncomputable def e4c : Code := sa (sb eL)
noncomputable def eI : Code := inn (sa (sb (sb eL)))
noncomputable def e5 : Code := sa eI
noncomputable def e6 : Code := sa (sb eI)
noncomputable def e7 : Code := sa (sb (sb eI))
noncomputable def e7c : Code := sb (sb (sb eI))
noncomputable def e9 : Code := sb (sb (sb eL))
noncomputable def e10 : Code := sa (sb (sb (sb eC)))
noncomputable def eBody : Code := .seq e4 (.seq (.cond (cx e4c) .skip (.exit 0)) (.seq (.block 1 (.seq e5 (.seq e6 (.seq e7 (.cond (cx e7c) (.seq (sa (ca e7c)) .ret) .skip))))) e9))
theorem e_shape : eC = .seq e0 (.seq (.seq e1 (.cond (cx e1c) (.seq (sa (ca e1c)) .ret) .skip)) (.seq (.seq e3 (.block 0 (.loop eBody))) (.seq e10 .ret))) := by kernel_rfl
noncomputable def mC : Code := (Try.f20.body.getD .skip)
noncomputable def m0 : Code := sa mC
noncomputable def m1 : Code := sa (sa (sb mC))
noncomputable def m1c : Code := sb (sa (sb mC))
noncomputable def m3 : Code := sa (sa (sb (sb mC)))
noncomputable def mL : Code := inn (inn (sb (sa (sb (sb mC)))))
noncomputable def m4 : Code := sa (sa mL)
noncomputable def m4c : Code := sb (sa mL)
noncomputable def mI : Code := inn (sa (sb mL))
noncomputable def m8 : Code := sa mI
noncomputable def m8c : Code := sb mI
noncomputable def m5 : Code := sb (sb mL)
noncomputable def m10 : Code := sa (sb (sb (sb mC)))
noncomputable def mBody : Code := .seq (.seq m4 (.cond (cx m4c) .skip (.exit 0))) (.seq (.block 1 (.seq m8 (.cond (cx m8c) (.seq (sa (ca m8c)) .ret) .skip))) m5)
theorem m_shape : mC = .seq m0 (.seq (.seq m1 (.cond (cx m1c) (.seq (sa (ca m1c)) .ret) .skip)) (.seq (.seq m3 (.block 0 (.loop mBody))) (.seq m10 .ret))) := by kernel_rfl
/-- EqualFunc: 0, 1: the lists, 2: the function, 15: the list, 16: its length, 17: the index -/
noncomputable def aJ (l c l2 c2 : Nat) (j : J) : J := up (up (up j 0 (vT 0 l c)) 1 (vT 1 l2 c2)) 2 fV
noncomputable def eJ (l c l2 c2 : Nat) (i : Int) (j : J) : J := up (up (up (aJ l c l2 c2 j) 15 (vT 0 l c)) 16 (vI l)) 17 (vI i)
/-- l03Same: 0, 1: the sorks, 5: the index -/
noncomputable def bJ (j : J) : J := up (up j 0 (vP 0)) 1 (vP 1)
noncomputable def mJ (i : Int) (j : J) : J := up (bJ j) 5 (vI i)
noncomputable def Hm (l c l2 c2 : Nat) (ts us : List Value) : Heap := [some (ts ++ [tok 0 l c]), some (us ++ [tok 1 l2 c2]), none]
end Zb
end Go.Proofs.Yteelhhdadcdclaa
end
