/-
  The thickness that hides enough: where the model and the program lead, over contracts. No condition.
-/
import Derived.Test.YtfgomdngffaffaaC
import Derived.Test.YtfgomdngffaffaaEt
import Derived.Test.YtfgomdngffaffaaSz
set_option linter.unusedSectionVars false
set_option linter.unusedVariables false
noncomputable section
namespace Go.Proofs.Ytfgomdngffaffaa
namespace Hb
open Go Go.ChangeShapes Go.WideShapes Go.ChangeAt Go.RowKit Ev Sx

abbrev ConF := List Value → Heap → Option (Value × List (List Value) × Bool)
def isB (p : Prop) : Bool := @decide p (Classical.propDecidable p)
/-- what is told of the functions that are called: amounts, contrasts (number and code), and the heap at which the model asks for one -/
structure Told where
  am : List Value → Bool
  cF : List Value → Nat
  cI : List Value → Int
  kX : Heap → List Value → Prop
abbrev J := Nat → Value × Bool
def up (j : J) (i : Nat) (p : Value × Bool) : J := fun m => bif Nat.beq m i then p else j m
def S (n : Nat) (j : J) (h : Heap) (ok : Bool) : St := ⟨(List.range n).map j, h, ok⟩
def vI (z : Int) : Value × Bool := (.int .i64 z, true)
def vB (b : Bool) : Value × Bool := (.bool b, true)
def vF (x : Nat) : Value × Bool := (.float .f32 x, true)
def vP (n : Nat) : Value × Bool := (.pointer (some ⟨n, 0, none⟩), true)
def j0 : J := fun _ => (undef, false)
def see (sl : List Nat) (s : St) : Nat × Heap × Bool × List (Value × Bool) := (s.tmps.length, s.heap, s.ok, sl.map fun i => s.tmps.getD i (undef, false))
def row16 (f : Nat → Nat) : List Value := (List.range 16).map fun j => .float .f32 (f j)
def row33 (k s : Nat → Nat) (t : Nat) : List Value := (List.range 33).map fun j => .float .f32 (bif Nat.blt j 16 then k j else bif Nat.blt j 32 then s (j - 16) else t)
def tN (n : Nat) : Nat := fdiv .f32 (FloatKind.f32.nearest (n : Int)) 1090519040
variable (T : Told)
def amO : Sig
  | [.agg cs] => some (.bool (T.am cs.toList), fitL (List.replicate 16 (Ty.f .f32)) cs.toList)
  | _ => none
def wiO : Sig
  | [.float .f32 a, .float .f32 b, .float .f32 c] => some (.bool (fge .f32 a b && fle .f32 a c), true)
  | _ => none
def ctO : Sig
  | [.agg cs] => some (.tuple #[.float .f32 (T.cF cs.toList), .int .i64 (T.cI cs.toList)], fitL (List.replicate 33 (Ty.f .f32)) cs.toList)
  | _ => none
def conM : ConF := fun args h => match args with
  | [.pointer (some ⟨b, 0, none⟩)] => bif Nat.beq b 10 then (match h.getD 10 none with
    | some r => some (.tuple #[.float .f32 (T.cF r), .int .i64 (T.cI r)], [], isB (T.kX h r))
    | none => none) else none
  | _ => none
def conT (f : FuncId) : Option ConF := bif Nat.beq f 26 then some (conM T) else none
def orcT : List (Nat × Sig) := [(31, amO T), (32, amO T), (33, wiO), (10, ctO T)]
abbrev iT (base : Nat) : Frn := frnOf base [] (conT T)
abbrev ET (base : Nat) : Env := ⟨Try.prog, fun f => seek f [], @funD (iT T base) Try.prog (fun f => seek f []) (fun f => seek f (orcT T)) [] 40 5, false, false⟩
/-! ### the model -/
noncomputable def mC : Code := (Try.f12.body.getD .skip)
noncomputable def pC : Code := (Try.f14.body.getD .skip)
noncomputable def q0 (c : Code) : Code := sa c
noncomputable def q1 (c : Code) : Code := sa (sa (sb c))
noncomputable def q1c (c : Code) : Code := sb (sa (sb c))
noncomputable def q3 (c : Code) : Code := sa (sa (sb (sb c)))
noncomputable def q3c (c : Code) : Code := sb (sa (sb (sb c)))
noncomputable def q5 (c : Code) : Code := sa (sa (sb (sb (sb c))))
noncomputable def qL (c : Code) : Code := inn (inn (sb (sa (sb (sb (sb c))))))
noncomputable def q16 (c : Code) : Code := sa (sb (sb (sb (sb c))))
noncomputable def q6 (c : Code) : Code := sa (sa (qL c))
noncomputable def q6c (c : Code) : Code := sb (sa (qL c))
noncomputable def qI (c : Code) : Code := inn (sa (sb (qL c)))
noncomputable def q7 (c : Code) : Code := sb (sb (qL c))
noncomputable def q8 (c : Code) : Code := sa (qI c)
noncomputable def q9 (c : Code) : Code := sa (sb (qI c))
noncomputable def m10 : Code := sa (sa (sb (sb (qI mC))))
noncomputable def m10c : Code := sb (sa (sb (sb (qI mC))))
noncomputable def m12 : Code := sa (sa (sb (sb (sb (qI mC)))))
noncomputable def m12c : Code := sb (sa (sb (sb (sb (qI mC)))))
noncomputable def m14 : Code := sa (sb (sb (sb (sb (qI mC)))))
noncomputable def m14c : Code := sb (sb (sb (sb (sb (qI mC)))))
noncomputable def pD : Code := inn (sb (sb (qI pC)))
noncomputable def p10 : Code := sa pD
noncomputable def p10c : Code := sb pD
noncomputable def p12 : Code := sa (cb p10c)
noncomputable def p12c : Code := sb (cb p10c)
noncomputable def p14 : Code := sa (cb p12c)
noncomputable def p14c : Code := sb (cb p12c)
noncomputable def mIn : Code := .seq (q8 mC) (.seq (q9 mC) (.seq (.seq m10 (.cond (cx m10c) (.seq (sa (ca m10c)) .ret) .skip)) (.seq (.seq m12 (.cond (cx m12c) (.seq (sa (ca m12c)) .ret) .skip)) (.seq m14 (.cond (cx m14c) (.seq (sa (ca m14c)) .ret) .skip)))))
noncomputable def mBody : Code := .seq (.seq (q6 mC) (.cond (cx (q6c mC)) .skip (.exit 0))) (.seq (.block 1 mIn) (q7 mC))
theorem m_shape : mC = .seq (q0 mC) (.seq (.seq (q1 mC) (.cond (cx (q1c mC)) (.seq (sa (ca (q1c mC))) .ret) .skip)) (.seq (.seq (q3 mC) (.cond (cx (q3c mC)) (.seq (sa (ca (q3c mC))) .ret) .skip)) (.seq (.seq (q5 mC) (.block 0 (.loop mBody))) (.seq (q16 mC) .ret)))) := by kernel_rfl
noncomputable def pIn : Code := .seq (q8 pC) (.seq (q9 pC) (.block 2 (.seq p10 (.cond (cx p10c) (.seq (sa (ca p10c)) .ret) (.seq p12 (.cond (cx p12c) (.seq (sa (ca p12c)) .ret) (.seq p14 (.cond (cx p14c) (.seq (sa (ca p14c)) .ret) .skip))))))))
noncomputable def pBody : Code := .seq (.seq (q6 pC) (.cond (cx (q6c pC)) .skip (.exit 0))) (.seq (.block 1 pIn) (q7 pC))
theorem p_shape : pC = .seq (q0 pC) (.seq (.seq (q1 pC) (.cond (cx (q1c pC)) (.seq (sa (ca (q1c pC))) .ret) .skip)) (.seq (.seq (q3 pC) (.cond (cx (q3c pC)) (.seq (sa (ca (q3c pC))) .ret) .skip)) (.seq (.seq (q5 pC) (.block 0 (.loop pBody))) (.seq (q16 pC) .ret)))) := by kernel_rfl
section
variable (k s : Nat → Nat) (q t : Nat)
def Hd : Heap := [some (row16 k), some (row16 s), none, none]
def HX : Heap := [some (row16 k), some (row16 s), none, none, none, none, none, none, none, none, some (row33 k s t), none]
def vA (r : List Value) : Value × Bool := (.agg r.toArray, true)
def bJ (j : J) : J := up (up (up j 2 (vF q)) 3 (vP 0)) 4 (vP 1)
def nJ (n : Int) (j : J) : J := up (bJ q j) 8 (vI n)
def xJ (n : Int) (j : J) : J := up (nJ q n j) 9 (vP 10)
def yJ (n : Int) (t : Nat) (j : J) : J := up (nJ q n j) 9 (vF t)
end
def FA (a : Bool) : Bool := (((!a) || (decide ((!a) = false) && true)) && true) && (((decide ((!a) = false) && true) || (!decide ((!a) = false))) && (((((decide ((!a) = false) && true) && true) && true) || (!decide ((!a) = false))) && true))
def FW (c : Bool) : Bool := (((bif c then (decide (c = true) && true) else true) && true) && ((((decide (c = true) && true) && true) || (!decide (c = true))) && true))
theorem FA_true (a : Bool) : FA a = true := by cases a <;> rfl
theorem FW_true (a : Bool) : FW a = true := by cases a <;> rfl
def FC (n : Nat) : Bool := (!(isN .f32 (FloatKind.f32.nearest (n : Int))) || Nat.beq (FloatKind.f32.nearest (n : Int)) (qn .f32)) && true
theorem FC_true (n : Nat) : FC n = true := by
  unfold FC
  rw [show isN .f32 (FloatKind.f32.nearest (n : Int)) = false from write_cn .f32 (d := .number ((n : Int) < 0) (n : Int).natAbs 0) rfl]; rfl
def inW (q : Nat) : Bool := fge .f32 q 0 && fle .f32 q 1065353216
def ansV (x : Nat) (c : Int) : Value := .tuple #[.float .f32 x, .int .i64 c]
def resJ (x : Nat) (c : Int) (j : J) : J := up (up j 6 (vF x)) 7 (vI c)
section
variable (base : Nat) (k s : Nat → Nat) (q t n x : Nat) (c : Int) (j : J) (b : Bool) (h : Heap)
theorem m_start : startS Try.f12 [.agg (row16 k).toArray, .agg (row16 s).toArray, .float .f32 q] [] = S 51 (up (up (up j0 0 (vA (row16 k))) 1 (vA (row16 s))) 2 (vF q)) [] true := by kernel_rfl
theorem m_r0 : @regionOf (iT T base) (ET T base) (q0 mC) (S 51 (up (up (up j0 0 (vA (row16 k))) 1 (vA (row16 s))) 2 (vF q)) [] true) = some (S 51 (bJ q (up (up (up (up j0 0 (vA (row16 k))) 1 (vA (row16 s))) 6 (vF 0)) 7 (vI 0))) (Hd k s) true) := by kernel_rfl
theorem m_x1 : evl (S 51 (bJ q (up j 19 (vB b))) (Hd k s) true).tmps (cx (q1c mC)) = vB b := by kernel_rfl
theorem m_r2 : @regionOf (iT T base) (ET T base) (sa (ca (q1c mC))) (S 51 j h true) = some (S 51 (resJ 0 1 j) h true) := by kernel_rfl
theorem m_x3 : evl (S 51 (bJ q (up j 26 (vB b))) (Hd k s) true).tmps (cx (q3c mC)) = vB b := by kernel_rfl
theorem m_r4 : @regionOf (iT T base) (ET T base) (sa (ca (q3c mC))) (S 51 j h true) = some (S 51 (resJ 0 2 j) h true) := by kernel_rfl
theorem m_r5 : @regionOf (iT T base) (ET T base) (q5 mC) (S 51 (bJ q j) (Hd k s) true) = some (S 51 (nJ q ((1 : Nat) : Int) j) (Hd k s) true) := by kernel_rfl
theorem m_r6 : @regionOf (iT T base) (ET T base) (q6 mC) (S 51 (nJ q n j) (Hd k s) true) = some (S 51 (nJ q n (up (up j 27 (vI n)) 28 (vB (decide ((n : Int) ≤ 256))))) (Hd k s) true) := by kernel_rfl
theorem m_x6 : evl (S 51 (nJ q n (up j 28 (vB b))) (Hd k s) true).tmps (cx (q6c mC)) = vB b := by kernel_rfl
theorem m_r8 : @regionOf (iT T base) (ET T base) (q8 mC) (S 51 (nJ q n j) (Hd k s) true) = some (S 51 (xJ q n (up (up (up (up (up (up j 31 (vA (row16 k))) 32 (vA (row16 s))) 33 (vI n)) 34 (vF (FloatKind.f32.nearest (n : Int)))) 35 (vF (tN n))) 36 (vA (row33 k s (tN n))))) (HX k s (tN n)) (FC n)) := by kernel_rfl
theorem m_r9 : @regionOf (iT T base) (ET T base) (q9 mC) (S 51 (xJ q n j) (HX k s t) true) =
    some (S 51 (up (up (xJ q n (up (up (up (up j 38 (ansV (T.cF (row33 k s t)) (T.cI (row33 k s t)), true)) 37 (ansV (T.cF (row33 k s t)) (T.cI (row33 k s t)), true)) 39 (vF (T.cF (row33 k s t)))) 40 (vI (T.cI (row33 k s t))))) 10 (vF (T.cF (row33 k s t)))) 11 (vI (T.cI (row33 k s t)))) (HX k s t) (isB (T.kX (HX k s t) (row33 k s t)) && true)) := by kernel_rfl
def m9J (q : Nat) (n : Int) (x : Nat) (c : Int) (j : J) : J := up (up (xJ q n j) 10 (vF x)) 11 (vI c)
theorem m_r10 : @regionOf (iT T base) (ET T base) m10 (S 51 (m9J q n x c j) (HX k s t) true) = some (S 51 (m9J q n x c (up (up j 41 (vI c)) 42 (vB (decide (c = 3))))) (HX k s t) true) := by kernel_rfl
theorem m_x10 : evl (S 51 (m9J q n x c (up j 42 (vB b))) (HX k s t) true).tmps (cx m10c) = vB b := by kernel_rfl
theorem m_r11 : @regionOf (iT T base) (ET T base) (sa (ca m10c)) (S 51 j h true) = some (S 51 (resJ 0 6 j) h true) := by kernel_rfl
theorem m_r12 : (@regionOf (iT T base) (ET T base) m12 (S 51 (m9J q n x c j) (HX k s t) true)) = some (S 51 (m9J q n x c (up (up j 43 (vI c)) 44 (vB (!(decide (c = 0)))))) (HX k s t) true) := by kernel_rfl
theorem m_x12 : evl (S 51 (m9J q n x c (up j 44 (vB b))) (HX k s t) true).tmps (cx m12c) = vB b := by kernel_rfl
theorem m_r13 : @regionOf (iT T base) (ET T base) (sa (ca m12c)) (S 51 (m9J q n x c j) (HX k s t) true) = some (S 51 (resJ 0 c (m9J q n x c (up j 45 (vI c)))) (HX k s t) true) := by kernel_rfl
theorem m_r14 : @regionOf (iT T base) (ET T base) m14 (S 51 (m9J q n x c j) (HX k s t) true) = some (S 51 (m9J q n x c (up (up (up j 46 (vF x)) 47 (vF q)) 48 (vB (fle .f32 x q)))) (HX k s t) true) := by kernel_rfl
theorem m_x14 : evl (S 51 (m9J q n x c (up j 48 (vB b))) (HX k s t) true).tmps (cx m14c) = vB b := by kernel_rfl
theorem m_r15 : @regionOf (iT T base) (ET T base) (sa (ca m14c)) (S 51 (m9J q n x c j) (HX k s t) true) = some (S 51 (resJ t 0 (m9J q n x c (up (up j 49 (.pointer (some ⟨10, 32, none⟩), true)) 50 (vF t)))) (HX k s t) true) := by kernel_rfl
theorem m_r7 : @regionOf (iT T base) (ET T base) (q7 mC) (S 51 (m9J q n x c j) (HX k s t) true) = some (S 51 (m9J q (IntKind.i64.wrap ((n : Int) + 1)) x c (up (up j 29 (vI n)) 30 (vI (IntKind.i64.wrap ((n : Int) + 1))))) (HX k s t) true) := by kernel_rfl
theorem m_r16 : @regionOf (iT T base) (ET T base) (q16 mC) (S 51 j h true) = some (S 51 (resJ 0 6 j) h true) := by kernel_rfl
theorem m_end : @finK (iT T base) Try.prog Try.f12 .ret (S 51 (resJ x c j) h true) = some (ansV x c, h, true) := by kernel_rfl
theorem p_start : startS Try.f14 [.agg (row16 k).toArray, .agg (row16 s).toArray, .float .f32 q] [] = S 50 (up (up (up j0 0 (vA (row16 k))) 1 (vA (row16 s))) 2 (vF q)) [] true := by kernel_rfl
theorem p_r0 : @regionOf (iT T base) (ET T base) (q0 pC) (S 50 (up (up (up j0 0 (vA (row16 k))) 1 (vA (row16 s))) 2 (vF q)) [] true) = some (S 50 (bJ q (up (up (up (up j0 0 (vA (row16 k))) 1 (vA (row16 s))) 6 (vF 0)) 7 (vI 0))) (Hd k s) true) := by kernel_rfl
theorem p_r1 : (@regionOf (iT T base) (ET T base) (q1 pC) (S 50 (bJ q j) (Hd k s) true)).map (see [2, 3, 4, 19]) = some (50, Hd k s, FA (T.am (row16 k)), [vF q, vP 0, vP 1, vB (!(T.am (row16 k)) || !(T.am (row16 s)))]) := by kernel_rfl
theorem p_x1 : evl (S 50 (bJ q (up j 19 (vB b))) (Hd k s) true).tmps (cx (q1c pC)) = vB b := by kernel_rfl
theorem p_r2 : @regionOf (iT T base) (ET T base) (sa (ca (q1c pC))) (S 50 j h true) = some (S 50 (resJ 0 1 j) h true) := by kernel_rfl
theorem p_r3 : (@regionOf (iT T base) (ET T base) (q3 pC) (S 50 (bJ q j) (Hd k s) true)).map (see [2, 3, 4, 22]) = some (50, Hd k s, true, [vF q, vP 0, vP 1, vB (!(inW q))]) := by kernel_rfl
theorem p_x3 : evl (S 50 (bJ q (up j 22 (vB b))) (Hd k s) true).tmps (cx (q3c pC)) = vB b := by kernel_rfl
theorem p_r4 : @regionOf (iT T base) (ET T base) (sa (ca (q3c pC))) (S 50 j h true) = some (S 50 (resJ 0 2 j) h true) := by kernel_rfl
theorem p_r5 : @regionOf (iT T base) (ET T base) (q5 pC) (S 50 (bJ q j) (Hd k s) true) = some (S 50 (nJ q ((1 : Nat) : Int) j) (Hd k s) true) := by kernel_rfl
theorem p_r6 : @regionOf (iT T base) (ET T base) (q6 pC) (S 50 (nJ q n j) (Hd k s) true) = some (S 50 (nJ q n (up (up j 23 (vI n)) 24 (vB (decide ((n : Int) ≤ 256))))) (Hd k s) true) := by kernel_rfl
theorem p_x6 : evl (S 50 (nJ q n (up j 24 (vB b))) (Hd k s) true).tmps (cx (q6c pC)) = vB b := by kernel_rfl
theorem p_r8 : @regionOf (iT T base) (ET T base) (q8 pC) (S 50 (nJ q n j) (Hd k s) true) = some (S 50 (yJ q n (tN n) (up (up (up j 27 (vI n)) 28 (vF (FloatKind.f32.nearest (n : Int)))) 29 (vF (tN n)))) (Hd k s) (FC n)) := by kernel_rfl
def p9J (q : Nat) (n : Int) (t x : Nat) (c : Int) (j : J) : J := up (up (yJ q n t j) 10 (vF x)) 11 (vI c)
theorem p_r9 : (@regionOf (iT T base) (ET T base) (q9 pC) (S 50 (yJ q n t j) (Hd k s) true)).map (see [2, 3, 4, 8, 9, 10, 11]) = some (50, Hd k s, true, [vF q, vP 0, vP 1, vI n, vF t, vF (T.cF (row33 k s t)), vI (T.cI (row33 k s t))]) := by kernel_rfl
theorem p_r10 : @regionOf (iT T base) (ET T base) p10 (S 50 (p9J q n t x c j) (Hd k s) true) = some (S 50 (p9J q n t x c (up (up (up j 39 (vI c)) 40 (vB (decide (c = 3)))) 38 (vB (decide (c = 3))))) (Hd k s) true) := by kernel_rfl
theorem p_x10 : evl (S 50 (p9J q n t x c (up j 38 (vB b))) (Hd k s) true).tmps (cx p10c) = vB b := by kernel_rfl
theorem p_r11 : @regionOf (iT T base) (ET T base) (sa (ca p10c)) (S 50 j h true) = some (S 50 (resJ 0 6 j) h true) := by kernel_rfl
theorem p_r12 : @regionOf (iT T base) (ET T base) p12 (S 50 (p9J q n t x c j) (Hd k s) true) = some (S 50 (p9J q n t x c (up (up (up j 42 (vI c)) 43 (vB (!(decide (c = 0))))) 41 (vB (!(decide (c = 0)))))) (Hd k s) true) := by kernel_rfl
theorem p_x12 : evl (S 50 (p9J q n t x c (up j 41 (vB b))) (Hd k s) true).tmps (cx p12c) = vB b := by kernel_rfl
theorem p_r13 : @regionOf (iT T base) (ET T base) (sa (ca p12c)) (S 50 (p9J q n t x c j) (Hd k s) true) = some (S 50 (resJ 0 c (p9J q n t x c (up j 44 (vI c)))) (Hd k s) true) := by kernel_rfl
theorem p_r14 : @regionOf (iT T base) (ET T base) p14 (S 50 (p9J q n t x c j) (Hd k s) true) = some (S 50 (p9J q n t x c (up (up (up (up j 46 (vF x)) 47 (vF q)) 48 (vB (fle .f32 x q))) 45 (vB (fle .f32 x q)))) (Hd k s) true) := by kernel_rfl
theorem p_x14 : evl (S 50 (p9J q n t x c (up j 45 (vB b))) (Hd k s) true).tmps (cx p14c) = vB b := by kernel_rfl
theorem p_r15 : @regionOf (iT T base) (ET T base) (sa (ca p14c)) (S 50 (p9J q n t x c j) (Hd k s) true) = some (S 50 (resJ t 0 (p9J q n t x c (up j 49 (vF t)))) (Hd k s) true) := by kernel_rfl
theorem p_r7 : @regionOf (iT T base) (ET T base) (q7 pC) (S 50 (p9J q n t x c j) (Hd k s) true) = some (S 50 (p9J q (IntKind.i64.wrap ((n : Int) + 1)) t x c (up (up j 25 (vI n)) 26 (vI (IntKind.i64.wrap ((n : Int) + 1))))) (Hd k s) true) := by kernel_rfl
theorem p_r16 : @regionOf (iT T base) (ET T base) (q16 pC) (S 50 j h true) = some (S 50 (resJ 0 6 j) h true) := by kernel_rfl
theorem p_end : @finK (iT T base) Try.prog Try.f14 .ret (S 50 (resJ x c j) h true) = some (ansV x c, h, true) := by kernel_rfl
end
end Hb
end Go.Proofs.Ytfgomdngffaffaa
end
