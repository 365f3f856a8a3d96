/-
  Sorks that are the same: where each region of the two functions leads, over contracts. No condition.
-/
import Derived.Test.YteelhhdadcdclaaUb
set_option linter.unusedSectionVars false
set_option linter.unusedVariables false
noncomputable section
namespace Go.Proofs.Yteelhhdadcdclaa
namespace Zb
open Go Go.ChangeShapes Go.WideShapes Go.ChangeAt Go.RowKit Ev
def zP : List Value := Value.string ⟨#[]⟩ :: List.replicate 8 (.int .i64 0)
def q5 (r : List Value) (i l : Nat) (row : List Value) : Bool := ((Nat.beq r.length 9 && r.all scalarB && Nat.ble (0 + r.length) 9) && (Nat.ble (i * 9 + 9) row.length && (inB i l && true)))
def H5 (r : List Value) : Heap := [none, none, none, some r, none, none]
def H6 (r r2 : List Value) : Heap := [none, none, none, some r, none, none, none, none, none, none, some r2, none]
def fJ (i : Int) (j : J) : J := up (up j 8 (vP 3)) 7 (vI i)
def gJ (i : Int) (j : J) : J := up (fJ i j) 9 (vP 10)
/-- one batch and one of another list -/
noncomputable def bq (xs ys : List Value) : Bool × Bool := (eqT Try.prog 6 42 (.agg xs.toArray) (.agg ys.toArray)).getD (false, false)
def F1 (a : Bool) : Bool := (((a || (decide (a = false) && true)) && true) && ((((decide (a = false) && true) && (decide (a = false) && true)) || (!decide (a = false))) && (((decide (a = false) && true) || (!decide (a = false))) && ((((decide (a = false) && true) && true) || (!decide (a = false))) && (((decide (a = false) && true) || (!decide (a = false))) && (((decide (a = false) && true) || (!decide (a = false))) && (((decide (a = false) && true) || (!decide (a = false))) && ((((decide (a = false) && true) && true) || (!decide (a = false))) && (((decide (a = false) && true) || (!decide (a = false))) && (((decide (a = false) && true) || (!decide (a = false))) && true))))))))))
theorem F1_true (a : Bool) : F1 a = true := by cases a <;> rfl
section
variable (ι : Frn) (T : Told) (l c l2 c2 i : Nat) (j : J) (h : Heap) (b : Bool) (r r2 : List Value)
theorem e_start : startS Try.f21 [tok 0 l c, tok 1 l2 c2, .func (.func 22) #[] #[]] [] = S 32 (aJ l c l2 c2 j0) [] true := by kernel_rfl
theorem e_r0 : @regionOf ι (@EZ T ι) e0 (S 32 (aJ l c l2 c2 j) [] true) = some (S 32 (aJ l c l2 c2 (up j 6 (vB false))) [] true) := by kernel_rfl
theorem e_r1 : @regionOf ι (@EZ T ι) e1 (S 32 (aJ l c l2 c2 j) [] true) = some (S 32 (aJ l c l2 c2 (up (up (up (up (up j 10 (vT 0 l c)) 11 (vI l)) 12 (vT 1 l2 c2)) 13 (vI l2)) 14 (vB (!(decide ((l : Int) = (l2 : Int))))))) [] true) := by kernel_rfl
theorem e_x1 : evl (S 32 (aJ l c l2 c2 (up j 14 (vB b))) [] true).tmps (cx e1c) = vB b := by kernel_rfl
theorem e_r2 : @regionOf ι (@EZ T ι) (sa (ca e1c)) (S 32 j h true) = some (S 32 (up j 6 (vB false)) h true) := by kernel_rfl
theorem e_r3 : @regionOf ι (@EZ T ι) e3 (S 32 (aJ l c l2 c2 j) [] true) = some (S 32 (eJ l c l2 c2 ((0 : Nat) : Int) j) [] true) := by kernel_rfl
theorem e_r4 : @regionOf ι (@EZ T ι) e4 (S 32 (eJ l c l2 c2 i j) [] true) = some (S 32 (eJ l c l2 c2 i (up j 18 (vB (decide ((i : Int) < (l : Int)))))) [] true) := by kernel_rfl
theorem e_x4 : evl (S 32 (eJ l c l2 c2 i (up j 18 (vB b))) [] true).tmps (cx e4c) = vB b := by kernel_rfl
theorem e_r5 : @regionOf ι (@EZ T ι) e5 (S 32 (eJ l c l2 c2 i j) [] true) = some (S 32 (fJ i (eJ l c l2 c2 i (up (up (up j 19 (vI i)) 20 (vR 0 (i * 9))) 21 (vA (recAt 9 (Frn.row 0) i))))) (H5 (setRow zP 0 (recAt 9 (Frn.row 0) i))) (q5 (recAt 9 (Frn.row 0) i) i l (Frn.row 0))) := by kernel_rfl
theorem e_r6 : @regionOf ι (@EZ T ι) e6 (S 32 (fJ i (eJ l c l2 c2 i j)) (H5 r) true) = some (S 32 (gJ i (eJ l c l2 c2 i (up (up (up (up j 22 (vT 1 l2 c2)) 23 (vI i)) 24 (vR 1 (i * 9))) 25 (vA (recAt 9 (Frn.row 1) i))))) (H6 r (setRow zP 0 (recAt 9 (Frn.row 1) i))) (q5 (recAt 9 (Frn.row 1) i) i l2 (Frn.row 1))) := by kernel_rfl
theorem e_r7 : @regionOf ι (@EZ T ι) e7 (S 32 (gJ i (eJ l c l2 c2 i j)) (H6 r r2) true) = some (S 32 (gJ i (eJ l c l2 c2 i (up (up (up (up (up j 26 fV) 27 (vA (r.take 9))) 28 (vA (r2.take 9))) 29 (vB (T.sp (r.take 9) (r2.take 9)))) 30 (vB (!(T.sp (r.take 9) (r2.take 9))))))) (H6 r r2) (((shapeB batK (r.take 9) && shapeB batK (r2.take 9)) && (Nat.ble 9 r2.length && (Nat.ble 9 r.length && true))))) := by kernel_rfl
theorem e_x7 : evl (S 32 (gJ i (eJ l c l2 c2 i (up j 30 (vB b)))) h true).tmps (cx e7c) = vB b := by kernel_rfl
theorem e_r8 : @regionOf ι (@EZ T ι) (sa (ca e7c)) (S 32 j h true) = some (S 32 (up j 6 (vB false)) h true) := by kernel_rfl
theorem e_r9 : @regionOf ι (@EZ T ι) e9 (S 32 (gJ i (eJ l c l2 c2 i j)) (H6 r r2) true) = some (S 32 (gJ i (eJ l c l2 c2 (IntKind.i64.wrap ((i : Int) + 1)) (up j 31 (vI (IntKind.i64.wrap ((i : Int) + 1)))))) (H6 r r2) true) := by kernel_rfl
theorem e_r10 : @regionOf ι (@EZ T ι) e10 (S 32 j h true) = some (S 32 (up j 6 (vB true)) h true) := by kernel_rfl
theorem e_end : @finK ι Try.prog Try.f21 .ret (S 32 (up j 6 (vB b)) h true) = some (.bool b, h, true) := by kernel_rfl
variable (ts us : List Value) (t0 u0 : Int)
theorem m_start : startS Try.f20 [.pointer (some ⟨0, 0, none⟩), .pointer (some ⟨1, 0, none⟩)] h = S 52 (bJ j0) h true := by kernel_rfl
theorem m_r0 : @regionOf ι (@EZ T ι) m0 (S 52 (bJ j) h true) = some (S 52 (bJ (up j 4 (vB false))) h true) := by kernel_rfl
theorem m_r1 : (@regionOf ι (@EZ T ι) m1 (S 52 (bJ j) (Hm l c l2 c2 (rooms t0) (rooms u0)) true)).map (see [0, 1, 27]) = some (52, Hm l c l2 c2 (rooms t0) (rooms u0), F1 (!(decide (t0 = u0))), [vP 0, vP 1, vB ((!(decide (t0 = u0))) || (!(decide ((l : Int) = (l2 : Int)))))]) := by kernel_rfl
theorem m_x1 : evl (S 52 (bJ (up j 27 (vB b))) h true).tmps (cx m1c) = vB b := by kernel_rfl
theorem m_r2 : @regionOf ι (@EZ T ι) (sa (ca m1c)) (S 52 j h true) = some (S 52 (up j 4 (vB false)) h true) := by kernel_rfl
theorem m_r3 : @regionOf ι (@EZ T ι) m3 (S 52 (bJ j) h true) = some (S 52 (mJ ((0 : Nat) : Int) j) h true) := by kernel_rfl
theorem m_r4 : (@regionOf ι (@EZ T ι) m4 (S 52 (mJ i j) (Hm l c l2 c2 (rooms t0) (rooms u0)) true)).map (see [0, 1, 5, 34]) = some (52, Hm l c l2 c2 (rooms t0) (rooms u0), true, [vP 0, vP 1, vI i, vB (decide ((i : Int) < (l : Int)))]) := by kernel_rfl
theorem m_x4 : evl (S 52 (mJ i (up j 34 (vB b))) h true).tmps (cx m4c) = vB b := by kernel_rfl
theorem m_r8 : (@regionOf ι (@EZ T ι) m8 (S 52 (mJ i j) (Hm l c l2 c2 (rooms t0) (rooms u0)) true)).map (see [0, 1, 5, 51]) = some (52, Hm l c l2 c2 (rooms t0) (rooms u0),
    (bq (recAt 9 (Frn.row 0) i) (recAt 9 (Frn.row 1) i)).2 && (Nat.ble (i * 9 + 9) (Frn.row 1).length && (inB i l2 && (Nat.ble (i * 9 + 9) (Frn.row 0).length && (inB i l && true)))),
    [vP 0, vP 1, vI i, vB (!(bq (recAt 9 (Frn.row 0) i) (recAt 9 (Frn.row 1) i)).1)]) := by kernel_rfl
theorem m_x8 : evl (S 52 (mJ i (up j 51 (vB b))) h true).tmps (cx m8c) = vB b := by kernel_rfl
theorem m_r9 : @regionOf ι (@EZ T ι) (sa (ca m8c)) (S 52 j h true) = some (S 52 (up j 4 (vB false)) h true) := by kernel_rfl
theorem m_r5 : (@regionOf ι (@EZ T ι) m5 (S 52 (mJ i j) h true)).map (see [0, 1, 5]) = some (52, h, true, [vP 0, vP 1, vI (IntKind.i64.wrap ((i : Int) + 1))]) := by kernel_rfl
theorem m_r10 : @regionOf ι (@EZ T ι) m10 (S 52 j h true) = some (S 52 (up j 4 (vB true)) h true) := by kernel_rfl
theorem m_end : @finK ι Try.prog Try.f20 .ret (S 52 (up j 4 (vB b)) h true) = some (.bool b, h, true) := by kernel_rfl
end
end Zb
end Go.Proofs.Yteelhhdadcdclaa
end
