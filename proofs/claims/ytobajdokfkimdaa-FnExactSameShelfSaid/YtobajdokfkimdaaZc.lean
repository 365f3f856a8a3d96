/-
  Shelves that are the same: where each region of the two functions leads, over contracts. No condition.
-/
import Derived.Test.YtobajdokfkimdaaZb
set_option linter.unusedSectionVars false
set_option linter.unusedVariables false
noncomputable section
namespace Go.Proofs.Ytobajdokfkimdaa
namespace Zb
open Go Go.ChangeShapes Go.WideShapes Go.ChangeAt Go.RowKit Ev
def zP : List Value := Value.string ⟨#[]⟩ :: (List.replicate 32 (.float .f32 0) ++ [.int .i64 0])
def q5 (r : List Value) (i l : Nat) (row : List Value) : Bool := ((Nat.beq r.length 34 && r.all scalarB && Nat.ble (0 + r.length) 34) && (Nat.ble (i * 34 + 34) row.length && (inB i l && true)))
def H5 (r : List Value) : Heap := [none, none, none, some r, none, none]
def H6 (r r2 : List Value) : Heap := [none, none, none, some r, none, none, none, none, none, none, some r2, none]
def fJ (i : Int) (j : J) : J := up (up j 8 (vP 3)) 7 (vI i)
def gJ (i : Int) (j : J) : J := up (fJ i j) 9 (vP 10)
def tinE (t0 t1 t2 t3 t4 t5 u0 u1 u2 u3 u4 u5 : Int) : Bool := decide (t0 = u0) && (decide (t1 = u1) && (decide (t2 = u2) && (decide (t3 = u3) && (decide (t4 = u4) && (decide (t5 = u5) && true)))))
def F1 (a : Bool) : Bool := ((a || (decide (a = false) && true)) && true) && ((((decide (a = false) && true) && (decide (a = false) && true)) || (!decide (a = false))) && ((((decide (a = false) && true) && true) || (!decide (a = false))) && (((decide (a = false) && true) || (!decide (a = false))) && (((decide (a = false) && true) || (!decide (a = false))) && ((((decide (a = false) && true) && true) || (!decide (a = false))) && (((decide (a = false) && true) || (!decide (a = false))) && (((decide (a = false) && true) || (!decide (a = false))) && true)))))))
theorem F1_true (a : Bool) : F1 a = true := by cases a <;> rfl
def F8 (ne ce sk a5 a6 a7 a8 a9 a10 a11 a12 a13 a14 a15 a16 f1 f2 : Bool) : Bool := ((((((!ne) || (!ce)) || (!sk)) || (decide ((((!ne) || (!ce)) || (!sk)) = false) && true)) && true) && (((decide ((((!ne) || (!ce)) || (!sk)) = false) && true) || (!decide ((((!ne) || (!ce)) || (!sk)) = false))) && (((((decide ((((!ne) || (!ce)) || (!sk)) = false) && true) && ((decide ((((!ne) || (!ce)) || (!sk)) = false) && true) && true)) && f2) || (!decide ((((!ne) || (!ce)) || (!sk)) = false))) && ((((decide ((((!ne) || (!ce)) || (!sk)) = false) && true) && a5) || (!decide ((((!ne) || (!ce)) || (!sk)) = false))) && (((decide ((((!ne) || (!ce)) || (!sk)) = false) && true) || (!decide ((((!ne) || (!ce)) || (!sk)) = false))) && (((decide ((((!ne) || (!ce)) || (!sk)) = false) && true) || (!decide ((((!ne) || (!ce)) || (!sk)) = false))) && ((((decide ((((!ne) || (!ce)) || (!sk)) = false) && true) && a6) || (!decide ((((!ne) || (!ce)) || (!sk)) = false))) && (((decide ((((!ne) || (!ce)) || (!sk)) = false) && true) || (!decide ((((!ne) || (!ce)) || (!sk)) = false))) && (((decide ((((!ne) || (!ce)) || (!sk)) = false) && true) || (!decide ((((!ne) || (!ce)) || (!sk)) = false))) && (((((!ne) || (!ce)) || (decide (((!ne) || (!ce)) = false) && true)) && true) && (((decide (((!ne) || (!ce)) = false) && true) || (!decide (((!ne) || (!ce)) = false))) && (((((decide (((!ne) || (!ce)) = false) && true) && ((decide (((!ne) || (!ce)) = false) && true) && true)) && f1) || (!decide (((!ne) || (!ce)) = false))) && ((((decide (((!ne) || (!ce)) = false) && true) && a7) || (!decide (((!ne) || (!ce)) = false))) && (((decide (((!ne) || (!ce)) = false) && true) || (!decide (((!ne) || (!ce)) = false))) && (((decide (((!ne) || (!ce)) = false) && true) || (!decide (((!ne) || (!ce)) = false))) && ((((decide (((!ne) || (!ce)) = false) && true) && a8) || (!decide (((!ne) || (!ce)) = false))) && (((decide (((!ne) || (!ce)) = false) && true) || (!decide (((!ne) || (!ce)) = false))) && (((decide (((!ne) || (!ce)) = false) && true) || (!decide (((!ne) || (!ce)) = false))) && ((((!ne) || (decide ((!ne) = false) && true)) && true) && ((((decide ((!ne) = false) && true) && (decide ((!ne) = false) && true)) || (!decide ((!ne) = false))) && ((((decide ((!ne) = false) && true) && (a9 && a10)) || (!decide ((!ne) = false))) && (((decide ((!ne) = false) && true) || (!decide ((!ne) = false))) && (((decide ((!ne) = false) && true) || (!decide ((!ne) = false))) && ((((decide ((!ne) = false) && true) && (a11 && a12)) || (!decide ((!ne) = false))) && (((decide ((!ne) = false) && true) || (!decide ((!ne) = false))) && (((decide ((!ne) = false) && true) || (!decide ((!ne) = false))) && ((a13 && a14) && ((a15 && a16) && true))))))))))))))))))))))))))))
theorem F8_true (ne ce sk : Bool) : F8 ne ce sk true true true true true true true true true true true true true true = true := by cases ne <;> cases ce <;> cases sk <;> rfl
/-- one pigment and one of another list: names, costs, curves -/
def nmE (cs ds : List Value) (i : Nat) : Bool := (txtOf (cs.getD (i * 34 + 0) undef)).toList == (txtOf (ds.getD (i * 34 + 0) undef)).toList
def coE (cs ds : List Value) (i : Nat) : Bool := decide (Ev.intOf (cs.getD (i * 34 + 33) undef) = Ev.intOf (ds.getD (i * 34 + 33) undef))
def crv (cs : List Value) (o : Nat) : List Value := (cs.drop o).take 16
def isTx (cs : List Value) (o : Nat) : Bool := isTxtB (cs.getD o undef)
def isIn (cs : List Value) (o : Nat) : Bool := isIntB .i64 (cs.getD o undef)
def c16 (cs : List Value) : Bool := shapeB (List.replicate 16 (.f .f32)) cs
section
variable (ι : Frn) (T : Told) (l c l2 c2 i : Nat) (j : J) (h : Heap) (b : Bool) (r r2 : List Value)
theorem e_start : startS Try.f104 [tok 0 l c, tok 1 l2 c2, .func (.func 105) #[] #[]] [] = S 32 (aJ l c l2 c2 j0) [] true := by kernel_rfl
theorem e_r0 : @regionOf ι (@EZ T ι) e0 (S 32 (aJ l c l2 c2 j) [] true) = some (S 32 (aJ l c l2 c2 (up j 6 (vB false))) [] true) := by kernel_rfl
theorem e_r1 : @regionOf ι (@EZ T ι) e1 (S 32 (aJ l c l2 c2 j) [] true) = some (S 32 (aJ l c l2 c2 (up (up (up (up (up j 10 (vT 0 l c)) 11 (vI l)) 12 (vT 1 l2 c2)) 13 (vI l2)) 14 (vB (!(decide ((l : Int) = (l2 : Int))))))) [] true) := by kernel_rfl
theorem e_x1 : evl (S 32 (aJ l c l2 c2 (up j 14 (vB b))) [] true).tmps (cx e1c) = vB b := by kernel_rfl
theorem e_r2 : @regionOf ι (@EZ T ι) (sa (ca e1c)) (S 32 j h true) = some (S 32 (up j 6 (vB false)) h true) := by kernel_rfl
theorem e_r3 : @regionOf ι (@EZ T ι) e3 (S 32 (aJ l c l2 c2 j) [] true) = some (S 32 (eJ l c l2 c2 ((0 : Nat) : Int) j) [] true) := by kernel_rfl
theorem e_r4 : @regionOf ι (@EZ T ι) e4 (S 32 (eJ l c l2 c2 i j) [] true) = some (S 32 (eJ l c l2 c2 i (up j 18 (vB (decide ((i : Int) < (l : Int)))))) [] true) := by kernel_rfl
theorem e_x4 : evl (S 32 (eJ l c l2 c2 i (up j 18 (vB b))) [] true).tmps (cx e4c) = vB b := by kernel_rfl
theorem e_r5 : @regionOf ι (@EZ T ι) e5 (S 32 (eJ l c l2 c2 i j) [] true) = some (S 32 (fJ i (eJ l c l2 c2 i (up (up (up j 19 (vI i)) 20 (vR 0 (i * 34))) 21 (vA (recAt 34 (Frn.row 0) i))))) (H5 (setRow zP 0 (recAt 34 (Frn.row 0) i))) (q5 (recAt 34 (Frn.row 0) i) i l (Frn.row 0))) := by kernel_rfl
theorem e_r6 : @regionOf ι (@EZ T ι) e6 (S 32 (fJ i (eJ l c l2 c2 i j)) (H5 r) true) = some (S 32 (gJ i (eJ l c l2 c2 i (up (up (up (up j 22 (vT 1 l2 c2)) 23 (vI i)) 24 (vR 1 (i * 34))) 25 (vA (recAt 34 (Frn.row 1) i))))) (H6 r (setRow zP 0 (recAt 34 (Frn.row 1) i))) (q5 (recAt 34 (Frn.row 1) i) i l2 (Frn.row 1))) := by kernel_rfl
theorem e_r7 : @regionOf ι (@EZ T ι) e7 (S 32 (gJ i (eJ l c l2 c2 i j)) (H6 r r2) true) = some (S 32 (gJ i (eJ l c l2 c2 i (up (up (up (up (up j 26 fV) 27 (vA (r.take 34))) 28 (vA (r2.take 34))) 29 (vB (T.sp (r.take 34) (r2.take 34)))) 30 (vB (!(T.sp (r.take 34) (r2.take 34))))))) (H6 r r2) (((shapeB pigK (r.take 34) && shapeB pigK (r2.take 34)) && (Nat.ble 34 r2.length && (Nat.ble 34 r.length && true))))) := by kernel_rfl
theorem e_x7 : evl (S 32 (gJ i (eJ l c l2 c2 i (up j 30 (vB b)))) h true).tmps (cx e7c) = vB b := by kernel_rfl
theorem e_r8 : @regionOf ι (@EZ T ι) (sa (ca e7c)) (S 32 j h true) = some (S 32 (up j 6 (vB false)) h true) := by kernel_rfl
theorem e_r9 : @regionOf ι (@EZ T ι) e9 (S 32 (gJ i (eJ l c l2 c2 i j)) (H6 r r2) true) = some (S 32 (gJ i (eJ l c l2 c2 (IntKind.i64.wrap ((i : Int) + 1)) (up j 31 (vI (IntKind.i64.wrap ((i : Int) + 1)))))) (H6 r r2) true) := by kernel_rfl
theorem e_r10 : @regionOf ι (@EZ T ι) e10 (S 32 j h true) = some (S 32 (up j 6 (vB true)) h true) := by kernel_rfl
theorem e_end : @finK ι Try.prog Try.f104 .ret (S 32 (up j 6 (vB b)) h true) = some (.bool b, h, true) := by kernel_rfl
variable (ts us : List Value) (t0 t1 t2 t3 t4 t5 u0 u1 u2 u3 u4 u5 : Int)
theorem m_start : startS Try.f103 [.pointer (some ⟨0, 0, none⟩), .pointer (some ⟨1, 0, none⟩)] h = S 95 (bJ j0) h true := by kernel_rfl
theorem m_r0 : @regionOf ι (@EZ T ι) m0 (S 95 (bJ j) h true) = some (S 95 (bJ (up j 4 (vB false))) h true) := by kernel_rfl
theorem m_r1 : (@regionOf ι (@EZ T ι) m1 (S 95 (bJ j) (Hm l c l2 c2 (tins t0 t1 t2 t3 t4 t5) (tins u0 u1 u2 u3 u4 u5)) true)).map (see [0, 1, 29]) = some (95, Hm l c l2 c2 (tins t0 t1 t2 t3 t4 t5) (tins u0 u1 u2 u3 u4 u5), F1 (!(decide ((l : Int) = (l2 : Int)))), [vP 0, vP 1, vB ((!(decide ((l : Int) = (l2 : Int)))) || (!(decide (true = tinE t0 t1 t2 t3 t4 t5 u0 u1 u2 u3 u4 u5))))]) := by kernel_rfl
theorem m_x1 : evl (S 95 (bJ (up j 29 (vB b))) h true).tmps (cx m1c) = vB b := by kernel_rfl
theorem m_r2 : @regionOf ι (@EZ T ι) (sa (ca m1c)) (S 95 j h true) = some (S 95 (up j 4 (vB false)) h true) := by kernel_rfl
theorem m_r3 : @regionOf ι (@EZ T ι) m3 (S 95 (bJ j) h true) = some (S 95 (mJ ((0 : Nat) : Int) j) h true) := by kernel_rfl
theorem m_r4 : (@regionOf ι (@EZ T ι) m4 (S 95 (mJ i j) (Hm l c l2 c2 ts us) true)).map (see [0, 1, 5, 36]) = some (95, Hm l c l2 c2 ts us, true, [vP 0, vP 1, vI i, vB (decide ((i : Int) < (l : Int)))]) := by kernel_rfl
theorem m_x4 : evl (S 95 (mJ i (up j 36 (vB b))) h true).tmps (cx m4c) = vB b := by kernel_rfl
theorem m_r6 : (@regionOf ι (@EZ T ι) m6 (S 95 (mJ i j) (Hm l c l2 c2 ts us) true)).map (see [0, 1, 5, 6]) = some (95, Hm l c l2 c2 ts us, inB i l && true, [vP 0, vP 1, vI i, vR 0 (i * 34)]) := by kernel_rfl
theorem m_r7 : (@regionOf ι (@EZ T ι) m7 (S 95 (up (mJ i j) 6 (vR 0 (i * 34))) (Hm l c l2 c2 ts us) true)).map (see [0, 1, 5, 6, 7]) = some (95, Hm l c l2 c2 ts us, inB i l2 && true, [vP 0, vP 1, vI i, vR 0 (i * 34), vR 1 (i * 34)]) := by kernel_rfl
def mK (i : Nat) (j : J) : J := up (up (mJ i j) 6 (vR 0 (i * 34))) 7 (vR 1 (i * 34))
theorem m_r8 : (@regionOf ι (@EZ T ι) m8 (S 95 (mK i j) (Hm l c l2 c2 ts us) true)).map (see [0, 1, 5, 94]) = some (95, Hm l c l2 c2 ts us, F8 (nmE (Frn.row 0) (Frn.row 1) i) (coE (Frn.row 0) (Frn.row 1) i) (T.sc (crv (Frn.row 0) (i * 34 + 1)) (crv (Frn.row 1) (i * 34 + 1)))
    (Nat.ble (i * 34 + 17 + 16) (Frn.row 1).length) (Nat.ble (i * 34 + 17 + 16) (Frn.row 0).length) (Nat.ble (i * 34 + 1 + 16) (Frn.row 1).length) (Nat.ble (i * 34 + 1 + 16) (Frn.row 0).length)
    ((Frn.row 1)[i * 34 + 33]?.isSome) (isIn (Frn.row 1) (i * 34 + 33)) ((Frn.row 0)[i * 34 + 33]?.isSome) (isIn (Frn.row 0) (i * 34 + 33)) ((Frn.row 1)[i * 34 + 0]?.isSome) (isTx (Frn.row 1) (i * 34 + 0)) ((Frn.row 0)[i * 34 + 0]?.isSome) (isTx (Frn.row 0) (i * 34 + 0))
    (c16 (crv (Frn.row 0) (i * 34 + 1)) && c16 (crv (Frn.row 1) (i * 34 + 1))) (c16 (crv (Frn.row 0) (i * 34 + 17)) && c16 (crv (Frn.row 1) (i * 34 + 17))),
    [vP 0, vP 1, vI i, vB ((((!(nmE (Frn.row 0) (Frn.row 1) i)) || (!(coE (Frn.row 0) (Frn.row 1) i))) || (!(T.sc (crv (Frn.row 0) (i * 34 + 1)) (crv (Frn.row 1) (i * 34 + 1))))) || (!(T.sc (crv (Frn.row 0) (i * 34 + 17)) (crv (Frn.row 1) (i * 34 + 17)))))]) := by kernel_rfl
theorem m_x8 : evl (S 95 (mJ i (up j 94 (vB b))) h true).tmps (cx m8c) = vB b := by kernel_rfl
theorem m_r9 : @regionOf ι (@EZ T ι) (sa (ca m8c)) (S 95 j h true) = some (S 95 (up j 4 (vB false)) h true) := by kernel_rfl
theorem m_r5 : (@regionOf ι (@EZ T ι) m5 (S 95 (mJ i j) h true)).map (see [0, 1, 5]) = some (95, h, true, [vP 0, vP 1, vI (IntKind.i64.wrap ((i : Int) + 1))]) := by kernel_rfl
theorem m_r10 : @regionOf ι (@EZ T ι) m10 (S 95 j h true) = some (S 95 (up j 4 (vB true)) h true) := by kernel_rfl
theorem m_end : @finK ι Try.prog Try.f103 .ret (S 95 (up j 4 (vB b)) h true) = some (.bool b, h, true) := by kernel_rfl
end
end Zb
end Go.Proofs.Ytobajdokfkimdaa
end
