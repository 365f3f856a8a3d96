/-
  Means of counts: where each region of the model leads. No condition.
-/
import Derived.Test.YtljmhdaphpdkgaaMa
set_option linter.unusedSectionVars false
set_option linter.unusedVariables false
noncomputable section
namespace Go.Proofs.Ytljmhdaphpdkgaa
namespace Mc
open Go Go.ChangeShapes Go.WideShapes Go.ChangeAt Go.RowKit Ev
def z16 : List Value := List.replicate 16 (.int .i16 0)
def Hm (r : List Value) : Heap := [some z16, none, some r, none]
def vD (a : Nat) : Value × Bool := (.float .f32 a, true)
def nr (z : Int) : Nat := FloatKind.f32.nearest z
def kC (z : Int) : Bool := canonB (.float .f32 (nr z))
def mV (z : Int) (l : Nat) : Int := Sx.cntV (fdiv .f32 (nr z) (nr (l : Int)))
def wM (w : Int) (i : Nat) : Nat := i * 17 + 1 + w.toNat * 1
def fM (r : List Value) (w : Int) (i : Nat) : Bool := r[wM w i]?.isSome && isIntB .i16 (r.getD (wM w i) undef)
def xM (r : List Value) (w : Int) (i : Nat) : Int := Ev.intOf (r.getD (wM w i) undef)
section
variable (ι : Frn) (l c i : Nat) (w z : Int) (j : J) (h : Heap) (b : Bool) (r q : List Value)
theorem m_start : startS Try.f19 [tok 0 l c] [] = S 38 (up j0 0 (vT 0 l c)) [] true := by kernel_rfl
theorem m_r0 : @regionOf ι (@EP ι) m0 (S 38 (up j 0 (vT 0 l c)) [] true) = some (S 38 (up (up j 0 (vT 0 l c)) 2 (vP 0)) [some z16] true) := by kernel_rfl
theorem m_r1 : @regionOf ι (@EP ι) m1 (S 38 (up (up j 0 (vT 0 l c)) 2 (vP 0)) [some z16] true) = some (S 38 (up (up (up (up j 7 (vA z16)) 0 (vT 0 l c)) 2 (vP 0)) 3 (vP 2)) (Hm z16) true) := by kernel_rfl
theorem m_r2 : @regionOf ι (@EP ι) m2 (S 38 (up (up (up j 0 (vT 0 l c)) 2 (vP 0)) 3 (vP 2)) h true) = some (S 38 (mJ l c ((0 : Nat) : Int) j) h true) := by kernel_rfl
theorem m_r3 : @regionOf ι (@EP ι) m3 (S 38 (mJ l c w j) h true) = some (S 38 (mJ l c w (up (up j 8 (vI w)) 9 (vB (decide (w < 16))))) h true) := by kernel_rfl
theorem m_x3 : evl (S 38 (mJ l c w (up j 9 (vB b))) h true).tmps (cx m3c) = vB b := by kernel_rfl
theorem m_r5 : @regionOf ι (@EP ι) m5 (S 38 (mJ l c w j) h true) = some (S 38 (mJ l c w (up j 5 (vI 0))) h true) := by kernel_rfl
theorem m_r6 : @regionOf ι (@EP ι) m6 (S 38 (mJ l c w (up j 5 (vI 0))) h true) = some (S 38 (mJ2 l c w 0 ((0 : Nat) : Int) j) h true) := by kernel_rfl
theorem m_r7 : @regionOf ι (@EP ι) m7 (S 38 (mJ2 l c w z i j) h true) = some (S 38 (mJ2 l c w z i (up (up (up (up j 12 (vI i)) 13 (vT 0 l c)) 14 (vI l)) 15 (vB (decide ((i : Int) < (l : Int)))))) h true) := by kernel_rfl
theorem m_x7 : evl (S 38 (mJ2 l c w z i (up j 15 (vB b))) h true).tmps (cx m7c) = vB b := by kernel_rfl
theorem m_r9 : @regionOf ι (@EP ι) m9 (S 38 (mJ2 l c w z i j) h true) = some (S 38 (mJ2 l c w (IntKind.i64.wrap (z + IntKind.i64.wrap (xM (Frn.row 0) w i))) i (up (up (up (up (up (up (up (up (up (up j 18 (vI z)) 19 (vT 0 l c)) 20 (vI i)) 21 (vI w)) 22 (vR 0 (i * 17))) 23 (vR 0 (i * 17 + 1))) 24 (vR 0 (wM w i))) 25 (vH (xM (Frn.row 0) w i))) 26 (vI (IntKind.i64.wrap (xM (Frn.row 0) w i)))) 27 (vI (IntKind.i64.wrap (z + IntKind.i64.wrap (xM (Frn.row 0) w i)))))) h (fM (Frn.row 0) w i && (inB w 16 && (inB i l && true)))) := by kernel_rfl
theorem m_r8 : @regionOf ι (@EP ι) m8 (S 38 (mJ2 l c w z i j) h true) = some (S 38 (mJ2 l c w z (IntKind.i64.wrap ((i : Int) + 1)) (up (up j 16 (vI i)) 17 (vI (IntKind.i64.wrap ((i : Int) + 1))))) h true) := by kernel_rfl
theorem m_r10 : @regionOf ι (@EP ι) m10 (S 38 (mJ2 l c w z i j) (Hm r) true) = some (S 38 (mJ2 l c w z i (up (up (up (up (up (up (up (up (up j 28 (vI w)) 29 (vI z)) 30 (vD (nr z))) 31 (vT 0 l c)) 32 (vI l)) 33 (vD (nr (l : Int)))) 34 (vD (fdiv .f32 (nr z) (nr (l : Int))))) 35 (vH (mV z l))) 36 (vPo 2 (0 + w.toNat * 1)))) (Hm (setRow r (0 + w.toNat * 1) [.int .i16 (mV z l)])) (Nat.ble (0 + w.toNat * 1 + 1) r.length && (inB w 16 && (kC (l : Int) && (kC z && true))))) := by kernel_rfl
theorem m_r4 : @regionOf ι (@EP ι) m4 (S 38 (mJ2 l c w z i j) h true) = some (S 38 (mJ l c (IntKind.i64.wrap (w + 1)) (up (up (up (up j 5 (vI z)) 6 (vI i)) 10 (vI w)) 11 (vI (IntKind.i64.wrap (w + 1))))) h true) := by kernel_rfl
theorem m_r11 : @regionOf ι (@EP ι) m11 (S 38 (mJ l c w j) (Hm r) true) = some (S 38 (mJ l c w (up j 37 (vA (r.take 16)))) [some (setRow z16 0 (r.take 16)), none, some r, none] ((Nat.beq (r.take 16).length 16 && (r.take 16).all scalarB && Nat.ble (0 + (r.take 16).length) 16) && (Nat.ble (0 + 16) r.length && true))) := by kernel_rfl
def q16 (f : Nat → Int) : List Value := (List.range 16).map fun k => .int .i16 (f k)
theorem m_end (f : Nat → Int) : @finK ι Try.prog Try.f19 .ret (S 38 (mJ l c w j) [some (q16 f), none, some r, none] true) = some (.agg (q16 f).toArray, [some (q16 f), none, some r, none], true) := by kernel_rfl
theorem q_set (f : Nat → Int) : setRow z16 0 ((q16 f).take 16) = q16 f := by kernel_rfl
theorem q_ok (f : Nat → Int) : ((Nat.beq ((q16 f).take 16).length 16 && ((q16 f).take 16).all scalarB && Nat.ble (0 + ((q16 f).take 16).length) 16) && (Nat.ble (0 + 16) (q16 f).length && true)) = true := by kernel_rfl
end
end Mc
end Go.Proofs.Ytljmhdaphpdkgaa
end
