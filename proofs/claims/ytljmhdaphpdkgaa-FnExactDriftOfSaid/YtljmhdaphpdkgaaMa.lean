/-
  Means of counts: where each region of the functions leads. No condition.
-/
import Derived.Test.YtljmhdaphpdkgaaMs
set_option linter.unusedSectionVars false
set_option linter.unusedVariables false
noncomputable section
namespace Go.Proofs.Ytljmhdaphpdkgaa
namespace Mc
open Go Go.ChangeShapes Go.WideShapes Go.ChangeAt Go.RowKit Ev
def vR (k n : Nat) : Value × Bool := (.pointer (some ⟨k, n, some 0⟩), true)
def vA (r : List Value) : Value × Bool := (.agg r.toArray, true)
def vH (z : Int) : Value × Bool := (.int .i16 z, true)
def zS : List Value := .int .i64 0 :: List.replicate 16 (.int .i16 0)
def clO : Sig
  | [.int .i64 i, .int .i16 n] => some (.int .i64 (IntKind.i64.wrap n), true)
  | _ => none
def orcM : List (Nat × Sig) := [(37, clO), (32, cntO), (38, cntO)]
noncomputable abbrev EP [Frn] : Env := conE Try.prog noOrc (fun f => seek f orcM)
def wO (w : Int) : Nat := 1 + w.toNat * 1
def fW (r : List Value) (w : Int) : Bool := r[wO w]?.isSome && isIntB .i16 (r.getD (wO w) undef)
def xW (r : List Value) (w : Int) : Int := Ev.intOf (r.getD (wO w) undef)
def q4 (r : List Value) (i l : Nat) (row : List Value) : Bool := ((Nat.beq r.length 17 && r.all scalarB && Nat.ble (0 + r.length) 17) && (Nat.ble (i * 17 + 17) row.length && (inB i l && true)))
def kA (i : Nat) (q : List Value) : Bool := (Nat.beq (i + 1) (i + 1) && Nat.beq q.length ((i + 1) * 1)) && ((Nat.ble ((i + 1 + 1) * 2) 140737488355328 && Nat.ble (i + 1 + 1) 9223372036854775807) && true)
section
variable (ι : Frn) (l c i : Nat) (w : Int) (j : J) (h : Heap) (b : Bool) (r q : List Value) (v5 : Value × Bool)
theorem a_start : startS Try.f36 [tok 0 l c, .int .i64 w] [] = S 23 (up (up j0 0 (vT 0 l c)) 1 (vI w)) [] true := by kernel_rfl
theorem a_r0 : @regionOf ι (@EP ι) a0 (S 23 (up (up j 0 (vT 0 l c)) 1 (vI w)) [] true) = some (S 23 (up (up (up j 4 vN) 0 (vT 0 l c)) 1 (vI w)) [] true) := by kernel_rfl
theorem a_r1 : @regionOf ι (@EP ι) a1 (S 23 (up (up j 0 (vT 0 l c)) 1 (vI w)) [] true) = some (S 23 (up (up (up j 0 (vT 0 l c)) 1 (vI w)) 5 vN) [] true) := by kernel_rfl
theorem a_r2 : @regionOf ι (@EP ι) a2 (S 23 (up (up (up j 0 (vT 0 l c)) 1 (vI w)) 5 vN) [] true) = some (S 23 (aJ l c w vN ((0 : Nat) : Int) j) [] true) := by kernel_rfl
theorem a_r3 : @regionOf ι (@EP ι) a3 (S 23 (aJ l c w v5 i j) h true) = some (S 23 (aJ l c w v5 i (up j 11 (vB (decide ((i : Int) < (l : Int)))))) h true) := by kernel_rfl
theorem a_x3 : evl (S 23 (aJ l c w v5 i (up j 11 (vB b))) h true).tmps (cx a3c) = vB b := by kernel_rfl
theorem a_r4n : @regionOf ι (@EP ι) a4 (S 23 (aJ l c w v5 i j) [] true) = some (S 23 (up (aJ l c w v5 i (up (up j 12 (vR 0 (i * 17))) 13 (vA (recAt 17 (Frn.row 0) i)))) 7 (vP 2)) [none, none, some (setRow zS 0 (recAt 17 (Frn.row 0) i)), none] (q4 (recAt 17 (Frn.row 0) i) i l (Frn.row 0))) := by kernel_rfl
theorem a_r4s : @regionOf ι (@EP ι) a4 (S 23 (aJ l c w v5 i j) [some q] true) = some (S 23 (up (aJ l c w v5 i (up (up j 12 (vR 0 (i * 17))) 13 (vA (recAt 17 (Frn.row 0) i)))) 7 (vP 3)) [some q, none, none, some (setRow zS 0 (recAt 17 (Frn.row 0) i)), none] (q4 (recAt 17 (Frn.row 0) i) i l (Frn.row 0))) := by kernel_rfl
def vPo (n o : Nat) : Value × Bool := (.pointer (some ⟨n, o, none⟩), true)
/-- behind a round: the slots that point to what the round laid -/
noncomputable def aK (l c : Nat) (w : Int) (v5 new : Value × Bool) (i p bs : Nat) (x : Int) (j : J) : J := up (up (up (up (up (up (up (up (up (up (up (up (up (up j 0 (vT 0 l c)) 1 (vI w)) 8 (vT 0 l c)) 9 (vI l)) 10 (vI i)) 7 (vP p)) 14 v5) 15 (vI w)) 16 (vPo p 1)) 17 (vPo p (wO w))) 18 (vH x)) 19 (vS bs 1)) 20 new) 5 new
theorem a_r5n : @regionOf ι (@EP ι) a5 (S 23 (up (aJ l c w vN i j) 7 (vP 2)) [none, none, some r, none] true) = some (S 23 (aK l c w vN (vS 12 1) i 2 9 (xW r w) j) [none, none, some r, none, none, none, none, none, none, some [.int .i16 (xW r w)], none, none, some [.int .i16 (xW r w)]] (fW r w && (inB w 16 && true))) := by kernel_rfl
theorem a_r5s : @regionOf ι (@EP ι) a5 (S 23 (up (aJ l c w (vS 0 (i + 1)) ((i + 1 : Nat) : Int) j) 7 (vP 3)) [some q, none, none, some r, none] true) = some (S 23 (aK l c w (vS 0 (i + 1)) (vS 13 (i + 1 + 1)) (i + 1) 3 10 (xW r w) j) [some [], none, none, some r, none, none, none, none, none, none, some [.int .i16 (xW r w)], none, none, some (q ++ [.int .i16 (xW r w)])] (kA i q && (fW r w && (inB w 16 && true)))) := by kernel_rfl
theorem a_r6 (new : Value × Bool) (p bs : Nat) (x : Int) : @regionOf ι (@EP ι) a6 (S 23 (aK l c w v5 new i p bs x j) h true) = some (S 23 (up (up (aK l c w v5 new i p bs x j) 21 (vI (IntKind.i64.wrap ((i : Int) + 1)))) 10 (vI (IntKind.i64.wrap ((i : Int) + 1)))) h true) := by kernel_rfl
theorem a_r7 (n : Nat) : @regionOf ι (@EP ι) a7 (S 23 (up j 5 (vS 0 n)) h true) = some (S 23 (up (up (up j 5 (vS 0 n)) 22 (vS 0 n)) 4 (vS 0 n)) h true) := by kernel_rfl
theorem a_r7' (n : Nat) : @regionOf ι (@EP ι) a7 (S 23 (aJ l c w (vS 0 n) l j) h true) = some (S 23 (up (up (aJ l c w (vS 0 n) l j) 22 (vS 0 n)) 4 (vS 0 n)) h true) := by kernel_rfl
theorem a_end (n : Nat) : @finK ι Try.prog Try.f36 .ret (S 23 (up j 4 (vS 0 n)) h true) = some (.slice (some ⟨0, 0, none⟩) n n, h, true) := by kernel_rfl
/-! ### sumOver -/
theorem s_start : startS Try.f35 [tok 0 l c, .func (.func 37) #[] #[]] [] = S 23 (up (up j0 0 (vT 0 l c)) 1 vF) [] true := by kernel_rfl
theorem s_r0 : @regionOf ι (@EP ι) s0 (S 23 (up (up j 0 (vT 0 l c)) 1 vF) [] true) = some (S 23 (up (up (up j 4 (vI 0)) 0 (vT 0 l c)) 1 vF) [] true) := by kernel_rfl
theorem s_r1 : @regionOf ι (@EP ι) s1 (S 23 (up (up j 0 (vT 0 l c)) 1 vF) [] true) = some (S 23 (up (up (up j 0 (vT 0 l c)) 1 vF) 5 (vI 0)) [] true) := by kernel_rfl
theorem s_r2 : @regionOf ι (@EP ι) s2 (S 23 (up (up (up j 0 (vT 0 l c)) 1 vF) 5 (vI 0)) [] true) = some (S 23 (sJ l c 0 ((0 : Nat) : Int) j) [] true) := by kernel_rfl
theorem s_r3 (z : Int) : @regionOf ι (@EP ι) s3 (S 23 (sJ l c z i j) [] true) = some (S 23 (sJ l c z i (up j 11 (vB (decide ((i : Int) < (l : Int)))))) [] true) := by kernel_rfl
theorem s_x3 (z : Int) : evl (S 23 (sJ l c z i (up j 11 (vB b))) [] true).tmps (cx s3c) = vB b := by kernel_rfl
def fS (r : List Value) (i : Nat) : Bool := r[i * 1]?.isSome && isIntB .i16 (r.getD (i * 1) undef)
def xS (r : List Value) (i : Nat) : Int := Ev.intOf (r.getD (i * 1) undef)
theorem s_r4 (z : Int) : @regionOf ι (@EP ι) s4 (S 23 (sJ l c z i j) [] true) = some (S 23 (up (up (sJ l c z i (up (up (up j 12 (vI i)) 13 (vR 0 (i * 1))) 14 (vH (xS (Frn.row 0) i)))) 6 (vI i)) 7 (vH (xS (Frn.row 0) i))) [] (fS (Frn.row 0) i && (inB i l && true))) := by kernel_rfl
theorem s_r5 (z x : Int) : @regionOf ι (@EP ι) s5 (S 23 (up (up (sJ l c z i j) 6 (vI i)) 7 (vH x)) [] true) = some (S 23 (sJ l c (IntKind.i64.wrap (z + IntKind.i64.wrap x)) i (up (up (up (up (up (up (up (up j 6 (vI i)) 7 (vH x)) 15 (vI z)) 16 vF) 17 (vI i)) 18 (vH x)) 19 (vI (IntKind.i64.wrap x))) 20 (vI (IntKind.i64.wrap (z + IntKind.i64.wrap x))))) [] true) := by kernel_rfl
theorem s_r6 (z : Int) : @regionOf ι (@EP ι) s6 (S 23 (sJ l c z i j) [] true) = some (S 23 (sJ l c z (IntKind.i64.wrap ((i : Int) + 1)) (up j 21 (vI (IntKind.i64.wrap ((i : Int) + 1))))) [] true) := by kernel_rfl
theorem s_r7 (z : Int) : @regionOf ι (@EP ι) s7 (S 23 (sJ l c z i j) [] true) = some (S 23 (up (up (sJ l c z i j) 22 (vI z)) 4 (vI z)) [] true) := by kernel_rfl
theorem s_end (z : Int) : @finK ι Try.prog Try.f35 .ret (S 23 (up j 4 (vI z)) [] true) = some (.int .i64 z, [], true) := by kernel_rfl
end
end Mc
end Go.Proofs.Ytljmhdaphpdkgaa
end
