/-
  Lists of samples: contracts of what tells a turn, and the states of both functions that tell whether a list is valid. No condition.
-/
import Derived.Test.YtljmhdaphpdkgaaKv
set_option linter.unusedSectionVars false
set_option linter.unusedVariables false
noncomputable section
namespace Go.Proofs.Ytljmhdaphpdkgaa
open Go Go.ChangeShapes Go.WideShapes Go.ChangeAt Go.RowKit Ev

def kG (c : Bool) : Bool := ((bif c then (decide (c = true) && true) else true) && true) && ((((decide (c = true) && true) && (decide (c = true) && true)) || (!decide (c = true))) && true)
def kH (c d : Bool) : Bool := ((bif c then (decide (c = true) && true) else true) && true) && ((((decide (c = true) && true) && (decide (c = true) && true)) || (!decide (c = true))) && ((((bif d then (decide (d = true) && true) else true) && true) && ((((decide (d = true) && true) && true) || (!decide (d = true))) && true)) && true))
theorem kG_true (c : Bool) : kG c = true := by cases c <;> rfl
theorem kH_true (c d : Bool) : kH c d = true := by cases c <;> cases d <;> rfl
def inO : Sig
  | [.int .i64 n, .int .i64 a, .int .i64 b] => some (.bool (decide (a ≤ n) && decide (n ≤ b)), true)
  | _ => none
def inT (t : Int) : Bool := decide (0 ≤ t) && decide (t ≤ 100000)
def mfO : Sig
  | [.int .i64 n, .int .i64 t] => some (.bool (inT t && decide (n ≤ t)), true)
  | _ => none
theorem in_eval (n a b : Int) : funD Try.prog noOrc noOrc [39] 40 5 39 [.int .i64 n, .int .i64 a, .int .i64 b] [] = some (.bool (decide (a ≤ n) && decide (n ≤ b)), [], kG (decide (a ≤ n))) := by kernel_rfl
theorem mf_eval (n t : Int) : funD Try.prog noOrc noOrc [25, 40] 40 5 25 [.int .i64 n, .int .i64 t] [] = some (.bool (inT t && decide (n ≤ t)), [], kH (inT t) (decide (0 ≤ t))) := by kernel_rfl
theorem inO_bare : BareSig inO := fun args v he => by
  unfold inO at he
  split at he
  · simp only [Option.some.injEq, Prod.mk.injEq] at he
    obtain ⟨rfl, h⟩ := he
    exact ⟨rfl, rfl⟩
  · cases he
theorem mfO_bare : BareSig mfO := fun args v he => by
  unfold mfO at he
  split at he
  · simp only [Option.some.injEq, Prod.mk.injEq] at he
    obtain ⟨rfl, h⟩ := he
    exact ⟨rfl, rfl⟩
  · cases he
theorem in_one : OrcOne Try.prog 39 inO := by
  refine orc_one (us := [39]) (cf := 40) (d := 5) mixed (by kernel_rfl) (lx := []) all_nil (l0 := []) all_nil (by kernel_rfl) fun args v k he hk hx => ?_
  unfold inO at he
  split at he
  · simp only [Option.some.injEq, Prod.mk.injEq] at he
    obtain ⟨rfl, rfl⟩ := he
    rename_i n a b
    have h := in_eval n a b
    rw [kG_true] at h
    exact ⟨rfl, rfl, _, h⟩
  · cases he
theorem mf_one : OrcOne Try.prog 25 mfO := by
  refine orc_one (us := [25, 40]) (cf := 40) (d := 5) mixed (by kernel_rfl) (lx := []) all_nil (l0 := []) all_nil (by kernel_rfl) fun args v k he hk hx => ?_
  unfold mfO at he
  split at he
  · simp only [Option.some.injEq, Prod.mk.injEq] at he
    obtain ⟨rfl, rfl⟩ := he
    rename_i n t
    have h := mf_eval n t
    rw [kH_true] at h
    exact ⟨rfl, rfl, _, h⟩
  · cases he
def orcSa : List (Nat × Sig) := [(39, inO), (25, mfO)]
theorem orcSaOk {ι : Frn} : ∀ p ∈ orcSa, @OrcOne ι Try.prog p.1 p.2 := all_cons (orc_any in_one inO_bare) (all_cons (orc_any mf_one mfO_bare) all_nil)
noncomputable abbrev EA [Frn] : Env := conE Try.prog noOrc (fun f => seek f orcSa)
/-! ### the model -/
namespace Sm
noncomputable def mC : Code := (Try.f24.body.getD .skip)
theorem m_body : Try.f24.body = some mC := by kernel_rfl
theorem m_ok : codeOk mC = true := by kernel_rfl
noncomputable def m0 : Code := sa mC
noncomputable def m1 : Code := sa (sa (sb mC))
noncomputable def mL : Code := inn (inn (sb (sa (sb mC))))
noncomputable def m2 : Code := sa (sa mL)
noncomputable def m2c : Code := sb (sa mL)
noncomputable def m4 : Code := sa (inn (sa (sb mL)))
noncomputable def m4c : Code := sb (inn (sa (sb mL)))
noncomputable def m3 : Code := sb (sb mL)
noncomputable def m6 : Code := sa (sb (sb mC))
noncomputable def mBody : Code := .seq (.seq m2 (.cond (cx m2c) .skip (.exit 0))) (.seq (.block 1 (.seq m4 (.cond (cx m4c) (.seq (sa (ca m4c)) .ret) .skip))) m3)
theorem m_shape : mC = .seq m0 (.seq (.seq m1 (.block 0 (.loop mBody))) (.seq m6 .ret)) := by kernel_rfl
noncomputable def mJ (l c : Nat) (i : Int) (j : J) : J := up (up j 0 (tok 0 l c, true)) 3 (vI i)
/-! ### the program -/
noncomputable def pC : Code := (Try.f13.body.getD .skip)
theorem p_body : Try.f13.body = some pC := by kernel_rfl
theorem p_ok : codeOk pC = true := by kernel_rfl
noncomputable def p0 : Code := sa pC
noncomputable def p1 : Code := sa (sa (sb pC))
noncomputable def p1c : Code := sb (sa (sb pC))
noncomputable def p3 : Code := sa (sb (sb pC))
noncomputable def p4 : Code := sa (sa (sb (sb (sb pC))))
noncomputable def pL : Code := inn (inn (sb (sa (sb (sb (sb pC))))))
noncomputable def p5 : Code := sa pL
noncomputable def p5c : Code := sa (sb pL)
noncomputable def pI : Code := inn (sa (sb (sb pL)))
noncomputable def p6 : Code := sa pI
noncomputable def p7 : Code := sa (sa (sb pI))
noncomputable def p7c : Code := sb (sa (sb pI))
noncomputable def p9 : Code := sb (sb pI)
noncomputable def p10 : Code := sb (sb (sb pL))
noncomputable def p11 : Code := sa (sb (sb (sb (sb pC))))
noncomputable def pBody : Code := .seq p5 (.seq (.cond (cx p5c) .skip (.exit 0)) (.seq (.block 1 (.seq p6 (.seq (.seq p7 (.cond (cx p7c) (.seq (sa (ca p7c)) .ret) .skip)) p9))) p10))
theorem p_shape : pC = .seq p0 (.seq (.seq p1 (.cond (cx p1c) (.seq (sa (ca p1c)) .ret) .skip)) (.seq p3 (.seq (.seq p4 (.block 0 (.loop pBody))) (.seq p11 .ret)))) := by kernel_rfl
/-- 3: the last turn, 9: the list, 10: its length, 11: the index -/
noncomputable def pJ (l c : Nat) (z i : Int) (j : J) : J := up (up (up (up j 3 (vI z)) 9 (tok 0 l c, true)) 10 (vI l)) 11 (vI i)
noncomputable def pK (l c : Nat) (z i : Int) (j : J) : J := up (pJ l c z i j) 5 (.pointer (some ⟨2, 0, none⟩), true)
noncomputable def pH (r : List Value) : Heap := [none, none, some r, none]
def F4 (t d ci cm ni nm : Bool) : Bool := ((((!t) || (decide ((!t) = false) && true)) && true) && ((((decide ((!t) = false) && true) && ((bif d then (((decide ((!t) = false) && true) && decide (d = true)) && true) else true) && true)) || (!decide ((!t) = false))) && ((((((decide ((!t) = false) && true) && decide (d = true)) && true) && (((decide ((!t) = false) && true) && decide (d = true)) && true)) || (!((decide ((!t) = false) && true) && decide (d = true)))) && ((((((decide ((!t) = false) && true) && decide (d = true)) && true) && cm) || (!((decide ((!t) = false) && true) && decide (d = true)))) && (((((decide ((!t) = false) && true) && decide (d = true)) && true) || (!((decide ((!t) = false) && true) && decide (d = true)))) && (((((((decide ((!t) = false) && true) && decide (d = true)) && true) && (((decide ((!t) = false) && true) && decide (d = true)) && true)) && nm) || (!((decide ((!t) = false) && true) && decide (d = true)))) && ((((((decide ((!t) = false) && true) && decide (d = true)) && true) && true) || (!((decide ((!t) = false) && true) && decide (d = true)))) && ((((((decide ((!t) = false) && true) && decide (d = true)) && true) && ci) || (!((decide ((!t) = false) && true) && decide (d = true)))) && (((((decide ((!t) = false) && true) && decide (d = true)) && true) || (!((decide ((!t) = false) && true) && decide (d = true)))) && (((((((decide ((!t) = false) && true) && decide (d = true)) && true) && (((decide ((!t) = false) && true) && decide (d = true)) && true)) && ni) || (!((decide ((!t) = false) && true) && decide (d = true)))) && (((decide ((!t) = false) && true) || (!decide ((!t) = false))) && ((((decide ((!t) = false) && true) && true) || (!decide ((!t) = false))) && (ci && (ni && true))))))))))))))
theorem F4_true (t d cm nm : Bool) (h : (!(t && d) || (cm && nm)) = true) : F4 t d true cm true nm = true := by
  revert h
  cases t <;> cases d <;> cases cm <;> cases nm <;> decide
/-- the turn of a sample, and whether there is one -/
noncomputable def tuN (cs : List Value) (k : Int) : Int := Ev.intOf (cs.getD (k.toNat * 17 + 0) undef)
noncomputable def tuB (cs : List Value) (k : Int) : Bool := cs[k.toNat * 17 + 0]?.isSome && isIntB .i64 (cs.getD (k.toNat * 17 + 0) undef)
def see (sl : List Nat) (s : St) : Nat × Heap × Bool × List (Value × Bool) := (s.tmps.length, s.heap, s.ok, sl.map fun i => s.tmps.getD i (undef, false))
noncomputable def vP2 : Value × Bool := (.pointer (some ⟨2, 0, none⟩), true)
section
variable (ι : Frn) (l c i : Nat) (z : Int) (j : J) (r : List Value)
theorem m_start : startS Try.f24 [tok 0 l c] [] = S 38 (up j0 0 (tok 0 l c, true)) [] true := by kernel_rfl
theorem m_r0 : @regionOf ι (@EA ι) m0 (S 38 (up j 0 (tok 0 l c, true)) [] true) = some (S 38 (up (up j 2 (vB false)) 0 (tok 0 l c, true)) [] true) := by kernel_rfl
theorem m_r1 : @regionOf ι (@EA ι) m1 (S 38 (up j 0 (tok 0 l c, true)) [] true) = some (S 38 (mJ l c ((0 : Nat) : Int) j) [] true) := by kernel_rfl
theorem m_r2 : @regionOf ι (@EA ι) m2 (S 38 (mJ l c i j) [] true) = some (S 38 (mJ l c i (up (up (up (up j 4 (vI i)) 5 (tok 0 l c, true)) 6 (vI l)) 7 (vB (decide ((i : Int) < (l : Int)))))) [] true) := by kernel_rfl
theorem m_x2 (b : Bool) : evl (S 38 (mJ l c i (up j 7 (vB b))) [] true).tmps (cx m2c) = vB b := by kernel_rfl
theorem m_r4 : (@regionOf ι (@EA ι) m4 (S 38 (mJ l c i j) [] true)).map (see [0, 3, 34]) = some (38, [], F4 (inT (tuN (Frn.row 0) i)) (decide (0 < (i : Int))) (tuB (Frn.row 0) i) (tuB (Frn.row 0) (IntKind.i64.wrap ((i : Int) - 1))) (inB i l) (inB (IntKind.i64.wrap ((i : Int) - 1)) l),
    [(tok 0 l c, true), vI i, vB ((!(inT (tuN (Frn.row 0) i))) || (decide (0 < (i : Int)) && decide (tuN (Frn.row 0) i < tuN (Frn.row 0) (IntKind.i64.wrap ((i : Int) - 1)))))]) := by kernel_rfl
theorem m_x4 (b : Bool) : evl (S 38 (mJ l c i (up j 34 (vB b))) [] true).tmps (cx m4c) = vB b := by kernel_rfl
theorem m_r5 : @regionOf ι (@EA ι) (sa (ca m4c)) (S 38 (mJ l c i j) [] true) = some (S 38 (mJ l c i (up j 2 (vB false))) [] true) := by kernel_rfl
theorem m_r3 : @regionOf ι (@EA ι) m3 (S 38 (mJ l c i j) [] true) = some (S 38 (mJ l c (IntKind.i64.wrap ((i : Int) + 1)) (up (up j 8 (vI i)) 9 (vI (IntKind.i64.wrap ((i : Int) + 1))))) [] true) := by kernel_rfl
theorem m_r6 : @regionOf ι (@EA ι) m6 (S 38 (mJ l c i j) [] true) = some (S 38 (mJ l c i (up (up (up (up j 35 (tok 0 l c, true)) 36 (vI l)) 37 (vB (decide ((l : Int) ≤ 64)))) 2 (vB (decide ((l : Int) ≤ 64))))) [] true) := by kernel_rfl
theorem m_end (b : Bool) : @finK ι Try.prog Try.f24 .ret (S 38 (mJ l c i (up j 2 (vB b))) [] true) = some (.bool b, [], true) := by kernel_rfl
theorem p_start : startS Try.f13 [tok 0 l c] [] = S 23 (up j0 0 (tok 0 l c, true)) [] true := by kernel_rfl
theorem p_r0 : @regionOf ι (@EA ι) p0 (S 23 (up j 0 (tok 0 l c, true)) [] true) = some (S 23 (up (up j 2 (vB false)) 0 (tok 0 l c, true)) [] true) := by kernel_rfl
theorem p_r1 : @regionOf ι (@EA ι) p1 (S 23 (up j 0 (tok 0 l c, true)) [] true) = some (S 23 (up (up (up (up j 6 (tok 0 l c, true)) 7 (vI l)) 8 (vB (decide (64 < (l : Int))))) 0 (tok 0 l c, true)) [] true) := by kernel_rfl
theorem p_x1 (b : Bool) : evl (S 23 (up (up j 8 (vB b)) 0 (tok 0 l c, true)) [] true).tmps (cx p1c) = vB b := by kernel_rfl
theorem p_r2 : @regionOf ι (@EA ι) (sa (ca p1c)) (S 23 (up j 0 (tok 0 l c, true)) [] true) = some (S 23 (up (up j 0 (tok 0 l c, true)) 2 (vB false)) [] true) := by kernel_rfl
theorem p_r3 : @regionOf ι (@EA ι) p3 (S 23 (up j 0 (tok 0 l c, true)) [] true) = some (S 23 (up (up j 3 (vI 0)) 0 (tok 0 l c, true)) [] true) := by kernel_rfl
theorem p_r4 : @regionOf ι (@EA ι) p4 (S 23 (up (up j 3 (vI 0)) 0 (tok 0 l c, true)) [] true) = some (S 23 (pJ l c 0 ((0 : Nat) : Int) (up j 0 (tok 0 l c, true))) [] true) := by kernel_rfl
theorem p_r5 : @regionOf ι (@EA ι) p5 (S 23 (pJ l c z i j) [] true) = some (S 23 (pJ l c z i (up j 12 (vB (decide ((i : Int) < (l : Int)))))) [] true) := by kernel_rfl
theorem p_x5 (b : Bool) : evl (S 23 (pJ l c z i (up j 12 (vB b))) [] true).tmps (cx p5c) = vB b := by kernel_rfl
theorem p_r6 : @regionOf ι (@EA ι) p6 (S 23 (pJ l c z i j) [] true) = some (S 23 (pK l c z i (up (up j 13 (.pointer (some ⟨0, i * 17, some 0⟩), true)) 14 (.agg (recAt 17 (Frn.row 0) i).toArray, true))) (pH (setRow zP 0 (recAt 17 (Frn.row 0) i)))
    ((Nat.beq (recAt 17 (Frn.row 0) i).length 17 && (recAt 17 (Frn.row 0) i).all scalarB && Nat.ble (0 + (recAt 17 (Frn.row 0) i).length) 17) && (Nat.ble (i * 17 + 17) (Frn.row 0).length && (inB i l && true)))) := by kernel_rfl
noncomputable def reB (r : List Value) : Bool := r[0 + 0]?.isSome && isIntB .i64 (r.getD (0 + 0) undef)
noncomputable def reN (r : List Value) : Int := Ev.intOf (r.getD (0 + 0) undef)
theorem p_r7 : @regionOf ι (@EA ι) p7 (S 23 (pK l c z i j) (pH r) true) = some (S 23 (pK l c z i (up (up (up (up (up j 15 (vI z)) 16 vP2) 17 (vI (reN r))) 18 (vB (inT (reN r) && decide (z ≤ reN r)))) 19 (vB (!(inT (reN r) && decide (z ≤ reN r)))))) (pH r) (reB r && true)) := by kernel_rfl
theorem p_x7 (b : Bool) : evl (S 23 (pK l c z i (up j 19 (vB b))) (pH r) true).tmps (cx p7c) = vB b := by kernel_rfl
theorem p_r8 : @regionOf ι (@EA ι) (sa (ca p7c)) (S 23 (pK l c z i j) (pH r) true) = some (S 23 (pK l c z i (up j 2 (vB false))) (pH r) true) := by kernel_rfl
theorem p_r9 : @regionOf ι (@EA ι) p9 (S 23 (pK l c z i j) (pH r) true) = some (S 23 (pK l c (reN r) i (up (up j 20 vP2) 21 (vI (reN r)))) (pH r) (reB r && true)) := by kernel_rfl
theorem p_r10 : @regionOf ι (@EA ι) p10 (S 23 (pK l c z i j) (pH r) true) = some (S 23 (pK l c z (IntKind.i64.wrap ((i : Int) + 1)) (up j 22 (vI (IntKind.i64.wrap ((i : Int) + 1))))) (pH r) true) := by kernel_rfl
theorem p_r11 : @regionOf ι (@EA ι) p11 (S 23 (pJ l c z i j) [] true) = some (S 23 (pJ l c z i (up j 2 (vB true))) [] true) := by kernel_rfl
theorem p_end (b : Bool) : @finK ι Try.prog Try.f13 .ret (S 23 (pJ l c z i (up j 2 (vB b))) [] true) = some (.bool b, [], true) := by kernel_rfl
theorem p_end2 (b : Bool) : @finK ι Try.prog Try.f13 .ret (S 23 (up j 2 (vB b)) [] true) = some (.bool b, [], true) := by kernel_rfl
end
end Sm
end Go.Proofs.Ytljmhdaphpdkgaa
end
