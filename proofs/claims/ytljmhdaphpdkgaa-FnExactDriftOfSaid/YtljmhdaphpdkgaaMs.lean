/-
  Means of counts: states of the functions that tell them. No condition.
-/
import Derived.Test.YtljmhdaphpdkgaaKc
import Derived.Test.YtljmhdaphpdkgaaNe
set_option linter.unusedSectionVars false
set_option linter.unusedVariables false
noncomputable section
namespace Go.Proofs.Ytljmhdaphpdkgaa
namespace Mc
open Go Go.ChangeShapes Go.WideShapes Go.ChangeAt Go.RowKit Ev
/-- the counts of sample k at wavelength w -/
noncomputable def cnN (cs : List Value) (k w : Int) : Int := Ev.intOf (cs.getD (k.toNat * 17 + 1 + w.toNat * 1) undef)
noncomputable def vT (k l c : Nat) : Value × Bool := (tok k l c, true)
noncomputable def vJ : Value × Bool := (jnk, true)
noncomputable def vP (n : Nat) : Value × Bool := (.pointer (some ⟨n, 0, none⟩), true)
noncomputable def vS (n l : Nat) : Value × Bool := (.slice (some ⟨n, 0, none⟩) l l, true)
noncomputable def vN : Value × Bool := (.slice none 0 0, true)
noncomputable def vF : Value × Bool := (.func (.func 37) #[] #[], true)
/-! ### countsAt -/
noncomputable def aC : Code := (Try.f36.body.getD .skip)
theorem a_body : Try.f36.body = some aC := by kernel_rfl
theorem a_ok : codeOk aC = true := by kernel_rfl
noncomputable def a0 : Code := sa aC
noncomputable def a1 : Code := sa (sb aC)
noncomputable def a2 : Code := sa (sa (sb (sb aC)))
noncomputable def aL : Code := inn (inn (sb (sa (sb (sb aC)))))
noncomputable def a3 : Code := sa aL
noncomputable def a3c : Code := sa (sb aL)
noncomputable def a4 : Code := sa (inn (sa (sb (sb aL))))
noncomputable def a5 : Code := sb (inn (sa (sb (sb aL))))
noncomputable def a6 : Code := sb (sb (sb aL))
noncomputable def a7 : Code := sa (sb (sb (sb aC)))
noncomputable def aBody : Code := .seq a3 (.seq (.cond (cx a3c) .skip (.exit 0)) (.seq (.block 1 (.seq a4 a5)) a6))
theorem a_shape : aC = .seq a0 (.seq a1 (.seq (.seq a2 (.block 0 (.loop aBody))) (.seq a7 .ret))) := by kernel_rfl
noncomputable def aJ (l c : Nat) (w : Int) (v5 : Value × Bool) (i : Int) (j : J) : J := up (up (up (up (up (up j 0 (vT 0 l c)) 1 (vI w)) 5 v5) 8 (vT 0 l c)) 9 (vI l)) 10 (vI i)
/-! ### sumOver -/
noncomputable def sC : Code := (Try.f35.body.getD .skip)
theorem s_body : Try.f35.body = some sC := by kernel_rfl
theorem s_ok : codeOk sC = true := by kernel_rfl
noncomputable def s0 : Code := sa sC
noncomputable def s1 : Code := sa (sb sC)
noncomputable def s2 : Code := sa (sa (sb (sb sC)))
noncomputable def sL : Code := inn (inn (sb (sa (sb (sb sC)))))
noncomputable def s3 : Code := sa sL
noncomputable def s3c : Code := sa (sb sL)
noncomputable def s4 : Code := sa (inn (sa (sb (sb sL))))
noncomputable def s5 : Code := sb (inn (sa (sb (sb sL))))
noncomputable def s6 : Code := sb (sb (sb sL))
noncomputable def s7 : Code := sa (sb (sb (sb sC)))
noncomputable def sBody : Code := .seq s3 (.seq (.cond (cx s3c) .skip (.exit 0)) (.seq (.block 1 (.seq s4 s5)) s6))
theorem s_shape : sC = .seq s0 (.seq s1 (.seq (.seq s2 (.block 0 (.loop sBody))) (.seq s7 .ret))) := by kernel_rfl
noncomputable def sJ (l c : Nat) (z i : Int) (j : J) : J := up (up (up (up (up (up j 0 (vT 0 l c)) 1 vF) 5 (vI z)) 8 (vT 0 l c)) 9 (vI l)) 10 (vI i)
/-! ### the model -/
noncomputable def mC : Code := (Try.f19.body.getD .skip)
theorem m_body : Try.f19.body = some mC := by kernel_rfl
theorem m_ok : codeOk mC = true := by kernel_rfl
noncomputable def m0 : Code := sa mC
noncomputable def m1 : Code := sa (sb mC)
noncomputable def m2 : Code := sa (sa (sb (sb mC)))
noncomputable def mL : Code := inn (inn (sb (sa (sb (sb mC)))))
noncomputable def m3 : Code := sa (sa mL)
noncomputable def m3c : Code := sb (sa mL)
noncomputable def mI : Code := inn (sa (sb mL))
noncomputable def m5 : Code := sa mI
noncomputable def m6 : Code := sa (sa (sb mI))
noncomputable def mK : Code := inn (inn (sb (sa (sb mI))))
noncomputable def m7 : Code := sa (sa mK)
noncomputable def m7c : Code := sb (sa mK)
noncomputable def m9 : Code := inn (sa (sb mK))
noncomputable def m8 : Code := sb (sb mK)
noncomputable def m10 : Code := sb (sb mI)
noncomputable def m4 : Code := sb (sb mL)
noncomputable def m11 : Code := sa (sb (sb (sb mC)))
noncomputable def mBodyK : Code := .seq (.seq m7 (.cond (cx m7c) .skip (.exit 2))) (.seq (.block 3 m9) m8)
noncomputable def mBody : Code := .seq (.seq m3 (.cond (cx m3c) .skip (.exit 0))) (.seq (.block 1 (.seq m5 (.seq (.seq m6 (.block 2 (.loop mBodyK))) m10))) m4)
theorem m_shape : mC = .seq m0 (.seq m1 (.seq (.seq m2 (.block 0 (.loop mBody))) (.seq m11 .ret))) := by kernel_rfl
/-- 0: the list, 2, 3: the counts, 4: the wavelength -/
noncomputable def mJ (l c : Nat) (w : Int) (j : J) : J := up (up (up (up j 0 (vT 0 l c)) 2 (vP 0)) 3 (vP 2)) 4 (vI w)
/-- 5: the sum, 6: the index -/
noncomputable def mJ2 (l c : Nat) (w z i : Int) (j : J) : J := up (up (mJ l c w j) 5 (vI z)) 6 (vI i)
end Mc
end Go.Proofs.Ytljmhdaphpdkgaa
end
