/-
  Drift: sums of numbers. No condition.
-/
import Derived.Test.YtljmhdaphpdkgaaIf
set_option linter.unusedSectionVars false
set_option linter.unusedVariables false
noncomputable section
namespace Go.Proofs.Ytljmhdaphpdkgaa
namespace Dr
open Go Go.ChangeShapes Go.WideShapes Go.ChangeAt Go.RowKit Ev Mc
noncomputable abbrev EN [Frn] : Env := conE Try.prog noOrc (fun f => seek f [])
noncomputable def nC : Code := (Try.f44.body.getD .skip)
theorem n_body : Try.f44.body = some nC := by kernel_rfl
noncomputable def n0 : Code := sa nC
noncomputable def n1 : Code := sa (sb nC)
noncomputable def n2 : Code := sa (sa (sb (sb nC)))
noncomputable def nL : Code := inn (inn (sb (sa (sb (sb nC)))))
noncomputable def n3 : Code := sa nL
noncomputable def n3c : Code := sa (sb nL)
noncomputable def n4 : Code := sa (inn (sa (sb (sb nL))))
noncomputable def n5 : Code := sb (inn (sa (sb (sb nL))))
noncomputable def n6 : Code := sb (sb (sb nL))
noncomputable def n7 : Code := sa (sb (sb (sb nC)))
noncomputable def nB : Code := .seq n3 (.seq (.cond (cx n3c) .skip (.exit 0)) (.seq (.block 1 (.seq n4 n5)) n6))
theorem n_shape : nC = .seq n0 (.seq n1 (.seq (.seq n2 (.block 0 (.loop nB))) (.seq n7 .ret))) := by kernel_rfl
/-- the list, and the list without its first -/
def tN (m c : Nat) : Value × Bool := (tokC 0 (m + 1) c, true)
def uN (m c : Nat) : Value × Bool := (.slice (some ⟨0, 1, some 1⟩) m c, true)
def xN (r : List Value) (k : Nat) : Nat := numOf (r.getD (k * 1) undef)
def fN (r : List Value) (k : Nat) : Bool := r[k * 1]?.isSome && isNumB .f32 (r.getD (k * 1) undef)
def oN (i : Nat) : Nat := 0 + 1 + i * 1
def xO (r : List Value) (i : Nat) : Nat := numOf (r.getD (oN i) undef)
def fO (r : List Value) (i : Nat) : Bool := r[oN i]?.isSome && isNumB .f32 (r.getD (oN i) undef)
noncomputable def N (m c : Nat) (a s : Nat) (i : Int) (j : J) : St := ⟨[tN m c, vU, vFl 0, vFl s, vU, j 5, tN m c, (.pointer (some ⟨0, 0, some 0⟩), true), vFl a, tN m c, uN m c, vI m, vI i, j 13, j 14, j 15, j 16, j 17, j 18, j 19, vU], [], true⟩
section
variable (ι : Frn) (m c i : Nat) (a s x : Nat) (j : J) (b : Bool)
theorem n_start : startS Try.f44 [tokC 0 (m + 1) c] [] = ⟨[tN m c, vU, vU, vU, vU, vU, vU, vU, vU, vU, vU, vU, vU, vU, vU, vU, vU, vU, vU, vU, vU], [], true⟩ := by kernel_rfl
theorem n_r0 : @regionOf ι (@EN ι) n0 ⟨[tN m c, vU, vU, vU, vU, vU, vU, vU, vU, vU, vU, vU, vU, vU, vU, vU, vU, vU, vU, vU, vU], [], true⟩ = some ⟨[tN m c, vU, vFl 0, vU, vU, vU, vU, vU, vU, vU, vU, vU, vU, vU, vU, vU, vU, vU, vU, vU, vU], [], true⟩ := by kernel_rfl
theorem n_r1 : @regionOf ι (@EN ι) n1 ⟨[tN m c, vU, vFl 0, vU, vU, vU, vU, vU, vU, vU, vU, vU, vU, vU, vU, vU, vU, vU, vU, vU, vU], [], true⟩ = some ⟨[tN m c, vU, vFl 0, vFl (xN (Frn.row 0) 0), vU, vU, tN m c, (.pointer (some ⟨0, 0, some 0⟩), true), vFl (xN (Frn.row 0) 0), vU, vU, vU, vU, vU, vU, vU, vU, vU, vU, vU, vU], [], fN (Frn.row 0) 0 && (inB 0 (m + 1) && true)⟩ := by kernel_rfl
theorem n_r2 : @regionOf ι (@EN ι) n2 ⟨[tN m c, vU, vFl 0, vFl a, vU, vU, tN m c, (.pointer (some ⟨0, 0, some 0⟩), true), vFl a, vU, vU, vU, vU, vU, vU, vU, vU, vU, vU, vU, vU], [], true⟩ = some ⟨(N m c a a ((0 : Nat) : Int) fun _ => vU).tmps, [], decide (1 ≤ ((m + 1 : Nat) : Int)) && true⟩ := by kernel_rfl
theorem n_r3 : @regionOf ι (@EN ι) n3 (N m c a s i j) = some (N m c a s i (up j 13 (vB (decide ((i : Int) < (m : Int)))))) := by kernel_rfl
theorem n_x3 : evl (N m c a s i (up j 13 (vB b))).tmps (cx n3c) = vB b := by kernel_rfl
theorem n_r4 : @regionOf ι (@EN ι) n4 (N m c a s i j) = some ⟨(N m c a s i (up (up (up j 14 (.pointer (some ⟨0, oN i, some 0⟩), true)) 15 (vFl (xO (Frn.row 0) i))) 5 (vFl (xO (Frn.row 0) i)))).tmps, [], fO (Frn.row 0) i && (inB i m && true)⟩ := by kernel_rfl
theorem n_r5 : @regionOf ι (@EN ι) n5 (N m c a s i (up j 5 (vFl x))) = some (N m c a (fadd .f32 s x) i (up (up (up (up j 5 (vFl x)) 16 (vFl s)) 17 (vFl x)) 18 (vFl (fadd .f32 s x)))) := by kernel_rfl
theorem n_r6 : @regionOf ι (@EN ι) n6 (N m c a s i j) = some (N m c a s (IntKind.i64.wrap ((i : Int) + 1)) (up j 19 (vI (IntKind.i64.wrap ((i : Int) + 1))))) := by kernel_rfl
noncomputable def N7 (m c : Nat) (a s : Nat) (i : Int) (j : J) : St := ⟨[tN m c, vU, vFl s, vFl s, vU, j 5, tN m c, (.pointer (some ⟨0, 0, some 0⟩), true), vFl a, tN m c, uN m c, vI m, vI i, j 13, j 14, j 15, j 16, j 17, j 18, j 19, vFl s], [], true⟩
theorem n_r7 : @regionOf ι (@EN ι) n7 (N m c a s i j) = some (N7 m c a s i j) := by kernel_rfl
theorem n_end : @finK ι Try.prog Try.f44 .ret (N7 m c a s i j) = some (.float .f32 s, [], true) := by kernel_rfl
end
/-! ### the sum -/
def sumN (r : List Value) : Nat → Nat
  | 0 => xN r 0
  | k + 1 => fadd .f32 (sumN r k) (xO r k)
section
variable (ι : Frn) {m : Nat} {r : List Value}
theorem n_round (hE : @EnvOk ι (@EN ι)) (hr : @Frn.row ι 0 = r) (hf : ∀ k, k < m + 1 → fN r k = true) (c i : Nat) (a : Nat) (hm : m < 1000) (hi : i < m) (j : J) :
    ∃ j', @Leads ι (@EN ι) 0 nB (N m c a (sumN r i) i j) .normal (N m c a (sumN r (i + 1)) ((i + 1 : Nat) : Int) j') := by
  letI : Frn := ι
  have l3 := Leads.reg (N := 0) (n0 := 0) hE mixed (show codeOk n3 = true by kernel_rfl) (n_r3 ι m c i a (sumN r i) j) rfl
  rw [decide_eq_true (show ((i : Int)) < (m : Int) by omega)] at l3
  have l3c := Leads.condT (E := @EN ι) (n0 := 0) (a := .skip) (b := .exit 0) (n_x3 m c i a (sumN r i) j true) Leads.skip
  have e4 := n_r4 ι m c i a (sumN r i) (up j 13 (vB true))
  have hfo : fO r i = true := by
    have := hf (i + 1) (by omega)
    unfold fN at this
    unfold fO
    rwa [show oN i = (i + 1) * 1 by unfold oN; omega]
  rw [hr, hfo, inB_true hi] at e4
  have l4 := Leads.reg (N := 0) (n0 := 0) hE mixed (show codeOk n4 = true by kernel_rfl) e4 rfl
  have l5 := Leads.reg (N := 0) (n0 := 0) hE mixed (show codeOk n5 = true by kernel_rfl) (n_r5 ι m c i a (sumN r i) (xO r i) (up (up (up j 13 (vB true)) 14 (.pointer (some ⟨0, oN i, some 0⟩), true)) 15 (vFl (xO r i)))) rfl
  have e6 := n_r6 ι m c i a (fadd .f32 (sumN r i) (xO r i)) (up (up (up (up (up (up (up j 13 (vB true)) 14 (.pointer (some ⟨0, oN i, some 0⟩), true)) 15 (vFl (xO r i))) 5 (vFl (xO r i))) 16 (vFl (sumN r i))) 17 (vFl (xO r i))) 18 (vFl (fadd .f32 (sumN r i) (xO r i))))
  rw [wrap_in (by omega) (by omega), show ((i : Int) + 1) = ((i + 1 : Nat) : Int) from rfl] at e6
  have l6 := Leads.reg (N := 0) (n0 := 0) hE mixed (show codeOk n6 = true by kernel_rfl) e6 rfl
  exact ⟨_, Leads.seq l3 (Leads.seq l3c (Leads.seq (Leads.block (id := 1) (Leads.seq l4 l5)) l6))⟩
theorem n_loop (hE : @EnvOk ι (@EN ι)) (hr : @Frn.row ι 0 = r) (hf : ∀ k, k < m + 1 → fN r k = true) (c : Nat) (a : Nat) (hm : m < 1000) : ∀ (q i : Nat) (j : J), i + q = m →
    ∃ j', @LeadsL ι (@EN ι) 0 (q + 1) nB (N m c a (sumN r i) i j) (.exit 0) (N m c a (sumN r m) (m : Int) j')
  | 0, i, j, h => by
    letI : Frn := ι
    have hi : i = m := by omega
    rw [hi]
    have l3 := Leads.reg (N := 0) (n0 := 0) hE mixed (show codeOk n3 = true by kernel_rfl) (n_r3 ι m c m a (sumN r m) j) rfl
    rw [decide_eq_false (show ¬ ((m : Int)) < (m : Int) by omega)] at l3
    exact ⟨_, LeadsL.stopX (Leads.seq l3 (Leads.seqX (Leads.condF (E := @EN ι) (n0 := 0) (a := .skip) (b := .exit 0) (n_x3 m c m a (sumN r m) j false) Leads.exit)))⟩
  | q + 1, i, j, h => by
    obtain ⟨j1, k1⟩ := n_round ι hE hr hf c i a hm (by omega) j
    obtain ⟨j2, k2⟩ := n_loop hE hr hf c a hm q (i + 1) j1 (by omega)
    exact ⟨j2, LeadsL.more k1 k2⟩
theorem n_leads (hE : @EnvOk ι (@EN ι)) (hr : @Frn.row ι 0 = r) (hf : ∀ k, k < m + 1 → fN r k = true) (c : Nat) (hm : m < 1000) :
    ∃ s', @Leads ι (@EN ι) 0 nC (startS Try.f44 [tokC 0 (m + 1) c] []) .ret s' ∧ @finK ι Try.prog Try.f44 .ret s' = some (.float .f32 (sumN r m), [], true) := by
  letI : Frn := ι
  rw [n_start, n_shape]
  have l0 := Leads.reg (N := 0) (n0 := 0) hE mixed (show codeOk n0 = true by kernel_rfl) (n_r0 ι m c) rfl
  have e1 := n_r1 ι m c
  rw [hr, hf 0 (by omega), show inB 0 (m + 1) = true from inB_true (i := 0) (by omega)] at e1
  have l1 := Leads.reg (N := 0) (n0 := 0) hE mixed (show codeOk n1 = true by kernel_rfl) e1 rfl
  have e2 := n_r2 ι m c (xN r 0)
  rw [decide_eq_true (show (1 : Int) ≤ ((m + 1 : Nat) : Int) by omega)] at e2
  have l2 := Leads.reg (N := 0) (n0 := 0) hE mixed (show codeOk n2 = true by kernel_rfl) e2 rfl
  obtain ⟨j1, q1⟩ := n_loop ι hE hr hf c (xN r 0) hm m 0 (fun _ => vU) (by omega)
  have l7 := Leads.reg (N := 0) (n0 := 0) hE mixed (show codeOk n7 = true by kernel_rfl) (n_r7 ι m c m (xN r 0) (sumN r m) j1) rfl
  exact ⟨_, Leads.seq l0 (Leads.seq l1 (Leads.seq (Leads.seq l2 (Leads.blockX (Leads.loop q1))) (Leads.seq l7 Leads.ret))), n_end ι m c m (xN r 0) (sumN r m) j1⟩
end
end Dr
end Go.Proofs.Ytljmhdaphpdkgaa
end
