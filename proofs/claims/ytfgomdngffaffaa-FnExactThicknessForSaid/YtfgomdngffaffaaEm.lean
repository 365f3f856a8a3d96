/-
  The ends of curves: where the model and the program lead. No condition.
-/
import Derived.Test.YtfgomdngffaffaaEn
set_option linter.unusedSectionVars false
set_option linter.unusedVariables false
noncomputable section
namespace Go.Proofs.Ytfgomdngffaffaa
namespace En
open Go Go.ChangeShapes Go.WideShapes Go.ChangeAt Go.RowKit Ev

section
variable [Frn]
/-- one round -/
theorem le_round (z : Nat → Nat) (g : Bool) (i : Nat) (hi : i < 16) (j : J) : ∃ j', Goes EE 30 leBody (S 55 (lJ g (atI (endAt g z i)) i j) (H z) true) .normal (S 55 (lJ g (atI (endAt g z (i + 1))) ((i + 1 : Nat) : Int) j') (H z) true) := by
  have g3 := Goes.reg (N := 27) (le_r3 z g (atI (endAt g z i)) i j)
  have c3 := (le_c3 z g (atI (endAt g z i)) i (decide ((i : Int) < 16)) (up j 8 (vI i))).trans (show vB (decide ((i : Int) < 16)) = vB true by rw [decide_eq_true (show (i : Int) < 16 by omega)])
  have g3c := Goes.condT (E := EE) (N := 27) (a := .skip) (b := .exit 0) c3 (Goes.skip (N := 26))
  generalize (up (up j 8 (vI i)) 9 (vB (decide ((i : Int) < 16)))) = j3 at g3 g3c
  obtain ⟨j5, h5, e5⟩ := reg_see (le5_see z g (atI (endAt g z i)) j3 i hi) rfl
  simp only [sl5, List.map_cons, List.map_nil, List.cons.injEq, and_true] at e5
  obtain ⟨a1, a2, a6, a7, a18⟩ := e5
  rw [← lJ_of a1 a2 a6 a7, ← up_self a18] at h5
  have g5 := Goes.reg (N := 23) h5
  have fin : ∀ (o : Option Nat) (jx : J), Goes EE 28 (.block 1 (.seq (.seq le5 (.cond (cx le5c) (.exit 1) .skip)) (.seq le6 (.cond (cx le6c) le7 .skip)))) (S 55 (lJ g (atI (endAt g z i)) i j3) (H z) true) .normal (S 55 (lJ g (atI o) i jx) (H z) true) → o = endAt g z (i + 1) →
      ∃ j', Goes EE 30 leBody (S 55 (lJ g (atI (endAt g z i)) i j) (H z) true) .normal (S 55 (lJ g (atI (endAt g z (i + 1))) ((i + 1 : Nat) : Int) j') (H z) true) := fun o jx hb ho => by
    have h4 := le_r4 z g (atI o) i jx
    rw [wrap_in (by omega) (by omega)] at h4
    have g4 := Goes.reg (N := 27) h4
    rw [← ho]
    exact ⟨_, Goes.seq (N := 29) (Goes.seq (N := 28) g3 g3c) (Goes.seq (N := 28) hb g4)⟩
  cases hn : isN .f32 (z i) with
  | true =>
    have c5 := le_c5 z g (atI (endAt g z i)) i (fne .f32 (z i) (z i)) j5
    have c5 := c5.trans (show vB (fne .f32 (z i) (z i)) = vB true by rw [fne_N hn])
    have g5c := Goes.condT (E := EE) (N := 23) (a := .exit 1) (b := .skip) c5 (Goes.exit (N := 22))
    refine fin (endAt g z i) _ (Goes.blockX (N := 27) ((Goes.seqX (N := 25) (Goes.seq (N := 24) g5 g5c)).more (by omega))) ?_
    show _ = bif isN .f32 (z i) then _ else _
    rw [hn]; rfl
  | false =>
    have c5 := le_c5 z g (atI (endAt g z i)) i (fne .f32 (z i) (z i)) j5
    have c5 := c5.trans (show vB (fne .f32 (z i) (z i)) = vB false by rw [fne_self hn])
    have g5c := Goes.condF (E := EE) (N := 23) (a := .exit 1) (b := .skip) c5 (Goes.skip (N := 22))
    generalize (up j5 18 (vB (fne .f32 (z i) (z i)))) = jq at g5 g5c
    have step : endAt g z (i + 1) = match endAt g z i with | none => some i | some a => bif cmpE g (z i) (z a) then some i else some a := by
      show (bif isN .f32 (z i) then _ else _) = _
      rw [hn]; rfl
    have six : ∃ (b : Bool) (j6 : J), regionOf EE le6 (S 55 (lJ g (atI (endAt g z i)) i jq) (H z) true) = some (S 55 (lJ g (atI (endAt g z i)) i (up j6 45 (vB b))) (H z) true) ∧ endAt g z (i + 1) = bif b then some i else endAt g z i := by
      cases he : endAt g z i with
      | none =>
        obtain ⟨j6, h6, e6⟩ := reg_see (le6_none z g jq i hi) rfl
        simp only [sl6, List.map_cons, List.map_nil, List.cons.injEq, and_true] at e6
        obtain ⟨b1, b2, b6, b7, b45⟩ := e6
        rw [← lJ_of b1 b2 b6 b7, ← up_self b45] at h6
        refine ⟨true, j6, h6, ?_⟩
        rw [step, he]; rfl
      | some a =>
        have ha : a < i := (endAt_some he).1
        obtain ⟨k, e, hk⟩ := le6_some z g i a hi (by omega) jq
        obtain ⟨j6, h6, e6⟩ := reg_see e hk
        simp only [sl6, List.map_cons, List.map_nil, List.cons.injEq, and_true] at e6
        obtain ⟨b1, b2, b6, b7, b45⟩ := e6
        rw [← lJ_of b1 b2 b6 b7, ← up_self b45] at h6
        refine ⟨cmpE g (z i) (z a), j6, h6, ?_⟩
        rw [step, he]
    obtain ⟨b, j6, h6, he⟩ := six
    have g6 := Goes.reg (N := 23) h6
    have c6 := le_c6 z g (atI (endAt g z i)) i b j6
    cases b with
    | true =>
      have g6c := Goes.condT (E := EE) (N := 23) (a := le7) (b := .skip) c6 (Goes.reg (N := 22) (le_r7 z g (atI (endAt g z i)) i _))
      exact fin (some i) _ (Goes.block (N := 27) ((Goes.seq (N := 25) (Goes.seq (N := 24) g5 g5c) (Goes.seq (N := 24) g6 g6c)).more (by omega))) he.symm
    | false =>
      have g6c := Goes.condF (E := EE) (N := 23) (a := le7) (b := .skip) c6 (Goes.skip (N := 22))
      exact fin (endAt g z i) _ (Goes.block (N := 27) ((Goes.seq (N := 25) (Goes.seq (N := 24) g5 g5c) (Goes.seq (N := 24) g6 g6c)).more (by omega))) he.symm
theorem le_stop (z : Nat → Nat) (g : Bool) (a : Int) (j : J) : ∃ j', Goes EE 30 leBody (S 55 (lJ g a ((16 : Nat) : Int) j) (H z) true) (.exit 0) (S 55 (lJ g a ((16 : Nat) : Int) j') (H z) true) := by
  have c3 := (le_c3 z g a ((16 : Nat) : Int) (decide (((16 : Nat) : Int) < 16)) (up j 8 (vI ((16 : Nat) : Int)))).trans (show vB (decide (((16 : Nat) : Int) < 16)) = vB false by rw [decide_eq_false (by omega)])
  exact ⟨_, Goes.seqX (N := 29) (Goes.seq (N := 28) (Goes.reg (N := 27) (le_r3 z g a 16 j)) (Goes.condF (N := 27) c3 (Goes.exit (N := 26))))⟩
theorem le_goes (z : Nat → Nat) (g : Bool) : ∃ N s', Goes EE N leC (startS Try.f34 [.agg (zrow z).toArray, .bool g] []) .ret s' ∧ ∃ h', finK Try.prog Try.f34 .ret s' = some (.tuple #[.float .f32 (ansF z (endAt g z 16)), .int .i64 (ansI (endAt g z 16))], h', true) := by
  obtain ⟨jl, hl⟩ := Goes.upto (l := 16) (N := 30) (id := 0) (E := EE) (T := fun (i : Nat) (j : J) => S 55 (lJ g (atI (endAt g z i)) i j) (H z) true) (fun i j hi => le_round z g i hi j) (fun j => le_stop z g _ j) 16 0 (up (up (up j0 0 (vA z)) 4 (vF 0)) 5 (vI 0)) (by omega)
  have r0 := le_r0 z g
  have r1 := le_r1 z g (up (up (up j0 0 (vA z)) 4 (vF 0)) 5 (vI 0))
  have r2 := le_r2 z g (up (up (up j0 0 (vA z)) 4 (vF 0)) 5 (vI 0)) (-1)
  have same : S 55 (up (up (up (up (up j0 0 (vA z)) 1 (vB g)) 2 vP) 4 (vF 0)) 5 (vI 0)) (H z) true = S 55 (up (up (up (up (up j0 0 (vA z)) 4 (vF 0)) 5 (vI 0)) 1 (vB g)) 2 vP) (H z) true := by kernel_rfl
  rw [same] at r0
  have g0 := (Goes.reg (N := 50) r0).more (show 51 ≤ 60 by omega)
  have g1 := (Goes.reg (N := 50) r1).more (show 51 ≤ 59 by omega)
  have g2 := (Goes.reg (N := 50) r2).more (show 51 ≤ 57 by omega)
  have gL := Goes.blockX hl
  have gA := Goes.seq (N := 57) g2 (gL.more (by omega))
  have r8 := le_r8 z g (atI (endAt g z 16)) ((16 : Nat) : Int) jl
  have g8 := (Goes.reg (N := 50) r8).more (show 51 ≤ 55 by omega)
  rw [le_start, le_shape]
  cases he : endAt g z 16 with
  | none =>
    rw [he] at g8 gA
    have c8 := (le_c8 z g (-1) ((16 : Nat) : Int) (decide ((-1 : Int) < 0)) (up jl 47 (vI (-1))))
    obtain ⟨j9, r9⟩ := le_r9 z g (-1) ((16 : Nat) : Int) (up (up jl 47 (vI (-1))) 48 (vB (decide ((-1 : Int) < 0))))
    have g9 := Goes.seq (N := 52) ((Goes.reg (N := 50) r9).more (by omega)) (Goes.ret (N := 51))
    have g8c := Goes.condT (E := EE) (a := .seq le9 .ret) (b := .skip) c8 g9
    exact ⟨_, _, Goes.seq (N := 60) g0 (Goes.seq (N := 59) g1 (Goes.seq (N := 58) gA (Goes.seqR (N := 57) ((Goes.seq (N := 55) g8 (g8c.more (by omega))).more (by omega))))), _, le_end _ _ _ _⟩
  | some a =>
    rw [he] at g8 gA
    have ha : a < 16 := (endAt_some he).1
    have c8 := (le_c8 z g (a : Int) ((16 : Nat) : Int) (decide ((a : Int) < 0)) (up jl 47 (vI a))).trans (show vB (decide ((a : Int) < 0)) = vB false by rw [decide_eq_false (by omega)])
    have g8c := Goes.condF (E := EE) (N := 53) (a := .seq le9 .ret) (b := .skip) c8 (Goes.skip (N := 52))
    obtain ⟨j10, r10, e10⟩ := reg_see (le10_see z g ((16 : Nat) : Int) (up (up jl 47 (vI a)) 48 (vB (decide ((a : Int) < 0)))) a ha) rfl
    simp only [List.map_cons, List.map_nil, List.cons.injEq, and_true] at e10
    have hr : up (up j10 4 (vF (z a))) 5 (vI a) = j10 := by rw [up_self e10.1, up_self e10.2]
    have g10 := Goes.seq (N := 55) ((Goes.reg (N := 50) r10).more (by omega)) (Goes.ret (N := 54))
    refine ⟨_, _, Goes.seq (N := 60) g0 (Goes.seq (N := 59) g1 (Goes.seq (N := 58) gA (Goes.seq (N := 57) ((Goes.seq (N := 55) g8 (g8c.more (by omega))).more (by omega)) (g10.more (by omega))))), H z, ?_⟩
    have := le_end (z a) (a : Int) j10 (H z)
    rw [hr] at this
    exact this

/-! ### the program -/
noncomputable def eoC : Code := (Try.f35.body.getD .skip)
noncomputable def eoX : Code := sb (inn (sb eoC))
noncomputable def elb : Code := sa (inn (sb eoC))
noncomputable def er0 : Code := sa eoC
noncomputable def er1 : Code := sa (sa eoX)
noncomputable def eLB : Code := inn (inn (sb (sa eoX)))
noncomputable def er2 : Code := sa eLB
noncomputable def er2c : Code := sa (sb eLB)
noncomputable def eBB : Code := inn (sa (sb (sb eLB)))
noncomputable def er11 : Code := sb (sb (sb eLB))
noncomputable def er3 : Code := sa eBB
noncomputable def er4 : Code := sa (sa (sb eBB))
noncomputable def er4c : Code := sb (sa (sb eBB))
noncomputable def er5 : Code := sa (sa (sb (sb eBB)))
noncomputable def eIB : Code := inn (inn (sb (sa (sb (sb eBB)))))
noncomputable def er10 : Code := sa (sb (sb (sb eBB)))
noncomputable def er6 : Code := sa eIB
noncomputable def er6c : Code := sa (sb eIB)
noncomputable def eb3 : Code := inn (sa (sb (sb eIB)))
noncomputable def er7 : Code := sa eb3
noncomputable def er8 : Code := sa (sb eb3)
noncomputable def er8c : Code := sb (sb eb3)
noncomputable def er9 : Code := sb (sb (sb eIB))
noncomputable def er12 : Code := sa (sb eoX)
noncomputable def eIBody : Code := .seq er6 (.seq (.cond (cx er6c) .skip (.exit 2)) (.seq (.block 3 (.seq er7 (.seq er8 (.cond (cx er8c) (.exit 1) .skip)))) er9))
noncomputable def eBody : Code := .seq er2 (.seq (.cond (cx er2c) .skip (.exit 0)) (.seq (.block 1 (.seq er3 (.seq (.seq er4 (.cond (cx er4c) (.exit 1) .skip)) (.seq (.seq er5 (.block 2 (.loop eIBody))) (.seq er10 .ret))))) er11))
theorem eo_shape : eoC = .seq er0 (.scope (.seq elb (.seq (.seq er1 (.block 0 (.loop eBody))) (.seq er12 .ret)))) := by kernel_rfl
theorem eo_label (s : St) (n : Nat) (k : Ex → St → Ans) : codeK EE (n + 1) elb s k = k .normal s := by kernel_rfl
theorem Goes.scope {E : Env} {N : Nat} {a : Code} {s s' : St} {e : Ex} (h : Goes E N a s e s') : Goes E (N + 1) (.scope a) s e s' := fun n hn k' => by
  obtain ⟨m, rfl⟩ : ∃ m, n = m + 1 := ⟨n - 1, by omega⟩
  simp only [codeK]
  exact h m (by omega) k'
theorem lb_goes {N : Nat} {s : St} : Goes EE (N + 1) elb s .normal s := fun n hn k' => by
  obtain ⟨m, rfl⟩ : ∃ m, n = m + 1 := ⟨n - 1, by omega⟩
  exact eo_label s m k'
def cl (g : Bool) : Nat := bif g then 37 else 36
def vC (g : Bool) : Value × Bool := (.func (.func (cl g)) #[] #[], true)
def oJ (z : Nat → Nat) (g : Bool) (i : Int) (j : J) : J := up (up (up (up j 1 (vC g)) 2 vP) 10 (vA z)) 11 (vI i)
def mJ (z : Nat → Nat) (g : Bool) (i : Int) (x : Nat) (j : J) : J := up (up (oJ z g i j) 6 (vI i)) 7 (vF x)
def kJ (z : Nat → Nat) (g : Bool) (i k : Int) (x : Nat) (j : J) : J := up (up (mJ z g i x j) 17 (vA z)) 18 (vI k)
theorem eo_start (z : Nat → Nat) (g : Bool) : startS Try.f35 [.agg (zrow z).toArray, .func (.func (cl g)) #[] #[]] [] = S 31 (up (up j0 0 (vA z)) 1 (vC g)) [] true := by kernel_rfl
theorem eo_r0 (z : Nat → Nat) (g : Bool) : regionOf EE er0 (S 31 (up (up j0 0 (vA z)) 1 (vC g)) [] true) = some (S 31 (up (up (up (up (up j0 0 (vA z)) 4 (vF 0)) 5 (vI 0)) 1 (vC g)) 2 vP) (H z) true) := by kernel_rfl
theorem eo_r1 (z : Nat → Nat) (g : Bool) (j : J) : regionOf EE er1 (S 31 (up (up j 1 (vC g)) 2 vP) (H z) true) = some (S 31 (oJ z g ((0 : Nat) : Int) j) (H z) true) := by kernel_rfl
theorem eo_r2 (z : Nat → Nat) (g : Bool) (i : Nat) (j : J) : regionOf EE er2 (S 31 (oJ z g i j) (H z) true) = some (S 31 (oJ z g i (up j 12 (vB (decide ((i : Int) < 16))))) (H z) true) := by kernel_rfl
theorem eo_c2 (z : Nat → Nat) (g : Bool) (i : Int) (b : Bool) (j : J) : evl (S 31 (oJ z g i (up j 12 (vB b))) (H z) true).tmps (cx er2c) = vB b := by kernel_rfl
theorem eo_r4 (z : Nat → Nat) (g : Bool) (i : Int) (x : Nat) (j : J) : regionOf EE er4 (S 31 (mJ z g i x j) (H z) true) = some (S 31 (mJ z g i x (up (up j 15 (vF x)) 16 (vB (isN .f32 x)))) (H z) true) := by kernel_rfl
theorem eo_c4 (z : Nat → Nat) (g : Bool) (i : Int) (x : Nat) (b : Bool) (j : J) : evl (S 31 (mJ z g i x (up j 16 (vB b))) (H z) true).tmps (cx er4c) = vB b := by kernel_rfl
theorem eo_r5 (z : Nat → Nat) (g : Bool) (i : Int) (x : Nat) (j : J) : regionOf EE er5 (S 31 (mJ z g i x j) (H z) true) = some (S 31 (kJ z g i ((0 : Nat) : Int) x j) (H z) true) := by kernel_rfl
theorem eo_r6 (z : Nat → Nat) (g : Bool) (i : Int) (k : Nat) (x : Nat) (j : J) : regionOf EE er6 (S 31 (kJ z g i k x j) (H z) true) = some (S 31 (kJ z g i k x (up j 19 (vB (decide ((k : Int) < 16))))) (H z) true) := by kernel_rfl
theorem eo_c6 (z : Nat → Nat) (g : Bool) (i k : Int) (x : Nat) (b : Bool) (j : J) : evl (S 31 (kJ z g i k x (up j 19 (vB b))) (H z) true).tmps (cx er6c) = vB b := by kernel_rfl
theorem eo_r8t (z : Nat → Nat) (i k : Int) (x y : Nat) (j : J) : regionOf EE er8 (S 31 (kJ z true i k x (up j 9 (vF y))) (H z) true) = some (S 31 (kJ z true i k x (up (up (up (up (up j 9 (vF y)) 21 (vC true)) 22 (vF y)) 23 (vF x)) 24 (vB (cmpE true y x)))) (H z) true) := by kernel_rfl
theorem eo_r8f (z : Nat → Nat) (i k : Int) (x y : Nat) (j : J) : regionOf EE er8 (S 31 (kJ z false i k x (up j 9 (vF y))) (H z) true) = some (S 31 (kJ z false i k x (up (up (up (up (up j 9 (vF y)) 21 (vC false)) 22 (vF y)) 23 (vF x)) 24 (vB (cmpE false y x)))) (H z) true) := by kernel_rfl
theorem eo_r8 (z : Nat → Nat) (g : Bool) (i k : Int) (x y : Nat) (j : J) : regionOf EE er8 (S 31 (kJ z g i k x (up j 9 (vF y))) (H z) true) = some (S 31 (kJ z g i k x (up (up (up (up (up j 9 (vF y)) 21 (vC g)) 22 (vF y)) 23 (vF x)) 24 (vB (cmpE g y x)))) (H z) true) := by
  cases g
  · exact eo_r8f z i k x y j
  · exact eo_r8t z i k x y j
theorem eo_c8 (z : Nat → Nat) (g : Bool) (i k : Int) (x : Nat) (b : Bool) (j : J) : evl (S 31 (kJ z g i k x (up j 24 (vB b))) (H z) true).tmps (cx er8c) = vB b := by kernel_rfl
theorem eo_r9 (z : Nat → Nat) (g : Bool) (i : Int) (k : Nat) (x : Nat) (j : J) : regionOf EE er9 (S 31 (kJ z g i k x j) (H z) true) = some (S 31 (kJ z g i (IntKind.i64.wrap ((k : Int) + 1)) x (up j 25 (vI (IntKind.i64.wrap ((k : Int) + 1))))) (H z) true) := by kernel_rfl
theorem eo_r10 (z : Nat → Nat) (g : Bool) (i k : Int) (x : Nat) (j : J) : regionOf EE er10 (S 31 (kJ z g i k x j) (H z) true) = some (S 31 (up (up (kJ z g i k x (up (up j 26 (vF x)) 27 (vI i))) 4 (vF x)) 5 (vI i)) (H z) true) := by kernel_rfl
theorem eo_r11 (z : Nat → Nat) (g : Bool) (i : Nat) (j : J) : regionOf EE er11 (S 31 (oJ z g i j) (H z) true) = some (S 31 (oJ z g (IntKind.i64.wrap ((i : Int) + 1)) (up j 28 (vI (IntKind.i64.wrap ((i : Int) + 1))))) (H z) true) := by kernel_rfl
theorem eo_r12 (z : Nat → Nat) (g : Bool) (i : Int) (j : J) : regionOf EE er12 (S 31 (oJ z g i j) (H z) true) = some (S 31 (up (up (oJ z g i (up (up j 29 (.float .f64 (qn .f64), true)) 30 (vF (qn .f32)))) 4 (vF (qn .f32))) 5 (vI 0)) (H z) true) := by kernel_rfl
theorem eo_end (x : Nat) (k : Int) (j : J) (h : Heap) : finK Try.prog Try.f35 .ret (S 31 (up (up j 4 (vF x)) 5 (vI k)) h true) = some (.tuple #[.float .f32 x, .int .i64 k], h, true) := by kernel_rfl
theorem k_o (z : Nat → Nat) (g : Bool) (i k : Int) (x : Nat) (j : J) (h : Heap) : S 31 (kJ z g i k x j) h true = S 31 (oJ z g i (up (up (up (up j 6 (vI i)) 7 (vF x)) 17 (vA z)) 18 (vI k))) h true := by kernel_rfl
theorem m_o (z : Nat → Nat) (g : Bool) (i : Int) (x : Nat) (j : J) (h : Heap) : S 31 (mJ z g i x j) h true = S 31 (oJ z g i (up (up j 6 (vI i)) 7 (vF x))) h true := by kernel_rfl
theorem eo_r3_0 (z : Nat → Nat) (g : Bool) (j : J) : regionOf EE er3 (S 31 (oJ z g ((0 : Nat) : Int) j) (H z) true) = some (S 31 (mJ z g ((0 : Nat) : Int) (z 0) (up (up j 13 (vI ((0 : Nat) : Int))) 14 (vF (z 0)))) (H z) true) := by kernel_rfl
theorem eo_r3_1 (z : Nat → Nat) (g : Bool) (j : J) : regionOf EE er3 (S 31 (oJ z g ((1 : Nat) : Int) j) (H z) true) = some (S 31 (mJ z g ((1 : Nat) : Int) (z 1) (up (up j 13 (vI ((1 : Nat) : Int))) 14 (vF (z 1)))) (H z) true) := by kernel_rfl
theorem eo_r3_2 (z : Nat → Nat) (g : Bool) (j : J) : regionOf EE er3 (S 31 (oJ z g ((2 : Nat) : Int) j) (H z) true) = some (S 31 (mJ z g ((2 : Nat) : Int) (z 2) (up (up j 13 (vI ((2 : Nat) : Int))) 14 (vF (z 2)))) (H z) true) := by kernel_rfl
theorem eo_r3_3 (z : Nat → Nat) (g : Bool) (j : J) : regionOf EE er3 (S 31 (oJ z g ((3 : Nat) : Int) j) (H z) true) = some (S 31 (mJ z g ((3 : Nat) : Int) (z 3) (up (up j 13 (vI ((3 : Nat) : Int))) 14 (vF (z 3)))) (H z) true) := by kernel_rfl
theorem eo_r3_4 (z : Nat → Nat) (g : Bool) (j : J) : regionOf EE er3 (S 31 (oJ z g ((4 : Nat) : Int) j) (H z) true) = some (S 31 (mJ z g ((4 : Nat) : Int) (z 4) (up (up j 13 (vI ((4 : Nat) : Int))) 14 (vF (z 4)))) (H z) true) := by kernel_rfl
theorem eo_r3_5 (z : Nat → Nat) (g : Bool) (j : J) : regionOf EE er3 (S 31 (oJ z g ((5 : Nat) : Int) j) (H z) true) = some (S 31 (mJ z g ((5 : Nat) : Int) (z 5) (up (up j 13 (vI ((5 : Nat) : Int))) 14 (vF (z 5)))) (H z) true) := by kernel_rfl
theorem eo_r3_6 (z : Nat → Nat) (g : Bool) (j : J) : regionOf EE er3 (S 31 (oJ z g ((6 : Nat) : Int) j) (H z) true) = some (S 31 (mJ z g ((6 : Nat) : Int) (z 6) (up (up j 13 (vI ((6 : Nat) : Int))) 14 (vF (z 6)))) (H z) true) := by kernel_rfl
theorem eo_r3_7 (z : Nat → Nat) (g : Bool) (j : J) : regionOf EE er3 (S 31 (oJ z g ((7 : Nat) : Int) j) (H z) true) = some (S 31 (mJ z g ((7 : Nat) : Int) (z 7) (up (up j 13 (vI ((7 : Nat) : Int))) 14 (vF (z 7)))) (H z) true) := by kernel_rfl
theorem eo_r3_8 (z : Nat → Nat) (g : Bool) (j : J) : regionOf EE er3 (S 31 (oJ z g ((8 : Nat) : Int) j) (H z) true) = some (S 31 (mJ z g ((8 : Nat) : Int) (z 8) (up (up j 13 (vI ((8 : Nat) : Int))) 14 (vF (z 8)))) (H z) true) := by kernel_rfl
theorem eo_r3_9 (z : Nat → Nat) (g : Bool) (j : J) : regionOf EE er3 (S 31 (oJ z g ((9 : Nat) : Int) j) (H z) true) = some (S 31 (mJ z g ((9 : Nat) : Int) (z 9) (up (up j 13 (vI ((9 : Nat) : Int))) 14 (vF (z 9)))) (H z) true) := by kernel_rfl
theorem eo_r3_10 (z : Nat → Nat) (g : Bool) (j : J) : regionOf EE er3 (S 31 (oJ z g ((10 : Nat) : Int) j) (H z) true) = some (S 31 (mJ z g ((10 : Nat) : Int) (z 10) (up (up j 13 (vI ((10 : Nat) : Int))) 14 (vF (z 10)))) (H z) true) := by kernel_rfl
theorem eo_r3_11 (z : Nat → Nat) (g : Bool) (j : J) : regionOf EE er3 (S 31 (oJ z g ((11 : Nat) : Int) j) (H z) true) = some (S 31 (mJ z g ((11 : Nat) : Int) (z 11) (up (up j 13 (vI ((11 : Nat) : Int))) 14 (vF (z 11)))) (H z) true) := by kernel_rfl
theorem eo_r3_12 (z : Nat → Nat) (g : Bool) (j : J) : regionOf EE er3 (S 31 (oJ z g ((12 : Nat) : Int) j) (H z) true) = some (S 31 (mJ z g ((12 : Nat) : Int) (z 12) (up (up j 13 (vI ((12 : Nat) : Int))) 14 (vF (z 12)))) (H z) true) := by kernel_rfl
theorem eo_r3_13 (z : Nat → Nat) (g : Bool) (j : J) : regionOf EE er3 (S 31 (oJ z g ((13 : Nat) : Int) j) (H z) true) = some (S 31 (mJ z g ((13 : Nat) : Int) (z 13) (up (up j 13 (vI ((13 : Nat) : Int))) 14 (vF (z 13)))) (H z) true) := by kernel_rfl
theorem eo_r3_14 (z : Nat → Nat) (g : Bool) (j : J) : regionOf EE er3 (S 31 (oJ z g ((14 : Nat) : Int) j) (H z) true) = some (S 31 (mJ z g ((14 : Nat) : Int) (z 14) (up (up j 13 (vI ((14 : Nat) : Int))) 14 (vF (z 14)))) (H z) true) := by kernel_rfl
theorem eo_r3_15 (z : Nat → Nat) (g : Bool) (j : J) : regionOf EE er3 (S 31 (oJ z g ((15 : Nat) : Int) j) (H z) true) = some (S 31 (mJ z g ((15 : Nat) : Int) (z 15) (up (up j 13 (vI ((15 : Nat) : Int))) 14 (vF (z 15)))) (H z) true) := by kernel_rfl
theorem eo_r3 (z : Nat → Nat) (g : Bool) (j : J) (i : Nat) (hi : i < 16) : regionOf EE er3 (S 31 (oJ z g ((i : Nat) : Int) j) (H z) true) = some (S 31 (mJ z g ((i : Nat) : Int) (z i) (up (up j 13 (vI ((i : Nat) : Int))) 14 (vF (z i)))) (H z) true) := by
  match i, hi with
  | 0, _ => exact eo_r3_0 z g j
  | 1, _ => exact eo_r3_1 z g j
  | 2, _ => exact eo_r3_2 z g j
  | 3, _ => exact eo_r3_3 z g j
  | 4, _ => exact eo_r3_4 z g j
  | 5, _ => exact eo_r3_5 z g j
  | 6, _ => exact eo_r3_6 z g j
  | 7, _ => exact eo_r3_7 z g j
  | 8, _ => exact eo_r3_8 z g j
  | 9, _ => exact eo_r3_9 z g j
  | 10, _ => exact eo_r3_10 z g j
  | 11, _ => exact eo_r3_11 z g j
  | 12, _ => exact eo_r3_12 z g j
  | 13, _ => exact eo_r3_13 z g j
  | 14, _ => exact eo_r3_14 z g j
  | 15, _ => exact eo_r3_15 z g j
  | k + 16, h => exact absurd h (by omega)
theorem eo_r7_0 (z : Nat → Nat) (g : Bool) (i : Int) (x : Nat) (j : J) : regionOf EE er7 (S 31 (kJ z g i ((0 : Nat) : Int) x j) (H z) true) = some (S 31 (kJ z g i ((0 : Nat) : Int) x (up (up j 20 (vF (z 0))) 9 (vF (z 0)))) (H z) true) := by kernel_rfl
theorem eo_r7_1 (z : Nat → Nat) (g : Bool) (i : Int) (x : Nat) (j : J) : regionOf EE er7 (S 31 (kJ z g i ((1 : Nat) : Int) x j) (H z) true) = some (S 31 (kJ z g i ((1 : Nat) : Int) x (up (up j 20 (vF (z 1))) 9 (vF (z 1)))) (H z) true) := by kernel_rfl
theorem eo_r7_2 (z : Nat → Nat) (g : Bool) (i : Int) (x : Nat) (j : J) : regionOf EE er7 (S 31 (kJ z g i ((2 : Nat) : Int) x j) (H z) true) = some (S 31 (kJ z g i ((2 : Nat) : Int) x (up (up j 20 (vF (z 2))) 9 (vF (z 2)))) (H z) true) := by kernel_rfl
theorem eo_r7_3 (z : Nat → Nat) (g : Bool) (i : Int) (x : Nat) (j : J) : regionOf EE er7 (S 31 (kJ z g i ((3 : Nat) : Int) x j) (H z) true) = some (S 31 (kJ z g i ((3 : Nat) : Int) x (up (up j 20 (vF (z 3))) 9 (vF (z 3)))) (H z) true) := by kernel_rfl
theorem eo_r7_4 (z : Nat → Nat) (g : Bool) (i : Int) (x : Nat) (j : J) : regionOf EE er7 (S 31 (kJ z g i ((4 : Nat) : Int) x j) (H z) true) = some (S 31 (kJ z g i ((4 : Nat) : Int) x (up (up j 20 (vF (z 4))) 9 (vF (z 4)))) (H z) true) := by kernel_rfl
theorem eo_r7_5 (z : Nat → Nat) (g : Bool) (i : Int) (x : Nat) (j : J) : regionOf EE er7 (S 31 (kJ z g i ((5 : Nat) : Int) x j) (H z) true) = some (S 31 (kJ z g i ((5 : Nat) : Int) x (up (up j 20 (vF (z 5))) 9 (vF (z 5)))) (H z) true) := by kernel_rfl
theorem eo_r7_6 (z : Nat → Nat) (g : Bool) (i : Int) (x : Nat) (j : J) : regionOf EE er7 (S 31 (kJ z g i ((6 : Nat) : Int) x j) (H z) true) = some (S 31 (kJ z g i ((6 : Nat) : Int) x (up (up j 20 (vF (z 6))) 9 (vF (z 6)))) (H z) true) := by kernel_rfl
theorem eo_r7_7 (z : Nat → Nat) (g : Bool) (i : Int) (x : Nat) (j : J) : regionOf EE er7 (S 31 (kJ z g i ((7 : Nat) : Int) x j) (H z) true) = some (S 31 (kJ z g i ((7 : Nat) : Int) x (up (up j 20 (vF (z 7))) 9 (vF (z 7)))) (H z) true) := by kernel_rfl
theorem eo_r7_8 (z : Nat → Nat) (g : Bool) (i : Int) (x : Nat) (j : J) : regionOf EE er7 (S 31 (kJ z g i ((8 : Nat) : Int) x j) (H z) true) = some (S 31 (kJ z g i ((8 : Nat) : Int) x (up (up j 20 (vF (z 8))) 9 (vF (z 8)))) (H z) true) := by kernel_rfl
theorem eo_r7_9 (z : Nat → Nat) (g : Bool) (i : Int) (x : Nat) (j : J) : regionOf EE er7 (S 31 (kJ z g i ((9 : Nat) : Int) x j) (H z) true) = some (S 31 (kJ z g i ((9 : Nat) : Int) x (up (up j 20 (vF (z 9))) 9 (vF (z 9)))) (H z) true) := by kernel_rfl
theorem eo_r7_10 (z : Nat → Nat) (g : Bool) (i : Int) (x : Nat) (j : J) : regionOf EE er7 (S 31 (kJ z g i ((10 : Nat) : Int) x j) (H z) true) = some (S 31 (kJ z g i ((10 : Nat) : Int) x (up (up j 20 (vF (z 10))) 9 (vF (z 10)))) (H z) true) := by kernel_rfl
theorem eo_r7_11 (z : Nat → Nat) (g : Bool) (i : Int) (x : Nat) (j : J) : regionOf EE er7 (S 31 (kJ z g i ((11 : Nat) : Int) x j) (H z) true) = some (S 31 (kJ z g i ((11 : Nat) : Int) x (up (up j 20 (vF (z 11))) 9 (vF (z 11)))) (H z) true) := by kernel_rfl
theorem eo_r7_12 (z : Nat → Nat) (g : Bool) (i : Int) (x : Nat) (j : J) : regionOf EE er7 (S 31 (kJ z g i ((12 : Nat) : Int) x j) (H z) true) = some (S 31 (kJ z g i ((12 : Nat) : Int) x (up (up j 20 (vF (z 12))) 9 (vF (z 12)))) (H z) true) := by kernel_rfl
theorem eo_r7_13 (z : Nat → Nat) (g : Bool) (i : Int) (x : Nat) (j : J) : regionOf EE er7 (S 31 (kJ z g i ((13 : Nat) : Int) x j) (H z) true) = some (S 31 (kJ z g i ((13 : Nat) : Int) x (up (up j 20 (vF (z 13))) 9 (vF (z 13)))) (H z) true) := by kernel_rfl
theorem eo_r7_14 (z : Nat → Nat) (g : Bool) (i : Int) (x : Nat) (j : J) : regionOf EE er7 (S 31 (kJ z g i ((14 : Nat) : Int) x j) (H z) true) = some (S 31 (kJ z g i ((14 : Nat) : Int) x (up (up j 20 (vF (z 14))) 9 (vF (z 14)))) (H z) true) := by kernel_rfl
theorem eo_r7_15 (z : Nat → Nat) (g : Bool) (i : Int) (x : Nat) (j : J) : regionOf EE er7 (S 31 (kJ z g i ((15 : Nat) : Int) x j) (H z) true) = some (S 31 (kJ z g i ((15 : Nat) : Int) x (up (up j 20 (vF (z 15))) 9 (vF (z 15)))) (H z) true) := by kernel_rfl
theorem eo_r7 (z : Nat → Nat) (g : Bool) (i : Int) (x : Nat) (j : J) (k : Nat) (hk : k < 16) : regionOf EE er7 (S 31 (kJ z g i ((k : Nat) : Int) x j) (H z) true) = some (S 31 (kJ z g i ((k : Nat) : Int) x (up (up j 20 (vF (z k))) 9 (vF (z k)))) (H z) true) := by
  match k, hk with
  | 0, _ => exact eo_r7_0 z g i x j
  | 1, _ => exact eo_r7_1 z g i x j
  | 2, _ => exact eo_r7_2 z g i x j
  | 3, _ => exact eo_r7_3 z g i x j
  | 4, _ => exact eo_r7_4 z g i x j
  | 5, _ => exact eo_r7_5 z g i x j
  | 6, _ => exact eo_r7_6 z g i x j
  | 7, _ => exact eo_r7_7 z g i x j
  | 8, _ => exact eo_r7_8 z g i x j
  | 9, _ => exact eo_r7_9 z g i x j
  | 10, _ => exact eo_r7_10 z g i x j
  | 11, _ => exact eo_r7_11 z g i x j
  | 12, _ => exact eo_r7_12 z g i x j
  | 13, _ => exact eo_r7_13 z g i x j
  | 14, _ => exact eo_r7_14 z g i x j
  | 15, _ => exact eo_r7_15 z g i x j
  | k + 16, h => exact absurd h (by omega)
/-! #### one number against all -/
theorem eo_inner (z : Nat → Nat) (g : Bool) (i : Int) (x : Nat) : ∀ (n k : Nat) (j : J), k + n = 16 →
    ((∀ q, k ≤ q → q < 16 → cmpE g (z q) x = false) ∧ ∃ j', Goes EE (30 + n + 1) (.loop eIBody) (S 31 (kJ z g i k x j) (H z) true) (.exit 2) (S 31 (kJ z g i ((16 : Nat) : Int) x j') (H z) true)) ∨
    ((∃ q, q < 16 ∧ cmpE g (z q) x = true) ∧ ∃ (k' : Int) (j' : J), Goes EE (30 + n + 1) (.loop eIBody) (S 31 (kJ z g i k x j) (H z) true) (.exit 1) (S 31 (kJ z g i k' x j') (H z) true))
  | 0, k, j, h => by
    have : k = 16 := by omega
    subst this
    have c6 := (eo_c6 z g i ((16 : Nat) : Int) x (decide (((16 : Nat) : Int) < 16)) j).trans (show vB (decide (((16 : Nat) : Int) < 16)) = vB false by rw [decide_eq_false (by omega)])
    refine .inl ⟨fun q h1 h2 => absurd h1 (by omega), _, (Goes.loopX (N := 29) (Goes.seq (N := 28) (Goes.reg (N := 27) (eo_r6 z g i 16 x j)) (Goes.seqX (N := 27) (Goes.condF (N := 26) c6 (Goes.exit (N := 25)))))).more (by omega)⟩
  | n + 1, k, j, h => by
    have c6 := (eo_c6 z g i (k : Int) x (decide ((k : Int) < 16)) j).trans (show vB (decide ((k : Int) < 16)) = vB true by rw [decide_eq_true (by omega)])
    have g6 := Goes.reg (N := 27) (eo_r6 z g i k x j)
    have g6c := Goes.condT (E := EE) (N := 26) (a := .skip) (b := .exit 2) c6 (Goes.skip (N := 25))
    generalize (up j 19 (vB (decide ((k : Int) < 16)))) = j6 at g6 g6c
    have r7 := eo_r7 z g i x j6 k (by omega)
    have g7 := Goes.reg (N := 22) r7
    have g8 := Goes.reg (N := 21) (eo_r8 z g i k x (z k) (up j6 20 (vF (z k))))
    have c8 := eo_c8 z g i k x (cmpE g (z k) x) (up (up (up (up (up j6 20 (vF (z k))) 9 (vF (z k))) 21 (vC g)) 22 (vF (z k))) 23 (vF x))
    generalize (up (up (up (up (up (up j6 20 (vF (z k))) 9 (vF (z k))) 21 (vC g)) 22 (vF (z k))) 23 (vF x)) 24 (vB (cmpE g (z k) x))) = j8 at g8 c8
    cases hc : cmpE g (z k) x with
    | true =>
      rw [hc] at c8
      have g8c := Goes.condT (E := EE) (N := 21) (a := .exit 1) (b := .skip) c8 (Goes.exit (N := 20))
      have gb : Goes EE 25 (.block 3 (.seq er7 (.seq er8 (.cond (cx er8c) (.exit 1) .skip)))) (S 31 (kJ z g i k x j6) (H z) true) (.exit 1) (S 31 (kJ z g i k x j8) (H z) true) := fun n hn kk => by
        obtain ⟨m, rfl⟩ : ∃ m, n = m + 1 := ⟨n - 1, by omega⟩
        simp only [codeK]
        rw [(Goes.seq (N := 23) g7 (Goes.seq (N := 22) g8 g8c)) m (by omega)]
        rfl
      refine .inr ⟨⟨k, by omega, hc⟩, k, j8, ?_⟩
      exact (Goes.loopX (N := 29) (Goes.seq (N := 28) g6 (Goes.seq (N := 27) g6c (Goes.seqX (N := 26) (gb.more (by omega)))))).more (by omega)
    | false =>
      rw [hc] at c8
      have g8c := Goes.condF (E := EE) (N := 21) (a := .exit 1) (b := .skip) c8 (Goes.skip (N := 20))
      have gb := Goes.block (id := 3) (Goes.seq (N := 23) g7 (Goes.seq (N := 22) g8 g8c))
      have r9 := eo_r9 z g i k x j8
      rw [wrap_in (by omega) (by omega)] at r9
      have g9 := Goes.reg (N := 25) r9
      have one := Goes.seq (N := 28) g6 (Goes.seq (N := 27) g6c (Goes.seq (N := 26) (gb.more (by omega)) g9))
      rcases eo_inner z g i x n (k + 1) (up j8 25 (vI ((k : Int) + 1))) (by omega) with ⟨h1, j', k1⟩ | ⟨h1, k', j', k1⟩
      · refine .inl ⟨fun q q1 q2 => ?_, j', (Goes.loop (one.more (show 29 ≤ 30 + n + 1 by omega)) k1).more (by omega)⟩
        rcases Nat.eq_or_lt_of_le q1 with rfl | hl
        · exact hc
        · exact h1 q hl q2
      · exact .inr ⟨h1, k', j', (Goes.loop (one.more (show 29 ≤ 30 + n + 1 by omega)) k1).more (by omega)⟩
/-- one round -/
theorem eo_round (z : Nat → Nat) (g : Bool) (i : Nat) (hi : i < 16) (j : J) :
    (takenE g z 16 i = true ∧ ∃ j', Goes EE 70 eBody (S 31 (oJ z g i j) (H z) true) .ret (S 31 (up (up j' 4 (vF (z i))) 5 (vI i)) (H z) true)) ∨
    (takenE g z 16 i = false ∧ ∃ j', Goes EE 70 eBody (S 31 (oJ z g i j) (H z) true) .normal (S 31 (oJ z g ((i + 1 : Nat) : Int) j') (H z) true)) := by
  have c2 := (eo_c2 z g (i : Int) (decide ((i : Int) < 16)) j).trans (show vB (decide ((i : Int) < 16)) = vB true by rw [decide_eq_true (by omega)])
  have g2 := Goes.reg (N := 67) (eo_r2 z g i j)
  have g2c := Goes.condT (E := EE) (N := 66) (a := .skip) (b := .exit 0) c2 (Goes.skip (N := 65))
  generalize (up j 12 (vB (decide ((i : Int) < 16)))) = j2 at g2 g2c
  have g3 := Goes.reg (N := 61) (eo_r3 z g j2 i hi)
  generalize (up (up j2 13 (vI i)) 14 (vF (z i))) = j3 at g3
  have g4 := Goes.reg (N := 58) (eo_r4 z g i (z i) j3)
  have c4 := eo_c4 z g i (z i) (isN .f32 (z i)) (up j3 15 (vF (z i)))
  generalize (up (up j3 15 (vF (z i))) 16 (vB (isN .f32 (z i)))) = j4 at g4 c4
  -- a round that goes on
  have on : ∀ jx : J, Goes EE 64 (.block 1 (.seq er3 (.seq (.seq er4 (.cond (cx er4c) (.exit 1) .skip)) (.seq (.seq er5 (.block 2 (.loop eIBody))) (.seq er10 .ret))))) (S 31 (oJ z g i j2) (H z) true) .normal (S 31 (oJ z g i jx) (H z) true) →
      ∃ j', Goes EE 70 eBody (S 31 (oJ z g i j) (H z) true) .normal (S 31 (oJ z g ((i + 1 : Nat) : Int) j') (H z) true) := fun jx hb => by
    have r11 := eo_r11 z g i jx
    rw [wrap_in (by omega) (by omega)] at r11
    have g11 := Goes.reg (N := 65) r11
    exact ⟨_, (Goes.seq (N := 68) g2 (Goes.seq (N := 67) g2c (Goes.seq (N := 66) (hb.more (by omega)) g11))).more (by omega)⟩
  cases hn : isN .f32 (z i) with
  | true =>
    rw [hn] at c4
    have g4c := Goes.condT (E := EE) (N := 58) (a := .exit 1) (b := .skip) c4 (Goes.exit (N := 57))
    have hb := Goes.blockX (id := 1) (Goes.seq (N := 62) g3 (Goes.seqX (N := 61) ((Goes.seq (N := 59) g4 g4c).more (by omega)) (b := (.seq (.seq er5 (.block 2 (.loop eIBody))) (.seq er10 .ret)))))
    refine .inr ⟨?_, ?_⟩
    · unfold takenE
      rw [hn]; rfl
    · have hb := hb
      change Goes EE 64 _ _ _ (S 31 (mJ z g i (z i) j4) (H z) true) at hb
      rw [m_o] at hb
      exact on _ hb
  | false =>
    rw [hn] at c4
    have g4c := Goes.condF (E := EE) (N := 58) (a := .exit 1) (b := .skip) c4 (Goes.skip (N := 57))
    have g5 := Goes.reg (N := 50) (eo_r5 z g i (z i) j4)
    rcases eo_inner z g i (z i) 16 0 j4 (by omega) with ⟨h1, j', k1⟩ | ⟨h1, k', j', k1⟩
    · have gI := Goes.blockX k1
      have g10 := Goes.seq (N := 52) (Goes.reg (N := 51) (eo_r10 z g i ((16 : Nat) : Int) (z i) j')) (Goes.ret (N := 51))
      have ht : takenE g z 16 i = true := by
        unfold takenE
        rw [hn, Bool.not_false, Bool.true_and, noneBeyond_iff]
        exact fun q hq => h1 q (Nat.zero_le _) hq
      refine .inl ⟨ht, kJ z g i ((16 : Nat) : Int) (z i) (up (up j' 26 (vF (z i))) 27 (vI i)), ?_⟩
      have gB : Goes EE 63 (.seq er3 (.seq (.seq er4 (.cond (cx er4c) (.exit 1) .skip)) (.seq (.seq er5 (.block 2 (.loop eIBody))) (.seq er10 .ret)))) (S 31 (oJ z g i j2) (H z) true) .ret (S 31 (up (up (kJ z g i ((16 : Nat) : Int) (z i) (up (up j' 26 (vF (z i))) 27 (vI i))) 4 (vF (z i))) 5 (vI i)) (H z) true) :=
        Goes.seq (N := 62) g3 (Goes.seq (N := 61) ((Goes.seq (N := 59) g4 g4c).more (by omega)) ((Goes.seq (N := 57) (Goes.seq (N := 56) (g5.more (by omega)) (gI.more (by omega))) (g10.more (by omega))).more (by omega)))
      exact (Goes.seq (N := 68) g2 (Goes.seq (N := 67) g2c (Goes.seqR (N := 66) ((Goes.blockR (id := 1) gB).more (by omega))))).more (by omega)
    · have gI : Goes EE 48 (.block 2 (.loop eIBody)) (S 31 (kJ z g i ((0 : Nat) : Int) (z i) j4) (H z) true) (.exit 1) (S 31 (kJ z g i k' (z i) j') (H z) true) := fun n hn kk => by
        obtain ⟨m, rfl⟩ : ∃ m, n = m + 1 := ⟨n - 1, by omega⟩
        simp only [codeK]
        rw [k1 m (by omega)]
        rfl
      have ht : takenE g z 16 i = false := by
        obtain ⟨q, hq, hqc⟩ := h1
        unfold takenE
        rw [hn, Bool.not_false, Bool.true_and]
        cases hb : noneBeyond g z (z i) 16 with
        | false => rfl
        | true => rw [noneBeyond_iff.1 hb q hq] at hqc; cases hqc
      have gB : Goes EE 63 (.seq er3 (.seq (.seq er4 (.cond (cx er4c) (.exit 1) .skip)) (.seq (.seq er5 (.block 2 (.loop eIBody))) (.seq er10 .ret)))) (S 31 (oJ z g i j2) (H z) true) (.exit 1) (S 31 (kJ z g i k' (z i) j') (H z) true) :=
        Goes.seq (N := 62) g3 (Goes.seq (N := 61) ((Goes.seq (N := 59) g4 g4c).more (by omega)) (Goes.seqX (N := 60) ((Goes.seq (N := 56) (g5.more (by omega)) (gI.more (by omega))).more (by omega))))
      have hb := Goes.blockX (id := 1) gB
      rw [k_o] at hb
      exact .inr ⟨ht, on _ hb⟩
theorem eo_loop (z : Nat → Nat) (g : Bool) : ∀ (n i : Nat) (j : J), i + n = 16 → (∀ q, q < i → takenE g z 16 q = false) →
    (∃ a j', endAt g z 16 = some a ∧ Goes EE (70 + n + 1) (.loop eBody) (S 31 (oJ z g i j) (H z) true) .ret (S 31 (up (up j' 4 (vF (z a))) 5 (vI a)) (H z) true)) ∨
    (∃ j', endAt g z 16 = none ∧ Goes EE (70 + n + 1) (.loop eBody) (S 31 (oJ z g i j) (H z) true) (.exit 0) (S 31 (oJ z g ((16 : Nat) : Int) j') (H z) true))
  | 0, i, j, h, hf => by
    have : i = 16 := by omega
    subst this
    have c2 := (eo_c2 z g ((16 : Nat) : Int) (decide (((16 : Nat) : Int) < 16)) j).trans (show vB (decide (((16 : Nat) : Int) < 16)) = vB false by rw [decide_eq_false (by omega)])
    cases he : endAt g z 16 with
    | none => exact .inr ⟨_, rfl, (Goes.loopX (N := 69) (Goes.seq (N := 68) (Goes.reg (N := 67) (eo_r2 z g 16 j)) (Goes.seqX (N := 67) (Goes.condF (N := 66) c2 (Goes.exit (N := 65)))))).more (by omega)⟩
    | some a =>
      have := hf a (endAt_some he).1
      rw [(end_taken he).1] at this
      cases this
  | n + 1, i, j, h, hf => by
    rcases eo_round z g i (by omega) j with ⟨ht, j1, k1⟩ | ⟨ht, j1, k1⟩
    · cases he : endAt g z 16 with
      | none => rw [none_taken he i (by omega)] at ht; cases ht
      | some a =>
        have h1 := end_taken he
        have : a = i := by
          rcases Nat.lt_trichotomy a i with hl | rfl | hl
          · rw [hf a hl] at h1; cases h1.1
          · rfl
          · rw [h1.2 i hl] at ht; cases ht
        subst this
        exact .inl ⟨a, j1, rfl, (Goes.loopR k1).more (by omega)⟩
    · have hf' : ∀ q, q < i + 1 → takenE g z 16 q = false := fun q hq => by
        rcases Nat.lt_succ_iff_lt_or_eq.1 hq with hl | rfl
        · exact hf q hl
        · exact ht
      rcases eo_loop z g n (i + 1) j1 (by omega) hf' with ⟨a, j2, he, k2⟩ | ⟨j2, he, k2⟩
      · exact .inl ⟨a, j2, he, (Goes.loop (k1.more (show 70 ≤ 70 + n + 1 by omega)) k2).more (by omega)⟩
      · exact .inr ⟨j2, he, (Goes.loop (k1.more (show 70 ≤ 70 + n + 1 by omega)) k2).more (by omega)⟩
theorem eo_goes (z : Nat → Nat) (g : Bool) : ∃ N s', Goes EE N eoC (startS Try.f35 [.agg (zrow z).toArray, .func (.func (cl g)) #[] #[]] []) .ret s' ∧ ∃ h', finK Try.prog Try.f35 .ret s' = some (.tuple #[.float .f32 (ansF z (endAt g z 16)), .int .i64 (ansI (endAt g z 16))], h', true) := by
  have g0 := (Goes.reg (N := 50) (eo_r0 z g)).more (show 51 ≤ 120 by omega)
  have g1 := (Goes.reg (N := 50) (eo_r1 z g (up (up (up j0 0 (vA z)) 4 (vF 0)) 5 (vI 0)))).more (show 51 ≤ 100 by omega)
  rw [eo_start, eo_shape]
  rcases eo_loop z g 16 0 (up (up (up j0 0 (vA z)) 4 (vF 0)) 5 (vI 0)) (by omega) (fun q hq => absurd hq (Nat.not_lt_zero _)) with ⟨a, j', he, k⟩ | ⟨j', he, k⟩
  · have gL := Goes.blockR (id := 0) k
    rw [he]
    exact ⟨_, _, Goes.seq (N := 120) g0 ((Goes.scope (Goes.seq (N := 110) lb_goes ((Goes.seqR (N := 102) (Goes.seq (N := 101) (g1.more (by omega)) (gL.more (by omega)))).more (by omega)))).more (by omega)), H z, eo_end (z a) a j' (H z)⟩
  · have gL := Goes.blockX k
    rw [he]
    have g12 := Goes.seq (N := 60) (Goes.reg (N := 59) (eo_r12 z g ((16 : Nat) : Int) j')) (Goes.ret (N := 59))
    exact ⟨_, _, Goes.seq (N := 120) g0 ((Goes.scope (Goes.seq (N := 110) lb_goes ((Goes.seq (N := 102) (Goes.seq (N := 101) (g1.more (by omega)) (gL.more (by omega))) (g12.more (by omega))).more (by omega)))).more (by omega)), H z, eo_end _ _ _ _⟩

end
end En
end Go.Proofs.Ytfgomdngffaffaa
end
