/-
  When a lamp gives a share: where the model and the program lead. No condition.
-/
import Derived.Test.YtigegnkifeljhaaLh
set_option linter.unusedSectionVars false
set_option linter.unusedVariables false
noncomputable section
namespace Go.Proofs.Ytigegnkifeljhaa
namespace Lg
open Go Go.ChangeShapes Go.WideShapes Go.ChangeAt Go.RowKit Ev Sx

/-! ### states -/
abbrev J := Nat → Value × Bool
def up (j : J) (i : Nat) (p : Value × Bool) : J := fun m => bif Nat.beq m i then p else j m
def S (n : Nat) (j : J) (h : Heap) (ok : Bool) : St := ⟨(List.range n).map j, h, ok⟩
def vI (z : Int) : Value × Bool := (.int .i64 z, true)
def vB (b : Bool) : Value × Bool := (.bool b, true)
def vF (x : Nat) : Value × Bool := (.float .f32 x, true)
def vP : Value × Bool := (.pointer (some ⟨0, 0, none⟩), true)
def j0 : J := fun _ => (undef, false)
theorem getD_set {h : Heap} {nid b : Nat} {row r : List Value} (hn : h.getD nid none = none) (hr : h.getD b none = some r) : (h.set nid (some row)).getD b none = some r := by
  have hne : nid ≠ b := by
    rintro rfl
    rw [hr] at hn
    cases hn
  rw [List.getD_eq_getElem?_getD, List.getElem?_set_ne hne, ← List.getD_eq_getElem?_getD]
  exact hr
theorem conG_stab {base : Nat} : @ConStab (frnOf base [] conG) := fun f g hf args h u rows k nid row he hlt hn => by
  have hf : conG f = some g := hf
  unfold conG at hf
  cases h1 : Nat.beq f 69 with
  | true =>
    rw [h1, cond_true, Option.some.injEq] at hf
    subst hf
    unfold okM at he ⊢
    split at he
    · split at he
      · rename_i r hr
        simp only [getD_set hn hr]
        exact he
      · cases he
    · cases he
  | false =>
  rw [h1, cond_false] at hf
  cases h3 : Nat.beq f 70 with
  | true =>
    rw [h3, cond_true, Option.some.injEq] at hf
    subst hf
    unfold lampM at he ⊢
    split at he
    · split at he
      · rename_i r hr
        simp only [getD_set hn hr]
        exact he
      · cases he
    · cases he
  | false => rw [h3] at hf; cases hf
def orcL : List (Nat × Sig) := [(73, Tl.wiS Tl.shB), (72, okO), (74, lampO)]
abbrev iG (base : Nat) : Frn := frnOf base [] conG
abbrev EG (base : Nat) : Env := @conE (iG base) Try.prog noOrc (fun f => seek f orcL)
theorem EG_ok (base : Nat) : @EnvOk (iG base) (EG base) := @conE_ok (iG base) _ _ _ mixed (@noExt (iG base) _) (@orc_list (iG base) _ _ (all_cons Tl.within_one (all_cons okO_one (all_cons lampO_one all_nil)))) conG_ok conG_stab
/-! ### the answer -/
def lastT : Nat := 100001
def goT (s : Nat) (g : List Value) : Nat → Nat → Int × Int
  | 0, _ => (0, 6)
  | n + 1, i => bif fle .f32 (lampC g (i : Int)) s then ((i : Int), 0) else goT s g n (i + 1)
def ansT (g : List Value) (s : Nat) : Int × Int := bif okC g then (bif Tl.shB s then goT s g lastT 0 else (0, 2)) else (0, 1)
def ansV (p : Int × Int) : Value := .tuple #[.int .i64 p.1, .int .i64 p.2]
/-! ### the model -/
noncomputable def mC : Code := (Try.f25.body.getD .skip)
noncomputable def m0 : Code := sa mC
noncomputable def m1 : Code := sa (sa (sb mC))
noncomputable def m1c : Code := sb (sa (sb mC))
noncomputable def m2 : Code := sa (ca m1c)
noncomputable def m3 : Code := sa (sa (sb (sb mC)))
noncomputable def m3c : Code := sb (sa (sb (sb mC)))
noncomputable def m4 : Code := sa (ca m3c)
noncomputable def m5 : Code := sa (sa (sb (sb (sb mC))))
noncomputable def mL : Code := sb (sa (sb (sb (sb mC))))
noncomputable def m10 : Code := sa (sb (sb (sb (sb mC))))
noncomputable def mB : Code := inn (inn mL)
noncomputable def m6 : Code := sa (sa mB)
noncomputable def m6c : Code := sb (sa mB)
noncomputable def m8 : Code := sa (inn (sa (sb mB)))
noncomputable def m8c : Code := sb (inn (sa (sb mB)))
noncomputable def m9 : Code := sa (ca m8c)
noncomputable def m7 : Code := sb (sb mB)
noncomputable def mBody : Code := .seq (.seq m6 (.cond (cx m6c) .skip (.exit 0))) (.seq (.block 1 (.seq m8 (.cond (cx m8c) (.seq m9 .ret) .skip))) m7)
theorem m_shape : mC = .seq m0 (.seq (.seq m1 (.cond (cx m1c) (.seq m2 .ret) .skip)) (.seq (.seq m3 (.cond (cx m3c) (.seq m4 .ret) .skip)) (.seq (.seq m5 (.block 0 (.loop mBody))) (.seq m10 .ret)))) := by kernel_rfl
section
variable (base : Nat) (z : Nat → Int) (f : Nat → Nat) (s : Nat)
def HG : Heap := [some (gr z f), none, none]
def vG : Value × Bool := (.agg (gr z f).toArray, true)
def bJ (j : J) : J := up (up j 1 (vF s)) 2 vP
def tJ (i : Int) (j : J) : J := up (bJ s j) 6 (vI i)
theorem m_start : startS Try.f25 [.agg (gr z f).toArray, .float .f32 s] [] = S 25 (up (up j0 0 (vG z f)) 1 (vF s)) [] true := by kernel_rfl
theorem m_r0 : @regionOf (iG base) (EG base) m0 (S 25 (up (up j0 0 (vG z f)) 1 (vF s)) [] true) = some (S 25 (bJ s (up (up (up j0 0 (vG z f)) 4 (vI 0)) 5 (vI 0))) (HG z f) true) := by kernel_rfl
theorem m_r1 (j : J) : @regionOf (iG base) (EG base) m1 (S 25 (bJ s j) (HG z f) true) = some (S 25 (bJ s (up (up j 7 (vB (okC (gr z f)))) 8 (vB (!okC (gr z f))))) (HG z f) true) := by kernel_rfl
theorem m_c1 (j : J) (b : Bool) : evl (S 25 (bJ s (up j 8 (vB b))) (HG z f) true).tmps (cx m1c) = vB b := by kernel_rfl
theorem m_r2 (j : J) : @regionOf (iG base) (EG base) m2 (S 25 j (HG z f) true) = some (S 25 (up (up j 4 (vI 0)) 5 (vI 1)) (HG z f) true) := by kernel_rfl
theorem m_c3 (j : J) (b : Bool) : evl (S 25 (bJ s (up j 15 (vB b))) (HG z f) true).tmps (cx m3c) = vB b := by kernel_rfl
theorem m_r4 (j : J) : @regionOf (iG base) (EG base) m4 (S 25 j (HG z f) true) = some (S 25 (up (up j 4 (vI 0)) 5 (vI 2)) (HG z f) true) := by kernel_rfl
theorem m_r5 (j : J) : @regionOf (iG base) (EG base) m5 (S 25 (bJ s j) (HG z f) true) = some (S 25 (tJ s ((0 : Nat) : Int) j) (HG z f) true) := by kernel_rfl
theorem m_r6 (i : Nat) (j : J) : @regionOf (iG base) (EG base) m6 (S 25 (tJ s i j) (HG z f) true) = some (S 25 (tJ s i (up (up j 16 (vI i)) 17 (vB (decide ((i : Int) ≤ 100000))))) (HG z f) true) := by kernel_rfl
theorem m_c6 (i : Int) (j : J) (b : Bool) : evl (S 25 (tJ s i (up j 17 (vB b))) (HG z f) true).tmps (cx m6c) = vB b := by kernel_rfl
theorem m_r8 (i : Int) (j : J) : @regionOf (iG base) (EG base) m8 (S 25 (tJ s i j) (HG z f) true) = some (S 25 (tJ s i (up (up (up (up j 20 (vI i)) 21 (vF (lampC (gr z f) i))) 22 (vF s)) 23 (vB (fle .f32 (lampC (gr z f) i) s)))) (HG z f) true) := by kernel_rfl
theorem m_c8 (i : Int) (j : J) (b : Bool) : evl (S 25 (tJ s i (up j 23 (vB b))) (HG z f) true).tmps (cx m8c) = vB b := by kernel_rfl
theorem m_r9 (i : Int) (j : J) : @regionOf (iG base) (EG base) m9 (S 25 (tJ s i j) (HG z f) true) = some (S 25 (up (up (tJ s i (up j 24 (vI i))) 4 (vI i)) 5 (vI 0)) (HG z f) true) := by kernel_rfl
theorem m_r7 (i : Nat) (j : J) : @regionOf (iG base) (EG base) m7 (S 25 (tJ s i j) (HG z f) true) = some (S 25 (tJ s (IntKind.i64.wrap ((i : Int) + 1)) (up (up j 18 (vI i)) 19 (vI (IntKind.i64.wrap ((i : Int) + 1))))) (HG z f) true) := by kernel_rfl
theorem m_r10 (j : J) : @regionOf (iG base) (EG base) m10 (S 25 j (HG z f) true) = some (S 25 (up (up j 4 (vI 0)) 5 (vI 6)) (HG z f) true) := by kernel_rfl
theorem m_end (a b : Int) (j : J) (h : Heap) : @finK (iG base) Try.prog Try.f25 .ret (S 25 (up (up j 4 (vI a)) 5 (vI b)) h true) = some (.tuple #[.int .i64 a, .int .i64 b], h, true) := by kernel_rfl
end
/-! ### the program -/
noncomputable def pC : Code := (Try.f27.body.getD .skip)
noncomputable def p0 : Code := sa pC
noncomputable def p1 : Code := sa (sa (sb pC))
noncomputable def p1c : Code := sb (sa (sb pC))
noncomputable def p2 : Code := sa (ca p1c)
noncomputable def p3 : Code := sa (sa (sb (sb pC)))
noncomputable def p3c : Code := sb (sa (sb (sb pC)))
noncomputable def p4 : Code := sa (ca p3c)
noncomputable def p5 : Code := sa (sa (sb (sb (sb pC))))
noncomputable def pL : Code := sb (sa (sb (sb (sb pC))))
noncomputable def p11 : Code := sa (sb (sb (sb (sb pC))))
noncomputable def pB : Code := inn (inn pL)
noncomputable def p6 : Code := sa pB
noncomputable def p6c : Code := sa (sb pB)
noncomputable def pI : Code := inn (sa (sb (sb pB)))
noncomputable def p7 : Code := sa pI
noncomputable def p8 : Code := sa (sb pI)
noncomputable def p8c : Code := sb (sb pI)
noncomputable def p9 : Code := sa (ca p8c)
noncomputable def p10 : Code := sb (sb (sb pB))
noncomputable def pBody : Code := .seq p6 (.seq (.cond (cx p6c) .skip (.exit 0)) (.seq (.block 1 (.seq p7 (.seq p8 (.cond (cx p8c) (.seq p9 .ret) .skip)))) p10))
theorem p_shape : pC = .seq p0 (.seq (.seq p1 (.cond (cx p1c) (.seq p2 .ret) .skip)) (.seq (.seq p3 (.cond (cx p3c) (.seq p4 .ret) .skip)) (.seq (.seq p5 (.block 0 (.loop pBody))) (.seq p11 .ret)))) := by kernel_rfl
section
variable (base : Nat) (z : Nat → Int) (f : Nat → Nat) (s : Nat)
def uJ (i : Int) (j : J) : J := up (bJ s j) 13 (vI i)
def wJ (i : Int) (j : J) : J := up (uJ s i j) 6 (vI i)
theorem p_start : startS Try.f27 [.agg (gr z f).toArray, .float .f32 s] [] = S 23 (up (up j0 0 (vG z f)) 1 (vF s)) [] true := by kernel_rfl
theorem p_r0 : @regionOf (iG base) (EG base) p0 (S 23 (up (up j0 0 (vG z f)) 1 (vF s)) [] true) = some (S 23 (bJ s (up (up (up j0 0 (vG z f)) 4 (vI 0)) 5 (vI 0))) (HG z f) true) := by kernel_rfl
theorem p_r1 (j : J) : @regionOf (iG base) (EG base) p1 (S 23 (bJ s j) (HG z f) true) = some (S 23 (bJ s (up (up (up j 7 (vG z f)) 8 (vB (okC (gr z f)))) 9 (vB (!okC (gr z f))))) (HG z f) true) := by kernel_rfl
theorem p_c1 (j : J) (b : Bool) : evl (S 23 (bJ s (up j 9 (vB b))) (HG z f) true).tmps (cx p1c) = vB b := by kernel_rfl
theorem p_r2 (j : J) : @regionOf (iG base) (EG base) p2 (S 23 j (HG z f) true) = some (S 23 (up (up j 4 (vI 0)) 5 (vI 1)) (HG z f) true) := by kernel_rfl
theorem p_r3 (j : J) : @regionOf (iG base) (EG base) p3 (S 23 (bJ s j) (HG z f) true) = some (S 23 (bJ s (up (up (up j 10 (vF s)) 11 (vB (Tl.shB s))) 12 (vB (!Tl.shB s)))) (HG z f) true) := by kernel_rfl
theorem p_c3 (j : J) (b : Bool) : evl (S 23 (bJ s (up j 12 (vB b))) (HG z f) true).tmps (cx p3c) = vB b := by kernel_rfl
theorem p_r4 (j : J) : @regionOf (iG base) (EG base) p4 (S 23 j (HG z f) true) = some (S 23 (up (up j 4 (vI 0)) 5 (vI 2)) (HG z f) true) := by kernel_rfl
theorem p_r5 (j : J) : @regionOf (iG base) (EG base) p5 (S 23 (bJ s j) (HG z f) true) = some (S 23 (uJ s ((0 : Nat) : Int) j) (HG z f) true) := by kernel_rfl
theorem p_r6 (i : Nat) (j : J) : @regionOf (iG base) (EG base) p6 (S 23 (uJ s i j) (HG z f) true) = some (S 23 (uJ s i (up j 14 (vB (decide ((i : Int) < 100001))))) (HG z f) true) := by kernel_rfl
theorem p_c6 (i : Int) (j : J) (b : Bool) : evl (S 23 (uJ s i (up j 14 (vB b))) (HG z f) true).tmps (cx p6c) = vB b := by kernel_rfl
theorem p_r7 (i : Int) (j : J) : @regionOf (iG base) (EG base) p7 (S 23 (uJ s i j) (HG z f) true) = some (S 23 (wJ s i (up j 15 (vI i))) (HG z f) true) := by kernel_rfl
theorem p_r8 (i : Int) (j : J) : @regionOf (iG base) (EG base) p8 (S 23 (wJ s i j) (HG z f) true) = some (S 23 (wJ s i (up (up (up (up (up j 16 (vG z f)) 17 (vI i)) 18 (vF (lampC (gr z f) i))) 19 (vF s)) 20 (vB (fle .f32 (lampC (gr z f) i) s)))) (HG z f) true) := by kernel_rfl
theorem p_c8 (i : Int) (j : J) (b : Bool) : evl (S 23 (wJ s i (up j 20 (vB b))) (HG z f) true).tmps (cx p8c) = vB b := by kernel_rfl
theorem p_r9 (i : Int) (j : J) : @regionOf (iG base) (EG base) p9 (S 23 (wJ s i j) (HG z f) true) = some (S 23 (up (up (wJ s i (up j 21 (vI i))) 4 (vI i)) 5 (vI 0)) (HG z f) true) := by kernel_rfl
theorem p_r10 (i : Nat) (j : J) : @regionOf (iG base) (EG base) p10 (S 23 (uJ s i j) (HG z f) true) = some (S 23 (uJ s (IntKind.i64.wrap ((i : Int) + 1)) (up j 22 (vI (IntKind.i64.wrap ((i : Int) + 1))))) (HG z f) true) := by kernel_rfl
theorem p_r11 (j : J) : @regionOf (iG base) (EG base) p11 (S 23 j (HG z f) true) = some (S 23 (up (up j 4 (vI 0)) 5 (vI 6)) (HG z f) true) := by kernel_rfl
theorem p_end (a b : Int) (j : J) (h : Heap) : @finK (iG base) Try.prog Try.f27 .ret (S 23 (up (up j 4 (vI a)) 5 (vI b)) h true) = some (.tuple #[.int .i64 a, .int .i64 b], h, true) := by kernel_rfl
end
end Lg
end Go.Proofs.Ytigegnkifeljhaa
end
