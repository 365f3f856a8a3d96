/-
  Drift: the program's loop, its states and where a round leads. No condition.
-/
import Derived.Test.YtljmhdaphpdkgaaIc
set_option linter.unusedSectionVars false
set_option linter.unusedVariables false
noncomputable section
namespace Go.Proofs.Ytljmhdaphpdkgaa
namespace Dr
open Go Go.ChangeShapes Go.WideShapes Go.ChangeAt Go.RowKit Ev Mc
def sqO : Sig
  | [.float .f32 a] => some (.float .f32 (fmul .f32 a a), true)
  | _ => none
theorem sq_eval (a : Nat) : @funD noFrn Try.prog noOrc noOrc [43] 40 5 43 [.float .f32 a] [] = some (.float .f32 (fmul .f32 a a), [], true) := by kernel_rfl
theorem sqO_bare : BareSig sqO := fun args v he => by
  unfold sqO at he
  split at he
  · simp only [Option.some.injEq, Prod.mk.injEq] at he
    obtain ⟨rfl, h⟩ := he
    exact ⟨rfl, rfl⟩
  · cases he
theorem sq_one : @OrcOne noFrn Try.prog 43 sqO := by
  refine orc_one (us := [43]) (cf := 40) (d := 5) mixed (by kernel_rfl) (lx := []) all_nil (l0 := []) all_nil (by kernel_rfl) fun args v k he hk hx => ?_
  unfold sqO at he
  split at he
  · simp only [Option.some.injEq, Prod.mk.injEq] at he
    obtain ⟨rfl, rfl⟩ := he
    exact ⟨rfl, rfl, _, sq_eval _⟩
  · cases he
def orcD : List (Nat × Sig) := [(42, abO), (43, sqO)]
theorem orcDOk {ι : Frn} : ∀ p ∈ orcD, @OrcOne ι Try.prog p.1 p.2 := all_cons ab_one (all_cons (orc_any sq_one sqO_bare) all_nil)
noncomputable abbrev ED [Frn] : Env := conE Try.prog noOrc (fun f => seek f orcD)
noncomputable def dC : Code := (Try.f30.body.getD .skip)
theorem d_body : Try.f30.body = some dC := by kernel_rfl
noncomputable def d0 : Code := sa dC
noncomputable def d1 : Code := sa (sb dC)
noncomputable def d2 : Code := sa (sb (sb dC))
noncomputable def d3 : Code := sa (sa (sb (sb (sb dC))))
noncomputable def dL : Code := inn (inn (sb (sa (sb (sb (sb dC))))))
noncomputable def d4 : Code := sa dL
noncomputable def d4c : Code := sa (sb dL)
noncomputable def dP : Code := sb (sb dL)
noncomputable def d10 : Code := sa (sb (sb (sb (sb dC))))
noncomputable def dB : Code := .seq d4 (.seq (.cond (cx d4c) .skip (.exit 0)) dP)
theorem d_shape : dC = .seq d0 (.seq d1 (.seq d2 (.seq (.seq d3 (.block 0 (.loop dB))) (.seq d10 .ret)))) := by kernel_rfl
noncomputable def vU : Value × Bool := (undef, false)
def vFl (a : Nat) : Value × Bool := (.float .f32 a, true)
def gA (z : Nat → Int) (f : Nat → Nat) : Value × Bool := (.agg (Lg.gr z f).toArray, true)
def wh (z : Nat → Int) : Nat := nr (abS z (fun w => z (16 + w)) 16)
noncomputable def d5 : Code := sa (inn (sa dP))
noncomputable def d678 : Code := sb (inn (sa dP))
noncomputable def d9 : Code := sb dP
theorem dP_shape : dP = .seq (.block 1 (.seq d5 d678)) d9 := by kernel_rfl
/-- a sample's cells -/
def rowS (t : Int) (n : Nat → Int) : List Value := .int .i64 t :: q16 n
/-- 43: the last round's index -/
def whA (z : Nat → Int) : Value × Bool := (.agg (q16 fun w => z (16 + w)).toArray, true)
def dsl : List Nat := [0, 1, 2, 3, 4, 5, 6, 7, 8, 12, 13, 14, 15, 16, 17, 18, 43, 44, 45, 46, 47, 48]
def dlv (l c : Nat) (z : Nat → Int) (f : Nat → Nat) (i : Int) (P Q x : Value × Bool) : List (Value × Bool) :=
  [gA z f, vT 0 l c, vP 0, vU, vFl 0, P, Q, vFl (wh z), vU, gA z f, vPo 0 16, whA z, vFl (wh z), vT 0 l c, vI l, vI i, x, vU, vU, vU, vU, vU]
noncomputable def D (l c : Nat) (z : Nat → Int) (f : Nat → Nat) (i : Int) (P Q x y : Value × Bool) (h : Heap) (j : J) : St := ⟨[gA z f, vT 0 l c, vP 0, vU, vFl 0, P, Q, vFl (wh z), vU, j 9, j 10, j 11, gA z f, vPo 0 16, whA z, vFl (wh z), vT 0 l c, vI l, vI i, y, j 20, j 21, j 22, j 23, j 24, j 25, j 26, j 27, j 28, j 29, j 30, j 31, j 32, j 33, j 34, j 35, j 36, j 37, j 38, j 39, j 40, j 41, j 42, x, vU, vU, vU, vU, vU], h, true⟩
/-- behind the record's load: 9, 19, 20, 21 live too -/
def dsl2 : List Nat := [9, 19, 20, 21] ++ dsl
def drest : List Nat := [10, 11] ++ (List.range 21).map (· + 22)
def dlv2 (l c : Nat) (z : Nat → Int) (f : Nat → Nat) (i : Nat) (P Q x : Value × Bool) (p : Value × Bool) (R : List Value) : List (Value × Bool) := [p, vB true, vR 0 (i * 17), vA R] ++ dlv l c z f i P Q x
noncomputable def D2 (l c : Nat) (z : Nat → Int) (f : Nat → Nat) (i : Nat) (P Q x : Value × Bool) (p : Value × Bool) (R : List Value) (h : Heap) (j : J) (ok : Bool) : St := ⟨[gA z f, vT 0 l c, vP 0, vU, vFl 0, P, Q, vFl (wh z), vU, p, j 10, j 11, gA z f, vPo 0 16, whA z, vFl (wh z), vT 0 l c, vI l, vI (i : Int), vB true, vR 0 (i * 17), vA R, j 22, j 23, j 24, j 25, j 26, j 27, j 28, j 29, j 30, j 31, j 32, j 33, j 34, j 35, j 36, j 37, j 38, j 39, j 40, j 41, j 42, x, vU, vU, vU, vU, vU], h, ok⟩
theorem D2_eq (l c : Nat) (z : Nat → Int) (f : Nat → Nat) (i : Nat) (P Q x : Value × Bool) (p : Value × Bool) (R : List Value) (h : Heap) (j : J) : S 49 (ups (dsl2.zip (dlv2 l c z f i P Q x p R)) j) h true = D2 l c z f i P Q x p R h j true := by kernel_rfl
/-- a state behind a round, as one ahead of the next -/
theorem D_of (l c : Nat) (z : Nat → Int) (f : Nat → Nat) (i : Nat) (P Q x : Value × Bool) (p : Value × Bool) (R : List Value) (h : Heap) (j : J) : D2 l c z f i P Q x p R h j true = D l c z f i P Q x (vB true) h (up (up (up j 9 p) 20 (vR 0 (i * 17))) 21 (vA R)) := by kernel_rfl
def yv (z n : Nat → Int) : Nat := fsub .f32 (fdiv .f32 (nr (abS z n 16)) (wh z)) 1065353216
def pv (z n : Nat → Int) (t : Int) : Nat := fmul .f32 (nr t) (yv z n)
def sv (t : Int) : Nat := fmul .f32 (nr t) (nr t)
section
variable (ι : Frn) (l c i : Nat) (z n : Nat → Int) (f : Nat → Nat) (P Q x y : Value × Bool) (h : Heap) (j : J) (b : Bool) (p q R : List Value) (t : Int)
theorem d_r4 : @regionOf ι (@ED ι) d4 (D l c z f i P Q x y h j) = some (D l c z f i P Q x (vB (decide ((i : Int) < (l : Int)))) h j) := by kernel_rfl
theorem d_x4 : evl (D l c z f i P Q x (vB b) h j).tmps (cx d4c) = vB b := by kernel_rfl
theorem d_r5n : @regionOf ι (@ED ι) d5 (D l c z f i P Q x (vB true) [some (Lg.gr z f), none] j) = some (D2 l c z f i P Q x (vP 4) (recAt 17 (Frn.row 0) i) [some (Lg.gr z f), none, none, none, some (setRow zS 0 (recAt 17 (Frn.row 0) i)), none] j (q4 (recAt 17 (Frn.row 0) i) i l (Frn.row 0))) := by kernel_rfl
theorem d_r5s : @regionOf ι (@ED ι) d5 (D l c z f i P Q x (vB true) [some (Lg.gr z f), some p, some q] j) = some (D2 l c z f i P Q x (vP 5) (recAt 17 (Frn.row 0) i) [some (Lg.gr z f), some p, some q, none, none, some (setRow zS 0 (recAt 17 (Frn.row 0) i)), none] j (q4 (recAt 17 (Frn.row 0) i) i l (Frn.row 0))) := by kernel_rfl
theorem d_r9 : @regionOf ι (@ED ι) d9 (D l c z f i P Q x y h j) = some (D l c z f (IntKind.i64.wrap ((i : Int) + 1)) P Q (vI (IntKind.i64.wrap ((i : Int) + 1))) y h j) := by kernel_rfl
end
end Dr
end Go.Proofs.Ytljmhdaphpdkgaa
end
