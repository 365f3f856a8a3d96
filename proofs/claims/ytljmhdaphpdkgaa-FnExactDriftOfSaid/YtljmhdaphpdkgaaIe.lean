/-
  Drift: the program's loop. No condition.
-/
import Derived.Test.YtljmhdaphpdkgaaId
set_option linter.unusedSectionVars false
set_option linter.unusedVariables false
noncomputable section
namespace Go.Proofs.Ytljmhdaphpdkgaa
namespace Dr
open Go Go.ChangeShapes Go.WideShapes Go.ChangeAt Go.RowKit Ev Mc
def kA4 (i : Nat) (q : List Value) : Bool := (Nat.beq (i + 1) (i + 1) && Nat.beq q.length ((i + 1) * 1)) && ((Nat.ble ((i + 1 + 1) * 4) 140737488355328 && Nat.ble (i + 1 + 1) 9223372036854775807) && true)
theorem kA4_true {i : Nat} {q : List Value} (hq : q.length = i + 1) (hi : i < 1000) : kA4 i q = true := by
  unfold kA4
  rw [hq, Nat.mul_one, show Nat.beq (i + 1) (i + 1) = true from Nat.beq_refl _, ble_of (show (i + 1 + 1) * 4 ≤ 140737488355328 by omega), ble_of (show i + 1 + 1 ≤ 9223372036854775807 by omega)]; rfl
def fF (a : Nat) : Value := .float .f32 a
def H0 (z n : Nat → Int) (f : Nat → Nat) (t : Int) : Heap := [some (Lg.gr z f), none, none, none, some (rowS t n), none, none, none, none, none, some [fF (pv z n t)], none, none, some [fF (pv z n t)], none, none, none, some [fF (sv t)], none, none, some [fF (sv t)]]
def HS (z n : Nat → Int) (f : Nat → Nat) (t : Int) (p q : List Value) : Heap := [some (Lg.gr z f), some [], some [], none, none, some (rowS t n), none, none, none, none, none, some [fF (pv z n t)], none, none, some (p ++ [fF (pv z n t)]), none, none, none, some [fF (sv t)], none, none, some (q ++ [fF (sv t)])]
/-- contracts of the sums -/
def gF (sm : List Value → Nat → Nat) (kF : List Value → Nat → Nat → Bool) : CT := fun args h => match args with
  | [.slice (some ⟨b, 0, none⟩) l' c'] => match h.getD b none with
    | some r => some (.float .f32 (sm r l'), [], kF r l' c')
    | none => none
  | _ => none
def conF (sm : List Value → Nat → Nat) (kF : List Value → Nat → Nat → Bool) (f : FuncId) : Option CT := bif Nat.beq f 44 then some (gF sm kF) else none
noncomputable def D10 (l c : Nat) (z : Nat → Int) (f : Nat → Nat) (a b : Nat) (x y : Value × Bool) (h : Heap) (j : J) : St := ⟨[gA z f, vT 0 l c, vP 0, vU, vFl (fdiv .f32 a b), vS 1 l, vS 2 l, vFl (wh z), vU, j 9, j 10, j 11, gA z f, vPo 0 16, whA z, vFl (wh z), vT 0 l c, vI l, vI (l : Int), y, j 20, j 21, j 22, j 23, j 24, j 25, j 26, j 27, j 28, j 29, j 30, j 31, j 32, j 33, j 34, j 35, j 36, j 37, j 38, j 39, j 40, j 41, j 42, x, vS 1 l, vFl a, vS 2 l, vFl b, vFl (fdiv .f32 a b)], h, true⟩
section
variable (ι : Frn) (l c i : Nat) (z n : Nat → Int) (f : Nat → Nat) (P Q x y : Value × Bool) (h : Heap) (j : J) (b : Bool) (p q R : List Value) (t : Int)
theorem d_start : startS Try.f30 [.agg (Lg.gr z f).toArray, tok 0 l c] [] = ⟨[gA z f, vT 0 l c, vU, vU, vU, vU, vU, vU, vU, vU, vU, vU, vU, vU, vU, vU, vU, vU, vU, vU, vU, vU, vU, vU, vU, vU, vU, vU, vU, vU, vU, vU, vU, vU, vU, vU, vU, vU, vU, vU, vU, vU, vU, vU, vU, vU, vU, vU, vU], [], true⟩ := by kernel_rfl
theorem d_r0 : @regionOf ι (@ED ι) d0 ⟨[gA z f, vT 0 l c, vU, vU, vU, vU, vU, vU, vU, vU, vU, vU, vU, vU, vU, vU, vU, vU, vU, vU, vU, vU, vU, vU, vU, vU, vU, vU, vU, vU, vU, vU, vU, vU, vU, vU, vU, vU, vU, vU, vU, vU, vU, vU, vU, vU, vU, vU, vU], [], true⟩ = some ⟨[gA z f, vT 0 l c, vP 0, vU, vFl 0, vU, vU, vU, vU, vU, vU, vU, vU, vU, vU, vU, vU, vU, vU, vU, vU, vU, vU, vU, vU, vU, vU, vU, vU, vU, vU, vU, vU, vU, vU, vU, vU, vU, vU, vU, vU, vU, vU, vU, vU, vU, vU, vU, vU], [some (Lg.gr z f), none], true⟩ := by kernel_rfl
theorem d_r1 : @regionOf ι (@ED ι) d1 ⟨[gA z f, vT 0 l c, vP 0, vU, vFl 0, vU, vU, vU, vU, vU, vU, vU, vU, vU, vU, vU, vU, vU, vU, vU, vU, vU, vU, vU, vU, vU, vU, vU, vU, vU, vU, vU, vU, vU, vU, vU, vU, vU, vU, vU, vU, vU, vU, vU, vU, vU, vU, vU, vU], [some (Lg.gr z f), none], true⟩ = some ⟨[gA z f, vT 0 l c, vP 0, vU, vFl 0, vN, vN, vU, vU, vU, vU, vU, vU, vU, vU, vU, vU, vU, vU, vU, vU, vU, vU, vU, vU, vU, vU, vU, vU, vU, vU, vU, vU, vU, vU, vU, vU, vU, vU, vU, vU, vU, vU, vU, vU, vU, vU, vU, vU], [some (Lg.gr z f), none], true⟩ := by kernel_rfl
theorem d_r2 : @regionOf ι (@ED ι) d2 ⟨[gA z f, vT 0 l c, vP 0, vU, vFl 0, vN, vN, vU, vU, vU, vU, vU, vU, vU, vU, vU, vU, vU, vU, vU, vU, vU, vU, vU, vU, vU, vU, vU, vU, vU, vU, vU, vU, vU, vU, vU, vU, vU, vU, vU, vU, vU, vU, vU, vU, vU, vU, vU, vU], [some (Lg.gr z f), none], true⟩ = some ⟨[gA z f, vT 0 l c, vP 0, vU, vFl 0, vN, vN, vFl (wh z), vU, vU, vU, vU, gA z f, vPo 0 16, whA z, vFl (wh z), vU, vU, vU, vU, vU, vU, vU, vU, vU, vU, vU, vU, vU, vU, vU, vU, vU, vU, vU, vU, vU, vU, vU, vU, vU, vU, vU, vU, vU, vU, vU, vU, vU], [some (Lg.gr z f), none], true⟩ := by kernel_rfl
theorem d_r3 : @regionOf ι (@ED ι) d3 ⟨[gA z f, vT 0 l c, vP 0, vU, vFl 0, vN, vN, vFl (wh z), vU, vU, vU, vU, gA z f, vPo 0 16, whA z, vFl (wh z), vU, vU, vU, vU, vU, vU, vU, vU, vU, vU, vU, vU, vU, vU, vU, vU, vU, vU, vU, vU, vU, vU, vU, vU, vU, vU, vU, vU, vU, vU, vU, vU, vU], [some (Lg.gr z f), none], true⟩ = some (D l c z f ((0 : Nat) : Int) vN vN vU vU [some (Lg.gr z f), none] fun _ => vU) := by kernel_rfl
theorem d_r10 (base : Nat) (ts : Toks) (sm : List Value → Nat → Nat) (kF : List Value → Nat → Nat → Bool) : @regionOf (frnOf base ts (conF sm kF)) (@ED (frnOf base ts (conF sm kF))) d10 (D l c z f l (vS 1 l) (vS 2 l) x y [some (Lg.gr z f), some p, some q] j) = some ⟨(D10 l c z f (sm p l) (sm q l) x y [some (Lg.gr z f), some p, some q] j).tmps, [some (Lg.gr z f), some p, some q], kF q l l && (kF p l l && true)⟩ := by kernel_rfl
theorem d_end (a b : Nat) : (@finK ι Try.prog Try.f30 .ret (D10 l c z f a b x y h j)).map (fun r => (r.1, r.2.2)) = some (.float .f32 (fdiv .f32 a b), true) := by kernel_rfl
theorem d_678n : @codeK ι (@ED ι) 40 d678 (D2 l c z f 0 vN vN x (vP 4) (rowS t n) [some (Lg.gr z f), none, none, none, some (rowS t n), none] j true) (capP 49 dsl2 drest) = some (.tuple ((dlv2 l c z f 0 (vS 13 1) (vS 20 1) x (vP 4) (rowS t n)).map encP).toArray, H0 z n f t, kC t && true) := by kernel_rfl
theorem d_678s : @codeK ι (@ED ι) 40 d678 (D2 l c z f (i + 1) (vS 1 (i + 1)) (vS 2 (i + 1)) x (vP 5) (rowS t n) [some (Lg.gr z f), some p, some q, none, none, some (rowS t n), none] j true) (capP 49 dsl2 drest) = some (.tuple ((dlv2 l c z f (i + 1) (vS 14 (i + 1 + 1)) (vS 21 (i + 1 + 1)) x (vP 5) (rowS t n)).map encP).toArray, HS z n f t p q, kA4 i q && (kA4 i p && (kC t && true))) := by kernel_rfl
end
end Dr
end Go.Proofs.Ytljmhdaphpdkgaa
end
