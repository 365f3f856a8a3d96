/-
  Drift: how many counts there are above black. No condition.
-/
import Derived.Test.YtljmhdaphpdkgaaIa
set_option linter.unusedSectionVars false
set_option linter.unusedVariables false
noncomputable section
namespace Go.Proofs.Ytljmhdaphpdkgaa
namespace Dr
open Go Go.ChangeShapes Go.WideShapes Go.ChangeAt Go.RowKit Ev Mc
/-- the counts above black, at the first wavelengths -/
def abS (z n : Nat → Int) : Nat → Int
  | 0 => 0
  | w + 1 => IntKind.i64.wrap (abS z n w + IntKind.i64.wrap (IntKind.i64.wrap (n w) - IntKind.i64.wrap (z w)))
def usA : List Nat := [42, 35, 49, 50]
theorem ab_eval (z n : Nat → Int) (f : Nat → Nat) : (@funD noFrn Try.prog noOrc noOrc usA 200 12 42 [.agg (Lg.gr z f).toArray, .agg (q16 n).toArray] []).map (fun r => (r.1, r.2.2)) = some (.float .f32 (nr (abS z n 16)), kC (abS z n 16) && true) := by kernel_rfl
/-- the counts, by their cells -/
def cN (cs : List Value) (k : Nat) : Int := Ev.intOf (cs.getD k undef)
theorem cN_q {cs : List Value} (h : shapeB cntK cs = true) : cs = q16 (cN cs) := by
  obtain ⟨z0, z1, z2, z3, z4, z5, z6, z7, z8, z9, z10, z11, z12, z13, z14, z15, rfl⟩ := cnt_form h
  kernel_rfl
def abO : Sig
  | [.agg gs, .agg cs] => some (.float .f32 (nr (abS (Lg.zN gs.toList) (cN cs.toList) 16)), Lg.isG gs.toList && shapeB cntK cs.toList)
  | _ => none
theorem usA_ok : usA.all (funcOk Try.prog) = true := by kernel_rfl
theorem gr_plain (z : Nat → Int) (f : Nat → Nat) : plainB (.agg (Lg.gr z f).toArray) = true := by kernel_rfl
theorem ab_bare : BareSig abO := fun args v he => by
  unfold abO at he
  split at he
  · rename_i gs cs
    simp only [Option.some.injEq, Prod.mk.injEq, Bool.and_eq_true] at he
    obtain ⟨rfl, h1, h2⟩ := he
    refine ⟨?_, rfl⟩
    rw [List.all_cons, List.all_cons, show bareP (.agg gs) = true from Lg.isG_bare h1, show bareP (.agg cs) = true from shape_bare h2]; rfl
  · cases he
theorem ab_one {ι : Frn} : @OrcOne ι Try.prog 42 abO := by
  refine orc_any (?_ : @OrcOne noFrn Try.prog 42 abO) ab_bare
  refine orc_one (us := usA) (cf := 200) (d := 12) mixed usA_ok (l0 := []) (lx := []) all_nil all_nil (by kernel_rfl) fun args v k he hk hx => ?_
  unfold abO at he
  split at he
  · rename_i gs cs
    simp only [Option.some.injEq, Prod.mk.injEq] at he
    obtain ⟨rfl, rfl⟩ := he
    rw [Bool.and_eq_true] at hk
    have e1 := Lg.arr_of hk.1
    have e2 : cs = (q16 (cN cs.toList)).toArray := Array.ext' (cN_q hk.2)
    refine ⟨?_, rfl, ?_⟩
    · exact allP (by rw [e1]; exact gr_plain _ _) (allP (cnt_plain hk.2) rfl)
    · have h := of_map (ab_eval (Lg.zN gs.toList) (cN cs.toList) (Lg.fN gs.toList))
      rw [← e1, ← e2, kC_true] at h
      exact h
  · cases he
end Dr
end Go.Proofs.Ytljmhdaphpdkgaa
end
