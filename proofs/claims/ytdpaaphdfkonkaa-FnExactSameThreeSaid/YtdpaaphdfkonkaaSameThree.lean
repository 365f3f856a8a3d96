/-
  FnExactSameThree: whatever the arguments, the program and its model answer the same: no condition.
-/
import Derived.Test.YtdpaaphdfkonkaaS
namespace Go.Proofs.Ytdpaaphdfkonkaa.fnExactSameThree
open Go.ChangeShapes Go.WideShapes Go.ChangeAt Go.RowKit Ev


set_option linter.unusedVariables false in
theorem eval (l0 : List Nat) (h0 : l0.length = 3) (l1 : List Nat) (h1 : l1.length = 3) : ∃ h', funD Try.prog ext (orcOf orcS) [14, 41, 40, 42, 52] 200 6 14 [.agg (fl .f32 l0).toArray, .agg (fl .f32 l1).toArray] [] = some (.bool true, h', true) := by
  obtain ⟨a0, a1, a2, rfl⟩ := list3 h0
  obtain ⟨b0, b1, b2, rfl⟩ := list3 h1
  refine of_funM (by kernel_rfl) (by kernel_rfl) ?_
  refine Eq.trans (b := bif !((true == eqInts (ints [a0, a1, a2]) (ints [b0, b1, b2])) == (bif (bif ib a0 b0 then ib a1 b1 else false) then ib a2 b2 else false)) then some (.bool false, [], (F3 (ib a0 b0) (bif ib a0 b0 then ib a1 b1 else false) && true)) else some (.bool true, [], (F3 (ib a0 b0) (bif ib a0 b0 then ib a1 b1 else false) && true))) (by kernel_rfl) ?_
  have e : eqV (fl .f32 [a0, a1, a2]) (fl .f32 [b0, b1, b2]) = (bif ib a0 b0 then (bif ib a1 b1 then (bif ib a2 b2 then true else false) else false) else false) := rfl
  rw [F3_true, eqInts_eqV, e]
  cases ib a0 b0 <;> cases ib a1 b1 <;> cases ib a2 b2 <;> rfl

theorem walk (z0 : List Nat) (q0 : z0.length = 3) (z1 : List Nat) (q1 : z1.length = 3) (w : World) : Calls Try.prog 14 #[.agg (fl .f32 z0).toArray, .agg (fl .f32 z1).toArray] w fun e w' => e = .returned (.bool true) ∧ Below w.heap.size w w' :=
  fun_law mixed (by kernel_rfl) (ext_list extsOk) (orc_list orcSOk) (eval (z0.map (cn .f32)) (by simpa using q0) (z1.map (cn .f32)) (by simpa using q1)) (allP (fl_plain _ _) (allP (fl_plain _ _) rfl)) (μ := fun _ => none) (cargs := [.agg (fl .f32 z0).toArray, .agg (fl .f32 z1).toArray]) (VRL.cons (fl_VR .f32 z0) (VRL.cons (fl_VR .f32 z1) VRL.nil)) w

set_option maxRecDepth 100000 in
set_option linter.unusedVariables false in
theorem lifted (os : Os) (started : os.Started) (H : Type) (enc : TypeId × Value → H) :
    ReturnsInHanded {} Try.checked os 14 .any (Rows.fnExactSameThreeSpec.pre6 enc Try.prog Try.f14 Rows.fnExactSameThreeRow.domain false) (Rows.fnExactSameThreeSpec.post enc Try.prog Try.f14 false true false false) := by
  refine returnsInHanded_of_change (C := Try.checked) own started (by kernel_rfl) Try.func14
    (ChangeSpec.witness6 (enc := enc) (C := Try.checked) false ⟨#[], #[.agg (fl .f32 [0, 0, 0]).toArray, .agg (fl .f32 [0, 0, 0]).toArray], []⟩ 8 (by kernel_rfl) (by kernel_rfl) (by kernel_rfl) (by kernel_rfl)) ?_
  intro W base args ds gs before hval0 hW hcnd _
  have hval : ∀ (j : Nat) t v, Try.f14.params[j]? = some t → args[j]? = some v → Value.okWide Try.prog W .any base t v := hval0
  have hW' := hW
  obtain ⟨p, q, hA0, hV, rfl, hfz, hnd⟩ := hW
  have hA : DataW.TrodAll enc Try.prog W 0 (fun _ => true) true Try.f14.params.toList args.toList ds p := hA0
  rw [Try.params14] at hA hval
  obtain ⟨v0, vs0, d0, ds0, p0, q0, hargs, rfl, rfl, h0, r0⟩ := trodAll_cons hA
  obtain ⟨v1, vs1, d1, ds1, p1, q1, rfl, rfl, rfl, h1, r1⟩ := trodAll_cons r0
  obtain ⟨rfl, rfl, rfl⟩ := trodAll_nil r1
  obtain rfl : args = #[v0, v1] := by cases args; simp_all
  obtain ⟨rfl, rfl⟩ := trodVars_none hV
  have lt0 : ∀ x ∈ p0, x.block < W.heap.size := by obtain ⟨m, hm⟩ := h0; exact DataW.trod_lt m _ _ _ hm
  obtain ⟨z0, e0, q0⟩ := three44 (hval 0 44 v0 rfl rfl)
  have lt1 : ∀ x ∈ p1, x.block < W.heap.size := by obtain ⟨m, hm⟩ := h1; exact DataW.trod_lt m _ _ _ hm
  obtain ⟨z1, e1, q1⟩ := three44 (hval 1 44 v1 rfl rfl)
  clear hA0 hval0
  subst e0
  subst e1
  refine (walk z0 q0 z1 q1 W).mono fun e W' ⟨he, bel⟩ => ?_
  subst he
  exact ⟨_, rfl, _, _, _, [], _, [], hW', trodAll_mk1 (shut_bool Try.underlying4 _), (trodAll_cons_mk (Below.trod laidOut (by kernel_rfl) (of_decide_eq_true (by kernel_rfl)) h0 bel lt0) (trodAll_cons_mk (Below.trod laidOut (by kernel_rfl) (of_decide_eq_true (by kernel_rfl)) h1 bel lt1) trodAll_mk0)), rfl, bel.frame _, fun h => by cases h⟩

theorem over : Rows.fnExactSameThreeRow.holds Try.pinned (OpenSpec.ofChange Rows.fnExactSameThreeSpec) :=
  OpenClaim.holds_of_wide 14 Try.f14 rfl rfl rfl rfl rfl rfl rfl ⟨rfl, rfl, rfl, rfl, rfl⟩ rfl rfl rfl rfl rfl (by kernel_rfl) Try.func14 (by kernel_rfl)
    (of_decide_eq_true (by kernel_rfl)) (by unfold Func.isWrapper; first | (rw [if_pos (by decide +kernel)]; kernel_rfl) | (rw [if_neg (by decide +kernel)]; exact ⟨rfl, rfl⟩))
    (fun os started H enc _ => lifted os started H enc)

/-- The given statement. -/
theorem proved : Rows.FnExactSameThreeSaid := over
end Go.Proofs.Ytdpaaphdfkonkaa.fnExactSameThree
