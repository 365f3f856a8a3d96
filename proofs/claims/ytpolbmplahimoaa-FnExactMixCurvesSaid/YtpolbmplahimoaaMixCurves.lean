/-
  FnExactMixCurves: whatever the arguments, the program and its model answer the same: no condition.
-/
import Derived.Test.YtpolbmplahimoaaC
namespace Go.Proofs.Ytpolbmplahimoaa.fnExactMixCurves
open Go.ChangeShapes Go.WideShapes Go.ChangeAt Go.RowKit Ev


set_option linter.unusedVariables false in
theorem eval (l0 : List Nat) (h0 : l0.length = 16) (l1 : List Nat) (h1 : l1.length = 16) (l2 : Nat) (h2 : cn .f32 l2 = l2) : ∃ h', funD Try.prog ext (orcOf orc2) [10, 18, 31, 32, 26, 30, 28, 23] 200 6 10 [.agg (fl .f32 l0).toArray, .agg (fl .f32 l1).toArray, .float .f32 l2] [] = some (.bool true, h', true) := by
  obtain ⟨a0, a1, a2, a3, a4, a5, a6, a7, a8, a9, a10, a11, a12, a13, a14, a15, rfl⟩ := list16 h0
  obtain ⟨b0, b1, b2, b3, b4, b5, b6, b7, b8, b9, b10, b11, b12, b13, b14, b15, rfl⟩ := list16 h1
  refine of_map ?_
  rw [show (some (Value.bool true, true) : Option (Value × Bool)) = some (.bool true, ((Nat.beq (fl .f32 (List.zipWith (fun x y => fadd .f32 (fmul .f32 x (fsub .f32 1065353216 l2)) (fmul .f32 y l2)) [a0, a1, a2, a3, a4, a5, a6, a7, a8, a9, a10, a11, a12, a13, a14, a15] [b0, b1, b2, b3, b4, b5, b6, b7, b8, b9, b10, b11, b12, b13, b14, b15])).length 16 && eqF32 (fl .f32 (List.zipWith (fun x y => fadd .f32 (fmul .f32 x (fsub .f32 1065353216 l2)) (fmul .f32 y l2)) [a0, a1, a2, a3, a4, a5, a6, a7, a8, a9, a10, a11, a12, a13, a14, a15] [b0, b1, b2, b3, b4, b5, b6, b7, b8, b9, b10, b11, b12, b13, b14, b15])) (fl .f32 (List.zipWith (fun x y => fadd .f32 (fmul .f32 x (fsub .f32 1065353216 l2)) (fmul .f32 y l2)) [a0, a1, a2, a3, a4, a5, a6, a7, a8, a9, a10, a11, a12, a13, a14, a15] [b0, b1, b2, b3, b4, b5, b6, b7, b8, b9, b10, b11, b12, b13, b14, b15]))) && true)) by rw [flagC rfl]]
  kernel_rfl

theorem walk (z0 : List Nat) (q0 : z0.length = 16) (z1 : List Nat) (q1 : z1.length = 16) (z2 : Nat) (w : World) : Calls Try.prog 10 #[.agg (fl .f32 z0).toArray, .agg (fl .f32 z1).toArray, .float .f32 z2] w fun e w' => e = .returned (.bool true) ∧ Below w.heap.size w w' :=
  fun_law mixed (by kernel_rfl) (ext_list extsOk) (orc_list orc2Ok) noCon (eval (z0.map (cn .f32)) (by simpa using q0) (z1.map (cn .f32)) (by simpa using q1) (cn .f32 z2) (cn_cn _ _)) (allP (fl_plain _ _) (allP (fl_plain _ _) (allP (rfl) rfl))) (μ := fun _ => none) (cargs := [.agg (fl .f32 z0).toArray, .agg (fl .f32 z1).toArray, .float .f32 z2]) (VRL.cons (fl_VR .f32 z0) (VRL.cons (fl_VR .f32 z1) (VRL.cons (VR.float .f32 _ z2 rfl) VRL.nil))) w (noIn w)

set_option maxRecDepth 100000 in
set_option linter.unusedVariables false in
theorem lifted (os : Os) (started : os.Started) (H : Type) (enc : TypeId × Value → H) :
    ReturnsInHanded {} Try.checked os 10 .any (Rows.fnExactMixCurvesSpec.pre6 enc Try.prog Try.f10 Rows.fnExactMixCurvesRow.domain false) (Rows.fnExactMixCurvesSpec.post enc Try.prog Try.f10 false true false false) := by
  refine returnsInHanded_of_change (C := Try.checked) own started (by kernel_rfl) Try.func10
    (ChangeSpec.witness6 (enc := enc) (C := Try.checked) false ⟨#[], #[.agg (fl .f32 [0, 0, 0, 0, 0, 0, 0, 0, 0, 0, 0, 0, 0, 0, 0, 0]).toArray, .agg (fl .f32 [0, 0, 0, 0, 0, 0, 0, 0, 0, 0, 0, 0, 0, 0, 0, 0]).toArray, .float .f32 0], []⟩ 8 (by kernel_rfl) (by kernel_rfl) (by kernel_rfl) (by kernel_rfl)) ?_
  intro W base args ds gs before hval0 hW hcnd _
  have hval : ∀ (j : Nat) t v, Try.f10.params[j]? = some t → args[j]? = some v → Value.okWide Try.prog W .any base t v := hval0
  have hW' := hW
  obtain ⟨p, q, hA0, hV, rfl, hfz, hnd⟩ := hW
  have hA : DataW.TrodAll enc Try.prog W 0 (fun _ => true) true Try.f10.params.toList args.toList ds p := hA0
  rw [Try.params10] at hA hval
  obtain ⟨v0, vs0, d0, ds0, p0, q0, hargs, rfl, rfl, h0, r0⟩ := trodAll_cons hA
  obtain ⟨v1, vs1, d1, ds1, p1, q1, rfl, rfl, rfl, h1, r1⟩ := trodAll_cons r0
  obtain ⟨v2, vs2, d2, ds2, p2, q2, rfl, rfl, rfl, h2, r2⟩ := trodAll_cons r1
  obtain ⟨rfl, rfl, rfl⟩ := trodAll_nil r2
  obtain rfl : args = #[v0, v1, v2] := by cases args; simp_all
  obtain ⟨rfl, rfl⟩ := trodVars_none hV
  have lt0 : ∀ x ∈ p0, x.block < W.heap.size := by obtain ⟨m, hm⟩ := h0; exact DataW.trod_lt m _ _ _ hm
  obtain ⟨z0, e0, q0⟩ := curve26 (hval 0 24 v0 rfl rfl)
  have lt1 : ∀ x ∈ p1, x.block < W.heap.size := by obtain ⟨m, hm⟩ := h1; exact DataW.trod_lt m _ _ _ hm
  obtain ⟨z1, e1, q1⟩ := curve26 (hval 1 24 v1 rfl rfl)
  have lt2 : ∀ x ∈ p2, x.block < W.heap.size := by obtain ⟨m, hm⟩ := h2; exact DataW.trod_lt m _ _ _ hm
  obtain ⟨z2, e2⟩ := okWide_float Try.underlying22 (hval 2 22 v2 rfl rfl)
  clear hA0 hval0
  subst e0
  subst e1
  subst e2
  refine (walk z0 q0 z1 q1 z2 W).mono fun e W' ⟨he, bel⟩ => ?_
  subst he
  exact ⟨_, rfl, _, _, _, [], _, [], hW', trodAll_mk1 (shut_bool Try.underlying4 _), (trodAll_cons_mk (Below.trod laidOut (by kernel_rfl) (of_decide_eq_true (by kernel_rfl)) h0 bel lt0) (trodAll_cons_mk (Below.trod laidOut (by kernel_rfl) (of_decide_eq_true (by kernel_rfl)) h1 bel lt1) (trodAll_cons_mk (Below.trod laidOut (by kernel_rfl) (of_decide_eq_true (by kernel_rfl)) h2 bel lt2) trodAll_mk0))), rfl, bel.frame _, fun h => by cases h⟩

theorem over : Rows.fnExactMixCurvesRow.holds Try.pinned (OpenSpec.ofChange Rows.fnExactMixCurvesSpec) :=
  OpenClaim.holds_of_wide 10 Try.f10 rfl rfl rfl rfl rfl rfl rfl ⟨rfl, rfl, rfl, rfl, rfl⟩ rfl rfl rfl rfl rfl (by kernel_rfl) Try.func10 (by kernel_rfl)
    (of_decide_eq_true (by kernel_rfl)) (by unfold Func.isWrapper; first | (rw [if_pos (by decide +kernel)]; kernel_rfl) | (rw [if_neg (by decide +kernel)]; exact ⟨rfl, rfl⟩))
    (fun os started H enc _ => lifted os started H enc)

/-- The given statement. -/
theorem proved : Rows.FnExactMixCurvesSaid := over
end Go.Proofs.Ytpolbmplahimoaa.fnExactMixCurves
