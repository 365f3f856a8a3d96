/-
  FnExactIsFiniteCurve: whatever the arguments, the program and its model answer the same: no condition.
-/
import Derived.Test.YtdpaaphdfkonkaaF
namespace Go.Proofs.Ytdpaaphdfkonkaa.fnExactIsFiniteCurve
open Go.ChangeShapes Go.WideShapes Go.ChangeAt Go.RowKit Ev


set_option linter.unusedVariables false in
theorem eval (l0 : List Nat) (h0 : l0.length = 16) : ∃ h', funD Try.prog ext (orcOf orcFC) [5, 20, 19] 200 6 5 [.agg (fl .f32 l0).toArray] [] = some (.bool true, h', true) := by
  obtain ⟨a0, a1, a2, a3, a4, a5, a6, a7, a8, a9, a10, a11, a12, a13, a14, a15, rfl⟩ := list16 h0
  refine of_funM (by kernel_rfl) (by kernel_rfl) ?_
  refine Eq.trans (b := bif !(allFin [a0, a1, a2, a3, a4, a5, a6, a7, a8, a9, a10, a11, a12, a13, a14, a15] == allFin [a0, a1, a2, a3, a4, a5, a6, a7, a8, a9, a10, a11, a12, a13, a14, a15]) then some (.bool false, [], true) else some (.bool true, [], true)) (by kernel_rfl) ?_
  generalize allFin [a0, a1, a2, a3, a4, a5, a6, a7, a8, a9, a10, a11, a12, a13, a14, a15] = e; cases e <;> rfl

theorem walk (z0 : List Nat) (q0 : z0.length = 16) (w : World) : Calls Try.prog 5 #[.agg (fl .f32 z0).toArray] w fun e w' => e = .returned (.bool true) ∧ Below w.heap.size w w' :=
  fun_law mixed (by kernel_rfl) (ext_list extsOk) (orc_list orcFCOk) (eval (z0.map (cn .f32)) (by simpa using q0)) (allP (fl_plain _ _) rfl) (μ := fun _ => none) (cargs := [.agg (fl .f32 z0).toArray]) (VRL.cons (fl_VR .f32 z0) VRL.nil) w

set_option maxRecDepth 100000 in
set_option linter.unusedVariables false in
theorem lifted (os : Os) (started : os.Started) (H : Type) (enc : TypeId × Value → H) :
    ReturnsInHanded {} Try.checked os 5 .any (Rows.fnExactIsFiniteCurveSpec.pre6 enc Try.prog Try.f5 Rows.fnExactIsFiniteCurveRow.domain false) (Rows.fnExactIsFiniteCurveSpec.post enc Try.prog Try.f5 false true false false) := by
  refine returnsInHanded_of_change (C := Try.checked) own started (by kernel_rfl) Try.func5
    (ChangeSpec.witness6 (enc := enc) (C := Try.checked) false ⟨#[], #[.agg (fl .f32 [0, 0, 0, 0, 0, 0, 0, 0, 0, 0, 0, 0, 0, 0, 0, 0]).toArray], []⟩ 8 (by kernel_rfl) (by kernel_rfl) (by kernel_rfl) (by kernel_rfl)) ?_
  intro W base args ds gs before hval0 hW hcnd _
  have hval : ∀ (j : Nat) t v, Try.f5.params[j]? = some t → args[j]? = some v → Value.okWide Try.prog W .any base t v := hval0
  have hW' := hW
  obtain ⟨p, q, hA0, hV, rfl, hfz, hnd⟩ := hW
  have hA : DataW.TrodAll enc Try.prog W 0 (fun _ => true) true Try.f5.params.toList args.toList ds p := hA0
  rw [Try.params5] at hA hval
  obtain ⟨v0, vs0, d0, ds0, p0, q0, hargs, rfl, rfl, h0, r0⟩ := trodAll_cons hA
  obtain ⟨rfl, rfl, rfl⟩ := trodAll_nil r0
  obtain rfl : args = #[v0] := by cases args; simp_all
  obtain ⟨rfl, rfl⟩ := trodVars_none hV
  have lt0 : ∀ x ∈ p0, x.block < W.heap.size := by obtain ⟨m, hm⟩ := h0; exact DataW.trod_lt m _ _ _ hm
  obtain ⟨z0, e0, q0⟩ := curve26 (hval 0 26 v0 rfl rfl)
  clear hA0 hval0
  subst e0
  refine (walk z0 q0 W).mono fun e W' ⟨he, bel⟩ => ?_
  subst he
  exact ⟨_, rfl, _, _, _, [], _, [], hW', trodAll_mk1 (shut_bool Try.underlying4 _), (trodAll_cons_mk (Below.trod laidOut (by kernel_rfl) (of_decide_eq_true (by kernel_rfl)) h0 bel lt0) trodAll_mk0), rfl, bel.frame _, fun h => by cases h⟩

theorem over : Rows.fnExactIsFiniteCurveRow.holds Try.pinned (OpenSpec.ofChange Rows.fnExactIsFiniteCurveSpec) :=
  OpenClaim.holds_of_wide 5 Try.f5 rfl rfl rfl rfl rfl rfl rfl ⟨rfl, rfl, rfl, rfl, rfl⟩ rfl rfl rfl rfl rfl (by kernel_rfl) Try.func5 (by kernel_rfl)
    (of_decide_eq_true (by kernel_rfl)) (by unfold Func.isWrapper; first | (rw [if_pos (by decide +kernel)]; kernel_rfl) | (rw [if_neg (by decide +kernel)]; exact ⟨rfl, rfl⟩))
    (fun os started H enc _ => lifted os started H enc)

/-- The given statement. -/
theorem proved : Rows.FnExactIsFiniteCurveSaid := over
end Go.Proofs.Ytdpaaphdfkonkaa.fnExactIsFiniteCurve
