/-
  FnExactFlatCurve: whatever the arguments, the program and its model answer the same: no condition.
-/
import Derived.Test.YtpolbmplahimoaaC
namespace Go.Proofs.Ytpolbmplahimoaa.fnExactFlatCurve
open Go.ChangeShapes Go.WideShapes Go.ChangeAt Go.RowKit Ev


set_option linter.unusedVariables false in
theorem eval (l0 : Nat) (h0 : cn .f32 l0 = l0) : ∃ h', funD Try.prog ext (orcOf orc2) [6, 22, 23, 48] 200 6 6 [.float .f32 l0] [] = some (.bool true, h', true) := by
  refine of_map ?_
  rw [show (some (Value.bool true, true) : Option (Value × Bool)) = some (.bool true, ((Nat.beq (fl .f32 (List.replicate 16 l0)).length 16 && eqF32 (fl .f32 (List.replicate 16 l0)) (fl .f32 (List.replicate 16 l0))) && true)) by rw [flagC rfl]]
  kernel_rfl

theorem walk (z0 : Nat) (w : World) : Calls Try.prog 6 #[.float .f32 z0] w fun e w' => e = .returned (.bool true) ∧ Below w.heap.size w w' :=
  fun_law mixed (by kernel_rfl) (ext_list extsOk) (orc_list orc2Ok) noCon (eval (cn .f32 z0) (cn_cn _ _)) (allP (rfl) rfl) (μ := fun _ => none) (cargs := [.float .f32 z0]) (VRL.cons (VR.float .f32 _ z0 rfl) VRL.nil) w (noIn w)

set_option maxRecDepth 100000 in
set_option linter.unusedVariables false in
theorem lifted (os : Os) (started : os.Started) (H : Type) (enc : TypeId × Value → H) :
    ReturnsInHanded {} Try.checked os 6 .any (Rows.fnExactFlatCurveSpec.pre6 enc Try.prog Try.f6 Rows.fnExactFlatCurveRow.domain false) (Rows.fnExactFlatCurveSpec.post enc Try.prog Try.f6 false true false false) := by
  refine returnsInHanded_of_change (C := Try.checked) own started (by kernel_rfl) Try.func6
    (ChangeSpec.witness6 (enc := enc) (C := Try.checked) false ⟨#[], #[.float .f32 0], []⟩ 8 (by kernel_rfl) (by kernel_rfl) (by kernel_rfl) (by kernel_rfl)) ?_
  intro W base args ds gs before hval0 hW hcnd _
  have hval : ∀ (j : Nat) t v, Try.f6.params[j]? = some t → args[j]? = some v → Value.okWide Try.prog W .any base t v := hval0
  have hW' := hW
  obtain ⟨p, q, hA0, hV, rfl, hfz, hnd⟩ := hW
  have hA : DataW.TrodAll enc Try.prog W 0 (fun _ => true) true Try.f6.params.toList args.toList ds p := hA0
  rw [Try.params6] at hA hval
  obtain ⟨v0, vs0, d0, ds0, p0, q0, hargs, rfl, rfl, h0, r0⟩ := trodAll_cons hA
  obtain ⟨rfl, rfl, rfl⟩ := trodAll_nil r0
  obtain rfl : args = #[v0] := by cases args; simp_all
  obtain ⟨rfl, rfl⟩ := trodVars_none hV
  have lt0 : ∀ x ∈ p0, x.block < W.heap.size := by obtain ⟨m, hm⟩ := h0; exact DataW.trod_lt m _ _ _ hm
  obtain ⟨z0, e0⟩ := okWide_float Try.underlying22 (hval 0 22 v0 rfl rfl)
  clear hA0 hval0
  subst e0
  refine (walk z0 W).mono fun e W' ⟨he, bel⟩ => ?_
  subst he
  exact ⟨_, rfl, _, _, _, [], _, [], hW', trodAll_mk1 (shut_bool Try.underlying4 _), (trodAll_cons_mk (Below.trod laidOut (by kernel_rfl) (of_decide_eq_true (by kernel_rfl)) h0 bel lt0) trodAll_mk0), rfl, bel.frame _, fun h => by cases h⟩

theorem over : Rows.fnExactFlatCurveRow.holds Try.pinned (OpenSpec.ofChange Rows.fnExactFlatCurveSpec) :=
  OpenClaim.holds_of_wide 6 Try.f6 rfl rfl rfl rfl rfl rfl rfl ⟨rfl, rfl, rfl, rfl, rfl⟩ rfl rfl rfl rfl rfl (by kernel_rfl) Try.func6 (by kernel_rfl)
    (of_decide_eq_true (by kernel_rfl)) (by unfold Func.isWrapper; first | (rw [if_pos (by decide +kernel)]; kernel_rfl) | (rw [if_neg (by decide +kernel)]; exact ⟨rfl, rfl⟩))
    (fun os started H enc _ => lifted os started H enc)

/-- The given statement. -/
theorem proved : Rows.FnExactFlatCurveSaid := over
end Go.Proofs.Ytpolbmplahimoaa.fnExactFlatCurve
