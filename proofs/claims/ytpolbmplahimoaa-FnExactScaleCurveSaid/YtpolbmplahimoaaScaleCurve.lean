/-
  FnExactScaleCurve: whatever the arguments, the program and its model answer the same: no condition.
-/
import Derived.Test.YtpolbmplahimoaaC
namespace Go.Proofs.Ytpolbmplahimoaa.fnExactScaleCurve
open Go.ChangeShapes Go.WideShapes Go.ChangeAt Go.RowKit Ev


set_option linter.unusedVariables false in
theorem eval (l0 : List Nat) (h0 : l0.length = 16) (l1 : Nat) (h1 : cn .f32 l1 = l1) : ∃ h', funD Try.prog ext (orcOf orc2) [9, 18, 29, 30, 28, 23] 200 6 9 [.agg (fl .f32 l0).toArray, .float .f32 l1] [] = some (.bool true, h', true) := by
  obtain ⟨a0, a1, a2, a3, a4, a5, a6, a7, a8, a9, a10, a11, a12, a13, a14, a15, rfl⟩ := list16 h0
  refine of_map ?_
  rw [show (some (Value.bool true, true) : Option (Value × Bool)) = some (.bool true, ((Nat.beq (fl .f32 (List.map (fun x => fmul .f32 x l1) [a0, a1, a2, a3, a4, a5, a6, a7, a8, a9, a10, a11, a12, a13, a14, a15])).length 16 && eqF32 (fl .f32 (List.map (fun x => fmul .f32 x l1) [a0, a1, a2, a3, a4, a5, a6, a7, a8, a9, a10, a11, a12, a13, a14, a15])) (fl .f32 (List.map (fun x => fmul .f32 x l1) [a0, a1, a2, a3, a4, a5, a6, a7, a8, a9, a10, a11, a12, a13, a14, a15]))) && true)) by rw [flagC rfl]]
  kernel_rfl

theorem walk (z0 : List Nat) (q0 : z0.length = 16) (z1 : Nat) (w : World) : Calls Try.prog 9 #[.agg (fl .f32 z0).toArray, .float .f32 z1] w fun e w' => e = .returned (.bool true) ∧ Below w.heap.size w w' :=
  fun_law mixed (by kernel_rfl) (ext_list extsOk) (orc_list orc2Ok) noCon (eval (z0.map (cn .f32)) (by simpa using q0) (cn .f32 z1) (cn_cn _ _)) (allP (fl_plain _ _) (allP (rfl) rfl)) (μ := fun _ => none) (cargs := [.agg (fl .f32 z0).toArray, .float .f32 z1]) (VRL.cons (fl_VR .f32 z0) (VRL.cons (VR.float .f32 _ z1 rfl) VRL.nil)) w (noIn w)

set_option maxRecDepth 100000 in
set_option linter.unusedVariables false in
theorem lifted (os : Os) (started : os.Started) (H : Type) (enc : TypeId × Value → H) :
    ReturnsInHanded {} Try.checked os 9 .any (Rows.fnExactScaleCurveSpec.pre6 enc Try.prog Try.f9 Rows.fnExactScaleCurveRow.domain false) (Rows.fnExactScaleCurveSpec.post enc Try.prog Try.f9 false true false false) := by
  refine returnsInHanded_of_change (C := Try.checked) own started (by kernel_rfl) Try.func9
    (ChangeSpec.witness6 (enc := enc) (C := Try.checked) false ⟨#[], #[.agg (fl .f32 [0, 0, 0, 0, 0, 0, 0, 0, 0, 0, 0, 0, 0, 0, 0, 0]).toArray, .float .f32 0], []⟩ 8 (by kernel_rfl) (by kernel_rfl) (by kernel_rfl) (by kernel_rfl)) ?_
  intro W base args ds gs before hval0 hW hcnd _
  have hval : ∀ (j : Nat) t v, Try.f9.params[j]? = some t → args[j]? = some v → Value.okWide Try.prog W .any base t v := hval0
  have hW' := hW
  obtain ⟨p, q, hA0, hV, rfl, hfz, hnd⟩ := hW
  have hA : DataW.TrodAll enc Try.prog W 0 (fun _ => true) true Try.f9.params.toList args.toList ds p := hA0
  rw [Try.params9] at hA hval
  obtain ⟨v0, vs0, d0, ds0, p0, q0, hargs, rfl, rfl, h0, r0⟩ := trodAll_cons hA
  obtain ⟨v1, vs1, d1, ds1, p1, q1, rfl, rfl, rfl, h1, r1⟩ := trodAll_cons r0
  obtain ⟨rfl, rfl, rfl⟩ := trodAll_nil r1
  obtain rfl : args = #[v0, v1] := by cases args; simp_all
  obtain ⟨rfl, rfl⟩ := trodVars_none hV
  have lt0 : ∀ x ∈ p0, x.block < W.heap.size := by obtain ⟨m, hm⟩ := h0; exact DataW.trod_lt m _ _ _ hm
  obtain ⟨z0, e0, q0⟩ := curve26 (hval 0 24 v0 rfl rfl)
  have lt1 : ∀ x ∈ p1, x.block < W.heap.size := by obtain ⟨m, hm⟩ := h1; exact DataW.trod_lt m _ _ _ hm
  obtain ⟨z1, e1⟩ := okWide_float Try.underlying22 (hval 1 22 v1 rfl rfl)
  clear hA0 hval0
  subst e0
  subst e1
  refine (walk z0 q0 z1 W).mono fun e W' ⟨he, bel⟩ => ?_
  subst he
  exact ⟨_, rfl, _, _, _, [], _, [], hW', trodAll_mk1 (shut_bool Try.underlying4 _), (trodAll_cons_mk (Below.trod laidOut (by kernel_rfl) (of_decide_eq_true (by kernel_rfl)) h0 bel lt0) (trodAll_cons_mk (Below.trod laidOut (by kernel_rfl) (of_decide_eq_true (by kernel_rfl)) h1 bel lt1) trodAll_mk0)), rfl, bel.frame _, fun h => by cases h⟩

theorem over : Rows.fnExactScaleCurveRow.holds Try.pinned (OpenSpec.ofChange Rows.fnExactScaleCurveSpec) :=
  OpenClaim.holds_of_wide 9 Try.f9 rfl rfl rfl rfl rfl rfl rfl ⟨rfl, rfl, rfl, rfl, rfl⟩ rfl rfl rfl rfl rfl (by kernel_rfl) Try.func9 (by kernel_rfl)
    (of_decide_eq_true (by kernel_rfl)) (by unfold Func.isWrapper; first | (rw [if_pos (by decide +kernel)]; kernel_rfl) | (rw [if_neg (by decide +kernel)]; exact ⟨rfl, rfl⟩))
    (fun os started H enc _ => lifted os started H enc)

/-- The given statement. -/
theorem proved : Rows.FnExactScaleCurveSaid := over
end Go.Proofs.Ytpolbmplahimoaa.fnExactScaleCurve
