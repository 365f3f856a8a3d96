/-
  FnExactBump: whatever the arguments, the program and its model answer the same: no condition.
-/
import Derived.Test.YtdpaaphdfkonkabB
namespace Go.Proofs.Ytdpaaphdfkonkab.fnExactBump
open Go.ChangeShapes Go.WideShapes Go.ChangeAt Go.RowKit Ev


set_option linter.unusedVariables false in
theorem eval (l0 : Nat) (h0 : cn .f32 l0 = l0) (l1 : Nat) (h1 : cn .f32 l1 = l1) (b : Bool) (hb : (!(outB l0 l1)) = b) : ∃ h', funD Try.prog ext (orcOf (orcB b)) [5] 200 6 5 [.float .f32 l0, .float .f32 l1] [] = some (.bool true, h', true) := by
  cases b with
  | true =>
    refine of_map ?_
    rw [show (some (Value.bool true, true) : Option (Value × Bool)) = some (.bool true, ((Nat.beq (fl .f32 (bumpN l0 l1)).length 16 && eqF32 (fl .f32 (bumpN l0 l1)) (fl .f32 (bumpN l0 l1))) && (((!(outB l0 l1)) == true) && (((!(outB l0 l1)) == true) && true)))) by rw [hb, eqF32_refl]; rfl]
    kernel_rfl
  | false =>
    refine of_map ?_
    rw [show (some (Value.bool true, true) : Option (Value × Bool)) = some (.bool true, (((!(outB l0 l1)) == false) && (((!(outB l0 l1)) == false) && true))) by rw [hb]; rfl]
    kernel_rfl

theorem walk (z0 : Nat) (z1 : Nat) (w : World) : Calls Try.prog 5 #[.float .f32 z0, .float .f32 z1] w fun e w' => e = .returned (.bool true) ∧ Below w.heap.size w w' :=
  fun_law mixed (by kernel_rfl) (ext_list extsOk) (orc_list (orcBOk ((!(outB (cn .f32 z0) (cn .f32 z1)))))) (eval (cn .f32 z0) (cn_cn _ _) (cn .f32 z1) (cn_cn _ _) _ rfl) (allP (rfl) (allP (rfl) rfl)) (μ := fun _ => none) (cargs := [.float .f32 z0, .float .f32 z1]) (VRL.cons (VR.float .f32 _ z0 rfl) (VRL.cons (VR.float .f32 _ z1 rfl) VRL.nil)) w

set_option maxRecDepth 100000 in
set_option linter.unusedVariables false in
theorem lifted (os : Os) (started : os.Started) (H : Type) (enc : TypeId × Value → H) :
    ReturnsInHanded {} Try.checked os 5 .any (Rows.fnExactBumpSpec.pre6 enc Try.prog Try.f5 Rows.fnExactBumpRow.domain false) (Rows.fnExactBumpSpec.post enc Try.prog Try.f5 false true false false) := by
  refine returnsInHanded_of_change (C := Try.checked) own started (by kernel_rfl) Try.func5
    (ChangeSpec.witness6 (enc := enc) (C := Try.checked) false ⟨#[], #[.float .f32 0, .float .f32 0], []⟩ 8 (by kernel_rfl) (by kernel_rfl) (by kernel_rfl) (by kernel_rfl)) ?_
  intro W base args ds gs before hval0 hW hcnd _
  have hval : ∀ (j : Nat) t v, Try.f5.params[j]? = some t → args[j]? = some v → Value.okWide Try.prog W .any base t v := hval0
  have hW' := hW
  obtain ⟨p, q, hA0, hV, rfl, hfz, hnd⟩ := hW
  have hA : DataW.TrodAll enc Try.prog W 0 (fun _ => true) true Try.f5.params.toList args.toList ds p := hA0
  rw [Try.params5] at hA hval
  obtain ⟨v0, vs0, d0, ds0, p0, q0, hargs, rfl, rfl, h0, r0⟩ := trodAll_cons hA
  obtain ⟨v1, vs1, d1, ds1, p1, q1, rfl, rfl, rfl, h1, r1⟩ := trodAll_cons r0
  obtain ⟨rfl, rfl, rfl⟩ := trodAll_nil r1
  obtain rfl : args = #[v0, v1] := by cases args; simp_all
  obtain ⟨rfl, rfl⟩ := trodVars_none hV
  have lt0 : ∀ x ∈ p0, x.block < W.heap.size := by obtain ⟨m, hm⟩ := h0; exact DataW.trod_lt m _ _ _ hm
  obtain ⟨z0, e0⟩ := okWide_float Try.underlying22 (hval 0 22 v0 rfl rfl)
  have lt1 : ∀ x ∈ p1, x.block < W.heap.size := by obtain ⟨m, hm⟩ := h1; exact DataW.trod_lt m _ _ _ hm
  obtain ⟨z1, e1⟩ := okWide_float Try.underlying22 (hval 1 22 v1 rfl rfl)
  clear hA0 hval0
  subst e0
  subst e1
  refine (walk z0 z1 W).mono fun e W' ⟨he, bel⟩ => ?_
  subst he
  exact ⟨_, rfl, _, _, _, [], _, [], hW', trodAll_mk1 (shut_bool Try.underlying4 _), (trodAll_cons_mk (Below.trod laidOut (by kernel_rfl) (of_decide_eq_true (by kernel_rfl)) h0 bel lt0) (trodAll_cons_mk (Below.trod laidOut (by kernel_rfl) (of_decide_eq_true (by kernel_rfl)) h1 bel lt1) trodAll_mk0)), rfl, bel.frame _, fun h => by cases h⟩

theorem over : Rows.fnExactBumpRow.holds Try.pinned (OpenSpec.ofChange Rows.fnExactBumpSpec) :=
  OpenClaim.holds_of_wide 5 Try.f5 rfl rfl rfl rfl rfl rfl rfl ⟨rfl, rfl, rfl, rfl, rfl⟩ rfl rfl rfl rfl rfl (by kernel_rfl) Try.func5 (by kernel_rfl)
    (of_decide_eq_true (by kernel_rfl)) (by unfold Func.isWrapper; first | (rw [if_pos (by decide +kernel)]; kernel_rfl) | (rw [if_neg (by decide +kernel)]; exact ⟨rfl, rfl⟩))
    (fun os started H enc _ => lifted os started H enc)

/-- The given statement. -/
theorem proved : Rows.FnExactBumpSaid := over
end Go.Proofs.Ytdpaaphdfkonkab.fnExactBump
