/-
  FnExactOverprintOf: whatever the arguments, the program and its model answer the same: no condition. (The law is run on variables: 'run'.)
-/
import Derived.Test.YtjfbhjnkojnmcaaW
namespace Go.Proofs.Ytjfbhjnkojnmcaa.fnExactOverprintOf
open Go.ChangeShapes Go.WideShapes Go.ChangeAt Go.RowKit Ev Sx

def ps : List Par := [.agg (List.replicate 81 (.f .f32)), .agg (List.replicate 4 .b)]
def us : List Nat := [11, 28, 37, 39, 40, 61, 60, 67, 29, 68, 69, 50, 86]
theorem run : lawB Try.prog symE symW us 300 30 11 ps = true := by kernel_rfl
theorem walk {vs : List Value} (hv : fitA ps vs = true) (w : World) : Calls Try.prog 11 vs.toArray w fun e w' => e = .returned (.bool true) ∧ Below w.heap.size w w' :=
  sx_walk (fun _ _ => .i 0) mixed (by kernel_rfl) extXOk orcWOk symER symWR run hv w

set_option maxRecDepth 100000 in
set_option linter.unusedVariables false in
theorem lifted (os : Os) (started : os.Started) (H : Type) (enc : TypeId × Value → H) :
    ReturnsInHanded {} Try.checked os 11 .any (Rows.fnExactOverprintOfSpec.pre6 enc Try.prog Try.f11 Rows.fnExactOverprintOfRow.domain false) (Rows.fnExactOverprintOfSpec.post enc Try.prog Try.f11 false true false false) := by
  refine returnsInHanded_of_change (C := Try.checked) own started (by kernel_rfl) Try.func11
    (ChangeSpec.witness6 (enc := enc) (C := Try.checked) false ⟨#[], #[.agg (fl .f32 (List.replicate 81 0)).toArray, .agg (List.replicate 4 (.bool false)).toArray], []⟩ 8 (by kernel_rfl) (by kernel_rfl) (by kernel_rfl) (by kernel_rfl)) ?_
  intro W base args ds gs before hval0 hW hcnd _
  have hval : ∀ (j : Nat) t v, Try.f11.params[j]? = some t → args[j]? = some v → Value.okWide Try.prog W .any base t v := hval0
  have hW' := hW
  obtain ⟨p, q, hA0, hV, rfl, hfz, hnd⟩ := hW
  have hA : DataW.TrodAll enc Try.prog W 0 (fun _ => true) true Try.f11.params.toList args.toList ds p := hA0
  rw [Try.params11] at hA hval
  obtain ⟨v0, vs0, d0, ds0, p0, q0, hargs, rfl, rfl, h0, r0⟩ := trodAll_cons hA
  obtain ⟨v1, vs1, d1, ds1, p1, q1, rfl, rfl, rfl, h1, r1⟩ := trodAll_cons r0
  obtain ⟨rfl, rfl, rfl⟩ := trodAll_nil r1
  obtain rfl : args = #[v0, v1] := by cases args; simp_all
  obtain ⟨rfl, rfl⟩ := trodVars_none hV
  have lt0 : ∀ x ∈ p0, x.block < W.heap.size := by obtain ⟨m, hm⟩ := h0; exact DataW.trod_lt m _ _ _ hm
  have f0 : fitP (.agg (List.replicate 81 (.f .f32))) v0 = true := openB_ok (t := 45) (by kernel_rfl) (hval 0 45 v0 rfl rfl)
  have lt1 : ∀ x ∈ p1, x.block < W.heap.size := by obtain ⟨m, hm⟩ := h1; exact DataW.trod_lt m _ _ _ hm
  have f1 : fitP (.agg (List.replicate 4 .b)) v1 = true := openB_ok (t := 57) (by kernel_rfl) (hval 1 57 v1 rfl rfl)
  have hf : fitA ps [v0, v1] = true := by
    show ((fitP (.agg (List.replicate 81 (.f .f32))) v0 && (fitP (.agg (List.replicate 4 .b)) v1 && true))) = true
    rw [f0, f1]; rfl
  clear hA0 hval0
  refine (walk hf W).mono fun e W' ⟨he, bel⟩ => ?_
  subst he
  exact ⟨_, rfl, _, _, _, [], _, [], hW', trodAll_mk1 (shut_bool Try.underlying4 _), (trodAll_cons_mk (Below.trod laidOut (by kernel_rfl) (of_decide_eq_true (by kernel_rfl)) h0 bel lt0) (trodAll_cons_mk (Below.trod laidOut (by kernel_rfl) (of_decide_eq_true (by kernel_rfl)) h1 bel lt1) trodAll_mk0)), rfl, bel.frame _, fun h => by cases h⟩

theorem over : Rows.fnExactOverprintOfRow.holds Try.pinned (OpenSpec.ofChange Rows.fnExactOverprintOfSpec) :=
  OpenClaim.holds_of_wide 11 Try.f11 rfl rfl rfl rfl rfl rfl rfl ⟨rfl, rfl, rfl, rfl, rfl⟩ rfl rfl rfl rfl rfl (by kernel_rfl) Try.func11 (by kernel_rfl)
    (of_decide_eq_true (by kernel_rfl)) (by unfold Func.isWrapper; first | (rw [if_pos (by decide +kernel)]; kernel_rfl) | (rw [if_neg (by decide +kernel)]; exact ⟨rfl, rfl⟩))
    (fun os started H enc _ => lifted os started H enc)

/-- The given statement. -/
theorem proved : Rows.FnExactOverprintOfSaid := over
end Go.Proofs.Ytjfbhjnkojnmcaa.fnExactOverprintOf
