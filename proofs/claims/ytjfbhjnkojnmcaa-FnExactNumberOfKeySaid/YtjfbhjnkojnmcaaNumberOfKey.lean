/-
  FnExactNumberOfKey: whatever the arguments, the program and its model answer the same: no condition. (The law is run at each of the 16 arguments.)
-/
import Derived.Test.YtjfbhjnkojnmcaaW
namespace Go.Proofs.Ytjfbhjnkojnmcaa.fnExactNumberOfKey
open Go.ChangeShapes Go.WideShapes Go.ChangeAt Go.RowKit Ev Sx

def ps : List Par := [.agg (List.replicate 4 .b)]
def us : List Nat := [10, 36, 37, 38]
theorem run_ffff : isTrueD (funD Try.prog (fun f => seek f extX) (fun f => seek f orcW) us 300 30 10 [.agg #[.bool false, .bool false, .bool false, .bool false]] []) = true := by kernel_rfl
theorem run_ffft : isTrueD (funD Try.prog (fun f => seek f extX) (fun f => seek f orcW) us 300 30 10 [.agg #[.bool false, .bool false, .bool false, .bool true]] []) = true := by kernel_rfl
theorem run_fftf : isTrueD (funD Try.prog (fun f => seek f extX) (fun f => seek f orcW) us 300 30 10 [.agg #[.bool false, .bool false, .bool true, .bool false]] []) = true := by kernel_rfl
theorem run_fftt : isTrueD (funD Try.prog (fun f => seek f extX) (fun f => seek f orcW) us 300 30 10 [.agg #[.bool false, .bool false, .bool true, .bool true]] []) = true := by kernel_rfl
theorem run_ftff : isTrueD (funD Try.prog (fun f => seek f extX) (fun f => seek f orcW) us 300 30 10 [.agg #[.bool false, .bool true, .bool false, .bool false]] []) = true := by kernel_rfl
theorem run_ftft : isTrueD (funD Try.prog (fun f => seek f extX) (fun f => seek f orcW) us 300 30 10 [.agg #[.bool false, .bool true, .bool false, .bool true]] []) = true := by kernel_rfl
theorem run_fttf : isTrueD (funD Try.prog (fun f => seek f extX) (fun f => seek f orcW) us 300 30 10 [.agg #[.bool false, .bool true, .bool true, .bool false]] []) = true := by kernel_rfl
theorem run_fttt : isTrueD (funD Try.prog (fun f => seek f extX) (fun f => seek f orcW) us 300 30 10 [.agg #[.bool false, .bool true, .bool true, .bool true]] []) = true := by kernel_rfl
theorem run_tfff : isTrueD (funD Try.prog (fun f => seek f extX) (fun f => seek f orcW) us 300 30 10 [.agg #[.bool true, .bool false, .bool false, .bool false]] []) = true := by kernel_rfl
theorem run_tfft : isTrueD (funD Try.prog (fun f => seek f extX) (fun f => seek f orcW) us 300 30 10 [.agg #[.bool true, .bool false, .bool false, .bool true]] []) = true := by kernel_rfl
theorem run_tftf : isTrueD (funD Try.prog (fun f => seek f extX) (fun f => seek f orcW) us 300 30 10 [.agg #[.bool true, .bool false, .bool true, .bool false]] []) = true := by kernel_rfl
theorem run_tftt : isTrueD (funD Try.prog (fun f => seek f extX) (fun f => seek f orcW) us 300 30 10 [.agg #[.bool true, .bool false, .bool true, .bool true]] []) = true := by kernel_rfl
theorem run_ttff : isTrueD (funD Try.prog (fun f => seek f extX) (fun f => seek f orcW) us 300 30 10 [.agg #[.bool true, .bool true, .bool false, .bool false]] []) = true := by kernel_rfl
theorem run_ttft : isTrueD (funD Try.prog (fun f => seek f extX) (fun f => seek f orcW) us 300 30 10 [.agg #[.bool true, .bool true, .bool false, .bool true]] []) = true := by kernel_rfl
theorem run_tttf : isTrueD (funD Try.prog (fun f => seek f extX) (fun f => seek f orcW) us 300 30 10 [.agg #[.bool true, .bool true, .bool true, .bool false]] []) = true := by kernel_rfl
theorem run_tttt : isTrueD (funD Try.prog (fun f => seek f extX) (fun f => seek f orcW) us 300 30 10 [.agg #[.bool true, .bool true, .bool true, .bool true]] []) = true := by kernel_rfl
theorem walk {vs : List Value} (hv : fitA ps vs = true) (w : World) : Calls Try.prog 10 vs.toArray w fun e w' => e = .returned (.bool true) ∧ Below w.heap.size w w' := by
  obtain ⟨cs, rfl, hc0⟩ := one_agg hv
  obtain ⟨b0, cs0, rfl, hc1⟩ := cons_bool hc0
  obtain ⟨b1, cs1, rfl, hc2⟩ := cons_bool hc1
  obtain ⟨b2, cs2, rfl, hc3⟩ := cons_bool hc2
  obtain ⟨b3, cs3, rfl, hc4⟩ := cons_bool hc3
  obtain rfl := nil_fit hc4
  cases b0 <;> cases b1 <;> cases b2 <;> cases b3
  · exact lit_walk mixed (by kernel_rfl) extXOk orcWOk hv run_ffff w
  · exact lit_walk mixed (by kernel_rfl) extXOk orcWOk hv run_ffft w
  · exact lit_walk mixed (by kernel_rfl) extXOk orcWOk hv run_fftf w
  · exact lit_walk mixed (by kernel_rfl) extXOk orcWOk hv run_fftt w
  · exact lit_walk mixed (by kernel_rfl) extXOk orcWOk hv run_ftff w
  · exact lit_walk mixed (by kernel_rfl) extXOk orcWOk hv run_ftft w
  · exact lit_walk mixed (by kernel_rfl) extXOk orcWOk hv run_fttf w
  · exact lit_walk mixed (by kernel_rfl) extXOk orcWOk hv run_fttt w
  · exact lit_walk mixed (by kernel_rfl) extXOk orcWOk hv run_tfff w
  · exact lit_walk mixed (by kernel_rfl) extXOk orcWOk hv run_tfft w
  · exact lit_walk mixed (by kernel_rfl) extXOk orcWOk hv run_tftf w
  · exact lit_walk mixed (by kernel_rfl) extXOk orcWOk hv run_tftt w
  · exact lit_walk mixed (by kernel_rfl) extXOk orcWOk hv run_ttff w
  · exact lit_walk mixed (by kernel_rfl) extXOk orcWOk hv run_ttft w
  · exact lit_walk mixed (by kernel_rfl) extXOk orcWOk hv run_tttf w
  · exact lit_walk mixed (by kernel_rfl) extXOk orcWOk hv run_tttt w

set_option maxRecDepth 100000 in
set_option linter.unusedVariables false in
theorem lifted (os : Os) (started : os.Started) (H : Type) (enc : TypeId × Value → H) :
    ReturnsInHanded {} Try.checked os 10 .any (Rows.fnExactNumberOfKeySpec.pre6 enc Try.prog Try.f10 Rows.fnExactNumberOfKeyRow.domain false) (Rows.fnExactNumberOfKeySpec.post enc Try.prog Try.f10 false true false false) := by
  refine returnsInHanded_of_change (C := Try.checked) own started (by kernel_rfl) Try.func10
    (ChangeSpec.witness6 (enc := enc) (C := Try.checked) false ⟨#[], #[.agg (List.replicate 4 (.bool false)).toArray], []⟩ 8 (by kernel_rfl) (by kernel_rfl) (by kernel_rfl) (by kernel_rfl)) ?_
  intro W base args ds gs before hval0 hW hcnd _
  have hval : ∀ (j : Nat) t v, Try.f10.params[j]? = some t → args[j]? = some v → Value.okWide Try.prog W .any base t v := hval0
  have hW' := hW
  obtain ⟨p, q, hA0, hV, rfl, hfz, hnd⟩ := hW
  have hA : DataW.TrodAll enc Try.prog W 0 (fun _ => true) true Try.f10.params.toList args.toList ds p := hA0
  rw [Try.params10] at hA hval
  obtain ⟨v0, vs0, d0, ds0, p0, q0, hargs, rfl, rfl, h0, r0⟩ := trodAll_cons hA
  obtain ⟨rfl, rfl, rfl⟩ := trodAll_nil r0
  obtain rfl : args = #[v0] := by cases args; simp_all
  obtain ⟨rfl, rfl⟩ := trodVars_none hV
  have lt0 : ∀ x ∈ p0, x.block < W.heap.size := by obtain ⟨m, hm⟩ := h0; exact DataW.trod_lt m _ _ _ hm
  have f0 : fitP (.agg (List.replicate 4 .b)) v0 = true := openB_ok (t := 57) (by kernel_rfl) (hval 0 57 v0 rfl rfl)
  have hf : fitA ps [v0] = true := by
    show ((fitP (.agg (List.replicate 4 .b)) v0 && true)) = true
    rw [f0]; rfl
  clear hA0 hval0
  refine (walk hf W).mono fun e W' ⟨he, bel⟩ => ?_
  subst he
  exact ⟨_, rfl, _, _, _, [], _, [], hW', trodAll_mk1 (shut_bool Try.underlying4 _), (trodAll_cons_mk (Below.trod laidOut (by kernel_rfl) (of_decide_eq_true (by kernel_rfl)) h0 bel lt0) trodAll_mk0), rfl, bel.frame _, fun h => by cases h⟩

theorem over : Rows.fnExactNumberOfKeyRow.holds Try.pinned (OpenSpec.ofChange Rows.fnExactNumberOfKeySpec) :=
  OpenClaim.holds_of_wide 10 Try.f10 rfl rfl rfl rfl rfl rfl rfl ⟨rfl, rfl, rfl, rfl, rfl⟩ rfl rfl rfl rfl rfl (by kernel_rfl) Try.func10 (by kernel_rfl)
    (of_decide_eq_true (by kernel_rfl)) (by unfold Func.isWrapper; first | (rw [if_pos (by decide +kernel)]; kernel_rfl) | (rw [if_neg (by decide +kernel)]; exact ⟨rfl, rfl⟩))
    (fun os started H enc _ => lifted os started H enc)

/-- The given statement. -/
theorem proved : Rows.FnExactNumberOfKeySaid := over
end Go.Proofs.Ytjfbhjnkojnmcaa.fnExactNumberOfKey
