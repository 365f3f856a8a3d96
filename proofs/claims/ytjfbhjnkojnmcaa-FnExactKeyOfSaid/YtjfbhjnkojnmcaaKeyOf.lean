/-
  KeyOf: whatever the arguments, the program and its model answer the same: no condition. (The law is run on a variable below 0 and from 16 on, and on each number between.)
-/
import Derived.Test.YtjfbhjnkojnmcaaW
namespace Go.Proofs.Ytjfbhjnkojnmcaa.fnExactKeyOf
open Go.ChangeShapes Go.WideShapes Go.ChangeAt Go.RowKit Ev Sx

def ps : List Par := [.one (.n .i64)]
def us : List Nat := [9, 33, 34, 35, 64, 65, 66]
theorem runLo : lawPB Try.prog symE symW us 300 30 9 ps (lessP 0 true) = true := by kernel_rfl
theorem runHi : lawPB Try.prog symE symW us 300 30 9 ps (lessP 16 false) = true := by kernel_rfl
theorem run0 : isTrueD (funD Try.prog (fun f => seek f extX) (fun f => seek f orcW) us 300 30 9 [.int .i64 0] []) = true := by kernel_rfl
theorem run1 : isTrueD (funD Try.prog (fun f => seek f extX) (fun f => seek f orcW) us 300 30 9 [.int .i64 1] []) = true := by kernel_rfl
theorem run2 : isTrueD (funD Try.prog (fun f => seek f extX) (fun f => seek f orcW) us 300 30 9 [.int .i64 2] []) = true := by kernel_rfl
theorem run3 : isTrueD (funD Try.prog (fun f => seek f extX) (fun f => seek f orcW) us 300 30 9 [.int .i64 3] []) = true := by kernel_rfl
theorem run4 : isTrueD (funD Try.prog (fun f => seek f extX) (fun f => seek f orcW) us 300 30 9 [.int .i64 4] []) = true := by kernel_rfl
theorem run5 : isTrueD (funD Try.prog (fun f => seek f extX) (fun f => seek f orcW) us 300 30 9 [.int .i64 5] []) = true := by kernel_rfl
theorem run6 : isTrueD (funD Try.prog (fun f => seek f extX) (fun f => seek f orcW) us 300 30 9 [.int .i64 6] []) = true := by kernel_rfl
theorem run7 : isTrueD (funD Try.prog (fun f => seek f extX) (fun f => seek f orcW) us 300 30 9 [.int .i64 7] []) = true := by kernel_rfl
theorem run8 : isTrueD (funD Try.prog (fun f => seek f extX) (fun f => seek f orcW) us 300 30 9 [.int .i64 8] []) = true := by kernel_rfl
theorem run9 : isTrueD (funD Try.prog (fun f => seek f extX) (fun f => seek f orcW) us 300 30 9 [.int .i64 9] []) = true := by kernel_rfl
theorem run10 : isTrueD (funD Try.prog (fun f => seek f extX) (fun f => seek f orcW) us 300 30 9 [.int .i64 10] []) = true := by kernel_rfl
theorem run11 : isTrueD (funD Try.prog (fun f => seek f extX) (fun f => seek f orcW) us 300 30 9 [.int .i64 11] []) = true := by kernel_rfl
theorem run12 : isTrueD (funD Try.prog (fun f => seek f extX) (fun f => seek f orcW) us 300 30 9 [.int .i64 12] []) = true := by kernel_rfl
theorem run13 : isTrueD (funD Try.prog (fun f => seek f extX) (fun f => seek f orcW) us 300 30 9 [.int .i64 13] []) = true := by kernel_rfl
theorem run14 : isTrueD (funD Try.prog (fun f => seek f extX) (fun f => seek f orcW) us 300 30 9 [.int .i64 14] []) = true := by kernel_rfl
theorem run15 : isTrueD (funD Try.prog (fun f => seek f extX) (fun f => seek f orcW) us 300 30 9 [.int .i64 15] []) = true := by kernel_rfl
theorem walk {vs : List Value} (hv : fitA ps vs = true) (w : World) : Calls Try.prog 9 vs.toArray w fun e w' => e = .returned (.bool true) ∧ Below w.heap.size w w' := by
  obtain ⟨z, rfl⟩ := one_int (k := .i64) hv
  have hz : z < 0 ∨ 16 ≤ z ∨ z = 0 ∨ z = 1 ∨ z = 2 ∨ z = 3 ∨ z = 4 ∨ z = 5 ∨ z = 6 ∨ z = 7 ∨ z = 8 ∨ z = 9 ∨ z = 10 ∨ z = 11 ∨ z = 12 ∨ z = 13 ∨ z = 14 ∨ z = 15 := by omega
  rcases hz with h | h | rfl | rfl | rfl | rfl | rfl | rfl | rfl | rfl | rfl | rfl | rfl | rfl | rfl | rfl | rfl | rfl
  · exact sx_walkP (E := lessE 0 true) (fun _ _ => .i 0) mixed (by kernel_rfl) extXOk orcWOk symER symWR (fun F ρ hB => lessP_ok hB 0 true) runLo hv (by show (decide (z < 0)) = true; exact decide_eq_true h) w
  · exact sx_walkP (E := lessE 16 false) (fun _ _ => .i 0) mixed (by kernel_rfl) extXOk orcWOk symER symWR (fun F ρ hB => lessP_ok hB 16 false) runHi hv (by show (!decide (z < 16)) = true; rw [decide_eq_false (by omega)]; rfl) w
  · exact lit_walk mixed (by kernel_rfl) extXOk orcWOk hv run0 w
  · exact lit_walk mixed (by kernel_rfl) extXOk orcWOk hv run1 w
  · exact lit_walk mixed (by kernel_rfl) extXOk orcWOk hv run2 w
  · exact lit_walk mixed (by kernel_rfl) extXOk orcWOk hv run3 w
  · exact lit_walk mixed (by kernel_rfl) extXOk orcWOk hv run4 w
  · exact lit_walk mixed (by kernel_rfl) extXOk orcWOk hv run5 w
  · exact lit_walk mixed (by kernel_rfl) extXOk orcWOk hv run6 w
  · exact lit_walk mixed (by kernel_rfl) extXOk orcWOk hv run7 w
  · exact lit_walk mixed (by kernel_rfl) extXOk orcWOk hv run8 w
  · exact lit_walk mixed (by kernel_rfl) extXOk orcWOk hv run9 w
  · exact lit_walk mixed (by kernel_rfl) extXOk orcWOk hv run10 w
  · exact lit_walk mixed (by kernel_rfl) extXOk orcWOk hv run11 w
  · exact lit_walk mixed (by kernel_rfl) extXOk orcWOk hv run12 w
  · exact lit_walk mixed (by kernel_rfl) extXOk orcWOk hv run13 w
  · exact lit_walk mixed (by kernel_rfl) extXOk orcWOk hv run14 w
  · exact lit_walk mixed (by kernel_rfl) extXOk orcWOk hv run15 w

set_option maxRecDepth 100000 in
set_option linter.unusedVariables false in
theorem lifted (os : Os) (started : os.Started) (H : Type) (enc : TypeId × Value → H) :
    ReturnsInHanded {} Try.checked os 9 .any (Rows.fnExactKeyOfSpec.pre6 enc Try.prog Try.f9 Rows.fnExactKeyOfRow.domain false) (Rows.fnExactKeyOfSpec.post enc Try.prog Try.f9 false true false false) := by
  refine returnsInHanded_of_change (C := Try.checked) own started (by kernel_rfl) Try.func9
    (ChangeSpec.witness6 (enc := enc) (C := Try.checked) false ⟨#[], #[.int .i64 0], []⟩ 8 (by kernel_rfl) (by kernel_rfl) (by kernel_rfl) (by kernel_rfl)) ?_
  intro W base args ds gs before hval0 hW hcnd _
  have hval : ∀ (j : Nat) t v, Try.f9.params[j]? = some t → args[j]? = some v → Value.okWide Try.prog W .any base t v := hval0
  have hW' := hW
  obtain ⟨p, q, hA0, hV, rfl, hfz, hnd⟩ := hW
  have hA : DataW.TrodAll enc Try.prog W 0 (fun _ => true) true Try.f9.params.toList args.toList ds p := hA0
  rw [Try.params9] at hA hval
  obtain ⟨v0, vs0, d0, ds0, p0, q0, hargs, rfl, rfl, h0, r0⟩ := trodAll_cons hA
  obtain ⟨rfl, rfl, rfl⟩ := trodAll_nil r0
  obtain rfl : args = #[v0] := by cases args; simp_all
  obtain ⟨rfl, rfl⟩ := trodVars_none hV
  have lt0 : ∀ x ∈ p0, x.block < W.heap.size := by obtain ⟨m, hm⟩ := h0; exact DataW.trod_lt m _ _ _ hm
  have f0 : fitP (.one (.n .i64)) v0 = true := openB_ok (t := 2) (by kernel_rfl) (hval 0 2 v0 rfl rfl)
  have hf : fitA ps [v0] = true := by
    show ((fitP (.one (.n .i64)) v0 && true)) = true
    rw [f0]; rfl
  clear hA0 hval0
  refine (walk hf W).mono fun e W' ⟨he, bel⟩ => ?_
  subst he
  exact ⟨_, rfl, _, _, _, [], _, [], hW', trodAll_mk1 (shut_bool Try.underlying4 _), (trodAll_cons_mk (Below.trod laidOut (by kernel_rfl) (of_decide_eq_true (by kernel_rfl)) h0 bel lt0) trodAll_mk0), rfl, bel.frame _, fun h => by cases h⟩

theorem over : Rows.fnExactKeyOfRow.holds Try.pinned (OpenSpec.ofChange Rows.fnExactKeyOfSpec) :=
  OpenClaim.holds_of_wide 9 Try.f9 rfl rfl rfl rfl rfl rfl rfl ⟨rfl, rfl, rfl, rfl, rfl⟩ rfl rfl rfl rfl rfl (by kernel_rfl) Try.func9 (by kernel_rfl)
    (of_decide_eq_true (by kernel_rfl)) (by unfold Func.isWrapper; first | (rw [if_pos (by decide +kernel)]; kernel_rfl) | (rw [if_neg (by decide +kernel)]; exact ⟨rfl, rfl⟩))
    (fun os started H enc _ => lifted os started H enc)

/-- The given statement. -/
theorem proved : Rows.FnExactKeyOfSaid := over
end Go.Proofs.Ytjfbhjnkojnmcaa.fnExactKeyOf
