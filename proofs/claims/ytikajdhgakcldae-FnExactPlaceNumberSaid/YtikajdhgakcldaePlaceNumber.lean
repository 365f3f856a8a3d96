/-
  FnExactPlaceNumber: whatever the arguments, the program and its model answer the same: no condition. (The law is run on variables where one is too small or too great, and on each pair between.)
-/
import Derived.Test.YtikajdhgakcldaeW
namespace Go.Proofs.Ytikajdhgakcldae.fnExactPlaceNumber
open Go.ChangeShapes Go.WideShapes Go.ChangeAt Go.RowKit Ev Sx

def ps : List Par := [.one (.n .i64), .one (.n .i64)]
def us : List Nat := [9, 32, 33, 64, 65, 66, 85]
theorem runLo0 : lawCB Try.prog symE symW us 300 30 9 ps [.lt 0 0 true] = true := by kernel_rfl
theorem runHi0 : lawCB Try.prog symE symW us 300 30 9 ps [.lt 0 4 false] = true := by kernel_rfl
theorem runLo1 : lawCB Try.prog symE symW us 300 30 9 ps [.lt 1 0 true] = true := by kernel_rfl
theorem runHi1 : lawCB Try.prog symE symW us 300 30 9 ps [.lt 1 4 false] = true := by kernel_rfl
theorem run0_0 : isTrueD (funD Try.prog (fun f => seek f extX) (fun f => seek f orcW) us 300 30 9 [.int .i64 0, .int .i64 0] []) = true := by kernel_rfl
theorem run0_1 : isTrueD (funD Try.prog (fun f => seek f extX) (fun f => seek f orcW) us 300 30 9 [.int .i64 0, .int .i64 1] []) = true := by kernel_rfl
theorem run0_2 : isTrueD (funD Try.prog (fun f => seek f extX) (fun f => seek f orcW) us 300 30 9 [.int .i64 0, .int .i64 2] []) = true := by kernel_rfl
theorem run0_3 : isTrueD (funD Try.prog (fun f => seek f extX) (fun f => seek f orcW) us 300 30 9 [.int .i64 0, .int .i64 3] []) = true := by kernel_rfl
theorem run1_0 : isTrueD (funD Try.prog (fun f => seek f extX) (fun f => seek f orcW) us 300 30 9 [.int .i64 1, .int .i64 0] []) = true := by kernel_rfl
theorem run1_1 : isTrueD (funD Try.prog (fun f => seek f extX) (fun f => seek f orcW) us 300 30 9 [.int .i64 1, .int .i64 1] []) = true := by kernel_rfl
theorem run1_2 : isTrueD (funD Try.prog (fun f => seek f extX) (fun f => seek f orcW) us 300 30 9 [.int .i64 1, .int .i64 2] []) = true := by kernel_rfl
theorem run1_3 : isTrueD (funD Try.prog (fun f => seek f extX) (fun f => seek f orcW) us 300 30 9 [.int .i64 1, .int .i64 3] []) = true := by kernel_rfl
theorem run2_0 : isTrueD (funD Try.prog (fun f => seek f extX) (fun f => seek f orcW) us 300 30 9 [.int .i64 2, .int .i64 0] []) = true := by kernel_rfl
theorem run2_1 : isTrueD (funD Try.prog (fun f => seek f extX) (fun f => seek f orcW) us 300 30 9 [.int .i64 2, .int .i64 1] []) = true := by kernel_rfl
theorem run2_2 : isTrueD (funD Try.prog (fun f => seek f extX) (fun f => seek f orcW) us 300 30 9 [.int .i64 2, .int .i64 2] []) = true := by kernel_rfl
theorem run2_3 : isTrueD (funD Try.prog (fun f => seek f extX) (fun f => seek f orcW) us 300 30 9 [.int .i64 2, .int .i64 3] []) = true := by kernel_rfl
theorem run3_0 : isTrueD (funD Try.prog (fun f => seek f extX) (fun f => seek f orcW) us 300 30 9 [.int .i64 3, .int .i64 0] []) = true := by kernel_rfl
theorem run3_1 : isTrueD (funD Try.prog (fun f => seek f extX) (fun f => seek f orcW) us 300 30 9 [.int .i64 3, .int .i64 1] []) = true := by kernel_rfl
theorem run3_2 : isTrueD (funD Try.prog (fun f => seek f extX) (fun f => seek f orcW) us 300 30 9 [.int .i64 3, .int .i64 2] []) = true := by kernel_rfl
theorem run3_3 : isTrueD (funD Try.prog (fun f => seek f extX) (fun f => seek f orcW) us 300 30 9 [.int .i64 3, .int .i64 3] []) = true := by kernel_rfl
theorem walk {vs : List Value} (hv : fitA ps vs = true) (w : World) : Calls Try.prog 9 vs.toArray w fun e w' => e = .returned (.bool true) ∧ Below w.heap.size w w' := by
  obtain ⟨z, y, rfl⟩ := two_ints hv
  have hz : z < 0 ∨ 4 ≤ z ∨ y < 0 ∨ 4 ≤ y ∨ ((z = 0 ∨ z = 1 ∨ z = 2 ∨ z = 3) ∧ (y = 0 ∨ y = 1 ∨ y = 2 ∨ y = 3)) := by omega
  rcases hz with h | h | h | h | ⟨(rfl | rfl | rfl | rfl), (rfl | rfl | rfl | rfl)⟩
  · exact sx_walkC (fun _ _ => .i 0) mixed (by kernel_rfl) extXOk orcWOk symER symWR runLo0 hv ⟨⟨.i64, z, rfl, by show (decide (z < 0)) = true; exact decide_eq_true h⟩, trivial⟩ w
  · exact sx_walkC (fun _ _ => .i 0) mixed (by kernel_rfl) extXOk orcWOk symER symWR runHi0 hv ⟨⟨.i64, z, rfl, by show (!decide (z < 4)) = true; rw [decide_eq_false (by omega)]; rfl⟩, trivial⟩ w
  · exact sx_walkC (fun _ _ => .i 0) mixed (by kernel_rfl) extXOk orcWOk symER symWR runLo1 hv ⟨⟨.i64, y, rfl, by show (decide (y < 0)) = true; exact decide_eq_true h⟩, trivial⟩ w
  · exact sx_walkC (fun _ _ => .i 0) mixed (by kernel_rfl) extXOk orcWOk symER symWR runHi1 hv ⟨⟨.i64, y, rfl, by show (!decide (y < 4)) = true; rw [decide_eq_false (by omega)]; rfl⟩, trivial⟩ w
  · exact lit_walk mixed (by kernel_rfl) extXOk orcWOk hv run0_0 w
  · exact lit_walk mixed (by kernel_rfl) extXOk orcWOk hv run0_1 w
  · exact lit_walk mixed (by kernel_rfl) extXOk orcWOk hv run0_2 w
  · exact lit_walk mixed (by kernel_rfl) extXOk orcWOk hv run0_3 w
  · exact lit_walk mixed (by kernel_rfl) extXOk orcWOk hv run1_0 w
  · exact lit_walk mixed (by kernel_rfl) extXOk orcWOk hv run1_1 w
  · exact lit_walk mixed (by kernel_rfl) extXOk orcWOk hv run1_2 w
  · exact lit_walk mixed (by kernel_rfl) extXOk orcWOk hv run1_3 w
  · exact lit_walk mixed (by kernel_rfl) extXOk orcWOk hv run2_0 w
  · exact lit_walk mixed (by kernel_rfl) extXOk orcWOk hv run2_1 w
  · exact lit_walk mixed (by kernel_rfl) extXOk orcWOk hv run2_2 w
  · exact lit_walk mixed (by kernel_rfl) extXOk orcWOk hv run2_3 w
  · exact lit_walk mixed (by kernel_rfl) extXOk orcWOk hv run3_0 w
  · exact lit_walk mixed (by kernel_rfl) extXOk orcWOk hv run3_1 w
  · exact lit_walk mixed (by kernel_rfl) extXOk orcWOk hv run3_2 w
  · exact lit_walk mixed (by kernel_rfl) extXOk orcWOk hv run3_3 w

set_option maxRecDepth 100000 in
set_option linter.unusedVariables false in
theorem lifted (os : Os) (started : os.Started) (H : Type) (enc : TypeId × Value → H) :
    ReturnsInHanded {} Try.checked os 9 .any (Rows.fnExactPlaceNumberSpec.pre6 enc Try.prog Try.f9 Rows.fnExactPlaceNumberRow.domain false) (Rows.fnExactPlaceNumberSpec.post enc Try.prog Try.f9 false true false false) := by
  refine returnsInHanded_of_change (C := Try.checked) own started (by kernel_rfl) Try.func9
    (ChangeSpec.witness6 (enc := enc) (C := Try.checked) false ⟨#[], #[.int .i64 0, .int .i64 0], []⟩ 8 (by kernel_rfl) (by kernel_rfl) (by kernel_rfl) (by kernel_rfl)) ?_
  intro W base args ds gs before hval0 hW hcnd _
  have hval : ∀ (j : Nat) t v, Try.f9.params[j]? = some t → args[j]? = some v → Value.okWide Try.prog W .any base t v := hval0
  have hW' := hW
  obtain ⟨p, q, hA0, hV, rfl, hfz, hnd⟩ := hW
  have hA : DataW.TrodAll enc Try.prog W 0 (fun _ => true) true Try.f9.params.toList args.toList ds p := hA0
  rw [Try.params9] at hA hval
  obtain ⟨v0, vs0, d0, ds0, p0, q0, hargs, rfl, rfl, h0, r0⟩ := trodAll_cons hA
  obtain ⟨v1, vs1, d1, ds1, p1, q1, rfl, rfl, rfl, h1, r1⟩ := trodAll_cons r0
  obtain ⟨rfl, rfl, rfl⟩ := trodAll_nil r1
  obtain rfl : args = #[v0, v1] := by cases args; simp_all
  obtain ⟨rfl, rfl⟩ := trodVars_none hV
  have lt0 : ∀ x ∈ p0, x.block < W.heap.size := by obtain ⟨m, hm⟩ := h0; exact DataW.trod_lt m _ _ _ hm
  have f0 : fitP (.one (.n .i64)) v0 = true := openB_ok (t := 2) (by kernel_rfl) (hval 0 2 v0 rfl rfl)
  have lt1 : ∀ x ∈ p1, x.block < W.heap.size := by obtain ⟨m, hm⟩ := h1; exact DataW.trod_lt m _ _ _ hm
  have f1 : fitP (.one (.n .i64)) v1 = true := openB_ok (t := 2) (by kernel_rfl) (hval 1 2 v1 rfl rfl)
  have hf : fitA ps [v0, v1] = true := by
    show ((fitP (.one (.n .i64)) v0 && (fitP (.one (.n .i64)) v1 && true))) = true
    rw [f0, f1]; rfl
  clear hA0 hval0
  refine (walk hf W).mono fun e W' ⟨he, bel⟩ => ?_
  subst he
  exact ⟨_, rfl, _, _, _, [], _, [], hW', trodAll_mk1 (shut_bool Try.underlying4 _), (trodAll_cons_mk (Below.trod laidOut (by kernel_rfl) (of_decide_eq_true (by kernel_rfl)) h0 bel lt0) (trodAll_cons_mk (Below.trod laidOut (by kernel_rfl) (of_decide_eq_true (by kernel_rfl)) h1 bel lt1) trodAll_mk0)), rfl, bel.frame _, fun h => by cases h⟩

theorem over : Rows.fnExactPlaceNumberRow.holds Try.pinned (OpenSpec.ofChange Rows.fnExactPlaceNumberSpec) :=
  OpenClaim.holds_of_wide 9 Try.f9 rfl rfl rfl rfl rfl rfl rfl ⟨rfl, rfl, rfl, rfl, rfl⟩ rfl rfl rfl rfl rfl (by kernel_rfl) Try.func9 (by kernel_rfl)
    (of_decide_eq_true (by kernel_rfl)) (by unfold Func.isWrapper; first | (rw [if_pos (by decide +kernel)]; kernel_rfl) | (rw [if_neg (by decide +kernel)]; exact ⟨rfl, rfl⟩))
    (fun os started H enc _ => lifted os started H enc)

/-- The given statement. -/
theorem proved : Rows.FnExactPlaceNumberSaid := over
end Go.Proofs.Ytikajdhgakcldae.fnExactPlaceNumber
