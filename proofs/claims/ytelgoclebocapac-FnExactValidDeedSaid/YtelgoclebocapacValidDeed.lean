/-
  FnExactValidDeed: whatever the arguments, the program and its model answer the same: no condition. (The law is run where the first cell is too small or too great, and at each one between.)
-/
import Derived.Test.YtelgoclebocapacQ
namespace Go.Proofs.Ytelgoclebocapac.fnExactValidDeed
open Go.ChangeShapes Go.WideShapes Go.ChangeAt Go.RowKit Ev Sx

def ps : List Par := [.agg [.n .i64, .n .i64]]
def us : List Nat := [7, 28, 29, 30, 62, 63, 81, 94]
theorem runLo : @soloB noSFrn Try.prog symE symX us 300 30 2 [] [(.n .i64 2, 1, true)] ⟨7, [.agg [.n .i64 2, .n .i64 3]], []⟩ (.lit (.bool true)) = true := by kernel_rfl
theorem runHi : @soloB noSFrn Try.prog symE symX us 300 30 2 [] [(.n .i64 2, 7, false)] ⟨7, [.agg [.n .i64 2, .n .i64 3]], []⟩ (.lit (.bool true)) = true := by kernel_rfl
theorem run1 : @soloB noSFrn Try.prog symE symX us 300 30 2 [] [] ⟨7, [.agg [.lit (.int .i64 1), .n .i64 3]], []⟩ (.lit (.bool true)) = true := by kernel_rfl
theorem run2 : @soloB noSFrn Try.prog symE symX us 300 30 2 [] [] ⟨7, [.agg [.lit (.int .i64 2), .n .i64 3]], []⟩ (.lit (.bool true)) = true := by kernel_rfl
theorem run3 : @soloB noSFrn Try.prog symE symX us 300 30 2 [] [] ⟨7, [.agg [.lit (.int .i64 3), .n .i64 3]], []⟩ (.lit (.bool true)) = true := by kernel_rfl
theorem run4 : @soloB noSFrn Try.prog symE symX us 300 30 2 [] [] ⟨7, [.agg [.lit (.int .i64 4), .n .i64 3]], []⟩ (.lit (.bool true)) = true := by kernel_rfl
theorem run5 : @soloB noSFrn Try.prog symE symX us 300 30 2 [] [] ⟨7, [.agg [.lit (.int .i64 5), .n .i64 3]], []⟩ (.lit (.bool true)) = true := by kernel_rfl
theorem run6 : @soloB noSFrn Try.prog symE symX us 300 30 2 [] [] ⟨7, [.agg [.lit (.int .i64 6), .n .i64 3]], []⟩ (.lit (.bool true)) = true := by kernel_rfl
theorem walk {vs : List Value} (hv : fitA ps vs = true) (w : World) : Calls Try.prog 7 vs.toArray w fun e w' => e = .returned (.bool true) ∧ Below w.heap.size w w' := by
  obtain ⟨cs, rfl, hc0⟩ := one_agg hv
  obtain ⟨z0, cs0, rfl, hc1⟩ := cons_int hc0
  obtain ⟨z1, cs1, rfl, hc2⟩ := cons_int hc1
  obtain rfl := nil_fit hc2
  have hvr : @VRL noFrn (fun _ => none) [.agg #[.int .i64 z0, .int .i64 z1]] [.agg #[.int .i64 z0, .int .i64 z1]] := vrl_agg (by rfl)
  let ρ : Nat → Int := fun j => if j = 0 then z0 else if j = 1 then z1 else 0
  have e : ([.agg [.n .i64 2, .n .i64 3]] : List SV).map (conc (gW ρ 2 [])) = [.agg #[.int .i64 z0, .int .i64 z1]] := by simp only [List.map_cons, List.map_nil, conc, concL]; rfl
  have hz : z0 < 1 ∨ 7 ≤ z0 ∨ z0 = 1 ∨ z0 = 2 ∨ z0 = 3 ∨ z0 = 4 ∨ z0 = 5 ∨ z0 = 6 := by omega
  rcases hz with h | h | rfl | rfl | rfl | rfl | rfl | rfl
  · exact solo_walk runLo (by kernel_rfl) ρ ⟨by show decide (z0 < 1) = true; exact decide_eq_true h, trivial⟩ (by rw [e]; exact hvr) w
  · exact solo_walk runHi (by kernel_rfl) ρ ⟨by show (!decide (z0 < 7)) = true; rw [decide_eq_false (by omega)]; rfl, trivial⟩ (by rw [e]; exact hvr) w
  · exact solo_walk run1 (by kernel_rfl) ρ trivial (by have e : ([.agg [.lit (.int .i64 1), .n .i64 3]] : List SV).map (conc (gW ρ 2 [])) = [.agg #[.int .i64 1, .int .i64 z1]] := by simp only [List.map_cons, List.map_nil, conc, concL]; rfl
                                                       rw [e]; exact hvr) w
  · exact solo_walk run2 (by kernel_rfl) ρ trivial (by have e : ([.agg [.lit (.int .i64 2), .n .i64 3]] : List SV).map (conc (gW ρ 2 [])) = [.agg #[.int .i64 2, .int .i64 z1]] := by simp only [List.map_cons, List.map_nil, conc, concL]; rfl
                                                       rw [e]; exact hvr) w
  · exact solo_walk run3 (by kernel_rfl) ρ trivial (by have e : ([.agg [.lit (.int .i64 3), .n .i64 3]] : List SV).map (conc (gW ρ 2 [])) = [.agg #[.int .i64 3, .int .i64 z1]] := by simp only [List.map_cons, List.map_nil, conc, concL]; rfl
                                                       rw [e]; exact hvr) w
  · exact solo_walk run4 (by kernel_rfl) ρ trivial (by have e : ([.agg [.lit (.int .i64 4), .n .i64 3]] : List SV).map (conc (gW ρ 2 [])) = [.agg #[.int .i64 4, .int .i64 z1]] := by simp only [List.map_cons, List.map_nil, conc, concL]; rfl
                                                       rw [e]; exact hvr) w
  · exact solo_walk run5 (by kernel_rfl) ρ trivial (by have e : ([.agg [.lit (.int .i64 5), .n .i64 3]] : List SV).map (conc (gW ρ 2 [])) = [.agg #[.int .i64 5, .int .i64 z1]] := by simp only [List.map_cons, List.map_nil, conc, concL]; rfl
                                                       rw [e]; exact hvr) w
  · exact solo_walk run6 (by kernel_rfl) ρ trivial (by have e : ([.agg [.lit (.int .i64 6), .n .i64 3]] : List SV).map (conc (gW ρ 2 [])) = [.agg #[.int .i64 6, .int .i64 z1]] := by simp only [List.map_cons, List.map_nil, conc, concL]; rfl
                                                       rw [e]; exact hvr) w

set_option maxRecDepth 100000 in
set_option linter.unusedVariables false in
theorem lifted (os : Os) (started : os.Started) (H : Type) (enc : TypeId × Value → H) :
    ReturnsInHanded {} Try.checked os 7 .any (Rows.fnExactValidDeedSpec.pre6 enc Try.prog Try.f7 Rows.fnExactValidDeedRow.domain false) (Rows.fnExactValidDeedSpec.post enc Try.prog Try.f7 false true false false) := by
  refine returnsInHanded_of_change (C := Try.checked) own started (by kernel_rfl) Try.func7
    (ChangeSpec.witness6 (enc := enc) (C := Try.checked) false ⟨#[], #[.agg #[.int .i64 0, .int .i64 0]], []⟩ 8 (by kernel_rfl) (by kernel_rfl) (by kernel_rfl) (by kernel_rfl)) ?_
  intro W base args ds gs before hval0 hW hcnd _
  have hval : ∀ (j : Nat) t v, Try.f7.params[j]? = some t → args[j]? = some v → Value.okWide Try.prog W .any base t v := hval0
  have hW' := hW
  obtain ⟨p, q, hA0, hV, rfl, hfz, hnd⟩ := hW
  have hA : DataW.TrodAll enc Try.prog W 0 (fun _ => true) true Try.f7.params.toList args.toList ds p := hA0
  rw [Try.params7] at hA hval
  obtain ⟨v0, vs0, d0, ds0, p0, q0, hargs, rfl, rfl, h0, r0⟩ := trodAll_cons hA
  obtain ⟨rfl, rfl, rfl⟩ := trodAll_nil r0
  obtain rfl : args = #[v0] := by cases args; simp_all
  obtain ⟨rfl, rfl⟩ := trodVars_none hV
  have lt0 : ∀ x ∈ p0, x.block < W.heap.size := by obtain ⟨m, hm⟩ := h0; exact DataW.trod_lt m _ _ _ hm
  have f0 : fitP (.agg [.n .i64, .n .i64]) v0 = true := openB_ok (t := 46) (by kernel_rfl) (hval 0 46 v0 rfl rfl)
  have hf : fitA ps [v0] = true := by
    show ((fitP (.agg [.n .i64, .n .i64]) v0 && true)) = true
    rw [f0]; rfl
  clear hA0 hval0
  refine (walk hf W).mono fun e W' ⟨he, bel⟩ => ?_
  subst he
  exact ⟨_, rfl, _, _, _, [], _, [], hW', trodAll_mk1 (shut_bool Try.underlying4 _), (trodAll_cons_mk (Below.trod laidOut (by kernel_rfl) (of_decide_eq_true (by kernel_rfl)) h0 bel lt0) trodAll_mk0), rfl, bel.frame _, fun h => by cases h⟩

theorem over : Rows.fnExactValidDeedRow.holds Try.pinned (OpenSpec.ofChange Rows.fnExactValidDeedSpec) :=
  OpenClaim.holds_of_wide 7 Try.f7 rfl rfl rfl rfl rfl rfl rfl ⟨rfl, rfl, rfl, rfl, rfl⟩ rfl rfl rfl rfl rfl (by kernel_rfl) Try.func7 (by kernel_rfl)
    (of_decide_eq_true (by kernel_rfl)) (by unfold Func.isWrapper; first | (rw [if_pos (by decide +kernel)]; kernel_rfl) | (rw [if_neg (by decide +kernel)]; exact ⟨rfl, rfl⟩))
    (fun os started H enc _ => lifted os started H enc)

/-- The given statement. -/
theorem proved : Rows.FnExactValidDeedSaid := over
end Go.Proofs.Ytelgoclebocapac.fnExactValidDeed
