/-
  FnExactValidSamples: the given statement, once program and model are known to answer the same to all samples.
-/
import Derived.Test.YtljmhdaphpdkgaaKo
import Derived.Test.YtljmhdaphpdkgaaRows
set_option linter.unusedSectionVars false
noncomputable section
namespace Go.Proofs.Ytljmhdaphpdkgaa
open Go Go.ChangeShapes Go.WideShapes Go.ChangeAt Go.RowKit Go.Deep Ev

theorem cells17 : Try.prog.cellsOf 54 = 17 := by kernel_rfl
theorem flatP : flatK Try.prog 4 54 = some samK := by kernel_rfl
/-- program and model answer the same to all samples -/
def SameAns (fs fi : Nat) : Prop := ∀ (l : Nat) (cs : List Value), rowsB samK l cs = true → l ≤ 9223372036854775807 → cs.all wfC = true →
  ∃ b : Bool, AnsF fs l cs (.bool b) ∧ AnsF fi l cs (.bool b)
set_option maxRecDepth 100000 in
set_option linter.unusedVariables false in
theorem lifted (hF : SameAns 12 13) (os : Os) (started : os.Started) (H : Type) (enc : TypeId × Value → H) :
    ReturnsInHanded {} Try.checked os 4 .any (Rows.fnExactValidSamplesSpec.pre6 enc Try.prog Try.f4 Rows.fnExactValidSamplesRow.domain false) (Rows.fnExactValidSamplesSpec.post enc Try.prog Try.f4 false true false false) := by
  refine returnsInHanded_of_change (C := Try.checked) own started (by kernel_rfl) Try.func4
    (ChangeSpec.witness6 (enc := enc) (C := Try.checked) false ⟨#[], #[.slice none 0 0], []⟩ 8 (by kernel_rfl) (by kernel_rfl) (by kernel_rfl) (by kernel_rfl)) ?_
  intro W base args ds gs before hval0 hW hcnd _
  have hval : ∀ (j : Nat) t v, Try.f4.params[j]? = some t → args[j]? = some v → Value.okWide Try.prog W .any base t v := hval0
  have hW' := hW
  obtain ⟨p, q, hA0, hV, rfl, hfz, hnd⟩ := hW
  have hA : DataW.TrodAll enc Try.prog W 0 (fun _ => true) true Try.f4.params.toList args.toList ds p := hA0
  rw [Try.params4] at hA hval
  obtain ⟨v0, vs0, d0, ds0, p0, q0, hargs, rfl, rfl, h0, r0⟩ := trodAll_cons hA
  obtain ⟨rfl, rfl, rfl⟩ := trodAll_nil r0
  obtain rfl : args = #[v0] := by cases args; simp_all
  obtain ⟨rfl, rfl⟩ := trodVars_none hV
  have lt0 : ∀ x ∈ p0, x.block < W.heap.size := by obtain ⟨m, hm⟩ := h0; exact DataW.trod_lt m _ _ _ hm
  obtain ⟨l, cs, q1, q2, q3, q4⟩ : ∃ l cs, RowIn W v0 l cs ∧ rowsB samK l cs = true ∧ l ≤ 9223372036854775807 ∧ cs.all wfC = true := by
    obtain ⟨a, n, c, rfl⟩ := okWide_slice Try.underlying22 (hval 0 22 v0 rfl rfl)
    obtain ⟨m, hm⟩ := h0
    exact slice_row Try.underlying22 flatP (by rw [cells17]; rfl) (by decide) hm
  clear hA0 hval0
  obtain ⟨b, hs, hi⟩ := hF l cs q2 q3 q4
  refine (law_calls q1 q2 q3 hs hi).mono fun e W' ⟨he, bel⟩ => ?_
  subst he
  exact ⟨_, rfl, _, _, _, [], _, [], hW', trodAll_mk1 (shut_bool Try.underlying4 _), (trodAll_cons_mk (Below.trod laidOut (by kernel_rfl) (of_decide_eq_true (by kernel_rfl)) h0 bel lt0) trodAll_mk0), rfl, bel.frame _, fun h => by cases h⟩
end Go.Proofs.Ytljmhdaphpdkgaa
end
