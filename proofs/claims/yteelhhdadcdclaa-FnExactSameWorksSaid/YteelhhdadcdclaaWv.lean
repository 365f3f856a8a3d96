/-
  FnExactValidWorks: the given statement, once program and model are known to answer the same to every works.
-/
import Derived.Test.YteelhhdadcdclaaWo
import Derived.Test.YteelhhdadcdclaaRows
set_option linter.unusedSectionVars false
noncomputable section
namespace Go.Proofs.Yteelhhdadcdclaa
open Go Go.ChangeShapes Go.WideShapes Go.ChangeAt Go.RowKit Go.Deep Ev

theorem cells2 : Try.prog.cellsOf 24 = 2 := by kernel_rfl
theorem cells1 : Try.prog.cellsOf 22 = 1 := by kernel_rfl
theorem cells1i : Try.prog.cellsOf 2 = 1 := by kernel_rfl
theorem cells9 : Try.prog.cellsOf 53 = 9 := by kernel_rfl
theorem flatP : flatK Try.prog 4 53 = some batK := by kernel_rfl
theorem flatT : flatK Try.prog 4 2 = some roomK := by kernel_rfl
set_option maxRecDepth 100000 in
theorem open_law {H : Type} {enc : TypeId × Value → H} {w : World} {r : Reach} {b0 base : Nat} {spare : Nat → Bool} {held : Bool} {v : Value} {d : DataW H} {p : List MemPlace} 
    (hv : Value.okWide Try.prog w r b0 24 v) (h : DataW.Trod enc Try.prog w base spare held 24 v d p) :
    ∃ (u : Value) (l : Nat) (cs : List Value) (t0 : Int), v = works u (rooms t0) ∧ RowIn w u l cs ∧ rowsB batK l cs = true ∧ l ≤ 9223372036854775807 ∧ cs.all wfC = true ∧ (rooms t0).all wfC = true :=
  open_works Try.underlying24 cells2 (by kernel_rfl) cells1i (by kernel_rfl) cells1 Try.underlying22 flatP cells9 flatT hv h
/-- program and model answer the same to every works -/
def SameAns (fs fi : Nat) : Prop := ∀ (l : Nat) (cs : List Value) (t0 : Int), rowsB batK l cs = true → l ≤ 9223372036854775807 → cs.all wfC = true → (rooms t0).all wfC = true →
  ∃ b : Bool, AnsF fs l cs t0 (.bool b) ∧ AnsF fi l cs t0 (.bool b)
set_option maxRecDepth 100000 in
set_option linter.unusedVariables false in
theorem lifted (hF : SameAns 6 8) (os : Os) (started : os.Started) (H : Type) (enc : TypeId × Value → H) :
    ReturnsInHanded {} Try.checked os 3 .any (Rows.fnExactValidWorksSpec.pre6 enc Try.prog Try.f3 Rows.fnExactValidWorksRow.domain false) (Rows.fnExactValidWorksSpec.post enc Try.prog Try.f3 false true false false) := by
  refine returnsInHanded_of_change (C := Try.checked) own started (by kernel_rfl) Try.func3
    (ChangeSpec.witness6 (enc := enc) (C := Try.checked) false ⟨#[], #[works (.slice none 0 0) (rooms 0)], []⟩ 8 (by kernel_rfl) (by kernel_rfl) (by kernel_rfl) (by kernel_rfl)) ?_
  intro W base args ds gs before hval0 hW hcnd _
  have hval : ∀ (j : Nat) t v, Try.f3.params[j]? = some t → args[j]? = some v → Value.okWide Try.prog W .any base t v := hval0
  have hW' := hW
  obtain ⟨p, q, hA0, hV, rfl, hfz, hnd⟩ := hW
  have hA : DataW.TrodAll enc Try.prog W 0 (fun _ => true) true Try.f3.params.toList args.toList ds p := hA0
  rw [Try.params3] at hA hval
  obtain ⟨v0, vs0, d0, ds0, p0, q0, hargs, rfl, rfl, h0, r0⟩ := trodAll_cons hA
  obtain ⟨rfl, rfl, rfl⟩ := trodAll_nil r0
  obtain rfl : args = #[v0] := by cases args; simp_all
  obtain ⟨rfl, rfl⟩ := trodVars_none hV
  have lt0 : ∀ x ∈ p0, x.block < W.heap.size := by obtain ⟨m, hm⟩ := h0; exact DataW.trod_lt m _ _ _ hm
  obtain ⟨u, l, cs, t0, rfl, q1, q2, q3, q4, q5⟩ := open_law (hval 0 24 v0 rfl rfl) h0
  clear hA0 hval0
  obtain ⟨b, hs, hi⟩ := hF l cs t0 q2 q3 q4 q5
  refine (law_calls q1 q2 q3 hs hi).mono fun e W' ⟨he, bel⟩ => ?_
  subst he
  exact ⟨_, rfl, _, _, _, [], _, [], hW', trodAll_mk1 (shut_bool Try.underlying4 _), (trodAll_cons_mk (Below.trod laidOut (by kernel_rfl) (of_decide_eq_true (by kernel_rfl)) h0 bel lt0) trodAll_mk0), rfl, bel.frame _, fun h => by cases h⟩
end Go.Proofs.Yteelhhdadcdclaa
end
