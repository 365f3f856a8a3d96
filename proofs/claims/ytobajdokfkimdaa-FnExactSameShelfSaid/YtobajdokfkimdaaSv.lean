/-
  FnExactValidShelf: the given statement, once program and model are known to answer the same to every shelf.
-/
import Derived.Test.YtobajdokfkimdaaSo
import Derived.Test.YtobajdokfkimdaaRows
set_option linter.unusedSectionVars false
noncomputable section
namespace Go.Proofs.Ytobajdokfkimdaa
open Go Go.ChangeShapes Go.WideShapes Go.ChangeAt Go.RowKit Go.Deep Ev

theorem cells7 : Try.prog.cellsOf 57 = 7 := by kernel_rfl
theorem cells1 : Try.prog.cellsOf 54 = 1 := by kernel_rfl
theorem cells6 : Try.prog.cellsOf 55 = 6 := by kernel_rfl
theorem cells34 : Try.prog.cellsOf 173 = 34 := by kernel_rfl
theorem flatP : flatK Try.prog 4 173 = some pigK := by kernel_rfl
theorem flatT : flatK Try.prog 4 55 = some tinK := by kernel_rfl
set_option maxRecDepth 100000 in
theorem open_law {H : Type} {enc : TypeId × Value → H} {w : World} {r : Reach} {b0 base : Nat} {spare : Nat → Bool} {held : Bool} {v : Value} {d : DataW H} {p : List MemPlace} 
    (hv : Value.okWide Try.prog w r b0 57 v) (h : DataW.Trod enc Try.prog w base spare held 57 v d p) :
    ∃ (u : Value) (l : Nat) (cs : List Value) (t0 t1 t2 t3 t4 t5 : Int), v = shelf u (tins t0 t1 t2 t3 t4 t5) ∧ RowIn w u l cs ∧ rowsB pigK l cs = true ∧ l ≤ 9223372036854775807 ∧ cs.all wfC = true ∧ (tins t0 t1 t2 t3 t4 t5).all wfC = true :=
  open_shelf Try.underlying57 cells7 (by kernel_rfl) cells1 (by kernel_rfl) cells6 Try.underlying54 flatP cells34 flatT hv h
/-- program and model answer the same to every shelf -/
def SameAns (fs fi : Nat) : Prop := ∀ (l : Nat) (cs : List Value) (t0 t1 t2 t3 t4 t5 : Int), rowsB pigK l cs = true → l ≤ 9223372036854775807 → cs.all wfC = true → (tins t0 t1 t2 t3 t4 t5).all wfC = true →
  ∃ b : Bool, AnsF fs l cs (tins t0 t1 t2 t3 t4 t5) (.bool b) ∧ AnsF fi l cs (tins t0 t1 t2 t3 t4 t5) (.bool b)
set_option maxRecDepth 100000 in
set_option linter.unusedVariables false in
theorem lifted (hF : SameAns 47 48) (os : Os) (started : os.Started) (H : Type) (enc : TypeId × Value → H) :
    ReturnsInHanded {} Try.checked os 12 .any (Rows.fnExactValidShelfSpec.pre6 enc Try.prog Try.f12 Rows.fnExactValidShelfRow.domain false) (Rows.fnExactValidShelfSpec.post enc Try.prog Try.f12 false true false false) := by
  refine returnsInHanded_of_change (C := Try.checked) own started (by kernel_rfl) Try.func12
    (ChangeSpec.witness6 (enc := enc) (C := Try.checked) false ⟨#[], #[shelf (.slice none 0 0) (tins 0 0 0 0 0 0)], []⟩ 8 (by kernel_rfl) (by kernel_rfl) (by kernel_rfl) (by kernel_rfl)) ?_
  intro W base args ds gs before hval0 hW hcnd _
  have hval : ∀ (j : Nat) t v, Try.f12.params[j]? = some t → args[j]? = some v → Value.okWide Try.prog W .any base t v := hval0
  have hW' := hW
  obtain ⟨p, q, hA0, hV, rfl, hfz, hnd⟩ := hW
  have hA : DataW.TrodAll enc Try.prog W 0 (fun _ => true) true Try.f12.params.toList args.toList ds p := hA0
  rw [Try.params12] at hA hval
  obtain ⟨v0, vs0, d0, ds0, p0, q0, hargs, rfl, rfl, h0, r0⟩ := trodAll_cons hA
  obtain ⟨rfl, rfl, rfl⟩ := trodAll_nil r0
  obtain rfl : args = #[v0] := by cases args; simp_all
  obtain ⟨rfl, rfl⟩ := trodVars_none hV
  have lt0 : ∀ x ∈ p0, x.block < W.heap.size := by obtain ⟨m, hm⟩ := h0; exact DataW.trod_lt m _ _ _ hm
  obtain ⟨u, l, cs, t0, t1, t2, t3, t4, t5, rfl, q1, q2, q3, q4, q5⟩ := open_law (hval 0 57 v0 rfl rfl) h0
  clear hA0 hval0
  obtain ⟨b, hs, hi⟩ := hF l cs t0 t1 t2 t3 t4 t5 q2 q3 q4 q5
  refine (law_calls q1 q2 q3 hs hi).mono fun e W' ⟨he, bel⟩ => ?_
  subst he
  exact ⟨_, rfl, _, _, _, [], _, [], hW', trodAll_mk1 (shut_bool Try.underlying4 _), (trodAll_cons_mk (Below.trod laidOut (by kernel_rfl) (of_decide_eq_true (by kernel_rfl)) h0 bel lt0) trodAll_mk0), rfl, bel.frame _, fun h => by cases h⟩
end Go.Proofs.Ytobajdokfkimdaa
end
