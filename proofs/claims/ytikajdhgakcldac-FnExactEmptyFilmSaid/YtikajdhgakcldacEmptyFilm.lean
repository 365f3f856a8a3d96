/-
  FnExactEmptyFilm: whatever the arguments, the program and its model answer the same: no condition. (The law is run on variables: 'run'.)
-/
import Derived.Test.YtikajdhgakcldacW
namespace Go.Proofs.Ytikajdhgakcldac.fnExactEmptyFilm
open Go.ChangeShapes Go.WideShapes Go.ChangeAt Go.RowKit Ev Sx

def ps : List Par := []
def us : List Nat := [9, 30, 31, 32, 64, 65, 66]
theorem run : lawB Try.prog symE symW us 300 30 9 ps = true := by kernel_rfl
theorem walk {vs : List Value} (hv : fitA ps vs = true) (w : World) : Calls Try.prog 9 vs.toArray w fun e w' => e = .returned (.bool true) ∧ Below w.heap.size w w' :=
  sx_walk (fun _ _ => .i 0) mixed (by kernel_rfl) extXOk orcWOk symER symWR run hv w

set_option maxRecDepth 100000 in
set_option linter.unusedVariables false in
theorem lifted (os : Os) (started : os.Started) (H : Type) (enc : TypeId × Value → H) :
    ReturnsInHanded {} Try.checked os 9 .any (Rows.fnExactEmptyFilmSpec.pre6 enc Try.prog Try.f9 Rows.fnExactEmptyFilmRow.domain false) (Rows.fnExactEmptyFilmSpec.post enc Try.prog Try.f9 false true false false) := by
  refine returnsInHanded_of_change (C := Try.checked) own started (by kernel_rfl) Try.func9
    (ChangeSpec.witness6 (enc := enc) (C := Try.checked) false ⟨#[], #[], []⟩ 8 (by kernel_rfl) (by kernel_rfl) (by kernel_rfl) (by kernel_rfl)) ?_
  intro W base args ds gs before hval0 hW hcnd _
  have hval : ∀ (j : Nat) t v, Try.f9.params[j]? = some t → args[j]? = some v → Value.okWide Try.prog W .any base t v := hval0
  have hW' := hW
  obtain ⟨p, q, hA0, hV, rfl, hfz, hnd⟩ := hW
  have hA : DataW.TrodAll enc Try.prog W 0 (fun _ => true) true Try.f9.params.toList args.toList ds p := hA0
  rw [Try.params9] at hA hval
  obtain ⟨hargs, rfl, rfl⟩ := trodAll_none hA
  obtain rfl : args = #[] := by cases args; simp_all
  obtain ⟨rfl, rfl⟩ := trodVars_none hV
  have hf : fitA ps [] = true := by
    show true = true
    rfl
  clear hA0 hval0
  refine (walk hf W).mono fun e W' ⟨he, bel⟩ => ?_
  subst he
  exact ⟨_, rfl, _, _, _, [], _, [], hW', trodAll_mk1 (shut_bool Try.underlying4 _), trodAll_mk0, rfl, bel.frame _, fun h => by cases h⟩

theorem over : Rows.fnExactEmptyFilmRow.holds Try.pinned (OpenSpec.ofChange Rows.fnExactEmptyFilmSpec) :=
  OpenClaim.holds_of_wide 9 Try.f9 rfl rfl rfl rfl rfl rfl rfl ⟨rfl, rfl, rfl, rfl, rfl⟩ rfl rfl rfl rfl rfl (by kernel_rfl) Try.func9 (by kernel_rfl)
    (of_decide_eq_true (by kernel_rfl)) (by unfold Func.isWrapper; first | (rw [if_pos (by decide +kernel)]; kernel_rfl) | (rw [if_neg (by decide +kernel)]; exact ⟨rfl, rfl⟩))
    (fun os started H enc _ => lifted os started H enc)

/-- The given statement. -/
theorem proved : Rows.FnExactEmptyFilmSaid := over
end Go.Proofs.Ytikajdhgakcldac.fnExactEmptyFilm
