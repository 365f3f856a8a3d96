/-
  FnExactGaugeOf: at every two lists of samples and every curve the function answers as its model, and the lists read afterwards as before. No condition.
-/
import Derived.Test.YtahmdfklahaapaaJf
import Derived.Test.YtahmdfklahaapaaKv
set_option linter.unusedSectionVars false
noncomputable section
namespace Go.Proofs.Ytahmdfklahaapaa.fnExactGaugeOf
open Go Go.ChangeShapes Go.WideShapes Go.ChangeAt Go.RowKit Go.Deep Ev
/-- a curve that comes in, and what is known of it -/
theorem kn_real {r : List Nat} (hr : r.length = 16) : ∀ ι μ, @VR ι μ (.agg (Gf.kn fun j => cn .f32 (r.getD j 0)).toArray) (.agg (fl .f32 r).toArray) := fun ι μ => by
  refine @VR.agg ι μ _ _ ?_ fun i x y hx hy => ?_
  · show (Gf.kn _).length = (fl .f32 r).length
    rw [Gf.kn_len]
    unfold fl
    rw [List.length_map, hr]
  · have hx : (Gf.kn fun j => cn .f32 (r.getD j 0))[i]? = some x := hx
    have hy : (fl .f32 r)[i]? = some y := hy
    unfold fl at hy
    rw [List.getElem?_map] at hy
    obtain ⟨b, hb, rfl⟩ := Option.map_eq_some_iff.1 hy
    have hi : i < 16 := by rw [← hr]; exact (List.getElem?_eq_some_iff.1 hb).1
    unfold Gf.kn at hx
    rw [List.getElem?_map, List.getElem?_range hi, Option.map_some] at hx
    have hx : some (Value.float .f32 (cn .f32 (r.getD i 0))) = some x := hx
    rw [List.getD_eq_getElem?_getD, hb] at hx
    cases hx
    exact @VR.float ι μ .f32 _ b rfl
set_option maxRecDepth 100000 in
set_option linter.unusedVariables false in
theorem lifted (os : Os) (started : os.Started) (H : Type) (enc : TypeId × Value → H) :
    ReturnsInHanded {} Try.checked os 4 .any (Rows.fnExactGaugeOfSpec.pre6 enc Try.prog Try.f4 Rows.fnExactGaugeOfRow.domain false) (Rows.fnExactGaugeOfSpec.post enc Try.prog Try.f4 false true false false) := by
  refine returnsInHanded_of_change (C := Try.checked) own started (by kernel_rfl) Try.func4
    (ChangeSpec.witness6 (enc := enc) (C := Try.checked) false ⟨#[], #[.slice none 0 0, .slice none 0 0, .agg (fl .f32 (List.replicate 16 0)).toArray], []⟩ 8 (by kernel_rfl) (by kernel_rfl) (by kernel_rfl) (by kernel_rfl)) ?_
  intro W base args ds gs before hval0 hW hcnd _
  have hval : ∀ (j : Nat) t v, Try.f4.params[j]? = some t → args[j]? = some v → Value.okWide Try.prog W .any base t v := hval0
  have hW' := hW
  obtain ⟨p, q, hA0, hV, rfl, hfz, hnd⟩ := hW
  have hA : DataW.TrodAll enc Try.prog W 0 (fun _ => true) true Try.f4.params.toList args.toList ds p := hA0
  rw [Try.params4] at hA hval
  obtain ⟨v0, vs0, d0, ds0, p0, q0, hargs, rfl, rfl, h0, r0⟩ := trodAll_cons hA
  obtain ⟨v1, vs1, d1, ds1, p1, q1, rfl, rfl, rfl, h1, r1⟩ := trodAll_cons r0
  obtain ⟨v2, vs2, d2, ds2, p2, q2, rfl, rfl, rfl, h2, r2⟩ := trodAll_cons r1
  obtain ⟨rfl, rfl, rfl⟩ := trodAll_nil r2
  obtain rfl : args = #[v0, v1, v2] := by cases args; simp_all
  obtain ⟨rfl, rfl⟩ := trodVars_none hV
  have lt0 : ∀ x ∈ p0, x.block < W.heap.size := by obtain ⟨m, hm⟩ := h0; exact DataW.trod_lt m _ _ _ hm
  have lt1 : ∀ x ∈ p1, x.block < W.heap.size := by obtain ⟨m, hm⟩ := h1; exact DataW.trod_lt m _ _ _ hm
  have lt2 : ∀ x ∈ p2, x.block < W.heap.size := by obtain ⟨m, hm⟩ := h2; exact DataW.trod_lt m _ _ _ hm
  obtain ⟨l, cs, a1, a2, a3, _⟩ : ∃ l cs, RowIn W v0 l cs ∧ rowsB samK l cs = true ∧ l ≤ 9223372036854775807 ∧ cs.all wfC = true := by
    obtain ⟨a, n, c, rfl⟩ := okWide_slice Try.underlying22 (hval 0 22 v0 rfl rfl)
    obtain ⟨m, hm⟩ := h0
    exact slice_row Try.underlying22 flatP (by rw [cells17]; rfl) (by decide) hm
  obtain ⟨l2, ds', b1, b2, b3, _⟩ : ∃ l cs, RowIn W v1 l cs ∧ rowsB samK l cs = true ∧ l ≤ 9223372036854775807 ∧ cs.all wfC = true := by
    obtain ⟨a, n, c, rfl⟩ := okWide_slice Try.underlying22 (hval 1 22 v1 rfl rfl)
    obtain ⟨m, hm⟩ := h1
    exact slice_row Try.underlying22 flatP (by rw [cells17]; rfl) (by decide) hm
  obtain ⟨r, rfl, hr⟩ := open_floats (k := .f32) (n := 16) Try.underlying35 Try.underlying34 (by kernel_rfl) (by kernel_rfl) (hval 2 35 v2 rfl rfl)
  clear hA0 hval0
  have hx := kn_real hr
  obtain ⟨F0, F1, g, n, hs, hi⟩ := Gf.both a2 b2 a3 b3 (fun j => cn .f32 (r.getD j 0))
  refine (Gf.law_calls a1 b1 hx a2 b2 a3 b3 hs hi).mono fun e W' ⟨he, bel⟩ => ?_
  subst he
  exact ⟨_, rfl, _, _, _, [], _, [], hW', trodAll_mk1 (shut_bool Try.underlying4 _), (trodAll_cons_mk (Below.trod laidOut (by kernel_rfl) (of_decide_eq_true (by kernel_rfl)) h0 bel lt0) (trodAll_cons_mk (Below.trod laidOut (by kernel_rfl) (of_decide_eq_true (by kernel_rfl)) h1 bel lt1) (trodAll_cons_mk (Below.trod laidOut (by kernel_rfl) (of_decide_eq_true (by kernel_rfl)) h2 bel lt2) trodAll_mk0))), rfl, bel.frame _, fun h => by cases h⟩
theorem over : Rows.fnExactGaugeOfRow.holds Try.pinned (OpenSpec.ofChange Rows.fnExactGaugeOfSpec) :=
  OpenClaim.holds_of_wide 4 Try.f4 rfl rfl rfl rfl rfl rfl rfl ⟨rfl, rfl, rfl, rfl, rfl⟩ rfl rfl rfl rfl rfl (by kernel_rfl) Try.func4 (by kernel_rfl)
    (of_decide_eq_true (by kernel_rfl)) (by unfold Func.isWrapper; first | (rw [if_pos (by decide +kernel)]; kernel_rfl) | (rw [if_neg (by decide +kernel)]; exact ⟨rfl, rfl⟩))
    (fun os started H enc _ => lifted os started H enc)

/-- The given statement. -/
theorem proved : Rows.FnExactGaugeOfSaid := over
end Go.Proofs.Ytahmdfklahaapaa.fnExactGaugeOf
end
