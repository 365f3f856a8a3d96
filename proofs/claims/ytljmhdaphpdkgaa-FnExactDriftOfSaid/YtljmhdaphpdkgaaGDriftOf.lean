/-
  FnExactDriftOf: at every gauge and every list of samples the function answers as its model, and the list reads afterwards as before. No condition.
-/
import Derived.Test.YtljmhdaphpdkgaaIl
import Derived.Test.YtljmhdaphpdkgaaKv
set_option linter.unusedSectionVars false
noncomputable section
namespace Go.Proofs.Ytljmhdaphpdkgaa.fnExactDriftOf
open Go Go.ChangeShapes Go.WideShapes Go.ChangeAt Go.RowKit Go.Deep Ev
def gauK : List CK := List.replicate 32 (.i .i16) ++ List.replicate 17 (.f .f32)
theorem flatG : flatK Try.prog 6 38 = some gauK := by kernel_rfl
theorem fit_of : ∀ {n m : Nat} {cs : List Value}, shapeB (List.replicate n (.i .i16) ++ List.replicate m (.f .f32)) cs = true → Sx.fitL (List.replicate n (Sx.Ty.n .i16) ++ List.replicate m (Sx.Ty.f .f32)) cs = true
  | 0, 0, [], _ => rfl
  | 0, 0, _ :: _, h => by cases h
  | 0, m + 1, [], h => by cases h
  | 0, m + 1, v :: cs, h => by
    have h : (CK.ok (.f .f32) v && shapeB (List.replicate m (.f .f32)) cs) = true := h
    rw [Bool.and_eq_true] at h
    have h2 := fit_of (n := 0) (m := m) (cs := cs) h.2
    have h2 : Sx.fitL (List.replicate m (Sx.Ty.f .f32)) cs = true := h2
    show (Sx.fitV (Sx.Ty.f .f32) v && Sx.fitL (List.replicate m (Sx.Ty.f .f32)) cs) = true
    rw [h2, Bool.and_true]
    have h1 := h.1
    cases v <;> first | exact h1 | cases h1
  | n + 1, m, [], h => by cases h
  | n + 1, m, v :: cs, h => by
    have h : (CK.ok (.i .i16) v && shapeB (List.replicate n (.i .i16) ++ List.replicate m (.f .f32)) cs) = true := h
    rw [Bool.and_eq_true] at h
    have h2 := fit_of (n := n) (m := m) (cs := cs) h.2
    show (Sx.fitV (Sx.Ty.n .i16) v && Sx.fitL (List.replicate n (Sx.Ty.n .i16) ++ List.replicate m (Sx.Ty.f .f32)) cs) = true
    rw [h2, Bool.and_true]
    have h1 := h.1
    cases v with
    | int k z =>
      have h1 : decide (k = .i16) = true ∨ decide (IntKind.i16 = k) = true := by first | exact .inl h1 | exact .inr h1
      have : k = .i16 := by rcases h1 with h1 | h1 <;> simpa [eq_comm] using h1
      subst this; rfl
    | _ => cases h1
theorem canC_VRL {ι : Frn} {μ : Mu} : ∀ {cs : List Value}, cs.all bareC = true → @VRL ι μ (cs.map canC) cs
  | [], _ => @VRL.nil ι μ
  | v :: r, h => by
    rw [List.all_cons, Bool.and_eq_true] at h
    exact @VRL.cons ι μ _ _ _ _ (can_VR (canC_R h.1)) (canC_VRL h.2)
set_option maxRecDepth 100000 in
set_option linter.unusedVariables false in
theorem lifted (os : Os) (started : os.Started) (H : Type) (enc : TypeId × Value → H) :
    ReturnsInHanded {} Try.checked os 5 .any (Rows.fnExactDriftOfSpec.pre6 enc Try.prog Try.f5 Rows.fnExactDriftOfRow.domain false) (Rows.fnExactDriftOfSpec.post enc Try.prog Try.f5 false true false false) := by
  refine returnsInHanded_of_change (C := Try.checked) own started (by kernel_rfl) Try.func5
    (ChangeSpec.witness6 (enc := enc) (C := Try.checked) false ⟨#[], #[.agg (Lg.gr (fun _ => 0) fun _ => 0).toArray, .slice none 0 0], []⟩ 8 (by kernel_rfl) (by kernel_rfl) (by kernel_rfl) (by kernel_rfl)) ?_
  intro W base args ds gs before hval0 hW hcnd _
  have hval : ∀ (j : Nat) t v, Try.f5.params[j]? = some t → args[j]? = some v → Value.okWide Try.prog W .any base t v := hval0
  have hW' := hW
  obtain ⟨p, q, hA0, hV, rfl, hfz, hnd⟩ := hW
  have hA : DataW.TrodAll enc Try.prog W 0 (fun _ => true) true Try.f5.params.toList args.toList ds p := hA0
  rw [Try.params5] at hA hval
  obtain ⟨v0, vs0, d0, ds0, p0, q0, hargs, rfl, rfl, h0, r0⟩ := trodAll_cons hA
  obtain ⟨v1, vs1, d1, ds1, p1, q1, rfl, rfl, rfl, h1, r1⟩ := trodAll_cons r0
  obtain ⟨rfl, rfl, rfl⟩ := trodAll_nil r1
  obtain rfl : args = #[v0, v1] := by cases args; simp_all
  obtain ⟨rfl, rfl⟩ := trodVars_none hV
  have lt0 : ∀ x ∈ p0, x.block < W.heap.size := by obtain ⟨m, hm⟩ := h0; exact DataW.trod_lt m _ _ _ hm
  have lt1 : ∀ x ∈ p1, x.block < W.heap.size := by obtain ⟨m, hm⟩ := h1; exact DataW.trod_lt m _ _ _ hm
  obtain ⟨gs, rfl, hsz⟩ := okWide_struct Try.underlying38 (hval 0 38 v0 rfl rfl)
  have hk : shapeW gauK gs.toList := by
    obtain ⟨fuel, ht⟩ := h0
    exact flat_ok flatG ht
  have hG : Lg.isG (gs.toList.map canC) = true := fit_of (canC_shape hk.1)
  have hx : ∀ ι μ, @VR ι μ (.agg (Lg.gr (Lg.zN (gs.toList.map canC)) (Lg.fN (gs.toList.map canC))).toArray) (.agg gs) := fun ι μ => by
    rw [← Lg.gr_of hG]
    exact @VR.of_agg ι μ _ _ (canC_VRL (ι := ι) (μ := μ) (shape_bare hk.1))
  obtain ⟨l, cs, b1, b2, b3, _⟩ : ∃ l cs, RowIn W v1 l cs ∧ rowsB samK l cs = true ∧ l ≤ 9223372036854775807 ∧ cs.all wfC = true := by
    obtain ⟨a, n, c, rfl⟩ := okWide_slice Try.underlying22 (hval 1 22 v1 rfl rfl)
    obtain ⟨m, hm⟩ := h1
    exact slice_row Try.underlying22 flatP (by rw [cells17]; rfl) (by decide) hm
  clear hA0 hval0
  obtain ⟨d, n, hs, hi⟩ := Dr.both (Lg.zN (gs.toList.map canC)) (Lg.fN (gs.toList.map canC)) b2 b3
  refine (Dr.law_calls hx b1 b2 b3 hs hi).mono fun e W' ⟨he, bel⟩ => ?_
  subst he
  exact ⟨_, rfl, _, _, _, [], _, [], hW', trodAll_mk1 (shut_bool Try.underlying4 _), (trodAll_cons_mk (Below.trod laidOut (by kernel_rfl) (of_decide_eq_true (by kernel_rfl)) h0 bel lt0) (trodAll_cons_mk (Below.trod laidOut (by kernel_rfl) (of_decide_eq_true (by kernel_rfl)) h1 bel lt1) trodAll_mk0)), rfl, bel.frame _, fun h => by cases h⟩
theorem over : Rows.fnExactDriftOfRow.holds Try.pinned (OpenSpec.ofChange Rows.fnExactDriftOfSpec) :=
  OpenClaim.holds_of_wide 5 Try.f5 rfl rfl rfl rfl rfl rfl rfl ⟨rfl, rfl, rfl, rfl, rfl⟩ rfl rfl rfl rfl rfl (by kernel_rfl) Try.func5 (by kernel_rfl)
    (of_decide_eq_true (by kernel_rfl)) (by unfold Func.isWrapper; first | (rw [if_pos (by decide +kernel)]; kernel_rfl) | (rw [if_neg (by decide +kernel)]; exact ⟨rfl, rfl⟩))
    (fun os started H enc _ => lifted os started H enc)

/-- The given statement. -/
theorem proved : Rows.FnExactDriftOfSaid := over
end Go.Proofs.Ytljmhdaphpdkgaa.fnExactDriftOf
end
