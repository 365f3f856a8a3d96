/-
  FnExactValidPigment: whatever the pigment, the program and its model answer the same. No condition.
-/
import Derived.Test.YtelgoclebocapaaGb
set_option linter.unusedSectionVars false
set_option linter.unusedVariables false
noncomputable section
namespace Go.Proofs.Ytelgoclebocapaa.fnExactValidPigment
open Go Go.ChangeShapes Go.WideShapes Go.ChangeAt Go.RowKit Go.Deep Ev Sx

def us : List Nat := [3, 14, 15, 16, 17, 45, 46, 89]
theorem run : @soloB noSFrn Try.prog [] symPg us 300 30 34 [] [(.s 2, 9223372036854775808, true)] ⟨3, [.agg pvS], []⟩ (.lit (.bool true)) = true := by kernel_rfl
theorem walk {cs : List Value} (hs : shapeB pigK cs = true) (hw : cs.all wfC = true) {vs : List Value} (hv : @VRL noFrn (fun _ => none) [.agg cs.toArray] vs) (w : World) : Calls Try.prog 3 vs.toArray w fun e w' => e = .returned (.bool true) ∧ Below w.heap.size w w' := by
  have hc : pvS.map (conc (gW (rhoV cs) 34 [])) = cs := by
    rw [← pv_svs]
    exact svs_conc (ks := pigK) (vs := cs) (j := 0) (w := 36) (pre := []) (post := []) (by kernel_rfl) hs (wfs_wr hw) (by
      have := rho_part (A := []) (vs := cs) (B := []) (j := 0) rfl
      rwa [List.nil_append, List.append_nil] at this) (by decide) rfl rfl
  have hE : factsH (gW (rhoV cs) 34 []) [(.s 2, 9223372036854775808, true)] := by
    obtain ⟨s, ys, rfl, _⟩ := shape_s hs
    have h0 : conc (gW (rhoV (.string s :: ys)) 34 []) (.s 2) = .string s := by
      have := congrArg List.head? hc
      simpa [pvS] using this
    refine fact1 ?_ trivial
    rw [h0]
    rw [List.all_cons, Bool.and_eq_true] at hw
    have hsz : s.size ≤ maxLen := of_decide_eq_true hw.1
    rw [maxLen_eq] at hsz
    show (s.size : Int) < _
    omega
  obtain ⟨h1, e, _⟩ := @solo_run noSFrn Try.prog [] symPg (fun f => seek f []) (fun f => seek f orcPg) us 300 30 34 [] _ ⟨3, [.agg pvS], []⟩ (.lit (.bool true)) UNm (rhoV cs) (fun F hB _ => ListR.nil) (fun F hB _ => symPgR F _ hB)
    (fun _ => rfl) run hE noFrn (fun _ => rfl) (fun F hB _ f g h => by
      have h : (none : Option (List (Nat × Bool) → List SV → HeapS → M SV)) = some g := h
      cases h)
  have e2 : ([.agg pvS] : List SV).map (conc (gW (rhoV cs) 34 [])) = [.agg cs.toArray] := by
    show [conc (gW (rhoV cs) 34 []) (.agg pvS)] = _
    simp only [conc, concL_map]
    rw [hc]
  have e : @funD noFrn Try.prog (fun f => seek f []) (fun f => seek f orcPg) us 300 30 3 [.agg cs.toArray] [] = some (.bool true, h1, true) := by
    rw [← e2]
    refine Eq.trans e ?_
    simp only [conc]
  have hcl : @CallOk noFrn Try.prog (@funD noFrn Try.prog (fun f => seek f []) (fun f => seek f orcPg) us 300 30) := @EnvOk.call noFrn _ (@fun_goes noFrn Try.prog (fun f => seek f []) (fun f => seek f orcPg) us 300 mixed (by kernel_rfl) noX (@orc_list noFrn _ _ orcPgOk) (fun f g h => by
      have h : (none : Option ConT) = some g := h
      cases h) 30)
  refine (hcl _ _ _ _ _ _ e rfl (fun _ => none) vs w w.heap.size hv (@HeapR.start noFrn w (noIn w)) (Nat.le_refl _)).mono fun e w' hx => ?_
  obtain ⟨y, μ', rfl, _, hy, _, hbl⟩ := hx
  rw [@VR.bool_inv noFrn _ _ _ hy]
  exact ⟨rfl, hbl⟩
set_option maxRecDepth 100000 in
theorem lifted (os : Os) (started : os.Started) (H : Type) (enc : TypeId × Value → H) :
    ReturnsInHanded {} Try.checked os 3 .any (Rows.fnExactValidPigmentSpec.pre6 enc Try.prog Try.f3 Rows.fnExactValidPigmentRow.domain false) (Rows.fnExactValidPigmentSpec.post enc Try.prog Try.f3 false true false false) := by
  refine returnsInHanded_of_change (C := Try.checked) own started (by kernel_rfl) Try.func3
    (ChangeSpec.witness6 (enc := enc) (C := Try.checked) false ⟨#[], #[.agg (.string ByteArray.empty :: (fl .f32 (List.replicate 32 0) ++ [.int .i64 0])).toArray], []⟩ 8 (by kernel_rfl) (by kernel_rfl) (by kernel_rfl) (by kernel_rfl)) ?_
  intro W base args ds gs before hval0 hW hcnd _
  have hval : ∀ (j : Nat) t v, Try.f3.params[j]? = some t → args[j]? = some v → Value.okWide Try.prog W .any base t v := hval0
  have hW' := hW
  obtain ⟨p, q, hA0, hV, rfl, hfz, hnd⟩ := hW
  have hA : DataW.TrodAll enc Try.prog W 0 (fun _ => true) true Try.f3.params.toList args.toList ds p := hA0
  rw [Try.params3] at hA hval
  obtain ⟨v0, vs0, d0, ds0, p0, q0, hargs, rfl, rfl, h0, r0⟩ := trodAll_cons hA
  obtain ⟨rfl, rfl, rfl⟩ := trodAll_nil r0
  obtain rfl : args = #[v0] := by cases args; simp_all
  obtain ⟨rfl, rfl⟩ := trodVars_none hV
  have lt0 : ∀ x ∈ p0, x.block < W.heap.size := by obtain ⟨m, hm⟩ := h0; exact DataW.trod_lt m _ _ _ hm
  obtain ⟨cs, rfl, hsz⟩ := okWide_struct Try.underlying25 (hval 0 25 v0 rfl rfl)
  have hk : shapeW pigK cs.toList := by
    obtain ⟨fuel, ht⟩ := h0
    exact flat_ok flatP ht
  clear hA0 hval0
  refine (walk (canC_shape hk.1) (canC_wf hk.2) (vrl_one (@VR.of_agg noFrn (fun _ => none) _ _ (canC_VRL (ι := noFrn) (μ := fun _ => none) (shape_bare hk.1))) (@VRL.nil noFrn _)) W).mono fun e W' ⟨he, bel⟩ => ?_
  subst he
  exact ⟨_, rfl, _, _, _, [], _, [], hW', trodAll_mk1 (shut_bool Try.underlying4 _), (trodAll_cons_mk (Below.trod laidOut (by kernel_rfl) (of_decide_eq_true (by kernel_rfl)) h0 bel lt0) trodAll_mk0), rfl, bel.frame _, fun h => by cases h⟩
theorem over : Rows.fnExactValidPigmentRow.holds Try.pinned (OpenSpec.ofChange Rows.fnExactValidPigmentSpec) :=
  OpenClaim.holds_of_wide 3 Try.f3 rfl rfl rfl rfl rfl rfl rfl ⟨rfl, rfl, rfl, rfl, rfl⟩ rfl rfl rfl rfl rfl (by kernel_rfl) Try.func3 (by kernel_rfl)
    (of_decide_eq_true (by kernel_rfl)) (by unfold Func.isWrapper; first | (rw [if_pos (by decide +kernel)]; kernel_rfl) | (rw [if_neg (by decide +kernel)]; exact ⟨rfl, rfl⟩))
    (fun os started H enc _ => lifted os started H enc)

/-- The given statement. -/
theorem proved : Rows.FnExactValidPigmentSaid := over
end Go.Proofs.Ytelgoclebocapaa.fnExactValidPigment
end
