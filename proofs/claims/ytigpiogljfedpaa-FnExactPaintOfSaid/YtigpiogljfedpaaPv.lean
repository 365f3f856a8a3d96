/-
  One pigment: the program and the model tell alike whether it is valid, wherever it lies. No condition.
-/
import Derived.Test.YtigpiogljfedpaaNn
import Derived.Test.YtigpiogljfedpaaSz
import Derived.Test.YtigpiogljfedpaaSb
set_option linter.unusedSectionVars false
noncomputable section
namespace Go.Proofs.Ytigpiogljfedpaa
open Go Go.ChangeShapes Go.WideShapes Go.ChangeAt Go.RowKit Ev Sx

theorem wf_wr {v : Value} (h : wfC v = true) : wrC v = true := by
  cases v with
  | int k z =>
    have h : (decide (k.min ≤ z) && decide (z ≤ k.max)) = true := h
    rw [Bool.and_eq_true] at h
    have h1 := of_decide_eq_true h.1
    have h2 := of_decide_eq_true h.2
    show decide (k.wrap z = z) = true
    refine decide_eq_true ?_
    cases k <;> simp [IntKind.wrap, IntKind.bits, IntKind.signed, IntKind.min, IntKind.max] at * <;> omega
  | _ => rfl
theorem wfs_wr {vs : List Value} (h : vs.all wfC = true) : vs.all wrC = true := by
  rw [List.all_eq_true] at h ⊢
  exact fun v hv => wf_wr (h v hv)
theorem maxLen_eq : maxLen = 9223372036854775807 := by kernel_rfl
theorem size_lt {s : ByteArray} {c : Int} (h : true = (bif true then decide (factV (.string s) < c) else !decide (factV (.string s) < c))) : (s.size : Int) < c := by
  rw [cond_true] at h
  exact of_decide_eq_true h.symm
theorem size_le {s : ByteArray} (h : true = (bif true then decide (factV (.string s) < 9223372036854775808) else !decide (factV (.string s) < 9223372036854775808))) : s.size ≤ maxLen := by
  have := size_lt h
  rw [maxLen_eq]
  omega
theorem fact1 {g : Nat → Vl} {x : SV} {c : Int} {r : List Fact} (h : factV (conc g x) < c) (hr : factsH g r) : factsH g ((x, c, true) :: r) := ⟨decide_eq_true h, hr⟩
theorem fitV_bare {y : Ty} {v : Value} (h : fitV y v = true) : bareC v = true := by
  unfold fitV at h
  split at h <;> first | rfl | cases h
/-! ### names in runs -/
def UNm (op : Nat) (z : Vl) : Vl := if op = 130 then .i (bif nameV (strOf z.z) then 1 else 0) else .i 0
def nameSy : SymF := fun pc args =>
  match args with
  | [.s i] => bnd (factN (.s i)) fun n => bnd (asI (.lit (.int .i64 9223372036854775808))) fun c => bnd (ltI n c true) fun v => bnd (opt (asB v)) fun g => bnd (needS pc g) fun _ => bnd (mk3 130 i 0 0) fun a => bnd (atomS a) fun r => ret (.b r)
  | _ => non
theorem nameSy_ok {F : Tab} {ρ : Nat → Int} (hB : Base F ρ UNm) : SymOk F ρ UNm nameO nameSy := fun pc args => by
  unfold nameSy
  split
  · rename_i i
    refine Spec.bnd (factN_ok (ρ := ρ) (U := UNm)) fun n => Spec.bnd (asI_spec (ρ := ρ) (U := UNm) (k := .i64) rfl) fun c => Spec.bnd (ltI_spec hB) fun v => Spec.bnd (optB hB) fun g => Spec.bnd (needS_spec hB) fun _ => Spec.bnd (mk3_spec (ρ := ρ) (U := UNm)) fun a => Spec.bnd (atomS_spec hB) fun r => Spec.ret fun h1 h2 h3 h4 h5 h6 h7 hp => ?_
    have e := h3 hp
    rw [h4] at h5
    injection h5 with h5
    rw [e, h7, cv_s] at h5
    rw [cv_lit] at h6
    injection h6 with _ h6
    rw [← h6] at h5
    have hk : (strOf (raw F ρ UNm i).z).size ≤ maxLen := size_le h5
    obtain ⟨p, h2⟩ := h2
    have h2 : raw F ρ UNm a = .i (bif nameV (strOf (raw F ρ UNm i).z) then 1 else 0) := h2
    rw [cvl_cons, cv_s, cv_b]
    show some (Value.bool (nameV (strOf (raw F ρ UNm i).z)), decide ((strOf (raw F ρ UNm i).z).size ≤ maxLen)) = _
    rw [decide_eq_true hk]
    have : tv F ρ UNm r = nameV (strOf (raw F ρ UNm i).z) := by
      rw [h1]
      show (raw F ρ UNm a).tr = _
      rw [h2, Vl.tr_bif]
    rw [this]
  · exact Spec.non
theorem fitA_bare : ∀ {ps : List Par} {vs : List Value}, fitA ps vs = true → vs.all bareP = true
  | [], [], _ => rfl
  | p :: r, v :: s, h => by
    rw [fitA, Bool.and_eq_true] at h
    have fl : ∀ {ys : List Ty} {cs : List Value}, fitL ys cs = true → cs.all bareC = true := by
      intro ys
      induction ys with
      | nil =>
        intro cs h
        cases cs with
        | nil => rfl
        | cons _ _ => cases h
      | cons y ys ih =>
        intro cs h
        cases cs with
        | nil => cases h
        | cons c cs =>
          rw [fitL, Bool.and_eq_true] at h
          rw [List.all_cons, ih h.2, Bool.and_true]
          exact fitV_bare h.1
    have h1 : bareP v = true := by
      have h1 := h.1
      unfold fitP at h1
      split at h1
      · exact fl h1
      · have h2 := fitV_bare h1
        revert h2
        generalize v = u
        intro h2
        cases u <;> first | exact h2 | cases h2
      · cases h1
    rw [List.all_cons, h1, fitA_bare h.2]; rfl
  | [], _ :: _, h => by cases h
  | _ :: _, [], h => by cases h
theorem curve_bare {e : Ek} : BareSig (curveO e) := fun args v h => by
  have hf := curveO_fit args v true h
  refine ⟨fitA_bare hf, ?_⟩
  unfold curveO at h
  rw [hf, cond_true] at h
  split at h
  · cases h; rfl
  · cases h
def orcPg : List (Nat × Sig) := [(110, nameO), (139, nameO), (111, curveO .amount), (140, curveO .amount)]
theorem orcPgOk {ι : Frn} : ∀ p ∈ orcPg, @OrcOne ι Try.prog p.1 p.2 := all_cons is_one (all_cons nm_one (all_cons (orc_any orcAmountI curve_bare) (all_cons (orc_any orcAmountM curve_bare) all_nil)))
def symPg : List (Nat × SymF) := [(110, nameSy), (139, nameSy), (111, curveSy .amount), (140, curveSy .amount)]
theorem symPgR (F : Tab) (ρ : Nat → Int) (hB : Base F ρ UNm) : ListR F ρ UNm symPg (fun f => seek f orcPg) :=
  ListR.cons (nameSy_ok hB) <| ListR.cons (nameSy_ok hB) <| ListR.cons (curveSy_ok hB .amount) <| ListR.cons (curveSy_ok hB .amount) ListR.nil

/-! ### the two runs -/
def pvS : List SV := [.s 2, .f .f32 3, .f .f32 4, .f .f32 5, .f .f32 6, .f .f32 7, .f .f32 8, .f .f32 9, .f .f32 10, .f .f32 11, .f .f32 12, .f .f32 13, .f .f32 14, .f .f32 15, .f .f32 16, .f .f32 17, .f .f32 18, .f .f32 19, .f .f32 20, .f .f32 21, .f .f32 22, .f .f32 23, .f .f32 24, .f .f32 25, .f .f32 26, .f .f32 27, .f .f32 28, .f .f32 29, .f .f32 30, .f .f32 31, .f .f32 32, .f .f32 33, .f .f32 34, .n .i64 35]
abbrev pvF : SFrn := ⟨fun k => bif Nat.beq k 0 then pvS else [], fun _ => none⟩
def pvUs : List Nat := [55, 105, 72]
def pvA : Job := ⟨105, [.lit (.pointer (some ⟨0, 0, some 0⟩))], []⟩
def pvB : Job := ⟨55, [.agg pvS], []⟩
theorem pv_run : @pair2B pvF Try.prog [] symPg pvUs 300 30 34 [] [(.s 2, 9223372036854775808, true)] pvA pvB [.one .b] = true := by kernel_rfl
theorem pv_svs : svsK pigK 0 36 = pvS := by kernel_rfl
/-- tokens for one row -/
abbrev tk1 (v : Value) (l : Nat) (cs : List Value) : Toks := [(v, l, cs)]
theorem pv_val {cs : List Value} (hs : shapeB pigK cs = true) (hw : cs.all wfC = true) : ∃ b : Bool, ∀ (base : Nat) (v : Value),
    (∃ h', @funD (frnOf base (tk1 v 1 cs) noF) Try.prog (fun f => seek f []) (fun f => seek f orcPg) pvUs 300 30 105 [.pointer (some ⟨0, 0, some 0⟩)] [] = some (.bool b, h', true)) ∧
    ∃ h', @funD (frnOf base (tk1 v 1 cs) noF) Try.prog (fun f => seek f []) (fun f => seek f orcPg) pvUs 300 30 55 [.agg cs.toArray] [] = some (.bool b, h', true) := by
  have hc : pvS.map (conc (gW (rhoV cs) 34 [])) = cs := by
    rw [← pv_svs]
    exact svs_conc (ks := pigK) (vs := cs) (j := 0) (w := 36) (pre := []) (post := []) (by kernel_rfl) hs (wfs_wr hw) (by
      have := rho_part (A := []) (vs := cs) (B := []) (j := 0) rfl
      rwa [List.nil_append, List.append_nil] at this) (by decide) rfl rfl
  have hE : factsH (gW (rhoV cs) 34 []) [(.s 2, 9223372036854775808, true)] := by
    obtain ⟨s, ys, rfl, _⟩ := shape_s hs
    have h0 : conc (gW (rhoV (.string s :: ys)) 34 []) (.s 2) = .string s := by
      have := congrArg List.head? hc
      simpa [pvS] using this
    refine fact1 ?_ trivial
    rw [h0]
    rw [List.all_cons, Bool.and_eq_true] at hw
    have hsz : s.size ≤ maxLen := of_decide_eq_true hw.1
    rw [maxLen_eq] at hsz
    show (s.size : Int) < _
    omega
  obtain ⟨V, hV, hf⟩ := @pair2_run pvF Try.prog [] symPg (fun f => seek f []) (fun f => seek f orcPg) pvUs 300 30 34 [] _ pvA pvB [.one .b] UNm (rhoV cs) (fun F hB _ => ListR.nil) (fun F hB _ => symPgR F _ hB)
    (fun k => by
      show (bif Nat.beq k 0 then pvS else []).all (inC 34) = true
      cases Nat.beq k 0
      · rfl
      · kernel_rfl) pv_run hE
  obtain ⟨vs, rfl, hfit⟩ := hV
  obtain ⟨b, rfl⟩ : ∃ b, vs = [.bool b] := by
    match vs, hfit with
    | [v], h =>
      have h : (fitP (.one .b) v && true) = true := h
      rw [Bool.and_true] at h
      cases v with
      | bool b => exact ⟨b, rfl⟩
      | _ => cases h
    | [], h => cases h
    | v :: _ :: _, h =>
      have h : (fitP (.one .b) v && false) = true := h
      rw [Bool.and_false] at h
      cases h
  refine ⟨b, fun base v => ?_⟩
  obtain ⟨⟨h1, e1, _⟩, ⟨h2, e2, _⟩⟩ := hf (frnOf base (tk1 v 1 cs) noF) (fun k => by
      match k with
      | 0 => exact hc.symm
      | k + 1 => rfl) (fun F hB _ f g h => by
      have h : (none : Option (List (Nat × Bool) → List SV → HeapS → M SV)) = some g := h
      cases h)
  refine ⟨⟨h1, ?_⟩, ⟨h2, ?_⟩⟩
  · simpa [pvA, conc, concH, oneOr] using e1
  · have e2' : (pvB.args.map (conc (gW (rhoV cs) 34 []))) = [.agg cs.toArray] := by
      show [conc (gW (rhoV cs) 34 []) (.agg pvS)] = _
      simp only [conc, concL_map]
      rw [hc]
    rw [e2'] at e2
    exact e2
end Go.Proofs.Ytigpiogljfedpaa
end
