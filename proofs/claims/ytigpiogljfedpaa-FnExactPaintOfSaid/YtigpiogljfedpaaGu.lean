/-
  Functions of numbers that program and model answer alike, told by a name alone. No condition.
-/
import Derived.Test.YtigpiogljfedpaaGc
set_option linter.unusedSectionVars false
noncomputable section
namespace Go.Proofs.Ytigpiogljfedpaa
open Go Go.ChangeShapes Go.WideShapes Go.ChangeAt Go.RowKit Ev Sx

def fltK : List CK → Bool
  | [] => true
  | .f _ :: r => fltK r
  | _ :: _ => false
def fltA : List AK → Bool
  | [] => true
  | .row ks :: r => fltK ks && fltA r
  | .one k :: r => fltK [k] && fltA r
def parA : AK → Par
  | .row ks => .agg (ks.map tyK)
  | .one k => .one (tyK k)
theorem flt_num : ∀ {ks : List CK}, fltK ks = true → numK ks = true
  | [], _ => rfl
  | .f _ :: r, h => flt_num (ks := r) h
  | .s :: _, h => by cases h
  | .i _ :: _, h => by cases h
  | .b :: _, h => by cases h
theorem flt_wr : ∀ {ks : List CK} {vs : List Value}, fltK ks = true → shapeB ks vs = true → vs.all wrC = true
  | [], [], _, _ => rfl
  | [], _ :: _, _, h => by cases h
  | _ :: _, [], _, h => by cases h
  | .f k :: r, v :: s, hk, h => by
    rw [shapeB, Bool.and_eq_true] at h
    rw [List.all_cons, flt_wr (ks := r) hk h.2, Bool.and_true]
    cases v with
    | float k' x => rfl
    | _ => cases h.1
  | .s :: _, _ :: _, hk, _ => by cases hk
  | .i _ :: _, _ :: _, hk, _ => by cases hk
  | .b :: _, _ :: _, hk, _ => by cases hk
theorem fit_of : ∀ {ak : List AK} {xs : List Value}, fltA ak = true → fitA (ak.map parA) xs = true → fitK ak xs = true
  | [], [], _, _ => rfl
  | [], _ :: _, _, h => by cases h
  | _ :: _, [], _, h => by cases h
  | a :: r, v :: s, hf, h => by
    have h : (fitP (parA a) v && fitA (r.map parA) s) = true := h
    rw [Bool.and_eq_true] at h
    rw [fitK, Bool.and_eq_true]
    cases a with
    | row ks =>
      have hf : (fltK ks && fltA r) = true := hf
      rw [Bool.and_eq_true] at hf
      refine ⟨?_, fit_of hf.2 h.2⟩
      cases v with
      | agg cs =>
        have h1 : fitL (ks.map tyK) cs.toList = true := h.1
        have hs := fit_shape (flt_num hf.1) h1
        show (noB ks && (shapeB ks cs.toList && cs.toList.all wrC)) = true
        rw [num_noB (flt_num hf.1), hs, flt_wr hf.1 hs]; rfl
      | _ => cases h.1
    | one k =>
      have hf : (fltK [k] && fltA r) = true := hf
      rw [Bool.and_eq_true] at hf
      refine ⟨?_, fit_of hf.2 h.2⟩
      have h1 : fitL ([k].map tyK) [v] = true := by
        show (fitV (tyK k) v && true) = true
        rw [fitP_one h.1]; rfl
      have hs := fit_shape (flt_num hf.1) h1
      have hw := flt_wr hf.1 hs
      have hn := num_noB (flt_num hf.1)
      cases v with
      | agg cs =>
        exfalso
        have hs : (shapeB [k] [.agg cs]) = true := hs
        rw [shapeB, Bool.and_eq_true] at hs
        have hs := hs.1
        cases k <;> cases hs
      | _ => show (noB [k] && (shapeB [k] [_] && [_].all wrC)) = true; rw [hn, hs, hw]; rfl
theorem fitA_bareA : ∀ {qs : List Par} {vs : List Value}, fitA qs vs = true → vs.all bareA = true
  | [], [], _ => rfl
  | [], _ :: _, h => by cases h
  | _ :: _, [], h => by cases h
  | q :: r, v :: s, h => by
    have h : (fitP q v && fitA r s) = true := h
    rw [Bool.and_eq_true] at h
    rw [List.all_cons, fitA_bareA h.2, Bool.and_true]
    have one : ∀ {y : Ty} {v : Value}, fitV y v = true → bareC v = true ∧ bareA v = true := fun {y v} h => by
      cases y <;> cases v <;> first | exact ⟨rfl, rfl⟩ | cases h
    have row : ∀ {ys : List Ty} {cs : List Value}, fitL ys cs = true → cs.all bareC = true := by
      intro ys
      induction ys with
      | nil =>
        intro cs h
        cases cs with
        | nil => rfl
        | cons _ _ => cases h
      | cons y ys ih =>
        intro cs h
        cases cs with
        | nil => cases h
        | cons c cs =>
          have h : (fitV y c && fitL ys cs) = true := h
          rw [Bool.and_eq_true] at h
          rw [List.all_cons, (one h.1).1, ih h.2]; rfl
    cases q with
    | agg l =>
      cases v with
      | agg cs => exact row h.1
      | _ => cases h.1
    | one y => exact (one (fitP_one h.1)).2
theorem bareA_P {v : Value} (h : bareA v = true) : bareP v = true := by
  cases v <;> first | exact h | cases h
theorem one_bare {qs : List Par} {vs : List Value} (h : fitA qs vs = true) : bareP (oneOr vs) = true := by
  have hb := fitA_bareA h
  match vs, hb with
  | [v], hb =>
    rw [List.all_cons, Bool.and_eq_true] at hb
    exact bareA_P hb.1
  | [], _ => rfl
  | _ :: _ :: _, hb => exact hb
/-- both answer the same -/
def Both (qs : List Par) (f1 f2 : Nat) (xs vs : List Value) : Prop := fitA qs vs = true ∧ PlainAns f1 xs (oneOr vs) ∧ PlainAns f2 xs (oneOr vs)
theorem pair_plain {ak : List AK} {qs : List Par} {f1 f2 cf d : Nat} {us : List FuncId} (hfl : fltA ak = true) (hws : wsK (argsK ak) 0 = [])
    (run : @pair2B noSFrn Try.prog symE symV us cf d (argsK ak).length [] [] ⟨f1, argsS ak 0 ((argsK ak).length + 2), []⟩ ⟨f2, argsS ak 0 ((argsK ak).length + 2), []⟩ qs = true) (hus : us.all (funcOk Try.prog) = true)
    {xs : List Value} (hf : fitA (ak.map parA) xs = true) : ∃ vs, Both qs f1 f2 xs vs := by
  have hk := fit_of hfl hf
  have hc : (argsS ak 0 ((argsK ak).length + 2)).map (conc (gW (rhoV (flatV xs)) (argsK ak).length [])) = xs := args_conc (pre := []) (post := []) hk (by
    have := rho_part (A := []) (vs := flatV xs) (B := []) (j := 0) rfl
    rwa [List.nil_append, List.append_nil] at this) (by omega) (by rw [hws]; rfl) rfl
  obtain ⟨V, ⟨vs, rfl, hfit⟩, hg⟩ := @pair2_run noSFrn Try.prog symE symV (fun f => seek f extX) (fun f => seek f orcV) us cf d (argsK ak).length [] [] _ _ qs (fun _ _ => .i 0) (rhoV (flatV xs)) (fun F hB _ => symER F _ hB) (fun F hB _ => symVR F _ hB)
    (fun _ => rfl) run trivial
  obtain ⟨⟨h1, e1, _⟩, ⟨h2, e2, _⟩⟩ := hg noFrn (fun _ => rfl) (fun F hB _ f g h => by
      have h : (none : Option (List (Nat × Bool) → List SV → HeapS → M SV)) = some g := h
      cases h)
  have hcl : @CallOk noFrn Try.prog (@funD noFrn Try.prog (fun f => seek f extX) (fun f => seek f orcV) us cf d) := @EnvOk.call noFrn _ (@fun_goes noFrn Try.prog (fun f => seek f extX) (fun f => seek f orcV) us cf mixed hus (ext_list extXOk) (orcV_any noFrn) (fun f g h => by
      have h : (none : Option ConT) = some g := h
      cases h) d)
  have one : ∀ (f : Nat) (h' : Heap), @funD noFrn Try.prog (fun f => seek f extX) (fun f => seek f orcV) us cf d f ((argsS ak 0 ((argsK ak).length + 2)).map (conc (gW (rhoV (flatV xs)) (argsK ak).length []))) [] = some (oneOr vs, h', true) → PlainAns f xs (oneOr vs) := fun f h' e w us' hu => by
    rw [hc] at e
    refine (hcl _ _ _ _ _ _ e rfl (fun _ => none) us' w w.heap.size hu (@HeapR.start noFrn w (noIn w)) (Nat.le_refl _)).mono fun e w' hx => ?_
    obtain ⟨y, μ', rfl, _, hy, _, hbl⟩ := hx
    exact ⟨y, rfl, bareP_VR hy (one_bare hfit), hbl⟩
  exact ⟨vs, hfit, one _ _ e1, one _ _ e2⟩
def unkG (qs : List Par) (f1 f2 : Nat) (xs : List Value) : List Value := @dite _ (∃ vs, Both qs f1 f2 xs vs) (Classical.propDecidable _) (fun h => Classical.choose h) (fun _ => [])
theorem unk_spec {qs : List Par} {f1 f2 : Nat} {xs : List Value} (h : ∃ vs, Both qs f1 f2 xs vs) : Both qs f1 f2 xs (unkG qs f1 f2 xs) := by
  have e : unkG qs f1 f2 xs = Classical.choose h := by
    unfold unkG
    rw [dif_pos h]
  rw [e]
  exact Classical.choose_spec h
theorem unk_one {ps qs : List Par} {f1 f2 : Nat} (hb1 : hasBody Try.prog f1 = true) (hb2 : hasBody Try.prog f2 = true) (h : ∀ xs, fitA ps xs = true → ∃ vs, Both qs f1 f2 xs vs) {ι : Frn} :
    @OrcOne ι Try.prog f1 (sigT ps (unkG qs f1 f2)) ∧ @OrcOne ι Try.prog f2 (sigT ps (unkG qs f1 f2)) := by
  have one : ∀ (f : Nat) (args : List Value) (v : Value), (fitA ps args = true → PlainAns f args (oneOr (unkG qs f1 f2 args))) → sigT ps (unkG qs f1 f2) args = some (v, true) → ∀ μ cargs w, @VRL ι μ args cargs → @FrnIn ι w →
      Calls Try.prog f cargs.toArray w fun e w' => ∃ v', e = .returned v' ∧ @VR ι μ v v' ∧ Below w.heap.size w w' := fun f args v hp he μ cargs w ha _ => by
    unfold sigT at he
    cases hf : fitA ps args with
    | false => rw [hf] at he; cases he
    | true =>
      rw [hf, cond_true, Option.some.injEq, Prod.mk.injEq] at he
      obtain ⟨rfl, _⟩ := he
      refine (hp hf w cargs (bareP_VRL ha (fitA_bare hf))).mono fun e w' hx => ?_
      obtain ⟨y, rfl, hy, hbl⟩ := hx
      exact ⟨y, rfl, bareP_VR hy (one_bare (unk_spec (h args hf)).1), hbl⟩
  exact ⟨⟨hb1, fun args v k he hk μ cargs w ha hw => by subst hk; exact one f1 args v (fun hf => (unk_spec (h args hf)).2.1) he μ cargs w ha hw⟩,
    ⟨hb2, fun args v k he hk μ cargs w ha hw => by subst hk; exact one f2 args v (fun hf => (unk_spec (h args hf)).2.2) he μ cargs w ha hw⟩⟩
end Go.Proofs.Ytigpiogljfedpaa
end
