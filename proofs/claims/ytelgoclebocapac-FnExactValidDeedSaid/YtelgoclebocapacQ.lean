/-
  Laws run on given arguments, some of them variables, under facts. No condition.
-/
import Derived.Test.YtelgoclebocapacW
import Derived.Test.YtelgoclebocapacSy
set_option linter.unusedSectionVars false
noncomputable section
namespace Go.Proofs.Ytelgoclebocapac
open Go Go.ChangeShapes Go.WideShapes Go.ChangeAt Go.RowKit Ev Sx

theorem solo_walk {us : List FuncId} {cf d m : Nat} {f : FuncId} {args : List SV} {fs : List Fact} (h : @soloB noSFrn Try.prog symE symX us cf d m [] fs ⟨f, args, []⟩ (.lit (.bool true)) = true) (hus : us.all (funcOk Try.prog) = true)
    (ρ : Nat → Int) (hE : factsH (gW ρ m []) fs) {vs : List Value} (hv : @VRL noFrn (fun _ => none) (args.map (conc (gW ρ m []))) vs) (w : World) : Calls Try.prog f vs.toArray w fun e w' => e = .returned (.bool true) ∧ Below w.heap.size w w' := by
  obtain ⟨h1, e, _⟩ := @solo_run noSFrn Try.prog symE symX (fun f => seek f extX) (fun f => seek f orcX) us cf d m [] fs ⟨f, args, []⟩ (.lit (.bool true)) (fun _ _ => .i 0) ρ (fun F hB _ => symER F _ hB) (fun F hB _ => symXR F _ hB)
    (fun _ => rfl) h hE noFrn (fun _ => rfl) (fun F hB _ f g h => by
      have h : (none : Option (List (Nat × Bool) → List SV → HeapS → M SV)) = some g := h
      cases h)
  have e : @funD noFrn Try.prog (fun f => seek f extX) (fun f => seek f orcX) us cf d f (args.map (conc (gW ρ m []))) [] = some (.bool true, h1, true) := by
    refine Eq.trans e ?_
    simp only [conc]
  have hcl : @CallOk noFrn Try.prog (@funD noFrn Try.prog (fun f => seek f extX) (fun f => seek f orcX) us cf d) := @EnvOk.call noFrn _ (@fun_goes noFrn Try.prog (fun f => seek f extX) (fun f => seek f orcX) us cf mixed hus (ext_list extXOk) (orc_list orcXOk) (fun f g h => by
      have h : (none : Option (List Value → Heap → Option (Value × List (List Value) × Bool))) = some g := h
      cases h) d)
  refine (hcl _ _ _ _ _ _ e rfl (fun _ => none) vs w w.heap.size hv (@HeapR.start noFrn w (noIn w)) (Nat.le_refl _)).mono fun e w' hx => ?_
  obtain ⟨y, μ', rfl, _, hy, _, hbl⟩ := hx
  rw [@VR.bool_inv noFrn _ _ _ hy]
  exact ⟨rfl, hbl⟩
theorem cons_int {k : IntKind} {l : List Ty} {cs : List Value} (h : fitL (.n k :: l) cs = true) : ∃ z r, cs = .int k z :: r ∧ fitL l r = true := by
  match cs with
  | [] => cases h
  | v :: r =>
    have h : (fitV (.n k) v && fitL l r) = true := h
    rw [Bool.and_eq_true] at h
    cases v with
    | int k' z =>
      have h1 : sameI k k' = true := h.1
      rw [sameI_eq h1]
      exact ⟨z, r, rfl, h.2⟩
    | _ => cases h.1
theorem vrl_agg {cs : List Value} (h : (cs.all fun v => match v with | .int _ _ => true | _ => false) = true) : @VRL noFrn (fun _ => none) [.agg cs.toArray] [.agg cs.toArray] := by
  have key : ∀ {cs : List Value}, (cs.all fun v => match v with | .int _ _ => true | _ => false) = true → @VRL noFrn (fun _ => none) cs cs := by
    intro cs
    induction cs with
    | nil => exact fun _ => @VRL.nil noFrn _
    | cons v r ih =>
      intro h
      rw [List.all_cons, Bool.and_eq_true] at h
      refine @VRL.cons noFrn _ _ _ _ _ ?_ (ih h.2)
      cases v with
      | int k z => exact @VR.int noFrn _ _ _
      | _ => cases h.1
  exact @VRL.cons noFrn _ _ _ _ _ (@VR.of_agg noFrn _ _ _ (key h)) (@VRL.nil noFrn _)
end Go.Proofs.Ytelgoclebocapac
end
