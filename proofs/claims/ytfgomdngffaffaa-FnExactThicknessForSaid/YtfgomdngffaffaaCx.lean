/-
  Contrasts of layers: program and model answer the same, told by a name alone in runs. No condition.
-/
import Derived.Test.YtfgomdngffaffaaCw
set_option linter.unusedSectionVars false
set_option linter.unusedVariables false
noncomputable section
namespace Go.Proofs.Ytfgomdngffaffaa
namespace Ct
open Go Go.ChangeShapes Go.WideShapes Go.ChangeAt Go.RowKit Ev Sx

theorem usC_ok : usC.all (funcOk Try.prog) = true := by kernel_rfl
theorem usN_ok : usN.all (funcOk Try.prog) = true := by kernel_rfl
theorem formE {vs : List Value} (h : fitA qsE vs = true) : ∃ (a : Nat) (z : Int), vs = [.float .f32 a, .int .i64 z] := by
  match vs, h with
  | [v, u], h =>
    have h : (fitV (.f .f32) v && (fitV (.n .i64) u && true)) = true := h
    rw [Bool.and_eq_true, Bool.and_eq_true] at h
    cases v with
    | float k b =>
      have h0 : sameK .f32 k = true := h.1
      have := Ev.sameK_eq h0
      subst this
      cases u with
      | int k z =>
        have h1 : sameI .i64 k = true := h.2.1
        have := sameI_eq h1
        subst this
        exact ⟨b, z, rfl⟩
      | _ => cases h.2.1
    | _ => cases h.1
  | [], h => cases h
  | [_], h => exact absurd h (by simp [qsE, fitA])
  | _ :: _ :: _ :: _, h => exact absurd h (by simp [qsE, fitA])
theorem formE_bare {vs : List Value} (h : fitA qsE vs = true) : bareP (oneOr vs) = true := by
  obtain ⟨a, z, rfl⟩ := formE h
  rfl
/-- a run at an instance without tokens is a call -/
theorem call_of {con : FuncId → Option ConF} (hcon : ∀ base, @ConOk (frnOf base [] con) Try.prog) {us : List Nat} (hus : us.all (funcOk Try.prog) = true) {l : List (Nat × Sig)} (hl : ∀ {ι : Frn}, ∀ p ∈ l, @OrcOne ι Try.prog p.1 p.2) {f : Nat} {args cargs : List Value} {v : Value} {w : World}
    (e : ∃ h', @funD (frnOf w.heap.size [] con) Try.prog noO (fun f => seek f l) us 300 30 f args [] = some (v, h', true)) (ha : @VRL noFrn (fun _ => none) args cargs) (hb : args.all bareP = true) (hv : bareP v = true) {ι0 : Frn} {μ0 : Nat → Option Nat} :
    Calls Try.prog f cargs.toArray w fun e w' => ∃ u, e = .returned u ∧ @VR ι0 μ0 v u ∧ Below w.heap.size w w' := by
  obtain ⟨h', e⟩ := e
  have hE : @CallOk (frnOf w.heap.size [] con) Try.prog (@funD (frnOf w.heap.size [] con) Try.prog noO (fun f => seek f l) us 300 30) := @EnvOk.call (frnOf w.heap.size [] con) _ (@fun_goes (frnOf w.heap.size [] con) Try.prog noO (fun f => seek f l) us 300 mixed hus noX (@orc_list (frnOf w.heap.size [] con) _ _ hl) (hcon _) 30)
  have hin : @FrnIn (frnOf w.heap.size [] con) w := frn_in fun k v l cs hk => by simp at hk
  refine (hE _ _ _ _ _ _ e rfl (fun _ => none) cargs w w.heap.size (bareP_VRL ha hb) (@HeapR.start (frnOf w.heap.size [] con) w hin) (Nat.le_refl _)).mono fun e w' hx => ?_
  obtain ⟨u, μ', rfl, _, hu, _, hbl⟩ := hx
  exact ⟨u, rfl, bareP_VR hu hv, hbl⟩
theorem cond_at (r : List Value) (hr : isLn 33 r = true) (b : Bool) (hok : okC r = b) : ∀ c ∈ [(Fg.cA, b)], ∃ h', @funD noFrn Try.prog extR orcR Fg.us 300 30 c.1.f (c.1.args.map (conc (gW (rho (fN r)) 33 []))) (concH (gW (rho (fN r)) 33 []) c.1.heap) = some (.bool c.2, h', true) := fun c hcm => by
  obtain rfl := List.mem_singleton.1 hcm
  have eh : concH (gW (rho (fN r)) 33 []) Fg.cA.heap = [some (rowL (fN r) 33)] := by kernel_rfl
  have ea : Fg.cA.args.map (conc (gW (rho (fN r)) 33 [])) = [.pointer (some ⟨0, 0, none⟩)] := by kernel_rfl
  obtain ⟨⟨h', e⟩, _⟩ := okX_spec (fN r)
  have hok : okX (fN r) = b := hok
  rw [hok] at e
  refine ⟨h', ?_⟩
  show @funD noFrn Try.prog extR orcR Fg.us 300 30 25 (Fg.cA.args.map (conc (gW (rho (fN r)) 33 []))) (concH (gW (rho (fN r)) 33 []) Fg.cA.heap) = _
  rw [eh, ea]
  exact e
theorem arg_at (r : List Value) (hr : isLn 33 r = true) : [SV.agg (LSn 33)].map (conc (gW (rho (fN r)) 33 [])) = [.agg r.toArray] := by
  show [conc (gW (rho (fN r)) 33 []) (.agg (LSn 33))] = _
  simp only [conc, concL_map]
  rw [conc33, ← rowL_of hr]
abbrev Ans2 (f : Nat) (r vs : List Value) : Prop := ∀ (w : World) (cargs : List Value), @VRL noFrn (fun _ => none) [.agg r.toArray] cargs → ∀ (ι0 : Frn) (μ0 : Nat → Option Nat), Calls Try.prog f cargs.toArray w fun e w' => ∃ u, e = .returned u ∧ @VR ι0 μ0 (oneOr vs) u ∧ Below w.heap.size w w'
theorem c_val (r : List Value) (hr : isLn 33 r = true) : ∃ vs, fitA qsE vs = true ∧ Ans2 8 r vs ∧ Ans2 10 r vs := by
  have hb : [Value.agg r.toArray].all bareP = true := by
    have : bareP (.agg r.toArray) = true := isLn_bare hr
    rw [List.all_cons, this]; rfl
  cases hok : okC r with
  | true =>
    obtain ⟨V, hV, hf⟩ := @pair3_run noSFrn gC Try.prog symE (symG Try.prog) extR orcR Fg.us 300 30 [(Fg.cA, true)] [] symC noO (fun f => seek f orcC) usC 300 30 33 [] [] jA jB qsE UC (rho (fN r))
      (fun F hB _ => symER F (rho (fN r)) hB) (fun F hB _ => symGU F (rho (fN r)) hB) (fun F hB _ => ListR.nil) (fun F hB hraw => symCR hr hok hB hraw) (fun k => rfl) (fun k => rfl) c_run trivial
    obtain ⟨vs, rfl, hfit⟩ := hV
    have key : ∀ base, (∃ h', @funD (frnOf base [] conC) Try.prog noO (fun f => seek f orcC) usC 300 30 8 [.agg r.toArray] [] = some (oneOr vs, h', true)) ∧
        ∃ h', @funD (frnOf base [] conC) Try.prog noO (fun f => seek f orcC) usC 300 30 10 [.agg r.toArray] [] = some (oneOr vs, h', true) := fun base => by
      obtain ⟨⟨h1, e1, _⟩, ⟨h2, e2, _⟩⟩ := hf noFrn (frnOf base [] conC) (fun k => rfl) (fun k => rfl) (fun F hB _ => noC (fun f => rfl)) (fun F hB hraw => gC_ok hr hok hB hraw) (cond_at r hr true hok)
      have ea : jA.args.map (conc (gW (rho (fN r)) 33 [])) = [.agg r.toArray] := arg_at r hr
      have eb : jB.args.map (conc (gW (rho (fN r)) 33 [])) = [.agg r.toArray] := arg_at r hr
      rw [ea] at e1
      rw [eb] at e2
      exact ⟨⟨h1, e1⟩, ⟨h2, e2⟩⟩
    exact ⟨vs, hfit, fun w cargs ha ι0 μ0 => call_of (fun base => conC_ok) usC_ok orcCOk (key _).1 ha hb (formE_bare hfit), fun w cargs ha ι0 μ0 => call_of (fun base => conC_ok) usC_ok orcCOk (key _).2 ha hb (formE_bare hfit)⟩
  | false =>
    obtain ⟨V, hV, hf⟩ := @pair3_run noSFrn noSFrn Try.prog symE (symG Try.prog) extR orcR Fg.us 300 30 [(Fg.cA, false)] [] symKc noO orcK usN 300 30 33 [] [] jA jB qsE UC (rho (fN r))
      (fun F hB _ => symER F (rho (fN r)) hB) (fun F hB _ => symGU F (rho (fN r)) hB) (fun F hB _ => ListR.nil) (fun F hB _ => symKcR F (rho (fN r)) hB) (fun k => rfl) (fun k => rfl) n_run trivial
    obtain ⟨vs, rfl, hfit⟩ := hV
    have key : ∀ base, (∃ h', @funD (frnOf base [] noFG) Try.prog noO orcK usN 300 30 8 [.agg r.toArray] [] = some (oneOr vs, h', true)) ∧
        ∃ h', @funD (frnOf base [] noFG) Try.prog noO orcK usN 300 30 10 [.agg r.toArray] [] = some (oneOr vs, h', true) := fun base => by
      obtain ⟨⟨h1, e1, _⟩, ⟨h2, e2, _⟩⟩ := hf noFrn (frnOf base [] noFG) (fun k => rfl) (fun k => rfl) (fun F hB _ => noC (fun f => rfl)) (fun F hB _ => noC (fun f => rfl)) (cond_at r hr false hok)
      have ea : jA.args.map (conc (gW (rho (fN r)) 33 [])) = [.agg r.toArray] := arg_at r hr
      have eb : jB.args.map (conc (gW (rho (fN r)) 33 [])) = [.agg r.toArray] := arg_at r hr
      rw [ea] at e1
      rw [eb] at e2
      exact ⟨⟨h1, e1⟩, ⟨h2, e2⟩⟩
    exact ⟨vs, hfit, fun w cargs ha ι0 μ0 => call_of (fun base => noT_ok) usN_ok orcKcOk (key _).1 ha hb (formE_bare hfit), fun w cargs ha ι0 μ0 => call_of (fun base => noT_ok) usN_ok orcKcOk (key _).2 ha hb (formE_bare hfit)⟩
def cnC (r : List Value) : List Value := @dite _ (isLn 33 r = true) (instDecidableEqBool _ _) (fun h => Classical.choose (c_val r h)) (fun _ => [.float .f32 0, .int .i64 0])
theorem cnC_spec {r : List Value} (hr : isLn 33 r = true) : fitA qsE (cnC r) = true ∧ Ans2 8 r (cnC r) ∧ Ans2 10 r (cnC r) := by
  unfold cnC
  rw [dif_pos hr]
  exact Classical.choose_spec (c_val r hr)
theorem cnC_fit (r : List Value) : fitA qsE (cnC r) = true := by
  by_cases hr : isLn 33 r = true
  · exact (cnC_spec hr).1
  · unfold cnC
    rw [dif_neg hr]; rfl
/-! ### named -/
def conL : List Value → List Value
  | [.agg cs] => cnC cs.toList
  | _ => cnC []
theorem psF_form {args : List Value} (h : fitA psF args = true) : ∃ cs : Array Value, args = [.agg cs] ∧ isLn 33 cs.toList = true := by
  match args, h with
  | [v], h =>
    have h : (fitP (.agg (List.replicate 33 (Ty.f .f32))) v && true) = true := h
    rw [Bool.and_true] at h
    cases v with
    | agg cs => exact ⟨cs, rfl, h⟩
    | _ => cases h
  | [], h => cases h
  | _ :: _ :: _, h => exact absurd h (by simp [psF, fitA])
theorem con_sig {fn : Nat} (hb : hasBody Try.prog fn = true) (h : ∀ r, isLn 33 r = true → Ans2 fn r (cnC r)) {ι : Frn} : @OrcOne ι Try.prog fn (sigT psF conL) := by
  refine ⟨hb, fun args v k he hk μ cargs w ha hw => ?_⟩
  unfold sigT at he
  cases hfit : fitA psF args with
  | false => rw [hfit] at he; cases he
  | true =>
    rw [hfit, cond_true, Option.some.injEq, Prod.mk.injEq] at he
    obtain ⟨cs, rfl, hG⟩ := psF_form hfit
    obtain ⟨rfl, _⟩ := he
    have hbare : [Value.agg cs].all bareP = true := by
      have hb : bareP (.agg cs) = true := isLn_bare hG
      rw [List.all_cons, hb]; rfl
    exact h cs.toList hG w cargs (bareP_VRL ha hbare) ι μ
theorem cI_one {ι : Frn} : @OrcOne ι Try.prog 10 (sigT psF conL) := con_sig (by kernel_rfl) fun r hr => (cnC_spec hr).2.2
end Ct
end Go.Proofs.Ytfgomdngffaffaa
end
