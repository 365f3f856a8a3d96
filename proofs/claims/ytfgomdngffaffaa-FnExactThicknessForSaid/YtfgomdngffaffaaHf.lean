/-
  The thickness that hides enough: program and model answer the same, told by a name alone in runs. No condition.
-/
import Derived.Test.YtfgomdngffaffaaHe
set_option linter.unusedSectionVars false
set_option linter.unusedVariables false
noncomputable section
namespace Go.Proofs.Ytfgomdngffaffaa
namespace Hb
open Go Go.ChangeShapes Go.WideShapes Go.ChangeAt Go.RowKit Ev Sx

def hR (r : List Value) : Heap := [some (r.take 16), some ((r.drop 16).take 16), none, none, none, none, none, none, none, none, some r, none]
theorem hR_row (k s : Nat → Nat) (t : Nat) : hR (row33 k s t) = HX k s t := by kernel_rfl
theorem hR_low (f : Nat → Nat) : lowH (hR (rowL f 33)).length (hR (rowL f 33)) = true := by kernel_rfl
theorem hS_at (f : Nat → Nat) : concH (gW (Ct.rho f) 33 []) jT.heap = hR (rowL f 33) := by kernel_rfl
theorem jT_at (f : Nat → Nat) : jT.args.map (conc (gW (Ct.rho f) 33 [])) = [.pointer (some ⟨10, 0, none⟩)] := by kernel_rfl
theorem t_val {r : List Value} (hr : Ct.isLn 33 r = true) (hok : Ct.okC r = true) : ∃ vs, fitA qsE vs = true ∧
    (∀ base, ∃ h', @funD (frnOf base [] Ct.conC) Try.prog Ct.noO (fun f => seek f Ct.orcC) Ct.usC 300 30 26 [.pointer (some ⟨10, 0, none⟩)] (hR r) = some (oneOr vs, h', true) ∧ h'.take (hR r).length = hR r) ∧
    Ct.Ans2 10 r vs := by
  have hb : [Value.agg r.toArray].all bareP = true := by
    have : bareP (.agg r.toArray) = true := Ct.isLn_bare hr
    rw [List.all_cons, this]; rfl
  obtain ⟨V, hV, hf⟩ := @pair3_run noSFrn Ct.gC Try.prog symE (symG Try.prog) Ct.extR Ct.orcR Fg.us 300 30 [(Fg.cA, true)] [] Ct.symC Ct.noO (fun f => seek f Ct.orcC) Ct.usC 300 30 33 [] [] jT Ct.jB qsE Ct.UC (Ct.rho (Ct.fN r))
    (fun F hB _ => symER F (Ct.rho (Ct.fN r)) hB) (fun F hB _ => symGU F (Ct.rho (Ct.fN r)) hB) (fun F hB _ => ListR.nil) (fun F hB hraw => Ct.symCR hr hok hB hraw) (fun k => rfl) (fun k => rfl) t_run trivial
  obtain ⟨vs, rfl, hfit⟩ := hV
  have key := fun base => hf noFrn (frnOf base [] Ct.conC) (fun k => rfl) (fun k => rfl) (fun F hB _ => Ct.noC (fun f => rfl)) (fun F hB hraw => Ct.gC_ok hr hok hB hraw) (Ct.cond_at r hr true hok)
  refine ⟨vs, hfit, fun base => ?_, fun w cargs ha ι0 μ0 => Ct.call_of (con := Ct.conC) (fun base => Ct.conC_ok) Ct.usC_ok Ct.orcCOk ?_ ha hb (Ct.formE_bare hfit)⟩
  · obtain ⟨⟨h1, e1, e2⟩, _⟩ := key base
    have hr' := Ct.rowL_of hr
    rw [jT_at, hS_at, ← hr'] at e1
    rw [hS_at, ← hr'] at e2
    exact ⟨h1, e1, e2⟩
  · obtain ⟨_, ⟨h2, e2, _⟩⟩ := key w.heap.size
    have eb : Ct.jB.args.map (conc (gW (Ct.rho (Ct.fN r)) 33 [])) = [.agg r.toArray] := Ct.arg_at r hr
    rw [eb] at e2
    exact ⟨h2, e2⟩
theorem detE {ι ι' : Frn} {μ μ' : Nat → Option Nat} {vs vs' : List Value} {v : Value} (hf : fitA qsE vs = true) (hf' : fitA qsE vs' = true) (h : @VR ι μ (oneOr vs) v) (h' : @VR ι' μ' (oneOr vs') v) : vs = vs' := by
  obtain ⟨a, z, rfl⟩ := Ct.formE hf
  obtain ⟨a', z', rfl⟩ := Ct.formE hf'
  have h : @VR ι μ (.tuple #[.float .f32 a, .int .i64 z]) v := h
  have h' : @VR ι' μ' (.tuple #[.float .f32 a', .int .i64 z']) v := h'
  cases h with
  | tuple _ ys g1 g2 =>
    cases h' with
    | tuple _ _ g1' g2' =>
      exact Ct.det_L (vs := ys.toList) ⟨g1, g2⟩ ⟨g1', g2'⟩ rfl rfl
/-- what is told of the functions that are called -/
def cnF (r : List Value) : Nat := match Ct.cnC r with
  | [.float _ a, _] => a
  | _ => 0
def cnI (r : List Value) : Int := match Ct.cnC r with
  | [_, .int _ z] => z
  | _ => 0
theorem cn_eq (r : List Value) : Ct.cnC r = [.float .f32 (cnF r), .int .i64 (cnI r)] := by
  obtain ⟨a, z, h⟩ := Ct.formE (Ct.cnC_fit r)
  unfold cnF cnI
  rw [h]
def TT : Told := ⟨fun cs => allO .amount cs, cnF, cnI, fun h r => h = hR r ∧ Ct.isLn 33 r = true ∧ Ct.okC r = true⟩
theorem of_isB {p : Prop} (h : isB p = true) : p := @of_decide_eq_true _ (Classical.propDecidable _) h
theorem conT_ok {base : Nat} : @ConOk (iT TT base) Try.prog := fun f g hf => by
  have hf : conT TT f = some g := hf
  unfold conT at hf
  cases h1 : Nat.beq f 26 with
  | true =>
    rw [h1, cond_true, Option.some.injEq] at hf
    have hfe := Nat.eq_of_beq_eq_true h1
    subst hf hfe
    refine ⟨by kernel_rfl, fun args h v rows he μ cargs w B ha hh hB => ?_⟩
    unfold conM at he
    split at he
    · rename_i b
      cases hb : Nat.beq b 10 with
      | true =>
        rw [hb, cond_true] at he
        have := Nat.eq_of_beq_eq_true hb
        subst this
        split at he
        · rename_i r hr
          simp only [Option.some.injEq, Prod.mk.injEq] at he
          obtain ⟨rfl, rfl, hk⟩ := he
          obtain ⟨hh0, hrl, hok⟩ := of_isB hk
          obtain ⟨b', cs', hbm, hlt, hrow, hv⟩ := Ct.val_at hh hr hrl
          obtain ⟨vs, hfit, key, a1⟩ := t_val hrl hok
          have c1 := a1 w [.agg cs'] (Ct.vl1 (hv _ _)) (iT TT base) μ
          have c2 := (Ct.cnC_spec hrl).2.2 w [.agg cs'] (Ct.vl1 (hv _ _)) (iT TT base) μ
          obtain ⟨u, r1, r2⟩ := Ct.agree (R := fun v => @VR (iT TT base) μ (oneOr vs) v) (R' := fun v => @VR (iT TT base) μ (oneOr (Ct.cnC r)) v) (c1.mono fun e w' hx => by
              obtain ⟨u, rfl, hu, _⟩ := hx
              exact ⟨u, rfl, hu⟩) (c2.mono fun e w' hx => by
              obtain ⟨u, rfl, hu, _⟩ := hx
              exact ⟨u, rfl, hu⟩) (by kernel_rfl)
          have hvs : vs = Ct.cnC r := detE hfit (Ct.cnC_fit r) r1 r2
          obtain ⟨h', e1, e2⟩ := key base
          have hl : lowH h.length h = true := by
            rw [hh0, Ct.rowL_of hrl]; exact hR_low _
          rw [hvs, ← hh0] at e1
          rw [← hh0] at e2
          have hE : @CallOk (frnOf base [] Ct.conC) Try.prog (@funD (frnOf base [] Ct.conC) Try.prog Ct.noO (fun f => seek f Ct.orcC) Ct.usC 300 30) := @EnvOk.call (frnOf base [] Ct.conC) _ (@fun_goes (frnOf base [] Ct.conC) Try.prog Ct.noO (fun f => seek f Ct.orcC) Ct.usC 300 mixed Ct.usC_ok Ct.noX (@orc_list (frnOf base [] Ct.conC) _ _ Ct.orcCOk) Ct.conC_ok 30)
          refine (@keep_call (frnOf base [] Ct.conC) Try.prog _ hE _ _ h h' _ e1 e2 hl μ cargs w B (VRL_con ha) (HeapR_con hh) hB).mono fun e w' hx => ?_
          obtain ⟨y, μ', μ2, rfl, hy, hs, hh2, hbl⟩ := hx
          refine ⟨y, μ2, rfl, hs, ?_, ?_, hbl⟩
          · have := bareP_VR hy (Ct.formE_bare (Ct.cnC_fit r)) (ι := frnOf base [] Ct.conC) (ι' := iT TT base) (μ' := μ2)
            rw [cn_eq] at this
            exact this
          · rw [List.map_nil, List.append_nil]
            exact HeapR_con hh2
        · cases he
      | false => rw [hb] at he; cases he
    · cases he
  | false => rw [h1] at hf; cases hf
/-! ### contracts of values -/
theorem am_eq {args : List Value} {v : Value} (h : amO TT args = some (v, true)) : curveO .amount args = some (v, true) := by
  unfold amO at h
  split at h
  · rename_i cs
    simp only [Option.some.injEq, Prod.mk.injEq] at h
    obtain ⟨rfl, h⟩ := h
    unfold curveO
    have : fitA psC [.agg cs] = true := by
      show (fitL (List.replicate 16 (Ty.f .f32)) cs.toList && true) = true
      rw [h]; rfl
    rw [this]; rfl
  · cases h
theorem ct_eq {args : List Value} {v : Value} (h : ctO TT args = some (v, true)) : sigT Ct.psF Ct.conL args = some (v, true) := by
  unfold ctO at h
  split at h
  · rename_i cs
    simp only [Option.some.injEq, Prod.mk.injEq] at h
    obtain ⟨rfl, h⟩ := h
    unfold sigT
    have : fitA Ct.psF [.agg cs] = true := by
      show (fitL (List.replicate 33 (Ty.f .f32)) cs.toList && true) = true
      rw [h]; rfl
    rw [this, cond_true]
    show some (oneOr (Ct.cnC cs.toList), true) = _
    rw [cn_eq]; rfl
  · cases h
theorem one_imp {ι : Frn} {f : Nat} {g g' : Sig} (h : @OrcOne ι Try.prog f g) (hi : ∀ args v, g' args = some (v, true) → g args = some (v, true)) : @OrcOne ι Try.prog f g' :=
  ⟨h.1, fun args v k he hk μ cargs w ha hw => by
    subst hk
    exact h.2 args v true (hi args v he) rfl μ cargs w ha hw⟩
theorem wi_bare : BareSig wiO := fun args v he => by
  unfold wiO at he
  split at he
  · simp only [Option.some.injEq, Prod.mk.injEq] at he
    obtain ⟨rfl, _⟩ := he
    exact ⟨rfl, rfl⟩
  · cases he
theorem wi_one {ι : Frn} : @OrcOne ι Try.prog 33 wiO := by
  refine orc_any (?_ : @OrcOne noFrn Try.prog 33 wiO) wi_bare
  refine orc_one (us := [33]) (cf := 40) (d := 5) mixed (by kernel_rfl) (l0 := []) (lx := []) all_nil all_nil (by kernel_rfl) fun args v k he hk hx => ?_
  unfold wiO at he
  split at he
  · rename_i a b c
    simp only [Option.some.injEq, Prod.mk.injEq] at he
    obtain ⟨rfl, rfl⟩ := he
    refine ⟨rfl, rfl, ?_⟩
    obtain ⟨r, hr, e⟩ := Option.map_eq_some_iff.1 (wi_eval a b c)
    obtain ⟨u, h', g⟩ := r
    simp only [Prod.mk.injEq] at e
    obtain ⟨rfl, rfl⟩ := e
    rw [FW2_true] at hr
    exact ⟨h', hr⟩
  · cases he
theorem orcTOk {ι : Frn} : ∀ p ∈ orcT TT, @OrcOne ι Try.prog p.1 p.2 :=
  all_cons (one_imp (orc_any orcAmountM curve_bare) fun _ _ => am_eq) <| all_cons (one_imp (orc_any orcAmountI curve_bare) fun _ _ => am_eq) <| all_cons wi_one <| all_cons (one_imp Ct.cI_one fun _ _ => ct_eq) all_nil
theorem ET_ok (base : Nat) : @EnvOk (iT TT base) (ET TT base) := @fun_goes (iT TT base) Try.prog (fun f => seek f []) (fun f => seek f (orcT TT)) [] 40 mixed rfl Ct.noX (@orc_list (iT TT base) _ _ orcTOk) conT_ok 5
/-! ### every layer of these curves is valid -/
theorem row33_ln (k s : Nat → Nat) (t : Nat) : Ct.isLn 33 (row33 k s t) = true := by kernel_rfl
theorem k_ok {k s : Nat → Nat} (hk : TT.am (row16 k) = true) (hs : TT.am (row16 s) = true) {n : Nat} (hn : n ≤ 256) : TT.kX (HX k s (tN n)) (row33 k s (tN n)) := by
  refine ⟨(hR_row k s (tN n)).symm, row33_ln k s (tN n), ?_⟩
  have ht : okT (tN n) = true := List.all_eq_true.1 tN_all n (List.mem_range.2 (by omega))
  obtain ⟨⟨h', e⟩, _⟩ := Ct.okX_spec (Ct.fN (row33 k s (tN n)))
  rw [← Ct.rowL_of (row33_ln k s (tN n))] at e
  have e2 := ok_eval k s (tN n)
  rw [e] at e2
  have hk : allO .amount (row16 k) = true := hk
  have hs : allO .amount (row16 s) = true := hs
  rw [ht, hk, hs] at e2
  simp only [Option.map_some, Option.some.injEq, Value.bool.injEq] at e2
  exact e2
/-! ### named -/
def psT : List Par := [.agg (List.replicate 16 (Ty.f .f32)), .agg (List.replicate 16 (Ty.f .f32)), .one (.f .f32)]
def thL : List Value → List Value
  | [.agg cs, .agg ds, .float _ q] => [.float .f32 (ansT TT (Ct.fN cs.toList) (Ct.fN ds.toList) q).1, .int .i64 (ansT TT (Ct.fN cs.toList) (Ct.fN ds.toList) q).2]
  | _ => [.float .f32 0, .int .i64 0]
theorem thL_fit (args : List Value) (h : fitA psT args = true) : fitA qsE (thL args) = true := by
  unfold thL
  split <;> rfl
theorem psT_form {args : List Value} (h : fitA psT args = true) : ∃ (k s : Nat → Nat) (q : Nat), args = [.agg (row16 k).toArray, .agg (row16 s).toArray, .float .f32 q] ∧ thL args = [.float .f32 (ansT TT k s q).1, .int .i64 (ansT TT k s q).2] := by
  match args, h with
  | [v, u, x], h =>
    have h : (fitP (.agg (List.replicate 16 (Ty.f .f32))) v && (fitP (.agg (List.replicate 16 (Ty.f .f32))) u && (fitV (.f .f32) x && true))) = true := h
    rw [Bool.and_eq_true, Bool.and_eq_true, Bool.and_true] at h
    obtain ⟨h1, h2, h3⟩ := h
    cases v with
    | agg cs =>
      cases u with
      | agg ds =>
        cases x with
        | float k b =>
          have h0 : sameK .f32 k = true := h3
          have := Ev.sameK_eq h0
          subst this
          have h1 : Ct.isLn 16 cs.toList = true := h1
          have h2 : Ct.isLn 16 ds.toList = true := h2
          refine ⟨Ct.fN cs.toList, Ct.fN ds.toList, b, ?_, rfl⟩
          rw [show row16 (Ct.fN cs.toList) = rowL (Ct.fN cs.toList) 16 from rfl, show row16 (Ct.fN ds.toList) = rowL (Ct.fN ds.toList) 16 from rfl, ← Ct.arr_of h1, ← Ct.arr_of h2]
        | _ => cases h3
      | _ => cases h2
    | _ => cases h1
  | [], h => cases h
  | [v], h => exact absurd h (by simp [psT, fitA])
  | [v, u], h => exact absurd h (by simp [psT, fitA])
  | _ :: _ :: _ :: _ :: _, h => exact absurd h (by simp [psT, fitA])
theorem row16_bare (k : Nat → Nat) : bareP (.agg (row16 k).toArray) = true := by kernel_rfl
theorem th_one {fn : Nat} {f : Func} {c : Code} (hb : hasBody Try.prog fn = true) (h1 : Try.prog.funcs[fn]? = some f) (h2 : f.body = some c)
    (hl : ∀ base k s q, ∃ s' h', @Leads (iT TT base) (ET TT base) 0 c (startS f [.agg (row16 k).toArray, .agg (row16 s).toArray, .float .f32 q] []) .ret s' ∧ @finK (iT TT base) Try.prog f .ret s' = some (ansV (ansT TT k s q).1 (ansT TT k s q).2, h', true)) {ι : Frn} : @OrcOne ι Try.prog fn (sigT psT thL) := by
  refine ⟨hb, fun args v k he hk μ cargs w ha hw => ?_⟩
  unfold sigT at he
  cases hfit : fitA psT args with
  | false => rw [hfit] at he; cases he
  | true =>
    rw [hfit, cond_true, Option.some.injEq, Prod.mk.injEq] at he
    obtain ⟨k, s, q, rfl, ht⟩ := psT_form hfit
    obtain ⟨rfl, _⟩ := he
    rw [ht]
    have hbare : [Value.agg (row16 k).toArray, .agg (row16 s).toArray, .float .f32 q].all bareP = true := by
      rw [List.all_cons, List.all_cons, row16_bare, row16_bare]; rfl
    obtain ⟨s', h', hg, hk⟩ := hl w.heap.size k s q
    have hin : @FrnIn (iT TT w.heap.size) w := frn_in fun k v l cs hk => by simp at hk
    refine (@leads_call (iT TT w.heap.size) (ET TT w.heap.size) fn f c h1 h2 _ [] _ _ _ _ hg hk (fun _ => none) cargs w w.heap.size (bareP_VRL ha hbare) (@HeapR.start (iT TT w.heap.size) w hin) (Nat.le_refl _)).mono fun e w' hx => ?_
    obtain ⟨u, μ', rfl, _, hu, _, hbl⟩ := hx
    exact ⟨u, rfl, bareP_VR hu rfl, hbl⟩
theorem m_body : Try.f12.body = some mC := by kernel_rfl
theorem p_body : Try.f14.body = some pC := by kernel_rfl
theorem tM_one {ι : Frn} : @OrcOne ι Try.prog 12 (sigT psT thL) :=
  th_one (by kernel_rfl) Try.func12 m_body fun base k s q => m_leads TT base k s q (ET_ok base) fun hk hs n _ hn => k_ok hk hs hn
theorem tI_one {ι : Frn} : @OrcOne ι Try.prog 14 (sigT psT thL) :=
  th_one (by kernel_rfl) Try.func14 p_body fun base k s q => p_leads TT base k s q (ET_ok base)
def orcTH : List (Nat × Sig) := (12, sigT psT thL) :: (14, sigT psT thL) :: orcW
theorem orcTHOk : ∀ p ∈ orcTH, OrcOne Try.prog p.1 p.2 := all_cons tM_one <| all_cons tI_one orcWOk
def UTH (op : Nat) (z : Vl) : Vl := if 144 ≤ op ∧ op < 146 then valT psT qsE thL (op - 144) z else .i 0
theorem UTH_at {k : Nat} (hk : k < 2) (z : Vl) : UTH (144 + k) z = valT psT qsE thL k z := by
  unfold UTH
  rw [if_pos ⟨by omega, by omega⟩, Nat.add_sub_cancel_left]
theorem thSy_ok {F : Tab} {ρ : Nat → Int} (hB : Base F ρ UTH) : SymOk F ρ UTH (sigT psT thL) (uT 144 psT qsE) :=
  uT_ok hB (fun k hk => op_any (by omega)) (fun k hk z => UTH_at hk z) thL_fit
def symTH : List (Nat × SymF) := (12, uT 144 psT qsE) :: (14, uT 144 psT qsE) :: symW
theorem symTHR (F : Tab) (ρ : Nat → Int) (hB : Base F ρ UTH) : ListR F ρ UTH symTH (fun f => seek f orcTH) := ListR.cons (thSy_ok hB) <| ListR.cons (thSy_ok hB) <| symWR F ρ hB
end Hb
end Go.Proofs.Ytfgomdngffaffaa
end
