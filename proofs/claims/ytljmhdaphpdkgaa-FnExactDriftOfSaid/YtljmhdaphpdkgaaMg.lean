/-
  Means of counts: the contracts hold; program and model answer the same to all samples. No condition.
-/
import Derived.Test.YtljmhdaphpdkgaaMf
set_option linter.unusedSectionVars false
set_option linter.unusedVariables false
noncomputable section
namespace Go.Proofs.Ytljmhdaphpdkgaa
namespace Mc
open Go Go.ChangeShapes Go.WideShapes Go.ChangeAt Go.RowKit Ev
/-- a function answers a value to every slice with these cells -/
def AnsU (f : Nat) (l : Nat) (cs : List Value) (V : Value) : Prop := ∀ (w : World) (v : Value), RowC w v l cs →
  Calls Try.prog f #[v] w fun e w' => ∃ u, e = .returned u ∧ (∀ ι μ, @VR ι μ V u) ∧ Below w.heap.size w w'
theorem ansU_bool {f l : Nat} {cs : List Value} {b : Bool} (h : AnsF f l cs (.bool b)) : AnsU f l cs (.bool b) := fun w v hv => (h w v hv).mono fun e w' hx => by
  obtain ⟨rfl, hbl⟩ := hx
  exact ⟨_, rfl, fun ι μ => @VR.bool ι μ b, hbl⟩
theorem gB_ok {base : Nat} {v : Value} {l : Nat} {cs : List Value} {con : FuncId → Option CT} {f : Nat} {V : Value} {k : Bool} (hf : hasBody Try.prog f = true) (hb : cs.all bareC = true) (hcap : ∀ a l' c, v = .slice a l' c → l' ≤ c)
    (H : k = true → AnsU f l cs V) : ConSpec (frnOf base [(v, l, cs)] con) f (gB V k) := ⟨hf, fun args h q rows he μ cargs w B ha hh hB => by
  unfold gB at he
  split at he
  · rename_i l' c'
    simp only [Option.some.injEq, Prod.mk.injEq] at he
    obtain ⟨rfl, rfl, hk⟩ := he
    obtain ⟨u, ys, rfl, hu, h2⟩ := vrl_cons ha
    rw [vrl_none h2]
    obtain ⟨r1, _, r3⟩ := tok_row (k := 0) hh hB rfl hb hu
    refine (H hk w u ⟨r1, fun a' l2 c2 e => hcap a' l2 c2 (r3 ▸ e)⟩).mono fun e w' hx => ?_
    obtain ⟨u', rfl, hV, hbl⟩ := hx
    refine ⟨_, μ, rfl, Sub.refl μ, hV _ μ, ?_, hbl.mono hB⟩
    rw [List.map_nil, List.append_nil]
    exact @HeapR.keep (frnOf base [(v, l, cs)] con) _ _ _ _ _ hh hB hbl
  · cases he⟩
theorem gAt_ok {base : Nat} {v : Value} {l : Nat} {cs : List Value} {con : FuncId → Option CT} {k : Bool} (hb : rowsB samK l cs = true) (hk : k = true → 0 < l ∧ l ≤ 64) :
    ConSpec (frnOf base [(v, l, cs)] con) 36 (gAt l (fun w => rowN cs w l) k) := ⟨by kernel_rfl, fun args h q rows he μ cargs w B ha hh hB => by
  unfold gAt at he
  split at he
  · rename_i l' c' n
    simp only [Option.some.injEq, Prod.mk.injEq, Bool.and_eq_true, decide_eq_true_eq] at he
    obtain ⟨rfl, rfl, h1, h2, h3⟩ := he
    obtain ⟨h4, h5⟩ := hk h3
    obtain ⟨u, ys, rfl, hu, h6⟩ := vrl_cons ha
    obtain ⟨y, ys, rfl, hy, h7⟩ := vrl_cons h6
    rw [vrl_none h7, @VR.int_inv (frnOf base [(v, l, cs)] con) _ _ _ _ hy]
    obtain ⟨r1, _, _⟩ := tok_row (k := 0) hh hB rfl (rowsB_bare (by decide) hb) hu
    have hc := at_calls (k := n.toNat) hb h5 h4 (by omega) r1
    rw [Int.toNat_of_nonneg h1] at hc
    refine hc.mono fun e w' hx => ?_
    obtain ⟨u', rfl, hnew, hbl⟩ := hx
    obtain ⟨μ', g1, g2, g3⟩ := heap_new hh hB hbl hnew
    exact ⟨_, μ', rfl, g1, g2, g3, hbl.mono hB⟩
  · cases he⟩
def kSu (l : Nat) (cs : List Value) (r : List Value) (l' : Nat) : Bool := isB (∃ k, r = rowN cs k l ∧ l' = l ∧ l ≤ 64)
theorem gSu_ok {ι : Frn} {l : Nat} {cs : List Value} : ConSpec ι 35 (gSu (fun r => suR r l) (kSu l cs)) := ⟨by kernel_rfl, fun args h q rows he μ cargs w B ha hh hB => by
  unfold gSu at he
  split at he
  · rename_i b l' c' f fs xs
    split at he
    · rename_i r hr
      simp only [Option.some.injEq, Prod.mk.injEq, Bool.and_eq_true, List.isEmpty_iff] at he
      obtain ⟨rfl, rfl, hf1, hf2, hf3, hk⟩ := he
      have hf1 := Nat.eq_of_beq_eq_true hf1
      subst hf1
      obtain ⟨k, rfl, rfl, hl⟩ := of_isB hk
      obtain ⟨y, ys, rfl, hy, ha⟩ := vrl_cons ha
      obtain ⟨y3, ys, rfl, hy3, ha⟩ := vrl_cons ha
      rw [vrl_none ha]
      obtain ⟨a', x', rfl, k1, k2⟩ := @VR.func_inv ι _ _ _ _ _ hy3
      rw [hf2] at k1
      rw [hf3] at k2
      have e1 : a' = #[] := Array.ext' (vrl_none k1)
      have e2 : x' = #[] := Array.ext' (vrl_none k2)
      subst e1 e2
      have r1 := local_row hh hy hr rowN_bare
      rw [List.drop_zero] at r1
      refine (sum_calls hl r1).mono fun e w' hx => ?_
      obtain ⟨rfl, hbl⟩ := hx
      rw [suR_eq (Nat.le_refl _)]
      refine ⟨_, μ, rfl, Sub.refl μ, @VR.int ι μ _ _, ?_, hbl.mono hB⟩
      rw [List.map_nil, List.append_nil]
      exact @HeapR.keep ι _ _ _ _ _ hh hB hbl
    · cases he
  · cases he⟩
section
variable {l : Nat} {cs : List Value}
theorem conC_ok {base : Nat} {v : Value} (hb : rowsB samK l cs = true) (hl : l ≤ 9223372036854775807) (hcap : ∀ a l' c, v = .slice a l' c → l' ≤ c) : @ConOk (frnOf base [(v, l, cs)] (conC (Sm.vS cs l))) Try.prog := fun f g hf => by
  have hf : conC (Sm.vS cs l) f = some g := hf
  unfold conC at hf
  cases h1 : Nat.beq f 13 with
  | true =>
    rw [h1, cond_true, Option.some.injEq] at hf
    have hfe := Nat.eq_of_beq_eq_true h1
    subst hf hfe
    exact gB_ok (by kernel_rfl) (rowsB_bare (by decide) hb) hcap fun _ => ansU_bool (Sm.i_ans hb hl)
  | false =>
  rw [h1, cond_false] at hf
  cases h2 : Nat.beq f 24 with
  | true =>
    rw [h2, cond_true, Option.some.injEq] at hf
    have hfe := Nat.eq_of_beq_eq_true h2
    subst hf hfe
    exact gB_ok (by kernel_rfl) (rowsB_bare (by decide) hb) hcap fun _ => ansU_bool (Sm.s_ans hb hl)
  | false => rw [h2] at hf; cases hf
theorem gB_stab {V : Value} {k k0 : Bool} {args : List Value} {h h' : Heap} {x : Value} {rows : List (List Value)} (he : gB V k args h = some (x, rows, k0)) : gB V k args h' = some (x, rows, k0) := he
theorem conC_stab {base : Nat} {tk : Toks} {b : Bool} : @ConStab (frnOf base tk (conC b)) := fun f g hf args h u rows k nid row he hlt hn => by
  have hf : conC b f = some g := hf
  unfold conC at hf
  cases h1 : Nat.beq f 13 with
  | true =>
    rw [h1, cond_true, Option.some.injEq] at hf
    subst hf
    exact he
  | false =>
  rw [h1, cond_false] at hf
  cases h2 : Nat.beq f 24 with
  | true =>
    rw [h2, cond_true, Option.some.injEq] at hf
    subst hf
    exact he
  | false => rw [h2] at hf; cases hf
theorem code_val (b : Bool) (l : Nat) : (bif !b then some (Value.int .i64 1, ([] : Heap), true) else bif decide ((l : Int) = 0) then some (.int .i64 6, [], true) else some (.int .i64 0, [], true)) = some (.int .i64 (codeV b l), [], true) := by
  unfold codeV
  cases b <;> cases decide ((l : Int) = 0) <;> rfl
theorem EC_ok {base : Nat} {v : Value} (hb : rowsB samK l cs = true) (hl : l ≤ 9223372036854775807) (hcap : ∀ a l' c, v = .slice a l' c → l' ≤ c) : @EnvOk (frnOf base [(v, l, cs)] (conC (Sm.vS cs l))) (@EC (frnOf base [(v, l, cs)] (conC (Sm.vS cs l)))) :=
  @conE_ok (frnOf base [(v, l, cs)] (conC (Sm.vS cs l))) _ _ _ mixed (@noExt (frnOf base [(v, l, cs)] (conC (Sm.vS cs l))) _) (@orc_list (frnOf base [(v, l, cs)] (conC (Sm.vS cs l))) _ [] all_nil) (conC_ok hb hl hcap) conC_stab
theorem c1_ans (hb : rowsB samK l cs = true) (hl : l ≤ 9223372036854775807) : AnsU 21 l cs (.int .i64 (codeV (Sm.vS cs l) l)) := fun w v hv => by
  obtain ⟨hv, hcap⟩ := hv
  obtain ⟨a, c, rfl, _⟩ := id hv
  let ι : Frn := frnOf w.heap.size [(.slice a l c, l, cs)] (conC (Sm.vS cs l))
  have hw : @FrnIn ι w := frn_in fun k v' l' cs' hk => by
    match k, hk with
    | 0, hk => cases hk; exact hv
  have ht : @VR ι Mu.nil (tok 0 l c) (.slice a l c) := tok_VR (ts := [(.slice a l c, l, cs)]) rfl hv
  refine (@body_goes ι (@EC ι) (EC_ok hb hl hcap) mixed 21 Try.f21 kC1 Try.func21 (by kernel_rfl) (by kernel_rfl) _ _ _ _ _ ((c1_eval _ _ l c cs (Sm.vS cs l)).trans (code_val _ _)) Mu.nil [.slice a l c] w w.heap.size (@VRL.cons ι _ _ _ _ _ ht (@VRL.nil ι _)) (@HeapR.start ι w hw) (Nat.le_refl _)).mono fun e w' hx => ?_
  obtain ⟨u, μ', rfl, _, hu, _, hbl⟩ := hx
  rw [@VR.int_inv ι _ _ _ _ hu]
  exact ⟨_, rfl, fun ι2 μ2 => @VR.int ι2 μ2 _ _, hbl⟩
theorem c2_ans (hb : rowsB samK l cs = true) (hl : l ≤ 9223372036854775807) : AnsU 18 l cs (.int .i64 (codeV (Sm.vS cs l) l)) := fun w v hv => by
  obtain ⟨hv, hcap⟩ := hv
  obtain ⟨a, c, rfl, _⟩ := id hv
  let ι : Frn := frnOf w.heap.size [(.slice a l c, l, cs)] (conC (Sm.vS cs l))
  have hw : @FrnIn ι w := frn_in fun k v' l' cs' hk => by
    match k, hk with
    | 0, hk => cases hk; exact hv
  have ht : @VR ι Mu.nil (tok 0 l c) (.slice a l c) := tok_VR (ts := [(.slice a l c, l, cs)]) rfl hv
  refine (@body_goes ι (@EC ι) (EC_ok hb hl hcap) mixed 18 Try.f18 kC2 Try.func18 (by kernel_rfl) (by kernel_rfl) _ _ _ _ _ ((c2_eval _ _ l c cs (Sm.vS cs l)).trans (code_val _ _)) Mu.nil [.slice a l c] w w.heap.size (@VRL.cons ι _ _ _ _ _ ht (@VRL.nil ι _)) (@HeapR.start ι w hw) (Nat.le_refl _)).mono fun e w' hx => ?_
  obtain ⟨u, μ', rfl, _, hu, _, hbl⟩ := hx
  rw [@VR.int_inv ι _ _ _ _ hu]
  exact ⟨_, rfl, fun ι2 μ2 => @VR.int ι2 μ2 _ _, hbl⟩
/-- the contracts of both functions -/
abbrev conN (l : Nat) (cs : List Value) : FuncId → Option CT := conM l (codeV (Sm.vS cs l) l) (fun w => rowN cs w l) (fun r => suR r l) (kSu l cs) (.agg (q16 (meV cs l)).toArray) (isB (0 < l ∧ l ≤ 64)) (isB (l ≤ 64))
theorem conN_ok {base : Nat} {v : Value} (hb : rowsB samK l cs = true) (hl : l ≤ 9223372036854775807) (hcap : ∀ a l' c, v = .slice a l' c → l' ≤ c) : @ConOk (frnOf base [(v, l, cs)] (conN l cs)) Try.prog := fun f g hf => by
  have hf : conN l cs f = some g := hf
  unfold conN conM at hf
  cases h1 : Nat.beq f 21 with
  | true =>
    rw [h1, cond_true, Option.some.injEq] at hf
    have hfe := Nat.eq_of_beq_eq_true h1
    subst hf hfe
    exact gB_ok (by kernel_rfl) (rowsB_bare (by decide) hb) hcap fun _ => c1_ans hb hl
  | false =>
  rw [h1, cond_false] at hf
  cases h2 : Nat.beq f 18 with
  | true =>
    rw [h2, cond_true, Option.some.injEq] at hf
    have hfe := Nat.eq_of_beq_eq_true h2
    subst hf hfe
    exact gB_ok (by kernel_rfl) (rowsB_bare (by decide) hb) hcap fun _ => c2_ans hb hl
  | false =>
  rw [h2, cond_false] at hf
  cases h3 : Nat.beq f 36 with
  | true =>
    rw [h3, cond_true, Option.some.injEq] at hf
    have hfe := Nat.eq_of_beq_eq_true h3
    subst hf hfe
    exact gAt_ok hb fun hk => of_isB hk
  | false =>
  rw [h3, cond_false] at hf
  cases h4 : Nat.beq f 35 with
  | true =>
    rw [h4, cond_true, Option.some.injEq] at hf
    have hfe := Nat.eq_of_beq_eq_true h4
    subst hf hfe
    exact gSu_ok
  | false =>
  rw [h4, cond_false] at hf
  cases h5 : Nat.beq f 19 with
  | true =>
    rw [h5, cond_true, Option.some.injEq] at hf
    have hfe := Nat.eq_of_beq_eq_true h5
    subst hf hfe
    exact gB_ok (by kernel_rfl) (rowsB_bare (by decide) hb) hcap fun hk w u hu => mean_calls hb (of_isB hk) hu.1
  | false => rw [h5] at hf; cases hf
theorem usI_ok : usI.all (funcOk Try.prog) = true := by kernel_rfl
theorem usS_ok : usS.all (funcOk Try.prog) = true := by kernel_rfl
theorem orcTOk {ι : Frn} : ∀ p ∈ orcT, @OrcOne ι Try.prog p.1 p.2 := all_cons (orc_any cntI_one cntO_bare) all_nil
/-- from an evaluation to all slices with these cells -/
theorem ans_of {us : List Nat} {f : Nat} {V : Value} (hus : us.all (funcOk Try.prog) = true) (hb : rowsB samK l cs = true) (hl : l ≤ 9223372036854775807) {xs : Array Value} (hV : V = .tuple xs) (hx : xs.toList.all bareP = true)
    (he : ∀ base v c, ∃ k, (fI base v l cs (codeV (Sm.vS cs l) l) (fun w => rowN cs w l) (fun r => suR r l) (kSu l cs) (.agg (q16 (meV cs l)).toArray) (isB (0 < l ∧ l ≤ 64)) (isB (l ≤ 64)) us f c).map (fun r => (r.1, r.2.2)) = some (V, k) ∧ k = true) : AnsU f l cs V := fun w v hv => by
  obtain ⟨hv, hcap⟩ := hv
  obtain ⟨a, c, rfl, _⟩ := id hv
  let ι : Frn := frnOf w.heap.size [(.slice a l c, l, cs)] (conN l cs)
  have hw : @FrnIn ι w := frn_in fun k v' l' cs' hk => by
    match k, hk with
    | 0, hk => cases hk; exact hv
  have ht : @VR ι Mu.nil (tok 0 l c) (.slice a l c) := tok_VR (ts := [(.slice a l c, l, cs)]) rfl hv
  have hE : @CallOk ι Try.prog (@funD ι Try.prog noOrc (fun f => seek f orcT) us 60 12) :=
    @EnvOk.call ι _ (@fun_goes ι Try.prog noOrc (fun f => seek f orcT) us 60 mixed hus (@noExt ι _) (@orc_list ι _ _ orcTOk) (conN_ok hb hl hcap) 12)
  obtain ⟨k, e, hk⟩ := he w.heap.size (.slice a l c) c
  obtain ⟨⟨x, H, k'⟩, hr, e2⟩ := Option.map_eq_some_iff.1 e
  simp only [Prod.mk.injEq] at e2
  obtain ⟨rfl, rfl⟩ := e2
  subst hV
  refine (hE _ _ _ _ _ _ hr hk Mu.nil [.slice a l c] w w.heap.size (@VRL.cons ι _ _ _ _ _ ht (@VRL.nil ι _)) (@HeapR.start ι w hw) (Nat.le_refl _)).mono fun e w' hx' => ?_
  obtain ⟨u, μ', rfl, _, hu, _, hbl⟩ := hx'
  exact ⟨u, rfl, fun ι2 μ2 => bareT_VR hu hx, hbl⟩
theorem gAll_true {l : Nat} {rw : Nat → List Value} {su : List Value → Int} {kS : List Value → Nat → Bool} {k : Bool} (hk : k = true) (hS : ∀ w, kS (rw w) l = true) : ∀ n, gAll l rw su kS k n = true
  | 0 => rfl
  | n + 1 => by
    rw [gAll, gAll_true hk hS n, Bool.and_true]
    unfold gW
    rw [kC_true, kC_true, hS, hk]; rfl
theorem ansM_bare (f : Nat → Int) (n : Int) : ((#[.agg (q16 f).toArray, .int .i64 n] : Array Value).toList.all bareP) = true := by kernel_rfl
/-- program and model answer the same -/
theorem both (hb : rowsB samK l cs = true) (hl : l ≤ 9223372036854775807) : ∃ (F : Nat → Int) (n : Int), AnsU 7 l cs (ansM F n) ∧ AnsU 9 l cs (ansM F n) := by
  have hcode : codeV (Sm.vS cs l) l = 1 ∨ codeV (Sm.vS cs l) l = 6 ∨ (codeV (Sm.vS cs l) l = 0 ∧ 0 < l ∧ l ≤ 64) := by
    unfold codeV
    cases hv : Sm.vS cs l with
    | false => exact .inl rfl
    | true =>
      rw [cond_true]
      by_cases h0 : (l : Int) = 0
      · rw [decide_eq_true h0]; exact .inr (.inl rfl)
      · rw [decide_eq_false h0]
        unfold Sm.vS at hv
        rw [Bool.and_eq_true, decide_eq_true_eq] at hv
        exact .inr (.inr ⟨rfl, by omega, by omega⟩)
  rcases hcode with e | e | ⟨e, h0, h64⟩
  · refine ⟨fun _ => 0, 1, ans_of usS_ok hb hl rfl (ansM_bare _ _) fun base v c => ?_, ans_of usI_ok hb hl rfl (ansM_bare _ _) fun base v c => ?_⟩
    · rw [e]; exact ⟨_, s1_eval _ _ _ _ _ _ _ _ _ _ _, rfl⟩
    · rw [e]; exact ⟨_, i1_eval _ _ _ _ _ _ _ _ _ _ _, rfl⟩
  · refine ⟨fun _ => 0, 6, ans_of usS_ok hb hl rfl (ansM_bare _ _) fun base v c => ?_, ans_of usI_ok hb hl rfl (ansM_bare _ _) fun base v c => ?_⟩
    · rw [e]; exact ⟨_, s6_eval _ _ _ _ _ _ _ _ _ _ _, rfl⟩
    · rw [e]; exact ⟨_, i6_eval _ _ _ _ _ _ _ _ _ _ _, rfl⟩
  · refine ⟨meV cs l, 0, ans_of usS_ok hb hl rfl (ansM_bare _ _) fun base v c => ?_, ans_of usI_ok hb hl rfl (ansM_bare _ _) fun base v c => ?_⟩
    · rw [e]; exact ⟨_, s0_eval _ _ _ _ _ _ _ _ _ _ _, by rw [isB_of h64]; rfl⟩
    · rw [e]
      have h := i0_eval base v l c cs (fun w => rowN cs w l) (fun r => suR r l) (kSu l cs) (.agg (q16 (meV cs l)).toArray) (isB (0 < l ∧ l ≤ 64)) (isB (l ≤ 64))
      rw [show (fun w => mV ((fun r => suR r l) ((fun w => rowN cs w l) w)) l) = meV cs l from funext fun w => by
        show mV (suR (rowN cs w l) l) l = mV (suN cs w l) l
        rw [suR_eq (Nat.le_refl _)]] at h
      refine ⟨_, h, ?_⟩
      rw [gAll_true (isB_of ⟨h0, h64⟩) fun w => isB_of ⟨w, rfl, rfl, h64⟩]; rfl
end
end Mc
end Go.Proofs.Ytljmhdaphpdkgaa
end
