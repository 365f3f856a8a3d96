/-
  Means of counts: the law's own code, over contracts. No condition.
-/
import Derived.Test.YtahmdfklahaapaaMg
set_option linter.unusedSectionVars false
set_option linter.unusedVariables false
noncomputable section
namespace Go.Proofs.Ytahmdfklahaapaa
namespace Mc
open Go Go.ChangeShapes Go.WideShapes Go.ChangeAt Go.RowKit Ev
theorem evO_bare : BareSig evO := fun args v he => by
  unfold evO at he
  split at he
  · simp only [Option.some.injEq, Prod.mk.injEq, Bool.and_eq_true] at he
    obtain ⟨rfl, h1, h2, _⟩ := he
    refine ⟨?_, rfl⟩
    rw [List.all_cons, List.all_cons, show bareP (.agg _) = true from shape_bare h1, show bareP (.agg _) = true from shape_bare h2]; rfl
  · cases he
theorem orcEvOk' {ι : Frn} : ∀ p ∈ orcEv, @OrcOne ι Try.prog p.1 p.2 := all_cons (orc_any ev_one evO_bare) all_nil
noncomputable abbrev ELw [Frn] : Env := conE Try.prog noOrc (fun f => seek f orcEv)
noncomputable def lawC : Code := (Try.f3.body.getD .skip)
theorem law_body : Try.f3.body = some lawC := by kernel_rfl
theorem law_ok : codeOk lawC = true := by kernel_rfl
noncomputable abbrev conW (l : Nat) (cs : List Value) (F : Nat → Int) (n : Int) := conL 7 9 l cs (ansM F n)
def kQ (F : Nat → Int) : Bool := eqVs (q16 F) (q16 F)
theorem kQ_true (F : Nat → Int) : kQ F = true := eqVs_self (ck := cntK) (by kernel_rfl)
theorem law_eval (base : Nat) (v : Value) (l c : Nat) (cs : List Value) (F : Nat → Int) (n : Int) :
    (@codeK (frnOf base [(v, l, cs)] (conW l cs F n)) (@ELw (frnOf base [(v, l, cs)] (conW l cs F n))) 60 lawC (startS Try.f3 [tok 0 l c] []) (fun e s => (@finK (frnOf base [(v, l, cs)] (conW l cs F n)) Try.prog Try.f3 e s).map eraseH)) =
      bif decide (szAll l < 0) then some (.bool true, [], true)
      else bif (n != n) then some (.bool false, [], kQ F && (kV l cs && (kTo l && (kV l cs && (kTo l && true)))))
      else some (.bool true, [], kEq l cs && (kTo l && (kQ F && (kV l cs && (kTo l && (kV l cs && (kTo l && true))))))) := by kernel_rfl
/-! ### the contracts hold -/
theorem ansV_okU {ι : Frn} {f l : Nat} {cs : List Value} {V : Value} (hf : hasBody Try.prog f = true) (hb : cs.all bareC = true) (hans : AnsU f l cs V) : ConSpec ι f (ansV l cs V) := ⟨hf, fun args h v rows he μ cargs w B ha hh hB => by
  unfold ansV at he
  split at he
  · rename_i bl l' c'
    split at he
    · rename_i r hr
      simp only [Option.some.injEq, Prod.mk.injEq] at he
      obtain ⟨rfl, rfl, hk⟩ := he
      obtain ⟨hr1, hr2, hr4⟩ := of_isB hk
      rw [hr1] at hr
      subst hr2
      obtain ⟨u, ys, rfl, hu, h2⟩ := vrl_cons ha
      rw [vrl_none h2]
      have hrow := local_row hh hu hr hb
      rw [List.drop_zero] at hrow
      have hcap : ∀ a l0 c0, u = .slice a l0 c0 → l0 ≤ c0 := fun a l0 c0 e => by
        obtain ⟨b2, c2, e2, _, hcr⟩ := @VR.slice_inv ι _ _ _ _ _ _ hu
        rw [e2] at e
        cases e
        exact Nat.le_trans hr4 hcr.le
      refine (hans w u ⟨hrow, hcap⟩).mono fun e w' hx => ?_
      obtain ⟨u', rfl, hV, hbl⟩ := hx
      refine ⟨_, μ, rfl, Sub.refl μ, hV ι μ, ?_, hbl.mono hB⟩
      rw [List.map_nil, List.append_nil]
      exact @HeapR.keep ι _ _ _ _ _ hh hB hbl
    · cases he
  · cases he⟩
theorem conL_okU {base : Nat} {v : Value} {fs fi l : Nat} {cs : List Value} {V : Value} (hb : rowsB samK l cs = true) (hfs : hasBody Try.prog fs = true) (hfi : hasBody Try.prog fi = true)
    (hs : AnsU fs l cs V) (hi : AnsU fi l cs V) : @ConOk (frnOf base [(v, l, cs)] (conL fs fi l cs V)) Try.prog := fun f g hf => by
  have hf : conL fs fi l cs V f = some g := hf
  unfold conL at hf
  cases h1 : Nat.beq f fs with
  | true =>
    rw [h1, cond_true, Option.some.injEq] at hf
    have hfe := Nat.eq_of_beq_eq_true h1
    subst hf hfe
    exact ansV_okU hfs (rowsB_bare (by decide) hb) hs
  | false =>
  rw [h1, cond_false] at hf
  cases h2 : Nat.beq f fi with
  | true =>
    rw [h2, cond_true, Option.some.injEq] at hf
    have hfe := Nat.eq_of_beq_eq_true h2
    subst hf hfe
    exact ansV_okU hfi (rowsB_bare (by decide) hb) hi
  | false =>
  rw [h2, cond_false] at hf
  cases h3 : Nat.beq f 6 with
  | true =>
    rw [h3, cond_true, Option.some.injEq] at hf
    have hfe := Nat.eq_of_beq_eq_true h3
    subst hf hfe
    exact ansSz_ok hb
  | false =>
  rw [h3, cond_false] at hf
  cases h4 : Nat.beq f 8 with
  | true =>
    rw [h4, cond_true, Option.some.injEq] at hf
    have hfe := Nat.eq_of_beq_eq_true h4
    subst hf hfe
    exact ansTo_ok hb
  | false =>
  rw [h4, cond_false] at hf
  cases h5 : Nat.beq f 11 with
  | true =>
    rw [h5, cond_true, Option.some.injEq] at hf
    have hfe := Nat.eq_of_beq_eq_true h5
    subst hf hfe
    exact ansEq_ok hb
  | false => rw [h5] at hf; cases hf
/-! ### the law -/
theorem law_calls {w : World} {v : Value} {l : Nat} {cs : List Value} {F : Nat → Int} {n : Int} (hv : RowIn w v l cs) (hb : rowsB samK l cs = true) (hl : l ≤ 9223372036854775807)
    (hs : AnsU 7 l cs (ansM F n)) (hi : AnsU 9 l cs (ansM F n)) :
    Calls Try.prog 3 #[v] w fun e w' => e = .returned (.bool true) ∧ Below w.heap.size w w' := by
  obtain ⟨a, c, rfl, _⟩ := id hv
  let ι : Frn := frnOf w.heap.size [(.slice a l c, l, cs)] (conW l cs F n)
  have hw : @FrnIn ι w := frn_in fun k v' l' cs' hk => by
    match k, hk with
    | 0, hk => cases hk; exact hv
  have ht : @VR ι Mu.nil (tok 0 l c) (.slice a l c) := tok_VR (ts := [(.slice a l c, l, cs)]) rfl hv
  have hE : @EnvOk ι (@ELw ι) := @conE_ok ι _ _ _ mixed (@noExt ι _) (@orc_list ι _ _ orcEvOk') (conL_okU hb (by kernel_rfl) (by kernel_rfl) hs hi) conL_stab
  have he : (@codeK ι (@ELw ι) 60 lawC (startS Try.f3 [tok 0 l c] []) (@finK ι Try.prog Try.f3)).map eraseH = some (.bool true, [], true) := by
    rw [@codeK_map ι]
    refine (law_eval w.heap.size (.slice a l c) l c cs F n).trans ?_
    have k2 : kV l cs = true := isB_of ⟨rfl, rfl, Nat.le_refl _⟩
    by_cases hn : szAll l < 0
    · rw [decide_eq_true hn, cond_true]
    · have hl' : l ≤ 1048576 := szAll_le hl (by omega)
      have k3 : kTo l = true := isB_of hl'
      have k4 : kEq l cs = true := isB_of ⟨⟨hl', rfl, rfl⟩, rfl, rfl⟩
      rw [decide_eq_false hn, cond_false, bne_self_eq_false, cond_false, k2, k3, k4, kQ_true]; rfl
  obtain ⟨r, hr, hr2⟩ := Option.map_eq_some_iff.1 he
  obtain ⟨x, H, k⟩ := r
  simp only [eraseH, Prod.mk.injEq] at hr2
  obtain ⟨rfl, _, rfl⟩ := hr2
  refine (con_calls ι hE mixed Try.func3 law_body law_ok hr hw (@VRL.cons ι _ _ _ _ _ ht (@VRL.nil ι _))).mono fun e w' hx => ?_
  obtain ⟨y, μ', rfl, hy, hh, hbl⟩ := hx
  rw [@VR.bool_inv ι _ _ _ hy]
  exact ⟨rfl, hbl⟩
end Mc
end Go.Proofs.Ytahmdfklahaapaa
end
