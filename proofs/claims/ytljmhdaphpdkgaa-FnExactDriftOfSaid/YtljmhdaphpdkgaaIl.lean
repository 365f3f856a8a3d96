/-
  Drift: the law's own code, over contracts. No condition.
-/
import Derived.Test.YtljmhdaphpdkgaaIk
set_option linter.unusedSectionVars false
set_option linter.unusedVariables false
noncomputable section
namespace Go.Proofs.Ytljmhdaphpdkgaa
namespace Dr
open Go Go.ChangeShapes Go.WideShapes Go.ChangeAt Go.RowKit Ev Mc
/-! ### sameFloat -/
def sfO : Sig
  | [.float .f64 x, .float .f64 y] => some (.bool true, Nat.beq x y)
  | _ => none
theorem sf_eval (x : Nat) (hx : cn .f64 x = x) : ∃ h', funD Try.prog ext (orcOf []) [17] 100 5 17 [.float .f64 x, .float .f64 x] [] = some (.bool true, h', true) := by
  cases hn : isN .f64 x with
  | true =>
    rw [cn_of_N hn] at hx
    subst hx
    exact of_map (by kernel_rfl)
  | false =>
    have h1 := fne_self hn
    have h2 := feq_self hn
    have h3 : isN .f64 0 = false := by decide +kernel
    have h4 : isN .f64 4607182418800017408 = false := by decide +kernel
    have h5 : Try.prog.underlying 4 = some .bool := Try.underlying4
    have hf : Try.prog.funcs[17]? = some Try.f17 := Try.func17
    rw [funD_one (d := 4) rfl rfl hf rfl]
    generalize funD Try.prog ext _ _ 100 4 = cl
    simp [Try.f17, codeK, startS, regionD_seq, hasNew, isNew, runD, stepD, opD, isStrA, evl, putT, putW, mk, binD, sameK, fbin, guardD, pickV, canonB, boolD, h1, h2, h3, h4, h5, finK, resAll, resD, oneOr, undef]
theorem two_args {μ : Mu} {x y : Value} {cargs : List Value} (h : VRL μ [x, y] cargs) : ∃ a b, cargs = [a, b] ∧ VR μ x a ∧ VR μ y b := by
  match cargs, h with
  | [a, b], h => exact ⟨a, b, rfl, h.head, h.tail.head⟩
  | [], h => exact absurd h.1 (by simp)
  | [_], h => exact absurd h.1 (by simp)
  | _ :: _ :: _ :: _, h => exact absurd h.1 (by simp)
theorem sf_one : OrcOne Try.prog 17 sfO := by
  refine orc_one (us := [17]) (cf := 100) (d := 5) mixed (by kernel_rfl) extsOk (l0 := []) all_nil (by kernel_rfl) fun args v k he hk hx => ?_
  obtain ⟨μ, cargs, ha⟩ := hx
  unfold sfO at he
  split at he
  · rename_i x y
    simp only [Option.some.injEq, Prod.mk.injEq] at he
    obtain ⟨rfl, rfl⟩ := he
    have := Nat.eq_of_beq_eq_true hk
    subst this
    obtain ⟨a, b, rfl, h1, _⟩ := two_args ha
    exact ⟨rfl, rfl, sf_eval x (float_canon h1)⟩
  · cases he
theorem sfO_bare : BareSig sfO := fun args v he => by
  unfold sfO at he
  split at he
  · simp only [Option.some.injEq, Prod.mk.injEq] at he
    obtain ⟨rfl, h⟩ := he
    exact ⟨rfl, rfl⟩
  · cases he
def usT : List Nat := [15, 27, 28]
theorem tg_eval (z : Nat → Int) (f : Nat → Nat) : ∃ h', funD Try.prog ext (orcOf []) usT 200 5 15 [.agg (Lg.gr z f).toArray] [] = some (.agg (Lg.gr z f).toArray, h', true) := of_map (by kernel_rfl)
def tgO (kT : List Value → Bool) : Sig
  | [.agg xs] => some (.agg xs, kT xs.toList)
  | _ => none
def kT (xs : List Value) : Bool := isB (∃ z f, xs = Lg.gr z f)
theorem tg_one {ι : Frn} : @OrcOne ι Try.prog 15 (tgO kT) := by
  refine orc_any (?_ : @OrcOne noFrn Try.prog 15 (tgO kT)) ?_
  · refine orc_one (us := usT) (cf := 200) (d := 5) mixed (by kernel_rfl) extsOk (l0 := []) all_nil (by kernel_rfl) fun args v k he hk hx => ?_
    unfold tgO at he
    split at he
    · rename_i xs
      simp only [Option.some.injEq, Prod.mk.injEq] at he
      obtain ⟨rfl, rfl⟩ := he
      obtain ⟨z, f, e1⟩ := of_isB hk
      have e1 : xs = (Lg.gr z f).toArray := by rw [← e1]
      subst e1
      exact ⟨allP (gr_plain _ _) rfl, gr_plain _ _, tg_eval z f⟩
    · cases he
  · intro args v he
    unfold tgO at he
    split at he
    · rename_i xs
      simp only [Option.some.injEq, Prod.mk.injEq] at he
      obtain ⟨rfl, hk⟩ := he
      obtain ⟨z, f, e1⟩ := of_isB hk
      have e1 : xs = (Lg.gr z f).toArray := by rw [← e1]
      subst e1
      refine ⟨?_, gr_bareP _ _⟩
      rw [List.all_cons, gr_bareP]; rfl
    · cases he
def dvP (l : Nat) (cs : List Value) (l1 c1 : Nat) (r : List Value) : Prop := r = cs ∧ l1 = l ∧ l1 ≤ c1
def gDv (l : Nat) (cs : List Value) (kX : List Value → Bool) (V : Value) : CT := fun args h => match args with
  | [.agg xs, .slice (some ⟨b, 0, none⟩) l1 c1] => match h.getD b none with
    | some r => some (V, [], isB (dvP l cs l1 c1 r) && kX xs.toList)
    | none => none
  | _ => none
def conW (l : Nat) (cs : List Value) (kX : List Value → Bool) (V : Value) (f : FuncId) : Option CT :=
  bif Nat.beq f 14 then some (gDv l cs kX V) else bif Nat.beq f 16 then some (gDv l cs kX V) else
  bif Nat.beq f 6 then some (ansSz l) else bif Nat.beq f 8 then some (ansTo l cs) else
  bif Nat.beq f 11 then some (ansEq l cs) else none
def orcW (kT : List Value → Bool) : List (Nat × Sig) := [(15, tgO kT), (17, sfO)]
noncomputable abbrev EW [Frn] (kT : List Value → Bool) : Env := conE Try.prog noOrc (fun f => seek f (orcW kT))
noncomputable def lC : Code := (Try.f5.body.getD .skip)
theorem l_body : Try.f5.body = some lC := by kernel_rfl
theorem l_ok : codeOk lC = true := by kernel_rfl
section
variable (base l c : Nat) (v : Value) (cs : List Value) (d : Nat) (n : Int) (z : Nat → Int) (f : Nat → Nat) (kT kX : List Value → Bool)
noncomputable def lawF := (@codeK (frnOf base [(v, l, cs)] (conW l cs kX (ansD d n))) (@EW (frnOf base [(v, l, cs)] (conW l cs kX (ansD d n))) kT) 60 lC (startS Try.f5 [.agg (Lg.gr z f).toArray, tok 0 l c] []) (fun e s => (@finK (frnOf base [(v, l, cs)] (conW l cs kX (ansD d n))) Try.prog Try.f5 e s).map eraseH))
def lawR : Bool := Nat.beq (fcv .f32 .f64 d) (fcv .f32 .f64 d) && ((isB (dvP l cs l l cs) && kX (Lg.gr z f)) && (kT (Lg.gr z f) && (isB (l ≤ 1048576) && ((isB (dvP l cs l l cs) && kX (Lg.gr z f)) && (isB (l ≤ 1048576) && (kT (Lg.gr z f) && true))))))
theorem law_eval : lawF base l c v cs d n z f kT kX =
    bif decide (szAll l < 0) then some (.bool true, [], true) else bif n != n then some (.bool false, [], lawR l cs d z f kT kX) else some (.bool true, [], kEq l cs && (kTo l && lawR l cs d z f kT kX)) := by kernel_rfl
end
/-! ### the contracts hold -/
section
variable {l : Nat} {cs : List Value} {z : Nat → Int} {f : Nat → Nat}
theorem gDv_ok {ι : Frn} {g : Nat} {V : Value} (hf : hasBody Try.prog g = true) (hb : cs.all bareC = true) (H : AnsD g (.agg (Lg.gr z f).toArray) l cs V) : ConSpec ι g (gDv l cs (kXf z f) V) := ⟨hf, fun args h v rows he μ cargs w B ha hh hB => by
  unfold gDv at he
  split at he
  · rename_i xs b l1 c1
    split at he
    · rename_i r hr
      simp only [Option.some.injEq, Prod.mk.injEq, Bool.and_eq_true] at he
      obtain ⟨rfl, rfl, hk1, hk2⟩ := he
      obtain ⟨rfl, rfl, hc⟩ := of_isB hk1
      have e : xs = (Lg.gr z f).toArray := by rw [← of_isB hk2]
      subst e
      obtain ⟨x, ys, rfl, hx, ha⟩ := vrl_cons ha
      obtain ⟨u, ys, rfl, hu, ha⟩ := vrl_cons ha
      rw [vrl_none ha]
      exact keep hh hB (H w x u (fun ι2 μ2 => bareP_VR hx (gr_bareP z f)) (local_C hh hu hr hb hc))
    · cases he
  · cases he⟩
theorem conW_ok {base : Nat} {v : Value} {V : Value} (hb : rowsB samK l cs = true) (hs : AnsD 14 (.agg (Lg.gr z f).toArray) l cs V) (hi : AnsD 16 (.agg (Lg.gr z f).toArray) l cs V) :
    @ConOk (frnOf base [(v, l, cs)] (conW l cs (kXf z f) V)) Try.prog := fun g gg hf => by
  have hf : conW l cs (kXf z f) V g = some gg := hf
  unfold conW at hf
  have r1 := rowsB_bare (by decide) hb
  cases h1 : Nat.beq g 14 with
  | true =>
    rw [h1, cond_true, Option.some.injEq] at hf
    have hfe := Nat.eq_of_beq_eq_true h1
    subst hf hfe
    exact gDv_ok (by kernel_rfl) r1 hs
  | false =>
  rw [h1, cond_false] at hf
  cases h2 : Nat.beq g 16 with
  | true =>
    rw [h2, cond_true, Option.some.injEq] at hf
    have hfe := Nat.eq_of_beq_eq_true h2
    subst hf hfe
    exact gDv_ok (by kernel_rfl) r1 hi
  | false =>
  rw [h2, cond_false] at hf
  cases h3 : Nat.beq g 6 with
  | true =>
    rw [h3, cond_true, Option.some.injEq] at hf
    have hfe := Nat.eq_of_beq_eq_true h3
    subst hf hfe
    exact ansSz_ok hb
  | false =>
  rw [h3, cond_false] at hf
  cases h4 : Nat.beq g 8 with
  | true =>
    rw [h4, cond_true, Option.some.injEq] at hf
    have hfe := Nat.eq_of_beq_eq_true h4
    subst hf hfe
    exact ansTo_ok hb
  | false =>
  rw [h4, cond_false] at hf
  cases h5 : Nat.beq g 11 with
  | true =>
    rw [h5, cond_true, Option.some.injEq] at hf
    have hfe := Nat.eq_of_beq_eq_true h5
    subst hf hfe
    exact ansEq_ok hb
  | false => rw [h5] at hf; cases hf
theorem conW_stab {base : Nat} {tk : Toks} {kX : List Value → Bool} {V : Value} : @ConStab (frnOf base tk (conW l cs kX V)) := fun g gg hf args h u rows k nid row he hlt hn => by
  have hf : conW l cs kX V g = some gg := hf
  have hga : ∀ {x : Value} {rows : List (List Value)} {k : Bool}, gDv l cs kX V args h = some (x, rows, k) → gDv l cs kX V args (h.set nid (some row)) = some (x, rows, k) := fun he => by
    unfold gDv at he ⊢
    split at he
    · rename_i xs b l1 c1
      split at he
      · rename_i r hr
        simp only [getD_set hn hr]
        exact he
      · cases he
    · cases he
  unfold conW at hf
  cases h1 : Nat.beq g 14 with
  | true =>
    rw [h1, cond_true, Option.some.injEq] at hf
    subst hf
    exact hga he
  | false =>
  rw [h1, cond_false] at hf
  cases h2 : Nat.beq g 16 with
  | true =>
    rw [h2, cond_true, Option.some.injEq] at hf
    subst hf
    exact hga he
  | false =>
  rw [h2, cond_false] at hf
  cases h3 : Nat.beq g 6 with
  | true =>
    rw [h3, cond_true, Option.some.injEq] at hf
    subst hf
    exact he
  | false =>
  rw [h3, cond_false] at hf
  cases h4 : Nat.beq g 8 with
  | true =>
    rw [h4, cond_true, Option.some.injEq] at hf
    subst hf
    exact ansTo_stab he
  | false =>
  rw [h4, cond_false] at hf
  cases h5 : Nat.beq g 11 with
  | true =>
    rw [h5, cond_true, Option.some.injEq] at hf
    subst hf
    exact ansEq_stab he hn
  | false => rw [h5] at hf; cases hf
theorem orcWOk {ι : Frn} : ∀ p ∈ orcW kT, @OrcOne ι Try.prog p.1 p.2 := all_cons tg_one (all_cons (orc_any sf_one sfO_bare) all_nil)
/-! ### the law -/
theorem law_calls {w : World} {x v : Value} {d : Nat} {n : Int} (hx : ∀ ι μ, @VR ι μ (.agg (Lg.gr z f).toArray) x) (hv : RowIn w v l cs) (hb : rowsB samK l cs = true) (hl : l ≤ 9223372036854775807)
    (hs : AnsD 14 (.agg (Lg.gr z f).toArray) l cs (ansD d n)) (hi : AnsD 16 (.agg (Lg.gr z f).toArray) l cs (ansD d n)) :
    Calls Try.prog 5 #[x, v] w fun e w' => e = .returned (.bool true) ∧ Below w.heap.size w w' := by
  obtain ⟨a, c, rfl, _⟩ := id hv
  let ι : Frn := frnOf w.heap.size [(.slice a l c, l, cs)] (conW l cs (kXf z f) (ansD d n))
  have hw : @FrnIn ι w := frn_in fun k v' l' cs' hk => by
    match k, hk with
    | 0, hk => cases hk; exact hv
  have ht : @VR ι Mu.nil (tok 0 l c) (.slice a l c) := tok_VR (ts := [(.slice a l c, l, cs)]) rfl hv
  have hE : @EnvOk ι (@EW ι kT) := @conE_ok ι _ _ _ mixed (@noExt ι _) (@orc_list ι _ _ orcWOk) (conW_ok hb hs hi) conW_stab
  have he : (@codeK ι (@EW ι kT) 60 lC (startS Try.f5 [.agg (Lg.gr z f).toArray, tok 0 l c] []) (@finK ι Try.prog Try.f5)).map eraseH = some (.bool true, [], true) := by
    rw [@codeK_map ι]
    refine (law_eval w.heap.size l c (.slice a l c) cs d n z f kT (kXf z f)).trans ?_
    by_cases hn : szAll l < 0
    · rw [decide_eq_true hn, cond_true]
    · have hl' : l ≤ 1048576 := szAll_le hl (by omega)
      have k3 : kTo l = true := isB_of hl'
      have k4 : kEq l cs = true := isB_of ⟨⟨hl', rfl, rfl⟩, rfl, rfl⟩
      have e3 : isB (l ≤ 1048576) = true := isB_of hl'
      have e5 : isB (dvP l cs l l cs) = true := isB_of ⟨rfl, rfl, Nat.le_refl _⟩
      have e6 : kXf z f (Lg.gr z f) = true := isB_of rfl
      have e7 : kT (Lg.gr z f) = true := isB_of ⟨z, f, rfl⟩
      unfold lawR
      rw [decide_eq_false hn, cond_false, bne_self_eq_false, cond_false, k3, k4, e3, e5, e6, e7, Nat.beq_refl]; rfl
  obtain ⟨r, hr, hr2⟩ := Option.map_eq_some_iff.1 he
  obtain ⟨y, H, k⟩ := r
  simp only [eraseH, Prod.mk.injEq] at hr2
  obtain ⟨rfl, _, rfl⟩ := hr2
  refine (con_calls ι hE mixed Try.func5 l_body l_ok hr hw (@VRL.cons ι _ _ _ _ _ (hx ι Mu.nil) (@VRL.cons ι _ _ _ _ _ ht (@VRL.nil ι _)))).mono fun e w' hx' => ?_
  obtain ⟨y, μ', rfl, hy, hh, hbl⟩ := hx'
  rw [@VR.bool_inv ι _ _ _ hy]
  exact ⟨rfl, hbl⟩
end
end Dr
end Go.Proofs.Ytljmhdaphpdkgaa
end
