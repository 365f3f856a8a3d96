/-
  A law over one slice of samples whose functions answer one value: the law's own code, over contracts. No condition.
-/
import Derived.Test.YtljmhdaphpdkgaaKh
set_option linter.unusedSectionVars false
noncomputable section
namespace Go.Proofs.Ytljmhdaphpdkgaa
open Go Go.ChangeShapes Go.WideShapes Go.ChangeAt Go.RowKit Ev

def isB (p : Prop) : Bool := @decide p (Classical.propDecidable p)
theorem isB_of {p : Prop} (h : p) : isB p = true := @decide_eq_true _ (Classical.propDecidable p) h
theorem of_isB {p : Prop} (h : isB p = true) : p := @of_decide_eq_true _ (Classical.propDecidable p) h
/-- what a function answers to samples in new memory -/
def ansV (l : Nat) (cs : List Value) (V : Value) : List Value → Heap → Option (Value × List (List Value) × Bool) := fun args h => match args with
  | [.slice (some ⟨b, 0, none⟩) l' c'] => match h.getD b none with
    | some r => some (V, [], isB (r = cs ∧ l' = l ∧ l' ≤ c'))
    | none => none
  | _ => none
def ansSz (l : Nat) : List Value → Heap → Option (Value × List (List Value) × Bool) := fun args _ => match args with
  | [.slice (some ⟨0, 0, some 0⟩) _ _, .int .i64 left] => some (.int .i64 (szAll l), [], decide (left = 1048576))
  | _ => none
def ansTo (l : Nat) (cs : List Value) : List Value → Heap → Option (Value × List (List Value) × Bool) := fun args h => match args with
  | [.slice (some ⟨0, 0, some 0⟩) _ _] => some (loc h.length l, [cs], isB (l ≤ 1048576))
  | _ => none
def ansEq (l : Nat) (cs : List Value) : List Value → Heap → Option (Value × List (List Value) × Bool) := fun args h => match args with
  | [.slice (some ⟨b, 0, none⟩) l1 _, .slice (some ⟨b', 0, none⟩) l2 _] => match h.getD b none, h.getD b' none with
    | some r, some r' => some (.bool true, [], isB ((l ≤ 1048576 ∧ r = cs ∧ l1 = l) ∧ r' = cs ∧ l2 = l))
    | _, _ => none
  | _ => none
def conL (fs fi : Nat) (l : Nat) (cs : List Value) (V : Value) (f : FuncId) : Option (List Value → Heap → Option (Value × List (List Value) × Bool)) :=
  bif Nat.beq f fs then some (ansV l cs V) else bif Nat.beq f fi then some (ansV l cs V) else
  bif Nat.beq f 6 then some (ansSz l) else bif Nat.beq f 8 then some (ansTo l cs) else
  bif Nat.beq f 11 then some (ansEq l cs) else none
noncomputable abbrev ETl [Frn] : Env := conE Try.prog noOrc (fun f => seek f [])
noncomputable def lawC : Code := (Try.f4.body.getD .skip)
theorem law_body : Try.f4.body = some lawC := by kernel_rfl
theorem law_ok : codeOk lawC = true := by kernel_rfl
def kTo (l : Nat) : Bool := isB (l ≤ 1048576)
def kV (l : Nat) (cs : List Value) : Bool := isB (cs = cs ∧ l = l ∧ l ≤ l)
def kEq (l : Nat) (cs : List Value) : Bool := isB ((l ≤ 1048576 ∧ cs = cs ∧ l = l) ∧ cs = cs ∧ l = l)
noncomputable abbrev conX (l : Nat) (cs : List Value) (b : Bool) := conL 12 13 l cs (.bool b)
theorem law_eval (base : Nat) (v : Value) (l c : Nat) (cs : List Value) (b : Bool) :
    (@codeK (frnOf base [(v, l, cs)] (conX l cs b)) (@ETl (frnOf base [(v, l, cs)] (conX l cs b))) 60 lawC (startS Try.f4 [tok 0 l c] []) (fun e s => (@finK (frnOf base [(v, l, cs)] (conX l cs b)) Try.prog Try.f4 e s).map eraseH)) =
      bif decide (szAll l < 0) then some (.bool true, [], true)
      else bif (b != b) then some (.bool false, [], kV l cs && (kTo l && (kV l cs && (kTo l && true))))
      else some (.bool true, [], kEq l cs && (kTo l && (kV l cs && (kTo l && (kV l cs && (kTo l && true)))))) := by kernel_rfl

/-! ### The contracts hold -/
/-- a function answers a value to every slice with this row -/
def RowC (w : World) (v : Value) (l : Nat) (cs : List Value) : Prop := RowIn w v l cs ∧ ∀ a l' c, v = .slice a l' c → l' ≤ c
/-- a slice that came in, as one that may be cut -/
abbrev tokC (k l c : Nat) : Value := .slice (some ⟨k, 0, some 1⟩) l c
theorem tokC_VR {w : World} {base : Nat} {ts : Toks} {con : FuncId → Option (List Value → Heap → Option (Value × List (List Value) × Bool))} {μ : Mu} {k l c : Nat} {v : Value} {cs : List Value} (hk : ts[k]? = some (v, l, cs)) (h : RowC w v l cs) :
    @VR (frnOf base ts con) μ (tokC k l c) v := by
  obtain ⟨⟨a, c', rfl, h1, _⟩, h2⟩ := h
  exact @VR.sliceP (frnOf base ts con) μ k 0 l c a c' (h2 _ _ _ rfl) fun h0 => by
    obtain ⟨b, o, rfl⟩ := h1 h0
    exact ⟨b, o, l, c', ⟨l, cs, hk, _, _, rfl, h1⟩, rfl⟩
def AnsF (f : Nat) (l : Nat) (cs : List Value) (V : Value) : Prop := ∀ (w : World) (v : Value), RowC w v l cs → Calls Try.prog f #[v] w fun e w' => e = .returned V ∧ Below w.heap.size w w'
def ConSpec (ι : Frn) (f : FuncId) (g : List Value → Heap → Option (Value × List (List Value) × Bool)) : Prop :=
  hasBody Try.prog f = true ∧ ∀ args h v rows, g args h = some (v, rows, true) → ∀ μ cargs w B, @VRL ι μ args cargs → @HeapR ι μ h w B → B ≤ w.heap.size →
    Calls Try.prog f cargs.toArray w fun e w' => ∃ v' μ', e = .returned v' ∧ Sub μ μ' ∧ @VR ι μ' v v' ∧ @HeapR ι μ' (h ++ rows.map some) w' B ∧ Below B w w'
theorem vrl_none {ι : Frn} {μ : Mu} {ys : List Value} (h : @VRL ι μ [] ys) : ys = [] := by
  match ys, h with
  | [], _ => rfl
  | _ :: _, h => exact absurd h.1 (by simp)
theorem vrl_cons {ι : Frn} {μ : Mu} {x : Value} {xs ys : List Value} (h : @VRL ι μ (x :: xs) ys) : ∃ y zs, ys = y :: zs ∧ @VR ι μ x y ∧ @VRL ι μ xs zs := by
  match ys, h with
  | [], h => exact absurd h.1 (by simp)
  | y :: zs, h => exact ⟨y, zs, rfl, @VRL.head ι _ _ _ _ _ h, @VRL.tail ι _ _ _ _ _ h⟩
theorem ansV_ok {ι : Frn} {f l : Nat} {cs : List Value} {b : Bool} (hf : hasBody Try.prog f = true) (hb : cs.all bareC = true) (hans : AnsF f l cs (.bool b)) : ConSpec ι f (ansV l cs (.bool b)) := ⟨hf, fun args h v rows he μ cargs w B ha hh hB => by
  unfold ansV at he
  split at he
  · rename_i bl l' c'
    split at he
    · rename_i r hr
      simp only [Option.some.injEq, Prod.mk.injEq] at he
      obtain ⟨rfl, rfl, hk⟩ := he
      obtain ⟨hr1, hr2, hr4⟩ := of_isB hk
      rw [hr1] at hr
      subst hr2
      obtain ⟨u, ys, rfl, hu, h2⟩ := vrl_cons ha
      rw [vrl_none h2]
      have hrow := local_row hh hu hr hb
      rw [List.drop_zero] at hrow
      have hcap : ∀ a l0 c0, u = .slice a l0 c0 → l0 ≤ c0 := fun a l0 c0 e => by
        obtain ⟨b2, c2, e2, _, hcr⟩ := @VR.slice_inv ι _ _ _ _ _ _ hu
        rw [e2] at e
        cases e
        exact Nat.le_trans hr4 hcr.le
      refine (hans w u ⟨hrow, hcap⟩).mono fun e w' hx => ?_
      obtain ⟨rfl, hbl⟩ := hx
      refine ⟨_, μ, rfl, Sub.refl μ, @VR.bool ι μ b, ?_, hbl.mono hB⟩
      rw [List.map_nil, List.append_nil]
      exact @HeapR.keep ι _ _ _ _ _ hh hB hbl
    · cases he
  · cases he⟩
theorem ansSz_ok {base : Nat} {v : Value} {l : Nat} {cs : List Value} {con : FuncId → Option (List Value → Heap → Option (Value × List (List Value) × Bool))} (hb : rowsB samK l cs = true) :
    ConSpec (frnOf base [(v, l, cs)] con) 6 (ansSz l) := ⟨by kernel_rfl, fun args h q rows he μ cargs w B ha hh hB => by
  unfold ansSz at he
  split at he
  · rename_i l' c' left
    simp only [Option.some.injEq, Prod.mk.injEq, decide_eq_true_eq] at he
    obtain ⟨rfl, rfl, rfl⟩ := he
    obtain ⟨u, ys, rfl, hu, h2⟩ := vrl_cons ha
    obtain ⟨y', ys, rfl, hy', h3⟩ := vrl_cons h2
    rw [vrl_none h3]
    rw [@VR.int_inv (frnOf base [(v, l, cs)] con) _ _ _ _ hy']
    obtain ⟨r1, _, _⟩ := tok_row (k := 0) hh hB rfl (rowsB_bare (by decide) hb) hu
    refine (szS_calls r1).mono fun e w' hx => ?_
    obtain ⟨rfl, hbl⟩ := hx
    refine ⟨_, μ, rfl, Sub.refl μ, @VR.int (frnOf base [(v, l, cs)] con) μ _ _, ?_, hbl.mono hB⟩
    rw [List.map_nil, List.append_nil]
    exact @HeapR.keep (frnOf base [(v, l, cs)] con) _ _ _ _ _ hh hB hbl
  · cases he⟩
theorem ansTo_ok {base : Nat} {v : Value} {l : Nat} {cs : List Value} {con : FuncId → Option (List Value → Heap → Option (Value × List (List Value) × Bool))} (hb : rowsB samK l cs = true) :
    ConSpec (frnOf base [(v, l, cs)] con) 8 (ansTo l cs) := ⟨by kernel_rfl, fun args h q rows he μ cargs w B ha hh hB => by
  unfold ansTo at he
  split at he
  · rename_i l' c'
    simp only [Option.some.injEq, Prod.mk.injEq] at he
    obtain ⟨rfl, rfl, hk⟩ := he
    have hl := of_isB hk
    obtain ⟨u, ys, rfl, hu, h2⟩ := vrl_cons ha
    rw [vrl_none h2]
    obtain ⟨r1, _, _⟩ := tok_row (k := 0) hh hB rfl (rowsB_bare (by decide) hb) hu
    refine (toS_calls r1 hb hl).mono fun e w' hx => ?_
    obtain ⟨u', rfl, hnew, hbl⟩ := hx
    obtain ⟨μ', g1, g2, g3⟩ := heap_new hh hB hbl hnew
    exact ⟨_, μ', rfl, g1, g2, g3, hbl.mono hB⟩
  · cases he⟩
theorem ansEq_ok {ι : Frn} {l : Nat} {cs : List Value} (hb : rowsB samK l cs = true) :
    ConSpec ι 11 (ansEq l cs) := ⟨by kernel_rfl, fun args h q rows he μ cargs w B ha hh hB => by
  unfold ansEq at he
  split at he
  · rename_i b1 l1 c1 b2 l2 c2
    split at he
    · rename_i r r' hr hr'
      simp only [Option.some.injEq, Prod.mk.injEq] at he
      obtain ⟨rfl, rfl, hk⟩ := he
      obtain ⟨⟨hl, e1, e2⟩, e4, e5⟩ := of_isB hk
      rw [e1] at hr
      rw [e4] at hr'
      subst e2
      subst e5
      obtain ⟨u, zs, rfl, hu, h2⟩ := vrl_cons ha
      obtain ⟨u', zs, rfl, hu', h3⟩ := vrl_cons h2
      rw [vrl_none h3]
      have hrow := local_row hh hu hr (rowsB_bare (by decide) hb)
      have hrow' := local_row hh hu' hr' (rowsB_bare (by decide) hb)
      rw [List.drop_zero] at hrow hrow'
      refine (eqS_calls hrow hrow' hb hl).mono fun e w' hx => ?_
      obtain ⟨rfl, hbl⟩ := hx
      refine ⟨_, μ, rfl, Sub.refl μ, @VR.bool ι μ true, ?_, hbl.mono hB⟩
      rw [List.map_nil, List.append_nil]
      exact @HeapR.keep ι _ _ _ _ _ hh hB hbl
    · cases he
  · cases he⟩
theorem getD_set {h : Heap} {nid b : Nat} {row r : List Value} (hn : h.getD nid none = none) (hr : h.getD b none = some r) : (h.set nid (some row)).getD b none = some r := by
  have hne : nid ≠ b := by
    rintro rfl
    rw [hr] at hn
    cases hn
  rw [List.getD_eq_getElem?_getD, List.getElem?_set_ne hne, ← List.getD_eq_getElem?_getD]
  exact hr
theorem ansV_stab {l : Nat} {cs : List Value} {V : Value} {args : List Value} {h : Heap} {u : Value} {rows : List (List Value)} {k : Bool} {nid : Nat} {row : List Value} (he : ansV l cs V args h = some (u, rows, k)) (hn : h.getD nid none = none) : ansV l cs V args (h.set nid (some row)) = some (u, rows, k) := by
  unfold ansV at he ⊢
  split at he
  · split at he
    · rename_i r hr
      simp only [getD_set hn hr]
      exact he
    · cases he
  · cases he
theorem ansTo_stab {l : Nat} {cs : List Value} {args : List Value} {h : Heap} {u : Value} {rows : List (List Value)} {k : Bool} {nid : Nat} {row : List Value} (he : ansTo l cs args h = some (u, rows, k)) : ansTo l cs args (h.set nid (some row)) = some (u, rows, k) := by
  unfold ansTo at he ⊢
  rw [List.length_set]
  exact he
theorem ansEq_stab {l : Nat} {cs : List Value} {args : List Value} {h : Heap} {u : Value} {rows : List (List Value)} {k : Bool} {nid : Nat} {row : List Value} (he : ansEq l cs args h = some (u, rows, k)) (hn : h.getD nid none = none) : ansEq l cs args (h.set nid (some row)) = some (u, rows, k) := by
  unfold ansEq at he ⊢
  split at he
  · split at he
    · rename_i r r' hr hr'
      simp only [getD_set hn hr, getD_set hn hr']
      exact he
    · cases he
  · cases he
theorem conL_stab {base : Nat} {tk : Toks} {fs fi l : Nat} {cs : List Value} {V : Value} : @ConStab (frnOf base tk (conL fs fi l cs V)) := fun f g hf args h u rows k nid row he hlt hn => by
  have hf : conL fs fi l cs V f = some g := hf
  unfold conL at hf
  cases h1 : Nat.beq f fs with
  | true =>
    rw [h1, cond_true, Option.some.injEq] at hf
    subst hf
    exact ansV_stab he hn
  | false =>
  rw [h1, cond_false] at hf
  cases h2 : Nat.beq f fi with
  | true =>
    rw [h2, cond_true, Option.some.injEq] at hf
    subst hf
    exact ansV_stab he hn
  | false =>
  rw [h2, cond_false] at hf
  cases h3 : Nat.beq f 6 with
  | true =>
    rw [h3, cond_true, Option.some.injEq] at hf
    subst hf
    exact he
  | false =>
  rw [h3, cond_false] at hf
  cases h4 : Nat.beq f 8 with
  | true =>
    rw [h4, cond_true, Option.some.injEq] at hf
    subst hf
    exact ansTo_stab he
  | false =>
  rw [h4, cond_false] at hf
  cases h5 : Nat.beq f 11 with
  | true =>
    rw [h5, cond_true, Option.some.injEq] at hf
    subst hf
    exact ansEq_stab he hn
  | false => rw [h5] at hf; cases hf
theorem conL_ok {base : Nat} {v : Value} {fs fi l : Nat} {cs : List Value} {b : Bool} (hb : rowsB samK l cs = true) (hfs : hasBody Try.prog fs = true) (hfi : hasBody Try.prog fi = true)
    (hs : AnsF fs l cs (.bool b)) (hi : AnsF fi l cs (.bool b)) : @ConOk (frnOf base [(v, l, cs)] (conL fs fi l cs (.bool b))) Try.prog := fun f g hf => by
  have hf : conL fs fi l cs (.bool b) f = some g := hf
  unfold conL at hf
  cases h1 : Nat.beq f fs with
  | true =>
    rw [h1, cond_true, Option.some.injEq] at hf
    have hfe := Nat.eq_of_beq_eq_true h1
    subst hf hfe
    exact ansV_ok hfs (rowsB_bare (by decide) hb) hs
  | false =>
  rw [h1, cond_false] at hf
  cases h2 : Nat.beq f fi with
  | true =>
    rw [h2, cond_true, Option.some.injEq] at hf
    have hfe := Nat.eq_of_beq_eq_true h2
    subst hf hfe
    exact ansV_ok hfi (rowsB_bare (by decide) hb) hi
  | false =>
  rw [h2, cond_false] at hf
  cases h3 : Nat.beq f 6 with
  | true =>
    rw [h3, cond_true, Option.some.injEq] at hf
    have hfe := Nat.eq_of_beq_eq_true h3
    subst hf hfe
    exact ansSz_ok hb
  | false =>
  rw [h3, cond_false] at hf
  cases h4 : Nat.beq f 8 with
  | true =>
    rw [h4, cond_true, Option.some.injEq] at hf
    have hfe := Nat.eq_of_beq_eq_true h4
    subst hf hfe
    exact ansTo_ok hb
  | false =>
  rw [h4, cond_false] at hf
  cases h5 : Nat.beq f 11 with
  | true =>
    rw [h5, cond_true, Option.some.injEq] at hf
    have hfe := Nat.eq_of_beq_eq_true h5
    subst hf hfe
    exact ansEq_ok hb
  | false => rw [h5] at hf; cases hf

/-! ### The law -/
theorem law_calls {w : World} {v : Value} {l : Nat} {cs : List Value} {b : Bool} (hv : RowIn w v l cs) (hb : rowsB samK l cs = true) (hl : l ≤ 9223372036854775807)
    (hs : AnsF 12 l cs (.bool b)) (hi : AnsF 13 l cs (.bool b)) :
    Calls Try.prog 4 #[v] w fun e w' => e = .returned (.bool true) ∧ Below w.heap.size w w' := by
  obtain ⟨a, c, rfl, _⟩ := id hv
  let ι : Frn := frnOf w.heap.size [(.slice a l c, l, cs)] (conX l cs b)
  have hw : @FrnIn ι w := frn_in fun k v' l' cs' hk => by
    match k, hk with
    | 0, hk => cases hk; exact hv
  have ht : @VR ι Mu.nil (tok 0 l c) (.slice a l c) := tok_VR (ts := [(.slice a l c, l, cs)]) rfl hv
  have hE : @EnvOk ι (@ETl ι) := @conE_ok ι _ _ _ mixed (@noExt ι _) (@orc_list ι _ [] all_nil) (conL_ok hb (by kernel_rfl) (by kernel_rfl) hs hi) conL_stab
  have he : (@codeK ι (@ETl ι) 60 lawC (startS Try.f4 [tok 0 l c] []) (@finK ι Try.prog Try.f4)).map eraseH = some (.bool true, [], true) := by
    rw [@codeK_map ι]
    refine (law_eval w.heap.size (.slice a l c) l c cs b).trans ?_
    have k2 : kV l cs = true := isB_of ⟨rfl, rfl, Nat.le_refl _⟩
    by_cases hn : szAll l < 0
    · rw [decide_eq_true hn, cond_true]
    · have hl' : l ≤ 1048576 := szAll_le hl (by omega)
      have k3 : kTo l = true := isB_of hl'
      have k4 : kEq l cs = true := isB_of ⟨⟨hl', rfl, rfl⟩, rfl, rfl⟩
      rw [decide_eq_false hn, cond_false, bne_self_eq_false, cond_false, k2, k3, k4]; rfl
  obtain ⟨r, hr, hr2⟩ := Option.map_eq_some_iff.1 he
  obtain ⟨x, H, k⟩ := r
  simp only [eraseH, Prod.mk.injEq] at hr2
  obtain ⟨rfl, _, rfl⟩ := hr2
  refine (con_calls ι hE mixed Try.func4 law_body law_ok hr hw (@VRL.cons ι _ _ _ _ _ ht (@VRL.nil ι _))).mono fun e w' hx => ?_
  obtain ⟨y, μ', rfl, hy, hh, hbl⟩ := hx
  rw [@VR.bool_inv ι _ _ _ hy]
  exact ⟨rfl, hbl⟩
end Go.Proofs.Ytljmhdaphpdkgaa
end
