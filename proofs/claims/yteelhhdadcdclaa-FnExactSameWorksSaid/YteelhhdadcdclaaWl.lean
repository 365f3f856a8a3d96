/-
  A law over one shelf whose functions answer one value: the law's own code, over contracts. No condition.
-/
import Derived.Test.YteelhhdadcdclaaWi
set_option linter.unusedSectionVars false
noncomputable section
namespace Go.Proofs.Yteelhhdadcdclaa
open Go Go.ChangeShapes Go.WideShapes Go.ChangeAt Go.RowKit Ev

def isB (p : Prop) : Bool := @decide p (Classical.propDecidable p)
theorem isB_of {p : Prop} (h : p) : isB p = true := @decide_eq_true _ (Classical.propDecidable p) h
theorem of_isB {p : Prop} (h : isB p = true) : p := @of_decide_eq_true _ (Classical.propDecidable p) h
/-- what a function answers to works in new memory -/
def ansV (l : Nat) (cs : List Value) (ts : Int) (V : Value) : List Value → Heap → Option (Value × List (List Value) × Bool) := fun args h => match args with
  | [.agg xs] => match xs.toList with
    | .int .i64 ts' :: .slice (some ⟨b, 0, none⟩) l' c' :: [] => match h.getD b none with
      | some r => some (V, [], isB (r = cs ∧ l' = l ∧ ts' = ts ∧ l' ≤ c'))
      | none => none
    | _ => none
  | _ => none
def ansSz (l : Nat) (cs : List Value) (ts : Int) : List Value → Heap → Option (Value × List (List Value) × Bool) := fun args _ => match args with
  | [.agg xs, .int .i64 left] => match xs.toList with
    | .int .i64 ts' :: .slice (some ⟨0, 0, some 0⟩) _ _ :: [] => some (.int .i64 (szShV l cs), [], decide (left = 1048576) && isB (ts' = ts))
    | _ => none
  | _ => none
def ansTo (l : Nat) (cs : List Value) (ts : Int) : List Value → Heap → Option (Value × List (List Value) × Bool) := fun args h => match args with
  | [.agg xs] => match xs.toList with
    | .int .i64 ts' :: .slice (some ⟨0, 0, some 0⟩) _ _ :: [] => some (works (loc h.length l) (rooms ts), [cs], isB (l ≤ 1048576 ∧ ts' = ts))
    | _ => none
  | _ => none
def ansEq (l : Nat) (cs : List Value) (ts : Int) : List Value → Heap → Option (Value × List (List Value) × Bool) := fun args h => match args with
  | [.agg xs, .agg ys] => match xs.toList, ys.toList with
    | .int .i64 ts1 :: .slice (some ⟨b, 0, none⟩) l1 _ :: [], .int .i64 ts2 :: .slice (some ⟨b', 0, none⟩) l2 _ :: [] => match h.getD b none, h.getD b' none with
      | some r, some r' => some (.bool true, [], isB ((l ≤ 1048576 ∧ r = cs ∧ l1 = l ∧ ts1 = ts) ∧ r' = cs ∧ l2 = l ∧ ts2 = ts))
      | _, _ => none
    | _, _ => none
  | _ => none
def conL (fs fi : Nat) (l : Nat) (cs : List Value) (ts : Int) (V : Value) (f : FuncId) : Option (List Value → Heap → Option (Value × List (List Value) × Bool)) :=
  bif Nat.beq f fs then some (ansV l cs ts V) else bif Nat.beq f fi then some (ansV l cs ts V) else
  bif Nat.beq f 5 then some (ansSz l cs ts) else bif Nat.beq f 7 then some (ansTo l cs ts) else
  bif Nat.beq f 9 then some (ansEq l cs ts) else none
noncomputable abbrev ETl [Frn] : Env := conE Try.prog noOrc (fun f => seek f noneR)
noncomputable def lawC : Code := (Try.f3.body.getD .skip)
theorem law_body : Try.f3.body = some lawC := by kernel_rfl
theorem law_ok : codeOk lawC = true := by kernel_rfl
def kSz (ts : Int) : Bool := isB (ts = ts)
def kTo (l : Nat) (ts : Int) : Bool := isB (l ≤ 1048576 ∧ ts = ts)
def kV (l : Nat) (cs : List Value) (ts : Int) : Bool := isB (cs = cs ∧ l = l ∧ ts = ts ∧ l ≤ l)
def kEq (l : Nat) (cs : List Value) (ts : Int) : Bool := isB ((l ≤ 1048576 ∧ cs = cs ∧ l = l ∧ ts = ts) ∧ cs = cs ∧ l = l ∧ ts = ts)
noncomputable abbrev conX (l : Nat) (cs : List Value) (ts : Int) (b : Bool) := conL 6 8 l cs ts (.bool b)
theorem law_eval (base : Nat) (v : Value) (l c : Nat) (cs : List Value) (t0 : Int) (b : Bool) :
    (@codeK (frnOf base [(v, l, cs)] (conX l cs t0 b)) (@ETl (frnOf base [(v, l, cs)] (conX l cs t0 b))) 60 lawC (startS Try.f3 [works (tok 0 l c) (rooms t0)] []) (fun e s => (@finK (frnOf base [(v, l, cs)] (conX l cs t0 b)) Try.prog Try.f3 e s).map eraseH)) =
      bif decide (szShV l cs < 0) then some (.bool true, [], kSz t0 && true)
      else bif (b != b) then some (.bool false, [], kV l cs t0 && (kTo l t0 && (kV l cs t0 && (kTo l t0 && (kSz t0 && true)))))
      else some (.bool true, [], (kEq l cs t0 && true) && ((kTo l t0 && true) && (kV l cs t0 && (kTo l t0 && (kV l cs t0 && (kTo l t0 && (kSz t0 && true))))))) := by kernel_rfl

/-! ### The contracts hold -/
/-- a function answers a value to every shelf with this row -/
def RowC (w : World) (v : Value) (l : Nat) (cs : List Value) : Prop := RowIn w v l cs ∧ ∀ a l' c, v = .slice a l' c → l' ≤ c
/-- a slice that came in, as one that may be cut -/
abbrev tokC (k l c : Nat) : Value := .slice (some ⟨k, 0, some 1⟩) l c
theorem tokC_VR {w : World} {base : Nat} {ts : Toks} {con : FuncId → Option (List Value → Heap → Option (Value × List (List Value) × Bool))} {μ : Nat → Option Nat} {k l c : Nat} {v : Value} {cs : List Value} (hk : ts[k]? = some (v, l, cs)) (h : RowC w v l cs) :
    @VR (frnOf base ts con) μ (tokC k l c) v := by
  obtain ⟨⟨a, c', rfl, h1, _⟩, h2⟩ := h
  exact @VR.sliceP (frnOf base ts con) μ k 0 l c a c' (h2 _ _ _ rfl) fun h0 => by
    obtain ⟨b, o, rfl⟩ := h1 h0
    exact ⟨b, o, l, c', ⟨l, cs, hk, _, _, rfl, h1⟩, rfl⟩
def AnsF (f : Nat) (l : Nat) (cs : List Value) (ts : Int) (V : Value) : Prop := ∀ (w : World) (v : Value), RowC w v l cs → Calls Try.prog f #[works v (rooms ts)] w fun e w' => e = .returned V ∧ Below w.heap.size w w'
def ConSpec (ι : Frn) (f : FuncId) (g : List Value → Heap → Option (Value × List (List Value) × Bool)) : Prop :=
  hasBody Try.prog f = true ∧ ∀ args h v rows, g args h = some (v, rows, true) → ∀ μ cargs w B, @VRL ι μ args cargs → @HeapR ι μ h w B → B ≤ w.heap.size →
    Calls Try.prog f cargs.toArray w fun e w' => ∃ v' μ', e = .returned v' ∧ Sub μ μ' ∧ @VR ι μ' v v' ∧ @HeapR ι μ' (h ++ rows.map some) w' B ∧ Below B w w'
theorem vrl_none {ι : Frn} {μ : Nat → Option Nat} {ys : List Value} (h : @VRL ι μ [] ys) : ys = [] := by
  match ys, h with
  | [], _ => rfl
  | _ :: _, h => exact absurd h.1 (by simp)
theorem ansV_ok {ι : Frn} {f l : Nat} {cs : List Value} {t0 : Int} {b : Bool} (hf : hasBody Try.prog f = true) (hb : cs.all bareC = true) (hans : AnsF f l cs t0 (.bool b)) : ConSpec ι f (ansV l cs t0 (.bool b)) := ⟨hf, fun args h v rows he μ cargs w B ha hh hB => by
  unfold ansV at he
  split at he
  · rename_i xs
    split at he
    · rename_i ts' bl l' c' hx
      split at he
      · rename_i r hr
        simp only [Option.some.injEq, Prod.mk.injEq] at he
        obtain ⟨rfl, rfl, hk⟩ := he
        obtain ⟨hr1, hr2, hr3, hr4⟩ := of_isB hk
        rw [hr1] at hr
        rw [hr2] at hr4
        rw [hr2, hr3] at hx
        obtain ⟨y, ys, rfl, hy, h2⟩ := vrl_cons ha
        rw [vrl_none h2]
        have hxs : xs = ([Value.int .i64 t0, Value.slice (some ⟨bl, 0, none⟩) l c'] : List Value).toArray := Array.ext' hx
        subst hxs
        obtain ⟨u, rfl, hu⟩ := works_inv (u := .slice (some ⟨bl, 0, none⟩) l c') hy
        have hrow := local_row hh hu hr hb
        rw [List.drop_zero] at hrow
        have hcap : ∀ a l0 c0, u = .slice a l0 c0 → l0 ≤ c0 := fun a l0 c0 e => by
          obtain ⟨b2, e2, _⟩ := @VR.slice_inv ι _ _ _ _ _ _ hu
          rw [e2] at e
          cases e
          exact hr4
        refine (hans w u ⟨hrow, hcap⟩).mono fun e w' hx => ?_
        obtain ⟨rfl, hbl⟩ := hx
        refine ⟨_, μ, rfl, Sub.refl μ, @VR.bool ι μ b, ?_, hbl.mono hB⟩
        rw [List.map_nil, List.append_nil]
        exact @HeapR.keep ι _ _ _ _ _ hh hB hbl
      · cases he
    · cases he
  · cases he⟩
theorem ansSz_ok {base : Nat} {v : Value} {l : Nat} {cs : List Value} {con : FuncId → Option (List Value → Heap → Option (Value × List (List Value) × Bool))} {t0 : Int} (hb : rowsB batK l cs = true) (hl : l ≤ 9223372036854775807) :
    ConSpec (frnOf base [(v, l, cs)] con) 5 (ansSz l cs t0) := ⟨by kernel_rfl, fun args h q rows he μ cargs w B ha hh hB => by
  unfold ansSz at he
  split at he
  · rename_i xs left
    split at he
    · rename_i ts' l' c' hx
      simp only [Option.some.injEq, Prod.mk.injEq, Bool.and_eq_true, decide_eq_true_eq] at he
      obtain ⟨rfl, rfl, rfl, hk⟩ := he
      have hr3 := of_isB hk
      rw [hr3] at hx
      obtain ⟨y, ys, rfl, hy, h2⟩ := vrl_cons ha
      obtain ⟨y', ys, rfl, hy', h3⟩ := vrl_cons h2
      rw [vrl_none h3]
      rw [@VR.int_inv (frnOf base [(v, l, cs)] con) _ _ _ _ hy']
      have hxs : xs = ([Value.int .i64 t0, tok 0 l' c'] : List Value).toArray := Array.ext' hx
      subst hxs
      obtain ⟨u, rfl, hu⟩ := works_inv (u := tok 0 l' c') hy
      obtain ⟨r1, _, _⟩ := tok_row (k := 0) hh hB rfl (rowsB_bare (by decide) hb) hu
      refine (szSh_calls r1 hb hl t0).mono fun e w' hx => ?_
      obtain ⟨rfl, hbl⟩ := hx
      refine ⟨_, μ, rfl, Sub.refl μ, @VR.int (frnOf base [(v, l, cs)] con) μ _ _, ?_, hbl.mono hB⟩
      rw [List.map_nil, List.append_nil]
      exact @HeapR.keep (frnOf base [(v, l, cs)] con) _ _ _ _ _ hh hB hbl
    · cases he
  · cases he⟩
theorem ansTo_ok {base : Nat} {v : Value} {l : Nat} {cs : List Value} {con : FuncId → Option (List Value → Heap → Option (Value × List (List Value) × Bool))} {t0 : Int} (hb : rowsB batK l cs = true) :
    ConSpec (frnOf base [(v, l, cs)] con) 7 (ansTo l cs t0) := ⟨by kernel_rfl, fun args h q rows he μ cargs w B ha hh hB => by
  unfold ansTo at he
  split at he
  · rename_i xs
    split at he
    · rename_i ts' l' c' hx
      simp only [Option.some.injEq, Prod.mk.injEq] at he
      obtain ⟨rfl, rfl, hk⟩ := he
      obtain ⟨hl, hr3⟩ := of_isB hk
      rw [hr3] at hx
      obtain ⟨y, ys, rfl, hy, h2⟩ := vrl_cons ha
      rw [vrl_none h2]
      have hxs : xs = ([Value.int .i64 t0, tok 0 l' c'] : List Value).toArray := Array.ext' hx
      subst hxs
      obtain ⟨u, rfl, hu⟩ := works_inv (u := tok 0 l' c') hy
      obtain ⟨r1, _, _⟩ := tok_row (k := 0) hh hB rfl (rowsB_bare (by decide) hb) hu
      refine (toSh_calls r1 hb hl t0).mono fun e w' hx => ?_
      obtain ⟨u', rfl, hnew, hbl⟩ := hx
      obtain ⟨μ', g1, g2, g3⟩ := heap_new hh hB hbl hnew
      exact ⟨_, μ', rfl, g1, works_vr g2, g3, hbl.mono hB⟩
    · cases he
  · cases he⟩
theorem ansEq_ok {ι : Frn} {l : Nat} {cs : List Value} {t0 : Int} (hb : rowsB batK l cs = true) :
    ConSpec ι 9 (ansEq l cs t0) := ⟨by kernel_rfl, fun args h q rows he μ cargs w B ha hh hB => by
  unfold ansEq at he
  split at he
  · rename_i xs ys
    split at he
    · rename_i ts1 b1 l1 c1 ts2 b2 l2 c2 hx hy
      split at he
      · rename_i r r' hr hr'
        simp only [Option.some.injEq, Prod.mk.injEq] at he
        obtain ⟨rfl, rfl, hk⟩ := he
        obtain ⟨⟨hl, e1, e2, e3⟩, e4, e5, e6⟩ := of_isB hk
        rw [e1] at hr
        rw [e4] at hr'
        rw [e2, e3] at hx
        rw [e5, e6] at hy
        obtain ⟨y, zs, rfl, hv1, h2⟩ := vrl_cons ha
        obtain ⟨y', zs, rfl, hv2, h3⟩ := vrl_cons h2
        rw [vrl_none h3]
        have hxs : xs = ([Value.int .i64 t0, Value.slice (some ⟨b1, 0, none⟩) l c1] : List Value).toArray := Array.ext' hx
        have hys : ys = ([Value.int .i64 t0, Value.slice (some ⟨b2, 0, none⟩) l c2] : List Value).toArray := Array.ext' hy
        subst hxs hys
        obtain ⟨u, rfl, hu⟩ := works_inv (u := .slice (some ⟨b1, 0, none⟩) l c1) hv1
        obtain ⟨u', rfl, hu'⟩ := works_inv (u := .slice (some ⟨b2, 0, none⟩) l c2) hv2
        have hrow := local_row hh hu hr (rowsB_bare (by decide) hb)
        have hrow' := local_row hh hu' hr' (rowsB_bare (by decide) hb)
        rw [List.drop_zero] at hrow hrow'
        refine (eqSh_calls hrow hrow' hb hl t0).mono fun e w' hx => ?_
        obtain ⟨rfl, hbl⟩ := hx
        refine ⟨_, μ, rfl, Sub.refl μ, @VR.bool ι μ true, ?_, hbl.mono hB⟩
        rw [List.map_nil, List.append_nil]
        exact @HeapR.keep ι _ _ _ _ _ hh hB hbl
      · cases he
    · cases he
  · cases he⟩

theorem getD_set {h : Heap} {nid b : Nat} {row r : List Value} (hn : h.getD nid none = none) (hr : h.getD b none = some r) : (h.set nid (some row)).getD b none = some r := by
  have hne : nid ≠ b := by
    rintro rfl
    rw [hr] at hn
    cases hn
  rw [List.getD_eq_getElem?_getD, List.getElem?_set_ne hne, ← List.getD_eq_getElem?_getD]
  exact hr
theorem ansV_stab {l : Nat} {cs : List Value} {ts : Int} {V : Value} {args : List Value} {h : Heap} {u : Value} {rows : List (List Value)} {k : Bool} {nid : Nat} {row : List Value} (he : ansV l cs ts V args h = some (u, rows, k)) (hn : h.getD nid none = none) : ansV l cs ts V args (h.set nid (some row)) = some (u, rows, k) := by
  unfold ansV at he ⊢
  split at he
  · rename_i xs
    split at he
    · rename_i ts' bl l' c' hx
      split at he
      · rename_i r hr
        simp only [getD_set hn hr]
        exact he
      · cases he
    · cases he
  · cases he
theorem ansSz_stab {l : Nat} {cs : List Value} {ts : Int} {args : List Value} {h : Heap} {u : Value} {rows : List (List Value)} {k : Bool} {nid : Nat} {row : List Value} (he : ansSz l cs ts args h = some (u, rows, k)) : ansSz l cs ts args (h.set nid (some row)) = some (u, rows, k) := he
theorem ansTo_stab {l : Nat} {cs : List Value} {ts : Int} {args : List Value} {h : Heap} {u : Value} {rows : List (List Value)} {k : Bool} {nid : Nat} {row : List Value} (he : ansTo l cs ts args h = some (u, rows, k)) : ansTo l cs ts args (h.set nid (some row)) = some (u, rows, k) := by
  unfold ansTo at he ⊢
  rw [List.length_set]
  exact he
theorem ansEq_stab {l : Nat} {cs : List Value} {ts : Int} {args : List Value} {h : Heap} {u : Value} {rows : List (List Value)} {k : Bool} {nid : Nat} {row : List Value} (he : ansEq l cs ts args h = some (u, rows, k)) (hn : h.getD nid none = none) : ansEq l cs ts args (h.set nid (some row)) = some (u, rows, k) := by
  unfold ansEq at he ⊢
  split at he
  · rename_i xs ys
    split at he
    · rename_i ts1 b1 l1 c1 ts2 b2 l2 c2 hx hy
      split at he
      · rename_i r r' hr hr'
        simp only [getD_set hn hr, getD_set hn hr']
        exact he
      · cases he
    · cases he
  · cases he
theorem conL_stab {base : Nat} {tk : Toks} {fs fi l : Nat} {cs : List Value} {ts : Int} {V : Value} : @ConStab (frnOf base tk (conL fs fi l cs ts V)) := fun f g hf args h u rows k nid row he hlt hn => by
  have hf : conL fs fi l cs ts V f = some g := hf
  unfold conL at hf
  cases h1 : Nat.beq f fs with
  | true =>
    rw [h1, cond_true, Option.some.injEq] at hf
    subst hf
    exact ansV_stab he hn
  | false =>
  rw [h1, cond_false] at hf
  cases h2 : Nat.beq f fi with
  | true =>
    rw [h2, cond_true, Option.some.injEq] at hf
    subst hf
    exact ansV_stab he hn
  | false =>
  rw [h2, cond_false] at hf
  cases h3 : Nat.beq f 5 with
  | true =>
    rw [h3, cond_true, Option.some.injEq] at hf
    subst hf
    exact ansSz_stab he
  | false =>
  rw [h3, cond_false] at hf
  cases h4 : Nat.beq f 7 with
  | true =>
    rw [h4, cond_true, Option.some.injEq] at hf
    subst hf
    exact ansTo_stab he
  | false =>
  rw [h4, cond_false] at hf
  cases h5 : Nat.beq f 9 with
  | true =>
    rw [h5, cond_true, Option.some.injEq] at hf
    subst hf
    exact ansEq_stab he hn
  | false => rw [h5] at hf; cases hf
theorem conL_ok {base : Nat} {v : Value} {fs fi l : Nat} {cs : List Value} {b : Bool} {t0 : Int} (hb : rowsB batK l cs = true) (hl : l ≤ 9223372036854775807) (hfs : hasBody Try.prog fs = true) (hfi : hasBody Try.prog fi = true)
    (hs : AnsF fs l cs t0 (.bool b)) (hi : AnsF fi l cs t0 (.bool b)) : @ConOk (frnOf base [(v, l, cs)] (conL fs fi l cs t0 (.bool b))) Try.prog := fun f g hf => by
  have hf : conL fs fi l cs t0 (.bool b) f = some g := hf
  unfold conL at hf
  cases h1 : Nat.beq f fs with
  | true =>
    rw [h1, cond_true, Option.some.injEq] at hf
    have hfe := Nat.eq_of_beq_eq_true h1
    subst hf hfe
    exact ansV_ok hfs (rowsB_bare (by decide) hb) hs
  | false =>
  rw [h1, cond_false] at hf
  cases h2 : Nat.beq f fi with
  | true =>
    rw [h2, cond_true, Option.some.injEq] at hf
    have hfe := Nat.eq_of_beq_eq_true h2
    subst hf hfe
    exact ansV_ok hfi (rowsB_bare (by decide) hb) hi
  | false =>
  rw [h2, cond_false] at hf
  cases h3 : Nat.beq f 5 with
  | true =>
    rw [h3, cond_true, Option.some.injEq] at hf
    have hfe := Nat.eq_of_beq_eq_true h3
    subst hf hfe
    exact ansSz_ok hb hl
  | false =>
  rw [h3, cond_false] at hf
  cases h4 : Nat.beq f 7 with
  | true =>
    rw [h4, cond_true, Option.some.injEq] at hf
    have hfe := Nat.eq_of_beq_eq_true h4
    subst hf hfe
    exact ansTo_ok hb
  | false =>
  rw [h4, cond_false] at hf
  cases h5 : Nat.beq f 9 with
  | true =>
    rw [h5, cond_true, Option.some.injEq] at hf
    have hfe := Nat.eq_of_beq_eq_true h5
    subst hf hfe
    exact ansEq_ok hb
  | false => rw [h5] at hf; cases hf

/-! ### The law -/
theorem law_calls {w : World} {v : Value} {l : Nat} {cs : List Value} {b : Bool} {t0 : Int} (hv : RowIn w v l cs) (hb : rowsB batK l cs = true) (hl : l ≤ 9223372036854775807)
    (hs : AnsF 6 l cs t0 (.bool b)) (hi : AnsF 8 l cs t0 (.bool b)) :
    Calls Try.prog 3 #[works v (rooms t0)] w fun e w' => e = .returned (.bool true) ∧ Below w.heap.size w w' := by
  obtain ⟨a, c, rfl, _⟩ := id hv
  let ι : Frn := frnOf w.heap.size [(.slice a l c, l, cs)] (conX l cs t0 b)
  have hw : @FrnIn ι w := frn_in fun k v' l' cs' hk => by
    match k, hk with
    | 0, hk => cases hk; exact hv
  have ht : @VR ι (fun _ => none) (tok 0 l c) (.slice a l c) := tok_VR (ts := [(.slice a l c, l, cs)]) rfl hv
  have hE : @EnvOk ι (@ETl ι) := @conE_ok ι _ _ _ mixed (@noExt ι _) (@orc_list ι _ _ noneROk) (conL_ok hb hl (by kernel_rfl) (by kernel_rfl) hs hi) conL_stab
  have he : (@codeK ι (@ETl ι) 60 lawC (startS Try.f3 [works (tok 0 l c) (rooms t0)] []) (@finK ι Try.prog Try.f3)).map eraseH = some (.bool true, [], true) := by
    rw [@codeK_map ι]
    refine (law_eval w.heap.size (.slice a l c) l c cs t0 b).trans ?_
    have k1 : kSz t0 = true := isB_of rfl
    have k2 : kV l cs t0 = true := isB_of ⟨rfl, rfl, rfl, Nat.le_refl _⟩
    by_cases hn : szShV l cs < 0
    · rw [decide_eq_true hn, cond_true, k1]; rfl
    · have hl' : l ≤ 1048576 := szShV_le (cs := cs) hl (by omega)
      have k3 : kTo l t0 = true := isB_of ⟨hl', rfl⟩
      have k4 : kEq l cs t0 = true := isB_of ⟨⟨hl', rfl, rfl, rfl⟩, rfl, rfl, rfl⟩
      rw [decide_eq_false hn, cond_false, bne_self_eq_false, cond_false, k1, k2, k3, k4]; rfl
  obtain ⟨r, hr, hr2⟩ := Option.map_eq_some_iff.1 he
  obtain ⟨x, H, k⟩ := r
  simp only [eraseH, Prod.mk.injEq] at hr2
  obtain ⟨rfl, _, rfl⟩ := hr2
  refine (con_calls ι hE mixed Try.func3 law_body law_ok hr hw (@VRL.cons ι _ _ _ _ _ (works_vr ht) (@VRL.nil ι _))).mono fun e w' hx => ?_
  obtain ⟨y, μ', rfl, hy, hh, hbl⟩ := hx
  rw [@VR.bool_inv ι _ _ _ hy]
  exact ⟨rfl, hbl⟩
end Go.Proofs.Yteelhhdadcdclaa
end
