/-
  A law over two sorks whose functions answer one Boolean: the law's own code, over contracts. No condition.
-/
import Derived.Test.YteelhhdadcdclaaUf
import Derived.Test.YteelhhdadcdclaaUg
set_option linter.unusedSectionVars false
set_option linter.unusedVariables false
noncomputable section
namespace Go.Proofs.Yteelhhdadcdclaa
namespace Zb
open Go Go.ChangeShapes Go.WideShapes Go.ChangeAt Go.RowKit Ev
/-- what a function answers to two sorks in new memory -/
def ansV2 (l : Nat) (cs : List Value) (ts : Int) (l2 : Nat) (ds : List Value) (us : Int) (V : Value) : ConF := fun args h => match args with
  | [.agg xs, .agg ys] => match xs.toList, ys.toList with
    | .int .i64 ts' :: .slice (some ⟨b, 0, none⟩) l' _ :: [], .int .i64 us' :: .slice (some ⟨b', 0, none⟩) l2' _ :: [] => match h.getD b none, h.getD b' none with
      | some r, some r' => some (V, [], isB ((r = cs ∧ l' = l ∧ ts' = ts) ∧ r' = ds ∧ l2' = l2 ∧ us' = us))
      | _, _ => none
    | _, _ => none
  | _ => none
def ansSz2 (n1 n2 : Int) (ts us : Int) : ConF := fun args _ => match args with
  | [.agg xs, .int .i64 left] => match xs.toList with
    | .int .i64 ts' :: .slice (some ⟨k, 0, some 0⟩) _ _ :: [] => bif Nat.beq k 0 then some (.int .i64 n1, [], decide (left = 1048576) && isB (ts' = ts)) else bif Nat.beq k 1 then some (.int .i64 n2, [], isB (left = n1 ∧ ts' = us ∧ 0 ≤ n1 ∧ n1 ≤ 1048576)) else none
    | _ => none
  | _ => none
def ansTo2 (l : Nat) (cs : List Value) (ts : Int) (l2 : Nat) (ds : List Value) (us : Int) : ConF := fun args h => match args with
  | [.agg xs] => match xs.toList with
    | .int .i64 ts' :: .slice (some ⟨k, 0, some 0⟩) _ _ :: [] => bif Nat.beq k 0 then some (works (loc h.length l) (rooms ts), [cs], isB (l ≤ 1048576 ∧ ts' = ts)) else bif Nat.beq k 1 then some (works (loc h.length l2) (rooms us), [ds], isB (l2 ≤ 1048576 ∧ ts' = us)) else none
    | _ => none
  | _ => none
def ansEq2 (l : Nat) (cs : List Value) (ts : Int) (l2 : Nat) (ds : List Value) (us : Int) : ConF := fun args h => match args with
  | [.agg xs, .agg ys] => match xs.toList, ys.toList with
    | .int .i64 ts1 :: .slice (some ⟨b, 0, none⟩) l1 _ :: [], .int .i64 ts2 :: .slice (some ⟨b', 0, none⟩) l1' _ :: [] => match h.getD b none, h.getD b' none with
      | some r, some r' => some (.bool true, [], isB (((l ≤ 1048576 ∧ r = cs ∧ l1 = l ∧ ts1 = ts) ∧ r' = cs ∧ l1' = l ∧ ts2 = ts) ∨ ((l2 ≤ 1048576 ∧ r = ds ∧ l1 = l2 ∧ ts1 = us) ∧ r' = ds ∧ l1' = l2 ∧ ts2 = us)))
      | _, _ => none
    | _, _ => none
  | _ => none
def conL2 (n1 n2 : Int) (l : Nat) (cs : List Value) (ts : Int) (l2 : Nat) (ds : List Value) (us : Int) (V : Value) (f : FuncId) : Option ConF :=
  bif Nat.beq f 10 then some (ansV2 l cs ts l2 ds us V) else bif Nat.beq f 11 then some (ansV2 l cs ts l2 ds us V) else
  bif Nat.beq f 5 then some (ansSz2 n1 n2 ts us) else bif Nat.beq f 7 then some (ansTo2 l cs ts l2 ds us) else
  bif Nat.beq f 9 then some (ansEq2 l cs ts l2 ds us) else none
noncomputable def lC : Code := (Try.f4.body.getD .skip)
theorem l_body : Try.f4.body = some lC := by kernel_rfl
theorem l_ok : codeOk lC = true := by kernel_rfl
def AnsF2 (f : Nat) (l : Nat) (cs : List Value) (ts : Int) (l2 : Nat) (ds : List Value) (us : Int) (V : Value) : Prop := ∀ (w : World) (v v2 : Value), RowIn w v l cs → RowIn w v2 l2 ds → Calls Try.prog f #[works v (rooms ts), works v2 (rooms us)] w fun e w' => e = .returned V ∧ Below w.heap.size w w'
def k0 (ts : Int) : Bool := isB (ts = ts)
def kS (n1 : Int) (us : Int) : Bool := isB (n1 = n1 ∧ us = us ∧ 0 ≤ n1 ∧ n1 ≤ 1048576)
def kT (l : Nat) (ts : Int) : Bool := isB (l ≤ 1048576 ∧ ts = ts)
def kV2 (l : Nat) (cs : List Value) (ts : Int) (l2 : Nat) (ds : List Value) (us : Int) : Bool := isB ((cs = cs ∧ l = l ∧ ts = ts) ∧ ds = ds ∧ l2 = l2 ∧ us = us)
def kE (la : Nat) (ca : List Value) (ta : Int) (l : Nat) (cs : List Value) (ts : Int) (l2 : Nat) (ds : List Value) (us : Int) : Bool := isB (((l ≤ 1048576 ∧ ca = cs ∧ la = l ∧ ta = ts) ∧ ca = cs ∧ la = l ∧ ta = ts) ∨ ((l2 ≤ 1048576 ∧ ca = ds ∧ la = l2 ∧ ta = us) ∧ ca = ds ∧ la = l2 ∧ ta = us))
theorem law_eval2 (base l c l2 c2 : Nat) (v v2 : Value) (cs ds : List Value) (t0 u0 : Int) (n1 n2 : Int) (b : Bool) : (@codeK (frnOf base (two v l cs v2 l2 ds) (conL2 n1 n2 l cs t0 l2 ds u0 (.bool b))) (@ETl (frnOf base (two v l cs v2 l2 ds) (conL2 n1 n2 l cs t0 l2 ds u0 (.bool b)))) 60 lC (startS Try.f4 [works (tok 0 l c) (rooms t0), works (tok 1 l2 c2) (rooms u0)] []) (fun e s => (@finK (frnOf base (two v l cs v2 l2 ds) (conL2 n1 n2 l cs t0 l2 ds u0 (.bool b))) Try.prog Try.f4 e s).map eraseH)) =
    bif decide (n1 < 0) then some (.bool true, [], k0 t0 && true) else bif decide (n2 < 0) then some (.bool true, [], kS n1 u0 && (k0 t0 && true)) else
    bif (b != b) then some (.bool false, [], kV2 l cs t0 l2 ds u0 && (kT l2 u0 && (kT l t0 && ((kV2 l cs t0 l2 ds u0 && true) && ((kT l2 u0 && true) && ((kT l t0 && true) && (kS n1 u0 && (k0 t0 && true))))))))
    else some (.bool true, [], (kE l2 ds u0 l cs t0 l2 ds u0 && true) && ((kT l2 u0 && true) && ((kE l cs t0 l cs t0 l2 ds u0 && true) && ((kT l t0 && true) && (kV2 l cs t0 l2 ds u0 && (kT l2 u0 && (kT l t0 && ((kV2 l cs t0 l2 ds u0 && true) && ((kT l2 u0 && true) && ((kT l t0 && true) && (kS n1 u0 && (k0 t0 && true)))))))))))) := by kernel_rfl
section
variable {l l2 : Nat} {cs ds : List Value} {t0 u0 : Int}
theorem ansV2_ok {ι : Frn} {f : Nat} {b : Bool} (hf : hasBody Try.prog f = true) (hb : cs.all bareC = true) (hb2 : ds.all bareC = true) (hans : AnsF2 f l cs t0 l2 ds u0 (.bool b)) : ConSpec ι f (ansV2 l cs t0 l2 ds u0 (.bool b)) := ⟨hf, fun args h v rows he μ cargs w B ha hh hB => by
  unfold ansV2 at he
  split at he
  · rename_i xs ys
    split at he
    · rename_i ts1 b1 l1 c1 ts2 b2 l2' c2 hx hy
      split at he
      · rename_i r r' hr hr'
        simp only [Option.some.injEq, Prod.mk.injEq] at he
        obtain ⟨rfl, rfl, hk⟩ := he
        obtain ⟨⟨e1, e2, e3⟩, e4, e5, e6⟩ := of_isB hk
        rw [e1] at hr
        rw [e4] at hr'
        rw [e2, e3] at hx
        rw [e5, e6] at hy
        obtain ⟨y, zs, rfl, hv1, h2⟩ := vrl_cons ha
        obtain ⟨y', zs, rfl, hv2, h3⟩ := vrl_cons h2
        rw [vrl_none h3]
        have hxs : xs = ([Value.int .i64 t0, Value.slice (some ⟨b1, 0, none⟩) l c1] : List Value).toArray := Array.ext' hx
        have hys : ys = ([Value.int .i64 u0, Value.slice (some ⟨b2, 0, none⟩) l2 c2] : List Value).toArray := Array.ext' hy
        subst hxs hys
        obtain ⟨u, rfl, hu⟩ := works_inv (u := .slice (some ⟨b1, 0, none⟩) l c1) hv1
        obtain ⟨u', rfl, hu'⟩ := works_inv (u := .slice (some ⟨b2, 0, none⟩) l2 c2) hv2
        have hrow := local_row hh hu hr hb
        have hrow' := local_row hh hu' hr' hb2
        rw [List.drop_zero] at hrow hrow'
        refine (hans w u u' hrow hrow').mono fun e w' hx => ?_
        obtain ⟨rfl, hbl⟩ := hx
        refine ⟨_, μ, rfl, Sub.refl μ, @VR.bool ι μ b, ?_, hbl.mono hB⟩
        rw [List.map_nil, List.append_nil]
        exact @HeapR.keep ι _ _ _ _ _ hh hB hbl
      · cases he
    · cases he
  · cases he⟩
theorem ansEq2_ok {ι : Frn} (hb : rowsB batK l cs = true) (hb2 : rowsB batK l2 ds = true) : ConSpec ι 9 (ansEq2 l cs t0 l2 ds u0) := ⟨by kernel_rfl, fun args h q rows he μ cargs w B ha hh hB => by
  unfold ansEq2 at he
  split at he
  · rename_i xs ys
    split at he
    · rename_i ts1 b1 l1 c1 ts2 b2 l2' c2 hx hy
      split at he
      · rename_i r r' hr hr'
        simp only [Option.some.injEq, Prod.mk.injEq] at he
        obtain ⟨rfl, rfl, hk⟩ := he
        have key : ∀ {l : Nat} {cs : List Value} {t0 : Int}, rowsB batK l cs = true → ((l ≤ 1048576 ∧ r = cs ∧ l1 = l ∧ ts1 = t0) ∧ r' = cs ∧ l2' = l ∧ ts2 = t0) → Calls Try.prog 9 cargs.toArray w fun e w' => ∃ v' μ', e = .returned v' ∧ Sub μ μ' ∧ @VR ι μ' (.bool true) v' ∧ @HeapR ι μ' (h ++ ([] : List (List Value)).map some) w' B ∧ Below B w w' := by
          intro l cs t0 hb hq
          obtain ⟨⟨hl, e1, e2, e3⟩, e4, e5, e6⟩ := hq
          rw [e1] at hr
          rw [e4] at hr'
          rw [e2, e3] at hx
          rw [e5, e6] at hy
          obtain ⟨y, zs, rfl, hv1, h2⟩ := vrl_cons ha
          obtain ⟨y', zs, rfl, hv2, h3⟩ := vrl_cons h2
          rw [vrl_none h3]
          have hxs : xs = ([Value.int .i64 t0, Value.slice (some ⟨b1, 0, none⟩) l c1] : List Value).toArray := Array.ext' hx
          have hys : ys = ([Value.int .i64 t0, Value.slice (some ⟨b2, 0, none⟩) l c2] : List Value).toArray := Array.ext' hy
          subst hxs hys
          obtain ⟨u, rfl, hu⟩ := works_inv (u := .slice (some ⟨b1, 0, none⟩) l c1) hv1
          obtain ⟨u', rfl, hu'⟩ := works_inv (u := .slice (some ⟨b2, 0, none⟩) l c2) hv2
          have hrow := local_row hh hu hr (rowsB_bare (by decide) hb)
          have hrow' := local_row hh hu' hr' (rowsB_bare (by decide) hb)
          rw [List.drop_zero] at hrow hrow'
          refine (eqSh_calls hrow hrow' hb hl t0).mono fun e w' hx => ?_
          obtain ⟨rfl, hbl⟩ := hx
          refine ⟨_, μ, rfl, Sub.refl μ, @VR.bool ι μ true, ?_, hbl.mono hB⟩
          rw [List.map_nil, List.append_nil]
          exact @HeapR.keep ι _ _ _ _ _ hh hB hbl
        rcases of_isB hk with hq | hq
        · exact key hb hq
        · exact key hb2 hq
      · cases he
    · cases he
  · cases he⟩
theorem ansSz2_ok {base : Nat} {v v2 : Value} {con : FuncId → Option ConF} (hb : rowsB batK l cs = true) (hb2 : rowsB batK l2 ds = true) (hl : l ≤ 9223372036854775807) (hl2 : l2 ≤ 9223372036854775807) :
    ConSpec (frnOf base (two v l cs v2 l2 ds) con) 5 (ansSz2 (szShV l cs) (szShQ (szShV l cs) l2 ds) t0 u0) := ⟨by kernel_rfl, fun args h q rows he μ cargs w B ha hh hB => by
  unfold ansSz2 at he
  split at he
  · rename_i xs left
    split at he
    · rename_i ts' k l' c' hx
      cases hk0 : Nat.beq k 0 with
      | true =>
        rw [hk0, cond_true] at he
        have := Nat.eq_of_beq_eq_true hk0
        subst this
        simp only [Option.some.injEq, Prod.mk.injEq, Bool.and_eq_true, decide_eq_true_eq] at he
        obtain ⟨rfl, rfl, rfl, hk⟩ := he
        have hr3 := of_isB hk
        rw [hr3] at hx
        obtain ⟨y, ys, rfl, hy, h2⟩ := vrl_cons ha
        obtain ⟨y', ys, rfl, hy', h3⟩ := vrl_cons h2
        rw [vrl_none h3]
        rw [@VR.int_inv (frnOf base (two v l cs v2 l2 ds) con) _ _ _ _ hy']
        have hxs : xs = ([Value.int .i64 t0, tok 0 l' c'] : List Value).toArray := Array.ext' hx
        subst hxs
        obtain ⟨u, rfl, hu⟩ := works_inv (u := tok 0 l' c') hy
        obtain ⟨r1, _, _⟩ := tok_row (k := 0) hh hB rfl (rowsB_bare (by decide) hb) hu
        refine (szSh_calls r1 hb hl t0).mono fun e w' hx => ?_
        obtain ⟨rfl, hbl⟩ := hx
        refine ⟨_, μ, rfl, Sub.refl μ, @VR.int (frnOf base (two v l cs v2 l2 ds) con) μ _ _, ?_, hbl.mono hB⟩
        rw [List.map_nil, List.append_nil]
        exact @HeapR.keep (frnOf base (two v l cs v2 l2 ds) con) _ _ _ _ _ hh hB hbl
      | false =>
      rw [hk0, cond_false] at he
      cases hk1 : Nat.beq k 1 with
      | true =>
        rw [hk1, cond_true] at he
        have := Nat.eq_of_beq_eq_true hk1
        subst this
        simp only [Option.some.injEq, Prod.mk.injEq] at he
        obtain ⟨rfl, rfl, hk⟩ := he
        obtain ⟨hleft, hr3, hz⟩ := of_isB hk
        rw [hr3] at hx
        obtain ⟨y, ys, rfl, hy, h2⟩ := vrl_cons ha
        obtain ⟨y', ys, rfl, hy', h3⟩ := vrl_cons h2
        rw [vrl_none h3]
        rw [@VR.int_inv (frnOf base (two v l cs v2 l2 ds) con) _ _ _ _ hy', hleft]
        have hxs : xs = ([Value.int .i64 u0, tok 1 l' c'] : List Value).toArray := Array.ext' hx
        subst hxs
        obtain ⟨u, rfl, hu⟩ := works_inv (u := tok 1 l' c') hy
        obtain ⟨r1, _, _⟩ := tok_row (k := 1) hh hB rfl (rowsB_bare (by decide) hb2) hu
        refine (szSh_callsQ (szShV l cs) hz r1 hb2 hl2 u0).mono fun e w' hx => ?_
        obtain ⟨rfl, hbl⟩ := hx
        refine ⟨_, μ, rfl, Sub.refl μ, @VR.int (frnOf base (two v l cs v2 l2 ds) con) μ _ _, ?_, hbl.mono hB⟩
        rw [List.map_nil, List.append_nil]
        exact @HeapR.keep (frnOf base (two v l cs v2 l2 ds) con) _ _ _ _ _ hh hB hbl
      | false => rw [hk1] at he; cases he
    · cases he
  · cases he⟩
theorem ansTo2_ok {base : Nat} {v v2 : Value} {con : FuncId → Option ConF} (hb : rowsB batK l cs = true) (hb2 : rowsB batK l2 ds = true) :
    ConSpec (frnOf base (two v l cs v2 l2 ds) con) 7 (ansTo2 l cs t0 l2 ds u0) := ⟨by kernel_rfl, fun args h q rows he μ cargs w B ha hh hB => by
  unfold ansTo2 at he
  split at he
  · rename_i xs
    split at he
    · rename_i ts' k l' c' hx
      cases hk0 : Nat.beq k 0 with
      | true =>
        rw [hk0, cond_true] at he
        have := Nat.eq_of_beq_eq_true hk0
        subst this
        simp only [Option.some.injEq, Prod.mk.injEq] at he
        obtain ⟨rfl, rfl, hk⟩ := he
        obtain ⟨hl, hr3⟩ := of_isB hk
        rw [hr3] at hx
        obtain ⟨y, ys, rfl, hy, h2⟩ := vrl_cons ha
        rw [vrl_none h2]
        have hxs : xs = ([Value.int .i64 t0, tok 0 l' c'] : List Value).toArray := Array.ext' hx
        subst hxs
        obtain ⟨u, rfl, hu⟩ := works_inv (u := tok 0 l' c') hy
        obtain ⟨r1, _, _⟩ := tok_row (k := 0) hh hB rfl (rowsB_bare (by decide) hb) hu
        refine (toSh_calls r1 hb hl t0).mono fun e w' hx => ?_
        obtain ⟨u', rfl, hnew, hbl⟩ := hx
        obtain ⟨μ', g1, g2, g3⟩ := heap_new hh hB hbl hnew
        exact ⟨_, μ', rfl, g1, works_vr g2, g3, hbl.mono hB⟩
      | false =>
      rw [hk0, cond_false] at he
      cases hk1 : Nat.beq k 1 with
      | true =>
        rw [hk1, cond_true] at he
        have := Nat.eq_of_beq_eq_true hk1
        subst this
        simp only [Option.some.injEq, Prod.mk.injEq] at he
        obtain ⟨rfl, rfl, hk⟩ := he
        obtain ⟨hl, hr3⟩ := of_isB hk
        rw [hr3] at hx
        obtain ⟨y, ys, rfl, hy, h2⟩ := vrl_cons ha
        rw [vrl_none h2]
        have hxs : xs = ([Value.int .i64 u0, tok 1 l' c'] : List Value).toArray := Array.ext' hx
        subst hxs
        obtain ⟨u, rfl, hu⟩ := works_inv (u := tok 1 l' c') hy
        obtain ⟨r1, _, _⟩ := tok_row (k := 1) hh hB rfl (rowsB_bare (by decide) hb2) hu
        refine (toSh_calls r1 hb2 hl u0).mono fun e w' hx => ?_
        obtain ⟨u', rfl, hnew, hbl⟩ := hx
        obtain ⟨μ', g1, g2, g3⟩ := heap_new hh hB hbl hnew
        exact ⟨_, μ', rfl, g1, works_vr g2, g3, hbl.mono hB⟩
      | false => rw [hk1] at he; cases he
    · cases he
  · cases he⟩
end
theorem ansV2_stab {l : Nat} {cs : List Value} {ts : Int} {l2 : Nat} {ds : List Value} {us : Int} {V : Value} {args : List Value} {h : Heap} {u : Value} {rows : List (List Value)} {k : Bool} {nid : Nat} {row : List Value} (he : ansV2 l cs ts l2 ds us V args h = some (u, rows, k)) (hn : h.getD nid none = none) : ansV2 l cs ts l2 ds us V args (h.set nid (some row)) = some (u, rows, k) := by
  unfold ansV2 at he ⊢
  split at he
  · rename_i xs ys
    split at he
    · rename_i ts1 b1 l1 c1 ts2 b2 l2 c2 hx hy
      split at he
      · rename_i r r' hr hr'
        simp only [getD_set hn hr, getD_set hn hr']
        exact he
      · cases he
    · cases he
  · cases he
theorem ansEq2_stab {l : Nat} {cs : List Value} {ts : Int} {l2 : Nat} {ds : List Value} {us : Int} {args : List Value} {h : Heap} {u : Value} {rows : List (List Value)} {k : Bool} {nid : Nat} {row : List Value} (he : ansEq2 l cs ts l2 ds us args h = some (u, rows, k)) (hn : h.getD nid none = none) : ansEq2 l cs ts l2 ds us args (h.set nid (some row)) = some (u, rows, k) := by
  unfold ansEq2 at he ⊢
  split at he
  · rename_i xs ys
    split at he
    · rename_i ts1 b1 l1 c1 ts2 b2 l2 c2 hx hy
      split at he
      · rename_i r r' hr hr'
        simp only [getD_set hn hr, getD_set hn hr']
        exact he
      · cases he
    · cases he
  · cases he
theorem ansTo2_stab {l : Nat} {cs : List Value} {ts : Int} {l2 : Nat} {ds : List Value} {us : Int} {args : List Value} {h : Heap} {u : Value} {rows : List (List Value)} {k : Bool} {nid : Nat} {row : List Value} (he : ansTo2 l cs ts l2 ds us args h = some (u, rows, k)) : ansTo2 l cs ts l2 ds us args (h.set nid (some row)) = some (u, rows, k) := by
  unfold ansTo2 at he ⊢
  rw [List.length_set]
  exact he
theorem conL2_stab {base : Nat} {tk : Toks} {n1 n2 : Int} {l : Nat} {cs : List Value} {ts : Int} {l2 : Nat} {ds : List Value} {us : Int} {V : Value} : @ConStab (frnOf base tk (conL2 n1 n2 l cs ts l2 ds us V)) := fun f g hf args h u rows k nid row he hlt hn => by
  have hf : conL2 n1 n2 l cs ts l2 ds us V f = some g := hf
  unfold conL2 at hf
  cases h1 : Nat.beq f 10 with
  | true =>
    rw [h1, cond_true, Option.some.injEq] at hf
    subst hf
    exact ansV2_stab he hn
  | false =>
  rw [h1, cond_false] at hf
  cases h2 : Nat.beq f 11 with
  | true =>
    rw [h2, cond_true, Option.some.injEq] at hf
    subst hf
    exact ansV2_stab he hn
  | false =>
  rw [h2, cond_false] at hf
  cases h3 : Nat.beq f 5 with
  | true =>
    rw [h3, cond_true, Option.some.injEq] at hf
    subst hf
    exact he
  | false =>
  rw [h3, cond_false] at hf
  cases h4 : Nat.beq f 7 with
  | true =>
    rw [h4, cond_true, Option.some.injEq] at hf
    subst hf
    exact ansTo2_stab he
  | false =>
  rw [h4, cond_false] at hf
  cases h5 : Nat.beq f 9 with
  | true =>
    rw [h5, cond_true, Option.some.injEq] at hf
    subst hf
    exact ansEq2_stab he hn
  | false => rw [h5] at hf; cases hf
section
variable {l l2 : Nat} {cs ds : List Value} {t0 u0 : Int} {b : Bool}
theorem conL2_ok {base : Nat} {v v2 : Value} (hb : rowsB batK l cs = true) (hb2 : rowsB batK l2 ds = true) (hl : l ≤ 9223372036854775807) (hl2 : l2 ≤ 9223372036854775807)
    (hs : AnsF2 10 l cs t0 l2 ds u0 (.bool b)) (hi : AnsF2 11 l cs t0 l2 ds u0 (.bool b)) : @ConOk (frnOf base (two v l cs v2 l2 ds) (conL2 (szShV l cs) (szShQ (szShV l cs) l2 ds) l cs t0 l2 ds u0 (.bool b))) Try.prog := fun f g hf => by
  have hf : conL2 (szShV l cs) (szShQ (szShV l cs) l2 ds) l cs t0 l2 ds u0 (.bool b) f = some g := hf
  unfold conL2 at hf
  cases h1 : Nat.beq f 10 with
  | true =>
    rw [h1, cond_true, Option.some.injEq] at hf
    have hfe := Nat.eq_of_beq_eq_true h1
    subst hf hfe
    exact ansV2_ok (by kernel_rfl) (rowsB_bare (by decide) hb) (rowsB_bare (by decide) hb2) hs
  | false =>
  rw [h1, cond_false] at hf
  cases h2 : Nat.beq f 11 with
  | true =>
    rw [h2, cond_true, Option.some.injEq] at hf
    have hfe := Nat.eq_of_beq_eq_true h2
    subst hf hfe
    exact ansV2_ok (by kernel_rfl) (rowsB_bare (by decide) hb) (rowsB_bare (by decide) hb2) hi
  | false =>
  rw [h2, cond_false] at hf
  cases h3 : Nat.beq f 5 with
  | true =>
    rw [h3, cond_true, Option.some.injEq] at hf
    have hfe := Nat.eq_of_beq_eq_true h3
    subst hf hfe
    exact ansSz2_ok hb hb2 hl hl2
  | false =>
  rw [h3, cond_false] at hf
  cases h4 : Nat.beq f 7 with
  | true =>
    rw [h4, cond_true, Option.some.injEq] at hf
    have hfe := Nat.eq_of_beq_eq_true h4
    subst hf hfe
    exact ansTo2_ok hb hb2
  | false =>
  rw [h4, cond_false] at hf
  cases h5 : Nat.beq f 9 with
  | true =>
    rw [h5, cond_true, Option.some.injEq] at hf
    have hfe := Nat.eq_of_beq_eq_true h5
    subst hf hfe
    exact ansEq2_ok hb hb2
  | false => rw [h5] at hf; cases hf
theorem szQ_le {z0 : Int} (hz : 0 ≤ z0 ∧ z0 ≤ 1048576) {l : Nat} {cs : List Value} (hl : l ≤ 9223372036854775807) (h : 0 ≤ szShQ z0 l cs) : l ≤ 1048576 := by
  unfold szShQ at h
  by_cases hn : szAll l cs z0 < 0
  · rw [decide_eq_true hn, cond_true] at h
    omega
  · unfold szAll at hn
    rw [wrap_in (by omega) (by omega)] at hn
    split at hn
    · omega
    · omega
theorem szGo_le {cs : List Value} : ∀ (n i : Nat) (z : Int), (∀ i z, szV (recAt 9 cs i) z ≤ z) → z ≤ 1048576 → szGo cs n i z ≤ 1048576
  | 0, _, _, _, h => h
  | n + 1, i, z, hz, h => by
    rw [szGo]
    split
    · omega
    · exact szGo_le n (i + 1) _ hz (by have := hz i z; omega)
end
end Zb
end Go.Proofs.Yteelhhdadcdclaa
end
