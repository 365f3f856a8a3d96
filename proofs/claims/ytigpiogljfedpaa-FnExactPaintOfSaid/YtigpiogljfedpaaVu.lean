/-
  Shelves of 7 pigments and more: neither the program nor the model calls them valid. No condition.
-/
import Derived.Test.YtigpiogljfedpaaVt
import Derived.Test.YtigpiogljfedpaaEp
set_option linter.unusedSectionVars false
noncomputable section
namespace Go.Proofs.Ytigpiogljfedpaa
open Go Go.ChangeShapes Go.WideShapes Go.ChangeAt Go.RowKit Ev Sx

/-- three regions, a condition that holds, a return -/
def three [Frn] (E : Env) (c : Code) (s : St) : Option St := (regionOf E (sa c) s).bind fun s1 => (regionOf E (sa (sb c)) s1).bind fun s2 => regionOf E (sa (sa (sb (sb c)))) s2
def early [Frn] (E : Env) (fn : Func) (c : Code) (s : St) : Option ((Value × Bool) × Value × Bool) :=
  (three E c s).bind fun s2 => (regionOf E (sa (ca (sb (sa (sb (sb c)))))) s2).bind fun s3 => (finK E.P fn .ret s3).map fun r => (evl s2.tmps (cx (sb (sa (sb (sb c))))), r.1, r.2.2)
def formE (c : Code) : Prop := c = .seq (sa c) (.seq (sa (sb c)) (.seq (.seq (sa (sa (sb (sb c)))) (.cond (cx (sb (sa (sb (sb c))))) (.seq (sa (ca (sb (sa (sb (sb c)))))) .ret) .skip)) (sb (sb (sb c)))))
theorem early_goes [Frn] {E : Env} {fn : Func} {c : Code} {s : St} {v : Value} (hc : formE c) (h : early E fn c s = some ((.bool true, true), v, true)) : ∃ s' h', Goes E 20 c s .ret s' ∧ finK E.P fn .ret s' = some (v, h', true) := by
  unfold early at h
  obtain ⟨s2, h2, h⟩ := Option.bind_eq_some_iff.1 h
  obtain ⟨s3, h3, h⟩ := Option.bind_eq_some_iff.1 h
  obtain ⟨r, h4, h⟩ := Option.map_eq_some_iff.1 h
  unfold three at h2
  obtain ⟨s0, a0, h2⟩ := Option.bind_eq_some_iff.1 h2
  obtain ⟨s1, a1, a2⟩ := Option.bind_eq_some_iff.1 h2
  obtain ⟨x, y, z⟩ := r
  simp only [Prod.mk.injEq] at h
  obtain ⟨hx, rfl, rfl⟩ := h
  refine ⟨s3, y, ?_, h4⟩
  rw [hc]
  exact Goes.seq (N := 19) (Goes.reg (N := 18) a0) (Goes.seq (N := 18) (Goes.reg (N := 17) a1) (Goes.seqR (N := 17) (Goes.seq (N := 16) (Goes.reg (N := 15) a2) (Goes.condT (N := 15) hx (Goes.seq (N := 14) (Goes.reg (N := 13) h3) Goes.ret)))))

/-! ### the model -/
noncomputable abbrev EV [Frn] : Env := ⟨Try.prog, noOrc, funD Try.prog noOrc noOrc [] 1 1, false, false⟩
theorem EV_ok (ι : Frn) (hc : @ConOk ι Try.prog) : @EnvOk ι (@EV ι) := @fun_goes ι Try.prog noOrc noOrc [] 1 mixed rfl (@noExt ι _) (fun f g e => by cases e) hc 1
noncomputable def okC : Code := (Try.f50.body.getD .skip)
noncomputable def vaC : Code := (Try.f18.body.getD .skip)
theorem ok_form : formE okC := by
  unfold formE
  kernel_rfl
theorem va_form : formE vaC := by
  unfold formE
  kernel_rfl
def over6 (l : Nat) : Bool := decide ((6 : Int) < ((l + 7 : Nat) : Int))
theorem over6_true (l : Nat) : over6 l = true := decide_eq_true (by omega)
theorem ok_early (base l : Nat) (v u : Value) (cs ts : List Value) : @early (frnOf base (tk2 v (l + 7) cs u ts) noF) (@EV (frnOf base (tk2 v (l + 7) cs u ts) noF)) Try.f50 okC (startS Try.f50 [.pointer (some ⟨1, 0, some 0⟩)] []) =
    some ((.bool (over6 l), true), .bool false, true) := by kernel_rfl
/-! ### the program: what is behind a guard that does not hold does not matter -/
def faO : List Value → Heap → Option (Value × List (List Value) × Bool) := fun _ _ => some (.bool true, [], isB False)
def faF (f : FuncId) : Option (List Value → Heap → Option (Value × List (List Value) × Bool)) :=
  bif Nat.beq f 53 then some faO else bif Nat.beq f 54 then some faO else none
theorem isB_no : isB False = false := @decide_eq_false _ (Classical.propDecidable _) id
theorem faF_ok {base : Nat} {ts : Toks} : @ConOk (frnOf base ts faF) Try.prog := fun f g hf => by
  have hf : faF f = some g := hf
  have no : ∀ {args : List Value} {h : Heap} {v : Value} {rows : List (List Value)}, faO args h = some (v, rows, true) → False := fun e => by
    unfold faO at e
    rw [isB_no] at e
    cases e
  unfold faF at hf
  cases h1 : Nat.beq f 53 with
  | true =>
    rw [h1, cond_true, Option.some.injEq] at hf
    have := Nat.eq_of_beq_eq_true h1
    subst hf
    subst this
    exact ⟨by kernel_rfl, fun args h v rows e => (no e).elim⟩
  | false =>
    rw [h1, cond_false] at hf
    cases h2 : Nat.beq f 54 with
    | true =>
      rw [h2, cond_true, Option.some.injEq] at hf
      have := Nat.eq_of_beq_eq_true h2
      subst hf
      subst this
      exact ⟨by kernel_rfl, fun args h v rows e => (no e).elim⟩
    | false => rw [h2] at hf; cases hf
def vaB (A : Bool) : Bool := bif A then true else false
def vaE (A B : Bool) : Bool :=
  ((bif B then true else ((B == false) && true)) && true) && ((((B == false) && true) || !(B == false)) && (((((((B == false) && true) && true) && isB False)) || !(B == false)) && (((((((B == false) && true) && (((B == false) && true) && true)) && true) && false) || !(B == false)) &&
  (((bif A then true else ((A == false) && true)) && true) && ((((A == false) && true) || !(A == false)) && ((((((A == false) && true) && true) && isB False) || !(A == false)) && (((((((A == false) && true) && true) && true) && true) || !(A == false)) && true)))))))
theorem va_early (base l : Nat) (v : Value) (cs : List Value) (t0 t1 t2 t3 t4 t5 : Int) : @early (frnOf base (tk1 v (l + 7) cs) faF) (@EV (frnOf base (tk1 v (l + 7) cs) faF)) Try.f18 vaC (startS Try.f18 [shelf (tok 0 (l + 7) 0) (tins t0 t1 t2 t3 t4 t5)] []) =
    some ((.bool (bif vaB (over6 l) then true else false), true), .bool false, vaE (over6 l) (vaB (over6 l))) := by kernel_rfl
theorem vaE_true : vaE true (vaB true) = true := by
  unfold vaE
  rw [isB_no]
  rfl

/-! ### what the functions answer to every shelf -/
/-- a call has one answer -/
theorem calls_det {P : Program} {f : FuncId} {args : Array Value} {w : World} {a b : Value} (hi : P.inits.idxOf? f = none) (h1 : Calls P f args w fun e w' => e = .returned a ∧ Below w.heap.size w w') (h2 : Calls P f args w fun e w' => e = .returned b ∧ Below w.heap.size w w') : a = b := by
  have k1 := Calls.done (R := fun v _ => v = a) (h1.mono fun e w' hx => by obtain ⟨rfl, _⟩ := hx; rfl) hi
  have k2 := Calls.done (R := fun v _ => v = b) (h2.mono fun e w' hx => by obtain ⟨rfl, _⟩ := hx; rfl) hi
  obtain ⟨n1, v1, w1, e1, rfl⟩ := k1
  obtain ⟨n2, v2, w2, e2, rfl⟩ := k2
  have more : ∀ {n k : Nat} {m : Machine} {v : Value} {u : World}, runN P n m = .ended (.done v) u → runN P (n + k) m = .ended (.done v) u := fun {n k m v u} h => by
    rw [runN_add, h]
  rcases Nat.le_total n1 n2 with h | h
  · obtain ⟨k, rfl⟩ := Nat.exists_eq_add_of_le h
    have := more (k := k) e1
    rw [e2] at this
    cases this; rfl
  · obtain ⟨k, rfl⟩ := Nat.exists_eq_add_of_le h
    have := more (k := k) e2
    rw [e1] at this
    cases this; rfl
/-- a shelf in memory -/
def ShAt (w : World) (b o : Nat) (v : Value) (l : Nat) (cs ts : List Value) : Prop :=
  RowIn w v l cs ∧ b < w.heap.size ∧ w.cell? ⟨b, o, none⟩ = some v ∧ ∀ j x, ts[j]? = some x → w.cell? ⟨b, o + (j + 1), none⟩ = some x
theorem tk1_in {w : World} {v : Value} {l : Nat} {cs : List Value} {con : FuncId → Option (List Value → Heap → Option (Value × List (List Value) × Bool))} (h : RowIn w v l cs) : @FrnIn (frnOf w.heap.size (tk1 v l cs) con) w := frn_in fun k v' l' cs' hk => by
  match k, hk with
  | 0, hk => cases hk; exact h
theorem tk2_in {w : World} {b o : Nat} {v : Value} {l : Nat} {cs ts : List Value} (hi : ∀ x ∈ ts, ∃ z, x = .int .i32 z) (h : ShAt w b o v l cs ts) : @FrnIn (frnOf w.heap.size (tk2 v l cs (.slice (some ⟨b, o, none⟩) 7 7) ts) noF) w := toks_in fun k v' l' cs' hk => by
  obtain ⟨h1, h2, h3, h4⟩ := h
  match k, hk with
  | 0, hk => cases hk; exact h1.tok
  | 1, hk =>
    cases hk
    refine ⟨_, 7, rfl, fun _ => ⟨b, o, rfl⟩, fun j x hx => ?_⟩
    match j with
    | 0 =>
      cases hx
      obtain ⟨a, c, rfl, h5, _⟩ := h1
      exact ⟨b, o, _, rfl, h2, h3, .tok 0 l 0 a c ⟨l, cs, rfl, a, c, rfl, h5⟩⟩
    | j + 1 =>
      have hx : ts[j]? = some x := hx
      obtain ⟨z, rfl⟩ := hi x (List.mem_of_getElem? hx)
      exact ⟨b, o, _, rfl, h2, h4 j _ hx, .can _ _ (.int _ _)⟩
theorem vsUs_ok : vsUs.all (funcOk Try.prog) = true := by kernel_rfl
theorem orcVs_ok {base : Nat} {tks : Toks} {con : FuncId → Option (List Value → Heap → Option (Value × List (List Value) × Bool))} {v : Value} {l : Nat} {cs : List Value} (hk : tks[0]? = some (v, l, cs)) (hb : rowsB pigK l cs = true) (hw : cs.all wfC = true) : ∀ p ∈ orcVs l cs, @OrcOne (frnOf base tks con) Try.prog p.1 p.2 :=
  all_cons (pgM_one hk hb hw) (all_cons (pgI_one hk hb hw) all_nil)
theorem vs_call {base : Nat} {tks : Toks} {v : Value} {l : Nat} {cs : List Value} (hk : tks[0]? = some (v, l, cs)) (hb : rowsB pigK l cs = true) (hw : cs.all wfC = true) : @CallOk (frnOf base tks noF) Try.prog (@funD (frnOf base tks noF) Try.prog (fun f => seek f []) (fun f => seek f (orcVs l cs)) vsUs 300 30) :=
  @EnvOk.call (frnOf base tks noF) _ (@fun_goes (frnOf base tks noF) Try.prog (fun f => seek f []) (fun f => seek f (orcVs l cs)) vsUs 300 mixed vsUs_ok noX (@orc_list (frnOf base tks noF) _ _ (orcVs_ok hk hb hw)) noF_ok 30)
/-- a function answers so to every shelf with these cells -/
def AnsB (f l : Nat) (cs : List Value) (t0 t1 t2 t3 t4 t5 : Int) (b : Bool) : Prop := ∀ (w : World) (v : Value), RowIn w v l cs → Calls Try.prog f #[shelf v (tins t0 t1 t2 t3 t4 t5)] w fun e w' => e = .returned (.bool b) ∧ Below w.heap.size w w'
def AnsP (l : Nat) (cs : List Value) (t0 t1 t2 t3 t4 t5 : Int) (b : Bool) : Prop := ∀ (w : World) (v : Value) (bk o : Nat), ShAt w bk o v l cs (tins t0 t1 t2 t3 t4 t5) → Calls Try.prog 50 #[.pointer (some ⟨bk, o, none⟩)] w fun e w' => e = .returned (.bool b) ∧ Below w.heap.size w w'
section
variable {l : Nat} {cs : List Value} {t0 t1 t2 t3 t4 t5 : Int}
theorem tins_int : ∀ x ∈ tins t0 t1 t2 t3 t4 t5, ∃ z, x = Value.int .i32 z := fun x hx => by
  unfold tins at hx
  simp only [List.mem_cons, List.not_mem_nil, or_false] at hx
  rcases hx with rfl | rfl | rfl | rfl | rfl | rfl <;> exact ⟨_, rfl⟩
theorem tins_shape : shapeB tinK (tins t0 t1 t2 t3 t4 t5) = true := rfl
theorem few_same (hn : l ≤ 6) (hb : rowsB pigK l cs = true) (hw : cs.all wfC = true) (htw : (tins t0 t1 t2 t3 t4 t5).all wfC = true) :
    ∃ b : Bool, AnsB 16 l cs t0 t1 t2 t3 t4 t5 b ∧ AnsB 18 l cs t0 t1 t2 t3 t4 t5 b ∧ AnsP l cs t0 t1 t2 t3 t4 t5 b ∧
      ∀ base v, ∃ h', @funD (frnOf base (tk1 v l cs) noF) Try.prog (fun f => seek f []) (fun f => seek f (orcVs l cs)) vsUs 300 30 16 [.agg (.slice (some ⟨0, 0, some 0⟩) l 0 :: tins t0 t1 t2 t3 t4 t5).toArray] [] = some (.bool b, h', true) := by
  obtain ⟨b, hv⟩ := vs1_val hn hb hw (tins_shape (t0 := t0) (t1 := t1) (t2 := t2) (t3 := t3) (t4 := t4) (t5 := t5)) htw
  obtain ⟨b2, hv2⟩ := vs_val hn hb hw (tins_shape (t0 := t0) (t1 := t1) (t2 := t2) (t3 := t3) (t4 := t4) (t5 := t5)) htw
  have one : ∀ (f : Nat) (w : World) (v : Value), RowIn w v l cs → (∃ h', @funD (frnOf w.heap.size (tk1 v l cs) noF) Try.prog (fun f => seek f []) (fun f => seek f (orcVs l cs)) vsUs 300 30 f [shelf (tok 0 l 0) (tins t0 t1 t2 t3 t4 t5)] [] = some (.bool b, h', true)) →
      Calls Try.prog f #[shelf v (tins t0 t1 t2 t3 t4 t5)] w fun e w' => e = .returned (.bool b) ∧ Below w.heap.size w w' := fun f w v hr ⟨h', e⟩ => by
    let ι : Frn := frnOf w.heap.size (tk1 v l cs) noF
    obtain ⟨a, c, hv0, _⟩ := id hr
    have ht : @VR ι (fun _ => none) (tok 0 l 0) v := tok_VR (ts := tk1 v l cs) (c := 0) rfl hr
    refine (vs_call (tks := tk1 v l cs) rfl hb hw _ _ _ _ _ _ e rfl (fun _ => none) [shelf v (tins t0 t1 t2 t3 t4 t5)] w w.heap.size (@VRL.cons ι _ _ _ _ _ (shelf_vr ht) (@VRL.nil ι _)) (@HeapR.start ι w (tk1_in hr)) (Nat.le_refl _)).mono fun e w' hx => ?_
    obtain ⟨u, μ', rfl, _, hu, _, hbl⟩ := hx
    rw [@VR.bool_inv ι _ _ _ hu]
    exact ⟨rfl, hbl⟩
  refine ⟨b, fun w v hr => one _ w v hr (hv w.heap.size v).1, fun w v hr => one _ w v hr (hv w.heap.size v).2, fun w v bk o hs => ?_, fun base v => (hv base v).1⟩
  have hr := hs.1
  let u : Value := .slice (some ⟨bk, o, none⟩) 7 7
  let ι : Frn := frnOf w.heap.size (tk2 v l cs u (tins t0 t1 t2 t3 t4 t5)) noF
  have hin : @FrnIn ι w := tk2_in tins_int hs
  obtain ⟨⟨h1, e1⟩, ⟨h2, e2⟩⟩ := hv2 w.heap.size v u
  have ht : @VR ι (fun _ => none) (tok 0 l 0) v := tok_VR (ts := tk2 v l cs u (tins t0 t1 t2 t3 t4 t5)) (c := 0) rfl hr
  have hp : @VR ι (fun _ => none) (.pointer (some ⟨1, 0, some 0⟩)) (.pointer (some ⟨bk, o + 0, none⟩)) := ptr_VR (ts := tk2 v l cs u (tins t0 t1 t2 t3 t4 t5)) rfl
  have c2 : Calls Try.prog 18 #[shelf v (tins t0 t1 t2 t3 t4 t5)] w fun e w' => e = .returned (.bool b2) ∧ Below w.heap.size w w' := by
    refine (vs_call (tks := tk2 v l cs u (tins t0 t1 t2 t3 t4 t5)) rfl hb hw _ _ _ _ _ _ e2 rfl (fun _ => none) [shelf v (tins t0 t1 t2 t3 t4 t5)] w w.heap.size (@VRL.cons ι _ _ _ _ _ (shelf_vr ht) (@VRL.nil ι _)) (@HeapR.start ι w hin) (Nat.le_refl _)).mono fun e w' hx => ?_
    obtain ⟨u, μ', rfl, _, hu, _, hbl⟩ := hx
    rw [@VR.bool_inv ι _ _ _ hu]
    exact ⟨rfl, hbl⟩
  have hbb : Value.bool b2 = .bool b := calls_det (by kernel_rfl) c2 (one _ w v hr (hv w.heap.size v).2)
  rw [← hbb]
  refine (vs_call (tks := tk2 v l cs u (tins t0 t1 t2 t3 t4 t5)) rfl hb hw _ _ _ _ _ _ e1 rfl (fun _ => none) [.pointer (some ⟨bk, o, none⟩)] w w.heap.size (@VRL.cons ι _ _ _ _ _ hp (@VRL.nil ι _)) (@HeapR.start ι w hin) (Nat.le_refl _)).mono fun e w' hx => ?_
  obtain ⟨u, μ', rfl, _, hu, _, hbl⟩ := hx
  rw [@VR.bool_inv ι _ _ _ hu]
  exact ⟨rfl, hbl⟩
end
end Go.Proofs.Ytigpiogljfedpaa
end
