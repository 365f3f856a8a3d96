/-
  Laws over one shelf and plain values: the law's own code. No condition.
-/
import Derived.Test.YtigpiogljfedpaaGa
set_option linter.unusedSectionVars false
noncomputable section
namespace Go.Proofs.Ytigpiogljfedpaa
open Go Go.ChangeShapes Go.WideShapes Go.ChangeAt Go.RowKit Ev Sx

/-! ### cells by numbers -/
def cellK : CK → Int → Value
  | .s, z => .string (strOf z)
  | .f k, z => .float k z.toNat
  | .i k, z => .int k z
  | .b, _ => .bool false
def cellsK : List CK → Nat → (Nat → Int) → List Value
  | [], _, _ => []
  | k :: r, j, z => cellK k (z j) :: cellsK r (j + 1) z
theorem cellsK_of {z : Nat → Int} : ∀ {ks : List CK} {cs : List Value} {j : Nat}, noB ks = true → shapeB ks cs = true → (∀ i v, cs[i]? = some v → z (j + i) = zOf v) → cs = cellsK ks j z
  | [], [], _, _, _, _ => rfl
  | c :: r, v :: s, j, hn, hs, hz => by
    rw [shapeB, Bool.and_eq_true] at hs
    have h0 : z j = zOf v := hz 0 v rfl
    have h1 : ∀ i u, s[i]? = some u → z (j + 1 + i) = zOf u := fun i u hu => by
      have := hz (i + 1) u (by rw [List.getElem?_cons_succ]; exact hu)
      rwa [show j + (i + 1) = j + 1 + i by omega] at this
    show v :: s = cellK c (z j) :: cellsK r (j + 1) z
    cases c with
    | b => cases hn
    | s =>
      rw [← cellsK_of (ks := r) hn hs.2 h1, h0]
      cases v with
      | string x => show _ = Value.string (strOf (encS x)) :: s; rw [strOf_enc]
      | _ => cases hs.1
    | f k =>
      rw [← cellsK_of (ks := r) hn hs.2 h1, h0]
      cases v with
      | float k' x => rw [Ev.sameK_eq hs.1]; rfl
      | _ => cases hs.1
    | i k =>
      rw [← cellsK_of (ks := r) hn hs.2 h1, h0]
      cases v with
      | int k' x =>
        have hk : k = k' := of_decide_eq_true hs.1
        subst hk; rfl
      | _ => cases hs.1
  | [], _ :: _, _, _, hs, _ => by cases hs
  | _ :: _, [], _, _, hs, _ => by cases hs
theorem row_cells {ks : List CK} {cs : List Value} (hn : noB ks = true) (hs : shapeB ks cs = true) : ∃ z, cs = cellsK ks 0 z :=
  ⟨fun j => zOf (cs.getD j undef), cellsK_of hn hs fun i v hv => by
    show zOf (cs.getD (0 + i) undef) = zOf v
    rw [Nat.zero_add, List.getD_eq_getElem?_getD, hv]; rfl⟩
def tyK : CK → Ty
  | .f k => .f k
  | .i k => .n k
  | _ => .b
def numK : List CK → Bool
  | [] => true
  | .f _ :: r => numK r
  | .i _ :: r => numK r
  | _ :: _ => false
theorem num_noB : ∀ {ks : List CK}, numK ks = true → noB ks = true
  | [], _ => rfl
  | .f _ :: r, h => num_noB (ks := r) h
  | .i _ :: r, h => num_noB (ks := r) h
  | .s :: _, h => by cases h
  | .b :: _, h => by cases h
theorem fit_shape : ∀ {ks : List CK} {cs : List Value}, numK ks = true → fitL (ks.map tyK) cs = true → shapeB ks cs = true
  | [], [], _, _ => rfl
  | [], _ :: _, _, h => by cases h
  | c :: r, [], _, h => by cases h
  | c :: r, v :: s, hn, h => by
    have h : (fitV (tyK c) v && fitL (r.map tyK) s) = true := h
    rw [Bool.and_eq_true] at h
    rw [shapeB, Bool.and_eq_true]
    cases c with
    | s => cases hn
    | b => cases hn
    | f k =>
      refine ⟨?_, fit_shape (ks := r) hn h.2⟩
      cases v with
      | float k' x => exact h.1
      | _ => cases h.1
    | i k =>
      refine ⟨?_, fit_shape (ks := r) hn h.2⟩
      cases v with
      | int k' x =>
        have h1 : sameI k k' = true := h.1
        exact decide_eq_true (sameI_eq h1)
      | _ => cases h.1
/-! ### forms of answers -/
theorem two_of {p q : Par} {V : Value} (h : fitR [p, q] V) : ∃ a b, V = .tuple #[a, b] ∧ fitP p a = true ∧ fitP q b = true := by
  obtain ⟨vs, rfl, hf⟩ := h
  match vs, hf with
  | [a, b], hf =>
    have hf : (fitP p a && (fitP q b && true)) = true := hf
    rw [Bool.and_true, Bool.and_eq_true] at hf
    exact ⟨a, b, rfl, hf.1, hf.2⟩
  | [], hf => cases hf
  | [a], hf =>
    have hf : (fitP p a && false) = true := hf
    rw [Bool.and_false] at hf
    cases hf
  | a :: b :: c :: r, hf =>
    have hf : (fitP p a && (fitP q b && false)) = true := hf
    rw [Bool.and_false, Bool.and_false] at hf
    cases hf
theorem one_of {p : Par} {V : Value} (h : fitR [p] V) : fitP p V = true := by
  obtain ⟨vs, rfl, hf⟩ := h
  match vs, hf with
  | [a], hf =>
    have hf : (fitP p a && true) = true := hf
    rw [Bool.and_true] at hf
    exact hf
  | [], hf => cases hf
  | a :: b :: r, hf =>
    have hf : (fitP p a && false) = true := hf
    rw [Bool.and_false] at hf
    cases hf
theorem int_of {a : Value} (h : fitP (.one (.n .i64)) a = true) : ∃ z, a = .int .i64 z := by
  cases a with
  | int k z =>
    have h1 : sameI .i64 k = true := h
    rw [sameI_eq h1]
    exact ⟨z, rfl⟩
  | _ => cases h
theorem bool_of {a : Value} (h : fitP (.one .b) a = true) : ∃ b, a = .bool b := by
  cases a with
  | bool b => exact ⟨b, rfl⟩
  | _ => cases h
theorem row_of {ks : List CK} (hn : numK ks = true) {a : Value} (h : fitP (.agg (ks.map tyK)) a = true) : ∃ z, a = .agg (cellsK ks 0 z).toArray := by
  cases a with
  | agg cs =>
    have h : fitL (ks.map tyK) cs.toList = true := h
    obtain ⟨z, e⟩ := row_cells (num_noB hn) (fit_shape hn h)
    exact ⟨z, by rw [← e]⟩
  | _ => cases h
theorem cellsK_shape : ∀ {ks : List CK} {j : Nat} {z : Nat → Int}, noB ks = true → shapeB ks (cellsK ks j z) = true
  | [], _, _, _ => rfl
  | c :: r, j, z, h => by
    show shapeB (c :: r) (cellK c (z j) :: cellsK r (j + 1) z) = true
    rw [shapeB, Bool.and_eq_true]
    cases c with
    | b => cases h
    | s => exact ⟨rfl, cellsK_shape (ks := r) h⟩
    | f k => exact ⟨by cases k <;> rfl, cellsK_shape (ks := r) h⟩
    | i k => exact ⟨decide_eq_true rfl, cellsK_shape (ks := r) h⟩

/-! ### contracts for the law's code -/
def ansX (l : Nat) (cs ts xs : List Value) (V : Value) : ConT := fun args h => match args with
  | .agg ys :: us => match ys.toList with
    | .slice (some ⟨b, 0, none⟩) l' _ :: ts' => match h.getD b none with
      | some r => some (V, [], isB (r = cs ∧ l' = l ∧ ts' = ts ∧ us = xs))
      | none => none
    | _ => none
  | _ => none
theorem ansX_ok {ι : Frn} {f l : Nat} {cs xs : List Value} {V : Value} {t0 t1 t2 t3 t4 t5 : Int} (hf : hasBody Try.prog f = true) (hb : cs.all bareC = true) (hx : xs.all bareP = true) (hV : bareP V = true) (hans : AnsG f l cs (tins t0 t1 t2 t3 t4 t5) xs V) : ConSpec ι f (ansX l cs (tins t0 t1 t2 t3 t4 t5) xs V) := ⟨hf, fun args h v rows he μ cargs w B ha hh hB => by
  unfold ansX at he
  split at he
  · rename_i ys us
    split at he
    · rename_i bl l' c' ts' hy0
      split at he
      · rename_i r hr
        simp only [Option.some.injEq, Prod.mk.injEq] at he
        obtain ⟨rfl, rfl, hk⟩ := he
        obtain ⟨hr1, hr2, hr3, hr4⟩ := of_isB hk
        rw [hr1] at hr
        rw [hr2, hr3] at hy0
        obtain ⟨y, zs, rfl, hy, h2⟩ := vrl_cons ha
        have hys : ys = (Value.slice (some ⟨bl, 0, none⟩) l c' :: tins t0 t1 t2 t3 t4 t5).toArray := Array.ext' hy0
        subst hys hr4
        obtain ⟨u, rfl, hu⟩ := shelf_inv (u := .slice (some ⟨bl, 0, none⟩) l c') hy
        have hrow := local_row hh hu hr hb
        rw [List.drop_zero] at hrow
        refine (hans w u zs hrow (bareP_VRL h2 hx)).mono fun e w' hx => ?_
        obtain ⟨q, rfl, hq, hbl⟩ := hx
        refine ⟨q, μ, rfl, Sub.refl μ, bareP_VR hq hV, ?_, hbl.mono hB⟩
        rw [List.map_nil, List.append_nil]
        exact @HeapR.keep ι _ _ _ _ _ hh hB hbl
      · cases he
    · cases he
  · cases he⟩
def plCon (A : List Value) (V : Value) : ConT := fun args _ => some (V, [], isB (args = A))
def PlainAns (f : Nat) (A : List Value) (V : Value) : Prop := ∀ (w : World) (us : List Value), @VRL noFrn (fun _ => none) A us → Calls Try.prog f us.toArray w fun e w' => ∃ y, e = .returned y ∧ @VR noFrn (fun _ => none) V y ∧ Below w.heap.size w w'
theorem plCon_ok {ι : Frn} {f : Nat} {A : List Value} {V : Value} (hf : hasBody Try.prog f = true) (hA : A.all bareP = true) (hV : bareP V = true) (h : PlainAns f A V) : ConSpec ι f (plCon A V) := ⟨hf, fun args h0 v rows he μ cargs w B ha hh hB => by
  unfold plCon at he
  simp only [Option.some.injEq, Prod.mk.injEq] at he
  obtain ⟨rfl, rfl, hk⟩ := he
  have e := of_isB hk
  subst e
  refine (h w cargs (bareP_VRL ha hA)).mono fun e w' hx => ?_
  obtain ⟨q, rfl, hq, hbl⟩ := hx
  refine ⟨q, μ, rfl, Sub.refl μ, bareP_VR hq hV, ?_, hbl.mono hB⟩
  rw [List.map_nil, List.append_nil]
  exact @HeapR.keep ι _ _ _ _ _ hh hB hbl⟩
/-- contracts do not see that a new block has been laid -/
def StabT (g : ConT) : Prop := ∀ args h v rows k nid row, g args h = some (v, rows, k) → h.getD nid none = none → g args (h.set nid (some row)) = some (v, rows, k)
theorem ansX_stab {l : Nat} {cs ts xs : List Value} {V : Value} : StabT (ansX l cs ts xs V) := fun args h u rows k nid row he hn => by
  unfold ansX at he ⊢
  split at he
  · rename_i ys us
    split at he
    · rename_i bl l' c' ts' hx
      split at he
      · rename_i r hr
        simp only [getD_set hn hr]
        exact he
      · cases he
    · cases he
  · cases he
theorem plCon_stab {A : List Value} {V : Value} : StabT (plCon A V) := fun _ _ _ _ _ _ _ he _ => he
theorem to_stab {l : Nat} {cs ts : List Value} : StabT (ansTo l cs ts) := fun _ _ _ _ _ _ _ he _ => ansTo_stab he
theorem eq_stab {l : Nat} {cs ts : List Value} : StabT (ansEq l cs ts) := fun _ _ _ _ _ _ _ he hn => ansEq_stab he hn
theorem conOf_stab {base : Nat} {tks : Toks} {L : List (Nat × ConT)} (h : ∀ p ∈ L, StabT p.2) : @ConStab (frnOf base tks (seekC L)) := fun f g hf args h0 u rows k nid row he _ hn => by
  have hf : seekC L f = some g := hf
  exact h (f, g) (seekC_mem hf) args h0 u rows k nid row he hn

/-! ### copies and comparisons of plain rows -/
def svR : List CK → Nat → List SV
  | [], _ => []
  | .s :: r, j => .s (j + 2) :: svR r (j + 1)
  | .f k :: r, j => .f k (j + 2) :: svR r (j + 1)
  | .i k :: r, j => .n k (j + 2) :: svR r (j + 1)
  | .b :: r, j => .lit (.bool false) :: svR r (j + 1)
theorem svR_conc {ρ : Nat → Int} {m : Nat} {ws : List (IntKind × Nat)} : ∀ {ks : List CK} {vs : List Value} {j : Nat}, noB ks = true → shapeB ks vs = true → (∀ i v, vs[i]? = some v → ρ (j + i) = zOf v) → j + ks.length ≤ m → (svR ks j).map (conc (gW ρ m ws)) = vs
  | [], [], _, _, _, _, _ => rfl
  | c :: r, v :: s, j, hn, hs, hr, hj => by
    rw [shapeB, Bool.and_eq_true] at hs
    rw [List.length_cons] at hj
    have hr0 : ρ j = zOf v := hr 0 v rfl
    have hr1 : ∀ i u, s[i]? = some u → ρ (j + 1 + i) = zOf u := fun i u hu => by
      have := hr (i + 1) u (by rw [List.getElem?_cons_succ]; exact hu)
      rwa [show j + (i + 1) = j + 1 + i by omega] at this
    cases c with
    | b => cases hn
    | s =>
      cases v with
      | string x =>
        show conc (gW ρ m ws) (.s (j + 2)) :: (svR r (j + 1)).map (conc (gW ρ m ws)) = _
        rw [svR_conc (ks := r) hn hs.2 hr1 (by omega)]
        simp only [conc]
        rw [gW_low (by omega), hr0]
        show Value.string (strOf (encS x)) :: s = _
        rw [strOf_enc]
      | _ => cases hs.1
    | f k =>
      cases v with
      | float k' x =>
        show conc (gW ρ m ws) (.f k (j + 2)) :: (svR r (j + 1)).map (conc (gW ρ m ws)) = _
        rw [svR_conc (ks := r) hn hs.2 hr1 (by omega)]
        simp only [conc]
        rw [gW_low (by omega), hr0, Ev.sameK_eq hs.1]
        rfl
      | _ => cases hs.1
    | i k =>
      cases v with
      | int k' x =>
        have hk : k = k' := of_decide_eq_true hs.1
        subst hk
        show conc (gW ρ m ws) (.n k (j + 2)) :: (svR r (j + 1)).map (conc (gW ρ m ws)) = _
        rw [svR_conc (ks := r) hn hs.2 hr1 (by omega)]
        simp only [conc]
        rw [gW_low (by omega), hr0]
        rfl
      | _ => cases hs.1
  | [], _ :: _, _, _, hs, _, _ => by cases hs
  | _ :: _, [], _, _, hs, _, _ => by cases hs
theorem plain_row {ks : List CK} {f k : Nat} {us : List FuncId} {cf d : Nat} {t : SV} (hn : noB ks = true) (run : @soloB noSFrn Try.prog symE symX us cf d ks.length [] [] ⟨f, List.replicate k (.agg (svR ks 0)), []⟩ t = true) (hus : us.all (funcOk Try.prog) = true)
    {cs : List Value} (hs : shapeB ks cs = true) {V : Value} (ht : ∀ g : Nat → Vl, (svR ks 0).map (conc g) = cs → conc g t = V) (hV : bareP V = true) : PlainAns f (List.replicate k (.agg cs.toArray)) V := fun w us' hu => by
  have hc : (svR ks 0).map (conc (gW (rhoV cs) ks.length [])) = cs := svR_conc hn hs (by
    have := rho_part (A := []) (vs := cs) (B := []) (j := 0) rfl
    rw [List.append_nil] at this
    exact this) (by omega)
  obtain ⟨h1, e, _⟩ := @solo_run noSFrn Try.prog symE symX (fun f => seek f extX) (fun f => seek f orcX) us cf d ks.length [] [] ⟨f, List.replicate k (.agg (svR ks 0)), []⟩ t (fun _ _ => .i 0) (rhoV cs) (fun F hB _ => symER F _ hB) (fun F hB _ => symXR F _ hB)
    (fun _ => rfl) run trivial noFrn (fun _ => rfl) (fun F hB _ f g h => by
      have h : (none : Option (List (Nat × Bool) → List SV → HeapS → M SV)) = some g := h
      cases h)
  rw [ht _ hc] at e
  have ha : (List.replicate k (SV.agg (svR ks 0))).map (conc (gW (rhoV cs) ks.length [])) = List.replicate k (.agg cs.toArray) := by
    rw [List.map_replicate]
    congr 1
    simp only [conc, concL_map]
    rw [hc]
  have e : @funD noFrn Try.prog (fun f => seek f extX) (fun f => seek f orcX) us cf d f ((List.replicate k (SV.agg (svR ks 0))).map (conc (gW (rhoV cs) ks.length []))) [] = some (V, h1, true) := e
  rw [ha] at e
  have hcl : @CallOk noFrn Try.prog (@funD noFrn Try.prog (fun f => seek f extX) (fun f => seek f orcX) us cf d) := @EnvOk.call noFrn _ (@fun_goes noFrn Try.prog (fun f => seek f extX) (fun f => seek f orcX) us cf mixed hus (ext_list extXOk) (orc_list orcXOk) (fun f g h => by
      have h : (none : Option ConT) = some g := h
      cases h) d)
  refine (hcl _ _ _ _ _ _ e rfl (fun _ => none) us' w w.heap.size hu (@HeapR.start noFrn w (noIn w)) (Nat.le_refl _)).mono fun e w' hx => ?_
  obtain ⟨y, μ', rfl, _, hy, _, hbl⟩ := hx
  exact ⟨y, rfl, bareP_VR hy hV, hbl⟩

/-! ### the law -/
theorem law_go {f : FuncId} {fn : Func} {c : Code} (h1 : Try.prog.funcs[f]? = some fn) (h2 : fn.body = some c) (h3 : codeOk c = true) {L : List (Nat × ConT)} {l : Nat} {cs xs us : List Value} {t0 t1 t2 t3 t4 t5 : Int} {w : World} {v : Value} (hv : RowIn w v l cs)
    (hx : xs.all bareP = true) (hu : @VRL noFrn (fun _ => none) xs us) (hcon : ∀ base v, ∀ p ∈ L, ConSpec (frnOf base (tk1 v l cs) (seekC L)) p.1 p.2) (hst : ∀ p ∈ L, StabT p.2)
    (he : ∀ base v, (@codeK (frnOf base (tk1 v l cs) (seekC L)) (@ETl (frnOf base (tk1 v l cs) (seekC L))) 60 c (startS fn (shelf (tok 0 l 0) (tins t0 t1 t2 t3 t4 t5) :: xs) []) (fun e s => (@finK (frnOf base (tk1 v l cs) (seekC L)) Try.prog fn e s).map eraseH)) = some (.bool true, [], true)) :
    Calls Try.prog f (shelf v (tins t0 t1 t2 t3 t4 t5) :: us).toArray w fun e w' => e = .returned (.bool true) ∧ Below w.heap.size w w' := by
  let ι : Frn := frnOf w.heap.size (tk1 v l cs) (seekC L)
  have ht : @VR ι (fun _ => none) (tok 0 l 0) v := tok_VR (ts := tk1 v l cs) (c := 0) rfl hv
  have hE : @EnvOk ι (@ETl ι) := @conE_ok ι _ _ _ mixed (@noExt ι _) (@orc_list ι _ _ noneROk) (conOf_ok (hcon _ _)) (conOf_stab hst)
  have he := he w.heap.size v
  rw [← @codeK_map ι] at he
  obtain ⟨r, hr, hr2⟩ := Option.map_eq_some_iff.1 he
  obtain ⟨x, H, k⟩ := r
  simp only [eraseH, Prod.mk.injEq] at hr2
  obtain ⟨rfl, _, rfl⟩ := hr2
  refine (con_calls ι hE mixed h1 h2 h3 hr (tk1_in hv) (@VRL.cons ι _ _ _ _ _ (shelf_vr ht) (bareP_VRL hu hx))).mono fun e w' hx => ?_
  obtain ⟨y, μ', rfl, hy, hh, hbl⟩ := hx
  rw [@VR.bool_inv ι _ _ _ hy]
  exact ⟨rfl, hbl⟩
/-! ### arguments that came in -/
theorem job_args {ak : List AK} {n : Nat} {cs xs : List Value} {t0 t1 t2 t3 t4 t5 : Int} (hb : rowsB pigK n cs = true) (htw : (tins t0 t1 t2 t3 t4 t5).all wfC = true) (hf : fitK ak xs = true) :
    (SV.agg (gSh ak n) :: gArgs ak n).map (conc (gG ak n cs (tins t0 t1 t2 t3 t4 t5) xs)) = shelf (tok 0 n 0) (tins t0 t1 t2 t3 t4 t5) :: xs := by
  rw [List.map_cons, gArgs_conc hb hf]
  simp only [conc, concL_map]
  rw [gSh_conc hb htw]
  rfl
theorem vrl_one {x v : Value} {xs vs : List Value} (h : @VR noFrn (fun _ => none) x v) (k : @VRL noFrn (fun _ => none) xs vs) : @VRL noFrn (fun _ => none) (x :: xs) (v :: vs) := @VRL.cons noFrn _ _ _ _ _ h k
theorem canC_VRL {ι : Frn} {μ : Nat → Option Nat} : ∀ {cs : List Value}, cs.all bareC = true → @VRL ι μ (cs.map canC) cs
  | [], _ => @VRL.nil ι μ
  | v :: r, h => by
    rw [List.all_cons, Bool.and_eq_true] at h
    exact @VRL.cons ι μ _ _ _ _ (can_VR (canC_R h.1)) (canC_VRL h.2)
section
variable {H : Type} {P : Program} {enc : TypeId × Value → H} {w : World} {r : Reach} {b0 base : Nat} {spare : Nat → Bool} {held : Bool} {v : Value} {d : DataW H} {p : List MemPlace} {t : TypeId}
theorem open_row {ks : List CK} (hn : numK ks = true) (hB : openB P t (.agg (ks.map tyK)) = true) (hF : flatK P 4 t = some ks) (hv : Value.okWide P w r b0 t v) (h : DataW.Trod enc P w base spare held t v d p) :
    ∃ x, @VR noFrn (fun _ => none) (.agg (cellsK ks 0 x).toArray) v ∧ AK.fit (.row ks) (.agg (cellsK ks 0 x).toArray) = true := by
  have hf := openB_ok hB hv
  cases v with
  | agg cs =>
    obtain ⟨fuel, ht⟩ := h
    have hs : shapeW ks cs.toList := flat_ok hF ht
    have hb : cs.toList.all bareC = true := shape_bare hs.1
    obtain ⟨x, e⟩ := row_cells (num_noB hn) (canC_shape hs.1)
    refine ⟨x, ?_, ?_⟩
    · rw [← e]
      have := @VR.of_agg noFrn (fun _ => none) _ _ (canC_VRL (ι := noFrn) (μ := fun _ => none) hb)
      exact this
    · show (noB ks && (shapeB ks (cellsK ks 0 x) && (cellsK ks 0 x).all wrC)) = true
      rw [num_noB hn, ← e, canC_shape hs.1, wfs_wr (canC_wf hs.2)]
      rfl
  | _ => cases hf
end
/-! ### the size of a shelf, as a number -/
def SzOk (z : Int) (l : Nat) (cs : List Value) : Prop := z = szShV l cs
theorem szOk {l : Nat} {cs : List Value} : SzOk (szShV l cs) l cs := rfl
def szZ (l : Nat) (cs ts : List Value) (z : Int) : ConT := fun args _ => match args with
  | [.agg xs, .int .i64 left] => match xs.toList with
    | .slice (some ⟨0, 0, some 0⟩) _ _ :: ts' => some (.int .i64 z, [], decide (left = 1048576) && isB (SzOk z l cs ∧ ts' = ts))
    | _ => none
  | _ => none
theorem szZ_ok {base : Nat} {v : Value} {l : Nat} {cs : List Value} {con : FuncId → Option ConT} {t0 t1 t2 t3 t4 t5 z : Int} (hb : rowsB pigK l cs = true) (hl : l ≤ 9223372036854775807) :
    ConSpec (frnOf base (tk1 v l cs) con) 15 (szZ l cs (tins t0 t1 t2 t3 t4 t5) z) := ⟨by kernel_rfl, fun args h q rows he => by
  refine (ansSz_ok (t0 := t0) (t1 := t1) (t2 := t2) (t3 := t3) (t4 := t4) (t5 := t5) (con := con) (v := v) (base := base) hb hl).2 args h q rows ?_
  unfold szZ at he
  unfold ansSz
  split at he
  · split at he
    · simp only [Option.some.injEq, Prod.mk.injEq, Bool.and_eq_true] at he
      obtain ⟨rfl, rfl, h1, h2⟩ := he
      obtain ⟨h0, h3⟩ := of_isB h2
      unfold SzOk at h0
      subst h0
      rename_i hx
      simp only [hx]
      rw [h1, isB_of h3]; rfl
    · cases he
  · cases he⟩
theorem szZ_stab {l : Nat} {cs ts : List Value} {z : Int} : StabT (szZ l cs ts z) := fun _ _ _ _ _ _ _ he _ => he
theorem noOO {ι : Frn} {P : Program} : @OrcOk ι P noOrc := fun f g e => by cases e
theorem isB_true : isB True = true := isB_of trivial
/-! ### functions that are not entered -/
def noCon : ConT := fun _ _ => some (.bool false, [], false)
theorem noCon_ok {ι : Frn} {f : Nat} (hf : hasBody Try.prog f = true) : ConSpec ι f noCon := ⟨hf, fun args h v rows he => by
  unfold noCon at he
  simp at he⟩
def conWL (ds : List Nat) (l : Nat) (ts : List Value) (b : Bool) : List (Nat × ConT) := conVL l ts b ++ ds.map fun f => (f, noCon)
abbrev conW (ds : List Nat) (l : Nat) (ts : List Value) (b : Bool) : FuncId → Option ConT := seekC (conWL ds l ts b)
theorem conW_ok {ds : List Nat} {base : Nat} {v : Value} {l : Nat} {cs : List Value} {t0 t1 t2 t3 t4 t5 : Int} {b : Bool} (hds : ds.all (hasBody Try.prog) = true) (hb : rowsB pigK l cs = true) (ha : AnsB 18 l cs t0 t1 t2 t3 t4 t5 b) (hp : AnsP l cs t0 t1 t2 t3 t4 t5 b) :
    @ConOk (frnOf base (tk1 v l cs) (conW ds l (tins t0 t1 t2 t3 t4 t5) b)) Try.prog :=
  have key : ∀ p ∈ conVL l (tins t0 t1 t2 t3 t4 t5) b, ConSpec (frnOf base (tk1 v l cs) (conW ds l (tins t0 t1 t2 t3 t4 t5) b)) p.1 p.2 := allC_cons (okCon_ok rfl hb hp) (allC_cons (vaCon_ok rfl hb ha) allC_nil)
  conOf_ok fun p h => by
    rcases List.mem_append.1 h with h | h
    · exact key p h
    · obtain ⟨f, hf, rfl⟩ := List.mem_map.1 h
      exact noCon_ok (List.all_eq_true.1 hds f hf)
end Go.Proofs.Ytigpiogljfedpaa
end
