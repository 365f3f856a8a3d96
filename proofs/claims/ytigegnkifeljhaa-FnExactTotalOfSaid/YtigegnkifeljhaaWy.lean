/-
  Laws over works and plain values: contracts, and what evaluations tell. No condition.
-/
import Derived.Test.YtigegnkifeljhaaWt
import Derived.Test.YtigegnkifeljhaaW
set_option linter.unusedSectionVars false
set_option linter.unusedVariables false
noncomputable section
namespace Go.Proofs.Ytigegnkifeljhaa
open Go Go.ChangeShapes Go.WideShapes Go.ChangeAt Go.RowKit Ev Sx

abbrev ConT := List Value → Heap → Option (Value × List (List Value) × Bool)
def seekC : List (Nat × ConT) → FuncId → Option ConT
  | [], _ => none
  | p :: r, f => bif Nat.beq f p.1 then some p.2 else seekC r f
theorem seekC_mem {f : Nat} {g : ConT} : ∀ {l : List (Nat × ConT)}, seekC l f = some g → (f, g) ∈ l
  | [], h => by cases h
  | p :: r, h => by
    unfold seekC at h
    cases hb : Nat.beq f p.1 with
    | true =>
      rw [hb, cond_true, Option.some.injEq] at h
      have := Nat.eq_of_beq_eq_true hb
      subst h this
      exact List.mem_cons_self
    | false =>
      rw [hb, cond_false] at h
      exact List.mem_cons_of_mem _ (seekC_mem h)
theorem conOf_ok {base : Nat} {tks : Toks} {L : List (Nat × ConT)} (h : ∀ p ∈ L, ConSpec (frnOf base tks (seekC L)) p.1 p.2) : @ConOk (frnOf base tks (seekC L)) Try.prog := fun f g hf => by
  have hf : seekC L f = some g := hf
  exact h (f, g) (seekC_mem hf)
theorem allC_nil {Q : Nat × ConT → Prop} : ∀ p ∈ ([] : List (Nat × ConT)), Q p := fun _ h => by cases h
theorem allC_cons {Q : Nat × ConT → Prop} {x : Nat × ConT} {l : List (Nat × ConT)} (h : Q x) (k : ∀ p ∈ l, Q p) : ∀ p ∈ x :: l, Q p := fun p hp => by
  rcases List.mem_cons.1 hp with rfl | hp
  · exact h
  · exact k p hp

theorem of_era {x : Option (Value × Heap × Bool)} {V : Value} {k : Bool} (h : x.map eraseH = some (V, [], k)) (hk : k = true) : ∃ h', x = some (V, h', true) := by
  subst hk
  obtain ⟨r, hr, hr2⟩ := Option.map_eq_some_iff.1 h
  obtain ⟨y, H, k⟩ := r
  simp only [eraseH, Prod.mk.injEq] at hr2
  obtain ⟨rfl, _, rfl⟩ := hr2
  exact ⟨H, hr⟩
theorem isB_self {α : Sort _} (a : α) : isB (a = a) = true := isB_of rfl
theorem isB_and (p q : Prop) : isB (p ∧ q) = (isB p && isB q) := by
  by_cases hp : p
  · by_cases hq : q
    · rw [isB_of ⟨hp, hq⟩, isB_of hp, isB_of hq]; rfl
    · have h1 : isB (p ∧ q) = false := @decide_eq_false _ (Classical.propDecidable _) fun h => hq h.2
      have h2 : isB q = false := @decide_eq_false _ (Classical.propDecidable _) hq
      rw [h1, h2, Bool.and_false]
  · have h1 : isB (p ∧ q) = false := @decide_eq_false _ (Classical.propDecidable _) fun h => hp h.1
    have h2 : isB p = false := @decide_eq_false _ (Classical.propDecidable _) hp
    rw [h1, h2, Bool.false_and]

/-! ### cells by numbers -/
def cellK : CK → Int → Value
  | .s, z => .string (strOf z)
  | .f k, z => .float k z.toNat
  | .i k, z => .int k z
  | .b, _ => .bool false
def cellsK : List CK → Nat → (Nat → Int) → List Value
  | [], _, _ => []
  | k :: r, j, z => cellK k (z j) :: cellsK r (j + 1) z
theorem cellsK_of {z : Nat → Int} : ∀ {ks : List CK} {cs : List Value} {j : Nat}, noB ks = true → shapeB ks cs = true → (∀ i v, cs[i]? = some v → z (j + i) = zOf v) → cs = cellsK ks j z
  | [], [], _, _, _, _ => rfl
  | c :: r, v :: s, j, hn, hs, hz => by
    rw [shapeB, Bool.and_eq_true] at hs
    have h0 : z j = zOf v := hz 0 v rfl
    have h1 : ∀ i u, s[i]? = some u → z (j + 1 + i) = zOf u := fun i u hu => by
      have := hz (i + 1) u (by rw [List.getElem?_cons_succ]; exact hu)
      rwa [show j + (i + 1) = j + 1 + i by omega] at this
    show v :: s = cellK c (z j) :: cellsK r (j + 1) z
    cases c with
    | b => cases hn
    | s =>
      rw [← cellsK_of (ks := r) hn hs.2 h1, h0]
      cases v with
      | string x => show _ = Value.string (strOf (encS x)) :: s; rw [strOf_enc]
      | _ => cases hs.1
    | f k =>
      rw [← cellsK_of (ks := r) hn hs.2 h1, h0]
      cases v with
      | float k' x => rw [Ev.sameK_eq hs.1]; rfl
      | _ => cases hs.1
    | i k =>
      rw [← cellsK_of (ks := r) hn hs.2 h1, h0]
      cases v with
      | int k' x =>
        have hk : k = k' := of_decide_eq_true hs.1
        subst hk; rfl
      | _ => cases hs.1
  | [], _ :: _, _, _, hs, _ => by cases hs
  | _ :: _, [], _, _, hs, _ => by cases hs
theorem row_cells {ks : List CK} {cs : List Value} (hn : noB ks = true) (hs : shapeB ks cs = true) : ∃ z, cs = cellsK ks 0 z :=
  ⟨fun j => zOf (cs.getD j undef), cellsK_of hn hs fun i v hv => by
    show zOf (cs.getD (0 + i) undef) = zOf v
    rw [Nat.zero_add, List.getD_eq_getElem?_getD, hv]; rfl⟩
def tyK : CK → Ty
  | .f k => .f k
  | .i k => .n k
  | _ => .b
def numK : List CK → Bool
  | [] => true
  | .f _ :: r => numK r
  | .i _ :: r => numK r
  | _ :: _ => false
theorem num_noB : ∀ {ks : List CK}, numK ks = true → noB ks = true
  | [], _ => rfl
  | .f _ :: r, h => num_noB (ks := r) h
  | .i _ :: r, h => num_noB (ks := r) h
  | .s :: _, h => by cases h
  | .b :: _, h => by cases h
theorem fit_shape : ∀ {ks : List CK} {cs : List Value}, numK ks = true → fitL (ks.map tyK) cs = true → shapeB ks cs = true
  | [], [], _, _ => rfl
  | [], _ :: _, _, h => by cases h
  | c :: r, [], _, h => by cases h
  | c :: r, v :: s, hn, h => by
    have h : (fitV (tyK c) v && fitL (r.map tyK) s) = true := h
    rw [Bool.and_eq_true] at h
    rw [shapeB, Bool.and_eq_true]
    cases c with
    | s => cases hn
    | b => cases hn
    | f k =>
      refine ⟨?_, fit_shape (ks := r) hn h.2⟩
      cases v with
      | float k' x => exact h.1
      | _ => cases h.1
    | i k =>
      refine ⟨?_, fit_shape (ks := r) hn h.2⟩
      cases v with
      | int k' x =>
        have h1 : sameI k k' = true := h.1
        exact decide_eq_true (sameI_eq h1)
      | _ => cases h.1
/-! ### forms of answers -/
theorem two_of {p q : Par} {V : Value} (h : fitR [p, q] V) : ∃ a b, V = .tuple #[a, b] ∧ fitP p a = true ∧ fitP q b = true := by
  obtain ⟨vs, rfl, hf⟩ := h
  match vs, hf with
  | [a, b], hf =>
    have hf : (fitP p a && (fitP q b && true)) = true := hf
    rw [Bool.and_true, Bool.and_eq_true] at hf
    exact ⟨a, b, rfl, hf.1, hf.2⟩
  | [], hf => cases hf
  | [a], hf =>
    have hf : (fitP p a && false) = true := hf
    rw [Bool.and_false] at hf
    cases hf
  | a :: b :: c :: r, hf =>
    have hf : (fitP p a && (fitP q b && false)) = true := hf
    rw [Bool.and_false, Bool.and_false] at hf
    cases hf
theorem one_of {p : Par} {V : Value} (h : fitR [p] V) : fitP p V = true := by
  obtain ⟨vs, rfl, hf⟩ := h
  match vs, hf with
  | [a], hf =>
    have hf : (fitP p a && true) = true := hf
    rw [Bool.and_true] at hf
    exact hf
  | [], hf => cases hf
  | a :: b :: r, hf =>
    have hf : (fitP p a && false) = true := hf
    rw [Bool.and_false] at hf
    cases hf
theorem int_of {a : Value} (h : fitP (.one (.n .i64)) a = true) : ∃ z, a = .int .i64 z := by
  cases a with
  | int k z =>
    have h1 : sameI .i64 k = true := h
    rw [sameI_eq h1]
    exact ⟨z, rfl⟩
  | _ => cases h
theorem bool_of {a : Value} (h : fitP (.one .b) a = true) : ∃ b, a = .bool b := by
  cases a with
  | bool b => exact ⟨b, rfl⟩
  | _ => cases h
theorem row_of {ks : List CK} (hn : numK ks = true) {a : Value} (h : fitP (.agg (ks.map tyK)) a = true) : ∃ z, a = .agg (cellsK ks 0 z).toArray := by
  cases a with
  | agg cs =>
    have h : fitL (ks.map tyK) cs.toList = true := h
    obtain ⟨z, e⟩ := row_cells (num_noB hn) (fit_shape hn h)
    exact ⟨z, by rw [← e]⟩
  | _ => cases h
theorem cellsK_shape : ∀ {ks : List CK} {j : Nat} {z : Nat → Int}, noB ks = true → shapeB ks (cellsK ks j z) = true
  | [], _, _, _ => rfl
  | c :: r, j, z, h => by
    show shapeB (c :: r) (cellK c (z j) :: cellsK r (j + 1) z) = true
    rw [shapeB, Bool.and_eq_true]
    cases c with
    | b => cases h
    | s => exact ⟨rfl, cellsK_shape (ks := r) h⟩
    | f k => exact ⟨by cases k <;> rfl, cellsK_shape (ks := r) h⟩
    | i k => exact ⟨decide_eq_true rfl, cellsK_shape (ks := r) h⟩

def plCon (A : List Value) (V : Value) : ConT := fun args _ => some (V, [], isB (args = A))
def PlainAns (f : Nat) (A : List Value) (V : Value) : Prop := ∀ (w : World) (us : List Value), @VRL noFrn (fun _ => none) A us → Calls Try.prog f us.toArray w fun e w' => ∃ y, e = .returned y ∧ @VR noFrn (fun _ => none) V y ∧ Below w.heap.size w w'
theorem plCon_ok {ι : Frn} {f : Nat} {A : List Value} {V : Value} (hf : hasBody Try.prog f = true) (hA : A.all bareP = true) (hV : bareP V = true) (h : PlainAns f A V) : ConSpec ι f (plCon A V) := ⟨hf, fun args h0 v rows he μ cargs w B ha hh hB => by
  unfold plCon at he
  simp only [Option.some.injEq, Prod.mk.injEq] at he
  obtain ⟨rfl, rfl, hk⟩ := he
  have e := of_isB hk
  subst e
  refine (h w cargs (bareP_VRL ha hA)).mono fun e w' hx => ?_
  obtain ⟨q, rfl, hq, hbl⟩ := hx
  refine ⟨q, μ, rfl, Sub.refl μ, bareP_VR hq hV, ?_, hbl.mono hB⟩
  rw [List.map_nil, List.append_nil]
  exact @HeapR.keep ι _ _ _ _ _ hh hB hbl⟩
/-- contracts do not see that a new block has been laid -/
def StabT (g : ConT) : Prop := ∀ args h v rows k nid row, g args h = some (v, rows, k) → h.getD nid none = none → g args (h.set nid (some row)) = some (v, rows, k)
theorem plCon_stab {A : List Value} {V : Value} : StabT (plCon A V) := fun _ _ _ _ _ _ _ he _ => he
theorem conOf_stab {base : Nat} {tks : Toks} {L : List (Nat × ConT)} (h : ∀ p ∈ L, StabT p.2) : @ConStab (frnOf base tks (seekC L)) := fun f g hf args h0 u rows k nid row he _ hn => by
  have hf : seekC L f = some g := hf
  exact h (f, g) (seekC_mem hf) args h0 u rows k nid row he hn

/-! ### copies and comparisons of plain rows -/
def svR : List CK → Nat → List SV
  | [], _ => []
  | .s :: r, j => .s (j + 2) :: svR r (j + 1)
  | .f k :: r, j => .f k (j + 2) :: svR r (j + 1)
  | .i k :: r, j => .n k (j + 2) :: svR r (j + 1)
  | .b :: r, j => .lit (.bool false) :: svR r (j + 1)
theorem svR_conc {ρ : Nat → Int} {m : Nat} {ws : List (IntKind × Nat)} : ∀ {ks : List CK} {vs : List Value} {j : Nat}, noB ks = true → shapeB ks vs = true → (∀ i v, vs[i]? = some v → ρ (j + i) = zOf v) → j + ks.length ≤ m → (svR ks j).map (conc (gW ρ m ws)) = vs
  | [], [], _, _, _, _, _ => rfl
  | c :: r, v :: s, j, hn, hs, hr, hj => by
    rw [shapeB, Bool.and_eq_true] at hs
    rw [List.length_cons] at hj
    have hr0 : ρ j = zOf v := hr 0 v rfl
    have hr1 : ∀ i u, s[i]? = some u → ρ (j + 1 + i) = zOf u := fun i u hu => by
      have := hr (i + 1) u (by rw [List.getElem?_cons_succ]; exact hu)
      rwa [show j + (i + 1) = j + 1 + i by omega] at this
    cases c with
    | b => cases hn
    | s =>
      cases v with
      | string x =>
        show conc (gW ρ m ws) (.s (j + 2)) :: (svR r (j + 1)).map (conc (gW ρ m ws)) = _
        rw [svR_conc (ks := r) hn hs.2 hr1 (by omega)]
        simp only [conc]
        rw [gW_low (by omega), hr0]
        show Value.string (strOf (encS x)) :: s = _
        rw [strOf_enc]
      | _ => cases hs.1
    | f k =>
      cases v with
      | float k' x =>
        show conc (gW ρ m ws) (.f k (j + 2)) :: (svR r (j + 1)).map (conc (gW ρ m ws)) = _
        rw [svR_conc (ks := r) hn hs.2 hr1 (by omega)]
        simp only [conc]
        rw [gW_low (by omega), hr0, Ev.sameK_eq hs.1]
        rfl
      | _ => cases hs.1
    | i k =>
      cases v with
      | int k' x =>
        have hk : k = k' := of_decide_eq_true hs.1
        subst hk
        show conc (gW ρ m ws) (.n k (j + 2)) :: (svR r (j + 1)).map (conc (gW ρ m ws)) = _
        rw [svR_conc (ks := r) hn hs.2 hr1 (by omega)]
        simp only [conc]
        rw [gW_low (by omega), hr0]
        rfl
      | _ => cases hs.1
  | [], _ :: _, _, _, hs, _, _ => by cases hs
  | _ :: _, [], _, _, hs, _, _ => by cases hs
theorem plain_row {ks : List CK} {f k : Nat} {us : List FuncId} {cf d : Nat} {t : SV} (hn : noB ks = true) (run : @soloB noSFrn Try.prog symE symX us cf d ks.length [] [] ⟨f, List.replicate k (.agg (svR ks 0)), []⟩ t = true) (hus : us.all (funcOk Try.prog) = true)
    {cs : List Value} (hs : shapeB ks cs = true) {V : Value} (ht : ∀ g : Nat → Vl, (svR ks 0).map (conc g) = cs → conc g t = V) (hV : bareP V = true) : PlainAns f (List.replicate k (.agg cs.toArray)) V := fun w us' hu => by
  have hc : (svR ks 0).map (conc (gW (rhoV cs) ks.length [])) = cs := svR_conc hn hs (by
    have := rho_part (A := []) (vs := cs) (B := []) (j := 0) rfl
    rw [List.append_nil] at this
    exact this) (by omega)
  obtain ⟨h1, e, _⟩ := @solo_run noSFrn Try.prog symE symX (fun f => seek f extX) (fun f => seek f orcX) us cf d ks.length [] [] ⟨f, List.replicate k (.agg (svR ks 0)), []⟩ t (fun _ _ => .i 0) (rhoV cs) (fun F hB _ => symER F _ hB) (fun F hB _ => symXR F _ hB)
    (fun _ => rfl) run trivial noFrn (fun _ => rfl) (fun F hB _ f g h => by
      have h : (none : Option (List (Nat × Bool) → List SV → HeapS → M SV)) = some g := h
      cases h)
  rw [ht _ hc] at e
  have ha : (List.replicate k (SV.agg (svR ks 0))).map (conc (gW (rhoV cs) ks.length [])) = List.replicate k (.agg cs.toArray) := by
    rw [List.map_replicate]
    congr 1
    simp only [conc, concL_map]
    rw [hc]
  have e : @funD noFrn Try.prog (fun f => seek f extX) (fun f => seek f orcX) us cf d f ((List.replicate k (SV.agg (svR ks 0))).map (conc (gW (rhoV cs) ks.length []))) [] = some (V, h1, true) := e
  rw [ha] at e
  have hcl : @CallOk noFrn Try.prog (@funD noFrn Try.prog (fun f => seek f extX) (fun f => seek f orcX) us cf d) := @EnvOk.call noFrn _ (@fun_goes noFrn Try.prog (fun f => seek f extX) (fun f => seek f orcX) us cf mixed hus (ext_list extXOk) (orc_list orcXOk) (fun f g h => by
      have h : (none : Option ConT) = some g := h
      cases h) d)
  refine (hcl _ _ _ _ _ _ e rfl (fun _ => none) us' w w.heap.size hu (@HeapR.start noFrn w (noIn w)) (Nat.le_refl _)).mono fun e w' hx => ?_
  obtain ⟨y, μ', rfl, _, hy, _, hbl⟩ := hx
  exact ⟨y, rfl, bareP_VR hy hV, hbl⟩

theorem vrl_one {x v : Value} {xs vs : List Value} (h : @VR noFrn (fun _ => none) x v) (k : @VRL noFrn (fun _ => none) xs vs) : @VRL noFrn (fun _ => none) (x :: xs) (v :: vs) := @VRL.cons noFrn _ _ _ _ _ h k
theorem canC_VRL {ι : Frn} {μ : Nat → Option Nat} : ∀ {cs : List Value}, cs.all bareC = true → @VRL ι μ (cs.map canC) cs
  | [], _ => @VRL.nil ι μ
  | v :: r, h => by
    rw [List.all_cons, Bool.and_eq_true] at h
    exact @VRL.cons ι μ _ _ _ _ (can_VR (canC_R h.1)) (canC_VRL h.2)
section
variable {H : Type} {P : Program} {enc : TypeId × Value → H} {w : World} {r : Reach} {b0 base : Nat} {spare : Nat → Bool} {held : Bool} {v : Value} {d : DataW H} {p : List MemPlace} {t : TypeId}
theorem open_row {ks : List CK} (hn : numK ks = true) (hB : openB P t (.agg (ks.map tyK)) = true) (hF : flatK P 4 t = some ks) (hv : Value.okWide P w r b0 t v) (h : DataW.Trod enc P w base spare held t v d p) :
    ∃ x, @VR noFrn (fun _ => none) (.agg (cellsK ks 0 x).toArray) v ∧ AK.fit (.row ks) (.agg (cellsK ks 0 x).toArray) = true := by
  have hf := openB_ok hB hv
  cases v with
  | agg cs =>
    obtain ⟨fuel, ht⟩ := h
    have hs : shapeW ks cs.toList := flat_ok hF ht
    have hb : cs.toList.all bareC = true := shape_bare hs.1
    obtain ⟨x, e⟩ := row_cells (num_noB hn) (canC_shape hs.1)
    refine ⟨x, ?_, ?_⟩
    · rw [← e]
      have := @VR.of_agg noFrn (fun _ => none) _ _ (canC_VRL (ι := noFrn) (μ := fun _ => none) hb)
      exact this
    · show (noB ks && (shapeB ks (cellsK ks 0 x) && (cellsK ks 0 x).all wrC)) = true
      rw [num_noB hn, ← e, canC_shape hs.1, wfs_wr (canC_wf hs.2)]
      rfl
  | _ => cases hf
theorem open_i64 (ht : P.underlying t = some (.int .i64)) (hv : Value.okWide P w r b0 t v) :
    ∃ x, @VR noFrn (fun _ => none) (.int .i64 x) v ∧ AK.fit (.one (.i .i64)) (.int .i64 x) = true := by
  unfold Value.okWide at hv
  rw [ht] at hv
  unfold Cell.okWide at hv
  rw [ht] at hv
  unfold Cell.ok at hv
  rw [ht] at hv
  cases v with
  | int k z =>
    have hv : k = .i64 ∧ IntKind.i64.has z := hv
    obtain ⟨rfl, h⟩ := hv
    refine ⟨z, @VR.int noFrn _ _ _, ?_⟩
    have hw : wrC (.int .i64 z) = true := by
      have h1 : -9223372036854775808 ≤ z ∧ z ≤ 9223372036854775807 := h
      exact decide_eq_true (wrap_in h1.1 h1.2)
    show (true && (true && (wrC (.int .i64 z) && true))) = true
    rw [hw]; rfl
  | _ => exact hv.elim
theorem open_f32 (ht : P.underlying t = some (.float .f32)) (hv : Value.okWide P w r b0 t v) :
    ∃ x, @VR noFrn (fun _ => none) (.float .f32 x) v ∧ AK.fit (.one (.f .f32)) (.float .f32 x) = true := by
  unfold Value.okWide at hv
  rw [ht] at hv
  unfold Cell.okWide at hv
  rw [ht] at hv
  unfold Cell.ok at hv
  rw [ht] at hv
  cases v with
  | float k z =>
    have hv : k = .f32 ∧ FloatKind.f32.has z := hv
    obtain ⟨rfl, h⟩ := hv
    exact ⟨cn .f32 z, @VR.float noFrn _ _ _ _ rfl, rfl⟩
  | _ => exact hv.elim
theorem open_str (ht : P.underlying t = some .string) (hv : Value.okWide P w r b0 t v) :
    ∃ x, @VR noFrn (fun _ => none) (.string x) v ∧ AK.fit (.one .s) (.string x) = true := by
  unfold Value.okWide at hv
  rw [ht] at hv
  unfold Cell.okWide at hv
  rw [ht] at hv
  unfold Cell.ok at hv
  rw [ht] at hv
  cases v with
  | string z => exact ⟨z, @VR.string noFrn _ _, rfl⟩
  | _ => exact hv.elim
end
theorem isB_true : isB True = true := isB_of trivial

/-! ### works -/
def szW (l : Nat) (cs : List Value) (ts z : Int) : ConT := fun args _ => match args with
  | [.agg xs, .int .i64 left] => match xs.toList with
    | .int .i64 ts' :: .slice (some ⟨0, 0, some 0⟩) _ _ :: [] => some (.int .i64 z, [], decide (left = 1048576) && isB (z = szShV l cs ∧ ts' = ts))
    | _ => none
  | _ => none
theorem szW_ok {base : Nat} {v : Value} {l : Nat} {cs : List Value} {con : FuncId → Option ConT} {t0 z : Int} (hb : rowsB batK l cs = true) (hl : l ≤ 9223372036854775807) :
    ConSpec (frnOf base (tk1 v l cs) con) 15 (szW l cs t0 z) := ⟨by kernel_rfl, fun args h q rows he => by
  refine (ansSz_ok (t0 := t0) (con := con) (v := v) (base := base) hb hl).2 args h q rows ?_
  unfold szW at he
  unfold ansSz
  split at he
  · split at he
    · simp only [Option.some.injEq, Prod.mk.injEq, Bool.and_eq_true] at he
      obtain ⟨rfl, rfl, h1, h2⟩ := he
      obtain ⟨h0, h3⟩ := of_isB h2
      subst h0
      rename_i hx
      simp only [hx]
      rw [h1, isB_of h3]; rfl
    · cases he
  · cases he⟩
theorem szW_stab {l : Nat} {cs : List Value} {ts z : Int} : StabT (szW l cs ts z) := fun _ _ _ _ _ _ _ he _ => he
theorem toW_stab {l : Nat} {cs : List Value} {ts : Int} : StabT (ansTo l cs ts) := fun _ _ _ _ _ _ _ he _ => ansTo_stab he
theorem eqW_stab {l : Nat} {cs : List Value} {ts : Int} : StabT (ansEq l cs ts) := fun _ _ _ _ _ _ _ he hn => ansEq_stab he hn
theorem anW_stab {l : Nat} {cs : List Value} {ts : Int} {V : Value} : StabT (ansV l cs ts V) := fun _ _ _ _ _ _ _ he hn => ansV_stab he hn
theorem anW_ok {ι : Frn} {f l : Nat} {cs : List Value} {t0 : Int} {V : Value} (hf : hasBody Try.prog f = true) (hb : cs.all bareC = true) (hV : bareP V = true) (hans : AnsW f l cs t0 V) : ConSpec ι f (ansV l cs t0 V) := ⟨hf, fun args h v rows he μ cargs w B ha hh hB => by
  unfold ansV at he
  split at he
  · rename_i xs
    split at he
    · rename_i ts' bl l' c' hx
      split at he
      · rename_i r hr
        simp only [Option.some.injEq, Prod.mk.injEq] at he
        obtain ⟨rfl, rfl, hk⟩ := he
        obtain ⟨hr1, hr2, hr3, hr4⟩ := of_isB hk
        rw [hr1] at hr
        rw [hr2] at hr4
        rw [hr2, hr3] at hx
        obtain ⟨y, ys, rfl, hy, h2⟩ := vrl_cons ha
        rw [vrl_none h2]
        have hxs : xs = ([Value.int .i64 t0, Value.slice (some ⟨bl, 0, none⟩) l c'] : List Value).toArray := Array.ext' hx
        subst hxs
        obtain ⟨u, rfl, hu⟩ := works_inv (u := .slice (some ⟨bl, 0, none⟩) l c') hy
        have hrow := local_row hh hu hr hb
        rw [List.drop_zero] at hrow
        have hcap : ∀ a l0 c0, u = .slice a l0 c0 → l0 ≤ c0 := fun a l0 c0 e => by
          obtain ⟨b2, e2, _⟩ := @VR.slice_inv ι _ _ _ _ _ _ hu
          rw [e2] at e
          cases e
          exact hr4
        refine (hans w u ⟨hrow, hcap⟩).mono fun e w' hx => ?_
        obtain ⟨q, rfl, hq, hbl⟩ := hx
        refine ⟨q, μ, rfl, Sub.refl μ, bareP_VR hq hV, ?_, hbl.mono hB⟩
        rw [List.map_nil, List.append_nil]
        exact @HeapR.keep ι _ _ _ _ _ hh hB hbl
      · cases he
    · cases he
  · cases he⟩
theorem wlaw_go {f : FuncId} {fn : Func} {c : Code} (h1 : Try.prog.funcs[f]? = some fn) (h2 : fn.body = some c) (h3 : codeOk c = true) {L : List (Nat × ConT)} {l : Nat} {cs : List Value} {t0 : Int} {w : World} {v : Value} (hv : RowIn w v l cs)
    (hcon : ∀ base v, ∀ p ∈ L, ConSpec (frnOf base (tk1 v l cs) (seekC L)) p.1 p.2) (hst : ∀ p ∈ L, StabT p.2)
    (he : ∀ base v, (@codeK (frnOf base (tk1 v l cs) (seekC L)) (@ETl (frnOf base (tk1 v l cs) (seekC L))) 60 c (startS fn [works (tok 0 l 0) (rooms t0)] []) (fun e s => (@finK (frnOf base (tk1 v l cs) (seekC L)) Try.prog fn e s).map eraseH)) = some (.bool true, [], true)) :
    Calls Try.prog f #[works v (rooms t0)] w fun e w' => e = .returned (.bool true) ∧ Below w.heap.size w w' := by
  let ι : Frn := frnOf w.heap.size (tk1 v l cs) (seekC L)
  have ht : @VR ι (fun _ => none) (tok 0 l 0) v := tok_VR (ts := tk1 v l cs) (c := 0) rfl hv
  have hE : @EnvOk ι (@ETl ι) := @conE_ok ι _ _ _ mixed (@noExt ι _) (@orc_list ι _ _ noneROk) (conOf_ok (hcon _ _)) (conOf_stab hst)
  have he := he w.heap.size v
  rw [← @codeK_map ι] at he
  obtain ⟨r, hr, hr2⟩ := Option.map_eq_some_iff.1 he
  obtain ⟨x, H, k⟩ := r
  simp only [eraseH, Prod.mk.injEq] at hr2
  obtain ⟨rfl, _, rfl⟩ := hr2
  refine (con_calls ι hE mixed h1 h2 h3 hr (tk1_in hv) (@VRL.cons ι _ _ _ _ _ (works_vr ht) (@VRL.nil ι _))).mono fun e w' hx => ?_
  obtain ⟨y, μ', rfl, hy, hh, hbl⟩ := hx
  rw [@VR.bool_inv ι _ _ _ hy]
  exact ⟨rfl, hbl⟩
/-! ### whether works are valid, asked of what came in -/
theorem tokC_row {base : Nat} {ts : Toks} {con : FuncId → Option ConT} {μ : Nat → Option Nat} {h : Heap} {w : World} {B : Nat} (hh : @HeapR (frnOf base ts con) μ h w B) (hB : B ≤ w.heap.size) {k l c : Nat} {v u : Value} {cs : List Value} (hk : ts[k]? = some (v, l, cs)) (h0 : l = 0 → cs = [])
    (hbare : cs.all bareC = true) (hv : @VR (frnOf base ts con) μ (tokC k l c) u) : RowC w u l cs := by
  cases hv with
  | sliceP _ _ _ _ a c' hc hr =>
    by_cases hl : 0 < l
    · obtain ⟨b, o', L, C, hrel, rfl⟩ := hr hl
      obtain ⟨l2, cs2, hk2, a2, c2, e, hp⟩ := hrel
      rw [hk] at hk2
      cases hk2
      have hi : @Frn.inv (frnOf base ts con) w := @HeapR.inv (frnOf base ts con) _ _ _ _ hh
      have hbs : base ≤ B := @HeapR.base (frnOf base ts con) _ _ _ _ hh
      obtain ⟨a3, c3, e3, hin⟩ := hi k _ _ _ hk
      cases e3
      refine ⟨⟨_, _, rfl, fun _ => ⟨b, _, rfl⟩, fun j x hx => ?_⟩, fun a l' c e => by cases e; exact hc⟩
      obtain ⟨b2, o2, x', e, hlt, hcc, hr2⟩ := hin j x hx
      cases e
      exact ⟨b, _, x', rfl, Nat.lt_of_lt_of_le hlt (Nat.le_trans hbs hB), hcc, can_of_tok hr2 (List.all_eq_true.1 hbare x (List.mem_of_getElem? hx))⟩
    · refine ⟨⟨_, _, rfl, fun h => absurd h hl, fun j x hx => ?_⟩, fun a l' c e => by cases e; exact hc⟩
      rw [h0 (by omega)] at hx
      cases hx
def vaW (l : Nat) (t0 : Int) (b : Bool) : ConT := fun args _ => match args with
  | [.agg xs] => match xs.toList with
    | .int .i64 t' :: .slice (some ⟨0, 0, some 1⟩) l' 0 :: [] => some (.bool b, [], isB (l' = l ∧ t' = t0))
    | _ => none
  | _ => none
theorem vaW_ok {base : Nat} {tks : Toks} {con : FuncId → Option ConT} {v : Value} {l f : Nat} {cs : List Value} {t0 : Int} {b : Bool} (hf : hasBody Try.prog f = true) (hk : tks[0]? = some (v, l, cs)) (hb : rowsB batK l cs = true)
    (ha : AnsW f l cs t0 (.bool b)) : ConSpec (frnOf base tks con) f (vaW l t0 b) := ⟨hf, fun args h q rows he μ cargs w B ha' hh hB => by
  unfold vaW at he
  split at he
  · rename_i xs
    split at he
    · rename_i t' l' hx
      simp only [Option.some.injEq, Prod.mk.injEq] at he
      obtain ⟨rfl, rfl, hk2⟩ := he
      obtain ⟨e2, e3⟩ := of_isB hk2
      rw [e2, e3] at hx
      obtain ⟨y, ys, rfl, hy, h2⟩ := vrl_cons ha'
      rw [vrl_none h2]
      have hxs : xs = ([Value.int .i64 t0, tokC 0 l 0] : List Value).toArray := Array.ext' hx
      subst hxs
      obtain ⟨u, rfl, hu⟩ := works_inv (u := tokC 0 l 0) hy
      have r1 := tokC_row (k := 0) hh hB hk (fun h0 => List.length_eq_zero_iff.1 (by rw [rowsB_len hb, h0, Nat.zero_mul])) (rowsB_bare (by decide) hb) hu
      refine (ha w u r1).mono fun e w' hx => ?_
      obtain ⟨q, rfl, hq, hbl⟩ := hx
      refine ⟨q, μ, rfl, Sub.refl μ, bareP_VR hq rfl, ?_, hbl.mono hB⟩
      rw [List.map_nil, List.append_nil]
      exact @HeapR.keep (frnOf base tks con) _ _ _ _ _ hh hB hbl
    · cases he
  · cases he⟩
end Go.Proofs.Ytigegnkifeljhaa
end
