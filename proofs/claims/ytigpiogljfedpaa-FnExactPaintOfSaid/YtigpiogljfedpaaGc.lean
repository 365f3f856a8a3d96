/-
  Laws over one shelf: functions that are known at their arguments, conditions by calls. No condition.
-/
import Derived.Test.YtigpiogljfedpaaGb
set_option linter.unusedSectionVars false
noncomputable section
namespace Go.Proofs.Ytigpiogljfedpaa
open Go Go.ChangeShapes Go.WideShapes Go.ChangeAt Go.RowKit Ev Sx

/-! ### contracts of curves and of one number, for every instance -/
theorem fin_bare : BareSig finO32 := fun args v h => by
  unfold finO32 at h
  split at h
  · cases h; exact ⟨rfl, rfl⟩
  · cases h
theorem min_eval (a b : Int) : (@funD noFrn Try.prog (fun f => seek f []) (fun f => seek f []) [78] 100 5 78 [.int .i64 a, .int .i64 b] []) = bif decide (a < b) then some (.int .i64 a, [], true) else some (.int .i64 b, [], true) := by kernel_rfl
theorem min_one : OrcOne Try.prog 78 minO := by
  refine orc_one (us := [78]) (cf := 100) (d := 5) (lx := []) mixed (by kernel_rfl) (fun p h => by cases h) (l0 := []) all_nil (by kernel_rfl) fun args v k he hk hx => ?_
  unfold minO at he
  split at he
  · rename_i a b
    simp only [Option.some.injEq, Prod.mk.injEq] at he
    obtain ⟨rfl, rfl⟩ := he
    refine ⟨rfl, rfl, ?_⟩
    have h := min_eval a b
    by_cases hab : a < b
    · rw [decide_eq_true hab, cond_true] at h
      rw [if_pos hab]
      exact ⟨[], h⟩
    · rw [decide_eq_false hab, cond_false] at h
      rw [if_neg hab]
      exact ⟨[], h⟩
  · cases he
theorem min_bare : BareSig minO := fun args v h => by
  unfold minO at h
  split at h
  · cases h; exact ⟨rfl, rfl⟩
  · cases h
def orcV : List (Nat × Sig) :=
  (78, minO) ::
  (111, curveO .amount) ::
  (124, curveO .fin) ::
  (140, curveO .amount) ::
  (127, finO32) ::
  []
theorem orcVOk {ι : Frn} : ∀ p ∈ orcV, @OrcOne ι Try.prog p.1 p.2 :=
  all_cons (orc_any min_one min_bare) <|
  all_cons (orc_any orcAmountI curve_bare) <|
  all_cons (orc_any orcFinI curve_bare) <|
  all_cons (orc_any orcAmountM curve_bare) <|
  all_cons (orc_any finX_one fin_bare) <|
  all_nil
def symV : List (Nat × SymF) :=
  (78, minSy) ::
  (111, curveSy .amount) ::
  (124, curveSy .fin) ::
  (140, curveSy .amount) ::
  (127, finSy) ::
  []
theorem symVR {U : Nat → Vl → Vl} (F : Tab) (ρ : Nat → Int) (hB : Base F ρ U) : ListR F ρ U symV (fun f => seek f orcV) :=
  ListR.cons minSy_ok <|
  ListR.cons (curveSy_ok hB .amount) <|
  ListR.cons (curveSy_ok hB .fin) <|
  ListR.cons (curveSy_ok hB .amount) <|
  ListR.cons (finSy_ok hB) <|
  ListR.nil
theorem orcV_any (ι : Frn) : @OrcOk ι Try.prog (fun f => seek f orcV) := @orc_list ι _ _ orcVOk

/-! ### what is known of a function at its arguments, the shelf being a token -/
def anCon (l : Nat) (ts xs : List Value) (V : Value) : ConT := fun args _ => match args with
  | .agg ys :: us => match ys.toList with
    | .slice (some ⟨0, 0, some 0⟩) l' 0 :: ts' => some (V, [], isB (l' = l ∧ ts' = ts ∧ us = xs))
    | _ => none
  | _ => none
theorem anCon_ok {base : Nat} {tks : Toks} {con : FuncId → Option ConT} {v : Value} {l f : Nat} {cs xs : List Value} {V : Value} {t0 t1 t2 t3 t4 t5 : Int} (hf : hasBody Try.prog f = true) (hk : tks[0]? = some (v, l, cs)) (hb : rowsB pigK l cs = true)
    (hx : xs.all bareP = true) (hV : bareP V = true) (ha : AnsG f l cs (tins t0 t1 t2 t3 t4 t5) xs V) : ConSpec (frnOf base tks con) f (anCon l (tins t0 t1 t2 t3 t4 t5) xs V) := ⟨hf, fun args h q rows he μ cargs w B ha' hh hB => by
  unfold anCon at he
  split at he
  · rename_i ys us
    split at he
    · rename_i l' ts' hx0
      simp only [Option.some.injEq, Prod.mk.injEq] at he
      obtain ⟨rfl, rfl, hk2⟩ := he
      obtain ⟨e1, e2, e3⟩ := of_isB hk2
      rw [e1, e2] at hx0
      obtain ⟨y, zs, rfl, hy, h2⟩ := vrl_cons ha'
      have hys : ys = (tok 0 l 0 :: tins t0 t1 t2 t3 t4 t5).toArray := Array.ext' hx0
      subst hys e3
      obtain ⟨u, rfl, hu⟩ := shelf_inv (u := tok 0 l 0) hy
      obtain ⟨r1, _, _⟩ := tok_row (k := 0) hh hB hk (rowsB_bare (by decide) hb) hu
      refine (ha w u zs r1 (bareP_VRL h2 hx)).mono fun e w' hx => ?_
      obtain ⟨q, rfl, hq, hbl⟩ := hx
      refine ⟨q, μ, rfl, Sub.refl μ, bareP_VR hq hV, ?_, hbl.mono hB⟩
      rw [List.map_nil, List.append_nil]
      exact @HeapR.keep (frnOf base tks con) _ _ _ _ _ hh hB hbl
    · cases he
  · cases he⟩
abbrev KnV := Nat × List Value × Value
def conXL (l : Nat) (ts : List Value) (b : Bool) (L : List KnV) : List (Nat × ConT) := L.map (fun c => (c.1, anCon l ts c.2.1 c.2.2)) ++ conVL l ts b
abbrev conX3 (l : Nat) (ts : List Value) (b : Bool) (L : List KnV) : FuncId → Option ConT := seekC (conXL l ts b L)
/-- they are known -/
def KnOk (l : Nat) (cs ts : List Value) (L : List KnV) : Prop := ∀ c ∈ L, hasBody Try.prog c.1 = true ∧ c.2.1.all bareP = true ∧ bareP c.2.2 = true ∧ AnsG c.1 l cs ts c.2.1 c.2.2
theorem kn_nil {l : Nat} {cs ts : List Value} : KnOk l cs ts [] := fun _ h => by cases h
theorem kn_cons {l f : Nat} {cs ts xs : List Value} {V : Value} {L : List KnV} (h1 : hasBody Try.prog f = true) (h2 : xs.all bareP = true) (h3 : bareP V = true) (h4 : AnsG f l cs ts xs V) (h : KnOk l cs ts L) : KnOk l cs ts ((f, xs, V) :: L) := fun c hc => by
  rcases List.mem_cons.1 hc with rfl | hc
  · exact ⟨h1, h2, h3, h4⟩
  · exact h c hc
theorem conX3_ok {base : Nat} {v : Value} {l : Nat} {cs : List Value} {t0 t1 t2 t3 t4 t5 : Int} {b : Bool} {L : List KnV} (hb : rowsB pigK l cs = true) (ha : AnsB 18 l cs t0 t1 t2 t3 t4 t5 b) (hp : AnsP l cs t0 t1 t2 t3 t4 t5 b)
    (hL : KnOk l cs (tins t0 t1 t2 t3 t4 t5) L) : @ConOk (frnOf base (tk1 v l cs) (conX3 l (tins t0 t1 t2 t3 t4 t5) b L)) Try.prog :=
  have key : ∀ p ∈ conVL l (tins t0 t1 t2 t3 t4 t5) b, ConSpec (frnOf base (tk1 v l cs) (conX3 l (tins t0 t1 t2 t3 t4 t5) b L)) p.1 p.2 := allC_cons (okCon_ok rfl hb hp) (allC_cons (vaCon_ok rfl hb ha) allC_nil)
  conOf_ok fun p h => by
    rcases List.mem_append.1 h with h | h
    · obtain ⟨c, hc, rfl⟩ := List.mem_map.1 h
      obtain ⟨k1, k2, k3, k4⟩ := hL c hc
      exact anCon_ok k1 rfl hb k2 k3 k4
    · exact key p h

/-! ### the same in the symbolic run -/
abbrev KnS := Nat × List SV × SV
def anS (sh xs : List SV) (V : SV) : List (Nat × Bool) → List SV → HeapS → M SV := fun _ args _ => match args with
  | .agg r :: us => gd (allEq (eqSV 3) r sh && allEq (eqSV 3) us xs) (ret V)
  | _ => non
def seekA (sh : List SV) : List KnS → FuncId → Option (List (Nat × Bool) → List SV → HeapS → M SV)
  | [], f => gCon sh f
  | c :: r, f => bif Nat.beq f c.1 then some (anS sh c.2.1 c.2.2) else seekA sh r f
abbrev gF2 (ak : List AK) (n : Nat) (L : List KnS) : SFrn := ⟨fun k => bif Nat.beq k 0 then vsRow n else [], seekA (gSh ak n) L⟩
def knC (g : Nat → Vl) (c : KnS) : KnV := (c.1, c.2.1.map (conc g), conc g c.2.2)
theorem seekA_ok {F : Tab} {ρ : Nat → Int} {U : Nat → Vl → Vl} {sh : List SV} {l m : Nat} {ts : List Value} {g0 : Nat → Vl} (hr : ∀ i, 2 ≤ i → i < m + 2 → raw F ρ U i = g0 i) (hsh : cvl F ρ U sh = tok 0 l 0 :: ts) {f : FuncId} {g : List (Nat × Bool) → List SV → HeapS → M SV} :
    ∀ {L : List KnS}, (L.all fun c => c.2.1.all (inQ m) && inQ m c.2.2) = true → seekA sh L f = some g →
    ∃ G, conX3 l ts true (L.map (knC g0)) f = some G ∧ ∀ pc args h, Sx.Spec F (g pc args h) (fun v => pcH F ρ U pc → G (cvl F ρ U args) (hpc F ρ U h) = some (cv F ρ U v, [], true))
  | [], _, h => gCon_ok hsh h
  | c :: L, hL, h => by
    rw [List.all_cons, Bool.and_eq_true, Bool.and_eq_true] at hL
    unfold seekA at h
    cases h1 : Nat.beq f c.1 with
    | true =>
      rw [h1, cond_true, Option.some.injEq] at h
      subst h
      refine ⟨anCon l ts (c.2.1.map (conc g0)) (conc g0 c.2.2), by show (bif Nat.beq f c.1 then _ else _) = _; rw [h1, cond_true]; rfl, fun pc args h => ?_⟩
      unfold anS
      split
      · rename_i r us
        refine Spec.gd fun hq => Spec.ret fun _ => ?_
        rw [Bool.and_eq_true] at hq
        have e1 := allEq_cv (F := F) (ρ := ρ) (U := U) hq.1
        have e2 := allEq_cv (F := F) (ρ := ρ) (U := U) hq.2
        rw [hsh] at e1
        rw [inQs_cv hr hL.1.1] at e2
        rw [inQ_cv hr hL.1.2, cvl_cons, cv_agg, e1, e2]
        show some (conc g0 c.2.2, [], isB (l = l ∧ ts = ts ∧ c.2.1.map (conc g0) = c.2.1.map (conc g0))) = _
        rw [isB_of ⟨rfl, rfl, rfl⟩]
      · exact Spec.non
    | false =>
      rw [h1, cond_false] at h
      obtain ⟨G, hG, k⟩ := seekA_ok hr hsh hL.2 h
      refine ⟨G, ?_, k⟩
      show (bif Nat.beq f c.1 then _ else _) = _
      rw [h1, cond_false]
      exact hG

section
variable {ak : List AK} {n : Nat} {cs xs : List Value} {t0 t1 t2 t3 t4 t5 : Int}
def g3 (ak : List AK) (exts1 orcs1 : List (Nat × SymF)) (us1 : List FuncId) (cf1 d1 : Nat) (cds : List (Job × Bool)) (exts orcs : List (Nat × SymF)) (us : List FuncId) (cf d : Nat) (fs : List Fact) (L : List KnS) (a b : Job) (ps : List Par) (n : Nat) : Bool :=
  (((vsRow n).all (inC (gN ak n + (gWs ak n).length)) && ((gSh ak n).all (inC (gN ak n + (gWs ak n).length)) && (gArgs ak n).all okBox)) && (L.all fun c => c.2.1.all (inQ (gN ak n + (gWs ak n).length)) && inQ (gN ak n + (gWs ak n).length) c.2.2)) &&
    pair3B (gF ak n) (gF2 ak n L) Try.prog exts1 orcs1 us1 cf1 d1 cds exts orcs us cf d (gN ak n) (gWs ak n) fs a b ps
def g3s (ak : List AK) (exts1 orcs1 : List (Nat × SymF)) (us1 : List FuncId) (cf1 d1 : Nat) (cds : List (Job × Bool)) (exts orcs : List (Nat × SymF)) (us : List FuncId) (cf d : Nat) (fs : List Fact) (L : List KnS) (a : Job) (t : SV) (n : Nat) : Bool :=
  (((vsRow n).all (inC (gN ak n + (gWs ak n).length)) && ((gSh ak n).all (inC (gN ak n + (gWs ak n).length)) && (gArgs ak n).all okBox)) && (L.all fun c => c.2.1.all (inQ (gN ak n + (gWs ak n).length)) && inQ (gN ak n + (gWs ak n).length) c.2.2)) &&
    solo3B (gF ak n) (gF2 ak n L) Try.prog exts1 orcs1 us1 cf1 d1 cds exts orcs us cf d (gN ak n) (gWs ak n) fs a t
abbrev CdOk (ak : List AK) (n : Nat) (cs xs : List Value) (t0 t1 t2 t3 t4 t5 : Int) (exte1 orce1 : Orc) (us1 : List FuncId) (cf1 d1 : Nat) (cds : List (Job × Bool)) : Prop :=
  ∀ base v, ∀ c ∈ cds, ∃ h', @funD (frnOf base (tk1 v n cs) (conV n (tins t0 t1 t2 t3 t4 t5) true)) Try.prog exte1 orce1 us1 cf1 d1 c.1.f (c.1.args.map (conc (gG ak n cs (tins t0 t1 t2 t3 t4 t5) xs))) (concH (gG ak n cs (tins t0 t1 t2 t3 t4 t5) xs) c.1.heap) = some (.bool c.2, h', true)
theorem g3_run {exts1 orcs1 : List (Nat × SymF)} {exte1 orce1 : Orc} {us1 : List FuncId} {cf1 d1 : Nat} {cds : List (Job × Bool)} {exts orcs : List (Nat × SymF)} {exte orce : Orc} {us : List FuncId} {cf d : Nat} {fs : List Fact} {L : List KnS} {a b : Job} {ps : List Par} (U : Nat → Vl → Vl)
    (h : g3 ak exts1 orcs1 us1 cf1 d1 cds exts orcs us cf d fs L a b ps n = true)
    (hx1 : ∀ F ρ, Base F ρ U → ListR F ρ U exts1 exte1) (ho1 : ∀ F ρ, Base F ρ U → ListR F ρ U orcs1 orce1) (hx : ∀ F ρ, Base F ρ U → ListR F ρ U exts exte) (ho : ∀ F ρ, Base F ρ U → ListR F ρ U orcs orce)
    (hb : rowsB pigK n cs = true) (hw : cs.all wfC = true) (htw : (tins t0 t1 t2 t3 t4 t5).all wfC = true) (hE : factsH (gG ak n cs (tins t0 t1 t2 t3 t4 t5) xs) fs) (hc : CdOk ak n cs xs t0 t1 t2 t3 t4 t5 exte1 orce1 us1 cf1 d1 cds) :
    (gArgs ak n).all okBox = true ∧ ∃ V, fitR ps V ∧ ∀ base v,
      (∃ h1, @funD (frnOf base (tk1 v n cs) (conX3 n (tins t0 t1 t2 t3 t4 t5) true (L.map (knC (gG ak n cs (tins t0 t1 t2 t3 t4 t5) xs))))) Try.prog exte orce us cf d a.f (a.args.map (conc (gG ak n cs (tins t0 t1 t2 t3 t4 t5) xs))) (concH (gG ak n cs (tins t0 t1 t2 t3 t4 t5) xs) a.heap) = some (V, h1, true) ∧ h1.take a.heap.length = concH (gG ak n cs (tins t0 t1 t2 t3 t4 t5) xs) a.heap) ∧
      ∃ h2, @funD (frnOf base (tk1 v n cs) (conX3 n (tins t0 t1 t2 t3 t4 t5) true (L.map (knC (gG ak n cs (tins t0 t1 t2 t3 t4 t5) xs))))) Try.prog exte orce us cf d b.f (b.args.map (conc (gG ak n cs (tins t0 t1 t2 t3 t4 t5) xs))) (concH (gG ak n cs (tins t0 t1 t2 t3 t4 t5) xs) b.heap) = some (V, h2, true) ∧ h2.take b.heap.length = concH (gG ak n cs (tins t0 t1 t2 t3 t4 t5) xs) b.heap := by
  unfold g3 at h
  rw [Bool.and_eq_true, Bool.and_eq_true, Bool.and_eq_true, Bool.and_eq_true] at h
  obtain ⟨⟨⟨h1, h2, h3⟩, hL⟩, h4⟩ := h
  refine ⟨h3, ?_⟩
  have hrows : ∀ k, ((bif Nat.beq k 0 then vsRow n else []) : List SV).all (inC (gN ak n + (gWs ak n).length)) = true := fun k => by
    cases Nat.beq k 0
    · rfl
    · exact h1
  obtain ⟨V, hV, hf⟩ := pair3_run (S1 := gF ak n) (S2 := gF2 ak n L) (P := Try.prog) (exte1 := exte1) (orce1 := orce1) (exte := exte) (orce := orce) U (rhoV (gVal cs (tins t0 t1 t2 t3 t4 t5) xs)) (fun F hB _ => hx1 F _ hB) (fun F hB _ => ho1 F _ hB) (fun F hB _ => hx F _ hB) (fun F hB _ => ho F _ hB) hrows hrows h4 hE
  refine ⟨V, hV, fun base v => ?_⟩
  have hrow : ∀ k, (frnOf base (tk1 v n cs) (conV n (tins t0 t1 t2 t3 t4 t5) true)).row k = ((gF ak n).row k).map (conc (gG ak n cs (tins t0 t1 t2 t3 t4 t5) xs)) := fun k => by
    match k with
    | 0 => exact (gRow_conc _ hb hw).symm
    | k + 1 => rfl
  exact hf (frnOf base (tk1 v n cs) (conV n (tins t0 t1 t2 t3 t4 t5) true)) (frnOf base (tk1 v n cs) (conX3 n (tins t0 t1 t2 t3 t4 t5) true (L.map (knC (gG ak n cs (tins t0 t1 t2 t3 t4 t5) xs))))) hrow hrow
    (fun F hB hr f g hc => gCon_ok (by rw [inCs_cv hr h2]; exact gSh_conc hb htw) hc) (fun F hB hr f g hc => seekA_ok hr (by rw [inCs_cv hr h2]; exact gSh_conc hb htw) hL hc) (hc base v)
theorem g3s_run {exts1 orcs1 : List (Nat × SymF)} {exte1 orce1 : Orc} {us1 : List FuncId} {cf1 d1 : Nat} {cds : List (Job × Bool)} {exts orcs : List (Nat × SymF)} {exte orce : Orc} {us : List FuncId} {cf d : Nat} {fs : List Fact} {L : List KnS} {a : Job} {t : SV} (U : Nat → Vl → Vl)
    (h : g3s ak exts1 orcs1 us1 cf1 d1 cds exts orcs us cf d fs L a t n = true)
    (hx1 : ∀ F ρ, Base F ρ U → ListR F ρ U exts1 exte1) (ho1 : ∀ F ρ, Base F ρ U → ListR F ρ U orcs1 orce1) (hx : ∀ F ρ, Base F ρ U → ListR F ρ U exts exte) (ho : ∀ F ρ, Base F ρ U → ListR F ρ U orcs orce)
    (hb : rowsB pigK n cs = true) (hw : cs.all wfC = true) (htw : (tins t0 t1 t2 t3 t4 t5).all wfC = true) (hE : factsH (gG ak n cs (tins t0 t1 t2 t3 t4 t5) xs) fs) (hc : CdOk ak n cs xs t0 t1 t2 t3 t4 t5 exte1 orce1 us1 cf1 d1 cds) (base : Nat) (v : Value) :
    ∃ h1, @funD (frnOf base (tk1 v n cs) (conX3 n (tins t0 t1 t2 t3 t4 t5) true (L.map (knC (gG ak n cs (tins t0 t1 t2 t3 t4 t5) xs))))) Try.prog exte orce us cf d a.f (a.args.map (conc (gG ak n cs (tins t0 t1 t2 t3 t4 t5) xs))) (concH (gG ak n cs (tins t0 t1 t2 t3 t4 t5) xs) a.heap) = some (conc (gG ak n cs (tins t0 t1 t2 t3 t4 t5) xs) t, h1, true) ∧ h1.take a.heap.length = concH (gG ak n cs (tins t0 t1 t2 t3 t4 t5) xs) a.heap := by
  unfold g3s at h
  rw [Bool.and_eq_true, Bool.and_eq_true, Bool.and_eq_true, Bool.and_eq_true] at h
  obtain ⟨⟨⟨h1, h2, h3⟩, hL⟩, h4⟩ := h
  have hrows : ∀ k, ((bif Nat.beq k 0 then vsRow n else []) : List SV).all (inC (gN ak n + (gWs ak n).length)) = true := fun k => by
    cases Nat.beq k 0
    · rfl
    · exact h1
  have hf := solo3_run (S1 := gF ak n) (S2 := gF2 ak n L) (P := Try.prog) (exte1 := exte1) (orce1 := orce1) (exte := exte) (orce := orce) U (rhoV (gVal cs (tins t0 t1 t2 t3 t4 t5) xs)) (fun F hB _ => hx1 F _ hB) (fun F hB _ => ho1 F _ hB) (fun F hB _ => hx F _ hB) (fun F hB _ => ho F _ hB) hrows hrows h4 hE
  have hrow : ∀ k, (frnOf base (tk1 v n cs) (conV n (tins t0 t1 t2 t3 t4 t5) true)).row k = ((gF ak n).row k).map (conc (gG ak n cs (tins t0 t1 t2 t3 t4 t5) xs)) := fun k => by
    match k with
    | 0 => exact (gRow_conc _ hb hw).symm
    | k + 1 => rfl
  exact hf (frnOf base (tk1 v n cs) (conV n (tins t0 t1 t2 t3 t4 t5) true)) (frnOf base (tk1 v n cs) (conX3 n (tins t0 t1 t2 t3 t4 t5) true (L.map (knC (gG ak n cs (tins t0 t1 t2 t3 t4 t5) xs))))) hrow hrow
    (fun F hB hr f g hc => gCon_ok (by rw [inCs_cv hr h2]; exact gSh_conc hb htw) hc) (fun F hB hr f g hc => seekA_ok hr (by rw [inCs_cv hr h2]; exact gSh_conc hb htw) hL hc) (hc base v)
end
/-! ### the numbers of a valid shelf's pigments are amounts -/
theorem shape_drop : ∀ {ck : List CK} {vs : List Value} (d : Nat), shapeB ck vs = true → shapeB (ck.drop d) (vs.drop d) = true
  | _, _, 0, h => h
  | [], [], _ + 1, _ => rfl
  | _ :: r, _ :: s, d + 1, h => by
    rw [shapeB, Bool.and_eq_true] at h
    exact shape_drop (ck := r) (vs := s) d h.2
  | [], _ :: _, _ + 1, h => by cases h
  | _ :: _, [], _ + 1, h => by cases h
theorem shape_take : ∀ {ck : List CK} {vs : List Value} (d : Nat), shapeB ck vs = true → shapeB (ck.take d) (vs.take d) = true
  | _, _, 0, _ => rfl
  | [], [], _ + 1, _ => rfl
  | c :: r, v :: s, d + 1, h => by
    rw [shapeB, Bool.and_eq_true] at h
    rw [List.take_succ_cons, List.take_succ_cons, shapeB, Bool.and_eq_true]
    exact ⟨h.1, shape_take (ck := r) (vs := s) d h.2⟩
  | [], _ :: _, _ + 1, h => by cases h
  | _ :: _, [], _ + 1, h => by cases h
theorem shape_fitL : ∀ {ks : List CK} {cs : List Value}, numK ks = true → shapeB ks cs = true → fitL (ks.map tyK) cs = true
  | [], [], _, _ => rfl
  | [], _ :: _, _, h => by cases h
  | _ :: _, [], _, h => by cases h
  | c :: r, v :: s, hn, h => by
    rw [shapeB, Bool.and_eq_true] at h
    show (fitV (tyK c) v && fitL (r.map tyK) s) = true
    rw [Bool.and_eq_true]
    cases c with
    | s => cases hn
    | b => cases hn
    | f k =>
      refine ⟨?_, shape_fitL (ks := r) hn h.2⟩
      cases v with
      | float k' x => exact h.1
      | _ => cases h.1
    | i k =>
      refine ⟨?_, shape_fitL (ks := r) hn h.2⟩
      cases v with
      | int k' x =>
        have hk : k = k' := of_decide_eq_true h.1
        subst hk
        cases k <;> rfl
      | _ => cases h.1
def cdK (n : Nat) : List (Job × Bool) := (List.range n).flatMap fun q =>
  [(⟨140, [.agg (((vsRow n).drop (q * 34 + 1)).take 16)], []⟩, true), (⟨140, [.agg (((vsRow n).drop (q * 34 + 17)).take 16)], []⟩, true)]
theorem cd_append {ak : List AK} {n : Nat} {cs xs : List Value} {t0 t1 t2 t3 t4 t5 : Int} {exte1 orce1 : Orc} {us1 : List FuncId} {cf1 d1 : Nat} {a b : List (Job × Bool)} (h1 : CdOk ak n cs xs t0 t1 t2 t3 t4 t5 exte1 orce1 us1 cf1 d1 a) (h2 : CdOk ak n cs xs t0 t1 t2 t3 t4 t5 exte1 orce1 us1 cf1 d1 b) :
    CdOk ak n cs xs t0 t1 t2 t3 t4 t5 exte1 orce1 us1 cf1 d1 (a ++ b) := fun base v c hc => (List.mem_append.1 hc).elim (h1 base v c) (h2 base v c)
theorem cdK_ok {us1 : List FuncId} {ak : List AK} {n : Nat} {cs xs : List Value} {t0 t1 t2 t3 t4 t5 : Int} (hb : rowsB pigK n cs = true) (hw : cs.all wfC = true) (hp : ∀ q, q < n → pvV (recAt 34 cs q) = true) :
    CdOk ak n cs xs t0 t1 t2 t3 t4 t5 (fun f => seek f []) (fun f => seek f orcV) us1 300 30 (cdK n) := fun base v c hc => by
  obtain ⟨q, hq, hmem⟩ := List.mem_flatMap.1 hc
  have hq := List.mem_range.1 hq
  have hs := rowsB_at hb hq
  have ha := pv_amounts hs (wf_rec hw q) (hp q hq)
  have part : ∀ d, 16 + d ≤ 34 → ((recAt 34 cs q).drop d).take 16 = (cs.drop (q * 34 + d)).take 16 := fun d hd => by
    unfold recAt
    rw [List.drop_take, List.drop_drop, List.take_take, Nat.min_eq_left (by omega)]
  have one : ∀ d, 16 + d ≤ 34 → (pigK.drop d).take 16 = List.replicate 16 (.f .f32) → allO .amount ((cs.drop (q * 34 + d)).take 16) = true →
      ∃ h', @funD (frnOf base (tk1 v n cs) (conV n (tins t0 t1 t2 t3 t4 t5) true)) Try.prog (fun f => seek f []) (fun f => seek f orcV) us1 300 30 140 ([SV.agg (((vsRow n).drop (q * 34 + d)).take 16)].map (conc (gG ak n cs (tins t0 t1 t2 t3 t4 t5) xs))) [] = some (.bool true, h', true) := fun d hd hk hal => by
    have e3 : ([SV.agg (((vsRow n).drop (q * 34 + d)).take 16)].map (conc (gG ak n cs (tins t0 t1 t2 t3 t4 t5) xs))) = [.agg ((cs.drop (q * 34 + d)).take 16).toArray] := by
      show [conc _ (.agg _)] = _
      simp only [conc, concL_map]
      rw [List.map_take, List.map_drop, gRow_conc _ hb hw]
    rw [e3]
    have hsh : shapeB (List.replicate 16 (.f .f32)) ((cs.drop (q * 34 + d)).take 16) = true := by
      rw [← hk, ← part d hd]
      exact shape_take 16 (shape_drop d hs)
    have hfit : fitA psC [.agg ((cs.drop (q * 34 + d)).take 16).toArray] = true := by
      show (fitL ((List.replicate 16 (CK.f .f32)).map tyK) ((cs.drop (q * 34 + d)).take 16) && true) = true
      rw [shape_fitL rfl hsh]; rfl
    refine ⟨[], ?_⟩
    show (match curveO .amount [.agg ((cs.drop (q * 34 + d)).take 16).toArray] with | some (v, k) => some (v, ([] : Heap), k) | none => none) = _
    unfold curveO
    rw [hfit, cond_true]
    dsimp only
    rw [hal]
  rcases List.mem_cons.1 hmem with rfl | hmem
  · exact one 1 (by decide) rfl (by rw [← part 1 (by decide)]; exact ha.1)
  · rcases List.mem_singleton.1 hmem with rfl
    exact one 17 (by decide) rfl (by rw [← part 17 (by decide)]; exact ha.2)
end Go.Proofs.Ytigpiogljfedpaa
end
