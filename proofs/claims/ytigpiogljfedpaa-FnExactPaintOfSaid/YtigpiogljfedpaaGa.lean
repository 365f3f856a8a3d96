/-
  Laws over one shelf and plain values: contracts, and what evaluations tell. No condition.
-/
import Derived.Test.YtigpiogljfedpaaVw
set_option linter.unusedSectionVars false
noncomputable section
namespace Go.Proofs.Ytigpiogljfedpaa
open Go Go.ChangeShapes Go.WideShapes Go.ChangeAt Go.RowKit Ev Sx

abbrev ConT := List Value → Heap → Option (Value × List (List Value) × Bool)
def seekC : List (Nat × ConT) → FuncId → Option ConT
  | [], _ => none
  | p :: r, f => bif Nat.beq f p.1 then some p.2 else seekC r f
theorem seekC_mem {f : Nat} {g : ConT} : ∀ {l : List (Nat × ConT)}, seekC l f = some g → (f, g) ∈ l
  | [], h => by cases h
  | p :: r, h => by
    unfold seekC at h
    cases hb : Nat.beq f p.1 with
    | true =>
      rw [hb, cond_true, Option.some.injEq] at h
      have := Nat.eq_of_beq_eq_true hb
      subst h this
      exact List.mem_cons_self
    | false =>
      rw [hb, cond_false] at h
      exact List.mem_cons_of_mem _ (seekC_mem h)
theorem conOf_ok {base : Nat} {tks : Toks} {L : List (Nat × ConT)} (h : ∀ p ∈ L, ConSpec (frnOf base tks (seekC L)) p.1 p.2) : @ConOk (frnOf base tks (seekC L)) Try.prog := fun f g hf => by
  have hf : seekC L f = some g := hf
  exact h (f, g) (seekC_mem hf)
theorem allC_nil {Q : Nat × ConT → Prop} : ∀ p ∈ ([] : List (Nat × ConT)), Q p := fun _ h => by cases h
theorem allC_cons {Q : Nat × ConT → Prop} {x : Nat × ConT} {l : List (Nat × ConT)} (h : Q x) (k : ∀ p ∈ l, Q p) : ∀ p ∈ x :: l, Q p := fun p hp => by
  rcases List.mem_cons.1 hp with rfl | hp
  · exact h
  · exact k p hp

/-! ### whether the shelf is valid -/
def vaCon (l : Nat) (ts : List Value) (b : Bool) : ConT := fun args _ => match args with
  | [.agg xs] => match xs.toList with
    | .slice (some ⟨0, 0, some 0⟩) l' 0 :: ts' => some (.bool b, [], isB (l' = l ∧ ts' = ts))
    | _ => none
  | _ => none
theorem vaCon_ok {base : Nat} {tks : Toks} {con : FuncId → Option ConT} {v : Value} {l : Nat} {cs : List Value} {t0 t1 t2 t3 t4 t5 : Int} {b : Bool} (hk : tks[0]? = some (v, l, cs)) (hb : rowsB pigK l cs = true)
    (ha : AnsB 18 l cs t0 t1 t2 t3 t4 t5 b) : ConSpec (frnOf base tks con) 18 (vaCon l (tins t0 t1 t2 t3 t4 t5) b) := ⟨by kernel_rfl, fun args h q rows he μ cargs w B ha' hh hB => by
  unfold vaCon at he
  split at he
  · rename_i xs
    split at he
    · rename_i l' ts' hx
      simp only [Option.some.injEq, Prod.mk.injEq] at he
      obtain ⟨rfl, rfl, hk2⟩ := he
      obtain ⟨e2, e3⟩ := of_isB hk2
      rw [e2, e3] at hx
      obtain ⟨y, ys, rfl, hy, h2⟩ := vrl_cons ha'
      rw [vrl_none h2]
      have hxs : xs = (tok 0 l 0 :: tins t0 t1 t2 t3 t4 t5).toArray := Array.ext' hx
      subst hxs
      obtain ⟨u, rfl, hu⟩ := shelf_inv (u := tok 0 l 0) hy
      obtain ⟨r1, _, _⟩ := tok_row (k := 0) hh hB hk (rowsB_bare (by decide) hb) hu
      refine (ha w u r1).mono fun e w' hx => ?_
      obtain ⟨rfl, hbl⟩ := hx
      refine ⟨_, μ, rfl, Sub.refl μ, @VR.bool (frnOf base tks con) μ _, ?_, hbl.mono hB⟩
      rw [List.map_nil, List.append_nil]
      exact @HeapR.keep (frnOf base tks con) _ _ _ _ _ hh hB hbl
    · cases he
  · cases he⟩
def conVL (l : Nat) (ts : List Value) (b : Bool) : List (Nat × ConT) := [(50, okCon l ts b), (18, vaCon l ts b)]
abbrev conV (l : Nat) (ts : List Value) (b : Bool) : FuncId → Option ConT := seekC (conVL l ts b)
theorem conV_ok {base : Nat} {v : Value} {l : Nat} {cs : List Value} {t0 t1 t2 t3 t4 t5 : Int} {b : Bool} (hb : rowsB pigK l cs = true) (ha : AnsB 18 l cs t0 t1 t2 t3 t4 t5 b) (hp : AnsP l cs t0 t1 t2 t3 t4 t5 b) :
    @ConOk (frnOf base (tk1 v l cs) (conV l (tins t0 t1 t2 t3 t4 t5) b)) Try.prog :=
  conOf_ok (allC_cons (okCon_ok rfl hb hp) (allC_cons (vaCon_ok rfl hb ha) allC_nil))

/-! ### what a function answers to the shelf and plain values -/
def AnsG (f l : Nat) (cs ts xs : List Value) (V : Value) : Prop := ∀ (w : World) (v : Value) (us : List Value), RowIn w v l cs → @VRL noFrn (fun _ => none) xs us →
  Calls Try.prog f (shelf v ts :: us).toArray w fun e w' => ∃ y, e = .returned y ∧ @VR noFrn (fun _ => none) V y ∧ Below w.heap.size w w'
section
variable {l : Nat} {cs : List Value} {t0 t1 t2 t3 t4 t5 : Int} {exte orce : Orc} {us gs : List FuncId} {cf n d f : Nat} {con : FuncId → Option ConT} {xs : List Value} {V : Value}
theorem ansG_D (hus : us.all (funcOk Try.prog) = true) (hext : ∀ ι, @ExtOk ι Try.prog exte) (horc : ∀ ι, @OrcOk ι Try.prog orce) (hcon : ∀ base v, @ConOk (frnOf base (tk1 v l cs) con) Try.prog) (hx : xs.all bareP = true) (hV : bareP V = true)
    (he : ∀ base v, ∃ h', @funD (frnOf base (tk1 v l cs) con) Try.prog exte orce us cf d f (shelf (tok 0 l 0) (tins t0 t1 t2 t3 t4 t5) :: xs) [] = some (V, h', true)) : AnsG f l cs (tins t0 t1 t2 t3 t4 t5) xs V := fun w v us' hv hu => by
  let ι : Frn := frnOf w.heap.size (tk1 v l cs) con
  obtain ⟨h', e⟩ := he w.heap.size v
  have ht : @VR ι (fun _ => none) (tok 0 l 0) v := tok_VR (ts := tk1 v l cs) (c := 0) rfl hv
  have hc : @CallOk ι Try.prog (@funD ι Try.prog exte orce us cf d) := @EnvOk.call ι _ (@fun_goes ι Try.prog exte orce us cf mixed hus (hext ι) (horc ι) (hcon _ _) d)
  refine (hc _ _ _ _ _ _ e rfl (fun _ => none) (shelf v (tins t0 t1 t2 t3 t4 t5) :: us') w w.heap.size (@VRL.cons ι _ _ _ _ _ (shelf_vr ht) (bareP_VRL hu hx)) (@HeapR.start ι w (tk1_in hv)) (Nat.le_refl _)).mono fun e w' hx => ?_
  obtain ⟨y, μ', rfl, _, hy, _, hbl⟩ := hx
  exact ⟨y, rfl, bareP_VR hy hV, hbl⟩
theorem ansG_G (hus : us.all (funcOk Try.prog) = true) (hgs : gs.all (hasBody Try.prog) = true) (hcon : ∀ base v, @ConOk (frnOf base (tk1 v l cs) con) Try.prog) (hx : xs.all bareP = true) (hV : bareP V = true)
    (he : ∀ base v, ∃ h', @funG (frnOf base (tk1 v l cs) con) Try.prog noOrc noOrc us gs cf n d f (shelf (tok 0 l 0) (tins t0 t1 t2 t3 t4 t5) :: xs) [] = some (.val V, h', true)) : AnsG f l cs (tins t0 t1 t2 t3 t4 t5) xs V := fun w v us' hv hu => by
  let ι : Frn := frnOf w.heap.size (tk1 v l cs) con
  obtain ⟨h', e⟩ := he w.heap.size v
  have ht : @VR ι (fun _ => none) (tok 0 l 0) v := tok_VR (ts := tk1 v l cs) (c := 0) rfl hv
  refine ((@funG_goes ι Try.prog noOrc noOrc us gs cf n mixed hus hgs (@noExt ι _) (fun f g e => by cases e) (hcon _ _) d).call f _ [] _ h' true e rfl (fun _ => none) (shelf v (tins t0 t1 t2 t3 t4 t5) :: us') w w.heap.size (@VRL.cons ι _ _ _ _ _ (shelf_vr ht) (bareP_VRL hu hx)) (@HeapR.start ι w (tk1_in hv)) (Nat.le_refl _)).mono fun e w' hx => ?_
  obtain ⟨μ', _, ⟨y, rfl, hy⟩, _, hbl⟩ := hx
  exact ⟨y, rfl, bareP_VR hy hV, hbl⟩
end
theorem of_era {x : Option (Value × Heap × Bool)} {V : Value} {k : Bool} (h : x.map eraseH = some (V, [], k)) (hk : k = true) : ∃ h', x = some (V, h', true) := by
  subst hk
  obtain ⟨r, hr, hr2⟩ := Option.map_eq_some_iff.1 h
  obtain ⟨y, H, k⟩ := r
  simp only [eraseH, Prod.mk.injEq] at hr2
  obtain ⟨rfl, _, rfl⟩ := hr2
  exact ⟨H, hr⟩
def eraseX (r : Res × Heap × Bool) : Res × Heap × Bool := (r.1, [], r.2.2)
theorem of_erx {x : Option (Res × Heap × Bool)} {V : Res} {k : Bool} (h : x.map eraseX = some (V, [], k)) (hk : k = true) : ∃ h', x = some (V, h', true) := by
  subst hk
  obtain ⟨r, hr, hr2⟩ := Option.map_eq_some_iff.1 h
  obtain ⟨y, H, k⟩ := r
  simp only [eraseX, Prod.mk.injEq] at hr2
  obtain ⟨rfl, _, rfl⟩ := hr2
  exact ⟨H, hr⟩
/-! ### a closure, at the memory that it is called in -/
def clCon (A : List Value) (H : Heap) (V : Value) : ConT := fun args h => some (V, [], isB (args = A ∧ h = H))
theorem clCon_ok {base : Nat} {v : Value} {l : Nat} {cs : List Value} {con1 con2 : FuncId → Option ConT} {exte orce : Orc} {us : List FuncId} {cf d f : Nat} {A : List Value} {H : Heap} {V : Value} (hf : hasBody Try.prog f = true) (hus : us.all (funcOk Try.prog) = true)
    (hext : ∀ ι, @ExtOk ι Try.prog exte) (horc : ∀ ι, @OrcOk ι Try.prog orce) (hcon : @ConOk (frnOf base (tk1 v l cs) con1) Try.prog) (hV : bareP V = true) (hl : lowH H.length H = true)
    (he : ∃ h', @funD (frnOf base (tk1 v l cs) con1) Try.prog exte orce us cf d f A H = some (V, h', true) ∧ h'.take H.length = H) : ConSpec (frnOf base (tk1 v l cs) con2) f (clCon A H V) := ⟨hf, fun args h u rows e μ cargs w B ha hh hB => by
  unfold clCon at e
  simp only [Option.some.injEq, Prod.mk.injEq] at e
  obtain ⟨rfl, rfl, hk⟩ := e
  obtain ⟨rfl, rfl⟩ := of_isB hk
  obtain ⟨h', e1, e2⟩ := he
  let ι : Frn := frnOf base (tk1 v l cs) con1
  have hc : @CallOk ι Try.prog (@funD ι Try.prog exte orce us cf d) := @EnvOk.call ι _ (@fun_goes ι Try.prog exte orce us cf mixed hus (hext ι) (horc ι) hcon d)
  refine (@keep_call ι Try.prog _ hc f args h h' V e1 e2 hl μ cargs w B (VRL_con ha) (HeapR_con hh) hB).mono fun e w' hx => ?_
  obtain ⟨y, μ', μ2, rfl, hy, hs, hh2, hb⟩ := hx
  refine ⟨y, μ2, rfl, hs, bareP_VR hy hV, ?_, hb⟩
  rw [List.map_nil, List.append_nil]
  exact HeapR_con hh2⟩

/-! ### runs over a valid shelf and plain values, ak variables -/
def gN (ak : List AK) (n : Nat) : Nat := 34 * n + (6 + (argsK ak).length)
def gWs (ak : List AK) (n : Nat) : List (IntKind × Nat) := wsK tinK (34 * n) ++ wsK (argsK ak) (34 * n + 6)
def gSh (ak : List AK) (n : Nat) : List SV := .lit (.slice (some ⟨0, 0, some 0⟩) n 0) :: svsK tinK (34 * n) (gN ak n + 2)
def gArgs (ak : List AK) (n : Nat) : List SV := argsS ak (34 * n + 6) (gN ak n + 8)
def gVal (cs ts xs : List Value) : List Value := cs ++ (ts ++ flatV xs)
def okS (sh : List SV) : List (Nat × Bool) → List SV → HeapS → M SV := fun _ args h => match args with
  | [.ptr bk 0] => (match h.getD bk none with | some r => gd (allEq (eqSV 3) r sh) (ret (.lit (.bool true))) | none => non)
  | _ => non
def vaS (sh : List SV) : List (Nat × Bool) → List SV → HeapS → M SV := fun _ args _ => match args with
  | [.agg r] => gd (allEq (eqSV 3) r sh) (ret (.lit (.bool true)))
  | _ => non
def gCon (sh : List SV) (f : FuncId) : Option (List (Nat × Bool) → List SV → HeapS → M SV) :=
  bif Nat.beq f 50 then some (okS sh) else bif Nat.beq f 18 then some (vaS sh) else none
abbrev gF (ak : List AK) (n : Nat) : SFrn := ⟨fun k => bif Nat.beq k 0 then vsRow n else [], gCon (gSh ak n)⟩
def okBox : SV → Bool
  | .agg _ => true
  | .s _ => true
  | .f _ _ => true
  | .n _ _ => true
  | _ => false
def gRun (ak : List AK) (exts orcs : List (Nat × SymF)) (us : List FuncId) (cf d : Nat) (fs : List Fact) (a b : Job) (ps : List Par) (n : Nat) : Bool :=
  ((vsRow n).all (inC (gN ak n + (gWs ak n).length)) && ((gSh ak n).all (inC (gN ak n + (gWs ak n).length)) && (gArgs ak n).all okBox)) && @pair2B (gF ak n) Try.prog exts orcs us cf d (gN ak n) (gWs ak n) fs a b ps
/-- boxes in memory: the shelf, an argument, values, a hole -/
inductive Bx where
  | sh
  | arg (i : Nat)
  | lit (cs : List Value)
  | no
def boxS : SV → List SV
  | .agg l => l
  | x => [x]
def Bx.s (ak : List AK) (n : Nat) : Bx → Option (List SV)
  | .sh => some (gSh ak n)
  | .arg i => (gArgs ak n)[i]?.map boxS
  | .lit cs => some (cs.map .lit)
  | .no => none
def Bx.v (l : Nat) (ts xs : List Value) : Bx → Option (List Value)
  | .sh => some (tok 0 l 0 :: ts)
  | .arg i => xs[i]?.map cellsV
  | .lit cs => some cs
  | .no => none
theorem box_conc {g : Nat → Vl} {x : SV} (h : okBox x = true) : (boxS x).map (conc g) = cellsV (conc g x) := by
  cases x with
  | agg l =>
    simp only [conc, concL_map]
    rfl
  | s i => simp only [boxS, conc, List.map_cons, List.map_nil, cellsV]
  | f k i => simp only [boxS, conc, List.map_cons, List.map_nil, cellsV]
  | n k i => simp only [boxS, conc, List.map_cons, List.map_nil, cellsV]
  | _ => cases h
section
variable {ak : List AK} {n : Nat} {cs xs : List Value} {t0 t1 t2 t3 t4 t5 : Int}
abbrev gG (ak : List AK) (n : Nat) (cs ts xs : List Value) : Nat → Vl := gW (rhoV (gVal cs ts xs)) (gN ak n) (gWs ak n)
theorem row_sv (n j w : Nat) : svsK (repK pigK n) j w = svsK (repK pigK n) j 0 ∧ wsK (repK pigK n) j = [] := by
  have one : ∀ (r : List CK) (j w w' : Nat), svsK (pigK ++ r) j w = svsK pigK j 0 ++ svsK r (j + 34) w ∧ wsK (pigK ++ r) j = wsK r (j + 34) := fun r j w w' => ⟨rfl, rfl⟩
  induction n generalizing j w with
  | zero => exact ⟨rfl, rfl⟩
  | succ m ih =>
    have comm : ∀ k, repK pigK (k + 1) = pigK ++ repK pigK k := by
      intro k
      induction k with
      | zero => rfl
      | succ k ih => exact (congrArg (· ++ pigK) ih).trans (List.append_assoc _ _ _)
    rw [comm]
    obtain ⟨a1, a2⟩ := one (repK pigK m) j w 0
    obtain ⟨b1, b2⟩ := one (repK pigK m) j 0 0
    obtain ⟨i1, i2⟩ := ih (j + 34) w
    rw [a1, a2, b1, i1, i2]
    exact ⟨rfl, rfl⟩
theorem gRow_conc (ts : List Value) (hb : rowsB pigK n cs = true) (hw : cs.all wfC = true) : (vsRow n).map (conc (gG ak n cs ts xs)) = cs := by
  have hl : cs.length = n * 34 := rowsB_len hb
  have hs := shape_rep hb hw
  have h0 := (row_sv n 0 (gN ak n + 2)).1
  have h1 := (row_sv n 0 0).2
  unfold vsRow
  rw [← h0]
  refine svs_conc (pre := []) (post := gWs ak n) (noB_rep n) hs (wfs_wr hw) ?_ ?_ ?_ rfl
  · exact rho_part (A := []) (vs := cs) (j := 0) rfl
  · rw [← shape_len hs]; unfold gN; omega
  · rw [h1]; rfl
theorem gSh_conc (hb : rowsB pigK n cs = true) (htw : (tins t0 t1 t2 t3 t4 t5).all wfC = true) : (gSh ak n).map (conc (gG ak n cs (tins t0 t1 t2 t3 t4 t5) xs)) = tok 0 n 0 :: tins t0 t1 t2 t3 t4 t5 := by
  have hl : cs.length = n * 34 := rowsB_len hb
  have ht : (svsK tinK (34 * n) (gN ak n + 2)).map (conc (gG ak n cs (tins t0 t1 t2 t3 t4 t5) xs)) = tins t0 t1 t2 t3 t4 t5 := by
    refine svs_conc (pre := []) (post := wsK (argsK ak) (34 * n + 6)) (by kernel_rfl) tins_shape (wfs_wr htw) ?_ ?_ rfl rfl
    · exact rho_part (A := cs) (vs := tins t0 t1 t2 t3 t4 t5) (j := 34 * n) (by omega)
    · show 34 * n + 6 ≤ gN ak n; unfold gN; omega
  show conc _ (.lit _) :: (svsK tinK (34 * n) (gN ak n + 2)).map _ = _
  rw [ht]
  simp only [conc]
  rfl
theorem gArgs_conc (hb : rowsB pigK n cs = true) (hf : fitK ak xs = true) : (gArgs ak n).map (conc (gG ak n cs (tins t0 t1 t2 t3 t4 t5) xs)) = xs := by
  have hl : cs.length = n * 34 := rowsB_len hb
  refine args_conc (pre := wsK tinK (34 * n)) (post := []) hf ?_ ?_ (by rw [List.append_nil]; rfl) ?_
  · intro i v hv
    have := rho_part (A := cs ++ tins t0 t1 t2 t3 t4 t5) (vs := flatV xs) (B := []) (j := 34 * n + 6) (by rw [List.length_append, hl]; show n * 34 + 6 = _; omega) i v hv
    rw [List.append_nil, List.append_assoc] at this
    exact this
  · unfold gN; omega
  · show gN ak n + 8 = gN ak n + 2 + 6
    omega
theorem bx_conc (hb : rowsB pigK n cs = true) (htw : (tins t0 t1 t2 t3 t4 t5).all wfC = true) (hf : fitK ak xs = true) (hbox : (gArgs ak n).all okBox = true) (bs : List Bx) :
    concH (gG ak n cs (tins t0 t1 t2 t3 t4 t5) xs) (bs.map (Bx.s ak n)) = bs.map (Bx.v n (tins t0 t1 t2 t3 t4 t5) xs) := by
  unfold concH
  rw [List.map_map]
  refine List.map_congr_left fun b _ => ?_
  cases b with
  | sh =>
    show some ((gSh ak n).map _) = some _
    rw [gSh_conc hb htw]
  | arg i =>
    show ((gArgs ak n)[i]?.map boxS).map _ = xs[i]?.map cellsV
    have hx := gArgs_conc (t0 := t0) (t1 := t1) (t2 := t2) (t3 := t3) (t4 := t4) (t5 := t5) hb hf
    have hi : xs[i]? = (gArgs ak n)[i]?.map (conc (gG ak n cs (tins t0 t1 t2 t3 t4 t5) xs)) := by rw [← List.getElem?_map, hx]
    rw [hi]
    cases hy : (gArgs ak n)[i]? with
    | none => rfl
    | some y =>
      show some ((boxS y).map _) = some (cellsV _)
      rw [box_conc (List.all_eq_true.1 hbox y (List.mem_of_getElem? hy))]
  | lit cs =>
    show some ((cs.map SV.lit).map _) = some cs
    rw [List.map_map]
    have : (conc (gG ak n cs (tins t0 t1 t2 t3 t4 t5) xs) ∘ SV.lit) = id := by funext x; simp only [Function.comp, conc, id]
    congr 1
    exact (List.map_congr_left fun x _ => by simp only [Function.comp, conc, id]).trans (List.map_id cs)
  | no => rfl
theorem gCon_ok {F : Tab} {ρ : Nat → Int} {U : Nat → Vl → Vl} {sh : List SV} {l : Nat} {ts : List Value} (hsh : cvl F ρ U sh = tok 0 l 0 :: ts) {f : FuncId} {g : List (Nat × Bool) → List SV → HeapS → M SV} (h : gCon sh f = some g) :
    ∃ G, conV l ts true f = some G ∧ ∀ pc args h, Sx.Spec F (g pc args h) (fun v => pcH F ρ U pc → G (cvl F ρ U args) (hpc F ρ U h) = some (cv F ρ U v, [], true)) := by
  unfold gCon at h
  cases h1 : Nat.beq f 50 with
  | true =>
    rw [h1, cond_true, Option.some.injEq] at h
    subst h
    refine ⟨okCon l ts true, by show (bif Nat.beq f _ then _ else _) = _; rw [h1, cond_true], fun pc args h => ?_⟩
    unfold okS
    split
    · rename_i bk
      split
      · rename_i r hr
        refine Spec.gd fun hq => Spec.ret fun _ => ?_
        have e := allEq_cv (F := F) (ρ := ρ) (U := U) hq
        rw [hsh] at e
        have hv : (hpc F ρ U h).getD bk none = some (cvl F ρ U r) := by rw [row_hpc, hr]; rfl
        show okCon l ts true [cv F ρ U (.ptr bk 0)] (hpc F ρ U h) = some (cv F ρ U (.lit (.bool true)), [], true)
        have e2 : cv F ρ U (.ptr bk 0) = .pointer (some ⟨bk, 0, none⟩) := by simp only [cv, conc]
        rw [e2, cv_lit]
        unfold okCon
        dsimp only
        rw [hv]
        dsimp only
        rw [List.drop_zero, e, isB_of rfl]
      · exact Spec.non
    · exact Spec.non
  | false =>
  rw [h1, cond_false] at h
  cases h2 : Nat.beq f 18 with
  | true =>
    rw [h2, cond_true, Option.some.injEq] at h
    subst h
    refine ⟨vaCon l ts true, by show (bif Nat.beq f _ then _ else bif Nat.beq f _ then _ else _) = _; rw [h1, h2, cond_true, cond_false], fun pc args h => ?_⟩
    unfold vaS
    split
    · rename_i r
      refine Spec.gd fun hq => Spec.ret fun _ => ?_
      have e := allEq_cv (F := F) (ρ := ρ) (U := U) hq
      rw [hsh] at e
      show vaCon l ts true [cv F ρ U (.agg r)] (hpc F ρ U h) = some (cv F ρ U (.lit (.bool true)), [], true)
      rw [cv_agg, cv_lit, e]
      show some (Value.bool true, [], isB (l = l ∧ ts = ts)) = _
      rw [isB_of ⟨rfl, rfl⟩]
    · exact Spec.non
  | false => rw [h2] at h; cases h
theorem g_run {exts orcs : List (Nat × SymF)} {exte orce : Orc} {us : List FuncId} {cf d : Nat} {fs : List Fact} {a b : Job} {ps : List Par} (U : Nat → Vl → Vl) (h : gRun ak exts orcs us cf d fs a b ps n = true)
    (hx : ∀ F ρ, Base F ρ U → ListR F ρ U exts exte) (ho : ∀ F ρ, Base F ρ U → ListR F ρ U orcs orce)
    (hb : rowsB pigK n cs = true) (hw : cs.all wfC = true) (htw : (tins t0 t1 t2 t3 t4 t5).all wfC = true) (hE : factsH (gG ak n cs (tins t0 t1 t2 t3 t4 t5) xs) fs) :
    (gArgs ak n).all okBox = true ∧ ∃ V, fitR ps V ∧ ∀ base v,
      (∃ h1, @funD (frnOf base (tk1 v n cs) (conV n (tins t0 t1 t2 t3 t4 t5) true)) Try.prog exte orce us cf d a.f (a.args.map (conc (gG ak n cs (tins t0 t1 t2 t3 t4 t5) xs))) (concH (gG ak n cs (tins t0 t1 t2 t3 t4 t5) xs) a.heap) = some (V, h1, true) ∧ h1.take a.heap.length = concH (gG ak n cs (tins t0 t1 t2 t3 t4 t5) xs) a.heap) ∧
      ∃ h2, @funD (frnOf base (tk1 v n cs) (conV n (tins t0 t1 t2 t3 t4 t5) true)) Try.prog exte orce us cf d b.f (b.args.map (conc (gG ak n cs (tins t0 t1 t2 t3 t4 t5) xs))) (concH (gG ak n cs (tins t0 t1 t2 t3 t4 t5) xs) b.heap) = some (V, h2, true) ∧ h2.take b.heap.length = concH (gG ak n cs (tins t0 t1 t2 t3 t4 t5) xs) b.heap := by
  unfold gRun at h
  rw [Bool.and_eq_true, Bool.and_eq_true, Bool.and_eq_true] at h
  obtain ⟨⟨h1, h2, h3⟩, h4⟩ := h
  refine ⟨h3, ?_⟩
  obtain ⟨V, hV, hf⟩ := @pair2_run (gF ak n) Try.prog exts orcs exte orce us cf d (gN ak n) (gWs ak n) fs a b ps U (rhoV (gVal cs (tins t0 t1 t2 t3 t4 t5) xs)) (fun F hB _ => hx F _ hB) (fun F hB _ => ho F _ hB)
    (fun k => by
      show (bif Nat.beq k 0 then vsRow n else []).all _ = true
      cases Nat.beq k 0
      · rfl
      · exact h1) h4 hE
  refine ⟨V, hV, fun base v => ?_⟩
  exact hf (frnOf base (tk1 v n cs) (conV n (tins t0 t1 t2 t3 t4 t5) true)) (fun k => by
      match k with
      | 0 => exact (gRow_conc _ hb hw).symm
      | k + 1 => rfl) (fun F hB hr f g hc => gCon_ok (by rw [inCs_cv hr h2]; exact gSh_conc hb htw) hc)
end
end Go.Proofs.Ytigpiogljfedpaa
end
