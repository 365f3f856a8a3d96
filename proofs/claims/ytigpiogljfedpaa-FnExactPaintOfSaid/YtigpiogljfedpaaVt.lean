/-
  Shelves of up to 6 pigments: program and model tell alike whether they are valid, wherever they lie. No condition.
-/
import Derived.Test.YtigpiogljfedpaaVs
set_option linter.unusedSectionVars false
noncomputable section
namespace Go.Proofs.Ytigpiogljfedpaa
open Go Go.ChangeShapes Go.WideShapes Go.ChangeAt Go.RowKit Ev Sx

def vsIn (n : Nat) : Bool := (vsRow n).all (inC (35 * n + 6 + (vsWs n).length)) && (vsSh n).all (inC (35 * n + 6 + (vsWs n).length))
theorem vs_run {n : Nat} (h : n ≤ 6) : vsRun n = true := by
  match n, h with
  | 0, _ => exact vs_run0
  | 1, _ => exact vs_run1
  | 2, _ => exact vs_run2
  | 3, _ => exact vs_run3
  | 4, _ => exact vs_run4
  | 5, _ => exact vs_run5
  | 6, _ => exact vs_run6
theorem vs_in0 : vsIn 0 = true := by kernel_rfl
theorem vs_in1 : vsIn 1 = true := by kernel_rfl
theorem vs_in2 : vsIn 2 = true := by kernel_rfl
theorem vs_in3 : vsIn 3 = true := by kernel_rfl
theorem vs_in4 : vsIn 4 = true := by kernel_rfl
theorem vs_in5 : vsIn 5 = true := by kernel_rfl
theorem vs_in6 : vsIn 6 = true := by kernel_rfl
theorem vs_in {n : Nat} (h : n ≤ 6) : vsIn n = true := by
  match n, h with
  | 0, _ => exact vs_in0
  | 1, _ => exact vs_in1
  | 2, _ => exact vs_in2
  | 3, _ => exact vs_in3
  | 4, _ => exact vs_in4
  | 5, _ => exact vs_in5
  | 6, _ => exact vs_in6
theorem vs1_run {n : Nat} (h : n ≤ 6) : vs1Run n = true := by
  match n, h with
  | 0, _ => exact vs1_run0
  | 1, _ => exact vs1_run1
  | 2, _ => exact vs1_run2
  | 3, _ => exact vs1_run3
  | 4, _ => exact vs1_run4
  | 5, _ => exact vs1_run5
  | 6, _ => exact vs1_run6
/-! ### what the contracts answer -/
def pgM (l : Nat) (cs : List Value) : Sig
  | [.pointer (some ⟨0, o, some 0⟩)] => some (.bool (pvV ((cs.drop o).take 34)), isB (∃ q, q < l ∧ o = q * 34))
  | _ => none
def pgI (l : Nat) (cs : List Value) : Sig
  | [.agg xs] => some (.bool (pvV xs.toList), isB (∃ q, q < l ∧ xs.toList = recAt 34 cs q))
  | _ => none
theorem wf_rec {cs : List Value} (hw : cs.all wfC = true) (i : Nat) : (recAt 34 cs i).all wfC = true := by
  rw [List.all_eq_true] at hw ⊢
  exact fun v hv => hw v (List.mem_of_mem_drop (List.mem_of_mem_take hv))
/-- a pigment of a slice, as it lies in memory -/
theorem pig_at {ts : Toks} {w : World} {v : Value} {l : Nat} {cs : List Value} {b o : Nat} {c : Nat} (hv : v = .slice (some ⟨b, o, none⟩) l c) (hin : TokIn ts w v l cs) (hb : rowsB pigK l cs = true) {q : Nat} (hq : q < l) : PigAt w b (o + q * 34) (recAt 34 cs q) := by
  obtain ⟨a, c', e, _, h2⟩ := hin
  rw [hv] at e
  cases e
  have hlen : cs.length = l * 34 := rowsB_len hb
  have h1 : (q + 1) * 34 ≤ l * 34 := Nat.mul_le_mul_right 34 hq
  have bare := rowsB_bare (by decide) hb
  have get : ∀ j, j < 34 → (recAt 34 cs q)[j]? = cs[q * 34 + j]? := fun j hj => by
    unfold recAt
    rw [List.getElem?_take_of_lt hj, List.getElem?_drop]
  refine ⟨?_, fun j x hx => ?_⟩
  · have hlt : q * 34 < cs.length := by omega
    obtain ⟨b', o', x', e, hlt, _, _⟩ := h2 (q * 34) _ (List.getElem?_eq_getElem hlt)
    cases e
    exact hlt
  · have hj : j < 34 := by
      have := (List.getElem?_eq_some_iff.1 hx).1
      unfold recAt at this
      rw [List.length_take] at this
      omega
    rw [get j hj] at hx
    obtain ⟨b', o', x', e, _, hc, hr⟩ := h2 _ x hx
    cases e
    exact ⟨x', by rw [Nat.add_assoc]; exact hc, can_of_tok hr (List.all_eq_true.1 bare x (List.mem_of_getElem? hx))⟩
section
variable {base : Nat} {ts : Toks} {con : FuncId → Option (List Value → Heap → Option (Value × List (List Value) × Bool))} {v : Value} {l : Nat} {cs : List Value}
theorem tok_now (hk : ts[0]? = some (v, l, cs)) {w : World} (hw : @FrnIn (frnOf base ts con) w) {b o c : Nat} (hv : v = .slice (some ⟨b, o, none⟩) l c) : TokIn ts w v l cs := by
  obtain ⟨h1, h2⟩ := hw
  obtain ⟨a, c', rfl, h3⟩ := h2 0 v l cs hk
  cases hv
  refine ⟨_, _, rfl, fun _ => ⟨_, _, rfl⟩, fun j x hx => ?_⟩
  obtain ⟨b, o, x', e, hlt, hc, hr⟩ := h3 j x hx
  exact ⟨b, o, x', e, Nat.lt_of_lt_of_le hlt h1, hc, hr⟩
theorem pgM_one (hk : ts[0]? = some (v, l, cs)) (hb : rowsB pigK l cs = true) (hw : cs.all wfC = true) : @OrcOne (frnOf base ts con) Try.prog 105 (pgM l cs) := by
  refine ⟨by kernel_rfl, fun args u k he hkk μ cargs w ha hin => ?_⟩
  unfold pgM at he
  split at he
  · rename_i o
    simp only [Option.some.injEq, Prod.mk.injEq] at he
    obtain ⟨rfl, rfl⟩ := he
    obtain ⟨q, hq, rfl⟩ := of_isB hkk
    obtain ⟨y, rfl, hy⟩ := @one_arg (frnOf base ts con) _ _ _ ha
    cases hy with
    | ptrF _ _ l' c' b o' hrel =>
      obtain ⟨l2, cs2, hk2, a2, c2, e, _⟩ := hrel
      rw [hk] at hk2
      cases hk2
      cases e
      refine (pig_ptr (rowsB_at hb hq) (wf_rec hw q) (pig_at rfl (tok_now hk hin rfl) hb hq)).mono fun e w' hx => ?_
      obtain ⟨rfl, hbl⟩ := hx
      exact ⟨_, rfl, @VR.bool (frnOf base ts con) _ _, hbl⟩
  · cases he
theorem pgI_one (hk : ts[0]? = some (v, l, cs)) (hb : rowsB pigK l cs = true) (hw : cs.all wfC = true) : @OrcOne (frnOf base ts con) Try.prog 55 (pgI l cs) := by
  refine ⟨by kernel_rfl, fun args u k he hkk μ cargs w ha hin => ?_⟩
  unfold pgI at he
  split at he
  · rename_i xs
    simp only [Option.some.injEq, Prod.mk.injEq] at he
    obtain ⟨rfl, rfl⟩ := he
    obtain ⟨q, hq, hx⟩ := of_isB hkk
    obtain ⟨y, rfl, hy⟩ := @one_arg (frnOf base ts con) _ _ _ ha
    obtain ⟨a, c', hv, h3⟩ := hin.2 0 v l cs hk
    have hlen : cs.length = l * 34 := rowsB_len hb
    have hlt : q * 34 < cs.length := by
      have h1 : (q + 1) * 34 ≤ l * 34 := Nat.mul_le_mul_right 34 hq
      omega
    obtain ⟨b, o, x', e, _, _, _⟩ := h3 (q * 34) _ (List.getElem?_eq_getElem hlt)
    subst e
    have hxs : xs = (recAt 34 cs q).toArray := by rw [← hx]
    subst hxs
    refine (pig_agg (rowsB_at hb hq) (wf_rec hw q) (pig_at hv (tok_now hk hin hv) hb hq) hy).mono fun e w' hx => ?_
    obtain ⟨rfl, hbl⟩ := hx
    exact ⟨_, rfl, @VR.bool (frnOf base ts con) _ _, hbl⟩
  · cases he
end
/-! ### and in the runs -/
def orcVs (l : Nat) (cs : List Value) : List (Nat × Sig) := [(105, pgM l cs), (55, pgI l cs)]
/-- the variables: the pigments' cells, the tins, and whether each pigment is valid -/
def vsAll (n : Nat) (cs ts : List Value) : List Value := cs ++ (ts ++ (List.range n).map fun q => .int .i64 (bif pvV (recAt 34 cs q) then 1 else 0))
theorem atomV_ok {F : Tab} {ρ : Nat → Int} {U : Nat → Vl → Vl} (hB : Base F ρ U) {j : Nat} {b : Bool} (h : ρ j = (bif b then 1 else 0)) : Sx.Spec F (atomV j) (fun r => cv F ρ U r = .bool b) := by
  unfold atomV
  refine Spec.bnd (mkP_spec (ρ := ρ) (U := U) (by decide)) fun i => Spec.bnd (mk3_spec (ρ := ρ) (U := U)) fun a => Spec.bnd (atomS_spec hB) fun r => Spec.ret fun h1 h2 h3 => ?_
  obtain ⟨p, h2⟩ := h2
  have h3 : raw F ρ U i = .i (ρ j) := h3
  rw [cv_b, h1]
  show Value.bool (raw F ρ U a).tr = _
  rw [h2, op60, h3, h]
  cases b <;> rfl
theorem vs_rho {n : Nat} {cs ts : List Value} (h1 : cs.length = n * 34) (h2 : ts.length = 6) {q : Nat} (hq : q < n) : rhoV (vsAll n cs ts) (34 * n + 6 + q) = (bif pvV (recAt 34 cs q) then 1 else 0) := by
  have := rho_part (A := cs ++ ts) (vs := (List.range n).map fun q => Value.int .i64 (bif pvV (recAt 34 cs q) then 1 else 0)) (B := []) (j := 34 * n + 6) (by rw [List.length_append]; omega) q (.int .i64 (bif pvV (recAt 34 cs q) then 1 else 0)) (by
    rw [List.getElem?_map, List.getElem?_range hq]; rfl)
  rw [List.append_nil, List.append_assoc] at this
  exact this
theorem shape_rep {n : Nat} {cs : List Value} (hb : rowsB pigK n cs = true) (hw : cs.all wfC = true) : shapeB (repK pigK n) cs = true := by
  have h := repK_ok (l := pigK) (cs := cs) (m := n) fun i hi => ⟨rowsB_at hb hi, wf_rec hw i⟩
  rw [show n * pigK.length = cs.length from (rowsB_len hb).symm, List.take_length] at h
  exact h.1
theorem noB_rep : ∀ n, noB (repK pigK n) = true
  | 0 => rfl
  | n + 1 => by
    have key : ∀ {a b : List CK}, noB a = true → noB b = true → noB (a ++ b) = true := by
      intro a
      induction a with
      | nil => exact fun _ h => h
      | cons c a ih =>
        intro b h1 h2
        cases c <;> first | exact ih h1 h2 | cases h1
    exact key (noB_rep n) (by kernel_rfl)
theorem vs_row {n : Nat} {cs ts : List Value} (hb : rowsB pigK n cs = true) (hw : cs.all wfC = true) : (vsRow n).map (conc (gW (rhoV (vsAll n cs ts)) (35 * n + 6) (vsWs n))) = cs := by
  have hl : cs.length = n * 34 := rowsB_len hb
  have hs := shape_rep hb hw
  -- no number of a pigment is narrow
  have hno : ∀ (m j w : Nat), svsK (repK pigK m) j w = svsK (repK pigK m) j 0 ∧ wsK (repK pigK m) j = [] := by
    have one : ∀ (r : List CK) (j w w' : Nat), svsK (pigK ++ r) j w = svsK pigK j 0 ++ svsK r (j + 34) w ∧ wsK (pigK ++ r) j = wsK r (j + 34) := fun r j w w' => ⟨rfl, rfl⟩
    intro m
    induction m with
    | zero => exact fun j w => ⟨rfl, rfl⟩
    | succ m ih =>
      have comm : ∀ k, repK pigK (k + 1) = pigK ++ repK pigK k := by
        intro k
        induction k with
        | zero => rfl
        | succ k ih => exact (congrArg (· ++ pigK) ih).trans (List.append_assoc _ _ _)
      intro j w
      rw [comm]
      obtain ⟨a1, a2⟩ := one (repK pigK m) j w 0
      obtain ⟨b1, b2⟩ := one (repK pigK m) j 0 0
      obtain ⟨i1, i2⟩ := ih (j + 34) w
      rw [a1, a2, b1, i1, i2]
      exact ⟨rfl, rfl⟩
  have h0 := (hno n 0 (35 * n + 6 + 2)).1
  have h1 := (hno n 0 0).2
  unfold vsRow
  rw [← h0]
  refine svs_conc (pre := []) (post := vsWs n) (noB_rep n) hs (wfs_wr hw) ?_ ?_ ?_ rfl
  · exact rho_part (A := []) (vs := cs) (j := 0) rfl
  · rw [← shape_len hs]; omega
  · rw [h1]; rfl
theorem vs_tin {n : Nat} {cs ts : List Value} (hb : rowsB pigK n cs = true) (ht : shapeB tinK ts = true) (htw : ts.all wfC = true) : (vsTin n).map (conc (gW (rhoV (vsAll n cs ts)) (35 * n + 6) (vsWs n))) = ts := by
  have hl : cs.length = n * 34 := rowsB_len hb
  unfold vsTin
  refine svs_conc (pre := []) (post := []) (by kernel_rfl) ht (wfs_wr htw) ?_ ?_ ?_ rfl
  · exact rho_part (A := cs) (vs := ts) (j := 34 * n) (by omega)
  · show 34 * n + 6 ≤ _; omega
  · rw [List.append_nil]; rfl
theorem pgSyM_ok {F : Tab} {n : Nat} {cs ts : List Value} {U : Nat → Vl → Vl} (hB : Base F (rhoV (vsAll n cs ts)) U) (hb : rowsB pigK n cs = true) (ht : ts.length = 6) : SymOk F (rhoV (vsAll n cs ts)) U (pgM n cs) (pgSyM n (34 * n + 6)) := fun pc args => by
  unfold pgSyM
  split
  · rename_i o
    refine Spec.gd fun hq => ?_
    rw [Bool.and_eq_true] at hq
    have h1 : o % 34 = 0 := Nat.eq_of_beq_eq_true hq.1
    have h2 : o / 34 < n := bltT hq.2
    refine (atomV_ok hB (vs_rho (rowsB_len hb) ht h2)).mono fun r h hp => ?_
    rw [h, cvl_cons, cv_lit]
    show some (Value.bool (pvV ((cs.drop o).take 34)), isB (∃ q, q < n ∧ o = q * 34)) = _
    have e : o / 34 * 34 = o := by omega
    rw [isB_of ⟨o / 34, h2, e.symm⟩]
    unfold recAt
    rw [e]
  · exact Spec.non
theorem allEq_cv {F : Tab} {ρ : Nat → Int} {U : Nat → Vl → Vl} : ∀ {l m : List SV}, allEq (eqSV 3) l m = true → cvl F ρ U l = cvl F ρ U m
  | [], [], _ => rfl
  | a :: r, b :: s, h => by
    rw [allEq, Bool.and_eq_true] at h
    rw [cvl_cons, cvl_cons, eqSV_spec 3 h.1, allEq_cv h.2]
  | [], _ :: _, h => by cases h
  | _ :: _, [], h => by cases h
theorem pgSyI_ok {F : Tab} {n : Nat} {cs ts : List Value} {U : Nat → Vl → Vl} (hB : Base F (rhoV (vsAll n cs ts)) U) (hr : ∀ i, 2 ≤ i → i < 35 * n + 6 + (vsWs n).length + 2 → raw F (rhoV (vsAll n cs ts)) U i = gW (rhoV (vsAll n cs ts)) (35 * n + 6) (vsWs n) i)
    (hi : (vsRow n).all (inC (35 * n + 6 + (vsWs n).length)) = true) (hb : rowsB pigK n cs = true) (hw : cs.all wfC = true) (ht : ts.length = 6) : SymOk F (rhoV (vsAll n cs ts)) U (pgI n cs) (pgSyI n (34 * n + 6) (vsRow n)) := fun pc args => by
  unfold pgSyI
  split
  · rename_i i r
    rw [force_eq]
    refine Spec.gd fun hq => ?_
    rw [Bool.and_eq_true] at hq
    have h2 : (i - 2) / 34 < n := bltT hq.1
    have h3 := allEq_cv (F := F) (ρ := rhoV (vsAll n cs ts)) (U := U) hq.2
    have h4 : cvl F (rhoV (vsAll n cs ts)) U (vsRow n) = cs := (inCs_cv hr hi).trans (vs_row hb hw)
    have h5 : cvl F (rhoV (vsAll n cs ts)) U (.s i :: r) = recAt 34 cs ((i - 2) / 34) := by
      rw [h3, ← cut_cvl]
      unfold recAt
      rw [h4]
      rfl
    refine (atomV_ok hB (vs_rho (rowsB_len hb) ht h2)).mono fun q h hp => ?_
    rw [h, cvl_cons, cv_agg, h5]
    show some (Value.bool (pvV (recAt 34 cs ((i - 2) / 34))), isB (∃ q, q < n ∧ (recAt 34 cs ((i - 2) / 34)) = recAt 34 cs q)) = _
    rw [isB_of ⟨_, h2, rfl⟩]
  · exact Spec.non
/-- tokens for a shelf: its pigments, and itself where it lies in memory -/
abbrev tk2 (v : Value) (l : Nat) (cs : List Value) (u : Value) (ts : List Value) : Toks := [(v, l, cs), (u, 7, .slice (some ⟨0, 0, some 0⟩) l 0 :: ts)]
theorem vs_val {n : Nat} (hn : n ≤ 6) {cs ts : List Value} (hb : rowsB pigK n cs = true) (hw : cs.all wfC = true) (ht : shapeB tinK ts = true) (htw : ts.all wfC = true) : ∃ b : Bool, ∀ (base : Nat) (v u : Value),
    (∃ h', @funD (frnOf base (tk2 v n cs u ts) noF) Try.prog (fun f => seek f []) (fun f => seek f (orcVs n cs)) vsUs 300 30 50 [.pointer (some ⟨1, 0, some 0⟩)] [] = some (.bool b, h', true)) ∧
    ∃ h', @funD (frnOf base (tk2 v n cs u ts) noF) Try.prog (fun f => seek f []) (fun f => seek f (orcVs n cs)) vsUs 300 30 18 [.agg (.slice (some ⟨0, 0, some 0⟩) n 0 :: ts).toArray] [] = some (.bool b, h', true) := by
  have hin := vs_in hn
  unfold vsIn at hin
  rw [Bool.and_eq_true] at hin
  have ht6 : ts.length = 6 := shape_len ht
  obtain ⟨V, hV, hf⟩ := @pair2_run (vsF n) Try.prog [] (vsSym n) (fun f => seek f []) (fun f => seek f (orcVs n cs)) vsUs 300 30 (35 * n + 6) (vsWs n) [] vsA (vsB n) [.one .b] (fun _ _ => .i 0) (rhoV (vsAll n cs ts)) (fun F hB _ => ListR.nil)
    (fun F hB hr => ListR.cons (pgSyM_ok hB hb ht6) (ListR.cons (pgSyI_ok hB hr hin.1 hb hw ht6) ListR.nil))
    (fun k => by
      show (bif Nat.beq k 0 then vsRow n else bif Nat.beq k 1 then vsSh n else []).all _ = true
      cases Nat.beq k 0
      · cases Nat.beq k 1
        · rfl
        · exact hin.2
      · exact hin.1) (vs_run hn) trivial
  obtain ⟨vs, rfl, hfit⟩ := hV
  obtain ⟨b, rfl⟩ : ∃ b, vs = [.bool b] := by
    match vs, hfit with
    | [v], h =>
      have h : (fitP (.one .b) v && true) = true := h
      rw [Bool.and_true] at h
      cases v with
      | bool b => exact ⟨b, rfl⟩
      | _ => cases h
    | [], h => cases h
    | v :: _ :: _, h =>
      have h : (fitP (.one .b) v && false) = true := h
      rw [Bool.and_false] at h
      cases h
  have hsh : (vsSh n).map (conc (gW (rhoV (vsAll n cs ts)) (35 * n + 6) (vsWs n))) = .slice (some ⟨0, 0, some 0⟩) n 0 :: ts := by
    show conc _ (.lit _) :: (vsTin n).map _ = _
    rw [vs_tin hb ht htw]
    simp only [conc]
  refine ⟨b, fun base v u => ?_⟩
  obtain ⟨⟨h1, e1, _⟩, ⟨h2, e2, _⟩⟩ := hf (frnOf base (tk2 v n cs u ts) noF) (fun k => by
      match k with
      | 0 => exact (vs_row hb hw).symm
      | 1 => exact hsh.symm
      | k + 2 => rfl) (fun F hB _ f g h => by
      have h : (none : Option (List (Nat × Bool) → List SV → HeapS → M SV)) = some g := h
      cases h)
  refine ⟨⟨h1, ?_⟩, ⟨h2, ?_⟩⟩
  · simpa [vsA, conc, concH, oneOr] using e1
  · have e2' : ((vsB n).args.map (conc (gW (rhoV (vsAll n cs ts)) (35 * n + 6) (vsWs n)))) = [.agg (.slice (some ⟨0, 0, some 0⟩) n 0 :: ts).toArray] := by
      show [conc _ (.agg (vsSh n))] = _
      simp only [conc, concL_map]
      rw [hsh]
    rw [e2'] at e2
    exact e2
theorem vs1_val {n : Nat} (hn : n ≤ 6) {cs ts : List Value} (hb : rowsB pigK n cs = true) (hw : cs.all wfC = true) (ht : shapeB tinK ts = true) (htw : ts.all wfC = true) : ∃ b : Bool, ∀ (base : Nat) (v : Value),
    (∃ h', @funD (frnOf base (tk1 v n cs) noF) Try.prog (fun f => seek f []) (fun f => seek f (orcVs n cs)) vsUs 300 30 16 [.agg (.slice (some ⟨0, 0, some 0⟩) n 0 :: ts).toArray] [] = some (.bool b, h', true)) ∧
    ∃ h', @funD (frnOf base (tk1 v n cs) noF) Try.prog (fun f => seek f []) (fun f => seek f (orcVs n cs)) vsUs 300 30 18 [.agg (.slice (some ⟨0, 0, some 0⟩) n 0 :: ts).toArray] [] = some (.bool b, h', true) := by
  have hin := vs_in hn
  unfold vsIn at hin
  rw [Bool.and_eq_true] at hin
  have ht6 : ts.length = 6 := shape_len ht
  obtain ⟨V, hV, hf⟩ := @pair2_run (vsF1 n) Try.prog [] (vsSym n) (fun f => seek f []) (fun f => seek f (orcVs n cs)) vsUs 300 30 (35 * n + 6) (vsWs n) [] (vsA1 n) (vsB n) [.one .b] (fun _ _ => .i 0) (rhoV (vsAll n cs ts)) (fun F hB _ => ListR.nil)
    (fun F hB hr => ListR.cons (pgSyM_ok hB hb ht6) (ListR.cons (pgSyI_ok hB hr hin.1 hb hw ht6) ListR.nil))
    (fun k => by
      show (bif Nat.beq k 0 then vsRow n else []).all _ = true
      cases Nat.beq k 0
      · rfl
      · exact hin.1) (vs1_run hn) trivial
  obtain ⟨vs, rfl, hfit⟩ := hV
  obtain ⟨b, rfl⟩ : ∃ b, vs = [.bool b] := by
    match vs, hfit with
    | [v], h =>
      have h : (fitP (.one .b) v && true) = true := h
      rw [Bool.and_true] at h
      cases v with
      | bool b => exact ⟨b, rfl⟩
      | _ => cases h
    | [], h => cases h
    | v :: _ :: _, h =>
      have h : (fitP (.one .b) v && false) = true := h
      rw [Bool.and_false] at h
      cases h
  have hsh : (vsSh n).map (conc (gW (rhoV (vsAll n cs ts)) (35 * n + 6) (vsWs n))) = .slice (some ⟨0, 0, some 0⟩) n 0 :: ts := by
    show conc _ (.lit _) :: (vsTin n).map _ = _
    rw [vs_tin hb ht htw]
    simp only [conc]
  refine ⟨b, fun base v => ?_⟩
  obtain ⟨⟨h1, e1, _⟩, ⟨h2, e2, _⟩⟩ := hf (frnOf base (tk1 v n cs) noF) (fun k => by
      match k with
      | 0 => exact (vs_row hb hw).symm
      | k + 1 => rfl) (fun F hB _ f g h => by
      have h : (none : Option (List (Nat × Bool) → List SV → HeapS → M SV)) = some g := h
      cases h)
  have e2' : ([SV.agg (vsSh n)].map (conc (gW (rhoV (vsAll n cs ts)) (35 * n + 6) (vsWs n)))) = [.agg (.slice (some ⟨0, 0, some 0⟩) n 0 :: ts).toArray] := by
    show [conc _ (.agg (vsSh n))] = _
    simp only [conc, concL_map]
    rw [hsh]
  exact ⟨⟨h1, by rw [← e2']; exact e1⟩, ⟨h2, by rw [← e2']; exact e2⟩⟩
end Go.Proofs.Ytigpiogljfedpaa
end
