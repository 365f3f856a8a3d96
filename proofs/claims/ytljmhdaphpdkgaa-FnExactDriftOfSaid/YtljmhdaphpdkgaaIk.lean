/-
  Drift: both functions over contracts; they answer the same. No condition.
-/
import Derived.Test.YtljmhdaphpdkgaaIj
set_option linter.unusedSectionVars false
set_option linter.unusedVariables false
noncomputable section
namespace Go.Proofs.Ytljmhdaphpdkgaa
namespace Dr
open Go Go.ChangeShapes Go.WideShapes Go.ChangeAt Go.RowKit Ev Mc
def inD (a : Nat) : Bool := fge .f32 a loF && fle .f32 a hiF
theorem is_eval (a : Nat) : @funD noFrn Try.prog noOrc noOrc [31, 45] 40 5 31 [.float .f32 a] [] = some (.bool (inD a), [], Go.Proofs.Ytljmhdaphpdkgaa.kG (fge .f32 a loF) && true) := by kernel_rfl
def isO : Sig
  | [.float .f32 a] => some (.bool (inD a), true)
  | _ => none
theorem isO_bare : BareSig isO := fun args v he => by
  unfold isO at he
  split at he
  · simp only [Option.some.injEq, Prod.mk.injEq] at he
    obtain ⟨rfl, h⟩ := he
    exact ⟨rfl, rfl⟩
  · cases he
theorem is_one : @OrcOne noFrn Try.prog 31 isO := by
  refine orc_one (us := [31, 45]) (cf := 40) (d := 5) mixed (by kernel_rfl) (lx := []) all_nil (l0 := []) all_nil (by kernel_rfl) fun args v k he hk hx => ?_
  unfold isO at he
  split at he
  · simp only [Option.some.injEq, Prod.mk.injEq] at he
    obtain ⟨rfl, rfl⟩ := he
    rename_i a
    have h := is_eval a
    rw [Go.Proofs.Ytljmhdaphpdkgaa.kG_true] at h
    exact ⟨rfl, rfl, _, h⟩
  · cases he
def vgO (B : Bool) (kG : List Value → Bool) : Sig
  | [.agg xs] => some (.bool B, kG xs.toList)
  | _ => none
def gDr (d : Nat) (k0 : Bool) (kX : List Value → Bool) : CT := fun args _ => match args with
  | [.agg xs, .slice (some ⟨0, 0, some 0⟩) _ _] => some (.float .f32 d, [], kX xs.toList && k0)
  | _ => none
def conI (n : Int) (d : Nat) (k0 : Bool) (kX : List Value → Bool) (f : FuncId) : Option CT :=
  bif Nat.beq f 21 then some (gB (.int .i64 n) true) else bif Nat.beq f 30 then some (gDr d k0 kX) else none
noncomputable abbrev EI [Frn] (B : Bool) (kG : List Value → Bool) : Env := conE Try.prog noOrc (fun f => seek f [(29, vgO B kG), (31, isO)])
noncomputable def iC : Code := (Try.f16.body.getD .skip)
theorem i_body : Try.f16.body = some iC := by kernel_rfl
section
variable (base : Nat) (v : Value) (l c : Nat) (cs : List Value) (n : Int) (d : Nat) (k0 B : Bool) (kX kG : List Value → Bool) (z : Nat → Int) (f : Nat → Nat)
def eI :=
  @codeK (frnOf base [(v, l, cs)] (conI n d k0 kX)) (@EI (frnOf base [(v, l, cs)] (conI n d k0 kX)) B kG) 60 iC (startS Try.f16 [.agg (Lg.gr z f).toArray, tok 0 l c] []) (fun e s => (@finK (frnOf base [(v, l, cs)] (conI n d k0 kX)) Try.prog Try.f16 e s).map eraseH)
theorem i_bad : eI base v l c cs n d k0 false kX kG z f = some (ansD 0 1, [], kG (Lg.gr z f) && true) := by kernel_rfl
theorem i_1 : eI base v l c cs 1 d k0 true kX kG z f = some (ansD 0 1, [], kG (Lg.gr z f) && true) := by kernel_rfl
theorem i_6 : eI base v l c cs 6 d k0 true kX kG z f = some (ansD 0 6, [], kG (Lg.gr z f) && true) := by kernel_rfl
theorem i_0 : eI base v l c cs 0 d k0 true kX kG z f = bif !(inD d) then some (ansD 0 4, [], (kX (Lg.gr z f) && k0) && (kG (Lg.gr z f) && true)) else some (ansD d 0, [], (kX (Lg.gr z f) && k0) && (kG (Lg.gr z f) && true)) := by kernel_rfl
end
/-! ### the contracts hold -/
def kGf (B : Bool) (r : List Value) : Bool := Lg.isG r && (Lg.okC r == B)
def kXf (z : Nat → Int) (f : Nat → Nat) (xs : List Value) : Bool := isB (xs = Lg.gr z f)
theorem gr_bareP (z : Nat → Int) (f : Nat → Nat) : bareP (.agg (Lg.gr z f).toArray) = true := by kernel_rfl
theorem isG_gr (z : Nat → Int) (f : Nat → Nat) : Lg.isG (Lg.gr z f) = true := by kernel_rfl
theorem vgO_one {ι : Frn} {B : Bool} : @OrcOne ι Try.prog 29 (vgO B (kGf B)) := ⟨(@Lg.okO_one ι).1, fun args v k he hk => by
  unfold vgO at he
  split at he
  · rename_i xs
    simp only [Option.some.injEq, Prod.mk.injEq] at he
    obtain ⟨rfl, rfl⟩ := he
    have hk' := hk
    simp only [kGf, Bool.and_eq_true, beq_iff_eq] at hk'
    obtain ⟨h1, rfl⟩ := hk'
    exact (@Lg.okO_one ι).2 [.agg xs] _ true (by
      show some (Value.bool (Lg.okC xs.toList), Lg.isG xs.toList) = _
      rw [h1]) rfl
  · cases he⟩
theorem orcIOk {ι : Frn} {B : Bool} : ∀ p ∈ [(29, vgO B (kGf B)), (31, isO)], @OrcOne ι Try.prog p.1 p.2 := all_cons vgO_one (all_cons (orc_any is_one isO_bare) all_nil)
section
variable {l : Nat} {cs : List Value} {z : Nat → Int} {f : Nat → Nat}
theorem gDr_ok {base : Nat} {v : Value} {con : FuncId → Option CT} {d : Nat} {k0 : Bool} (hb : cs.all bareC = true) (hcap : ∀ a l' c, v = .slice a l' c → l' ≤ c)
    (H : k0 = true → AnsD 30 (.agg (Lg.gr z f).toArray) l cs (.float .f32 d)) : ConSpec (frnOf base [(v, l, cs)] con) 30 (gDr d k0 (kXf z f)) := ⟨by kernel_rfl, fun args h q rows he μ cargs w B ha hh hB => by
  unfold gDr at he
  split at he
  · rename_i xs l' c'
    simp only [Option.some.injEq, Prod.mk.injEq, Bool.and_eq_true] at he
    obtain ⟨rfl, rfl, hk1, hk2⟩ := he
    have e : xs = (Lg.gr z f).toArray := by rw [← of_isB hk1]
    subst e
    obtain ⟨x, ys, rfl, hx, ha⟩ := vrl_cons ha
    obtain ⟨u, ys, rfl, hu, ha⟩ := vrl_cons ha
    rw [vrl_none ha]
    obtain ⟨r1, _, r3⟩ := tok_row (k := 0) hh hB rfl hb hu
    exact keep hh hB (H hk2 w x u (fun ι2 μ2 => bareP_VR hx (gr_bareP z f)) ⟨r1, fun a' l2 c2 e => hcap a' l2 c2 (r3 ▸ e)⟩)
  · cases he⟩
theorem conI_ok {base : Nat} {v : Value} {d : Nat} (hb : rowsB samK l cs = true) (hl : l ≤ 9223372036854775807) (hcap : ∀ a l' c, v = .slice a l' c → l' ≤ c)
    (H : 0 < l ∧ l ≤ 64 → AnsD 30 (.agg (Lg.gr z f).toArray) l cs (.float .f32 d)) : @ConOk (frnOf base [(v, l, cs)] (conI (codeV (Sm.vS cs l) l) d (isB (0 < l ∧ l ≤ 64)) (kXf z f))) Try.prog := fun g gg hf => by
  have hf : conI (codeV (Sm.vS cs l) l) d (isB (0 < l ∧ l ≤ 64)) (kXf z f) g = some gg := hf
  unfold conI at hf
  cases h1 : Nat.beq g 21 with
  | true =>
    rw [h1, cond_true, Option.some.injEq] at hf
    have hfe := Nat.eq_of_beq_eq_true h1
    subst hf hfe
    exact gB_ok (by kernel_rfl) (rowsB_bare (by decide) hb) hcap fun _ => c1_ans hb hl
  | false =>
  rw [h1, cond_false] at hf
  cases h2 : Nat.beq g 30 with
  | true =>
    rw [h2, cond_true, Option.some.injEq] at hf
    have hfe := Nat.eq_of_beq_eq_true h2
    subst hf hfe
    exact gDr_ok (rowsB_bare (by decide) hb) hcap fun hk => H (of_isB hk)
  | false => rw [h2] at hf; cases hf
theorem conI_stab {base : Nat} {tk : Toks} {n : Int} {d : Nat} {k0 : Bool} {kX : List Value → Bool} : @ConStab (frnOf base tk (conI n d k0 kX)) := fun g gg hf args h u rows k nid row he hlt hn => by
  have hf : conI n d k0 kX g = some gg := hf
  unfold conI at hf
  cases h1 : Nat.beq g 21 with
  | true =>
    rw [h1, cond_true, Option.some.injEq] at hf
    subst hf
    exact he
  | false =>
  rw [h1, cond_false] at hf
  cases h2 : Nat.beq g 30 with
  | true =>
    rw [h2, cond_true, Option.some.injEq] at hf
    subst hf
    exact he
  | false => rw [h2] at hf; cases hf
theorem conS_ok {base : Nat} {v : Value} {B : Bool} (hb : rowsB samK l cs = true) (hl : l ≤ 9223372036854775807) (hcap : ∀ a l' c, v = .slice a l' c → l' ≤ c) : @ConOk (frnOf base [(v, l, cs)] (conS B (Sm.vS cs l) (kGf B))) Try.prog := fun g gg hf => by
  have hf : conS B (Sm.vS cs l) (kGf B) g = some gg := hf
  unfold conS at hf
  cases h1 : Nat.beq g 26 with
  | true =>
    rw [h1, cond_true, Option.some.injEq] at hf
    have hfe := Nat.eq_of_beq_eq_true h1
    subst hf hfe
    refine ⟨by kernel_rfl, fun args h v rows he => ?_⟩
    dsimp only at he
    split at he
    · rename_i b
      split at he
      · rename_i r hr
        simp only [Option.some.injEq, Prod.mk.injEq, kGf, Bool.and_eq_true, beq_iff_eq] at he
        obtain ⟨rfl, rfl, hk, rfl⟩ := he
        exact (Lg.okM_ok (ι := frnOf base _ _)).2 _ h _ _ (by
          show (match h.getD b none with
            | some r => some (Value.bool (Lg.okC r), ([] : List (List Value)), Lg.isG r)
            | none => none) = _
          rw [hr]
          show some (Value.bool (Lg.okC r), ([] : List (List Value)), Lg.isG r) = _
          rw [hk])
      · cases he
    · cases he
  | false =>
  rw [h1, cond_false] at hf
  cases h2 : Nat.beq g 24 with
  | true =>
    rw [h2, cond_true, Option.some.injEq] at hf
    have hfe := Nat.eq_of_beq_eq_true h2
    subst hf hfe
    exact gB_ok (by kernel_rfl) (rowsB_bare (by decide) hb) hcap fun _ => ansU_bool (Sm.s_ans hb hl)
  | false => rw [h2] at hf; cases hf
theorem conS_stab {base : Nat} {tk : Toks} {B b : Bool} {kG : List Value → Bool} : @ConStab (frnOf base tk (conS B b kG)) := fun g gg hf args h u rows k nid row he hlt hn => by
  have hf : conS B b kG g = some gg := hf
  unfold conS at hf
  cases h1 : Nat.beq g 26 with
  | true =>
    rw [h1, cond_true, Option.some.injEq] at hf
    subst hf
    dsimp only at he ⊢
    split at he
    · rename_i b
      split at he
      · rename_i r hr
        simp only [getD_set hn hr]
        exact he
      · cases he
    · cases he
  | false =>
  rw [h1, cond_false] at hf
  cases h2 : Nat.beq g 24 with
  | true =>
    rw [h2, cond_true, Option.some.injEq] at hf
    subst hf
    exact he
  | false => rw [h2] at hf; cases hf
/-! ### both -/
theorem ansD_bare (d : Nat) (n : Int) : ((#[.float .f32 d, .int .i64 n] : Array Value).toList.all bareP) = true := by kernel_rfl
theorem ansD_of {con : FuncId → Option CT} {orc : Orc} {g : Nat} {fn : Func} {C : Code} {d : Nat} {n : Int} (hfn : Try.prog.funcs[g]? = some fn) (hC : fn.body = some C) (hok : codeOk C = true)
    (hE : ∀ base v, (∀ a l' c, v = .slice a l' c → l' ≤ c) → @EnvOk (frnOf base [(v, l, cs)] con) (@conE (frnOf base [(v, l, cs)] con) Try.prog noOrc orc))
    (he : ∀ base v c, (@codeK (frnOf base [(v, l, cs)] con) (@conE (frnOf base [(v, l, cs)] con) Try.prog noOrc orc) 60 C (startS fn [.agg (Lg.gr z f).toArray, tok 0 l c] []) (fun e s => (@finK (frnOf base [(v, l, cs)] con) Try.prog fn e s).map eraseH)) = some (ansD d n, [], true)) :
    AnsD g (.agg (Lg.gr z f).toArray) l cs (ansD d n) := fun w x v hx hv => by
  obtain ⟨hv, hcap⟩ := hv
  obtain ⟨a, c, rfl, _⟩ := id hv
  let ι : Frn := frnOf w.heap.size [(.slice a l c, l, cs)] con
  have hw : @FrnIn ι w := frn_in fun k v' l' cs' hk => by
    match k, hk with
    | 0, hk => cases hk; exact hv
  have ht : @VR ι Mu.nil (tok 0 l c) (.slice a l c) := tok_VR (ts := [(.slice a l c, l, cs)]) rfl hv
  have e : (@codeK ι (@conE ι Try.prog noOrc orc) 60 C (startS fn [.agg (Lg.gr z f).toArray, tok 0 l c] []) (@finK ι Try.prog fn)).map eraseH = some (ansD d n, [], true) := by
    rw [@codeK_map ι]
    exact he _ _ _
  obtain ⟨r, hr, hr2⟩ := Option.map_eq_some_iff.1 e
  obtain ⟨y, H, k⟩ := r
  simp only [eraseH, Prod.mk.injEq] at hr2
  obtain ⟨rfl, _, rfl⟩ := hr2
  refine (con_calls ι (hE _ _ hcap) mixed hfn hC hok hr hw (@VRL.cons ι _ _ _ _ _ (hx ι Mu.nil) (@VRL.cons ι _ _ _ _ _ ht (@VRL.nil ι _)))).mono fun e w' hx' => ?_
  obtain ⟨u, μ', rfl, hu, _, hbl⟩ := hx'
  exact ⟨u, rfl, fun ι2 μ2 => bareT_VR hu (ansD_bare d n), hbl⟩
theorem i_ok : codeOk iC = true := by kernel_rfl
theorem mC_ok : codeOk mC = true := by kernel_rfl
theorem i_ans (hb : rowsB samK l cs = true) (hl : l ≤ 9223372036854775807) {d0 d : Nat} {n : Int} (H : 0 < l ∧ l ≤ 64 → AnsD 30 (.agg (Lg.gr z f).toArray) l cs (.float .f32 d0))
    (he : ∀ base v c, eI base v l c cs (codeV (Sm.vS cs l) l) d0 (isB (0 < l ∧ l ≤ 64)) (Lg.okC (Lg.gr z f)) (kXf z f) (kGf (Lg.okC (Lg.gr z f))) z f = some (ansD d n, [], true)) : AnsD 16 (.agg (Lg.gr z f).toArray) l cs (ansD d n) :=
  ansD_of (con := conI (codeV (Sm.vS cs l) l) d0 (isB (0 < l ∧ l ≤ 64)) (kXf z f)) Try.func16 i_body i_ok (fun base v hcap => @conE_ok (frnOf base [(v, l, cs)] _) _ _ _ mixed (@noExt (frnOf base [(v, l, cs)] _) _) (@orc_list (frnOf base [(v, l, cs)] _) _ _ orcIOk) (conI_ok hb hl hcap H) conI_stab) he
theorem ES_ok {base : Nat} {v : Value} {B : Bool} (hb : rowsB samK l cs = true) (hl : l ≤ 9223372036854775807) (hcap : ∀ a l' c, v = .slice a l' c → l' ≤ c) : @EnvOk (frnOf base [(v, l, cs)] (conS B (Sm.vS cs l) (kGf B))) (@ES (frnOf base [(v, l, cs)] (conS B (Sm.vS cs l) (kGf B)))) :=
  @conE_ok (frnOf base [(v, l, cs)] (conS B (Sm.vS cs l) (kGf B))) _ _ _ mixed (@noExt (frnOf base [(v, l, cs)] (conS B (Sm.vS cs l) (kGf B))) _) (@orc_list (frnOf base [(v, l, cs)] (conS B (Sm.vS cs l) (kGf B))) _ [] all_nil) (conS_ok hb hl hcap) conS_stab
theorem s_ans (hb : rowsB samK l cs = true) (hl : l ≤ 9223372036854775807) {d : Nat} {n : Int}
    (he : ∀ base v c, eC mC base v l c cs (Lg.okC (Lg.gr z f)) (Sm.vS cs l) (kGf (Lg.okC (Lg.gr z f))) z f = some (ansD d n, [], true)) : AnsD 14 (.agg (Lg.gr z f).toArray) l cs (ansD d n) :=
  ansD_of (con := conS (Lg.okC (Lg.gr z f)) (Sm.vS cs l) (kGf (Lg.okC (Lg.gr z f)))) Try.func14 m_body mC_ok (fun base v hcap => ES_ok hb hl hcap) he
theorem kGf_true : kGf (Lg.okC (Lg.gr z f)) (Lg.gr z f) = true := by
  unfold kGf
  rw [isG_gr, beq_self_eq_true]; rfl
end
theorem s_main {m : Nat} {cs : List Value} {z : Nat → Int} {f : Nat → Nat} (hb : rowsB samK (m + 1) cs = true) (hl : m + 1 ≤ 64) (hB : Lg.okC (Lg.gr z f) = true) (hV : Sm.vS cs (m + 1) = true) :
    AnsD 14 (.agg (Lg.gr z f).toArray) (m + 1) cs (ansD (ansV (accF (pM cs z) m) (accF (sM cs) m)).1 (ansV (accF (pM cs z) m) (accF (sM cs) m)).2) := fun w x v hx hv => by
  obtain ⟨hv, hcap⟩ := hv
  obtain ⟨a, c, rfl, _⟩ := id hv
  have hG : kGf true (Lg.gr z f) = true := by
    have := kGf_true (z := z) (f := f)
    rwa [hB] at this
  have hE := ES_ok (base := w.heap.size) (v := .slice a (m + 1) c) (B := true) hb (by omega) hcap
  rw [hV] at hE
  let ι : Frn := frnOf w.heap.size [(.slice a (m + 1) c, m + 1, cs)] (conS true true (kGf true))
  have hw : @FrnIn ι w := frn_in fun k v' l' cs' hk => by
    match k, hk with
    | 0, hk => cases hk; exact hv
  have ht : @VR ι Mu.nil (tok 0 (m + 1) c) (.slice a (m + 1) c) := tok_VR (ts := [(.slice a (m + 1) c, m + 1, cs)]) rfl hv
  obtain ⟨N, e, s', h', hg, hk⟩ := m_goes w.heap.size (.slice a (m + 1) c) c (kGf true) z f hb hl hG
  refine (@goes_call ι (@ES ι) hE mixed 14 Try.f14 mC Try.func14 m_body mC_ok _ _ _ _ _ _ _ hg hk Mu.nil [x, .slice a (m + 1) c] w w.heap.size (@VRL.cons ι _ _ _ _ _ (hx ι Mu.nil) (@VRL.cons ι _ _ _ _ _ ht (@VRL.nil ι _))) (@HeapR.start ι w hw) (Nat.le_refl _)).mono fun e w' hx => ?_
  obtain ⟨u, μ', rfl, _, hu, _, hbl⟩ := hx
  exact ⟨u, rfl, fun ι2 μ2 => bareT_VR hu (ansD_bare _ _), hbl⟩
/-- program and model answer the same -/
theorem both {l : Nat} {cs : List Value} (z : Nat → Int) (f : Nat → Nat) (hb : rowsB samK l cs = true) (hl : l ≤ 9223372036854775807) :
    ∃ d n, AnsD 14 (.agg (Lg.gr z f).toArray) l cs (ansD d n) ∧ AnsD 16 (.agg (Lg.gr z f).toArray) l cs (ansD d n) := by
  have hG := kGf_true (z := z) (f := f)
  have dr : ∃ d0, 0 < l ∧ l ≤ 64 → AnsD 30 (.agg (Lg.gr z f).toArray) l cs (.float .f32 d0) := by
    refine ⟨fdiv .f32 (accF (pM cs z) (l - 1)) (accF (sM cs) (l - 1)), fun h => ?_⟩
    obtain ⟨m, rfl⟩ : ∃ m, l = m + 1 := ⟨l - 1, by omega⟩
    exact drift_ans z f hb h.2
  cases hB : Lg.okC (Lg.gr z f) with
  | false =>
    obtain ⟨d0, H⟩ := dr
    refine ⟨0, 1, s_ans hb hl fun base v c => ?_, i_ans hb hl H fun base v c => ?_⟩
    · rw [hB] at hG ⊢
      exact (e_bad ..).trans (by rw [hG]; rfl)
    · rw [hB] at hG ⊢
      exact (i_bad ..).trans (by rw [hG]; rfl)
  | true =>
    cases hV : Sm.vS cs l with
    | false =>
      obtain ⟨d0, H⟩ := dr
      refine ⟨0, 1, s_ans hb hl fun base v c => ?_, i_ans hb hl H fun base v c => ?_⟩
      · rw [hB] at hG ⊢
        rw [hV]
        exact (e_bad2 ..).trans (by rw [hG]; rfl)
      · rw [hB] at hG ⊢
        rw [hV]
        exact (i_1 ..).trans (by rw [hG]; rfl)
    | true =>
      have h64 : l ≤ 64 := by
        unfold Sm.vS at hV
        rw [Bool.and_eq_true, decide_eq_true_eq] at hV
        omega
      by_cases h0 : l = 0
      · subst h0
        obtain ⟨d0, H⟩ := dr
        refine ⟨0, 6, s_ans hb hl fun base v c => ?_, i_ans hb hl H fun base v c => ?_⟩
        · rw [hB] at hG ⊢
          rw [hV]
          exact (e_none ..).trans (by rw [hG]; rfl)
        · rw [hB] at hG ⊢
          rw [hV]
          exact (i_6 ..).trans (by rw [hG]; rfl)
      · obtain ⟨m, rfl⟩ : ∃ m, l = m + 1 := ⟨l - 1, by omega⟩
        refine ⟨_, _, s_main hb h64 hB hV, i_ans hb hl (fun _ => drift_ans z f hb h64) fun base v c => ?_⟩
        rw [hB] at hG ⊢
        rw [hV, show codeV true (m + 1) = 0 by unfold codeV; rw [cond_true, decide_eq_false (show ¬ ((m + 1 : Nat) : Int) = 0 by omega)]; rfl]
        refine (i_0 ..).trans ?_
        rw [hG, isB_of (show 0 < m + 1 ∧ m + 1 ≤ 64 from ⟨by omega, h64⟩), show kXf z f (Lg.gr z f) = true from isB_of rfl]
        unfold ansV
        cases hz : feq .f32 (accF (sM cs) m) 0 with
        | true =>
          have := div_out (x := accF (pM cs z) m) hz
          unfold inD
          rw [this]; rfl
        | false =>
          unfold inD
          cases (fge .f32 (fdiv .f32 (accF (pM cs z) m) (accF (sM cs) m)) loF && fle .f32 (fdiv .f32 (accF (pM cs z) m) (accF (sM cs) m)) hiF) <;> rfl
end Dr
end Go.Proofs.Ytljmhdaphpdkgaa
end
