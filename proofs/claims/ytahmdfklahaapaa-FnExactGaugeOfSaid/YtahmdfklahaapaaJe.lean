/-
  The gauge of samples: program and model answer the same to all lists and curves. No condition.
-/
import Derived.Test.YtahmdfklahaapaaJd
set_option linter.unusedSectionVars false
set_option linter.unusedVariables false
noncomputable section
namespace Go.Proofs.Ytahmdfklahaapaa
namespace Gf
open Go Go.ChangeShapes Go.WideShapes Go.ChangeAt Go.RowKit Ev Mc
section
variable {l l2 : Nat} {cs ds : List Value}
/-! ### the means of counts, by the program's own name -/
theorem ans_ofP {us : List Nat} {g : Nat} {V : Value} (hus : us.all (funcOk Try.prog) = true) (hb : rowsB samK l cs = true) (hl : l ≤ 9223372036854775807) (hx : bareP V = true)
    (he : ∀ base v c, ∃ k, (fI base v l cs (codeV (Sm.vS cs l) l) (fun w => rowN cs w l) (fun r => suR r l) (kSu l cs) (.agg (q16 (meV cs l)).toArray) (isB (0 < l ∧ l ≤ 64)) (isB (l ≤ 64)) us g c).map (fun r => (r.1, r.2.2)) = some (V, k) ∧ k = true) : AnsU g l cs V := fun w v hv => by
  obtain ⟨hv, hcap⟩ := hv
  obtain ⟨a, c, rfl, _⟩ := id hv
  let ι : Frn := frnOf w.heap.size [(.slice a l c, l, cs)] (conN l cs)
  have hw : @FrnIn ι w := frn_in fun k v' l' cs' hk => by
    match k, hk with
    | 0, hk => cases hk; exact hv
  have ht : @VR ι Mu.nil (tok 0 l c) (.slice a l c) := tok_VR (ts := [(.slice a l c, l, cs)]) rfl hv
  have hE : @CallOk ι Try.prog (@funD ι Try.prog noOrc (fun f => seek f orcT) us 60 12) :=
    @EnvOk.call ι _ (@fun_goes ι Try.prog noOrc (fun f => seek f orcT) us 60 mixed hus (@noExt ι _) (@orc_list ι _ _ orcTOk) (conN_ok hb hl hcap) 12)
  obtain ⟨k, e, hk⟩ := he w.heap.size (.slice a l c) c
  obtain ⟨⟨x, H, k'⟩, hr, e2⟩ := Option.map_eq_some_iff.1 e
  simp only [Prod.mk.injEq] at e2
  obtain ⟨rfl, rfl⟩ := e2
  refine (hE _ _ _ _ _ _ hr hk Mu.nil [.slice a l c] w w.heap.size (@VRL.cons ι _ _ _ _ _ ht (@VRL.nil ι _)) (@HeapR.start ι w hw) (Nat.le_refl _)).mono fun e w' hx' => ?_
  obtain ⟨u, μ', rfl, _, hu, _, hbl⟩ := hx'
  exact ⟨u, rfl, fun ι2 μ2 => bareP_VR hu hx, hbl⟩
theorem mc_ans (hb : rowsB samK l cs = true) (h0 : 0 < l) (h64 : l ≤ 64) : AnsU 22 l cs (.agg (q16 (meV cs l)).toArray) :=
  ans_ofP usI_ok hb (by omega) (q16_bare _) fun base v c => by
    have h := mc_eval base v l c cs (codeV (Sm.vS cs l) l) (fun w => rowN cs w l) (fun r => suR r l) (kSu l cs) (.agg (q16 (meV cs l)).toArray) (isB (0 < l ∧ l ≤ 64)) (isB (l ≤ 64))
    rw [show (fun w => mV ((fun r => suR r l) ((fun w => rowN cs w l) w)) l) = meV cs l from funext fun w => by
      show mV (suR (rowN cs w l) l) l = mV (suN cs w l) l
      rw [suR_eq (Nat.le_refl _)]] at h
    refine ⟨_, h, ?_⟩
    rw [gAll_true (isB_of ⟨h0, h64⟩) fun w => isB_of ⟨w, rfl, rfl, h64⟩]; rfl
/-! ### the contracts -/
theorem two_in {con : FuncId → Option CT} {w : World} {v v2 : Value} (h1 : RowIn w v l cs) (h2 : RowIn w v2 l2 ds) : @FrnIn (frnOf w.heap.size (two v l cs v2 l2 ds) con) w := frn_in fun k v' l' cs' hk => by
  match k, hk with
  | 0, hk => cases hk; exact h1
  | 1, hk => cases hk; exact h2
theorem gT_ok {base : Nat} {v v2 : Value} {con : FuncId → Option CT} {f : Nat} {V0 V1 : Value} {k0 k1 : Bool} (hf : hasBody Try.prog f = true) (hb : cs.all bareC = true) (hb2 : ds.all bareC = true)
    (hcap : ∀ a l' c, v = .slice a l' c → l' ≤ c) (hcap2 : ∀ a l' c, v2 = .slice a l' c → l' ≤ c) (H0 : k0 = true → AnsU f l cs V0) (H1 : k1 = true → AnsU f l2 ds V1) : ConSpec (frnOf base (two v l cs v2 l2 ds) con) f (gT V0 V1 k0 k1) := ⟨hf, fun args h q rows he μ cargs w B ha hh hB => by
  unfold gT at he
  split at he
  · rename_i t l' c'
    obtain ⟨u, ys, rfl, hu, h2⟩ := vrl_cons ha
    rw [vrl_none h2]
    cases h1 : Nat.beq t 0 with
    | true =>
      have := Nat.eq_of_beq_eq_true h1
      subst this
      rw [h1, cond_true] at he
      simp only [Option.some.injEq, Prod.mk.injEq] at he
      obtain ⟨rfl, rfl, hk⟩ := he
      obtain ⟨r1, _, r3⟩ := tok_row (k := 0) hh hB rfl hb hu
      refine (H0 hk w u ⟨r1, fun a' l2 c2 e => hcap a' l2 c2 (r3 ▸ e)⟩).mono fun e w' hx => ?_
      obtain ⟨u', rfl, hV, hbl⟩ := hx
      refine ⟨_, μ, rfl, Sub.refl μ, hV _ μ, ?_, hbl.mono hB⟩
      rw [List.map_nil, List.append_nil]
      exact @HeapR.keep (frnOf base (two v l cs v2 l2 ds) con) _ _ _ _ _ hh hB hbl
    | false =>
    rw [h1, cond_false] at he
    cases h2 : Nat.beq t 1 with
    | true =>
      have := Nat.eq_of_beq_eq_true h2
      subst this
      rw [h2, cond_true] at he
      simp only [Option.some.injEq, Prod.mk.injEq] at he
      obtain ⟨rfl, rfl, hk⟩ := he
      obtain ⟨r1, _, r3⟩ := tok_row (k := 1) hh hB rfl hb2 hu
      refine (H1 hk w u ⟨r1, fun a' l2 c2 e => hcap2 a' l2 c2 (r3 ▸ e)⟩).mono fun e w' hx => ?_
      obtain ⟨u', rfl, hV, hbl⟩ := hx
      refine ⟨_, μ, rfl, Sub.refl μ, hV _ μ, ?_, hbl.mono hB⟩
      rw [List.map_nil, List.append_nil]
      exact @HeapR.keep (frnOf base (two v l cs v2 l2 ds) con) _ _ _ _ _ hh hB hbl
    | false => rw [h2] at he; cases he
  · cases he⟩
def kGf (B : Bool) (r : List Value) : Bool := Lg.isG r && (Lg.okC r == B)
theorem gOk_ok {ι : Frn} {B : Bool} : ConSpec ι 25 (gOk B (kGf B)) := ⟨by kernel_rfl, fun args h v rows he => by
  unfold gOk at he
  split at he
  · rename_i b
    split at he
    · rename_i r hr
      simp only [Option.some.injEq, Prod.mk.injEq, kGf, Bool.and_eq_true, beq_iff_eq] at he
      obtain ⟨rfl, rfl, hk, rfl⟩ := he
      exact (Lg.okM_ok (ι := ι)).2 _ h _ _ (by
        show (match h.getD b none with
          | some r => some (Value.bool (Lg.okC r), ([] : List (List Value)), Lg.isG r)
          | none => none) = _
        rw [hr]
        show some (Value.bool (Lg.okC r), ([] : List (List Value)), Lg.isG r) = _
        rw [hk])
    · cases he
  · cases he⟩
theorem vgO_one {ι : Frn} {B : Bool} : @OrcOne ι Try.prog 26 (vgO B (kGf B)) := ⟨(@Lg.okO_one ι).1, fun args v k he hk => by
  unfold vgO at he
  split at he
  · rename_i xs
    simp only [Option.some.injEq, Prod.mk.injEq] at he
    obtain ⟨rfl, rfl⟩ := he
    have hk' := hk
    simp only [kGf, Bool.and_eq_true, beq_iff_eq] at hk'
    obtain ⟨h1, rfl⟩ := hk'
    exact (@Lg.okO_one ι).2 [.agg xs] _ true (by
      show some (Value.bool (Lg.okC xs.toList), Lg.isG xs.toList) = _
      rw [h1]) rfl
  · cases he⟩
theorem orcVOk {ι : Frn} {B : Bool} : ∀ p ∈ [(26, vgO B (kGf B))], @OrcOne ι Try.prog p.1 p.2 := all_cons vgO_one all_nil
/-- the contracts of both functions -/
abbrev conQ (l : Nat) (cs : List Value) (l2 : Nat) (ds : List Value) (B : Bool) : FuncId → Option CT := conJ (Sm.vS cs l) (Sm.vS ds l2) (meV cs l) (meV ds l2) (isB (0 < l ∧ l ≤ 64)) (isB (0 < l2 ∧ l2 ≤ 64)) (isB (l ≤ 64)) (isB (l2 ≤ 64)) B (kGf B)
theorem conQ_ok {base : Nat} {v v2 : Value} {B : Bool} (hb : rowsB samK l cs = true) (hb2 : rowsB samK l2 ds = true) (hl : l ≤ 9223372036854775807) (hl2 : l2 ≤ 9223372036854775807) (hcap : ∀ a l' c, v = .slice a l' c → l' ≤ c) (hcap2 : ∀ a l' c, v2 = .slice a l' c → l' ≤ c) :
    @ConOk (frnOf base (two v l cs v2 l2 ds) (conQ l cs l2 ds B)) Try.prog := fun f g hf => by
  have hf : conQ l cs l2 ds B f = some g := hf
  unfold conQ conJ at hf
  have r1 := rowsB_bare (by decide) hb
  have r2 := rowsB_bare (by decide) hb2
  cases h1 : Nat.beq f 17 with
  | true =>
    rw [h1, cond_true, Option.some.injEq] at hf
    have hfe := Nat.eq_of_beq_eq_true h1
    subst hf hfe
    exact gT_ok (by kernel_rfl) r1 r2 hcap hcap2 (fun _ => ansU_bool (Sm.i_ans hb hl)) fun _ => ansU_bool (Sm.i_ans hb2 hl2)
  | false =>
  rw [h1, cond_false] at hf
  cases h2 : Nat.beq f 24 with
  | true =>
    rw [h2, cond_true, Option.some.injEq] at hf
    have hfe := Nat.eq_of_beq_eq_true h2
    subst hf hfe
    exact gT_ok (by kernel_rfl) r1 r2 hcap hcap2 (fun _ => ansU_bool (Sm.s_ans hb hl)) fun _ => ansU_bool (Sm.s_ans hb2 hl2)
  | false =>
  rw [h2, cond_false] at hf
  cases h3 : Nat.beq f 22 with
  | true =>
    rw [h3, cond_true, Option.some.injEq] at hf
    have hfe := Nat.eq_of_beq_eq_true h3
    subst hf hfe
    exact gT_ok (by kernel_rfl) r1 r2 hcap hcap2 (fun hk => mc_ans hb (of_isB hk).1 (of_isB hk).2) fun hk => mc_ans hb2 (of_isB hk).1 (of_isB hk).2
  | false =>
  rw [h3, cond_false] at hf
  cases h4 : Nat.beq f 19 with
  | true =>
    rw [h4, cond_true, Option.some.injEq] at hf
    have hfe := Nat.eq_of_beq_eq_true h4
    subst hf hfe
    exact gT_ok (by kernel_rfl) r1 r2 hcap hcap2 (fun hk w u hu => mean_calls hb (of_isB hk) hu.1) fun hk w u hu => mean_calls hb2 (of_isB hk) hu.1
  | false =>
  rw [h4, cond_false] at hf
  cases h5 : Nat.beq f 25 with
  | true =>
    rw [h5, cond_true, Option.some.injEq] at hf
    have hfe := Nat.eq_of_beq_eq_true h5
    subst hf hfe
    exact gOk_ok
  | false => rw [h5] at hf; cases hf
theorem getD_set {h : Heap} {b nid : Nat} {row : List Value} (hn : h.getD nid none = none) {r : List Value} (hr : h.getD b none = some r) : (h.set nid (some row)).getD b none = some r := by
  have hne : nid ≠ b := fun e => by
    rw [e, hr] at hn
    cases hn
  rw [List.getD_eq_getElem?_getD, List.getElem?_set_ne hne, ← List.getD_eq_getElem?_getD, hr]
theorem conJ_stab {base : Nat} {tk : Toks} {b0 b1 : Bool} {F0 F1 : Nat → Int} {k0 k1 q0 q1 B : Bool} {kG : List Value → Bool} : @ConStab (frnOf base tk (conJ b0 b1 F0 F1 k0 k1 q0 q1 B kG)) := fun f g hf args h u rows k nid row he hlt hn => by
  have hf : conJ b0 b1 F0 F1 k0 k1 q0 q1 B kG f = some g := hf
  unfold conJ at hf
  cases h1 : Nat.beq f 17 with
  | true =>
    rw [h1, cond_true, Option.some.injEq] at hf
    subst hf
    exact he
  | false =>
  rw [h1, cond_false] at hf
  cases h2 : Nat.beq f 24 with
  | true =>
    rw [h2, cond_true, Option.some.injEq] at hf
    subst hf
    exact he
  | false =>
  rw [h2, cond_false] at hf
  cases h3 : Nat.beq f 22 with
  | true =>
    rw [h3, cond_true, Option.some.injEq] at hf
    subst hf
    exact he
  | false =>
  rw [h3, cond_false] at hf
  cases h4 : Nat.beq f 19 with
  | true =>
    rw [h4, cond_true, Option.some.injEq] at hf
    subst hf
    exact he
  | false =>
  rw [h4, cond_false] at hf
  cases h5 : Nat.beq f 25 with
  | true =>
    rw [h5, cond_true, Option.some.injEq] at hf
    subst hf
    unfold gOk at he ⊢
    split at he
    · rename_i b
      split at he
      · rename_i r hr
        simp only [getD_set hn hr]
        exact he
      · cases he
    · cases he
  | false => rw [h5] at hf; cases hf
/-- a function answers a value to every two slices with these cells and this curve -/
def AnsG (f : Nat) (l : Nat) (cs : List Value) (l2 : Nat) (ds : List Value) (K V : Value) : Prop := ∀ (w : World) (v v2 x : Value), RowC w v l cs → RowC w v2 l2 ds → (∀ ι μ, @VR ι μ K x) →
  Calls Try.prog f #[v, v2, x] w fun e w' => ∃ u, e = .returned u ∧ (∀ ι μ, @VR ι μ V u) ∧ Below w.heap.size w w'
theorem ansG_of {g : Nat} {fn : Func} {C : Code} {f : Nat → Nat} {B : Bool} {V : Value} {xs : Array Value} (hV : V = .tuple xs) (hx : xs.toList.all bareP = true) (hfn : Try.prog.funcs[g]? = some fn) (hC : fn.body = some C) (hok : codeOk C = true)
    (hb : rowsB samK l cs = true) (hb2 : rowsB samK l2 ds = true) (hl : l ≤ 9223372036854775807) (hl2 : l2 ≤ 9223372036854775807)
    (he : ∀ base v v2 c c2, ∃ k, fG base l c l2 c2 v v2 cs ds (Sm.vS cs l) (Sm.vS ds l2) (meV cs l) (meV ds l2) (isB (0 < l ∧ l ≤ 64)) (isB (0 < l2 ∧ l2 ≤ 64)) (isB (l ≤ 64)) (isB (l2 ≤ 64)) B (kGf B) f C fn = some (V, [], k) ∧ k = true) :
    AnsG g l cs l2 ds (.agg (kn f).toArray) V := fun w v v2 x hv hv2 hk => by
  obtain ⟨hv, hcap⟩ := hv
  obtain ⟨hv2, hcap2⟩ := hv2
  obtain ⟨a, c, rfl, _⟩ := id hv
  obtain ⟨a2, c2, rfl, _⟩ := id hv2
  let ι : Frn := frnOf w.heap.size (two (.slice a l c) l cs (.slice a2 l2 c2) l2 ds) (conQ l cs l2 ds B)
  have hw : @FrnIn ι w := two_in hv hv2
  have ht : @VR ι Mu.nil (tok 0 l c) (.slice a l c) := tok_VR (ts := two (.slice a l c) l cs (.slice a2 l2 c2) l2 ds) rfl hv
  have ht2 : @VR ι Mu.nil (tok 1 l2 c2) (.slice a2 l2 c2) := tok_VR (ts := two (.slice a l c) l cs (.slice a2 l2 c2) l2 ds) rfl hv2
  have hE : @EnvOk ι (@EJ ι B (kGf B)) := @conE_ok ι _ _ _ mixed (@noExt ι _) (@orc_list ι _ _ orcVOk) (conQ_ok hb hb2 hl hl2 hcap hcap2) conJ_stab
  obtain ⟨k, e, hkk⟩ := he w.heap.size (.slice a l c) (.slice a2 l2 c2) c c2
  subst hkk
  have e : (@codeK ι (@EJ ι B (kGf B)) 60 C (startS fn [tok 0 l c, tok 1 l2 c2, .agg (kn f).toArray] []) (@finK ι Try.prog fn)).map eraseH = some (V, [], true) := by
    rw [@codeK_map ι]
    exact e
  obtain ⟨r, hr, hr2⟩ := Option.map_eq_some_iff.1 e
  obtain ⟨y, H, k⟩ := r
  simp only [eraseH, Prod.mk.injEq] at hr2
  obtain ⟨rfl, _, rfl⟩ := hr2
  subst hV
  refine (con_calls ι hE mixed hfn hC hok hr hw (@VRL.cons ι _ _ _ _ _ ht (@VRL.cons ι _ _ _ _ _ ht2 (@VRL.cons ι _ _ _ _ _ (hk ι Mu.nil) (@VRL.nil ι _))))).mono fun e w' hx' => ?_
  obtain ⟨u, μ', rfl, hu, _, hbl⟩ := hx'
  exact ⟨u, rfl, fun ι2 μ2 => bareT_VR hu hx, hbl⟩
theorem ansG_bare (F0 F1 : Nat → Int) (f : Nat → Nat) (n : Int) : ((#[.agg (gz F0 F1 f).toArray, .int .i64 n] : Array Value).toList.all bareP) = true := by kernel_rfl
theorem isG_gz (F0 F1 : Nat → Int) (f : Nat → Nat) : Lg.isG (gz F0 F1 f) = true := by kernel_rfl
theorem i_body : Try.f14.body = some iC := by kernel_rfl
theorem s_body : Try.f12.body = some sC := by kernel_rfl
/-- program and model answer the same -/
theorem both (hb : rowsB samK l cs = true) (hb2 : rowsB samK l2 ds = true) (hl : l ≤ 9223372036854775807) (hl2 : l2 ≤ 9223372036854775807) (f : Nat → Nat) :
    ∃ (F0 F1 : Nat → Int) (g : Nat → Nat) (n : Int), AnsG 12 l cs l2 ds (.agg (kn f).toArray) (ansG F0 F1 g n) ∧ AnsG 14 l cs l2 ds (.agg (kn f).toArray) (ansG F0 F1 g n) := by
  have key : ∀ (F0 F1 : Nat → Int) (g : Nat → Nat) (n : Int), (∀ base v v2 c c2, ∃ k, fG base l c l2 c2 v v2 cs ds (Sm.vS cs l) (Sm.vS ds l2) (meV cs l) (meV ds l2) (isB (0 < l ∧ l ≤ 64)) (isB (0 < l2 ∧ l2 ≤ 64)) (isB (l ≤ 64)) (isB (l2 ≤ 64)) (Lg.okC (gz (meV cs l) (meV ds l2) f)) (kGf (Lg.okC (gz (meV cs l) (meV ds l2) f))) f sC Try.f12 = some (ansG F0 F1 g n, [], k) ∧ k = true) →
      (∀ base v v2 c c2, ∃ k, fG base l c l2 c2 v v2 cs ds (Sm.vS cs l) (Sm.vS ds l2) (meV cs l) (meV ds l2) (isB (0 < l ∧ l ≤ 64)) (isB (0 < l2 ∧ l2 ≤ 64)) (isB (l ≤ 64)) (isB (l2 ≤ 64)) (Lg.okC (gz (meV cs l) (meV ds l2) f)) (kGf (Lg.okC (gz (meV cs l) (meV ds l2) f))) f iC Try.f14 = some (ansG F0 F1 g n, [], k) ∧ k = true) →
      ∃ (F0 F1 : Nat → Int) (g : Nat → Nat) (n : Int), AnsG 12 l cs l2 ds (.agg (kn f).toArray) (ansG F0 F1 g n) ∧ AnsG 14 l cs l2 ds (.agg (kn f).toArray) (ansG F0 F1 g n) := fun F0 F1 g n h1 h2 =>
    ⟨F0, F1, g, n, ansG_of rfl (ansG_bare _ _ _ _) Try.func12 s_body (by kernel_rfl) hb hb2 hl hl2 h1, ansG_of rfl (ansG_bare _ _ _ _) Try.func14 i_body (by kernel_rfl) hb hb2 hl hl2 h2⟩
  have hG : kGf (Lg.okC (gz (meV cs l) (meV ds l2) f)) (gz (meV cs l) (meV ds l2) f) = true := by
    unfold kGf
    rw [isG_gz, beq_self_eq_true]; rfl
  have hlen : ∀ {l : Nat} {cs : List Value}, Sm.vS cs l = true → l ≤ 64 := fun {l cs} hv => by
    unfold Sm.vS at hv
    rw [Bool.and_eq_true, decide_eq_true_eq] at hv
    omega
  by_cases c1 : ((!Sm.vS cs l) || (!Sm.vS ds l2)) = true
  · exact key zI zI zN0 1 (fun base v v2 c c2 => ⟨true, (s_eval ..).trans (by rw [c1, cond_true, fb_true]), rfl⟩) (fun base v v2 c c2 => ⟨true, (i_eval ..).trans (by rw [c1, cond_true, fb_true]), rfl⟩)
  · have c1 : ((!Sm.vS cs l) || (!Sm.vS ds l2)) = false := by simpa using c1
    by_cases c2 : (decide ((l : Int) = 0) || decide ((l2 : Int) = 0)) = true
    · exact key zI zI zN0 6 (fun base v v2 c c2' => ⟨true, (s_eval ..).trans (by rw [c1, cond_false, c2, cond_true, fl2_eq, fb_true]), rfl⟩) (fun base v v2 c c2' => ⟨true, (i_eval ..).trans (by rw [c1, cond_false, c2, cond_true, fl2_eq, fb_true]), rfl⟩)
    · have c2 : (decide ((l : Int) = 0) || decide ((l2 : Int) = 0)) = false := by simpa using c2
      have c1' := c1
      have c2' := c2
      rw [Bool.or_eq_false_iff, Bool.not_eq_false', Bool.not_eq_false'] at c1'
      rw [Bool.or_eq_false_iff, decide_eq_false_iff_not, decide_eq_false_iff_not] at c2'
      have e1 : isB (0 < l ∧ l ≤ 64) = true := isB_of ⟨by omega, hlen c1'.1⟩
      have e2 : isB (0 < l2 ∧ l2 ≤ 64) = true := isB_of ⟨by omega, hlen c1'.2⟩
      have e3 : isB (l ≤ 64) = true := isB_of (hlen c1'.1)
      have e4 : isB (l2 ≤ 64) = true := isB_of (hlen c1'.2)
      cases hB : Lg.okC (gz (meV cs l) (meV ds l2) f) with
      | false =>
        rw [hB] at key hG
        exact key zI zI zN0 4 (fun base v v2 c c2' => ⟨true, (s_eval ..).trans (by rw [c1, cond_false, c2, cond_false, Bool.not_false, cond_true, fl2_eq, fb_true, hG, e3, e4]; rfl), rfl⟩) (fun base v v2 c c2' => ⟨true, (i_eval ..).trans (by rw [c1, cond_false, c2, cond_false, Bool.not_false, cond_true, fl2_eq, fb_true, hG, e1, e2]; rfl), rfl⟩)
      | true =>
        rw [hB] at key hG
        exact key (meV cs l) (meV ds l2) f 0 (fun base v v2 c c2' => ⟨true, (s_eval ..).trans (by rw [c1, cond_false, c2, cond_false, Bool.not_true, cond_false, fl2_eq, fb_true, hG, e3, e4]; rfl), rfl⟩) (fun base v v2 c c2' => ⟨true, (i_eval ..).trans (by rw [c1, cond_false, c2, cond_false, Bool.not_true, cond_false, fl2_eq, fb_true, hG, e1, e2]; rfl), rfl⟩)
end
end Gf
end Go.Proofs.Ytahmdfklahaapaa
end
