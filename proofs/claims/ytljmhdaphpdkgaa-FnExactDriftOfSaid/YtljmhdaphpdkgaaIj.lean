/-
  Drift: program and model answer the same. No condition.
-/
import Derived.Test.YtljmhdaphpdkgaaIi
set_option linter.unusedSectionVars false
set_option linter.unusedVariables false
noncomputable section
namespace Go.Proofs.Ytljmhdaphpdkgaa
namespace Dr
open Go Go.ChangeShapes Go.WideShapes Go.ChangeAt Go.RowKit Ev Mc
/-! ### the same numbers -/
theorem rec_get {cs : List Value} {k j : Nat} (hj : j < 17) : (recAt 17 cs k).getD j undef = cs.getD (k * 17 + j) undef := by
  unfold recAt
  rw [List.getD_eq_getElem?_getD, List.getElem?_take_of_lt hj, List.getElem?_drop, ← List.getD_eq_getElem?_getD]
theorem abS_congr {z n n' : Nat → Int} : ∀ {w : Nat}, (∀ k, k < w → n k = n' k) → abS z n w = abS z n' w
  | 0, _ => rfl
  | w + 1, h => by rw [abS, abS, abS_congr fun k hk => h k (by omega), h w (by omega)]
theorem t_eq (cs : List Value) (k : Nat) : tS cs k = tM cs k := by unfold tS tM; rw [rec_get (by decide)]
theorem n_eq (cs : List Value) (k w : Nat) (hw : w < 16) : nS cs k w = nM cs k w := by
  unfold nS nM
  rw [rec_get (by omega), show k * 17 + (1 + w) = k * 17 + 1 + w by omega]
theorem p_eq (cs : List Value) (z : Nat → Int) (k : Nat) : pv z (nS cs k) (tS cs k) = pM cs z k := by
  unfold pv pM yv yM
  rw [t_eq, abS_congr (n := nS cs k) (n' := nM cs k) fun w hw => n_eq cs k w hw]; rfl
theorem s_eq (cs : List Value) (k : Nat) : sv (tS cs k) = sM cs k := by unfold sv sM; rw [t_eq]
def fR (p : Nat → Nat) (n : Nat) : List Value := (List.range n).map fun k => fF (p k)
theorem pR_eq (cs : List Value) (z : Nat → Int) (n : Nat) : pR z cs n = fR (pM cs z) n := by
  unfold pR fR
  exact List.map_congr_left fun k _ => by rw [p_eq]
theorem sR_eq (cs : List Value) (n : Nat) : sR cs n = fR (sM cs) n := by
  unfold sR fR
  exact List.map_congr_left fun k _ => by rw [s_eq]
theorem fR_get {p : Nat → Nat} {n k : Nat} (hk : k < n) : (fR p n)[k]? = some (fF (p k)) := by
  unfold fR
  rw [List.getElem?_map, List.getElem?_range hk]; rfl
theorem sum_acc {p : Nat → Nat} {n : Nat} : ∀ {i : Nat}, i < n → sumN (fR p n) i = accF p i
  | 0, h => by
    show numOf ((fR p n).getD (0 * 1) undef) = p 0
    rw [List.getD_eq_getElem?_getD, show 0 * 1 = 0 from rfl, fR_get h]; rfl
  | i + 1, h => by
    rw [sumN, accF, sum_acc (show i < n by omega)]
    have : xO (fR p n) i = p (i + 1) := by
      unfold xO
      rw [show oN i = i + 1 by unfold oN; omega, List.getD_eq_getElem?_getD, fR_get h]; rfl
    rw [this]
theorem fN_true {p : Nat → Nat} {n k : Nat} (hk : k < n) : fN (fR p n) k = true := by
  unfold fN
  rw [Nat.mul_one, fR_get hk, List.getD_eq_getElem?_getD, fR_get hk]; rfl
theorem fR_bare (p : Nat → Nat) (n : Nat) : (fR p n).all bareC = true := fF_bare
/-! ### sums -/
theorem sum_calls {m : Nat} {p : Nat → Nat} (hm : m < 1000) {w : World} {v : Value} (hv : RowC w v (m + 1) (fR p (m + 1))) :
    Calls Try.prog 44 #[v] w fun e w' => ∃ u, e = .returned u ∧ (∀ ι μ, @VR ι μ (.float .f32 (accF p m)) u) ∧ Below w.heap.size w w' := by
  obtain ⟨a, c, rfl, _⟩ := id hv.1
  let ι : Frn := frnOf w.heap.size [(.slice a (m + 1) c, m + 1, fR p (m + 1))] (fun _ => none)
  have hw : @FrnIn ι w := frn_in fun k v' l' cs' hk => by
    match k, hk with
    | 0, hk => cases hk; exact hv.1
  have ht : @VR ι Mu.nil (tokC 0 (m + 1) c) (.slice a (m + 1) c) := tokC_VR (ts := [(.slice a (m + 1) c, m + 1, fR p (m + 1))]) rfl hv
  have hE : @EnvOk ι (@EN ι) := @conE_ok ι _ _ _ mixed (@noExt ι _) (@orc_list ι _ [] all_nil) (fun f g h => by cases h) (fun f g h => by cases h)
  obtain ⟨s', hg, hkk⟩ := @n_leads ι m (fR p (m + 1)) hE rfl (fun k hk => fN_true hk) c hm
  rw [sum_acc (by omega)] at hkk
  refine (@leads_call ι (@EN ι) 44 Try.f44 nC Try.func44 n_body _ [] _ _ _ _ hg hkk Mu.nil [.slice a (m + 1) c] w w.heap.size (@VRL.cons ι _ _ _ _ _ ht (@VRL.nil ι _)) (@HeapR.start ι w hw) (Nat.le_refl _)).mono fun e w' hx => ?_
  obtain ⟨u, μ', rfl, _, hu, _, hbl⟩ := hx
  exact ⟨u, rfl, fun ι2 μ2 => bareP_VR hu rfl, hbl⟩
def kFs (r : List Value) (l' c' : Nat) : Bool := isB (∃ m p, l' = m + 1 ∧ m < 1000 ∧ r = fR p (m + 1) ∧ l' ≤ c')
def smF (r : List Value) (l' : Nat) : Nat := sumN r (l' - 1)
theorem local_C {ι : Frn} {μ : Mu} {h : Heap} {w : World} {B b l0 c0 : Nat} {u : Value} {r : List Value} (hh : @HeapR ι μ h w B) (hu : @VR ι μ (.slice (some ⟨b, 0, none⟩) l0 c0) u) (hr : h.getD b none = some r) (hb : r.all bareC = true) (hc : l0 ≤ c0) : RowC w u l0 r := by
  have hrow := local_row hh hu hr hb
  rw [List.drop_zero] at hrow
  refine ⟨hrow, fun a l1 c1 e => ?_⟩
  obtain ⟨b2, c2, e2, _, hcr⟩ := @VR.slice_inv ι _ _ _ _ _ _ hu
  rw [e2] at e
  cases e
  exact Nat.le_trans hc hcr.le
theorem keep {ι : Frn} {μ : Mu} {h : Heap} {w : World} {B : Nat} {f : Nat} {cargs : Array Value} {V : Value} (hh : @HeapR ι μ h w B) (hB : B ≤ w.heap.size)
    (hc : Calls Try.prog f cargs w fun e w' => ∃ u, e = .returned u ∧ (∀ ι μ, @VR ι μ V u) ∧ Below w.heap.size w w') :
    Calls Try.prog f cargs w fun e w' => ∃ v' μ', e = .returned v' ∧ Sub μ μ' ∧ @VR ι μ' V v' ∧ @HeapR ι μ' (h ++ ([] : List (List Value)).map some) w' B ∧ Below B w w' := by
  refine hc.mono fun e w' hx => ?_
  obtain ⟨u, rfl, hu, hbl⟩ := hx
  refine ⟨u, μ, rfl, Sub.refl μ, hu ι μ, ?_, hbl.mono hB⟩
  rw [List.map_nil, List.append_nil]
  exact @HeapR.keep ι _ _ _ _ _ hh hB hbl
theorem gF_ok {ι : Frn} : ConSpec ι 44 (gF smF kFs) := ⟨by kernel_rfl, fun args h v rows he μ cargs w B ha hh hB => by
  unfold gF at he
  split at he
  · rename_i b l' c'
    split at he
    · rename_i r hr
      simp only [Option.some.injEq, Prod.mk.injEq] at he
      obtain ⟨rfl, rfl, hk⟩ := he
      obtain ⟨m, p, rfl, hm, rfl, hc⟩ := of_isB hk
      obtain ⟨u, ys, rfl, hu, h2⟩ := vrl_cons ha
      rw [vrl_none h2]
      have := sum_calls hm (local_C hh hu hr (fR_bare p _) hc)
      unfold smF
      rw [show m + 1 - 1 = m by omega, sum_acc (by omega)]
      exact keep hh hB this
    · cases he
  · cases he⟩
theorem conF_ok {base : Nat} {ts : Toks} : @ConOk (frnOf base ts (conF smF kFs)) Try.prog := fun f g hf => by
  have hf : conF smF kFs f = some g := hf
  unfold conF at hf
  cases h1 : Nat.beq f 44 with
  | true =>
    rw [h1, cond_true, Option.some.injEq] at hf
    have hfe := Nat.eq_of_beq_eq_true h1
    subst hf hfe
    exact gF_ok
  | false => rw [h1] at hf; cases hf
theorem getD_set {h : Heap} {b nid : Nat} {row : List Value} (hn : h.getD nid none = none) {r : List Value} (hr : h.getD b none = some r) : (h.set nid (some row)).getD b none = some r := by
  have hne : nid ≠ b := fun e => by
    rw [e, hr] at hn
    cases hn
  rw [List.getD_eq_getElem?_getD, List.getElem?_set_ne hne, ← List.getD_eq_getElem?_getD, hr]
theorem conF_stab {base : Nat} {ts : Toks} : @ConStab (frnOf base ts (conF smF kFs)) := fun f g hf args h u rows k nid row he hlt hn => by
  have hf : conF smF kFs f = some g := hf
  unfold conF at hf
  cases h1 : Nat.beq f 44 with
  | true =>
    rw [h1, cond_true, Option.some.injEq] at hf
    subst hf
    unfold gF at he ⊢
    split at he
    · rename_i b l' c'
      split at he
      · rename_i r hr
        simp only [getD_set hn hr]
        exact he
      · cases he
    · cases he
  | false => rw [h1] at hf; cases hf
/-! ### the drift, by the program -/
/-- a function answers a value to every gauge and slice with these cells -/
def AnsD (f : Nat) (G : Value) (l : Nat) (cs : List Value) (V : Value) : Prop := ∀ (w : World) (x v : Value), (∀ ι μ, @VR ι μ G x) → RowC w v l cs →
  Calls Try.prog f #[x, v] w fun e w' => ∃ u, e = .returned u ∧ (∀ ι μ, @VR ι μ V u) ∧ Below w.heap.size w w'
theorem drift_ans {m : Nat} {cs : List Value} (z : Nat → Int) (f : Nat → Nat) (hb : rowsB samK (m + 1) cs = true) (hl : m + 1 ≤ 64) :
    AnsD 30 (.agg (Lg.gr z f).toArray) (m + 1) cs (.float .f32 (fdiv .f32 (accF (pM cs z) m) (accF (sM cs) m))) := fun w x v hx hv => by
  obtain ⟨a, c, rfl, _⟩ := id hv.1
  let ι : Frn := frnOf w.heap.size [(.slice a (m + 1) c, m + 1, cs)] (conF smF kFs)
  have hw : @FrnIn ι w := frn_in fun k v' l' cs' hk => by
    match k, hk with
    | 0, hk => cases hk; exact hv.1
  have ht : @VR ι Mu.nil (tok 0 (m + 1) c) (.slice a (m + 1) c) := tok_VR (ts := [(.slice a (m + 1) c, m + 1, cs)]) rfl hv.1
  have hE : @EnvOk ι (@ED ι) := @conE_ok ι _ _ _ mixed (@noExt ι _) (@orc_list ι _ _ orcDOk) conF_ok conF_stab
  have k1 : kFs (pR z cs (m + 1)) (m + 1) (m + 1) = true := isB_of ⟨m, pM cs z, rfl, by omega, pR_eq cs z _, Nat.le_refl _⟩
  have k2 : kFs (sR cs (m + 1)) (m + 1) (m + 1) = true := isB_of ⟨m, sM cs, rfl, by omega, sR_eq cs _, Nat.le_refl _⟩
  obtain ⟨s', h', hg, hkk⟩ := d_leads w.heap.size [(.slice a (m + 1) c, m + 1, cs)] smF kFs (l := m + 1) (cs := cs) z f hE rfl hb hl (by omega) c k1 k2
  rw [pR_eq, sR_eq] at hkk
  unfold smF at hkk
  rw [show m + 1 - 1 = m by omega, sum_acc (by omega), sum_acc (by omega)] at hkk
  refine (@leads_call ι (@ED ι) 30 Try.f30 dC Try.func30 d_body _ [] _ _ _ _ hg hkk Mu.nil [x, .slice a (m + 1) c] w w.heap.size (@VRL.cons ι _ _ _ _ _ (hx ι Mu.nil) (@VRL.cons ι _ _ _ _ _ ht (@VRL.nil ι _))) (@HeapR.start ι w hw) (Nat.le_refl _)).mono fun e w' hx => ?_
  obtain ⟨u, μ', rfl, _, hu, _, hbl⟩ := hx
  exact ⟨u, rfl, fun ι2 μ2 => bareP_VR hu rfl, hbl⟩
end Dr
end Go.Proofs.Ytljmhdaphpdkgaa
end
