/-
  Works that are the same: both functions answer one Boolean; the law answers true. No condition.
-/
import Derived.Test.YteelhhdadcdclaaUh
import Derived.Test.YteelhhdadcdclaaWo
set_option linter.unusedSectionVars false
set_option linter.unusedVariables false
noncomputable section
namespace Go.Proofs.Yteelhhdadcdclaa
namespace Zb
open Go Go.ChangeShapes Go.WideShapes Go.ChangeAt Go.RowKit Ev
/-! ### both functions -/
theorem i_body : Try.f11.body = some iC := by kernel_rfl
theorem s_body : Try.f10.body = some sC := by kernel_rfl
theorem i_ok : codeOk iC = true := by kernel_rfl
theorem s_ok : codeOk sC = true := by kernel_rfl
section
variable {l l2 : Nat} {cs ds : List Value} {t0 u0 : Int}
/-- what both answer -/
def vS2 (cs ds : List Value) (l l2 : Nat) (t0 u0 : Int) : Bool := decide (l = l2) && (decide (t0 = u0) && allP (fun i => pE cs ds i) l 0)
theorem EF_ok {base : Nat} {v v2 : Value} {c c2 : Nat} (hb : rowsB batK l cs = true) (hb2 : rowsB batK l2 ds = true) (hl : l ≤ 9223372036854775807) :
    @EnvOk (frnOf base (two v l cs v2 l2 ds) (conZ (Hm l c l2 c2 (rooms t0) (rooms u0)) (vE cs ds l l2) (vS2 cs ds l l2 t0 u0))) (@EF (frnOf base (two v l cs v2 l2 ds) (conZ (Hm l c l2 c2 (rooms t0) (rooms u0)) (vE cs ds l l2) (vS2 cs ds l l2 t0 u0)))) :=
  @fun_goes (frnOf base (two v l cs v2 l2 ds) _) Try.prog noOrc (fun f => seek f []) [] 40 mixed rfl (@noExt (frnOf base (two v l cs v2 l2 ds) _) _) (@orc_list (frnOf base (two v l cs v2 l2 ds) _) _ _ all_nil) (conZ_ok hb hb2 hl) 5
theorem both (hb : rowsB batK l cs = true) (hb2 : rowsB batK l2 ds = true) (hl : l ≤ 9223372036854775807) :
    AnsF2 10 l cs t0 l2 ds u0 (.bool (vS2 cs ds l l2 t0 u0)) ∧
    AnsF2 11 l cs t0 l2 ds u0 (.bool (vS2 cs ds l l2 t0 u0)) := by
  constructor
  · intro w v v2 hv hv2
    obtain ⟨a, c, rfl, _⟩ := id hv
    obtain ⟨a2, c2, rfl, _⟩ := id hv2
    let ι : Frn := frnOf w.heap.size (two (.slice a l c) l cs (.slice a2 l2 c2) l2 ds) (conZ (Hm l c l2 c2 (rooms t0) (rooms u0)) (vE cs ds l l2) (vS2 cs ds l l2 t0 u0))
    have hw : @FrnIn ι w := two_in hv hv2
    have ht : @VR ι (fun _ => none) (tok 0 l c) (.slice a l c) := tok_VR (ts := two (.slice a l c) l cs (.slice a2 l2 c2) l2 ds) rfl hv
    have ht2 : @VR ι (fun _ => none) (tok 1 l2 c2) (.slice a2 l2 c2) := tok_VR (ts := two (.slice a l c) l cs (.slice a2 l2 c2) l2 ds) rfl hv2
    obtain ⟨r, hr, e⟩ := Option.map_eq_some_iff.1 (s_eval w.heap.size l c l2 c2 (.slice a l c) (.slice a2 l2 c2) cs ds t0 u0 (vE cs ds l l2) (vS2 cs ds l l2 t0 u0))
    obtain ⟨x, H, k⟩ := r
    simp only [Prod.mk.injEq] at e
    obtain ⟨rfl, hk⟩ := e
    have hk : k = true := by rw [hk, isB_of (p := True) trivial]; rfl
    subst hk
    refine (@body_goes ι (@EF ι) (EF_ok hb hb2 hl) mixed 10 Try.f10 sC Try.func10 s_body s_ok _ _ _ _ _ hr (fun _ => none) [works (.slice a l c) (rooms t0), works (.slice a2 l2 c2) (rooms u0)] w w.heap.size (@VRL.cons ι _ _ _ _ _ (works_vr ht) (@VRL.cons ι _ _ _ _ _ (works_vr ht2) (@VRL.nil ι _))) (@HeapR.start ι w hw) (Nat.le_refl _)).mono fun e w' hx => ?_
    obtain ⟨u, μ', rfl, _, hu, _, hbl⟩ := hx
    rw [@VR.bool_inv ι _ _ _ hu]
    exact ⟨rfl, hbl⟩
  · intro w v v2 hv hv2
    obtain ⟨a, c, rfl, _⟩ := id hv
    obtain ⟨a2, c2, rfl, _⟩ := id hv2
    let ι : Frn := frnOf w.heap.size (two (.slice a l c) l cs (.slice a2 l2 c2) l2 ds) (conZ (Hm l c l2 c2 (rooms t0) (rooms u0)) (vE cs ds l l2) (vS2 cs ds l l2 t0 u0))
    have hw : @FrnIn ι w := two_in hv hv2
    have ht : @VR ι (fun _ => none) (tok 0 l c) (.slice a l c) := tok_VR (ts := two (.slice a l c) l cs (.slice a2 l2 c2) l2 ds) rfl hv
    have ht2 : @VR ι (fun _ => none) (tok 1 l2 c2) (.slice a2 l2 c2) := tok_VR (ts := two (.slice a l c) l cs (.slice a2 l2 c2) l2 ds) rfl hv2
    obtain ⟨r, hr, e⟩ := Option.map_eq_some_iff.1 (i_eval w.heap.size l c l2 c2 (.slice a l c) (.slice a2 l2 c2) cs ds t0 u0 (Hm l c l2 c2 (rooms t0) (rooms u0)) (vE cs ds l l2) (vS2 cs ds l l2 t0 u0))
    obtain ⟨x, H, k⟩ := r
    simp only [Prod.mk.injEq] at e
    obtain ⟨hx, hk⟩ := e
    have hx : x = .bool (vS2 cs ds l l2 t0 u0) := by
      rw [hx]
      unfold vE vS2
      cases decide (t0 = u0) <;> cases decide (l = l2) <;> rfl
    have hk : k = true := by rw [hk, G1_true]
    subst hk hx
    refine (@body_goes ι (@EF ι) (EF_ok hb hb2 hl) mixed 11 Try.f11 iC Try.func11 i_body i_ok _ _ _ _ _ hr (fun _ => none) [works (.slice a l c) (rooms t0), works (.slice a2 l2 c2) (rooms u0)] w w.heap.size (@VRL.cons ι _ _ _ _ _ (works_vr ht) (@VRL.cons ι _ _ _ _ _ (works_vr ht2) (@VRL.nil ι _))) (@HeapR.start ι w hw) (Nat.le_refl _)).mono fun e w' hx => ?_
    obtain ⟨u, μ', rfl, _, hu, _, hbl⟩ := hx
    rw [@VR.bool_inv ι _ _ _ hu]
    exact ⟨rfl, hbl⟩
theorem get_rec {cs : List Value} {i o : Nat} (ho : o < 9) : (recAt 9 cs i)[o]? = cs[i * 9 + o]? := by
  unfold recAt
  rw [List.getElem?_take_of_lt ho, List.getElem?_drop]
/-! ### sizes only fall -/
theorem szV_le {i : Nat} (hb : rowsB batK l cs = true) (hw : cs.all wfC = true) (hi : i < l) {z : Int} (h0 : 0 ≤ z) (h1 : z ≤ 1048576) : szV (recAt 9 cs i) z ≤ z := by
  obtain ⟨s, d, e⟩ := rec_form (rowsB_at hb hi)
  have e : recAt 9 cs i = rowA s d := e
  have hs : cs[i * 9 + 0]? = some (.string s) := by
    rw [← get_rec (cs := cs) (i := i) (show 0 < 9 by omega), e]; rfl
  have hz : decide (s.size ≤ maxLen) = true := List.all_eq_true.1 hw _ (List.mem_of_getElem? hs)
  rw [decide_eq_true_eq] at hz
  have hm : (s.size : Int) ≤ 9223372036854775807 := by
    have : maxLen ≤ 9223372036854775807 := by decide
    omega
  rw [e]
  show (bif decide (IntKind.i64.wrap (z - (s.size : Int)) < 0) then -1 else IntKind.i64.wrap (z - (s.size : Int))) ≤ z
  rw [wrap_in (by omega) (by omega)]
  by_cases h : z - (s.size : Int) < 0
  · rw [decide_eq_true h, cond_true]; omega
  · rw [decide_eq_false h, cond_false]; omega
theorem szGo_in (hb : rowsB batK l cs = true) (hw : cs.all wfC = true) : ∀ (n i : Nat) (z : Int), i + n = l → 0 ≤ z → z ≤ 1048576 → szGo cs n i z ≤ 1048576
  | 0, _, _, _, _, h => h
  | n + 1, i, z, hi, h0, h => by
    rw [szGo]
    have := szV_le hb hw (show i < l by omega) h0 h
    split
    · omega
    · exact szGo_in hb hw n (i + 1) _ (by omega) (by omega) (by omega)
theorem szShV_in (hb : rowsB batK l cs = true) (hw : cs.all wfC = true) (hl : l ≤ 9223372036854775807) : szShV l cs ≤ 1048576 := by
  unfold szShV
  by_cases hn : szAll l cs 1048576 < 0
  · rw [decide_eq_true hn, cond_true]; omega
  · rw [decide_eq_false hn, cond_false]
    unfold szAll at hn ⊢
    rw [wrap_in (by omega) (by omega)] at hn ⊢
    split
    · omega
    · exact szGo_in hb hw l 0 _ (by omega) (by omega) (by omega)
theorem law_calls2 {w : World} {v v2 : Value} (hv : RowIn w v l cs) (hv2 : RowIn w v2 l2 ds) (hb : rowsB batK l cs = true) (hb2 : rowsB batK l2 ds = true) (hl : l ≤ 9223372036854775807) (hl2 : l2 ≤ 9223372036854775807) (hwf : cs.all wfC = true) :
    Calls Try.prog 4 #[works v (rooms t0), works v2 (rooms u0)] w fun e w' => e = .returned (.bool true) ∧ Below w.heap.size w w' := by
  obtain ⟨a, c, rfl, _⟩ := id hv
  obtain ⟨a2, c2, rfl, _⟩ := id hv2
  obtain ⟨hs, hi⟩ := both (t0 := t0) (u0 := u0) hb hb2 hl
  let ι : Frn := frnOf w.heap.size (two (.slice a l c) l cs (.slice a2 l2 c2) l2 ds) (conL2 (szShV l cs) (szShQ (szShV l cs) l2 ds) l cs t0 l2 ds u0 (.bool (vS2 cs ds l l2 t0 u0)))
  have hw : @FrnIn ι w := two_in hv hv2
  have ht : @VR ι (fun _ => none) (tok 0 l c) (.slice a l c) := tok_VR (ts := two (.slice a l c) l cs (.slice a2 l2 c2) l2 ds) rfl hv
  have ht2 : @VR ι (fun _ => none) (tok 1 l2 c2) (.slice a2 l2 c2) := tok_VR (ts := two (.slice a l c) l cs (.slice a2 l2 c2) l2 ds) rfl hv2
  have hE : @EnvOk ι (@ETl ι) := @conE_ok ι _ _ _ mixed (@noExt ι _) (@orc_list ι _ _ noneROk) (conL2_ok hb hb2 hl hl2 hs hi) conL2_stab
  have he : (@codeK ι (@ETl ι) 60 lC (startS Try.f4 [works (tok 0 l c) (rooms t0), works (tok 1 l2 c2) (rooms u0)] []) (@finK ι Try.prog Try.f4)).map eraseH = some (.bool true, [], true) := by
    rw [@codeK_map ι]
    refine (law_eval2 w.heap.size l c l2 c2 (.slice a l c) (.slice a2 l2 c2) cs ds t0 u0 (szShV l cs) (szShQ (szShV l cs) l2 ds) _).trans ?_
    have k1 : ∀ ts, k0 ts = true := fun ts => isB_of rfl
    have k2 : ∀ l cs ts l2 ds us, kV2 l cs ts l2 ds us = true := fun l cs ts l2 ds us => isB_of ⟨⟨rfl, rfl, rfl⟩, rfl, rfl, rfl⟩
    by_cases hn : szShV l cs < 0
    · rw [decide_eq_true hn, cond_true, k1]; rfl
    · have hl' : l ≤ 1048576 := szShV_le (cs := cs) hl (by omega)
      have hz : 0 ≤ szShV l cs ∧ szShV l cs ≤ 1048576 := ⟨by omega, szShV_in hb hwf hl⟩
      have k3 : ∀ us, kS (szShV l cs) us = true := fun us => isB_of ⟨rfl, rfl, hz⟩
      rw [decide_eq_false hn, cond_false]
      by_cases hm : szShQ (szShV l cs) l2 ds < 0
      · rw [decide_eq_true hm, cond_true, k1, k3]; rfl
      · have hl2' : l2 ≤ 1048576 := szQ_le hz (cs := ds) hl2 (by omega)
        have k4 : ∀ ts, kT l ts = true := fun ts => isB_of ⟨hl', rfl⟩
        have k5 : ∀ ts, kT l2 ts = true := fun ts => isB_of ⟨hl2', rfl⟩
        have k6 : ∀ ts us, kE l cs ts l cs ts l2 ds us = true := fun ts us => isB_of (.inl ⟨⟨hl', rfl, rfl, rfl⟩, rfl, rfl, rfl⟩)
        have k7 : ∀ ts us, kE l2 ds us l cs ts l2 ds us = true := fun ts us => isB_of (.inr ⟨⟨hl2', rfl, rfl, rfl⟩, rfl, rfl, rfl⟩)
        rw [decide_eq_false hm, cond_false, bne_self_eq_false, cond_false, k1, k2, k3, k4, k5, k6, k7]; rfl
  obtain ⟨r, hr, hr2⟩ := Option.map_eq_some_iff.1 he
  obtain ⟨x, H, k⟩ := r
  simp only [eraseH, Prod.mk.injEq] at hr2
  obtain ⟨rfl, _, rfl⟩ := hr2
  refine (con_calls ι hE mixed Try.func4 l_body l_ok hr hw (@VRL.cons ι _ _ _ _ _ (works_vr ht) (@VRL.cons ι _ _ _ _ _ (works_vr ht2) (@VRL.nil ι _)))).mono fun e w' hx => ?_
  obtain ⟨y, μ', rfl, hy, hh, hbl⟩ := hx
  rw [@VR.bool_inv ι _ _ _ hy]
  exact ⟨rfl, hbl⟩
end
end Zb
end Go.Proofs.Yteelhhdadcdclaa
end
