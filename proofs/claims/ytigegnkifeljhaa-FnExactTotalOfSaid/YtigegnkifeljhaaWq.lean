/-
  Works of up to 6 batches, as variables: what two functions answer alike. No condition.
-/
import Derived.Test.YtigegnkifeljhaaWp
set_option linter.unusedSectionVars false
noncomputable section
namespace Go.Proofs.Ytigegnkifeljhaa
open Go Go.ChangeShapes Go.WideShapes Go.ChangeAt Go.RowKit Ev Sx

theorem wk_shape {n : Nat} {cs : List Value} (hb : rowsB batK n cs = true) (hw : cs.all wfC = true) : shapeB (repK batK n) cs = true := by
  have h := repK_ok (l := batK) (cs := cs) (m := n) fun i hi => ⟨rowsB_at hb hi, by
    rw [List.all_eq_true] at hw ⊢
    exact fun v hv => hw v (List.mem_of_mem_drop (List.mem_of_mem_take hv))⟩
  rw [show n * batK.length = cs.length from (rowsB_len hb).symm, List.take_length] at h
  exact h.1
theorem wk_noB : ∀ n, noB (repK batK n) = true
  | 0 => rfl
  | n + 1 => by
    have key : ∀ {a b : List CK}, noB a = true → noB b = true → noB (a ++ b) = true := by
      intro a
      induction a with
      | nil => exact fun _ h => h
      | cons c a ih =>
        intro b h1 h2
        cases c <;> first | exact ih h1 h2 | cases h1
    exact key (wk_noB n) (by kernel_rfl)
theorem wk_sv (n j w : Nat) : svsK (repK batK n) j w = svsK (repK batK n) j 0 ∧ wsK (repK batK n) j = [] := by
  have one : ∀ (r : List CK) (j w w' : Nat), svsK (batK ++ r) j w = svsK batK j 0 ++ svsK r (j + 9) w ∧ wsK (batK ++ r) j = wsK r (j + 9) := fun r j w w' => ⟨rfl, rfl⟩
  induction n generalizing j w with
  | zero => exact ⟨rfl, rfl⟩
  | succ m ih =>
    have comm : ∀ k, repK batK (k + 1) = batK ++ repK batK k := by
      intro k
      induction k with
      | zero => rfl
      | succ k ih => exact (congrArg (· ++ batK) ih).trans (List.append_assoc _ _ _)
    rw [comm]
    obtain ⟨a1, a2⟩ := one (repK batK m) j w 0
    obtain ⟨b1, b2⟩ := one (repK batK m) j 0 0
    obtain ⟨i1, i2⟩ := ih (j + 9) w
    rw [a1, a2, b1, i1, i2]
    exact ⟨rfl, rfl⟩
/-- the variables' values -/
def wkVal (cs : List Value) (t0 : Int) : List Value := cs ++ [.int .i64 t0]
section
variable {n : Nat} {cs : List Value} {t0 : Int}
abbrev wkG (n : Nat) (cs : List Value) (t0 : Int) : Nat → Vl := gW (rhoV (wkVal cs t0)) (9 * n + 1) []
theorem wk_row (hb : rowsB batK n cs = true) (hw : cs.all wfC = true) : (wkRow n).map (conc (wkG n cs t0)) = cs := by
  have hl : cs.length = n * 9 := rowsB_len hb
  have hs := wk_shape hb hw
  have h0 := (wk_sv n 0 (9 * n + 1 + 2)).1
  have h1 := (wk_sv n 0 0).2
  unfold wkRow
  rw [← h0]
  refine svs_conc (pre := []) (post := []) (wk_noB n) hs (wfs_wr hw) ?_ ?_ ?_ rfl
  · exact rho_part (A := []) (vs := cs) (j := 0) rfl
  · rw [← shape_len hs]; omega
  · rw [h1]; rfl
theorem wk_sh (hb : rowsB batK n cs = true) : (wkSh n).map (conc (wkG n cs t0)) = [.int .i64 t0, tokC 0 n 0] := by
  have hl : cs.length = n * 9 := rowsB_len hb
  have hz : rhoV (wkVal cs t0) (9 * n) = t0 := by
    have := rho_part (A := cs) (vs := [.int .i64 t0]) (B := []) (j := 9 * n) (by omega) 0 (.int .i64 t0) rfl
    rw [List.append_nil] at this
    exact this
  unfold wkSh
  simp only [List.map_cons, List.map_nil, conc]
  congr 2
  show (gW (rhoV (wkVal cs t0)) (9 * n + 1) [] (9 * n + 2)).z = t0
  rw [gW_low (by omega), hz]
  rfl
theorem wk_facts (hb : rowsB batK n cs = true) (hw : cs.all wfC = true) : factsH (wkG n cs t0) (wkFs n) := by
  have hl : cs.length = n * 9 := rowsB_len hb
  have key : ∀ (qs : List Nat), (∀ q ∈ qs, q < n) → factsH (wkG n cs t0) (qs.map fun q => (.s (9 * q + 2), 9223372036854775808, true)) := by
    intro qs
    induction qs with
    | nil => exact fun _ => trivial
    | cons q qs ih =>
      intro h
      have hq : q < n := h q List.mem_cons_self
      refine fact1 ?_ (ih fun p hp => h p (List.mem_cons_of_mem _ hp))
      have hs := rowsB_at hb hq
      obtain ⟨s, ys, e, _⟩ := shape_s hs
      have hlt : q * 9 < cs.length := by
        have h1 : (q + 1) * 9 ≤ n * 9 := Nat.mul_le_mul_right 9 hq
        omega
      have hc : cs[q * 9]? = some (.string s) := by
        have e2 : (recAt 9 cs q)[0]? = some (.string s) := by
          show (recAt batK.length cs q)[0]? = _
          rw [e]; rfl
        unfold recAt at e2
        rw [List.getElem?_take_of_lt (by omega), List.getElem?_drop] at e2
        exact e2
      have hz : rhoV (wkVal cs t0) (9 * q) = encS s := by
        have := rho_part (A := []) (vs := cs) (B := [.int .i64 t0]) (j := 0) rfl (q * 9) (.string s) hc
        rw [List.nil_append, Nat.zero_add, Nat.mul_comm] at this
        exact this
      have hg : conc (wkG n cs t0) (.s (9 * q + 2)) = .string s := by
        simp only [conc]
        show Value.string (strOf (gW (rhoV (wkVal cs t0)) (9 * n + 1) [] (9 * q + 2)).z) = _
        rw [gW_low (by omega), hz]
        show Value.string (strOf (encS s)) = _
        rw [strOf_enc]
      rw [hg]
      have hsz : s.size ≤ maxLen := of_decide_eq_true (List.all_eq_true.1 hw _ (List.mem_of_getElem? hc))
      rw [maxLen_eq] at hsz
      show (s.size : Int) < _
      omega
  exact key _ fun q hq => List.mem_range.1 hq
theorem wk_val {us : List FuncId} {f g : Nat} {ps : List Par} (hr : wkRun us f g ps n = true) (hb : rowsB batK n cs = true) (hw : cs.all wfC = true) : ∃ V, fitR ps V ∧ ∀ base v,
    (∃ h', @funD (frnOf base (tk1 v n cs) noF) Try.prog (fun f => seek f []) (fun f => seek f orcWn) us 300 30 f [works (tokC 0 n 0) (rooms t0)] [] = some (V, h', true)) ∧
    ∃ h', @funD (frnOf base (tk1 v n cs) noF) Try.prog (fun f => seek f []) (fun f => seek f orcWn) us 300 30 g [works (tokC 0 n 0) (rooms t0)] [] = some (V, h', true) := by
  unfold wkRun at hr
  rw [Bool.and_eq_true, Bool.and_eq_true] at hr
  obtain ⟨⟨h1, h2⟩, h3⟩ := hr
  obtain ⟨V, hV, hf⟩ := @pair2_run (wkF n) Try.prog [] symWn (fun f => seek f []) (fun f => seek f orcWn) us 300 30 (9 * n + 1) [] (wkFs n) (wkJ f n) (wkJ g n) ps UNm (rhoV (wkVal cs t0)) (fun F hB _ => ListR.nil) (fun F hB _ => symWnR F _ hB)
    (fun k => by
      show (bif Nat.beq k 0 then wkRow n else []).all _ = true
      cases Nat.beq k 0
      · rfl
      · exact h1) h3 (wk_facts hb hw)
  refine ⟨V, hV, fun base v => ?_⟩
  obtain ⟨⟨h1, e1, _⟩, ⟨h2, e2, _⟩⟩ := hf (frnOf base (tk1 v n cs) noF) (fun k => by
      match k with
      | 0 => exact (wk_row hb hw).symm
      | k + 1 => rfl) (fun F hB _ f g h => by
      have h : (none : Option (List (Nat × Bool) → List SV → HeapS → M SV)) = some g := h
      cases h)
  have ha : ([SV.agg (wkSh n)].map (conc (wkG n cs t0))) = [works (tokC 0 n 0) (rooms t0)] := by
    show [conc _ (.agg (wkSh n))] = _
    simp only [conc, concL_map]
    rw [wk_sh hb]
    rfl
  exact ⟨⟨h1, by rw [← ha]; exact e1⟩, ⟨h2, by rw [← ha]; exact e2⟩⟩
/-- a function answers so to all works with these cells -/
def AnsW (f l : Nat) (cs : List Value) (t0 : Int) (V : Value) : Prop := ∀ (w : World) (v : Value), RowC w v l cs → Calls Try.prog f #[works v (rooms t0)] w fun e w' => ∃ y, e = .returned y ∧ @VR noFrn (fun _ => none) V y ∧ Below w.heap.size w w'
theorem wk_ans {us : List FuncId} {f : Nat} {V : Value} {con : FuncId → Option (List Value → Heap → Option (Value × List (List Value) × Bool))} {exte orce : Orc} {cf d : Nat} (hus : us.all (funcOk Try.prog) = true) (hext : ∀ ι, @ExtOk ι Try.prog exte) (horc : ∀ ι, @OrcOk ι Try.prog orce) (hcon : ∀ base v, @ConOk (frnOf base (tk1 v n cs) con) Try.prog) (hV : bareP V = true)
    (he : ∀ base v, ∃ h', @funD (frnOf base (tk1 v n cs) con) Try.prog exte orce us cf d f [works (tokC 0 n 0) (rooms t0)] [] = some (V, h', true)) : AnsW f n cs t0 V := fun w v hv => by
  let ι : Frn := frnOf w.heap.size (tk1 v n cs) con
  obtain ⟨h', e⟩ := he w.heap.size v
  have ht : @VR ι (fun _ => none) (tokC 0 n 0) v := tokC_VR (ts := tk1 v n cs) rfl hv
  have hc : @CallOk ι Try.prog (@funD ι Try.prog exte orce us cf d) := @EnvOk.call ι _ (@fun_goes ι Try.prog exte orce us cf mixed hus (hext ι) (horc ι) (hcon _ _) d)
  refine (hc _ _ _ _ _ _ e rfl (fun _ => none) [works v (rooms t0)] w w.heap.size (@VRL.cons ι _ _ _ _ _ (works_vr ht) (@VRL.nil ι _)) (@HeapR.start ι w (tk1_in hv.1)) (Nat.le_refl _)).mono fun e w' hx => ?_
  obtain ⟨y, μ', rfl, _, hy, _, hbl⟩ := hx
  exact ⟨y, rfl, bareP_VR hy hV, hbl⟩
end
def vwUs : List Nat := [16, 18, 58, 60, 62, 63, 88, 114, 115, 119, 120, 121, 122, 149]
def vwRun (n : Nat) : Bool := wkRun vwUs 16 18 [.one .b] n
theorem vw_run0 : vwRun 0 = true := by kernel_rfl
theorem vw_run1 : vwRun 1 = true := by kernel_rfl
theorem vw_run2 : vwRun 2 = true := by kernel_rfl
theorem vw_run3 : vwRun 3 = true := by kernel_rfl
theorem vw_run4 : vwRun 4 = true := by kernel_rfl
theorem vw_run5 : vwRun 5 = true := by kernel_rfl
theorem vw_run6 : vwRun 6 = true := by kernel_rfl
theorem vw_run {n : Nat} (h : n ≤ 6) : vwRun n = true := by
  match n, h with
  | 0, _ => exact vw_run0
  | 1, _ => exact vw_run1
  | 2, _ => exact vw_run2
  | 3, _ => exact vw_run3
  | 4, _ => exact vw_run4
  | 5, _ => exact vw_run5
  | 6, _ => exact vw_run6
theorem vwUs_ok : vwUs.all (funcOk Try.prog) = true := by kernel_rfl
end Go.Proofs.Ytigegnkifeljhaa
end
