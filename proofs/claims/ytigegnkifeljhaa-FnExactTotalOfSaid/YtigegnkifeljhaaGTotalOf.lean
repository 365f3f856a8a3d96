/-
  FnExactTotalOf: program and model answer alike how much is ordered. No condition.
-/
import Derived.Test.YtigegnkifeljhaaWy
import Derived.Test.YtigegnkifeljhaaTotalOfR
import Derived.Test.YtigegnkifeljhaaWv
set_option linter.unusedSectionVars false
set_option linter.unusedVariables false
noncomputable section
namespace Go.Proofs.Ytigegnkifeljhaa.fnExactTotalOf
open Go Go.ChangeShapes Go.WideShapes Go.ChangeAt Go.RowKit Go.Deep Ev Sx

abbrev row (y : Nat → Int) : Value := .agg (cellsK K8 0 y).toArray
abbrev ans (y0 : Nat → Int) (y1 : Int) : Value := .tuple #[row y0, .int .i64 y1]
theorem ansB (y0 : Nat → Int) (y1 : Int) : bareP (ans y0 y1) = true := by kernel_rfl
/-! ### many -/
def zr : Nat → Int := fun _ => 0
theorem ms_t (base l : Nat) (v : Value) (cs : List Value) (t0 : Int) : (@funD (frnOf base (tk1 v (l + 7) cs) noF) Try.prog noOrc (fun f => seek f (orcC4 true)) [22, 58] 60 5 22 [works (tokC 0 (l + 7) 0) (rooms t0)] []).map eraseH =
    some (ans zr 1, [], (((isB (inZ ((l + 7 : Nat) : Int) 1 6 = leZ ((l + 7 : Nat) : Int) 6) && true) && (isB (inZ t0 1 4 = true) && true)) && true)) := by kernel_rfl
theorem ms_f (base l : Nat) (v : Value) (cs : List Value) (t0 : Int) : (@funD (frnOf base (tk1 v (l + 7) cs) noF) Try.prog noOrc (fun f => seek f (orcC4 false)) [22, 58] 60 5 22 [works (tokC 0 (l + 7) 0) (rooms t0)] []).map eraseH =
    some (ans zr 1, [], ((isB (inZ t0 1 4 = false) && true) && true)) := by kernel_rfl
theorem mi (base l : Nat) (v : Value) (cs : List Value) (t0 : Int) : (@funD (frnOf base (tk1 v l cs) (seekC [(18, vaW l t0 false)])) Try.prog noOrc noOrc [23] 60 5 23 [works (tokC 0 l 0) (rooms t0)] []).map eraseH =
    some (ans zr 1, [], isB (l = l ∧ t0 = t0) && true) := by kernel_rfl
theorem vB : hasBody Try.prog 18 = true := by kernel_rfl
theorem usT : [23].all (funcOk Try.prog) = true := by kernel_rfl
theorem noOO {ι : Frn} {P : Program} : @OrcOk ι P noOrc := fun f g e => by cases e
theorem same {l : Nat} {cs : List Value} {t0 : Int} (hb : rowsB batK l cs = true) (hw : cs.all wfC = true) : ∃ y0 y1, AnsW 22 l cs t0 (ans y0 y1) ∧ AnsW 23 l cs t0 (ans y0 y1) := by
  by_cases h6 : l ≤ 6
  · obtain ⟨V, hV, hf⟩ := wk_val (t0 := t0) (runs h6) hb hw
    obtain ⟨a, c, rfl, ha, hc⟩ := two_of hV
    obtain ⟨y0, rfl⟩ := row_of (ks := K8) rfl ha
    obtain ⟨y1, rfl⟩ := int_of hc
    exact ⟨y0, y1, wk_ans usOk (fun ι => noX) (fun ι => @orc_list ι _ _ orcWnOk) (fun base v => noF_ok) (ansB y0 y1) fun base v => (hf base v).1, wk_ans usOk (fun ι => noX) (fun ι => @orc_list ι _ _ orcWnOk) (fun base v => noF_ok) (ansB y0 y1) fun base v => (hf base v).2⟩
  · obtain ⟨k, rfl⟩ : ∃ k, l = k + 7 := ⟨l - 7, by omega⟩
    have hv := @vaW_ok
    have hcon : ∀ base v, @ConOk (frnOf base (tk1 v (k + 7) cs) (seekC [(18, vaW (k + 7) t0 false)])) Try.prog := fun base v => conOf_ok (allC_cons (hv (tks := tk1 v (k + 7) cs) vB rfl hb many_impl) allC_nil)
    refine ⟨zr, 1, ?_, wk_ans usT (fun ι => @noExt ι _) (fun ι => noOO) hcon (ansB zr 1) fun base v => of_era (mi base (k + 7) v cs t0) (by rw [isB_of ⟨rfl, rfl⟩]; rfl)⟩
    cases hc : inZ t0 1 4 with
    | true => exact wk_ans (by kernel_rfl) (fun ι => @noExt ι _) (fun ι => @orc_list ι _ _ (orcC4_ok true)) (fun base v => noF_ok) (ansB zr 1) fun base v => of_era (ms_t base k v cs t0) (by rw [isB_of (many_in k), isB_of hc]; rfl)
    | false => exact wk_ans (by kernel_rfl) (fun ι => @noExt ι _) (fun ι => @orc_list ι _ _ (orcC4_ok false)) (fun base v => noF_ok) (ansB zr 1) fun base v => of_era (ms_f base k v cs t0) (by rw [isB_of hc]; rfl)
/-! ### the law -/
def lawL (l : Nat) (cs : List Value) (t0 z : Int) (y0 : Nat → Int) (y1 : Int) : List (Nat × ConT) := [(22, ansV l cs t0 (ans y0 y1)), (23, ansV l cs t0 (ans y0 y1)), (15, szW l cs t0 z), (17, ansTo l cs t0), (19, ansEq l cs t0), (24, plCon [row y0, row y0] (.bool true))]
noncomputable def lawC : Code := (Try.f5.body.getD .skip)
theorem bodyE : Try.f5.body = some lawC := by kernel_rfl
theorem codeE : codeOk lawC = true := by kernel_rfl
def kZ (l : Nat) (cs : List Value) (t0 z : Int) : Bool := isB (z = szShV l cs ∧ t0 = t0)
def kV (l : Nat) (cs : List Value) (t0 : Int) : Bool := isB (cs = cs ∧ l = l ∧ t0 = t0 ∧ l ≤ l)
def kT (l : Nat) (t0 : Int) : Bool := isB (l ≤ 1048576 ∧ t0 = t0)
def kE (l : Nat) (cs : List Value) (t0 : Int) : Bool := isB ((l ≤ 1048576 ∧ cs = cs ∧ l = l ∧ t0 = t0) ∧ cs = cs ∧ l = l ∧ t0 = t0)
def kP (y0 : Nat → Int) : Bool := isB ([row y0, row y0] = [row y0, row y0])
theorem ev (base l : Nat) (v : Value) (cs : List Value) (t0 z : Int) (y0 : Nat → Int) (y1 : Int) : (@codeK (frnOf base (tk1 v l cs) (seekC (lawL l cs t0 z y0 y1))) (@ETl (frnOf base (tk1 v l cs) (seekC (lawL l cs t0 z y0 y1)))) 60 lawC (startS Try.f5 [works (tok 0 l 0) (rooms t0)] []) (fun e s => (@finK (frnOf base (tk1 v l cs) (seekC (lawL l cs t0 z y0 y1))) Try.prog Try.f5 e s).map eraseH)) =
    bif decide (z < 0) then some (.bool true, [], kZ l cs t0 z && true)
    else bif (y1 != y1) then some (.bool false, [], kP y0 && (kV l cs t0 && (kT l t0 && (kV l cs t0 && (kT l t0 && (kZ l cs t0 z && true))))))
    else some (.bool true, [], (kE l cs t0 && true) && ((kT l t0 && true) && (kP y0 && (kV l cs t0 && (kT l t0 && (kV l cs t0 && (kT l t0 && (kZ l cs t0 z && true)))))))) := by kernel_rfl
theorem pl (x : Nat → Int) : PlainAns 24 (List.replicate 2 (row x)) (.bool true) := plain_row (ks := K8) (us := [24]) (cf := 200) (d := 10) (t := (.lit (.bool true))) rfl (by kernel_rfl) (by kernel_rfl) (cellsK_shape rfl) (fun g h => by simp only [conc]) rfl
theorem walk {w : World} {v : Value} {l : Nat} {cs : List Value} {t0 : Int} (hv : RowIn w v l cs) (hl : l ≤ 9223372036854775807) (hb : rowsB batK l cs = true) (hw : cs.all wfC = true) :
    Calls Try.prog 5 #[works v (rooms t0)] w fun e w' => e = .returned (.bool true) ∧ Below w.heap.size w w' := by
  obtain ⟨y0, y1, hs, hi⟩ := same (t0 := t0) hb hw
  refine wlaw_go Try.func5 bodyE codeE (L := lawL l cs t0 (szShV l cs) y0 y1) hv (fun base v => allC_cons (anW_ok (by kernel_rfl) (rowsB_bare (by decide) hb) (ansB y0 y1) hs) (allC_cons (anW_ok (by kernel_rfl) (rowsB_bare (by decide) hb) (ansB y0 y1) hi) (allC_cons (szW_ok hb hl) (allC_cons (ansTo_ok hb) (allC_cons (ansEq_ok hb) (allC_cons (plCon_ok (by kernel_rfl) (by kernel_rfl) rfl (pl y0)) allC_nil))))))
    (allC_cons anW_stab (allC_cons anW_stab (allC_cons szW_stab (allC_cons toW_stab (allC_cons eqW_stab (allC_cons plCon_stab allC_nil)))))) fun base v => ?_
  rw [ev base l v cs t0 (szShV l cs) y0 y1]
  have k1 : kZ l cs t0 (szShV l cs) = true := isB_of ⟨rfl, rfl⟩
  have k2 : kV l cs t0 = true := isB_of ⟨rfl, rfl, rfl, Nat.le_refl _⟩
  have k5 : kP y0 = true := isB_of rfl
  by_cases hn : szShV l cs < 0
  · rw [decide_eq_true hn, cond_true, k1]; rfl
  · have hl' : l ≤ 1048576 := szShV_le (cs := cs) hl (by omega)
    have k3 : kT l t0 = true := isB_of ⟨hl', rfl⟩
    have k4 : kE l cs t0 = true := isB_of ⟨⟨hl', rfl, rfl, rfl⟩, rfl, rfl, rfl⟩
    rw [decide_eq_false hn, cond_false, bne_self_eq_false, cond_false, k1, k2, k3, k4, k5]; rfl
set_option maxRecDepth 100000 in
theorem lifted (os : Os) (started : os.Started) (H : Type) (enc : TypeId × Value → H) :
    ReturnsInHanded {} Try.checked os 5 .any (Rows.fnExactTotalOfSpec.pre6 enc Try.prog Try.f5 Rows.fnExactTotalOfRow.domain false) (Rows.fnExactTotalOfSpec.post enc Try.prog Try.f5 false true false false) := by
  refine returnsInHanded_of_change (C := Try.checked) own started (by kernel_rfl) Try.func5
    (ChangeSpec.witness6 (enc := enc) (C := Try.checked) false ⟨#[], #[works (.slice none 0 0) (rooms 0)], []⟩ 8 (by kernel_rfl) (by kernel_rfl) (by kernel_rfl) (by kernel_rfl)) ?_
  intro W base args ds gs before hval0 hW hcnd _
  have hval : ∀ (j : Nat) t v, Try.f5.params[j]? = some t → args[j]? = some v → Value.okWide Try.prog W .any base t v := hval0
  have hW' := hW
  obtain ⟨p, q, hA0, hV, rfl, hfz, hnd⟩ := hW
  have hA : DataW.TrodAll enc Try.prog W 0 (fun _ => true) true Try.f5.params.toList args.toList ds p := hA0
  rw [Try.params5] at hA hval
  obtain ⟨v0, vs0, d0, ds0, p0, q0, hargs, rfl, rfl, h0, r0⟩ := trodAll_cons hA
  obtain ⟨rfl, rfl, rfl⟩ := trodAll_nil r0
  obtain rfl : args = #[v0] := by cases args; simp_all
  obtain ⟨rfl, rfl⟩ := trodVars_none hV
  have lt0 : ∀ x ∈ p0, x.block < W.heap.size := by obtain ⟨m, hm⟩ := h0; exact DataW.trod_lt m _ _ _ hm
  obtain ⟨u, l, cs, t0, rfl, q1, q2, q3, q4, q5⟩ := open_law (hval 0 24 v0 rfl rfl) h0
  clear hA0 hval0
  refine (walk (t0 := t0) q1 q3 q2 q4).mono fun e W' ⟨he, bel⟩ => ?_
  subst he
  exact ⟨_, rfl, _, _, _, [], _, [], hW', trodAll_mk1 (shut_bool Try.underlying4 _), (trodAll_cons_mk (Below.trod laidOut (by kernel_rfl) (of_decide_eq_true (by kernel_rfl)) h0 bel lt0) trodAll_mk0), rfl, bel.frame _, fun h => by cases h⟩
theorem over : Rows.fnExactTotalOfRow.holds Try.pinned (OpenSpec.ofChange Rows.fnExactTotalOfSpec) :=
  OpenClaim.holds_of_wide 5 Try.f5 rfl rfl rfl rfl rfl rfl rfl ⟨rfl, rfl, rfl, rfl, rfl⟩ rfl rfl rfl rfl rfl (by kernel_rfl) Try.func5 (by kernel_rfl)
    (of_decide_eq_true (by kernel_rfl)) (by unfold Func.isWrapper; first | (rw [if_pos (by decide +kernel)]; kernel_rfl) | (rw [if_neg (by decide +kernel)]; exact ⟨rfl, rfl⟩))
    (fun os started H enc _ => lifted os started H enc)

/-- The given statement. -/
theorem proved : Rows.FnExactTotalOfSaid := over
end Go.Proofs.Ytigegnkifeljhaa.fnExactTotalOf
end
