/-
  Means of counts: what the functions over a list answer, in any world. No condition.
-/
import Derived.Test.YtljmhdaphpdkgaaMd
set_option linter.unusedSectionVars false
set_option linter.unusedVariables false
noncomputable section
namespace Go.Proofs.Ytljmhdaphpdkgaa
namespace Mc
open Go Go.ChangeShapes Go.WideShapes Go.ChangeAt Go.RowKit Ev
theorem cl_eval (i n : Int) : funD Try.prog noOrc noOrc [37] 40 5 37 [.int .i64 i, .int .i16 n] [] = some (.int .i64 (IntKind.i64.wrap n), [], true) := by kernel_rfl
theorem clO_bare : BareSig clO := fun args v he => by
  unfold clO at he
  split at he
  · simp only [Option.some.injEq, Prod.mk.injEq] at he
    obtain ⟨rfl, h⟩ := he
    exact ⟨rfl, rfl⟩
  · cases he
theorem cl_one : OrcOne Try.prog 37 clO := by
  refine orc_one (us := [37]) (cf := 40) (d := 5) mixed (by kernel_rfl) (lx := []) all_nil (l0 := []) all_nil (by kernel_rfl) fun args v k he hk hx => ?_
  unfold clO at he
  split at he
  · simp only [Option.some.injEq, Prod.mk.injEq] at he
    obtain ⟨rfl, rfl⟩ := he
    exact ⟨rfl, rfl, _, cl_eval _ _⟩
  · cases he
theorem orcMOk {ι : Frn} : ∀ p ∈ orcM, @OrcOne ι Try.prog p.1 p.2 := all_cons (orc_any cl_one clO_bare) (all_cons (orc_any cntM_one cntO_bare) (all_cons (orc_any cntI_one cntO_bare) all_nil))
theorem EP_ok (base : Nat) (ts : Toks) : @EnvOk (frnOf base ts fun _ => none) (@EP (frnOf base ts fun _ => none)) := @conE_ok (frnOf base ts fun _ => none) _ _ _ mixed (@noExt (frnOf base ts fun _ => none) _) (@orc_list (frnOf base ts fun _ => none) _ _ orcMOk) (fun f g h => by cases h) (fun f g h => by cases h)
/-- the sum of a row's first cells -/
def suR (r : List Value) : Nat → Int
  | 0 => 0
  | k + 1 => IntKind.i64.wrap (suR r k + IntKind.i64.wrap (xS r k))
theorem suR_eq {cs : List Value} {w n : Nat} : ∀ {k : Nat}, k ≤ n → suR (rowN cs w n) k = suN cs w k
  | 0, _ => rfl
  | k + 1, h => by
    rw [suR, suN, suR_eq (show k ≤ n by omega), xS_eq (show k < n by omega)]
section
variable {l : Nat} {cs : List Value}
theorem at_calls (hb : rowsB samK l cs = true) (hl : l ≤ 64) (h0 : 0 < l) {k : Nat} (hk : k < 16) {w : World} {v : Value} (hv : RowIn w v l cs) :
    Calls Try.prog 36 #[v, .int .i64 k] w fun e w' => ∃ u, e = .returned u ∧ NewRow w w' u l (rowN cs k l) ∧ Below w.heap.size w w' := by
  obtain ⟨a, c, rfl, _⟩ := id hv
  let ι : Frn := frnOf w.heap.size [(.slice a l c, l, cs)] (fun _ => none)
  have hw : @FrnIn ι w := frn_in fun k v' l' cs' hk => by
    match k, hk with
    | 0, hk => cases hk; exact hv
  have ht : @VR ι Mu.nil (tok 0 l c) (.slice a l c) := tok_VR (ts := [(.slice a l c, l, cs)]) rfl hv
  obtain ⟨s', hg, hkk⟩ := @a_leads ι l cs (EP_ok _ _) rfl hb hl h0 c k hk
  refine (@leads_call ι (@EP ι) 36 Try.f36 aC Try.func36 a_body _ [] _ _ _ _ hg hkk Mu.nil [.slice a l c, .int .i64 k] w w.heap.size (@VRL.cons ι _ _ _ _ _ ht (@VRL.cons ι _ _ _ _ _ (@VR.int ι _ _ _) (@VRL.nil ι _))) (@HeapR.start ι w hw) (Nat.le_refl _)).mono fun e w' hx => ?_
  obtain ⟨u, μ', rfl, _, hu, hh, hbl⟩ := hx
  exact ⟨u, rfl, new_of (ι := ι) hu hh rfl rowN_bare (fun e => by
    have := congrArg List.length e
    rw [rowN_len] at this
    exact this), hbl⟩
theorem sum_calls (hl : l ≤ 64) {k : Nat} {w : World} {v : Value} (hv : RowIn w v l (rowN cs k l)) :
    Calls Try.prog 35 #[v, .func (.func 37) #[] #[]] w fun e w' => e = .returned (.int .i64 (suN cs k l)) ∧ Below w.heap.size w w' := by
  obtain ⟨a, c, rfl, _⟩ := id hv
  let ι : Frn := frnOf w.heap.size [(.slice a l c, l, rowN cs k l)] (fun _ => none)
  have hw : @FrnIn ι w := frn_in fun k v' l' cs' hk => by
    match k, hk with
    | 0, hk => cases hk; exact hv
  have ht : @VR ι Mu.nil (tok 0 l c) (.slice a l c) := tok_VR (ts := [(.slice a l c, l, rowN cs k l)]) rfl hv
  have hf : @VR ι Mu.nil (.func (.func 37) #[] #[]) (.func (.func 37) #[] #[]) := @VR.func ι _ _ _ _ _ _ rfl (fun i x y h _ => by cases h) rfl (fun i x y h _ => by cases h)
  obtain ⟨s', hg, hkk⟩ := @s_leads ι l cs (EP_ok _ _) k rfl hl c
  refine (@leads_call ι (@EP ι) 35 Try.f35 sC Try.func35 s_body _ [] _ _ _ _ hg hkk Mu.nil [.slice a l c, .func (.func 37) #[] #[]] w w.heap.size (@VRL.cons ι _ _ _ _ _ ht (@VRL.cons ι _ _ _ _ _ hf (@VRL.nil ι _))) (@HeapR.start ι w hw) (Nat.le_refl _)).mono fun e w' hx => ?_
  obtain ⟨u, μ', rfl, _, hu, _, hbl⟩ := hx
  rw [@VR.int_inv ι _ _ _ _ hu]
  exact ⟨rfl, hbl⟩
/-- cells that know no memory -/
theorem bareT_VR {ι ι' : Frn} {μ μ' : Mu} {xs : Array Value} {y : Value} (h : @VR ι μ (.tuple xs) y) (hb : xs.toList.all bareP = true) : @VR ι' μ' (.tuple xs) y := by
  cases h with
  | tuple _ ys h1 h2 => exact @VR.tuple ι' μ' xs ys h1 fun i a b ha hc => bareP_VR (h2 i a b ha hc) (List.all_eq_true.1 hb a (List.mem_of_getElem? ha))
theorem q16_bare (f : Nat → Int) : bareP (.agg (q16 f).toArray) = true := by kernel_rfl
theorem mean_calls (hb : rowsB samK l cs = true) (hl : l ≤ 64) {w : World} {v : Value} (hv : RowIn w v l cs) :
    Calls Try.prog 19 #[v] w fun e w' => ∃ u, e = .returned u ∧ (∀ ι μ, @VR ι μ (.agg (q16 (meV cs l)).toArray) u) ∧ Below w.heap.size w w' := by
  obtain ⟨a, c, rfl, _⟩ := id hv
  let ι : Frn := frnOf w.heap.size [(.slice a l c, l, cs)] (fun _ => none)
  have hw : @FrnIn ι w := frn_in fun k v' l' cs' hk => by
    match k, hk with
    | 0, hk => cases hk; exact hv
  have ht : @VR ι Mu.nil (tok 0 l c) (.slice a l c) := tok_VR (ts := [(.slice a l c, l, cs)]) rfl hv
  obtain ⟨s', h', hg, hkk⟩ := @m_leads ι l cs (EP_ok _ _) rfl hb hl c
  refine (@leads_call ι (@EP ι) 19 Try.f19 mC Try.func19 m_body _ [] _ _ _ _ hg hkk Mu.nil [.slice a l c] w w.heap.size (@VRL.cons ι _ _ _ _ _ ht (@VRL.nil ι _)) (@HeapR.start ι w hw) (Nat.le_refl _)).mono fun e w' hx => ?_
  obtain ⟨u, μ', rfl, _, hu, _, hbl⟩ := hx
  exact ⟨u, rfl, fun ι2 μ2 => bareP_VR hu (q16_bare _), hbl⟩
end
end Mc
end Go.Proofs.Ytljmhdaphpdkgaa
end
