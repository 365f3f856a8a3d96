/-
  Shelves: program and model tell alike whether they are valid; FnExactValidShelf. No condition.
-/
import Derived.Test.YtigpiogljfedpaaVx
import Derived.Test.YtigpiogljfedpaaSv
set_option linter.unusedSectionVars false
noncomputable section
namespace Go.Proofs.Ytigpiogljfedpaa
open Go Go.ChangeShapes Go.WideShapes Go.ChangeAt Go.RowKit Ev Sx

/-! ### the model's function of a shelf that lies in memory of its own -/
def okCon (l : Nat) (ts : List Value) (b : Bool) : List Value → Heap → Option (Value × List (List Value) × Bool) := fun args h => match args with
  | [.pointer (some ⟨bk, o, none⟩)] => match h.getD bk none with
    | some r => some (.bool b, [], isB (r.drop o = tok 0 l 0 :: ts))
    | none => none
  | _ => none
section
variable {base : Nat} {tks : Toks} {con : FuncId → Option (List Value → Heap → Option (Value × List (List Value) × Bool))} {v : Value} {l : Nat} {cs : List Value} {t0 t1 t2 t3 t4 t5 : Int} {b : Bool}
theorem int_of_VR {ι : Frn} {μ : Nat → Option Nat} {k : IntKind} {z : Int} {y : Value} (h : @VR ι μ (.int k z) y) : y = .int k z := @VR.int_inv ι _ _ _ _ h
theorem okCon_ok (hk : tks[0]? = some (v, l, cs)) (hb : rowsB pigK l cs = true) (ha : AnsP l cs t0 t1 t2 t3 t4 t5 b) : ConSpec (frnOf base tks con) 50 (okCon l (tins t0 t1 t2 t3 t4 t5) b) := ⟨by kernel_rfl, fun args h u rows he μ cargs w B hargs hh hB => by
  unfold okCon at he
  split at he
  · rename_i bk o
    split at he
    · rename_i r hr
      simp only [Option.some.injEq, Prod.mk.injEq] at he
      obtain ⟨rfl, rfl, hkk⟩ := he
      have hrow := of_isB hkk
      obtain ⟨y, rfl, hy⟩ := @one_arg (frnOf base tks con) _ _ _ hargs
      obtain ⟨bk', rfl, hμ⟩ := @VR.ptr_inv (frnOf base tks con) _ _ _ _ hy
      obtain ⟨b2, cs', T, g1, g2, g3, g4⟩ := @HeapR.dom (frnOf base tks con) _ _ _ _ hh bk r hr
      rw [hμ] at g1
      cases g1
      -- the real cells
      have cell : ∀ j x, (tok 0 l 0 :: tins t0 t1 t2 t3 t4 t5)[j]? = some x → ∃ x', w.cell? ⟨bk', o + j, none⟩ = some x' ∧ @VR (frnOf base tks con) μ x x' := fun j x hx => by
        rw [← hrow, List.getElem?_drop] at hx
        obtain ⟨y, hy, hv⟩ := @VRL.get (frnOf base tks con) _ _ _ g4 _ _ hx
        refine ⟨y, ?_, hv⟩
        simp only [World.cell?, g3]
        simpa using hy
      obtain ⟨x0, c0, r0⟩ := cell 0 _ rfl
      obtain ⟨hr0, _, rfl⟩ := tok_row hh hB hk (rowsB_bare (by decide) hb) r0
      have hlt : bk' < w.heap.size := by
        rcases Nat.lt_or_ge bk' w.heap.size with h | h
        · exact h
        · simp [h] at g3
      have hs : ShAt w bk' o x0 l cs (tins t0 t1 t2 t3 t4 t5) := ⟨hr0, hlt, c0, fun j x hx => by
        obtain ⟨x', h1, h2⟩ := cell (j + 1) x (by rw [List.getElem?_cons_succ]; exact hx)
        obtain ⟨z, rfl⟩ := tins_int x (List.mem_of_getElem? hx)
        rw [int_of_VR h2] at h1
        exact h1⟩
      refine (ha w x0 bk' o hs).mono fun e w' hx => ?_
      obtain ⟨rfl, hbl⟩ := hx
      refine ⟨_, μ, rfl, Sub.refl μ, @VR.bool (frnOf base tks con) μ b, ?_, hbl.mono hB⟩
      rw [List.map_nil, List.append_nil]
      exact @HeapR.keep (frnOf base tks con) _ _ _ _ _ hh hB hbl
    · cases he
  · cases he⟩
end
def okF (l : Nat) (ts : List Value) (b : Bool) (f : FuncId) : Option (List Value → Heap → Option (Value × List (List Value) × Bool)) :=
  bif Nat.beq f 50 then some (okCon l ts b) else none
theorem okF_ok {base : Nat} {v : Value} {l : Nat} {cs : List Value} {t0 t1 t2 t3 t4 t5 : Int} {b : Bool} (hb : rowsB pigK l cs = true) (ha : AnsP l cs t0 t1 t2 t3 t4 t5 b) : @ConOk (frnOf base (tk1 v l cs) (okF l (tins t0 t1 t2 t3 t4 t5) b)) Try.prog := fun f g hf => by
  have hf : okF l (tins t0 t1 t2 t3 t4 t5) b f = some g := hf
  unfold okF at hf
  cases h1 : Nat.beq f 50 with
  | true =>
    rw [h1, cond_true, Option.some.injEq] at hf
    have := Nat.eq_of_beq_eq_true h1
    subst hf
    subst this
    exact okCon_ok rfl hb ha
  | false => rw [h1] at hf; cases hf
theorem spec_eval (base l : Nat) (v : Value) (cs : List Value) (t0 t1 t2 t3 t4 t5 : Int) (b : Bool) :
    (@funD (frnOf base (tk1 v l cs) (okF l (tins t0 t1 t2 t3 t4 t5) b)) Try.prog noOrc noOrc [16] 60 5 16 [shelf (tok 0 l 0) (tins t0 t1 t2 t3 t4 t5)] []).map eraseH =
      some (.bool b, [], isB ((tok 0 l 0 :: tins t0 t1 t2 t3 t4 t5) = tok 0 l 0 :: tins t0 t1 t2 t3 t4 t5) && true) := by kernel_rfl
section
variable {l : Nat} {cs : List Value} {t0 t1 t2 t3 t4 t5 : Int} {b : Bool}
theorem spec_of_ptr (hb : rowsB pigK l cs = true) (ha : AnsP l cs t0 t1 t2 t3 t4 t5 b) : AnsB 16 l cs t0 t1 t2 t3 t4 t5 b := fun w v hv => by
  let ι : Frn := frnOf w.heap.size (tk1 v l cs) (okF l (tins t0 t1 t2 t3 t4 t5) b)
  have h := spec_eval w.heap.size l v cs t0 t1 t2 t3 t4 t5 b
  rw [isB_of rfl] at h
  obtain ⟨r, hr, hr2⟩ := Option.map_eq_some_iff.1 h
  obtain ⟨x, H, k⟩ := r
  simp only [eraseH, Prod.mk.injEq] at hr2
  obtain ⟨rfl, _, rfl⟩ := hr2
  have ht : @VR ι (fun _ => none) (tok 0 l 0) v := tok_VR (ts := tk1 v l cs) (c := 0) rfl hv
  refine (@fun_call ι Try.prog noOrc noOrc [16] 60 5 mixed (by kernel_rfl) (@noExt ι _) (fun f g e => by cases e) (okF_ok hb ha) _ _ _ _ hr rfl rfl _ _ (@VRL.cons ι _ _ _ _ _ (shelf_vr ht) (@VRL.nil ι _)) w (tk1_in hv)).mono fun e w' hx => ?_
  obtain ⟨y, rfl, hy, hbl⟩ := hx
  rw [@VR.bool_inv ι _ _ _ hy]
  exact ⟨rfl, hbl⟩
/-! ### none, and more than 6 -/
theorem ptr_nil_eval (base : Nat) (v u : Value) (cs : List Value) (t0 t1 t2 t3 t4 t5 : Int) :
    (@funD (frnOf base (tk2 v 0 cs u (tins t0 t1 t2 t3 t4 t5)) noF) Try.prog noOrc noOrc [50] 60 5 50 [.pointer (some ⟨1, 0, some 0⟩)] []).map eraseH = some (.bool false, [], true) := by kernel_rfl
theorem ptr_of {bk o : Nat} {w : World} {v : Value} (hs : ShAt w bk o v l cs (tins t0 t1 t2 t3 t4 t5))
    (h : ∀ base u, ∃ h', @funD (frnOf base (tk2 v l cs u (tins t0 t1 t2 t3 t4 t5)) noF) Try.prog noOrc noOrc [50] 60 5 50 [.pointer (some ⟨1, 0, some 0⟩)] [] = some (.bool b, h', true)) :
    Calls Try.prog 50 #[.pointer (some ⟨bk, o, none⟩)] w fun e w' => e = .returned (.bool b) ∧ Below w.heap.size w w' := by
  let u : Value := .slice (some ⟨bk, o, none⟩) 7 7
  let ι : Frn := frnOf w.heap.size (tk2 v l cs u (tins t0 t1 t2 t3 t4 t5)) noF
  obtain ⟨h', e⟩ := h w.heap.size u
  have hp : @VR ι (fun _ => none) (.pointer (some ⟨1, 0, some 0⟩)) (.pointer (some ⟨bk, o + 0, none⟩)) := ptr_VR (ts := tk2 v l cs u (tins t0 t1 t2 t3 t4 t5)) rfl
  have hc : @CallOk ι Try.prog (@funD ι Try.prog noOrc noOrc [50] 60 5) := @EnvOk.call ι _ (@fun_goes ι Try.prog noOrc noOrc [50] 60 mixed (by kernel_rfl) (@noExt ι _) (fun f g e => by cases e) noF_ok 5)
  refine (hc _ _ _ _ _ _ e rfl (fun _ => none) [.pointer (some ⟨bk, o, none⟩)] w w.heap.size (@VRL.cons ι _ _ _ _ _ hp (@VRL.nil ι _)) (@HeapR.start ι w (tk2_in tins_int hs)) (Nat.le_refl _)).mono fun e w' hx => ?_
  obtain ⟨u, μ', rfl, _, hu, _, hbl⟩ := hx
  rw [@VR.bool_inv ι _ _ _ hu]
  exact ⟨rfl, hbl⟩
theorem many_ptr : AnsP (l + 7) cs t0 t1 t2 t3 t4 t5 false := fun w v bk o hs => by
  let u : Value := .slice (some ⟨bk, o, none⟩) 7 7
  let ι : Frn := frnOf w.heap.size (tk2 v (l + 7) cs u (tins t0 t1 t2 t3 t4 t5)) noF
  have he := ok_early w.heap.size l v u cs (tins t0 t1 t2 t3 t4 t5)
  rw [over6_true] at he
  obtain ⟨s', h', hg, hf⟩ := @early_goes ι _ _ _ _ _ ok_form he
  have hp : @VR ι (fun _ => none) (.pointer (some ⟨1, 0, some 0⟩)) (.pointer (some ⟨bk, o + 0, none⟩)) := ptr_VR (ts := tk2 v (l + 7) cs u (tins t0 t1 t2 t3 t4 t5)) rfl
  refine (@goes_call ι (@EV ι) (EV_ok ι noF_ok) mixed 50 Try.f50 okC Try.func50 (by kernel_rfl) (by kernel_rfl) _ _ _ _ _ _ _ hg hf (fun _ => none) [.pointer (some ⟨bk, o, none⟩)] w w.heap.size (@VRL.cons ι _ _ _ _ _ hp (@VRL.nil ι _)) (@HeapR.start ι w (tk2_in tins_int hs)) (Nat.le_refl _)).mono fun e w' hx => ?_
  obtain ⟨u, μ', rfl, _, hu, _, hbl⟩ := hx
  rw [@VR.bool_inv ι _ _ _ hu]
  exact ⟨rfl, hbl⟩
theorem many_val : AnsB 18 (l + 7) cs t0 t1 t2 t3 t4 t5 false := fun w v hv => by
  let ι : Frn := frnOf w.heap.size (tk1 v (l + 7) cs) faF
  have he := va_early w.heap.size l v cs t0 t1 t2 t3 t4 t5
  rw [over6_true, vaE_true] at he
  obtain ⟨s', h', hg, hf⟩ := @early_goes ι _ _ _ _ _ va_form he
  have ht : @VR ι (fun _ => none) (tok 0 (l + 7) 0) v := tok_VR (ts := tk1 v (l + 7) cs) (c := 0) rfl hv
  refine (@goes_call ι (@EV ι) (EV_ok ι faF_ok) mixed 18 Try.f18 vaC Try.func18 (by kernel_rfl) (by kernel_rfl) _ _ _ _ _ _ _ hg hf (fun _ => none) [shelf v (tins t0 t1 t2 t3 t4 t5)] w w.heap.size (@VRL.cons ι _ _ _ _ _ (shelf_vr ht) (@VRL.nil ι _)) (@HeapR.start ι w (tk1_in hv)) (Nat.le_refl _)).mono fun e w' hx => ?_
  obtain ⟨u, μ', rfl, _, hu, _, hbl⟩ := hx
  rw [@VR.bool_inv ι _ _ _ hu]
  exact ⟨rfl, hbl⟩
/-- program and model tell alike whether a shelf is valid; valid ones have 1 to 6 pigments, all of them valid -/
theorem shelf_sameA (hb : rowsB pigK l cs = true) (hw : cs.all wfC = true) (htw : (tins t0 t1 t2 t3 t4 t5).all wfC = true) :
    ∃ b : Bool, (b = true → 1 ≤ l ∧ l ≤ 6) ∧ AnsB 16 l cs t0 t1 t2 t3 t4 t5 b ∧ AnsB 18 l cs t0 t1 t2 t3 t4 t5 b ∧ AnsP l cs t0 t1 t2 t3 t4 t5 b ∧ (b = true → ∀ q, q < l → pvV (recAt 34 cs q) = true) := by
  by_cases h0 : l = 0
  · subst h0
    have hp : AnsP 0 cs t0 t1 t2 t3 t4 t5 false := fun w v bk o hs => ptr_of hs fun base u => by
      obtain ⟨r, hr, hr2⟩ := Option.map_eq_some_iff.1 (ptr_nil_eval base v u cs t0 t1 t2 t3 t4 t5)
      obtain ⟨x, H, k⟩ := r
      simp only [eraseH, Prod.mk.injEq] at hr2
      obtain ⟨rfl, _, rfl⟩ := hr2
      exact ⟨H, hr⟩
    exact ⟨false, (fun h => by cases h), nil_same.1, nil_same.2, hp, (fun h => by cases h)⟩
  · by_cases h6 : l ≤ 6
    · obtain ⟨b, h1, h2, h3, h4⟩ := few_same h6 hb hw htw
      refine ⟨b, fun _ => ⟨by omega, h6⟩, h1, h2, h3, fun hbt => ?_⟩
      subst hbt
      exact vs_imp h6 hb hw tins_shape htw h4
    · obtain ⟨k, rfl⟩ : ∃ k, l = k + 7 := ⟨l - 7, by omega⟩
      exact ⟨false, (fun h => by cases h), spec_of_ptr hb many_ptr, many_val, many_ptr, (fun h => by cases h)⟩
theorem shelf_same (hb : rowsB pigK l cs = true) (hw : cs.all wfC = true) (htw : (tins t0 t1 t2 t3 t4 t5).all wfC = true) :
    ∃ b : Bool, (b = true → 1 ≤ l ∧ l ≤ 6) ∧ AnsB 16 l cs t0 t1 t2 t3 t4 t5 b ∧ AnsB 18 l cs t0 t1 t2 t3 t4 t5 b ∧ AnsP l cs t0 t1 t2 t3 t4 t5 b := by
  obtain ⟨b, h1, h2, h3, h4, _⟩ := shelf_sameA hb hw htw
  exact ⟨b, h1, h2, h3, h4⟩
end
end Go.Proofs.Ytigpiogljfedpaa
namespace Go.Proofs.Ytigpiogljfedpaa.fnExactValidShelf
open Go Go.ChangeShapes Go.WideShapes Go.ChangeAt Go.RowKit Ev Sx
theorem same_ans : SameAns 16 18 := fun l cs t0 t1 t2 t3 t4 t5 hb _ hw htw => by
  obtain ⟨b, _, h1, h2, _⟩ := shelf_same hb hw htw
  exact ⟨b, h1, h2⟩
theorem over : Rows.fnExactValidShelfRow.holds Try.pinned (OpenSpec.ofChange Rows.fnExactValidShelfSpec) :=
  OpenClaim.holds_of_wide 3 Try.f3 rfl rfl rfl rfl rfl rfl rfl ⟨rfl, rfl, rfl, rfl, rfl⟩ rfl rfl rfl rfl rfl (by kernel_rfl) Try.func3 (by kernel_rfl)
    (of_decide_eq_true (by kernel_rfl)) (by unfold Func.isWrapper; first | (rw [if_pos (by decide +kernel)]; kernel_rfl) | (rw [if_neg (by decide +kernel)]; exact ⟨rfl, rfl⟩))
    (fun os started H enc _ => lifted same_ans os started H enc)

/-- The given statement. -/
theorem proved : Rows.FnExactValidShelfSaid := over
end Go.Proofs.Ytigpiogljfedpaa.fnExactValidShelf
end
