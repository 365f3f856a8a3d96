/-
  Sorks that are the same: program and model answer one Boolean to any two sorks. No condition.
-/
import Derived.Test.YteelhhdadcdclaaUe
import Derived.Test.YteelhhdadcdclaaWl
set_option linter.unusedSectionVars false
set_option linter.unusedVariables false
noncomputable section
namespace Go.Proofs.Yteelhhdadcdclaa
namespace Zb
open Go Go.ChangeShapes Go.WideShapes Go.ChangeAt Go.RowKit Ev
abbrev ConF := List Value → Heap → Option (Value × List (List Value) × Bool)
/-- what two sorks' functions answer -/
def vE (cs ds : List Value) (l l2 : Nat) : Bool := decide (l = l2) && allP (fun i => pE cs ds i) l 0
def eqM (b : Bool) : ConF := fun args _ => match args with
  | [.slice (some ⟨0, 0, some 0⟩) _ _, .slice (some ⟨1, 0, some 0⟩) _ _, .func (.func f) a b'] => some (.bool b, [], Nat.beq f 22 && (a.toList.isEmpty && b'.toList.isEmpty))
  | _ => none
noncomputable def smM (H : Heap) (b : Bool) : ConF := fun args h => match args with
  | [.pointer (some ⟨b0, 0, none⟩), .pointer (some ⟨b1, 0, none⟩)] => some (.bool b, [], (Nat.beq b0 0 && Nat.beq b1 1) && isB (h = H))
  | _ => none
noncomputable def conZ (H : Heap) (b b2 : Bool) (f : FuncId) : Option ConF :=
  bif Nat.beq f 21 then some (eqM b) else
  bif Nat.beq f 20 then some (smM H b2) else none
abbrev two (v : Value) (l : Nat) (cs : List Value) (v2 : Value) (l2 : Nat) (ds : List Value) : Toks := [(v, l, cs), (v2, l2, ds)]
theorem two_in {w : World} {v v2 : Value} {l l2 : Nat} {cs ds : List Value} (h : RowIn w v l cs) (h2 : RowIn w v2 l2 ds) {con : FuncId → Option ConF} : @FrnIn (frnOf w.heap.size (two v l cs v2 l2 ds) con) w := frn_in fun k v' l' cs' hk => by
  match k, hk with
  | 0, hk => cases hk; exact h
  | 1, hk => cases hk; exact h2
theorem EZ_ok (base : Nat) (ts : Toks) : @EnvOk (frnOf base ts (fun _ => none)) (@EZ TT (frnOf base ts (fun _ => none))) := @conE_ok (frnOf base ts (fun _ => none)) _ _ _ mixed (@noExt (frnOf base ts (fun _ => none)) _) (@orc_list (frnOf base ts (fun _ => none)) _ _ orcZOk) (fun f g h => by cases h) (fun f g h => by cases h)
theorem e_body : Try.f21.body = some eC := by kernel_rfl
theorem m_body : Try.f20.body = some mC := by kernel_rfl
theorem all_eq {P Q : Nat → Bool} (h : ∀ i, P i = Q i) : ∀ m i, allP P m i = allP Q m i
  | 0, _ => rfl
  | m + 1, i => by rw [allP, allP, h i, all_eq h m (i + 1)]
section
variable {l l2 : Nat} {cs ds : List Value} (hb : rowsB batK l cs = true) (hb2 : rowsB batK l2 ds = true) (hl : l ≤ 9223372036854775807)
theorem eq_ans (hb : rowsB batK l cs = true) (hb2 : rowsB batK l2 ds = true) (hl : l ≤ 9223372036854775807) {w : World} {v v2 : Value} (hv : RowIn w v l cs) (hv2 : RowIn w v2 l2 ds) :
    Calls Try.prog 21 #[v, v2, .func (.func 22) #[] #[]] w fun e w' => e = .returned (.bool (vE cs ds l l2)) ∧ Below w.heap.size w w' := by
  obtain ⟨a, c, rfl, _⟩ := id hv
  obtain ⟨a2, c2, rfl, _⟩ := id hv2
  let ι : Frn := frnOf w.heap.size (two (.slice a l c) l cs (.slice a2 l2 c2) l2 ds) (fun _ => none)
  have hw : @FrnIn ι w := two_in hv hv2
  have ht : @VR ι (fun _ => none) (tok 0 l c) (.slice a l c) := tok_VR (ts := two (.slice a l c) l cs (.slice a2 l2 c2) l2 ds) rfl hv
  have ht2 : @VR ι (fun _ => none) (tok 1 l2 c2) (.slice a2 l2 c2) := tok_VR (ts := two (.slice a l c) l cs (.slice a2 l2 c2) l2 ds) rfl hv2
  obtain ⟨s', h', hg, hk⟩ := @e_leads ι TT l cs ds l2 (EZ_ok _ _) rfl rfl hb hb2 hl c c2
  refine (@leads_call ι (@EZ TT ι) _ _ eC Try.func21 e_body _ [] _ _ _ _ hg hk (fun _ => none) [.slice a l c, .slice a2 l2 c2, .func (.func 22) #[] #[]] w w.heap.size (@VRL.cons ι _ _ _ _ _ ht (@VRL.cons ι _ _ _ _ _ ht2 (@VRL.cons ι _ _ _ _ _ (@VR.func ι _ _ _ _ _ _ rfl (by simp) rfl (by simp)) (@VRL.nil ι _)))) (@HeapR.start ι w hw) (Nat.le_refl _)).mono fun e w' hx => ?_
  obtain ⟨u, μ', rfl, _, hu, _, hbl⟩ := hx
  rw [@VR.bool_inv ι _ _ _ hu]
  unfold vE
  rw [all_eq (P := fun i => TT.sp (recAt 9 cs i) (recAt 9 ds i)) (Q := fun i => pE cs ds i) fun i => rfl]
  exact ⟨rfl, hbl⟩
theorem conZ_ok {base : Nat} {v v2 : Value} {c c2 : Nat} {t0 u0 : Int} (hb : rowsB batK l cs = true) (hb2 : rowsB batK l2 ds = true) (hl : l ≤ 9223372036854775807) :
    @ConOk (frnOf base (two v l cs v2 l2 ds) (conZ (Hm l c l2 c2 (rooms t0) (rooms u0)) (vE cs ds l l2) (decide (l = l2) && (decide (t0 = u0) && allP (fun i => pE cs ds i) l 0)))) Try.prog := fun f g hf => by
  have hf : conZ (Hm l c l2 c2 (rooms t0) (rooms u0)) (vE cs ds l l2) (decide (l = l2) && (decide (t0 = u0) && allP (fun i => pE cs ds i) l 0)) f = some g := hf
  generalize hcon : conZ (Hm l c l2 c2 (rooms t0) (rooms u0)) (vE cs ds l l2) (decide (l = l2) && (decide (t0 = u0) && allP (fun i => pE cs ds i) l 0)) = con at hf ⊢
  rw [← hcon] at hf
  unfold conZ at hf
  cases h1 : Nat.beq f 21 with
  | true =>
    rw [h1, cond_true, Option.some.injEq] at hf
    have hfe := Nat.eq_of_beq_eq_true h1
    subst hf hfe
    refine ⟨by kernel_rfl, fun args h q rows he μ cargs w B ha hh hB => ?_⟩
    unfold eqM at he
    split at he
    · rename_i la ca lb cb f a b'
      simp only [Option.some.injEq, Prod.mk.injEq, Bool.and_eq_true, List.isEmpty_iff] at he
      obtain ⟨rfl, rfl, hf1, hf2, hf3⟩ := he
      have hf1 := Nat.eq_of_beq_eq_true hf1
      subst hf1
      obtain ⟨y, ys, rfl, hy, ha⟩ := vrl_cons ha
      obtain ⟨y2, ys, rfl, hy2, ha⟩ := vrl_cons ha
      obtain ⟨y3, ys, rfl, hy3, ha⟩ := vrl_cons ha
      rw [vrl_none ha]
      obtain ⟨a', c', rfl, k1, k2⟩ := @VR.func_inv (frnOf base (two v l cs v2 l2 ds) con) _ _ _ _ _ hy3
      rw [hf2] at k1
      rw [hf3] at k2
      have e1 : a' = #[] := Array.ext' (vrl_none k1)
      have e2 : c' = #[] := Array.ext' (vrl_none k2)
      subst e1 e2
      obtain ⟨r1, _, _⟩ := tok_row (k := 0) hh hB rfl (rowsB_bare (by decide) hb) hy
      obtain ⟨r2, _, _⟩ := tok_row (k := 1) hh hB rfl (rowsB_bare (by decide) hb2) hy2
      refine (eq_ans hb hb2 hl r1 r2).mono fun e w' hx => ?_
      obtain ⟨rfl, hbl⟩ := hx
      refine ⟨_, μ, rfl, Sub.refl μ, @VR.bool (frnOf base (two v l cs v2 l2 ds) con) μ _, ?_, hbl.mono hB⟩
      rw [List.map_nil, List.append_nil]
      exact @HeapR.keep (frnOf base (two v l cs v2 l2 ds) con) _ _ _ _ _ hh hB hbl
    · cases he
  | false =>
  rw [h1, cond_false] at hf
  cases h2 : Nat.beq f 20 with
  | true =>
    rw [h2, cond_true, Option.some.injEq] at hf
    have hfe := Nat.eq_of_beq_eq_true h2
    subst hf hfe
    refine ⟨by kernel_rfl, fun args h q rows he μ cargs w B ha hh hB => ?_⟩
    unfold smM at he
    split at he
    · rename_i b0 b1
      simp only [Option.some.injEq, Prod.mk.injEq, Bool.and_eq_true] at he
      obtain ⟨rfl, rfl, ⟨hf1, hf2⟩, hf3⟩ := he
      have hf1 := Nat.eq_of_beq_eq_true hf1
      have hf2 := Nat.eq_of_beq_eq_true hf2
      have hf3 := of_isB hf3
      subst hf1 hf2 hf3
      obtain ⟨s', hg, hk⟩ := @m_leads (frnOf base (two v l cs v2 l2 ds) (fun _ => none)) TT l cs ds l2 (EZ_ok _ _) rfl rfl hb hb2 hl c c2 t0 u0
      refine (@leads_call (frnOf base (two v l cs v2 l2 ds) (fun _ => none)) (@EZ TT (frnOf base (two v l cs v2 l2 ds) (fun _ => none))) _ _ mC Try.func20 m_body [.pointer (some ⟨0, 0, none⟩), .pointer (some ⟨1, 0, none⟩)] (Hm l c l2 c2 (rooms t0) (rooms u0)) _ _ _ _ hg hk μ cargs w B (VRL_con ha) (HeapR_con hh) hB).mono fun e w' hx => ?_
      obtain ⟨u, μ', rfl, hs, hu, hh2, hbl⟩ := hx
      rw [@VR.bool_inv (frnOf base (two v l cs v2 l2 ds) (fun _ => none)) _ _ _ hu]
      refine ⟨_, μ', rfl, hs, @VR.bool (frnOf base (two v l cs v2 l2 ds) con) μ' _, ?_, hbl⟩
      rw [List.map_nil, List.append_nil]
      exact HeapR_con hh2
    · cases he
  | false => rw [h2] at hf; cases hf
end
theorem conZ_stab {base : Nat} {ts : Toks} {H : Heap} {b b2 : Bool} : @ConStab (frnOf base ts (conZ H b b2)) → True := fun _ => trivial
/-! ### both functions -/
def G1 (x : Bool) : Bool := (((bif x then (decide (x = true) && true) else true) && true) && (((((decide (x = true) && true) && ((decide (x = true) && true) && true)) && true) || (!decide (x = true))) && ((((decide (x = true) && true) && true) || (!decide (x = true))) && ((((decide (x = true) && true) && true) || (!decide (x = true))) && true))))
theorem G1_true (x : Bool) : G1 x = true := by cases x <;> rfl
noncomputable abbrev EF [Frn] : Env := ⟨Try.prog, noOrc, @funD _ Try.prog noOrc (fun f => seek f []) [] 40 5, false, false⟩
noncomputable def iC : Code := (Try.f11.body.getD .skip)
noncomputable def sC : Code := (Try.f10.body.getD .skip)
section
variable (base l c l2 c2 : Nat) (v v2 : Value) (cs ds : List Value) (t0 u0 : Int) (H : Heap) (b b2 : Bool)
theorem i_eval : (@codeK (frnOf base (two v l cs v2 l2 ds) (conZ H b b2)) (@EF (frnOf base (two v l cs v2 l2 ds) (conZ H b b2))) 20 iC (startS Try.f11 [works (tok 0 l c) (rooms t0), works (tok 1 l2 c2) (rooms u0)] []) (@finK (frnOf base (two v l cs v2 l2 ds) (conZ H b b2)) Try.prog Try.f11)).map (fun r => (r.1, r.2.2)) =
    some (.bool (decide (t0 = u0) && b), G1 (decide (t0 = u0))) := by kernel_rfl
theorem s_eval : (@codeK (frnOf base (two v l cs v2 l2 ds) (conZ (Hm l c l2 c2 (rooms t0) (rooms u0)) b b2)) (@EF (frnOf base (two v l cs v2 l2 ds) (conZ (Hm l c l2 c2 (rooms t0) (rooms u0)) b b2))) 20 sC (startS Try.f10 [works (tok 0 l c) (rooms t0), works (tok 1 l2 c2) (rooms u0)] []) (@finK (frnOf base (two v l cs v2 l2 ds) (conZ (Hm l c l2 c2 (rooms t0) (rooms u0)) b b2)) Try.prog Try.f10)).map (fun r => (r.1, r.2.2)) =
    some (.bool b2, isB (Hm l c l2 c2 (rooms t0) (rooms u0) = Hm l c l2 c2 (rooms t0) (rooms u0)) && true) := by kernel_rfl
end
end Zb
end Go.Proofs.Yteelhhdadcdclaa
end
