/-
  The gauge of samples: the law's own code, over contracts. No condition.
-/
import Derived.Test.YtahmdfklahaapaaJe
set_option linter.unusedSectionVars false
set_option linter.unusedVariables false
noncomputable section
namespace Go.Proofs.Ytahmdfklahaapaa
namespace Gf
open Go Go.ChangeShapes Go.WideShapes Go.ChangeAt Go.RowKit Ev Mc
/-! ### sizes, from any number on -/
def szQ (z : Int) (l : Nat) : Int := bif decide (IntKind.i64.wrap (z - (l : Int)) < 0) then -1 else IntKind.i64.wrap (z - (l : Int))
theorem szQ_le {z : Int} {l : Nat} (hz : z ≤ 1048576) (hz0 : 0 ≤ z) (hl : l ≤ 9223372036854775807) (h : 0 ≤ szQ z l) : l ≤ 1048576 ∧ szQ z l ≤ 1048576 := by
  unfold szQ at h ⊢
  rw [wrap_in (by omega) (by omega)] at h ⊢
  by_cases hn : z - (l : Int) < 0
  · rw [decide_eq_true hn, cond_true] at h; omega
  · rw [decide_eq_false hn, cond_false]
    omega
theorem sz_evalQ (base : Nat) (ts : Toks) (l c : Nat) (z : Int) : (@codeK (frnOf base ts fun _ => none) (@EZ (frnOf base ts fun _ => none)) 60 szC (startS Try.f6 [tok 0 l c, .int .i64 z] []) (@finK (frnOf base ts fun _ => none) Try.prog Try.f6)) =
    bif decide (IntKind.i64.wrap (z - (l : Int)) < 0) then some (.int .i64 (-1), [], true) else some (.int .i64 (IntKind.i64.wrap (z - (l : Int))), [], true) := by kernel_rfl
theorem szQ_calls {w : World} {v : Value} {l : Nat} {cs : List Value} {z : Int} (hv : RowIn w v l cs) :
    Calls Try.prog 6 #[v, .int .i64 z] w fun e w' => e = .returned (.int .i64 (szQ z l)) ∧ Below w.heap.size w w' := by
  obtain ⟨a, c, rfl, _⟩ := id hv
  let ι : Frn := frnOf w.heap.size [(.slice a l c, l, cs)] (fun _ => none)
  have hw : @FrnIn ι w := frn_in fun k v' l' cs' hk => by
    match k, hk with
    | 0, hk => cases hk; exact hv
  have ht : @VR ι Mu.nil (tok 0 l c) (.slice a l c) := tok_VR (ts := [(.slice a l c, l, cs)]) rfl hv
  have hE : @EnvOk ι (@EZ ι) := @conE_ok ι _ _ _ mixed (@noExt ι _) (@orc_list ι _ [] all_nil) (fun f g h => by cases h) (fun f g h => by cases h)
  have he : @codeK ι (@EZ ι) 60 szC (startS Try.f6 [tok 0 l c, .int .i64 z] []) (@finK ι Try.prog Try.f6) = some (.int .i64 (szQ z l), [], true) := by
    rw [sz_evalQ]
    unfold szQ
    cases decide (IntKind.i64.wrap (z - (l : Int)) < 0) <;> rfl
  refine (con_calls ι hE mixed Try.func6 (by kernel_rfl) (by kernel_rfl) he hw (@VRL.cons ι _ _ _ _ _ ht (@VRL.cons ι _ _ _ _ _ (@VR.int ι _ _ _) (@VRL.nil ι _)))).mono fun e w' hx => ?_
  obtain ⟨y, μ', rfl, hy, hh, hbl⟩ := hx
  rw [@VR.int_inv ι _ _ _ _ hy]
  exact ⟨rfl, hbl⟩
/-! ### the law's contracts -/
def gSz (l l2 : Nat) : CT := fun args _ => match args with
  | [.slice (some ⟨t, 0, some 0⟩) _ _, .int .i64 z] => bif Nat.beq t 0 then some (.int .i64 (szQ z l), [], true) else bif Nat.beq t 1 then some (.int .i64 (szQ z l2), [], true) else none
  | _ => none
def gTo (l : Nat) (cs : List Value) (l2 : Nat) (ds : List Value) : CT := fun args h => match args with
  | [.slice (some ⟨t, 0, some 0⟩) _ _] => bif Nat.beq t 0 then some (loc h.length l, [cs], isB (l ≤ 1048576)) else bif Nat.beq t 1 then some (loc h.length l2, [ds], isB (l2 ≤ 1048576)) else none
  | _ => none
def eqP (l1 l2 : Nat) (r r' : List Value) : Prop := (rowsB samK l1 r = true ∧ l1 ≤ 1048576) ∧ r' = r ∧ l2 = l1
def gEq : CT := fun args h => match args with
  | [.slice (some ⟨a, 0, none⟩) l1 _, .slice (some ⟨b, 0, none⟩) l2 _] => match h.getD a none, h.getD b none with
    | some r, some r' => some (.bool true, [], isB (eqP l1 l2 r r'))
    | _, _ => none
  | _ => none
def gaP (l : Nat) (cs : List Value) (l2 : Nat) (ds : List Value) (l1 c1 m1 d1 : Nat) (r r' : List Value) : Prop := (r = cs ∧ l1 = l ∧ l1 ≤ c1) ∧ (r' = ds ∧ m1 = l2 ∧ m1 ≤ d1)
def gGa (l : Nat) (cs : List Value) (l2 : Nat) (ds : List Value) (kX : List Value → Bool) (V : Value) : CT := fun args h => match args with
  | [.slice (some ⟨a, 0, none⟩) l1 c1, .slice (some ⟨b, 0, none⟩) m1 d1, .agg xs] => match h.getD a none, h.getD b none with
    | some r, some r' => some (V, [], isB (gaP l cs l2 ds l1 c1 m1 d1 r r') && kX xs.toList)
    | _, _ => none
  | _ => none
def conW (l : Nat) (cs : List Value) (l2 : Nat) (ds : List Value) (kX : List Value → Bool) (V : Value) (g : FuncId) : Option CT :=
  bif Nat.beq g 12 then some (gGa l cs l2 ds kX V) else bif Nat.beq g 14 then some (gGa l cs l2 ds kX V) else
  bif Nat.beq g 6 then some (gSz l l2) else bif Nat.beq g 8 then some (gTo l cs l2 ds) else
  bif Nat.beq g 11 then some gEq else none
def orcW (kE : List Value → List Value → Bool) (kT : List Value → Bool) : List (Nat × Sig) := [(15, egO kE), (13, tcO kT)]
noncomputable abbrev EW [Frn] (kE : List Value → List Value → Bool) (kT : List Value → Bool) : Env := conE Try.prog noOrc (fun f => seek f (orcW kE kT))
noncomputable def lawC : Code := (Try.f4.body.getD .skip)
theorem law_body : Try.f4.body = some lawC := by kernel_rfl
theorem law_ok : codeOk lawC = true := by kernel_rfl
section
variable (base l c l2 c2 : Nat) (v v2 : Value) (cs ds : List Value) (F0 F1 : Nat → Int) (g f : Nat → Nat) (n : Int) (kE : List Value → List Value → Bool) (kT kX : List Value → Bool)
noncomputable def lawF := (@codeK (frnOf base (two v l cs v2 l2 ds) (conW l cs l2 ds kX (ansG F0 F1 g n))) (@EW (frnOf base (two v l cs v2 l2 ds) (conW l cs l2 ds kX (ansG F0 F1 g n))) kE kT) 60 lawC (startS Try.f4 [tok 0 l c, tok 1 l2 c2, .agg (kn f).toArray] []) (fun e s => (@finK (frnOf base (two v l cs v2 l2 ds) (conW l cs l2 ds kX (ansG F0 F1 g n))) Try.prog Try.f4 e s).map eraseH))
def lawR : Bool := kE (gz F0 F1 g) (gz F0 F1 g) && ((isB (gaP l cs l2 ds l l l2 l2 cs ds) && kX (kn f)) && (kT (kn f) && (isB (l2 ≤ 1048576) && (isB (l ≤ 1048576) && (((isB (gaP l cs l2 ds l l l2 l2 cs ds) && kX (kn f)) && true) && (kT (kn f) && ((isB (l2 ≤ 1048576) && true) && ((isB (l ≤ 1048576) && true) && true))))))))
theorem law_eval : lawF base l c l2 c2 v v2 cs ds F0 F1 g f n kE kT kX =
    bif decide (szQ 1048576 l < 0) then some (.bool true, [], true) else bif decide (szQ (szQ 1048576 l) l2 < 0) then some (.bool true, [], true) else
    bif n != n then some (.bool false, [], lawR l l2 cs ds F0 F1 g f kE kT kX) else some (.bool true, [], isB (eqP l2 l2 ds ds) && (isB (l2 ≤ 1048576) && (isB (eqP l l cs cs) && (isB (l ≤ 1048576) && lawR l l2 cs ds F0 F1 g f kE kT kX)))) := by kernel_rfl
end
/-! ### the contracts hold -/
section
variable {l l2 : Nat} {cs ds : List Value}
theorem gSz_ok {base : Nat} {v v2 : Value} {con : FuncId → Option CT} (hb : cs.all bareC = true) (hb2 : ds.all bareC = true) : ConSpec (frnOf base (two v l cs v2 l2 ds) con) 6 (gSz l l2) := ⟨by kernel_rfl, fun args h q rows he μ cargs w B ha hh hB => by
  unfold gSz at he
  split at he
  · rename_i t l' c' z
    obtain ⟨u, ys, rfl, hu, h2⟩ := vrl_cons ha
    obtain ⟨y', ys, rfl, hy', h3⟩ := vrl_cons h2
    rw [vrl_none h3, @VR.int_inv (frnOf base (two v l cs v2 l2 ds) con) _ _ _ _ hy']
    cases h1 : Nat.beq t 0 with
    | true =>
      have := Nat.eq_of_beq_eq_true h1
      subst this
      rw [h1, cond_true] at he
      simp only [Option.some.injEq, Prod.mk.injEq] at he
      obtain ⟨rfl, rfl, _⟩ := he
      obtain ⟨r1, _, _⟩ := tok_row (k := 0) hh hB rfl hb hu
      refine (szQ_calls r1).mono fun e w' hx => ?_
      obtain ⟨rfl, hbl⟩ := hx
      refine ⟨_, μ, rfl, Sub.refl μ, @VR.int (frnOf base (two v l cs v2 l2 ds) con) μ _ _, ?_, hbl.mono hB⟩
      rw [List.map_nil, List.append_nil]
      exact @HeapR.keep (frnOf base (two v l cs v2 l2 ds) con) _ _ _ _ _ hh hB hbl
    | false =>
    rw [h1, cond_false] at he
    cases h2 : Nat.beq t 1 with
    | true =>
      have := Nat.eq_of_beq_eq_true h2
      subst this
      rw [h2, cond_true] at he
      simp only [Option.some.injEq, Prod.mk.injEq] at he
      obtain ⟨rfl, rfl, _⟩ := he
      obtain ⟨r1, _, _⟩ := tok_row (k := 1) hh hB rfl hb2 hu
      refine (szQ_calls r1).mono fun e w' hx => ?_
      obtain ⟨rfl, hbl⟩ := hx
      refine ⟨_, μ, rfl, Sub.refl μ, @VR.int (frnOf base (two v l cs v2 l2 ds) con) μ _ _, ?_, hbl.mono hB⟩
      rw [List.map_nil, List.append_nil]
      exact @HeapR.keep (frnOf base (two v l cs v2 l2 ds) con) _ _ _ _ _ hh hB hbl
    | false => rw [h2] at he; cases he
  · cases he⟩
theorem gTo_ok {base : Nat} {v v2 : Value} {con : FuncId → Option CT} (hb : rowsB samK l cs = true) (hb2 : rowsB samK l2 ds = true) : ConSpec (frnOf base (two v l cs v2 l2 ds) con) 8 (gTo l cs l2 ds) := ⟨by kernel_rfl, fun args h q rows he μ cargs w B ha hh hB => by
  unfold gTo at he
  split at he
  · rename_i t l' c'
    obtain ⟨u, ys, rfl, hu, h2⟩ := vrl_cons ha
    rw [vrl_none h2]
    cases h1 : Nat.beq t 0 with
    | true =>
      have := Nat.eq_of_beq_eq_true h1
      subst this
      rw [h1, cond_true] at he
      simp only [Option.some.injEq, Prod.mk.injEq] at he
      obtain ⟨rfl, rfl, hk⟩ := he
      obtain ⟨r1, _, _⟩ := tok_row (k := 0) hh hB rfl (rowsB_bare (by decide) hb) hu
      refine (toS_calls r1 hb (of_isB hk)).mono fun e w' hx => ?_
      obtain ⟨u', rfl, hnew, hbl⟩ := hx
      obtain ⟨μ', g1, g2, g3⟩ := heap_new hh hB hbl hnew
      exact ⟨_, μ', rfl, g1, g2, g3, hbl.mono hB⟩
    | false =>
    rw [h1, cond_false] at he
    cases h2 : Nat.beq t 1 with
    | true =>
      have := Nat.eq_of_beq_eq_true h2
      subst this
      rw [h2, cond_true] at he
      simp only [Option.some.injEq, Prod.mk.injEq] at he
      obtain ⟨rfl, rfl, hk⟩ := he
      obtain ⟨r1, _, _⟩ := tok_row (k := 1) hh hB rfl (rowsB_bare (by decide) hb2) hu
      refine (toS_calls r1 hb2 (of_isB hk)).mono fun e w' hx => ?_
      obtain ⟨u', rfl, hnew, hbl⟩ := hx
      obtain ⟨μ', g1, g2, g3⟩ := heap_new hh hB hbl hnew
      exact ⟨_, μ', rfl, g1, g2, g3, hbl.mono hB⟩
    | false => rw [h2] at he; cases he
  · cases he⟩
theorem gEq_ok {ι : Frn} : ConSpec ι 11 gEq := ⟨by kernel_rfl, fun args h v rows he μ cargs w B ha hh hB => by
  unfold gEq at he
  split at he
  · rename_i a l1 c1 b m1 d1
    split at he
    · rename_i r r' hr hr'
      simp only [Option.some.injEq, Prod.mk.injEq] at he
      obtain ⟨rfl, rfl, hk⟩ := he
      obtain ⟨⟨hb, hl⟩, rfl, rfl⟩ := of_isB hk
      obtain ⟨u, ys, rfl, hu, ha⟩ := vrl_cons ha
      obtain ⟨u2, ys, rfl, hu2, ha⟩ := vrl_cons ha
      rw [vrl_none ha]
      have r1 := local_row hh hu hr (rowsB_bare (by decide) hb)
      have r2 := local_row hh hu2 hr' (rowsB_bare (by decide) hb)
      rw [List.drop_zero] at r1 r2
      refine (eqS_calls r1 r2 hb hl).mono fun e w' hx => ?_
      obtain ⟨rfl, hbl⟩ := hx
      refine ⟨_, μ, rfl, Sub.refl μ, @VR.bool ι μ _, ?_, hbl.mono hB⟩
      rw [List.map_nil, List.append_nil]
      exact @HeapR.keep ι _ _ _ _ _ hh hB hbl
    · cases he
  · cases he⟩
theorem local_C {ι : Frn} {μ : Mu} {h : Heap} {w : World} {B b l0 c0 : Nat} {u : Value} {r : List Value} (hh : @HeapR ι μ h w B) (hu : @VR ι μ (.slice (some ⟨b, 0, none⟩) l0 c0) u) (hr : h.getD b none = some r) (hb : r.all bareC = true) (hc : l0 ≤ c0) : RowC w u l0 r := by
  have hrow := local_row hh hu hr hb
  rw [List.drop_zero] at hrow
  refine ⟨hrow, fun a l1 c1 e => ?_⟩
  obtain ⟨b2, c2, e2, _, hcr⟩ := @VR.slice_inv ι _ _ _ _ _ _ hu
  rw [e2] at e
  cases e
  exact Nat.le_trans hc hcr.le
def kX (f : Nat → Nat) (xs : List Value) : Bool := isB (xs = kn f)
theorem gGa_ok {ι : Frn} {g : Nat} {f : Nat → Nat} {V : Value} (hf : hasBody Try.prog g = true) (hb : cs.all bareC = true) (hb2 : ds.all bareC = true) (hans : AnsG g l cs l2 ds (.agg (kn f).toArray) V) : ConSpec ι g (gGa l cs l2 ds (kX f) V) := ⟨hf, fun args h v rows he μ cargs w B ha hh hB => by
  unfold gGa at he
  split at he
  · rename_i a l1 c1 b m1 d1 xs
    split at he
    · rename_i r r' hr hr'
      simp only [Option.some.injEq, Prod.mk.injEq, Bool.and_eq_true] at he
      obtain ⟨rfl, rfl, hk, hx⟩ := he
      obtain ⟨⟨rfl, rfl, q1⟩, rfl, rfl, q2⟩ := of_isB hk
      have hx : xs = (kn f).toArray := by rw [← of_isB hx]
      subst hx
      obtain ⟨u, ys, rfl, hu, ha⟩ := vrl_cons ha
      obtain ⟨u2, ys, rfl, hu2, ha⟩ := vrl_cons ha
      obtain ⟨u3, ys, rfl, hu3, ha⟩ := vrl_cons ha
      rw [vrl_none ha]
      refine (hans w u u2 u3 (local_C hh hu hr hb q1) (local_C hh hu2 hr' hb2 q2) fun ι2 μ2 => bareP_VR hu3 (kn_bare f)).mono fun e w' hx => ?_
      obtain ⟨u', rfl, hV, hbl⟩ := hx
      refine ⟨_, μ, rfl, Sub.refl μ, hV ι μ, ?_, hbl.mono hB⟩
      rw [List.map_nil, List.append_nil]
      exact @HeapR.keep ι _ _ _ _ _ hh hB hbl
    · cases he
  · cases he⟩
theorem conW_ok {base : Nat} {v v2 : Value} {f : Nat → Nat} {V : Value} (hb : rowsB samK l cs = true) (hb2 : rowsB samK l2 ds = true)
    (hs : AnsG 12 l cs l2 ds (.agg (kn f).toArray) V) (hi : AnsG 14 l cs l2 ds (.agg (kn f).toArray) V) : @ConOk (frnOf base (two v l cs v2 l2 ds) (conW l cs l2 ds (kX f) V)) Try.prog := fun g gg hf => by
  have hf : conW l cs l2 ds (kX f) V g = some gg := hf
  unfold conW at hf
  have r1 := rowsB_bare (by decide) hb
  have r2 := rowsB_bare (by decide) hb2
  cases h1 : Nat.beq g 12 with
  | true =>
    rw [h1, cond_true, Option.some.injEq] at hf
    have hfe := Nat.eq_of_beq_eq_true h1
    subst hf hfe
    exact gGa_ok (by kernel_rfl) r1 r2 hs
  | false =>
  rw [h1, cond_false] at hf
  cases h2 : Nat.beq g 14 with
  | true =>
    rw [h2, cond_true, Option.some.injEq] at hf
    have hfe := Nat.eq_of_beq_eq_true h2
    subst hf hfe
    exact gGa_ok (by kernel_rfl) r1 r2 hi
  | false =>
  rw [h2, cond_false] at hf
  cases h3 : Nat.beq g 6 with
  | true =>
    rw [h3, cond_true, Option.some.injEq] at hf
    have hfe := Nat.eq_of_beq_eq_true h3
    subst hf hfe
    exact gSz_ok r1 r2
  | false =>
  rw [h3, cond_false] at hf
  cases h4 : Nat.beq g 8 with
  | true =>
    rw [h4, cond_true, Option.some.injEq] at hf
    have hfe := Nat.eq_of_beq_eq_true h4
    subst hf hfe
    exact gTo_ok hb hb2
  | false =>
  rw [h4, cond_false] at hf
  cases h5 : Nat.beq g 11 with
  | true =>
    rw [h5, cond_true, Option.some.injEq] at hf
    have hfe := Nat.eq_of_beq_eq_true h5
    subst hf hfe
    exact gEq_ok
  | false => rw [h5] at hf; cases hf
theorem gTo_stab {args : List Value} {h : Heap} {nid : Nat} {row : List Value} {x : Value} {rows : List (List Value)} {k : Bool} (he : gTo l cs l2 ds args h = some (x, rows, k)) : gTo l cs l2 ds args (h.set nid (some row)) = some (x, rows, k) := by
  unfold gTo at he ⊢
  split at he
  · rename_i t l' c'
    simp only [List.length_set]
    exact he
  · cases he
theorem conW_stab {base : Nat} {tk : Toks} {kX : List Value → Bool} {V : Value} : @ConStab (frnOf base tk (conW l cs l2 ds kX V)) := fun g gg hf args h u rows k nid row he hlt hn => by
  have hf : conW l cs l2 ds kX V g = some gg := hf
  have hga : ∀ {x : Value} {rows : List (List Value)} {k : Bool}, gGa l cs l2 ds kX V args h = some (x, rows, k) → gGa l cs l2 ds kX V args (h.set nid (some row)) = some (x, rows, k) := fun he => by
    unfold gGa at he ⊢
    split at he
    · rename_i a l1 c1 b m1 d1 xs
      split at he
      · rename_i r r' hr hr'
        simp only [getD_set hn hr, getD_set hn hr']
        exact he
      · cases he
    · cases he
  unfold conW at hf
  cases h1 : Nat.beq g 12 with
  | true =>
    rw [h1, cond_true, Option.some.injEq] at hf
    subst hf
    exact hga he
  | false =>
  rw [h1, cond_false] at hf
  cases h2 : Nat.beq g 14 with
  | true =>
    rw [h2, cond_true, Option.some.injEq] at hf
    subst hf
    exact hga he
  | false =>
  rw [h2, cond_false] at hf
  cases h3 : Nat.beq g 6 with
  | true =>
    rw [h3, cond_true, Option.some.injEq] at hf
    subst hf
    exact he
  | false =>
  rw [h3, cond_false] at hf
  cases h4 : Nat.beq g 8 with
  | true =>
    rw [h4, cond_true, Option.some.injEq] at hf
    subst hf
    exact gTo_stab he
  | false =>
  rw [h4, cond_false] at hf
  cases h5 : Nat.beq g 11 with
  | true =>
    rw [h5, cond_true, Option.some.injEq] at hf
    subst hf
    unfold gEq at he ⊢
    split at he
    · rename_i a l1 c1 b m1 d1
      split at he
      · rename_i r r' hr hr'
        simp only [getD_set hn hr, getD_set hn hr']
        exact he
      · cases he
    · cases he
  | false => rw [h5] at hf; cases hf
theorem orcWOk {ι : Frn} : ∀ p ∈ orcW kE kT, @OrcOne ι Try.prog p.1 p.2 := all_cons eg_one (all_cons tc_one all_nil)
/-! ### the law -/
theorem law_calls {w : World} {v v2 x : Value} {F0 F1 : Nat → Int} {g f : Nat → Nat} {n : Int} (hv : RowIn w v l cs) (hv2 : RowIn w v2 l2 ds) (hx : ∀ ι μ, @VR ι μ (.agg (kn f).toArray) x) (hb : rowsB samK l cs = true) (hb2 : rowsB samK l2 ds = true) (hl : l ≤ 9223372036854775807) (hl2 : l2 ≤ 9223372036854775807)
    (hs : AnsG 12 l cs l2 ds (.agg (kn f).toArray) (ansG F0 F1 g n)) (hi : AnsG 14 l cs l2 ds (.agg (kn f).toArray) (ansG F0 F1 g n)) :
    Calls Try.prog 4 #[v, v2, x] w fun e w' => e = .returned (.bool true) ∧ Below w.heap.size w w' := by
  obtain ⟨a, c, rfl, _⟩ := id hv
  obtain ⟨a2, c2, rfl, _⟩ := id hv2
  let ι : Frn := frnOf w.heap.size (two (.slice a l c) l cs (.slice a2 l2 c2) l2 ds) (conW l cs l2 ds (kX f) (ansG F0 F1 g n))
  have hw : @FrnIn ι w := two_in hv hv2
  have ht : @VR ι Mu.nil (tok 0 l c) (.slice a l c) := tok_VR (ts := two (.slice a l c) l cs (.slice a2 l2 c2) l2 ds) rfl hv
  have ht2 : @VR ι Mu.nil (tok 1 l2 c2) (.slice a2 l2 c2) := tok_VR (ts := two (.slice a l c) l cs (.slice a2 l2 c2) l2 ds) rfl hv2
  have hE : @EnvOk ι (@EW ι kE kT) := @conE_ok ι _ _ _ mixed (@noExt ι _) (@orc_list ι _ _ orcWOk) (conW_ok hb hb2 hs hi) conW_stab
  have he : (@codeK ι (@EW ι kE kT) 60 lawC (startS Try.f4 [tok 0 l c, tok 1 l2 c2, .agg (kn f).toArray] []) (@finK ι Try.prog Try.f4)).map eraseH = some (.bool true, [], true) := by
    rw [@codeK_map ι]
    refine (law_eval w.heap.size l c l2 c2 (.slice a l c) (.slice a2 l2 c2) cs ds F0 F1 g f n kE kT (kX f)).trans ?_
    by_cases hn : szQ 1048576 l < 0
    · rw [decide_eq_true hn, cond_true]
    · obtain ⟨q1, q2⟩ := szQ_le (by omega) (by omega) hl (show 0 ≤ szQ 1048576 l by omega)
      rw [decide_eq_false hn, cond_false]
      by_cases hn2 : szQ (szQ 1048576 l) l2 < 0
      · rw [decide_eq_true hn2, cond_true]
      · obtain ⟨q3, _⟩ := szQ_le q2 (by omega) hl2 (show 0 ≤ szQ (szQ 1048576 l) l2 by omega)
        rw [decide_eq_false hn2, cond_false, bne_self_eq_false, cond_false]
        have e1 : isB (eqP l2 l2 ds ds) = true := isB_of ⟨⟨hb2, q3⟩, rfl, rfl⟩
        have e2 : isB (eqP l l cs cs) = true := isB_of ⟨⟨hb, q1⟩, rfl, rfl⟩
        have e3 : isB (l ≤ 1048576) = true := isB_of q1
        have e4 : isB (l2 ≤ 1048576) = true := isB_of q3
        have e5 : isB (gaP l cs l2 ds l l l2 l2 cs ds) = true := isB_of ⟨⟨rfl, rfl, Nat.le_refl _⟩, rfl, rfl, Nat.le_refl _⟩
        have e6 : kX f (kn f) = true := isB_of rfl
        have e7 : kT (kn f) = true := isB_of ⟨f, rfl⟩
        have e8 : kE (gz F0 F1 g) (gz F0 F1 g) = true := isB_of ⟨F0, F1, g, rfl, rfl⟩
        unfold lawR
        rw [e1, e2, e3, e4, e5, e6, e7, e8]; rfl
  obtain ⟨r, hr, hr2⟩ := Option.map_eq_some_iff.1 he
  obtain ⟨y, H, k⟩ := r
  simp only [eraseH, Prod.mk.injEq] at hr2
  obtain ⟨rfl, _, rfl⟩ := hr2
  refine (con_calls ι hE mixed Try.func4 law_body law_ok hr hw (@VRL.cons ι _ _ _ _ _ ht (@VRL.cons ι _ _ _ _ _ ht2 (@VRL.cons ι _ _ _ _ _ (hx ι Mu.nil) (@VRL.nil ι _))))).mono fun e w' hx' => ?_
  obtain ⟨y, μ', rfl, hy, hh, hbl⟩ := hx'
  rw [@VR.bool_inv ι _ _ _ hy]
  exact ⟨rfl, hbl⟩
end
end Gf
end Go.Proofs.Ytahmdfklahaapaa
end
