/-
  Works, as the laws hand them on: a copy is new memory with the same cells, copies are the same, and a works that is small enough has few batches. No condition.
-/
import Derived.Test.YteelhhdadcdclaaWh
set_option linter.unusedSectionVars false
noncomputable section
namespace Go.Proofs.Yteelhhdadcdclaa
open Go Go.ChangeShapes Go.WideShapes Go.ChangeAt Go.RowKit Ev

def noneR : List (Nat × Sig) := []
theorem noneROk {ι : Frn} : ∀ p ∈ noneR, @OrcOne ι Try.prog p.1 p.2 := all_nil
/-- the rooms of works -/
def rooms (t0 : Int) : List Value := [.int .i64 t0]
def works (v : Value) (ts : List Value) : Value := .agg (ts ++ [v]).toArray
/-! ### toShelf -/
/-- the copy of a slice that came in -/
def conTo (l : Nat) (cs : List Value) (f : FuncId) : Option (List Value → Heap → Option (Value × List (List Value) × Bool)) :=
  bif Nat.beq f 14 then some fun args h => match args with
    | [.slice (some ⟨0, 0, some 0⟩) _ _] => some (loc h.length l, [cs], true)
    | _ => none
  else none
theorem conTo_ok {base : Nat} {v : Value} {l : Nat} {cs : List Value} (hb : rowsB batK l cs = true) (hl : l ≤ 1048576) : @ConOk (frnOf base [(v, l, cs)] (conTo l cs)) Try.prog := fun f g hf => by
  have hf : conTo l cs f = some g := hf
  unfold conTo at hf
  cases hn : Nat.beq f 14 with
  | false => rw [hn] at hf; cases hf
  | true =>
    rw [hn, cond_true, Option.some.injEq] at hf
    subst hf
    have hfe := Nat.eq_of_beq_eq_true hn
    subst hfe
    refine ⟨by kernel_rfl, fun args h u rows he μ cargs w B ha hh hB => ?_⟩
    dsimp only at he
    split at he
    · rename_i l' c'
      simp only [Option.some.injEq, Prod.mk.injEq, and_true] at he
      obtain ⟨rfl, rfl⟩ := he
      obtain ⟨y, rfl, hy⟩ := @one_arg (frnOf base [(v, l, cs)] (conTo l cs)) _ _ _ ha
      obtain ⟨hrow, _, _⟩ := tok_row (k := 0) hh hB rfl (rowsB_bare (by decide) hb) hy
      refine (toS_calls hrow hb hl).mono fun e w' hx => ?_
      obtain ⟨u, rfl, hnew, hbl⟩ := hx
      obtain ⟨μ', g1, g2, g3⟩ := heap_new hh hB hbl hnew
      exact ⟨u, μ', rfl, g1, g2, g3, hbl.mono hB⟩
    · cases he
theorem conTo_stab {base : Nat} {v : Value} {l : Nat} {cs : List Value} : @ConStab (frnOf base [(v, l, cs)] (conTo l cs)) := fun f g hf args h u rows k nid row he hn hfr => by
  have hf : conTo l cs f = some g := hf
  unfold conTo at hf
  cases hq : Nat.beq f 14 with
  | false => rw [hq] at hf; cases hf
  | true =>
    rw [hq, cond_true, Option.some.injEq] at hf
    subst hf
    dsimp only at he ⊢
    rw [List.length_set]
    exact he
noncomputable abbrev ETi [Frn] : Env := conE Try.prog noOrc (fun f => seek f noneR)
noncomputable def tshC : Code := (Try.f7.body.getD .skip)
theorem tsh_body : Try.f7.body = some tshC := by kernel_rfl
theorem tsh_ok : codeOk tshC = true := by kernel_rfl
theorem toSh_eval (base : Nat) (v : Value) (l c : Nat) (cs : List Value) (t0 : Int) :
    (@codeK (frnOf base [(v, l, cs)] (conTo l cs)) (@ETi (frnOf base [(v, l, cs)] (conTo l cs))) 60 tshC (startS Try.f7 [works (tok 0 l c) (rooms t0)] []) (@finK (frnOf base [(v, l, cs)] (conTo l cs)) Try.prog Try.f7)).map (fun r => (r.1, r.2.1.getD 3 none, r.2.2)) =
      some (works (loc 3 l) (rooms t0), some cs, true) := by kernel_rfl
theorem vrl_cons {ι : Frn} {μ : Nat → Option Nat} {x : Value} {xs ys : List Value} (h : @VRL ι μ (x :: xs) ys) : ∃ y ys', ys = y :: ys' ∧ @VR ι μ x y ∧ @VRL ι μ xs ys' := by
  match ys, h with
  | y :: ys', h => exact ⟨y, ys', rfl, @VRL.head ι _ _ _ _ _ h, @VRL.tail ι _ _ _ _ _ h⟩
  | [], h => exact absurd h.1 (by simp)
theorem vrl_ints {ι : Frn} {μ : Nat → Option Nat} {k : IntKind} : ∀ {ts : List Int} {ys : List Value}, @VRL ι μ (ts.map fun t => .int k t) ys → ys = ts.map fun t => .int k t
  | [], ys, h => by
    match ys, h with
    | [], _ => rfl
    | _ :: _, h => exact absurd h.1 (by simp)
  | t :: ts, ys, h => by
    obtain ⟨y, ys', rfl, h1, h2⟩ := vrl_cons h
    rw [@VR.int_inv ι _ _ _ _ h1, vrl_ints h2]; rfl
theorem ints_vrl {ι : Frn} {μ : Nat → Option Nat} {k : IntKind} : ∀ (ts : List Int), @VRL ι μ (ts.map fun t => .int k t) (ts.map fun t => .int k t)
  | [] => @VRL.nil ι μ
  | t :: ts => @VRL.cons ι μ _ _ _ _ (@VR.int ι μ k t) (ints_vrl ts)
theorem rooms_vrl {ι : Frn} {μ : Nat → Option Nat} {t0 : Int} : @VRL ι μ (rooms t0) (rooms t0) := ints_vrl [t0]
theorem works_vr {ι : Frn} {μ : Nat → Option Nat} {u v : Value} {t0 : Int} (h : @VR ι μ u v) : @VR ι μ (works u (rooms t0)) (works v (rooms t0)) :=
  @VR.of_agg ι μ _ _ (@VRL.cons ι μ _ _ _ _ (@VR.int ι μ .i64 t0) (@VRL.cons ι μ _ _ _ _ h (@VRL.nil ι μ)))
theorem works_inv {ι : Frn} {μ : Nat → Option Nat} {u y : Value} {t0 : Int} (h : @VR ι μ (works u (rooms t0)) y) : ∃ v, y = works v (rooms t0) ∧ @VR ι μ u v := by
  obtain ⟨ys, rfl, hy⟩ := @VR.agg_inv ι _ _ _ h
  obtain ⟨z, ys', e, h1, h2⟩ := vrl_cons hy
  obtain ⟨v, ys'', e', h3, h4⟩ := vrl_cons h2
  have e'' : ys'' = [] := by
    match ys'', h4 with
    | [], _ => rfl
    | _ :: _, h => exact absurd h.1 (by simp)
  have hz := @VR.int_inv ι _ _ _ _ h1
  refine ⟨v, ?_, h3⟩
  unfold works rooms
  congr 1
  apply Array.ext'
  rw [e, e', e'', hz]; rfl
theorem toSh_calls {w : World} {v : Value} {l : Nat} {cs : List Value} (hv : RowIn w v l cs) (hb : rowsB batK l cs = true) (hl : l ≤ 1048576) (t0 : Int) :
    Calls Try.prog 7 #[works v (rooms t0)] w fun e w' => ∃ u, e = .returned (works u (rooms t0)) ∧ NewRow w w' u l cs ∧ Below w.heap.size w w' := by
  obtain ⟨a, c, rfl, _⟩ := id hv
  let ι : Frn := frnOf w.heap.size [(.slice a l c, l, cs)] (conTo l cs)
  have hw : @FrnIn ι w := frn_in fun k v' l' cs' hk => by
    match k, hk with
    | 0, hk => cases hk; exact hv
  have ht : @VR ι (fun _ => none) (tok 0 l c) (.slice a l c) := tok_VR (ts := [(.slice a l c, l, cs)]) rfl hv
  have hE : @EnvOk ι (@ETi ι) := @conE_ok ι _ _ _ mixed (@noExt ι _) (@orc_list ι _ _ noneROk) (conTo_ok hb hl) conTo_stab
  have he := toSh_eval w.heap.size (.slice a l c) l c cs t0
  obtain ⟨r, hr, hr2⟩ := Option.map_eq_some_iff.1 he
  obtain ⟨x, H, k⟩ := r
  simp only [Prod.mk.injEq] at hr2
  obtain ⟨rfl, hH, rfl⟩ := hr2
  refine (con_calls ι hE mixed Try.func7 tsh_body tsh_ok hr hw (@VRL.cons ι _ _ _ _ _ (works_vr ht) (@VRL.nil ι _))).mono fun e w' hx => ?_
  obtain ⟨y, μ', rfl, hy, hh, hbl⟩ := hx
  obtain ⟨u, rfl, hu⟩ := works_inv (u := loc 3 l) hy
  exact ⟨u, rfl, new_of (ι := ι) hu hh hH (rowsB_bare (by decide) hb), hbl⟩

/-! ### eqShelf -/
def conEq (f : FuncId) : Option (List Value → Heap → Option (Value × List (List Value) × Bool)) :=
  bif Nat.beq f 19 then some fun args _ => match args with
    | [.slice (some ⟨0, 0, some 0⟩) _ _, .slice (some ⟨1, 0, some 0⟩) _ _] => some (.bool true, [], true)
    | _ => none
  else none
theorem conEq_ok {base : Nat} {v u : Value} {l : Nat} {cs : List Value} (hb : rowsB batK l cs = true) (hl : l ≤ 1048576) : @ConOk (frnOf base [(v, l, cs), (u, l, cs)] conEq) Try.prog := fun f g hf => by
  have hf : conEq f = some g := hf
  unfold conEq at hf
  cases hn : Nat.beq f 19 with
  | false => rw [hn] at hf; cases hf
  | true =>
    rw [hn, cond_true, Option.some.injEq] at hf
    subst hf
    have hfe := Nat.eq_of_beq_eq_true hn
    subst hfe
    refine ⟨by kernel_rfl, fun args h q rows he μ cargs w B ha hh hB => ?_⟩
    dsimp only at he
    split at he
    · rename_i l1 c1 l2 c2
      simp only [Option.some.injEq, Prod.mk.injEq, and_true] at he
      obtain ⟨rfl, rfl⟩ := he
      obtain ⟨y, ys, rfl, hy, h2⟩ := vrl_cons ha
      obtain ⟨y', ys, rfl, hy', h3⟩ := vrl_cons h2
      have : ys = [] := by
        match ys, h3 with
        | [], _ => rfl
        | _ :: _, h => exact absurd h.1 (by simp)
      subst this
      obtain ⟨r1, _, _⟩ := tok_row (k := 0) hh hB rfl (rowsB_bare (by decide) hb) hy
      obtain ⟨r2, _, _⟩ := tok_row (k := 1) hh hB rfl (rowsB_bare (by decide) hb) hy'
      refine (eqS_calls r1 r2 hb hl).mono fun e w' hx => ?_
      obtain ⟨rfl, hbl⟩ := hx
      refine ⟨_, μ, rfl, Sub.refl μ, @VR.bool (frnOf base [(v, l, cs), (u, l, cs)] conEq) μ true, ?_, hbl.mono hB⟩
      rw [List.map_nil, List.append_nil]
      exact @HeapR.keep (frnOf base [(v, l, cs), (u, l, cs)] conEq) _ _ _ _ _ hh hB hbl
    · cases he
theorem conEq_stab {base : Nat} {ts : Toks} : @ConStab (frnOf base ts conEq) := fun f g hf args h u rows k nid row he hn hfr => by
  have hf : conEq f = some g := hf
  unfold conEq at hf
  cases hq : Nat.beq f 19 with
  | false => rw [hq] at hf; cases hf
  | true =>
    rw [hq, cond_true, Option.some.injEq] at hf
    subst hf
    exact he
noncomputable abbrev ETe [Frn] : Env := conE Try.prog noOrc (fun f => seek f noneR)
noncomputable def eshC : Code := (Try.f9.body.getD .skip)
theorem esh_body : Try.f9.body = some eshC := by kernel_rfl
theorem esh_ok : codeOk eshC = true := by kernel_rfl
theorem eqSh_eval (base : Nat) (v u : Value) (l c c' : Nat) (cs : List Value) (t0 : Int) :
    (@codeK (frnOf base [(v, l, cs), (u, l, cs)] conEq) (@ETe (frnOf base [(v, l, cs), (u, l, cs)] conEq)) 60 eshC (startS Try.f9 [works (tok 0 l c) (rooms t0), works (tok 1 l c') (rooms t0)] []) (@finK (frnOf base [(v, l, cs), (u, l, cs)] conEq) Try.prog Try.f9)) =
      bif (t0 != t0) then some (.bool false, [some [.int .i64 t0, tok 0 l c], some [.int .i64 t0, tok 1 l c'], none], true) else some (.bool true, [some [.int .i64 t0, tok 0 l c], some [.int .i64 t0, tok 1 l c'], none], true) := by kernel_rfl
theorem eqSh_calls {w : World} {v u : Value} {l : Nat} {cs : List Value} (hv : RowIn w v l cs) (hu : RowIn w u l cs) (hb : rowsB batK l cs = true) (hl : l ≤ 1048576) (t0 : Int) :
    Calls Try.prog 9 #[works v (rooms t0), works u (rooms t0)] w fun e w' => e = .returned (.bool true) ∧ Below w.heap.size w w' := by
  obtain ⟨a, c, rfl, _⟩ := id hv
  obtain ⟨a', c', rfl, _⟩ := id hu
  let ι : Frn := frnOf w.heap.size [(.slice a l c, l, cs), (.slice a' l c', l, cs)] conEq
  have hw : @FrnIn ι w := frn_in fun k v' l' cs' hk => by
    match k, hk with
    | 0, hk => cases hk; exact hv
    | 1, hk => cases hk; exact hu
  have ht : @VR ι (fun _ => none) (tok 0 l c) (.slice a l c) := tok_VR (ts := [(.slice a l c, l, cs), (.slice a' l c', l, cs)]) rfl hv
  have ht' : @VR ι (fun _ => none) (tok 1 l c') (.slice a' l c') := tok_VR (k := 1) (ts := [(.slice a l c, l, cs), (.slice a' l c', l, cs)]) rfl hu
  have hE : @EnvOk ι (@ETe ι) := @conE_ok ι _ _ _ mixed (@noExt ι _) (@orc_list ι _ _ noneROk) (conEq_ok hb hl) conEq_stab
  have he := eqSh_eval w.heap.size (.slice a l c) (.slice a' l c') l c c' cs t0
  rw [bne_self_eq_false, cond_false] at he
  refine (con_calls ι hE mixed Try.func9 esh_body esh_ok he hw (@VRL.cons ι _ _ _ _ _ (works_vr ht) (@VRL.cons ι _ _ _ _ _ (works_vr ht') (@VRL.nil ι _)))).mono fun e w' hx => ?_
  obtain ⟨y, μ', rfl, hy, hh, hbl⟩ := hx
  rw [@VR.bool_inv ι _ _ _ hy]
  exact ⟨rfl, hbl⟩

/-! ### szShelf -/
def conSz (l : Nat) (cs : List Value) (f : FuncId) : Option (List Value → Heap → Option (Value × List (List Value) × Bool)) :=
  bif Nat.beq f 12 then some fun args _ => match args with
    | [.slice (some ⟨0, 0, some 0⟩) _ _, .int .i64 left] => some (.int .i64 (szAll l cs 1048576), [], decide (left = 1048576))
    | _ => none
  else none
theorem conSz_ok {base : Nat} {v : Value} {l : Nat} {cs : List Value} (hb : rowsB batK l cs = true) (hl : l ≤ 9223372036854775807) : @ConOk (frnOf base [(v, l, cs)] (conSz l cs)) Try.prog := fun f g hf => by
  have hf : conSz l cs f = some g := hf
  unfold conSz at hf
  cases hn : Nat.beq f 12 with
  | false => rw [hn] at hf; cases hf
  | true =>
    rw [hn, cond_true, Option.some.injEq] at hf
    subst hf
    have hfe := Nat.eq_of_beq_eq_true hn
    subst hfe
    refine ⟨by kernel_rfl, fun args h q rows he μ cargs w B ha hh hB => ?_⟩
    dsimp only at he
    split at he
    · rename_i l1 c1 left
      simp only [Option.some.injEq, Prod.mk.injEq, decide_eq_true_eq] at he
      obtain ⟨rfl, rfl, rfl⟩ := he
      obtain ⟨y, ys, rfl, hy, h2⟩ := vrl_cons ha
      obtain ⟨y', ys, rfl, hy', h3⟩ := vrl_cons h2
      have : ys = [] := by
        match ys, h3 with
        | [], _ => rfl
        | _ :: _, h => exact absurd h.1 (by simp)
      subst this
      rw [@VR.int_inv (frnOf base [(v, l, cs)] (conSz l cs)) _ _ _ _ hy']
      obtain ⟨r1, _, _⟩ := tok_row (k := 0) hh hB rfl (rowsB_bare (by decide) hb) hy
      refine (szS_calls r1 hb hl).mono fun e w' hx => ?_
      obtain ⟨rfl, hbl⟩ := hx
      refine ⟨_, μ, rfl, Sub.refl μ, @VR.int (frnOf base [(v, l, cs)] (conSz l cs)) μ _ _, ?_, hbl.mono hB⟩
      rw [List.map_nil, List.append_nil]
      exact @HeapR.keep (frnOf base [(v, l, cs)] (conSz l cs)) _ _ _ _ _ hh hB hbl
    · cases he
theorem conSz_stab {base : Nat} {ts : Toks} {l : Nat} {cs : List Value} : @ConStab (frnOf base ts (conSz l cs)) := fun f g hf args h u rows k nid row he hn hfr => by
  have hf : conSz l cs f = some g := hf
  unfold conSz at hf
  cases hq : Nat.beq f 12 with
  | false => rw [hq] at hf; cases hf
  | true =>
    rw [hq, cond_true, Option.some.injEq] at hf
    subst hf
    exact he
noncomputable abbrev ETz [Frn] : Env := conE Try.prog noOrc (fun f => seek f noneR)
noncomputable def zshC : Code := (Try.f5.body.getD .skip)
theorem zsh_body : Try.f5.body = some zshC := by kernel_rfl
theorem zsh_ok : codeOk zshC = true := by kernel_rfl
def szShV (l : Nat) (cs : List Value) : Int := bif decide (szAll l cs 1048576 < 0) then -1 else szAll l cs 1048576
theorem szShV_le {l : Nat} {cs : List Value} (hl : l ≤ 9223372036854775807) (h : 0 ≤ szShV l cs) : l ≤ 1048576 := by
  refine szAll_le (cs := cs) hl ?_
  unfold szShV at h
  by_cases hn : szAll l cs 1048576 < 0
  · rw [decide_eq_true hn, cond_true] at h
    omega
  · omega
theorem szSh_eval (base : Nat) (v : Value) (l c : Nat) (cs : List Value) (t0 : Int) :
    @codeK (frnOf base [(v, l, cs)] (conSz l cs)) (@ETz (frnOf base [(v, l, cs)] (conSz l cs))) 60 zshC (startS Try.f5 [works (tok 0 l c) (rooms t0), .int .i64 1048576] []) (fun e s => (@finK (frnOf base [(v, l, cs)] (conSz l cs)) Try.prog Try.f5 e s).map eraseH) =
      bif decide (szAll l cs 1048576 < 0) then some (.int .i64 (-1), [], true) else some (.int .i64 (szAll l cs 1048576), [], true) := by kernel_rfl
theorem szSh_calls {w : World} {v : Value} {l : Nat} {cs : List Value} (hv : RowIn w v l cs) (hb : rowsB batK l cs = true) (hl : l ≤ 9223372036854775807) (t0 : Int) :
    Calls Try.prog 5 #[works v (rooms t0), .int .i64 1048576] w fun e w' => e = .returned (.int .i64 (szShV l cs)) ∧ Below w.heap.size w w' := by
  obtain ⟨a, c, rfl, _⟩ := id hv
  let ι : Frn := frnOf w.heap.size [(.slice a l c, l, cs)] (conSz l cs)
  have hw : @FrnIn ι w := frn_in fun k v' l' cs' hk => by
    match k, hk with
    | 0, hk => cases hk; exact hv
  have ht : @VR ι (fun _ => none) (tok 0 l c) (.slice a l c) := tok_VR (ts := [(.slice a l c, l, cs)]) rfl hv
  have hE : @EnvOk ι (@ETz ι) := @conE_ok ι _ _ _ mixed (@noExt ι _) (@orc_list ι _ _ noneROk) (conSz_ok hb hl) conSz_stab
  have he : (@codeK ι (@ETz ι) 60 zshC (startS Try.f5 [works (tok 0 l c) (rooms t0), .int .i64 1048576] []) (@finK ι Try.prog Try.f5)).map eraseH = some (.int .i64 (szShV l cs), [], true) := by
    rw [@codeK_map ι]
    refine (szSh_eval w.heap.size (.slice a l c) l c cs t0).trans ?_
    unfold szShV
    cases decide (szAll l cs 1048576 < 0) <;> rfl
  obtain ⟨r, hr, hr2⟩ := Option.map_eq_some_iff.1 he
  obtain ⟨x, H, k⟩ := r
  simp only [eraseH, Prod.mk.injEq] at hr2
  obtain ⟨rfl, _, rfl⟩ := hr2
  refine (con_calls ι hE mixed Try.func5 zsh_body zsh_ok hr hw (@VRL.cons ι _ _ _ _ _ (works_vr ht) (@VRL.cons ι _ _ _ _ _ (@VR.int ι _ _ _) (@VRL.nil ι _)))).mono fun e w' hx => ?_
  obtain ⟨y, μ', rfl, hy, hh, hbl⟩ := hx
  rw [@VR.int_inv ι _ _ _ _ hy]
  exact ⟨rfl, hbl⟩
end Go.Proofs.Yteelhhdadcdclaa
end
