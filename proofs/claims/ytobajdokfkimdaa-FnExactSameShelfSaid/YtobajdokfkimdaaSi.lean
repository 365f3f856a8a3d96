/-
  Shelves, as the laws hand them on: a copy is new memory with the same cells, copies are the same, and a shelf that is small enough has few pigments. No condition.
-/
import Derived.Test.YtobajdokfkimdaaSh
set_option linter.unusedSectionVars false
noncomputable section
namespace Go.Proofs.Ytobajdokfkimdaa
open Go Go.ChangeShapes Go.WideShapes Go.ChangeAt Go.RowKit Ev

/-! ### tins -/
def tinK : List CK := List.replicate 6 (.i .i32)
def idK (ck : List CK) : Sig
  | [.agg xs] => some (.agg xs, shapeB ck xs.toList)
  | _ => none
theorem idK_bare {ck : List CK} : BareSig (idK ck) := fun args v he => by
  unfold idK at he
  split at he
  · simp only [Option.some.injEq, Prod.mk.injEq] at he
    obtain ⟨rfl, h⟩ := he
    have := shape_bare h
    exact ⟨by rw [List.all_cons, List.all_nil, Bool.and_true]; exact this, this⟩
  · cases he
theorem shape_plain {ck : List CK} {xs : Array Value} (h : shapeB ck xs.toList = true) : plainB (.agg xs) = true := by
  show xs.toList.all flatB = true
  have := shape_bare h
  rw [List.all_eq_true] at this ⊢
  intro v hv
  have := this v hv
  cases v <;> first | rfl | cases this
theorem tin_form {xs : List Value} (h : shapeB tinK xs = true) : ∃ t0 t1 t2 t3 t4 t5 : Int, xs = [.int .i32 t0, .int .i32 t1, .int .i32 t2, .int .i32 t3, .int .i32 t4, .int .i32 t5] := by
  have h : shapeB [.i .i32, .i .i32, .i .i32, .i .i32, .i .i32, .i .i32] xs = true := h
  obtain ⟨t0, x1, e0, h1⟩ := shape_i h
  obtain ⟨t1, x2, e1, h2⟩ := shape_i h1
  obtain ⟨t2, x3, e2, h3⟩ := shape_i h2
  obtain ⟨t3, x4, e3, h4⟩ := shape_i h3
  obtain ⟨t4, x5, e4, h5⟩ := shape_i h4
  obtain ⟨t5, x6, e5, h6⟩ := shape_i h5
  have e6 := shape_nil h6
  subst e6 e5 e4 e3 e2 e1 e0
  exact ⟨t0, t1, t2, t3, t4, t5, rfl⟩
theorem toT_one : OrcOne Try.prog 81 (idK tinK) := by
  refine orc_one (us := [81]) (cf := 100) (d := 5) mixed (by kernel_rfl) extsOk (l0 := []) all_nil (by kernel_rfl) fun args v k he hk hx => ?_
  unfold idK at he
  split at he
  · rename_i xs
    simp only [Option.some.injEq, Prod.mk.injEq] at he
    obtain ⟨rfl, rfl⟩ := he
    refine ⟨allP (shape_plain hk) rfl, shape_plain hk, ?_⟩
    obtain ⟨t0, t1, t2, t3, t4, t5, e⟩ := tin_form hk
    have e : xs = #[.int .i32 t0, .int .i32 t1, .int .i32 t2, .int .i32 t3, .int .i32 t4, .int .i32 t5] := Array.ext' e
    subst e
    refine of_map ?_
    kernel_rfl
  · cases he
def eqK (ck : List CK) : Sig
  | [.agg xs, .agg ys] => some (.bool true, shapeB ck xs.toList && (shapeB ck ys.toList && eqVs xs.toList ys.toList))
  | _ => none
theorem eqK_bare {ck : List CK} : BareSig (eqK ck) := fun args v he => by
  unfold eqK at he
  split at he
  · simp only [Option.some.injEq, Prod.mk.injEq, Bool.and_eq_true] at he
    obtain ⟨rfl, h1, h2, _⟩ := he
    exact ⟨by rw [List.all_cons, List.all_cons, List.all_nil, Bool.and_true, Bool.and_eq_true]; exact ⟨shape_bare h1, shape_bare h2⟩, rfl⟩
  · cases he
theorem eqT_one : OrcOne Try.prog 87 (eqK tinK) := by
  refine orc_one (us := [87]) (cf := 100) (d := 5) mixed (by kernel_rfl) extsOk (l0 := []) all_nil (by kernel_rfl) fun args v k he hk hx => ?_
  unfold eqK at he
  split at he
  · rename_i xs ys
    simp only [Option.some.injEq, Prod.mk.injEq] at he
    obtain ⟨rfl, rfl⟩ := he
    rw [Bool.and_eq_true, Bool.and_eq_true] at hk
    obtain ⟨h1, h2, h3⟩ := hk
    refine ⟨allP (shape_plain h1) (allP (shape_plain h2) rfl), rfl, ?_⟩
    have hxy : ys = xs := Array.ext' (eqVs_eq h1 h2 h3).symm
    subst hxy
    obtain ⟨t0, t1, t2, t3, t4, t5, e⟩ := tin_form h1
    have e : ys = #[.int .i32 t0, .int .i32 t1, .int .i32 t2, .int .i32 t3, .int .i32 t4, .int .i32 t5] := Array.ext' e
    subst e
    refine of_funM (d := 4) (by kernel_rfl) (by kernel_rfl) ?_
    have key : funM Try.prog ext (orcOf []) [87] 100 4 87 [.agg #[.int .i32 t0, .int .i32 t1, .int .i32 t2, .int .i32 t3, .int .i32 t4, .int .i32 t5], .agg #[.int .i32 t0, .int .i32 t1, .int .i32 t2, .int .i32 t3, .int .i32 t4, .int .i32 t5]] =
        bif (t0 != t0) then some (.bool false, [], true) else bif (t1 != t1) then some (.bool false, [], true) else bif (t2 != t2) then some (.bool false, [], true) else
        bif (t3 != t3) then some (.bool false, [], true) else bif (t4 != t4) then some (.bool false, [], true) else bif (t5 != t5) then some (.bool false, [], true) else some (.bool true, [], true) := by kernel_rfl
    rw [key]
    simp only [bne_self_eq_false, cond_false]
  · cases he

/-- the tins of a shelf -/
def tins (t0 t1 t2 t3 t4 t5 : Int) : List Value := [.int .i32 t0, .int .i32 t1, .int .i32 t2, .int .i32 t3, .int .i32 t4, .int .i32 t5]
def shelf (v : Value) (ts : List Value) : Value := .agg (v :: ts).toArray
/-! ### toShelf -/
/-- the copy of a slice that came in -/
def conTo (l : Nat) (cs : List Value) (f : FuncId) : Option (List Value → Heap → Option (Value × List (List Value) × Bool)) :=
  bif Nat.beq f 80 then some fun args h => match args with
    | [.slice (some ⟨0, 0, some 0⟩) _ _] => some (loc h.length l, [cs], true)
    | _ => none
  else none
theorem conTo_ok {base : Nat} {v : Value} {l : Nat} {cs : List Value} (hb : rowsB pigK l cs = true) (hl : l ≤ 1048576) : @ConOk (frnOf base [(v, l, cs)] (conTo l cs)) Try.prog := fun f g hf => by
  have hf : conTo l cs f = some g := hf
  unfold conTo at hf
  cases hn : Nat.beq f 80 with
  | false => rw [hn] at hf; cases hf
  | true =>
    rw [hn, cond_true, Option.some.injEq] at hf
    subst hf
    have hfe := Nat.eq_of_beq_eq_true hn
    subst hfe
    refine ⟨by kernel_rfl, fun args h u rows he μ cargs w B ha hh hB => ?_⟩
    dsimp only at he
    split at he
    · rename_i l' c'
      simp only [Option.some.injEq, Prod.mk.injEq, and_true] at he
      obtain ⟨rfl, rfl⟩ := he
      obtain ⟨y, rfl, hy⟩ := @one_arg (frnOf base [(v, l, cs)] (conTo l cs)) _ _ _ ha
      obtain ⟨hrow, _, _⟩ := tok_row (k := 0) hh hB rfl (rowsB_bare (by decide) hb) hy
      refine (toS_calls hrow hb hl).mono fun e w' hx => ?_
      obtain ⟨u, rfl, hnew, hbl⟩ := hx
      obtain ⟨μ', g1, g2, g3⟩ := heap_new hh hB hbl hnew
      exact ⟨u, μ', rfl, g1, g2, g3, hbl.mono hB⟩
    · cases he
theorem conTo_stab {base : Nat} {v : Value} {l : Nat} {cs : List Value} : @ConStab (frnOf base [(v, l, cs)] (conTo l cs)) := fun f g hf args h u rows k nid row he hn hfr => by
  have hf : conTo l cs f = some g := hf
  unfold conTo at hf
  cases hq : Nat.beq f 80 with
  | false => rw [hq] at hf; cases hf
  | true =>
    rw [hq, cond_true, Option.some.injEq] at hf
    subst hf
    dsimp only at he ⊢
    rw [List.length_set]
    exact he
def orcTi : List (Nat × Sig) := [(81, idK tinK)]
theorem orcTiOk {ι : Frn} : ∀ p ∈ orcTi, @OrcOne ι Try.prog p.1 p.2 := all_cons (orc_any toT_one idK_bare) all_nil
noncomputable abbrev ETi [Frn] : Env := conE Try.prog noOrc (fun f => seek f orcTi)
noncomputable def tshC : Code := (Try.f32.body.getD .skip)
theorem tsh_body : Try.f32.body = some tshC := by kernel_rfl
theorem tsh_ok : codeOk tshC = true := by kernel_rfl
theorem toSh_eval (base : Nat) (v : Value) (l c : Nat) (cs : List Value) (t0 t1 t2 t3 t4 t5 : Int) :
    (@codeK (frnOf base [(v, l, cs)] (conTo l cs)) (@ETi (frnOf base [(v, l, cs)] (conTo l cs))) 60 tshC (startS Try.f32 [shelf (tok 0 l c) (tins t0 t1 t2 t3 t4 t5)] []) (@finK (frnOf base [(v, l, cs)] (conTo l cs)) Try.prog Try.f32)).map (fun r => (r.1, r.2.1.getD 3 none, r.2.2)) =
      some (shelf (loc 3 l) (tins t0 t1 t2 t3 t4 t5), some cs, true) := by kernel_rfl
theorem vrl_cons {ι : Frn} {μ : Nat → Option Nat} {x : Value} {xs ys : List Value} (h : @VRL ι μ (x :: xs) ys) : ∃ y ys', ys = y :: ys' ∧ @VR ι μ x y ∧ @VRL ι μ xs ys' := by
  match ys, h with
  | y :: ys', h => exact ⟨y, ys', rfl, @VRL.head ι _ _ _ _ _ h, @VRL.tail ι _ _ _ _ _ h⟩
  | [], h => exact absurd h.1 (by simp)
theorem vrl_ints {ι : Frn} {μ : Nat → Option Nat} {k : IntKind} : ∀ {ts : List Int} {ys : List Value}, @VRL ι μ (ts.map fun t => .int k t) ys → ys = ts.map fun t => .int k t
  | [], ys, h => by
    match ys, h with
    | [], _ => rfl
    | _ :: _, h => exact absurd h.1 (by simp)
  | t :: ts, ys, h => by
    obtain ⟨y, ys', rfl, h1, h2⟩ := vrl_cons h
    rw [@VR.int_inv ι _ _ _ _ h1, vrl_ints h2]; rfl
theorem ints_vrl {ι : Frn} {μ : Nat → Option Nat} {k : IntKind} : ∀ (ts : List Int), @VRL ι μ (ts.map fun t => .int k t) (ts.map fun t => .int k t)
  | [] => @VRL.nil ι μ
  | t :: ts => @VRL.cons ι μ _ _ _ _ (@VR.int ι μ k t) (ints_vrl ts)
theorem tins_vrl {ι : Frn} {μ : Nat → Option Nat} {t0 t1 t2 t3 t4 t5 : Int} : @VRL ι μ (tins t0 t1 t2 t3 t4 t5) (tins t0 t1 t2 t3 t4 t5) := ints_vrl [t0, t1, t2, t3, t4, t5]
theorem shelf_vr {ι : Frn} {μ : Nat → Option Nat} {u v : Value} {t0 t1 t2 t3 t4 t5 : Int} (h : @VR ι μ u v) : @VR ι μ (shelf u (tins t0 t1 t2 t3 t4 t5)) (shelf v (tins t0 t1 t2 t3 t4 t5)) :=
  @VR.of_agg ι μ _ _ (@VRL.cons ι μ _ _ _ _ h tins_vrl)
theorem shelf_inv {ι : Frn} {μ : Nat → Option Nat} {u y : Value} {t0 t1 t2 t3 t4 t5 : Int} (h : @VR ι μ (shelf u (tins t0 t1 t2 t3 t4 t5)) y) : ∃ v, y = shelf v (tins t0 t1 t2 t3 t4 t5) ∧ @VR ι μ u v := by
  obtain ⟨ys, rfl, hy⟩ := @VR.agg_inv ι _ _ _ h
  obtain ⟨v, ys', e, h1, h2⟩ := vrl_cons hy
  have h3 := vrl_ints (ts := [t0, t1, t2, t3, t4, t5]) h2
  refine ⟨v, ?_, h1⟩
  unfold shelf
  congr 1
  apply Array.ext'
  rw [e, h3]; rfl
theorem toSh_calls {w : World} {v : Value} {l : Nat} {cs : List Value} (hv : RowIn w v l cs) (hb : rowsB pigK l cs = true) (hl : l ≤ 1048576) (t0 t1 t2 t3 t4 t5 : Int) :
    Calls Try.prog 32 #[shelf v (tins t0 t1 t2 t3 t4 t5)] w fun e w' => ∃ u, e = .returned (shelf u (tins t0 t1 t2 t3 t4 t5)) ∧ NewRow w w' u l cs ∧ Below w.heap.size w w' := by
  obtain ⟨a, c, rfl, _⟩ := id hv
  let ι : Frn := frnOf w.heap.size [(.slice a l c, l, cs)] (conTo l cs)
  have hw : @FrnIn ι w := frn_in fun k v' l' cs' hk => by
    match k, hk with
    | 0, hk => cases hk; exact hv
  have ht : @VR ι (fun _ => none) (tok 0 l c) (.slice a l c) := tok_VR (ts := [(.slice a l c, l, cs)]) rfl hv
  have hE : @EnvOk ι (@ETi ι) := @conE_ok ι _ _ _ mixed (@noExt ι _) (@orc_list ι _ _ orcTiOk) (conTo_ok hb hl) conTo_stab
  have he := toSh_eval w.heap.size (.slice a l c) l c cs t0 t1 t2 t3 t4 t5
  obtain ⟨r, hr, hr2⟩ := Option.map_eq_some_iff.1 he
  obtain ⟨x, H, k⟩ := r
  simp only [Prod.mk.injEq] at hr2
  obtain ⟨rfl, hH, rfl⟩ := hr2
  refine (con_calls ι hE mixed Try.func32 tsh_body tsh_ok hr hw (@VRL.cons ι _ _ _ _ _ (shelf_vr ht) (@VRL.nil ι _))).mono fun e w' hx => ?_
  obtain ⟨y, μ', rfl, hy, hh, hbl⟩ := hx
  obtain ⟨u, rfl, hu⟩ := shelf_inv (u := loc 3 l) hy
  exact ⟨u, rfl, new_of (ι := ι) hu hh hH (rowsB_bare (by decide) hb), hbl⟩

/-! ### eqShelf -/
def conEq (f : FuncId) : Option (List Value → Heap → Option (Value × List (List Value) × Bool)) :=
  bif Nat.beq f 86 then some fun args _ => match args with
    | [.slice (some ⟨0, 0, some 0⟩) _ _, .slice (some ⟨1, 0, some 0⟩) _ _] => some (.bool true, [], true)
    | _ => none
  else none
theorem conEq_ok {base : Nat} {v u : Value} {l : Nat} {cs : List Value} (hb : rowsB pigK l cs = true) (hl : l ≤ 1048576) : @ConOk (frnOf base [(v, l, cs), (u, l, cs)] conEq) Try.prog := fun f g hf => by
  have hf : conEq f = some g := hf
  unfold conEq at hf
  cases hn : Nat.beq f 86 with
  | false => rw [hn] at hf; cases hf
  | true =>
    rw [hn, cond_true, Option.some.injEq] at hf
    subst hf
    have hfe := Nat.eq_of_beq_eq_true hn
    subst hfe
    refine ⟨by kernel_rfl, fun args h q rows he μ cargs w B ha hh hB => ?_⟩
    dsimp only at he
    split at he
    · rename_i l1 c1 l2 c2
      simp only [Option.some.injEq, Prod.mk.injEq, and_true] at he
      obtain ⟨rfl, rfl⟩ := he
      obtain ⟨y, ys, rfl, hy, h2⟩ := vrl_cons ha
      obtain ⟨y', ys, rfl, hy', h3⟩ := vrl_cons h2
      have : ys = [] := by
        match ys, h3 with
        | [], _ => rfl
        | _ :: _, h => exact absurd h.1 (by simp)
      subst this
      obtain ⟨r1, _, _⟩ := tok_row (k := 0) hh hB rfl (rowsB_bare (by decide) hb) hy
      obtain ⟨r2, _, _⟩ := tok_row (k := 1) hh hB rfl (rowsB_bare (by decide) hb) hy'
      refine (eqS_calls r1 r2 hb hl).mono fun e w' hx => ?_
      obtain ⟨rfl, hbl⟩ := hx
      refine ⟨_, μ, rfl, Sub.refl μ, @VR.bool (frnOf base [(v, l, cs), (u, l, cs)] conEq) μ true, ?_, hbl.mono hB⟩
      rw [List.map_nil, List.append_nil]
      exact @HeapR.keep (frnOf base [(v, l, cs), (u, l, cs)] conEq) _ _ _ _ _ hh hB hbl
    · cases he
theorem conEq_stab {base : Nat} {ts : Toks} : @ConStab (frnOf base ts conEq) := fun f g hf args h u rows k nid row he hn hfr => by
  have hf : conEq f = some g := hf
  unfold conEq at hf
  cases hq : Nat.beq f 86 with
  | false => rw [hq] at hf; cases hf
  | true =>
    rw [hq, cond_true, Option.some.injEq] at hf
    subst hf
    exact he
def orcTe : List (Nat × Sig) := [(87, eqK tinK)]
theorem orcTeOk {ι : Frn} : ∀ p ∈ orcTe, @OrcOne ι Try.prog p.1 p.2 := all_cons (orc_any eqT_one eqK_bare) all_nil
noncomputable abbrev ETe [Frn] : Env := conE Try.prog noOrc (fun f => seek f orcTe)
noncomputable def eshC : Code := (Try.f36.body.getD .skip)
def tinE (t0 t1 t2 t3 t4 t5 : Int) : Bool := (shapeB tinK (tins t0 t1 t2 t3 t4 t5) && (shapeB tinK (tins t0 t1 t2 t3 t4 t5) && eqVs (tins t0 t1 t2 t3 t4 t5) (tins t0 t1 t2 t3 t4 t5)))
theorem esh_body : Try.f36.body = some eshC := by kernel_rfl
theorem esh_ok : codeOk eshC = true := by kernel_rfl
theorem eqSh_eval (base : Nat) (v u : Value) (l c c' : Nat) (cs : List Value) (t0 t1 t2 t3 t4 t5 : Int) :
    (@codeK (frnOf base [(v, l, cs), (u, l, cs)] conEq) (@ETe (frnOf base [(v, l, cs), (u, l, cs)] conEq)) 60 eshC (startS Try.f36 [shelf (tok 0 l c) (tins t0 t1 t2 t3 t4 t5), shelf (tok 1 l c') (tins t0 t1 t2 t3 t4 t5)] []) (@finK (frnOf base [(v, l, cs), (u, l, cs)] conEq) Try.prog Try.f36)).map (fun r => (r.1, r.2.2)) =
      some (.bool true, tinE t0 t1 t2 t3 t4 t5 && true) := by kernel_rfl
theorem tinE_true (t0 t1 t2 t3 t4 t5 : Int) : tinE t0 t1 t2 t3 t4 t5 = true := by
  have h : shapeB tinK (tins t0 t1 t2 t3 t4 t5) = true := rfl
  unfold tinE
  rw [h, eqVs_self h]; rfl
theorem eqSh_calls {w : World} {v u : Value} {l : Nat} {cs : List Value} (hv : RowIn w v l cs) (hu : RowIn w u l cs) (hb : rowsB pigK l cs = true) (hl : l ≤ 1048576) (t0 t1 t2 t3 t4 t5 : Int) :
    Calls Try.prog 36 #[shelf v (tins t0 t1 t2 t3 t4 t5), shelf u (tins t0 t1 t2 t3 t4 t5)] w fun e w' => e = .returned (.bool true) ∧ Below w.heap.size w w' := by
  obtain ⟨a, c, rfl, _⟩ := id hv
  obtain ⟨a', c', rfl, _⟩ := id hu
  let ι : Frn := frnOf w.heap.size [(.slice a l c, l, cs), (.slice a' l c', l, cs)] conEq
  have hw : @FrnIn ι w := frn_in fun k v' l' cs' hk => by
    match k, hk with
    | 0, hk => cases hk; exact hv
    | 1, hk => cases hk; exact hu
  have ht : @VR ι (fun _ => none) (tok 0 l c) (.slice a l c) := tok_VR (ts := [(.slice a l c, l, cs), (.slice a' l c', l, cs)]) rfl hv
  have ht' : @VR ι (fun _ => none) (tok 1 l c') (.slice a' l c') := tok_VR (k := 1) (ts := [(.slice a l c, l, cs), (.slice a' l c', l, cs)]) rfl hu
  have hE : @EnvOk ι (@ETe ι) := @conE_ok ι _ _ _ mixed (@noExt ι _) (@orc_list ι _ _ orcTeOk) (conEq_ok hb hl) conEq_stab
  have he := eqSh_eval w.heap.size (.slice a l c) (.slice a' l c') l c c' cs t0 t1 t2 t3 t4 t5
  rw [tinE_true] at he
  obtain ⟨r, hr, hr2⟩ := Option.map_eq_some_iff.1 he
  obtain ⟨x, H, k⟩ := r
  simp only [Prod.mk.injEq] at hr2
  obtain ⟨rfl, rfl⟩ := hr2
  refine (con_calls ι hE mixed Try.func36 esh_body esh_ok hr hw (@VRL.cons ι _ _ _ _ _ (shelf_vr ht) (@VRL.cons ι _ _ _ _ _ (shelf_vr ht') (@VRL.nil ι _)))).mono fun e w' hx => ?_
  obtain ⟨y, μ', rfl, hy, hh, hbl⟩ := hx
  rw [@VR.bool_inv ι _ _ _ hy]
  exact ⟨rfl, hbl⟩

/-! ### szShelf -/
def conSz (l : Nat) (cs : List Value) (f : FuncId) : Option (List Value → Heap → Option (Value × List (List Value) × Bool)) :=
  bif Nat.beq f 77 then some fun args _ => match args with
    | [.slice (some ⟨0, 0, some 0⟩) _ _, .int .i64 left] => some (.int .i64 (szAll l cs 1048576), [], decide (left = 1048576))
    | _ => none
  else none
theorem conSz_ok {base : Nat} {v : Value} {l : Nat} {cs : List Value} (hb : rowsB pigK l cs = true) (hl : l ≤ 9223372036854775807) : @ConOk (frnOf base [(v, l, cs)] (conSz l cs)) Try.prog := fun f g hf => by
  have hf : conSz l cs f = some g := hf
  unfold conSz at hf
  cases hn : Nat.beq f 77 with
  | false => rw [hn] at hf; cases hf
  | true =>
    rw [hn, cond_true, Option.some.injEq] at hf
    subst hf
    have hfe := Nat.eq_of_beq_eq_true hn
    subst hfe
    refine ⟨by kernel_rfl, fun args h q rows he μ cargs w B ha hh hB => ?_⟩
    dsimp only at he
    split at he
    · rename_i l1 c1 left
      simp only [Option.some.injEq, Prod.mk.injEq, decide_eq_true_eq] at he
      obtain ⟨rfl, rfl, rfl⟩ := he
      obtain ⟨y, ys, rfl, hy, h2⟩ := vrl_cons ha
      obtain ⟨y', ys, rfl, hy', h3⟩ := vrl_cons h2
      have : ys = [] := by
        match ys, h3 with
        | [], _ => rfl
        | _ :: _, h => exact absurd h.1 (by simp)
      subst this
      rw [@VR.int_inv (frnOf base [(v, l, cs)] (conSz l cs)) _ _ _ _ hy']
      obtain ⟨r1, _, _⟩ := tok_row (k := 0) hh hB rfl (rowsB_bare (by decide) hb) hy
      refine (szS_calls r1 hb hl).mono fun e w' hx => ?_
      obtain ⟨rfl, hbl⟩ := hx
      refine ⟨_, μ, rfl, Sub.refl μ, @VR.int (frnOf base [(v, l, cs)] (conSz l cs)) μ _ _, ?_, hbl.mono hB⟩
      rw [List.map_nil, List.append_nil]
      exact @HeapR.keep (frnOf base [(v, l, cs)] (conSz l cs)) _ _ _ _ _ hh hB hbl
    · cases he
theorem conSz_stab {base : Nat} {ts : Toks} {l : Nat} {cs : List Value} : @ConStab (frnOf base ts (conSz l cs)) := fun f g hf args h u rows k nid row he hn hfr => by
  have hf : conSz l cs f = some g := hf
  unfold conSz at hf
  cases hq : Nat.beq f 77 with
  | false => rw [hq] at hf; cases hf
  | true =>
    rw [hq, cond_true, Option.some.injEq] at hf
    subst hf
    exact he
def noneR : List (Nat × Sig) := []
theorem noneROk {ι : Frn} : ∀ p ∈ noneR, @OrcOne ι Try.prog p.1 p.2 := all_nil
noncomputable abbrev ETz [Frn] : Env := conE Try.prog noOrc (fun f => seek f noneR)
noncomputable def zshC : Code := (Try.f30.body.getD .skip)
theorem zsh_body : Try.f30.body = some zshC := by kernel_rfl
theorem zsh_ok : codeOk zshC = true := by kernel_rfl
def szShV (l : Nat) (cs : List Value) : Int := bif decide (szAll l cs 1048576 < 0) then -1 else szAll l cs 1048576
theorem szShV_le {l : Nat} {cs : List Value} (hl : l ≤ 9223372036854775807) (h : 0 ≤ szShV l cs) : l ≤ 1048576 := by
  refine szAll_le (cs := cs) hl ?_
  unfold szShV at h
  by_cases hn : szAll l cs 1048576 < 0
  · rw [decide_eq_true hn, cond_true] at h
    omega
  · omega
theorem szSh_eval (base : Nat) (v : Value) (l c : Nat) (cs : List Value) (t0 t1 t2 t3 t4 t5 : Int) :
    @codeK (frnOf base [(v, l, cs)] (conSz l cs)) (@ETz (frnOf base [(v, l, cs)] (conSz l cs))) 60 zshC (startS Try.f30 [shelf (tok 0 l c) (tins t0 t1 t2 t3 t4 t5), .int .i64 1048576] []) (fun e s => (@finK (frnOf base [(v, l, cs)] (conSz l cs)) Try.prog Try.f30 e s).map eraseH) =
      bif decide (szAll l cs 1048576 < 0) then some (.int .i64 (-1), [], true) else some (.int .i64 (szAll l cs 1048576), [], true) := by kernel_rfl
theorem szSh_calls {w : World} {v : Value} {l : Nat} {cs : List Value} (hv : RowIn w v l cs) (hb : rowsB pigK l cs = true) (hl : l ≤ 9223372036854775807) (t0 t1 t2 t3 t4 t5 : Int) :
    Calls Try.prog 30 #[shelf v (tins t0 t1 t2 t3 t4 t5), .int .i64 1048576] w fun e w' => e = .returned (.int .i64 (szShV l cs)) ∧ Below w.heap.size w w' := by
  obtain ⟨a, c, rfl, _⟩ := id hv
  let ι : Frn := frnOf w.heap.size [(.slice a l c, l, cs)] (conSz l cs)
  have hw : @FrnIn ι w := frn_in fun k v' l' cs' hk => by
    match k, hk with
    | 0, hk => cases hk; exact hv
  have ht : @VR ι (fun _ => none) (tok 0 l c) (.slice a l c) := tok_VR (ts := [(.slice a l c, l, cs)]) rfl hv
  have hE : @EnvOk ι (@ETz ι) := @conE_ok ι _ _ _ mixed (@noExt ι _) (@orc_list ι _ _ noneROk) (conSz_ok hb hl) conSz_stab
  have he : (@codeK ι (@ETz ι) 60 zshC (startS Try.f30 [shelf (tok 0 l c) (tins t0 t1 t2 t3 t4 t5), .int .i64 1048576] []) (@finK ι Try.prog Try.f30)).map eraseH = some (.int .i64 (szShV l cs), [], true) := by
    rw [@codeK_map ι]
    refine (szSh_eval w.heap.size (.slice a l c) l c cs t0 t1 t2 t3 t4 t5).trans ?_
    unfold szShV
    cases decide (szAll l cs 1048576 < 0) <;> rfl
  obtain ⟨r, hr, hr2⟩ := Option.map_eq_some_iff.1 he
  obtain ⟨x, H, k⟩ := r
  simp only [eraseH, Prod.mk.injEq] at hr2
  obtain ⟨rfl, _, rfl⟩ := hr2
  refine (con_calls ι hE mixed Try.func30 zsh_body zsh_ok hr hw (@VRL.cons ι _ _ _ _ _ (shelf_vr ht) (@VRL.cons ι _ _ _ _ _ (@VR.int ι _ _ _) (@VRL.nil ι _)))).mono fun e w' hx => ?_
  obtain ⟨y, μ', rfl, hy, hh, hbl⟩ := hx
  rw [@VR.int_inv ι _ _ _ _ hy]
  exact ⟨rfl, hbl⟩
end Go.Proofs.Ytobajdokfkimdaa
end
