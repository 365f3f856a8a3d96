/-
  Bodies over contracts alone, slices as rows in memory ('goes_call', 'RowIn', 'frnOf'). No condition; nothing of one program stands here.
-/
import Derived.Test.YtljmhdaphpdkgaaEb
set_option linter.unusedSectionVars false
namespace Ev
noncomputable section
open Go Go.RowKit

section
variable [Frn]
/-! ### A body over contracts alone -/
/-- bodyless functions, and those that answer by their arguments alone -/
def extE (ext orc : Orc) : Orc := fun f => match ext f with
  | some g => some g
  | none => orc f
def noOrc : Orc := fun _ => none
def conE (P : Program) (ext orc : Orc) : Env := ⟨P, extE ext orc, funD P ext noOrc [] 1 1, false, true⟩
/-- contracts do not see that a new block has been laid -/
def ConStab : Prop := ∀ f g, Frn.con f = some g → ∀ args h v rows k nid row, g args h = some (v, rows, k) → nid < h.length → h.getD nid none = none → g args (h.set nid (some row)) = some (v, rows, k)
theorem funD_con {P : Program} {ext : Orc} {cf d : Nat} {f : FuncId} {args : List Value} {h : Heap} : funD P ext noOrc [] cf (d + 1) f args h = match Frn.con f with
      | some g => (match g args h with | some (v, rows, k) => some (v, h ++ rows.map some, k) | none => none)
      | none => none := rfl
theorem OrcOk.pur {P : Program} {orc : Orc} (h : OrcOk P orc) {f : FuncId} {g : List Value → Option (Value × Bool)} (e : orc f = some g) : PurOne P f g :=
  ⟨fun cargs w => body_enters (h f g e).1 cargs w, fun args v k hg hk μ cargs w ha h1 h2 => (h f g e).2 args v k hg hk μ cargs w ha ⟨h1, h2⟩⟩
theorem conE_ok {P : Program} {ext orc : Orc} (hm : P.follows .mixedOrders = true) (hext : ExtOk P ext) (horc : OrcOk P orc) (hcon : ConOk P) (hs : ConStab) : EnvOk (conE P ext orc) := by
  have h := fun_goes (us := []) (orc := noOrc) (cf := 1) hm rfl hext (fun f g e => by cases e) hcon 1
  refine ⟨fun _ => ⟨?_, fun f args hp v h' k hc => ?_⟩, fun f g e => ?_, h.call, h.enter⟩
  · intro f args hp v h' k nid row hc hn hf
    have hc : funD P ext noOrc [] 1 1 f args hp = some (v, h', k) := hc
    show funD P ext noOrc [] 1 1 f args (hp.set nid (some row)) = _
    rw [funD_con] at hc ⊢
    cases hg : Frn.con f with
    | none => rw [hg] at hc; cases hc
    | some g =>
      rw [hg] at hc
      simp only at hc ⊢
      split at hc
      · rename_i v1 rows k1 hg1
        cases hc
        rw [hs f g hg args hp _ rows _ nid row hg1 hn hf]
        simp only [Option.some.injEq, Prod.mk.injEq, true_and, and_true]
        rw [List.set_append_left _ _ hn]
      · cases hc
  · have hc : funD P ext noOrc [] 1 1 f args hp = some (v, h', k) := hc
    rw [funD_con] at hc
    cases hg : Frn.con f with
    | none => rw [hg] at hc; cases hc
    | some g =>
      rw [hg] at hc
      simp only at hc
      split at hc
      · cases hc
        exact List.take_left
      · cases hc
  · have e : extE ext orc f = some g := e
    unfold extE at e
    split at e
    · rename_i g' hx
      cases e
      exact .inl (hext f g hx)
    · exact .inr (horc.pur e)
/-- where a body leads, the function goes -/
theorem body_goes {E : Env} (hE : EnvOk E) (hm : E.P.follows .mixedOrders = true) {f : FuncId} {fn : Func} {c : Code} (h1 : E.P.funcs[f]? = some fn) (h2 : fn.body = some c) (h3 : codeOk c = true) {cf : Nat} {args : List Value} {h h' : Heap} {v : Value}
    (hr : codeK E cf c (startS fn args h) (finK E.P fn) = some (v, h', true)) {μ : Mu} {cargs : List Value} {w : World} {B : Nat} (ha : VRL μ args cargs) (hh : HeapR μ h w B) (hB : B ≤ w.heap.size) :
    Calls E.P f cargs.toArray w fun e w' => ∃ v' μ', e = .returned v' ∧ Sub μ μ' ∧ VR μ' v v' ∧ HeapR μ' h' w' B ∧ Below B w w' := by
  refine calls_of_wp h1 h2 ?_
  have fin : ∀ s a' w', Sim [] μ B w s a' w' → ∀ vs g, resAll E.P s fn.results.toList = some (vs, g) → (oneOr vs, s.heap, g && s.ok) = (v, h', true) →
      a'.defers = [] ∧ ∃ u, (results fn a'.tmps).run E.P w' = .ok u w' ∧ ∃ v' μ', Ending.returned u = .returned v' ∧ Sub μ μ' ∧ VR μ' v v' ∧ HeapR μ' h' w' B ∧ Below B w w' := by
    intro s a' w' hs vs g hres heq
    simp only [Prod.mk.injEq] at heq
    obtain ⟨rfl, rfl, hkk⟩ := heq
    simp only [Bool.and_eq_true] at hkk
    obtain ⟨μ', q⟩ := hs
    obtain ⟨cs, hcs, hvr⟩ := res_run (P := E.P) q fn.results.toList vs g hres hkk.1
    refine ⟨q.defers, _, ?_, _, μ', rfl, q.sub, oneOr_VR hvr, q.heap, q.below⟩
    rw [results_eq, Array.mapM_eq_mapM_toList, Sem.run_bind, Sem.run_map, hcs]
    rfl
  refine (code_goes (D := []) (B := B) (w0 := w) (μ0 := μ) hE hm (r := (v, h', true)) cf c (startS fn args h) (finK E.P fn) _ _ w h3 (fun e s he => ?_) hr ⟨μ, start_sim ha hh hB⟩ (fun e s he a' w' hs => ?_)).1
  · cases e <;> simp only [finK] at he
    · split at he
      · simp only [Option.some.injEq, Prod.mk.injEq] at he
        have := he.2.2
        simp only [Bool.and_eq_true] at this
        exact this.2
      · cases he
    · cases he
    · split at he
      · simp only [Option.some.injEq, Prod.mk.injEq] at he
        have := he.2.2
        simp only [Bool.and_eq_true] at this
        exact this.2
      · cases he
  · cases e with
    | normal =>
      simp only [finK] at he
      split at he
      · rename_i vs g hres
        simp only [Option.some.injEq] at he
        exact fin s a' w' hs vs g hres he
      · cases he
    | exit id => simp [finK] at he
    | ret =>
      simp only [finK] at he
      split at he
      · rename_i vs g hres
        simp only [Option.some.injEq] at he
        exact fin s a' w' hs vs g hres he
      · cases he
/-- the same, by 'Goes' -/
theorem goes_call {E : Env} (hE : EnvOk E) (hm : E.P.follows .mixedOrders = true) {f : FuncId} {fn : Func} {c : Code} (h1 : E.P.funcs[f]? = some fn) (h2 : fn.body = some c) (h3 : codeOk c = true) {N : Nat} {args : List Value} {h h' : Heap} {v : Value} {e : Ex} {s' : St}
    (hg : Goes E N c (startS fn args h) e s') (hk : finK E.P fn e s' = some (v, h', true)) {μ : Mu} {cargs : List Value} {w : World} {B : Nat} (ha : VRL μ args cargs) (hh : HeapR μ h w B) (hB : B ≤ w.heap.size) :
    Calls E.P f cargs.toArray w fun e w' => ∃ v' μ', e = .returned v' ∧ Sub μ μ' ∧ VR μ' v v' ∧ HeapR μ' h' w' B ∧ Below B w w' :=
  body_goes hE hm h1 h2 h3 (cf := N) (by rw [hg N (Nat.le_refl _)]; exact hk) ha hh hB
end

/-! ### Slices that came in, as they lie in memory -/
/-- a slice whose cells read as a row -/
def RowIn (w : World) (v : Value) (l : Nat) (cs : List Value) : Prop :=
  ∃ (a : Option Addr) (c : Nat), v = Value.slice a l c ∧ (0 < l → ∃ b o, a = some ⟨b, o, none⟩) ∧ ∀ j x, cs[j]? = some x → ∃ b o x', a = some ⟨b, o, none⟩ ∧ b < w.heap.size ∧ w.cell? ⟨b, o + j, none⟩ = some x' ∧ CanR x x'
theorem RowIn.keep {w w' : World} {v : Value} {l : Nat} {cs : List Value} (h : RowIn w v l cs) (hb : Below w.heap.size w w') : RowIn w' v l cs := by
  obtain ⟨a, c, rfl, h1, h2⟩ := h
  refine ⟨a, c, rfl, h1, fun j x hx => ?_⟩
  obtain ⟨b, o, x', e, hlt, hc, hr⟩ := h2 j x hx
  exact ⟨b, o, x', e, Nat.lt_of_lt_of_le hlt hb.size, (hb.cell (p := ⟨b, o + j, none⟩) hlt).trans hc, hr⟩
/-- tokens for slices: the slice, its length, its row -/
abbrev Toks := List (Value × Nat × List Value)
def relT (ts : Toks) (k : Nat) (v : Value) : Prop := ∃ (l : Nat) (cs : List Value), ts[k]? = some (v, l, cs) ∧ ∃ (a : Option Addr) (c : Nat), v = Value.slice a l c ∧ (0 < l → ∃ b o, a = some ⟨b, o, none⟩)
abbrev frnOf (base : Nat) (ts : Toks) (con : FuncId → Option (List Value → Heap → Option (Value × List (List Value) × Bool))) : Frn where
  rel := relT ts
  inv w := ∀ k v l cs, ts[k]? = some (v, l, cs) → ∃ (a : Option Addr) (c : Nat), v = Value.slice a l c ∧ ∀ j x, cs[j]? = some x → ∃ b o x', a = some ⟨b, o, none⟩ ∧ b < base ∧ w.cell? ⟨b, o + j, none⟩ = some x' ∧ CanT (relT ts) x x'
  base := base
  keep := fun {w w' B} hB hb hi k v l cs hk => by
    obtain ⟨a, c, rfl, h2⟩ := hi k v l cs hk
    refine ⟨a, c, rfl, fun j x hx => ?_⟩
    obtain ⟨b, o, x', e, hlt, hc, hr⟩ := h2 j x hx
    exact ⟨b, o, x', e, hlt, (hb.cell (p := ⟨b, o + j, none⟩) (Nat.lt_of_lt_of_le hlt hB)).trans hc, hr⟩
  row k := match ts[k]? with
    | some p => p.2.2
    | none => []
  cell := fun {w k l c a} hi hr j v hv => by
    obtain ⟨l', cs, hk, _⟩ := hr
    obtain ⟨a', c', e, h2⟩ := hi k _ l' cs hk
    cases e
    rw [hk] at hv
    obtain ⟨b, o, x', e, hlt, hc, hr⟩ := h2 j v hv
    exact ⟨b, o, x', e, hc, hr⟩
  addr := fun {k l c a} hr hl => by
    obtain ⟨l', cs, hk, a', c', e, h⟩ := hr
    simp only [Value.slice.injEq] at e
    obtain ⟨rfl, rfl, rfl⟩ := e
    exact h hl
  con := con
/-- the same, where tokens may stand in the row -/
def TokIn (ts : Toks) (w : World) (v : Value) (l : Nat) (cs : List Value) : Prop :=
  ∃ (a : Option Addr) (c : Nat), v = Value.slice a l c ∧ (0 < l → ∃ b o, a = some ⟨b, o, none⟩) ∧ ∀ j x, cs[j]? = some x → ∃ b o x', a = some ⟨b, o, none⟩ ∧ b < w.heap.size ∧ w.cell? ⟨b, o + j, none⟩ = some x' ∧ CanT (relT ts) x x'
theorem RowIn.tok {ts : Toks} {w : World} {v : Value} {l : Nat} {cs : List Value} (h : RowIn w v l cs) : TokIn ts w v l cs := by
  obtain ⟨a, c, rfl, h1, h2⟩ := h
  refine ⟨a, c, rfl, h1, fun j x hx => ?_⟩
  obtain ⟨b, o, x', e, hlt, hc, hr⟩ := h2 j x hx
  exact ⟨b, o, x', e, hlt, hc, .can _ _ hr⟩
theorem toks_in {w : World} {ts : Toks} {con : FuncId → Option (List Value → Heap → Option (Value × List (List Value) × Bool))} (h : ∀ (k : Nat) (v : Value) (l : Nat) (cs : List Value), ts[k]? = some (v, l, cs) → TokIn ts w v l cs) : @FrnIn (frnOf w.heap.size ts con) w :=
  ⟨Nat.le_refl _, fun k v l cs hk => by
    obtain ⟨a, c, rfl, _, h2⟩ := h k v l cs hk
    exact ⟨a, c, rfl, h2⟩⟩
theorem frn_in {w : World} {ts : Toks} {con : FuncId → Option (List Value → Heap → Option (Value × List (List Value) × Bool))} (h : ∀ (k : Nat) (v : Value) (l : Nat) (cs : List Value), ts[k]? = some (v, l, cs) → RowIn w v l cs) : @FrnIn (frnOf w.heap.size ts con) w :=
  toks_in fun k v l cs hk => (h k v l cs hk).tok
/-- a token stands for its slice -/
theorem tok_VRT {ts' : Toks} {w : World} {base : Nat} {ts : Toks} {con : FuncId → Option (List Value → Heap → Option (Value × List (List Value) × Bool))} {μ : Mu} {k l c : Nat} {v : Value} {cs : List Value} (hk : ts[k]? = some (v, l, cs)) (h : TokIn ts' w v l cs) :
    @VR (frnOf base ts con) μ (.slice (some ⟨k, 0, some 0⟩) l c) v := by
  obtain ⟨a, c', rfl, h1, _⟩ := h
  exact @VR.sliceF (frnOf base ts con) μ k l c a c' ⟨l, cs, hk, a, c', rfl, h1⟩
theorem tok_VR {w : World} {base : Nat} {ts : Toks} {con : FuncId → Option (List Value → Heap → Option (Value × List (List Value) × Bool))} {μ : Mu} {k l c : Nat} {v : Value} {cs : List Value} (hk : ts[k]? = some (v, l, cs)) (h : RowIn w v l cs) :
    @VR (frnOf base ts con) μ (.slice (some ⟨k, 0, some 0⟩) l c) v := tok_VRT (ts' := []) hk h.tok
/-- a pointer into what came in -/
theorem ptr_VR {base : Nat} {ts : Toks} {con : FuncId → Option (List Value → Heap → Option (Value × List (List Value) × Bool))} {μ : Mu} {k o l c b o' : Nat} {cs : List Value} (hk : ts[k]? = some (.slice (some ⟨b, o', none⟩) l c, l, cs)) :
    @VR (frnOf base ts con) μ (.pointer (some ⟨k, o, some 0⟩)) (.pointer (some ⟨b, o' + o, none⟩)) :=
  @VR.ptrF (frnOf base ts con) μ k o l c b o' ⟨l, cs, hk, _, _, rfl, fun _ => ⟨b, o', rfl⟩⟩
/-- plain values without tokens -/
def bareC : Value → Bool
  | .bool _ | .int _ _ | .string _ | .float _ _ => true
  | _ => false
theorem bare_can {ι : Frn} {μ : Mu} {x y : Value} (h : @VR ι μ x y) (hb : bareC x = true) : CanR x y := by
  cases h with
  | bool b => exact .bool b
  | int k n => exact .int k n
  | string s => exact .string s
  | float k a x h => exact .float k a x h
  | _ => cases hb
theorem can_VR {ι : Frn} {μ : Mu} {x y : Value} (h : CanR x y) : @VR ι μ x y := by
  cases h with
  | bool b => exact .bool b
  | int k n => exact .int k n
  | string s => exact .string s
  | float k a x h => exact .float k a x h
/-- a local slice, as it lies in memory -/
theorem local_row {ι : Frn} {μ : Mu} {h : Heap} {w : World} {B : Nat} (hh : @HeapR ι μ h w B) {b o l c : Nat} {v : Value} {cs : List Value} (hv : @VR ι μ (.slice (some ⟨b, o, none⟩) l c) v) (hr : h.getD b none = some cs) (hb : cs.all bareC = true) :
    RowIn w v l (cs.drop o) := by
  cases hv with
  | slice b o b' l c c' hμ hcap =>
    obtain ⟨b2, cs', T, h1, h2, h3, h4⟩ := hh.dom b cs hr
    rw [hμ] at h1
    cases h1
    refine ⟨some ⟨b', o, none⟩, c', rfl, fun _ => ⟨b', o, rfl⟩, fun j x hx => ?_⟩
    rw [List.getElem?_drop] at hx
    have hl : o + j < cs.length := (List.getElem?_eq_some_iff.1 hx).1
    have hl' : o + j < cs'.toList.length := Nat.lt_of_lt_of_le hl (row_len h4)
    have hy : cs'.toList[o + j]? = some cs'.toList[o + j] := List.getElem?_eq_getElem hl'
    have hyt : (cs'.toList.take cs.length)[o + j]? = some cs'.toList[o + j] := by rw [List.getElem?_take_of_lt hl]; exact hy
    refine ⟨b', o, cs'.toList[o + j], rfl, ?_, ?_, bare_can (h4.2 (o + j) x _ hx hyt) (List.all_eq_true.1 hb x (List.mem_of_getElem? hx))⟩
    · rcases Nat.lt_or_ge b' w.heap.size with hlt | hge
      · exact hlt
      · simp [hge] at h3
    · simp only [World.cell?, h3]
      simp at hy ⊢
end
end Ev
namespace Ev
noncomputable section
open Go Go.RowKit
/-! ### rows of records -/
/-- the kinds of cells -/
inductive CK where
  | s
  | f (k : FloatKind)
  | i (k : IntKind)
  | b
def CK.ok : CK → Value → Bool
  | .s, .string _ => true
  | .f k, .float k' _ => sameK k k'
  | .i k, .int k' _ => decide (k = k')
  | .b, .bool _ => true
  | _, _ => false
def shapeB : List CK → List Value → Bool
  | [], [] => true
  | c :: r, v :: s => c.ok v && shapeB r s
  | _, _ => false
theorem shape_len : ∀ {cs : List CK} {vs : List Value}, shapeB cs vs = true → vs.length = cs.length
  | [], [], _ => rfl
  | c :: r, v :: s, h => by
    rw [shapeB, Bool.and_eq_true] at h
    rw [List.length_cons, List.length_cons, shape_len h.2]
  | [], _ :: _, h => by cases h
  | _ :: _, [], h => by cases h
theorem shape_s {r : List CK} {vs : List Value} (h : shapeB (.s :: r) vs = true) : ∃ s ys, vs = .string s :: ys ∧ shapeB r ys = true := by
  match vs, h with
  | v :: ys, h =>
    rw [shapeB, Bool.and_eq_true] at h
    cases v with
    | string s => exact ⟨s, ys, rfl, h.2⟩
    | _ => cases h.1
theorem shape_i {k : IntKind} {r : List CK} {vs : List Value} (h : shapeB (.i k :: r) vs = true) : ∃ z ys, vs = .int k z :: ys ∧ shapeB r ys = true := by
  match vs, h with
  | v :: ys, h =>
    rw [shapeB, Bool.and_eq_true] at h
    cases v with
    | int k' z =>
      have : k = k' := of_decide_eq_true h.1
      exact ⟨z, ys, by rw [this], h.2⟩
    | _ => cases h.1
theorem shape_f {k : FloatKind} {r : List CK} {vs : List Value} (h : shapeB (.f k :: r) vs = true) : ∃ a ys, vs = .float k a :: ys ∧ shapeB r ys = true := by
  match vs, h with
  | v :: ys, h =>
    rw [shapeB, Bool.and_eq_true] at h
    cases v with
    | float k' a =>
      have : k = k' := by
        have h1 := h.1
        cases k <;> cases k' <;> first | rfl | cases h1
      exact ⟨a, ys, by rw [this], h.2⟩
    | _ => cases h.1
theorem shape_nil {vs : List Value} (h : shapeB [] vs = true) : vs = [] := by
  match vs, h with
  | [], _ => rfl
  | _ :: _, h => cases h
theorem shape_fl {k : FloatKind} {r : List CK} : ∀ {n : Nat} {vs : List Value}, shapeB (List.replicate n (.f k) ++ r) vs = true → ∃ (l : List Nat) (ys : List Value), vs = fl k l ++ ys ∧ l.length = n ∧ shapeB r ys = true
  | 0, vs, h => ⟨[], vs, rfl, rfl, h⟩
  | n + 1, vs, h => by
    obtain ⟨a, ys, rfl, h2⟩ := shape_f h
    obtain ⟨l, zs, rfl, hl, h3⟩ := shape_fl h2
    exact ⟨a :: l, zs, rfl, by rw [List.length_cons, hl], h3⟩
theorem shape_bare : ∀ {cs : List CK} {vs : List Value}, shapeB cs vs = true → vs.all bareC = true
  | [], [], _ => rfl
  | c :: r, v :: s, h => by
    rw [shapeB, Bool.and_eq_true] at h
    rw [List.all_cons, shape_bare h.2, Bool.and_true]
    have h1 := h.1
    cases c <;> cases v <;> first | rfl | cases h1
  | [], _ :: _, h => by cases h
  | _ :: _, [], h => by cases h
theorem bare_scalar {vs : List Value} (h : vs.all bareC = true) : vs.all scalarB = true := by
  rw [List.all_eq_true] at h ⊢
  intro v hv
  have := h v hv
  cases v <;> first | rfl | cases this
/-- the element with a number -/
def recAt (m : Nat) (cs : List Value) (i : Nat) : List Value := (cs.drop (i * m)).take m
/-- a row of 'l' records -/
def rowsB (ck : List CK) (l : Nat) (cs : List Value) : Bool := Nat.beq cs.length (l * ck.length) && (List.range l).all fun i => shapeB ck (recAt ck.length cs i)
theorem rowsB_len {ck : List CK} {l : Nat} {cs : List Value} (h : rowsB ck l cs = true) : cs.length = l * ck.length := by
  rw [rowsB, Bool.and_eq_true] at h
  exact Nat.eq_of_beq_eq_true h.1
theorem rowsB_nil {ck : List CK} {l : Nat} {cs : List Value} (h : rowsB ck l cs = true) (h0 : 0 < ck.length) (he : cs = []) : l = 0 := by
  have := rowsB_len h
  subst he
  rcases Nat.eq_zero_or_pos l with e | e
  · exact e
  · have := Nat.mul_pos e h0
    simp at *
    omega
theorem rowsB_at {ck : List CK} {l : Nat} {cs : List Value} (h : rowsB ck l cs = true) {i : Nat} (hi : i < l) : shapeB ck (recAt ck.length cs i) = true := by
  rw [rowsB, Bool.and_eq_true] at h
  exact List.all_eq_true.1 h.2 i (List.mem_range.2 hi)
theorem rowsB_bare {ck : List CK} (hk : 0 < ck.length) {l : Nat} {cs : List Value} (h : rowsB ck l cs = true) : cs.all bareC = true := by
  rw [List.all_eq_true]
  intro v hv
  obtain ⟨j, hj⟩ := List.mem_iff_getElem?.1 hv
  have hl := rowsB_len h
  have hlt : j < cs.length := (List.getElem?_eq_some_iff.1 hj).1
  have hd : j / ck.length < l := Nat.div_lt_of_lt_mul (by rw [Nat.mul_comm]; omega)
  have hs := shape_bare (rowsB_at h hd)
  refine List.all_eq_true.1 hs v (List.mem_iff_getElem?.2 ⟨j % ck.length, ?_⟩)
  unfold recAt
  rw [List.getElem?_take_of_lt (Nat.mod_lt _ hk), List.getElem?_drop, Nat.mul_comm, Nat.div_add_mod]
  exact hj
/-- the first records are laid, behind them what was there -/
def laidRow (m : Nat) (cs zs : List Value) (i : Nat) : List Value := cs.take (i * m) ++ zs.drop (i * m)
theorem laid_start (m : Nat) (cs zs : List Value) : laidRow m cs zs 0 = zs := by simp [laidRow]
theorem laid_end {m l : Nat} {cs zs : List Value} (h1 : cs.length = l * m) (h2 : zs.length = l * m) : laidRow m cs zs l = cs := by
  unfold laidRow
  rw [List.take_of_length_le (by omega), List.drop_of_length_le (by omega), List.append_nil]
theorem laid_len {m l i : Nat} {cs zs : List Value} (h1 : cs.length = l * m) (h2 : zs.length = l * m) (hi : i ≤ l) : (laidRow m cs zs i).length = l * m := by
  have : i * m ≤ l * m := Nat.mul_le_mul_right m hi
  unfold laidRow
  rw [List.length_append, List.length_take, List.length_drop]
  omega
theorem rec_len {m l i : Nat} {cs : List Value} (h1 : cs.length = l * m) (hi : i < l) : (recAt m cs i).length = m := by
  have : (i + 1) * m ≤ l * m := Nat.mul_le_mul_right m hi
  rw [Nat.succ_mul] at this
  unfold recAt
  rw [List.length_take, List.length_drop]
  omega
theorem laid_step {m l i : Nat} {cs zs : List Value} (h1 : cs.length = l * m) (h2 : zs.length = l * m) (hi : i < l) : setRow (laidRow m cs zs i) (0 + i * m) (recAt m cs i) = laidRow m cs zs (i + 1) := by
  have e1 := rec_len h1 hi
  have h3 : (i + 1) * m ≤ l * m := Nat.mul_le_mul_right m hi
  have h4 : (i + 1) * m = i * m + m := Nat.succ_mul i m
  have hc : (cs.take (i * m)).length = i * m := by rw [List.length_take]; omega
  unfold setRow
  rw [e1, Nat.zero_add]
  unfold laidRow recAt
  rw [List.take_append_of_le_length (by omega), List.take_take, Nat.min_self, List.drop_append, hc, List.drop_of_length_le (l := cs.take (i * m)) (by omega), List.nil_append, List.drop_drop, h4]
  rw [show i * m + (i * m + m - i * m) = i * m + m by omega]
  rw [← List.take_append_drop (i * m) (cs.take (i * m + m)), List.take_take, Nat.min_eq_left (by omega), List.drop_take, show i * m + m - i * m = m by omega]
end
end Ev
namespace Ev
noncomputable section
open Go Go.RowKit
section
variable [Frn]
/-- a loop over all numbers below 'l'; what is not told of a state may change -/
theorem Goes.upto {E : Env} {N id l : Nat} {a : Code} {α : Type} {T : Nat → α → St} (step : ∀ i j, i < l → ∃ j', Goes E N a (T i j) .normal (T (i + 1) j')) (stop : ∀ j, ∃ j', Goes E N a (T l j) (.exit id) (T l j')) :
    ∀ (n i : Nat) (j : α), i + n = l → ∃ j', Goes E (N + n + 1) (.loop a) (T i j) (.exit id) (T l j')
  | 0, i, j, h => by
    have : i = l := by omega
    subst this
    obtain ⟨j', k⟩ := stop j
    exact ⟨j', (Goes.loopX k).more (by omega)⟩
  | n + 1, i, j, h => by
    obtain ⟨j1, k1⟩ := step i j (by omega)
    obtain ⟨j', k2⟩ := Goes.upto step stop n (i + 1) j1 (by omega)
    exact ⟨j', (Goes.loop (k1.more (show N ≤ N + n + 1 by omega)) k2).more (by omega)⟩
theorem Goes.regK {E : Env} {N : Nat} {c : Code} {s s' : St} {k : Bool} (h : regionOf E c s = some ⟨s'.tmps, s'.heap, k⟩) (hk : k = s'.ok) : Goes E (N + 1) c s .normal s' := by
  subst hk
  exact Goes.reg h
end
theorem wrap_in {z : Int} (h0 : -9223372036854775808 ≤ z) (h1 : z ≤ 9223372036854775807) : IntKind.i64.wrap z = z := by
  rw [IntKind.wrap_i64]; omega
theorem inB_true {i l : Nat} (h : i < l) : inB (i : Int) l = true := by
  unfold inB
  rw [Bool.and_eq_true]
  exact ⟨decide_eq_true (by omega), decide_eq_true (by omega)⟩
theorem ble_of {a b : Nat} (h : a ≤ b) : Nat.ble a b = true := Nat.ble_eq_true_of_le h
/-- new memory with the cells of a row -/
def NewRow (w w' : World) (v : Value) (l : Nat) (cs : List Value) : Prop :=
  ∃ (b c : Nat) (cs' : Array Value) (T : TypeId), v = .slice (some ⟨b, 0, none⟩) l c ∧ w.heap.size ≤ b ∧ w'.heap[b]? = some (.cells cs' T (0, 0)) ∧ cs.length ≤ cs'.toList.length ∧ (l = c ∨ (0 < l ∧ l ≤ c ∧ c ≤ maxLen ∧ ∃ s, cs'.size = c * s ∧ cs.length = l * s)) ∧ ∀ (j : Nat) x y, cs[j]? = some x → cs'.toList[j]? = some y → CanR x y
theorem NewRow.row {w w' : World} {v : Value} {l : Nat} {cs : List Value} (h : NewRow w w' v l cs) : RowIn w' v l cs := by
  obtain ⟨b, c, cs', T, rfl, hb, hc, hl, _, hr⟩ := h
  refine ⟨_, c, rfl, fun _ => ⟨b, 0, rfl⟩, fun j x hx => ?_⟩
  have hlt : j < cs.length := (List.getElem?_eq_some_iff.1 hx).1
  have hy : cs'.toList[j]? = some cs'.toList[j] := List.getElem?_eq_getElem (by omega)
  refine ⟨b, 0, cs'.toList[j], rfl, ?_, ?_, hr j x _ hx hy⟩
  · rcases Nat.lt_or_ge b w'.heap.size with h | h
    · exact h
    · simp [h] at hc
  · simp only [World.cell?, hc, Nat.zero_add]
    simp at hy ⊢
/-- a new row, out of a run from nothing -/
theorem new_of {ι : Frn} {μ : Mu} {h : Heap} {w w' : World} {v : Value} {b l : Nat} {cs : List Value} (hv : @VR ι μ (.slice (some ⟨b, 0, none⟩) l l) v) (hh : @HeapR ι μ h w' w.heap.size) (hr : h.getD b none = some cs) (hb : cs.all bareC = true) (hl : cs = [] → l = 0) : NewRow w w' v l cs := by
  cases hv with
  | slice b o b' l c c' hμ hcap =>
    obtain ⟨b2, cs', T, h1, h2, h3, h4⟩ := hh.dom b cs hr
    rw [hμ] at h1
    cases h1
    refine ⟨b', c', cs', T, rfl, h2, h3, row_len h4, ?_, fun j x y hx hy => bare_can (h4.2 j x y hx ?_) (List.all_eq_true.1 hb x (List.mem_of_getElem? hx))⟩
    · rcases hcap with e | ⟨h0, hle, k, s, k1, k2, k3, k4⟩
      · exact .inl e
      · have hk : k = 0 := by
          rcases k4 with k4 | k4
          · exact absurd k4 (Nat.lt_irrefl _)
          · exact k4
        subst hk
        obtain ⟨q1, q2⟩ := hh.size b cs b' cs' T hr hμ h3
        rcases q2 with q2 | q2
        · exact absurd (hl q2) (by omega)
        · exact .inr ⟨h0, hle, k2, s, q1.trans k1, q2.trans k3⟩
    · rw [List.getElem?_take_of_lt (List.getElem?_eq_some_iff.1 hx).1]; exact hy
end
end Ev
namespace Ev
noncomputable section
open Go Go.RowKit
/-! ### contracts over values without tokens hold whatever came in -/
def bareA : Value → Bool
  | .agg cs => cs.toList.all bareC
  | v => bareC v
def bareP : Value → Bool
  | .tuple cs => cs.toList.all bareA
  | v => bareA v
theorem bareA_VR {ι ι' : Frn} {μ μ' : Mu} {x y : Value} (h : @VR ι μ x y) (hb : bareA x = true) : @VR ι' μ' x y := by
  cases h with
  | bool b => exact .bool b
  | int k n => exact .int k n
  | string s => exact .string s
  | float k a x h => exact .float k a x h
  | agg xs ys h1 h2 => exact @VR.agg ι' μ' _ _ h1 fun i a b ha hc => can_VR (bare_can (h2 i a b ha hc) (List.all_eq_true.1 hb a (List.mem_of_getElem? ha)))
  | _ => cases hb
theorem bareP_VR {ι ι' : Frn} {μ μ' : Mu} {x y : Value} (h : @VR ι μ x y) (hb : bareP x = true) : @VR ι' μ' x y := by
  cases h with
  | bool b => exact .bool b
  | int k n => exact .int k n
  | string s => exact .string s
  | float k a x h => exact .float k a x h
  | agg xs ys h1 h2 => exact @VR.agg ι' μ' _ _ h1 fun i a b ha hc => can_VR (bare_can (h2 i a b ha hc) (List.all_eq_true.1 hb a (List.mem_of_getElem? ha)))
  | tuple xs ys h1 h2 => exact @VR.tuple ι' μ' _ _ h1 fun i a b ha hc => bareA_VR (h2 i a b ha hc) (List.all_eq_true.1 hb a (List.mem_of_getElem? ha))
  | _ => cases hb
theorem bareP_VRL {ι ι' : Frn} {μ μ' : Mu} {xs ys : List Value} (h : @VRL ι μ xs ys) (hb : xs.all bareP = true) : @VRL ι' μ' xs ys :=
  ⟨h.1, fun i a b ha hc => bareP_VR (h.2 i a b ha hc) (List.all_eq_true.1 hb a (List.mem_of_getElem? ha))⟩
def BareSig (g : Sig) : Prop := ∀ args v, g args = some (v, true) → args.all bareP = true ∧ bareP v = true
theorem orc_any {ι : Frn} {P : Program} {f : Nat} {g : Sig} (h : @OrcOne noFrn P f g) (hb : BareSig g) : @OrcOne ι P f g := by
  refine ⟨h.1, fun args v k he hk μ cargs w ha hw => ?_⟩
  subst hk
  obtain ⟨b1, b2⟩ := hb args v he
  refine (h.2 args v true he rfl Mu.nil cargs w (bareP_VRL ha b1) (noIn w)).mono fun e w' hx => ?_
  obtain ⟨v', h1, h2, h3⟩ := hx
  exact ⟨v', h1, bareP_VR h2 b2, h3⟩
theorem noExt {ι : Frn} {P : Program} : @ExtOk ι P noOrc := fun f g e => by cases e
theorem fl_bare {k : FloatKind} {l : List Nat} : (fl k l).all bareC = true := by
  rw [List.all_eq_true]
  intro v hv
  unfold fl at hv
  obtain ⟨b, _, rfl⟩ := List.mem_map.1 hv
  rfl
end
end Ev
namespace Ev
noncomputable section
open Go Go.RowKit
theorem heap_new {ι : Frn} {μ : Mu} {h : Heap} {w w' : World} {B : Nat} {v : Value} {l : Nat} {cs : List Value} (hh : @HeapR ι μ h w B) (hB : B ≤ w.heap.size) (hb : Below w.heap.size w w') (hn : NewRow w w' v l cs) :
    ∃ μ', Sub μ μ' ∧ @VR ι μ' (.slice (some ⟨h.length, 0, none⟩) l l) v ∧ @HeapR ι μ' (h ++ [some cs]) w' B := by
  obtain ⟨b, c0, cs', T, rfl, hle, hc, hlen, hcap, hr⟩ := hn
  have hnone : h.getD h.length none = none := by rw [List.getD_eq_getElem?_getD, List.getElem?_eq_none (Nat.le_refl _)]; rfl
  have hμ := hh.non _ hnone
  have hs : Sub μ (upd μ h.length b cs.length cs'.size) := sub_upd hμ fun y e => absurd (hh.lt e) (Nat.not_lt_of_le hle)
  have hg : ∀ c, c ≠ h.length → (h ++ [some cs]).getD c none = h.getD c none := fun c hne => by
    rw [List.getD_eq_getElem?_getD, List.getD_eq_getElem?_getD]
    rcases Nat.lt_or_ge c h.length with hlt | hge
    · rw [List.getElem?_append_left hlt]
    · rw [List.getElem?_append_right hge, List.getElem?_eq_none (l := h) hge, List.getElem?_eq_none (by simp; omega)]
  have hself : (h ++ [some cs]).getD h.length none = some cs := by
    rw [List.getD_eq_getElem?_getD, List.getElem?_append_right (Nat.le_refl _), Nat.sub_self]; rfl
  have hk := hh.keep hB hb
  have hcr : CapR (upd μ h.length b cs.length cs'.size) h.length b 0 l c0 := by
    rcases hcap with e | ⟨h0, hl1, hl2, s, s1, s2⟩
    · exact .inl e
    · refine .inr ⟨h0, hl1, 0, s, ?_, hl2, ?_, .inr rfl⟩
      · show (if b = b then cs'.size else _) = _
        rw [if_pos rfl]; exact s1
      · show (if h.length = h.length then cs.length else _) = _
        rw [if_pos rfl]; exact s2
  refine ⟨upd μ h.length b cs.length cs'.size, hs, .slice _ _ _ _ _ _ upd_self ?_, ⟨fun c ds e => ?_, fun c ds b' ds' T' e e1 e2 => ?_, hk.base, hk.inv, fun c e => ?_, fun b1 b2 x d1 d2 e1 e2 => ?_⟩⟩
  · exact hcr
  · by_cases hcn : c = h.length
    · subst hcn
      rw [hself] at e
      cases e
      exact ⟨b, cs', T, upd_self, Nat.le_trans hB hle, hc, by rw [List.length_take]; omega, fun i x y hx hy => can_VR (hr i x y hx (by rw [List.getElem?_take_of_lt (List.getElem?_eq_some_iff.1 hx).1] at hy; exact hy))⟩
    · rw [hg c hcn] at e
      obtain ⟨b', ds', T', g1, g2, g3, g4⟩ := hk.dom c ds e
      exact ⟨b', ds', T', (hs _ _ g1).1, g2, g3, g4.mono hs⟩
  · by_cases hcn : c = h.length
    · subst hcn
      rw [hself] at e
      cases e
      rw [upd_self] at e1
      cases e1
      rw [hc] at e2
      cases e2
      refine ⟨?_, .inr ?_⟩
      · show _ = (if b = b then cs'.size else _)
        rw [if_pos rfl]
      · show _ = (if h.length = h.length then cs.length else _)
        rw [if_pos rfl]
    · rw [hg c hcn] at e
      rw [upd_f, if_neg hcn] at e1
      obtain ⟨_, q2, q3⟩ := hs _ _ e1
      rw [q2, q3]
      exact hk.size c ds b' ds' T' e e1 e2
  · by_cases hcn : c = h.length
    · subst hcn; rw [hself] at e; cases e
    · rw [hg c hcn] at e
      rw [upd_f, if_neg hcn]
      exact hk.non c e
  · rw [upd_f] at e1 e2
    have low : ∀ y z, μ y = some z → z < w.heap.size := fun y z e => hh.lt e
    split at e1
    · rename_i q1
      split at e2
      · rename_i q2; rw [q1, q2]
      · cases e1; have := low _ _ e2; omega
    · split at e2
      · cases e2; have := low _ _ e1; omega
      · rename_i n1 n2
        rw [hg b1 n1] at d1
        rw [hg b2 n2] at d2
        exact hk.inj b1 b2 x d1 d2 e1 e2
theorem can_of_tok {R : Nat → Value → Prop} {x y : Value} (h : CanT R x y) (hb : bareC x = true) : CanR x y := by
  cases h with
  | can _ _ h => exact h
  | tok => cases hb
/-- a token's slice, as it lies in memory now -/
theorem tok_row {base : Nat} {ts : Toks} {con : FuncId → Option (List Value → Heap → Option (Value × List (List Value) × Bool))} {μ : Mu} {h : Heap} {w : World} {B : Nat} (hh : @HeapR (frnOf base ts con) μ h w B) (hB : B ≤ w.heap.size) {k l l' c : Nat} {v u : Value} {cs : List Value} (hk : ts[k]? = some (v, l, cs))
    (hbare : cs.all bareC = true) (hv : @VR (frnOf base ts con) μ (.slice (some ⟨k, 0, some 0⟩) l' c) u) : RowIn w u l cs ∧ l' = l ∧ u = v := by
  cases hv with
  | sliceF k l' c a c' hr =>
    obtain ⟨l2, cs2, hk2, a2, c2, e, hp⟩ := hr
    rw [hk] at hk2
    cases hk2
    cases e
    have hi : @Frn.inv (frnOf base ts con) w := @HeapR.inv (frnOf base ts con) _ _ _ _ hh
    have hbs : base ≤ B := @HeapR.base (frnOf base ts con) _ _ _ _ hh
    obtain ⟨a3, c3, e3, hin⟩ := hi k _ _ _ hk
    cases e3
    refine ⟨⟨_, _, rfl, hp, fun j x hx => ?_⟩, rfl, rfl⟩
    obtain ⟨b, o, x', e, hlt, hc, hr⟩ := hin j x hx
    exact ⟨b, o, x', e, Nat.lt_of_lt_of_le hlt (Nat.le_trans hbs hB), hc, can_of_tok hr (List.all_eq_true.1 hbare x (List.mem_of_getElem? hx))⟩
end
end Ev
namespace Ev
noncomputable section
open Go Go.RowKit
/-- a body over contracts that answers, called from nothing -/
theorem con_calls (ι : Frn) {P : Program} {orc : Orc} (hE : @EnvOk ι (@conE ι P noOrc orc)) (hm : P.follows .mixedOrders = true) {f : FuncId} {fn : Func} {c : Code} (h1 : P.funcs[f]? = some fn) (h2 : fn.body = some c) (h3 : codeOk c = true) {cf : Nat} {args : List Value} {h' : Heap} {v : Value}
    (hr : @codeK ι (@conE ι P noOrc orc) cf c (startS fn args []) (@finK ι P fn) = some (v, h', true)) {cargs : List Value} {w : World} (hw : @FrnIn ι w) (ha : @VRL ι Mu.nil args cargs) :
    Calls P f cargs.toArray w fun e w' => ∃ v' μ', e = .returned v' ∧ @VR ι μ' v v' ∧ @HeapR ι μ' h' w' w.heap.size ∧ Below w.heap.size w w' := by
  refine (@body_goes ι (@conE ι P noOrc orc) hE hm f fn c h1 h2 h3 cf args [] h' v hr Mu.nil cargs w w.heap.size ha (@HeapR.start ι w hw) (Nat.le_refl _)).mono fun e w' hx => ?_
  obtain ⟨v', μ', h1, _, h3, h4, h5⟩ := hx
  exact ⟨v', μ', h1, h3, h4, h5⟩
end
end Ev
namespace Ev
noncomputable section
open Go Go.RowKit
/-! ### what is related does not hang on the contracts -/
section
variable {base : Nat} {ts : Toks} {c1 c2 : FuncId → Option (List Value → Heap → Option (Value × List (List Value) × Bool))} {μ : Mu}
theorem VR_con {x y : Value} (h : @VR (frnOf base ts c1) μ x y) : @VR (frnOf base ts c2) μ x y := by
  induction h with
  | bool b => exact @VR.bool (frnOf base ts c2) μ b
  | int k n => exact @VR.int (frnOf base ts c2) μ k n
  | string s => exact @VR.string (frnOf base ts c2) μ s
  | float k a x h => exact @VR.float (frnOf base ts c2) μ k a x h
  | ptrNil => exact @VR.ptrNil (frnOf base ts c2) μ
  | ptr b o b' h => exact @VR.ptr (frnOf base ts c2) μ b o b' h
  | sliceNil l c => exact @VR.sliceNil (frnOf base ts c2) μ l c
  | slice b o b' l c c' h hc => exact @VR.slice (frnOf base ts c2) μ b o b' l c c' h hc
  | sliceF k l c a c' h => exact @VR.sliceF (frnOf base ts c2) μ k l c a c' h
  | sliceP k o l c a c' hc h => exact @VR.sliceP (frnOf base ts c2) μ k o l c a c' hc h
  | ptrF k o l c b o' h => exact @VR.ptrF (frnOf base ts c2) μ k o l c b o' h
  | func fn f f' c c' h1 _ h3 _ i2 i4 => exact @VR.func (frnOf base ts c2) μ fn f f' c c' h1 i2 h3 i4
  | nilFunc => exact @VR.nilFunc (frnOf base ts c2) μ
  | nilIface => exact @VR.nilIface (frnOf base ts c2) μ
  | mapNil => exact @VR.mapNil (frnOf base ts c2) μ
  | junk v h => exact @VR.junk (frnOf base ts c2) μ v h
  | iface t => exact @VR.iface (frnOf base ts c2) μ t
  | agg xs ys h1 _ i2 => exact @VR.agg (frnOf base ts c2) μ xs ys h1 i2
  | tuple xs ys h1 _ i2 => exact @VR.tuple (frnOf base ts c2) μ xs ys h1 i2
theorem VRL_con {x y : List Value} (h : @VRL (frnOf base ts c1) μ x y) : @VRL (frnOf base ts c2) μ x y := ⟨h.1, fun i a b ha hb => VR_con (h.2 i a b ha hb)⟩
theorem HeapR_con {h : Heap} {w : World} {B : Nat} (hh : @HeapR (frnOf base ts c1) μ h w B) : @HeapR (frnOf base ts c2) μ h w B := by
  obtain ⟨h1, h2, h3, h4, h5, h6⟩ := hh
  refine @HeapR.mk (frnOf base ts c2) μ h w B (fun c ds e => ?_) h2 h3 h4 h5 h6
  obtain ⟨b', cs', T, g1, g2, g3, g4⟩ := h1 c ds e
  exact ⟨b', cs', T, g1, g2, g3, VRL_con g4⟩
end
/-- a call that keeps what was there, out of an evaluation: blocks of its own are left out -/
theorem keep_call {ι : Frn} {P : Program} {call : CallD} (hE : @CallOk ι P call) {f : FuncId} {args : List Value} {H h' : Heap} {V : Value} (he : call f args H = some (V, h', true)) (ht : h'.take H.length = H) (hl : lowH H.length H = true)
    {μ : Mu} {cargs : List Value} {w : World} {B : Nat} (ha : @VRL ι μ args cargs) (hh : @HeapR ι μ H w B) (hB : B ≤ w.heap.size) :
    Calls P f cargs.toArray w fun e w' => ∃ v' μ' μ2, e = .returned v' ∧ @VR ι μ' V v' ∧ Sub μ μ2 ∧ @HeapR ι μ2 H w' B ∧ Below B w w' := by
  refine (hE _ _ _ _ _ _ he rfl μ cargs w B ha hh hB).mono fun e w' hx => ?_
  obtain ⟨v', μ', rfl, hs, hv, hk, hb⟩ := hx
  have h2 : @HeapR ι (cutM H.length μ') (h'.take H.length) w' B := @cut_heap ι _ _ _ _ _ hk (by rw [ht]; exact hl)
  rw [ht] at h2
  exact ⟨v', μ', _, rfl, hv, @cut_sub ι _ _ _ _ _ hh hs, h2, hb⟩
end
end Ev
namespace Ev
noncomputable section
open Go Go.RowKit
section
variable [Frn]
/-! ### Where a piece of code leads, as memory goes: blocks that nobody looks at any more may be left out -/
/-- from 's' the code comes out by 'e' in 's''; 'n0': blocks that were there at the call -/
def Leads (E : Env) (n0 : Nat) (c : Code) (s : St) (e : Ex) (s' : St) : Prop :=
  ∀ (D : List Deferred) (μ0 : Mu) (B : Nat) (w0 : World) (Q : Exit → Act → World → Prop) (a : Act) (w : World), (∀ b x, μ0 b = some x → b < n0) → Sim D μ0 B w0 s a w → (∀ a' w', Sim D μ0 B w0 s' a' w' → Q (exOf e) a' w') → c.wp E.P Q a w
/-- the same of a loop's rounds -/
def LeadsL (E : Env) (n0 n : Nat) (c : Code) (s : St) (e : Ex) (s' : St) : Prop :=
  ∀ (D : List Deferred) (μ0 : Mu) (B : Nat) (w0 : World) (Q : Exit → Act → World → Prop) (a : Act) (w : World), (∀ b x, μ0 b = some x → b < n0) → Sim D μ0 B w0 s a w → (∀ a' w', Sim D μ0 B w0 s' a' w' → Q (exOf e) a' w') → Code.rounds E.P c Q n a w
theorem Leads.of {E : Env} {N n0 : Nat} {c : Code} {s s' : St} {e : Ex} (hE : EnvOk E) (hm : E.P.follows .mixedOrders = true) (hc : codeOk c = true) (h : Goes E N c s e s') (hok : s'.ok = true) : Leads E n0 c s e s' := fun D μ0 B w0 Q a w _ hs hQ => by
  have hk := h N (Nat.le_refl _) (fun e2 s2 => @ite _ (e2 = e ∧ s2 = s') (Classical.propDecidable _) (some (.bool true, [], true)) none)
  rw [if_pos ⟨rfl, rfl⟩] at hk
  refine (code_goes hE hm N c s _ Q a w hc (fun e2 s2 he => ?_) hk hs (fun e2 s2 he a' w' hs' => ?_)).1
  · split at he
    · rename_i q
      rw [q.2]; exact hok
    · cases he
  · split at he
    · rename_i q
      obtain ⟨rfl, rfl⟩ := q
      exact hQ a' w' hs'
    · cases he
variable {E : Env} {n0 n : Nat} {a b : Code} {s s1 s' : St} {e : Ex} {id : Nat}
theorem Leads.seq (h : Leads E n0 a s .normal s1) (k : Leads E n0 b s1 e s') : Leads E n0 (.seq a b) s e s' := fun D μ0 B w0 Q x w hn hs hQ =>
  wp_seq (h D μ0 B w0 _ x w hn hs fun a' w' hs' => k D μ0 B w0 Q a' w' hn hs' hQ)
theorem Leads.seqX (h : Leads E n0 a s (.exit id) s') : Leads E n0 (.seq a b) s (.exit id) s' := fun D μ0 B w0 _ x w hn hs hQ =>
  wp_seq (h D μ0 B w0 _ x w hn hs fun a' w' hs' => hQ a' w' hs')
theorem Leads.seqR (h : Leads E n0 a s .ret s') : Leads E n0 (.seq a b) s .ret s' := fun D μ0 B w0 _ x w hn hs hQ =>
  wp_seq (h D μ0 B w0 _ x w hn hs fun a' w' hs' => hQ a' w' hs')
theorem Leads.block (h : Leads E n0 a s .normal s') : Leads E n0 (.block id a) s .normal s' := fun D μ0 B w0 _ x w hn hs hQ =>
  wp_block (h D μ0 B w0 _ x w hn hs fun a' w' hs' => hQ a' w' hs')
theorem Leads.blockX (h : Leads E n0 a s (.exit id) s') : Leads E n0 (.block id a) s .normal s' := fun D μ0 B w0 _ x w hn hs hQ =>
  wp_block (h D μ0 B w0 _ x w hn hs fun a' w' hs' => by
    show (if id = id then _ else _)
    rw [if_pos rfl]
    exact hQ a' w' hs')
theorem Leads.blockX' {i : Nat} (h : Leads E n0 a s (.exit i) s') (hi : i ≠ id) : Leads E n0 (.block id a) s (.exit i) s' := fun D μ0 B w0 _ x w hn hs hQ =>
  wp_block (h D μ0 B w0 _ x w hn hs fun a' w' hs' => by
    show (if i = id then _ else _)
    rw [if_neg hi]
    exact hQ a' w' hs')
theorem Leads.blockR (h : Leads E n0 a s .ret s') : Leads E n0 (.block id a) s .ret s' := fun D μ0 B w0 _ x w hn hs hQ =>
  wp_block (h D μ0 B w0 _ x w hn hs fun a' w' hs' => hQ a' w' hs')
theorem Leads.scope (h : Leads E n0 a s e s') : Leads E n0 (.scope a) s e s' := fun D μ0 B w0 _ x w hn hs hQ => by
  refine wp_scope_straight (h D μ0 B w0 _ x w hn hs fun a' w' hs' => ?_)
  cases e <;> exact hQ a' w' hs'
theorem cond_val {D : List Deferred} {μ0 : Mu} {B : Nat} {w0 w : World} {x : Act} {o : Operand} {t : Bool} (hs : Sim D μ0 B w0 s x w) (hx : evl s.tmps o = (.bool t, true)) : x.eval o = .bool t := by
  obtain ⟨μ, q⟩ := hs
  have := evl_sound q.tmps o (by rw [hx])
  rw [hx] at this
  exact this.bool_inv
theorem Leads.condT {o : Operand} (hx : evl s.tmps o = (.bool true, true)) (h : Leads E n0 a s e s') : Leads E n0 (.cond o a b) s e s' := fun D μ0 B w0 Q x w hn hs hQ =>
  wp_cond_true (cond_val hs hx) (h D μ0 B w0 Q x w hn hs hQ)
theorem Leads.condF {o : Operand} (hx : evl s.tmps o = (.bool false, true)) (h : Leads E n0 b s e s') : Leads E n0 (.cond o a b) s e s' := fun D μ0 B w0 Q x w hn hs hQ =>
  wp_cond_false (cond_val hs hx) (h D μ0 B w0 Q x w hn hs hQ)
theorem Leads.skip : Leads E n0 .skip s .normal s := fun _ _ _ _ _ x w _ hs hQ => wp_skip (hQ x w hs)
theorem Leads.exit : Leads E n0 (.exit id) s (.exit id) s := fun _ _ _ _ _ x w _ hs hQ => wp_exit (hQ x w hs)
theorem Leads.ret : Leads E n0 .ret s .ret s := fun _ _ _ _ _ x w _ hs hQ => wp_ret (hQ x w hs)
theorem LeadsL.more (h : Leads E n0 a s .normal s1) (k : LeadsL E n0 n a s1 e s') : LeadsL E n0 (n + 1) a s e s' := fun D μ0 B w0 Q x w hn hs hQ => by
  rw [rounds_succ]
  exact h D μ0 B w0 _ x w hn hs fun a' w' hs' => k D μ0 B w0 Q a' w' hn hs' hQ
theorem LeadsL.stopX (h : Leads E n0 a s (.exit id) s') : LeadsL E n0 1 a s (.exit id) s' := fun D μ0 B w0 _ x w hn hs hQ => by
  rw [rounds_succ]
  exact h D μ0 B w0 _ x w hn hs fun a' w' hs' => hQ a' w' hs'
theorem LeadsL.stopR (h : Leads E n0 a s .ret s') : LeadsL E n0 1 a s .ret s' := fun D μ0 B w0 _ x w hn hs hQ => by
  rw [rounds_succ]
  exact h D μ0 B w0 _ x w hn hs fun a' w' hs' => hQ a' w' hs'
theorem Leads.loop (h : LeadsL E n0 n a s e s') : Leads E n0 (.loop a) s e s' := fun D μ0 B w0 Q x w hn hs hQ =>
  wp_loop_rounds n (h D μ0 B w0 Q x w hn hs hQ)
theorem Leads.reg {N : Nat} {c : Code} (hE : EnvOk E) (hm : E.P.follows .mixedOrders = true) (hc : codeOk c = true) (h : regionOf E c s = some s') (hok : s'.ok = true) : Leads E n0 c s .normal s' := Leads.of (N := N + 1) hE hm hc (Goes.reg h) hok

/-! ### leaving blocks out -/
def stayV (n : Nat) : Value → Bool
  | .agg cs => cs.toList.all (lowV n)
  | .tuple cs => cs.toList.all fun v => match v with
      | .agg cs => cs.toList.all (lowV n)
      | v => lowV n v
  | v => lowV n v
def jnk : Value := .complex .f64 0 0
def dropB : Value → Bool
  | .pointer _ | .slice _ _ _ | .func _ _ _ => true
  | _ => false
theorem stay_VR {n : Nat} {μ : Mu} {x y : Value} (h : VR μ x y) (hl : stayV n x = true) : VR (cutM n μ) x y := by
  cases h with
  | agg xs ys h1 h2 => exact .agg _ _ h1 fun i x y hx hy => low_VR (h2 i x y hx hy) (List.all_eq_true.1 hl x (List.mem_of_getElem? hx))
  | tuple xs ys h1 h2 =>
    refine .tuple _ _ h1 fun i x y hx hy => ?_
    have hq := List.all_eq_true.1 hl x (List.mem_of_getElem? hx)
    have hv := h2 i x y hx hy
    cases hv with
    | agg xs ys h1 h2 => exact .agg _ _ h1 fun i x y hx hy => low_VR (h2 i x y hx hy) (List.all_eq_true.1 hq x (List.mem_of_getElem? hx))
    | _ => exact low_VR (by first | assumption | (constructor <;> assumption)) hq
  | _ => exact low_VR (by first | assumption | (constructor <;> assumption)) hl
theorem drop_VR {μ μ' : Mu} {x y : Value} (h : VR μ x y) (hd : dropB x = true) : VR μ' jnk y := by
  cases h <;> first | exact .junk _ trivial | cases hd
/-- a slot, where the blocks from 'n' on are left out -/
def okCut (n : Nat) (p p' : Value × Bool) : Prop := (p' = p ∧ (p.2 = true → stayV n p.1 = true)) ∨ (p.2 = true ∧ p' = (jnk, true) ∧ dropB p.1 = true)
theorem okCut.slot {n : Nat} {μ : Mu} {p p' : Value × Bool} {v : Value} (h : okCut n p p') (hs : SlotR μ p v) : SlotR (cutM n μ) p' v := by
  rcases h with ⟨rfl, h⟩ | ⟨h1, rfl, h2⟩
  · exact ⟨fun e => stay_VR (hs.1 e) (h e), hs.2⟩
  · exact ⟨fun _ => drop_VR (hs.1 h1) h2, fun e => by cases e⟩
theorem Leads.cut {c : Code} {n : Nat} (h : Leads E n0 c s e s1) (hn : n0 ≤ n) (hh : lowH n (s1.heap.take n) = true) (hp : s'.heap = s1.heap.take n) (hl : s'.tmps.length = s1.tmps.length) (ht : ∀ i, okCut n (s1.tmps.getD i (undef, false)) (s'.tmps.getD i (undef, false))) : Leads E n0 c s e s' := fun D μ0 B w0 Q x w hμ hs hQ =>
  h D μ0 B w0 Q x w hμ hs fun a' w' ⟨μ, q⟩ => hQ a' w' ⟨cutM n μ, {
    tmps := ⟨by rw [hl]; exact q.tmps.1, fun i p' v hp' hv => by
      have hi : i < s1.tmps.length := by rw [← hl]; exact (List.getElem?_eq_some_iff.1 hp').1
      have h1 := ht i
      have e2 : s'.tmps.getD i (undef, false) = p' := by rw [List.getD_eq_getElem?_getD, hp']; rfl
      rw [e2] at h1
      have h2 : s1.tmps[i]? = some (s1.tmps.getD i (undef, false)) := by rw [List.getD_eq_getElem?_getD, List.getElem?_eq_getElem hi]; rfl
      exact h1.slot (q.tmps.2 i _ v h2 hv)⟩
    heap := by rw [hp]; exact cut_heap q.heap hh
    below := q.below
    room := q.room
    defers := q.defers
    sub := fun b x hb => by
      rw [cutM_f]
      rw [if_pos (Nat.lt_of_lt_of_le (hμ b x hb) hn)]
      exact q.sub b x hb }⟩
/-- where a body leads, the function goes -/
theorem leads_call {E : Env} {f : FuncId} {fn : Func} {c : Code} (h1 : E.P.funcs[f]? = some fn) (h2 : fn.body = some c) {args : List Value} {h h' : Heap} {v : Value} {e : Ex} {s' : St}
    (hg : Leads E h.length c (startS fn args h) e s') (hk : finK E.P fn e s' = some (v, h', true)) {μ : Mu} {cargs : List Value} {w : World} {B : Nat} (ha : VRL μ args cargs) (hh : HeapR μ h w B) (hB : B ≤ w.heap.size) :
    Calls E.P f cargs.toArray w fun e w' => ∃ v' μ', e = .returned v' ∧ Sub μ μ' ∧ VR μ' v v' ∧ HeapR μ' h' w' B ∧ Below B w w' := by
  refine calls_of_wp h1 h2 ?_
  have fin : ∀ a' w', Sim [] μ B w s' a' w' → ∀ vs g, resAll E.P s' fn.results.toList = some (vs, g) → (oneOr vs, s'.heap, g && s'.ok) = (v, h', true) →
      a'.defers = [] ∧ ∃ u, (results fn a'.tmps).run E.P w' = .ok u w' ∧ ∃ v' μ', Ending.returned u = .returned v' ∧ Sub μ μ' ∧ VR μ' v v' ∧ HeapR μ' h' w' B ∧ Below B w w' := by
    intro a' w' hs vs g hres heq
    simp only [Prod.mk.injEq] at heq
    obtain ⟨rfl, rfl, hkk⟩ := heq
    simp only [Bool.and_eq_true] at hkk
    obtain ⟨μ', q⟩ := hs
    obtain ⟨cs, hcs, hvr⟩ := res_run (P := E.P) q fn.results.toList vs g hres hkk.1
    refine ⟨q.defers, _, ?_, _, μ', rfl, q.sub, oneOr_VR hvr, q.heap, q.below⟩
    rw [results_eq, Array.mapM_eq_mapM_toList, Sem.run_bind, Sem.run_map, hcs]
    rfl
  refine hg [] μ B w _ _ w (fun b x hb => ?_) ⟨μ, start_sim ha hh hB⟩ (fun a' w' hs => ?_)
  · by_cases hl : b < h.length
    · exact hl
    · have : h.getD b none = none := by
        rw [List.getD_eq_getElem?_getD, List.getElem?_eq_none (by omega)]; rfl
      rw [hh.non b this] at hb
      cases hb
  · cases e with
    | normal =>
      simp only [finK] at hk
      split at hk
      · rename_i vs g hres
        simp only [Option.some.injEq] at hk
        exact fin a' w' hs vs g hres hk
      · cases hk
    | exit id => simp [finK] at hk
    | ret =>
      simp only [finK] at hk
      split at hk
      · rename_i vs g hres
        simp only [Option.some.injEq] at hk
        exact fin a' w' hs vs g hres hk
      · cases hk
end
end
end Ev
namespace Ev
noncomputable section
open Go Go.RowKit
section
variable [Frn] {E : Env} {s s1 s' : St} {e : Ex}
/-! ### blocks get other numbers: a row that has grown takes the place of the one that it was -/
def movM (r : Nat → Nat) (n : Nat) (μ : Mu) : Mu := ⟨fun b => if b < n then μ (r b) else none, μ.sz, fun b => μ.rl (r b)⟩
theorem movM_f {r : Nat → Nat} {n b : Nat} {μ : Mu} : (movM r n μ) b = if b < n then μ (r b) else none := rfl
/-- a slot, where the blocks get other numbers -/
def okMove (r : Nat → Nat) (n : Nat) (p p' : Value × Bool) : Prop :=
  okCut 0 p p' ∨ ∃ b o l c, b < n ∧ p = (.slice (some ⟨r b, o, none⟩) l c, true) ∧ p' = (.slice (some ⟨b, o, none⟩) l c, true)
theorem okMove.slot {r : Nat → Nat} {n : Nat} {μ : Mu} {p p' : Value × Bool} {v : Value} (h : okMove r n p p') (hs : SlotR μ p v) : SlotR (movM r n μ) p' v := by
  rcases h with h | ⟨b, o, l, c, hb, rfl, rfl⟩
  · refine (h.slot hs).mono fun b x hx => ?_
    rw [cutM_f, if_neg (Nat.not_lt_zero _)] at hx
    cases hx
  · refine ⟨fun _ => ?_, fun e => by cases e⟩
    obtain ⟨b', c', rfl, hb', hc⟩ := (hs.1 rfl).slice_inv
    exact .slice _ _ _ _ _ _ (by rw [movM_f, if_pos hb]; exact hb') hc
theorem bare_VRL {μ μ' : Mu} {cs ys : List Value} (hb : cs.all bareC = true) (h : VRL μ cs ys) : VRL μ' cs ys :=
  ⟨h.1, fun i x y hx hy => can_VR (bare_can (h.2 i x y hx hy) (List.all_eq_true.1 hb x (List.mem_of_getElem? hx)))⟩
theorem mov_heap {r : Nat → Nat} {h h' : Heap} {μ : Mu} {w : World} {B : Nat} (hh : HeapR μ h w B) (hp : ∀ b cs, h'.getD b none = some cs → h.getD (r b) none = some cs ∧ cs.all bareC = true)
    (hs : ∀ b, b < h'.length → h'.getD b none ≠ none) (hr : ∀ a b, a < h'.length → b < h'.length → r a = r b → a = b) : HeapR (movM r h'.length μ) h' w B := by
  refine ⟨fun b cs e => ?_, fun b cs b' cs' T e e1 e2 => ?_, hh.base, hh.inv, fun b e => ?_, fun b1 b2 x d1 d2 e1 e2 => ?_⟩
  · obtain ⟨q1, q2⟩ := hp b cs e
    obtain ⟨b', cs', T, g1, g2, g3, g4⟩ := hh.dom _ _ q1
    exact ⟨b', cs', T, by rw [movM_f, if_pos (lt_of_getD e)]; exact g1, g2, g3, bare_VRL q2 g4⟩
  · rw [movM_f, if_pos (lt_of_getD e)] at e1
    exact hh.size _ _ b' cs' T (hp b cs e).1 e1 e2
  · rw [movM_f]
    by_cases hb : b < h'.length
    · exact absurd e (hs b hb)
    · rw [if_neg hb]
  · rw [movM_f] at e1 e2
    split at e1
    · rename_i l1
      split at e2
      · rename_i l2
        refine hr b1 b2 l1 l2 (hh.inj _ _ x (fun q => d1 ?_) (fun q => d2 ?_) e1 e2)
        · cases q1 : h'.getD b1 none with
          | none => exact absurd q1 (hs b1 l1)
          | some cs => rw [(hp b1 cs q1).1] at q; exact q
        · cases q1 : h'.getD b2 none with
          | none => exact absurd q1 (hs b2 l2)
          | some cs => rw [(hp b2 cs q1).1] at q; exact q
      · cases e2
    · cases e1
theorem Leads.move {c : Code} {r : Nat → Nat} (h : Leads E 0 c s e s1) (hp : ∀ b cs, s'.heap.getD b none = some cs → s1.heap.getD (r b) none = some cs ∧ cs.all bareC = true) (hs : ∀ b, b < s'.heap.length → s'.heap.getD b none ≠ none)
    (hr : ∀ a b, a < s'.heap.length → b < s'.heap.length → r a = r b → a = b) (hl : s'.tmps.length = s1.tmps.length) (ht : ∀ i, okMove r s'.heap.length (s1.tmps.getD i (undef, false)) (s'.tmps.getD i (undef, false))) : Leads E 0 c s e s' := fun D μ0 B w0 Q x w hμ hs0 hQ =>
  h D μ0 B w0 Q x w hμ hs0 fun a' w' ⟨μ, q⟩ => hQ a' w' ⟨movM r s'.heap.length μ, {
    tmps := ⟨by rw [hl]; exact q.tmps.1, fun i p' v hp' hv => by
      have hi : i < s1.tmps.length := by rw [← hl]; exact (List.getElem?_eq_some_iff.1 hp').1
      have h1 := ht i
      have e2 : s'.tmps.getD i (undef, false) = p' := by rw [List.getD_eq_getElem?_getD, hp']; rfl
      rw [e2] at h1
      have h2 : s1.tmps[i]? = some (s1.tmps.getD i (undef, false)) := by rw [List.getD_eq_getElem?_getD, List.getElem?_eq_getElem hi]; rfl
      exact h1.slot (q.tmps.2 i _ v h2 hv)⟩
    heap := mov_heap q.heap hp hs hr
    below := q.below
    room := q.room
    defers := q.defers
    sub := fun b x hb => absurd (hμ b x hb) (Nat.not_lt_zero _) }⟩
end
end
end Ev
namespace Ev
noncomputable section
open Go Go.RowKit
section
variable [Frn]
/-! ### An evaluation that answers has led somewhere -/
theorem Goes.blockP {E : Env} {N id i : Nat} {a : Code} {s s' : St} (h : Goes E N a s (.exit i) s') (hi : Nat.beq i id = false) : Goes E (N + 1) (.block id a) s (.exit i) s' := fun n hn k' => by
  obtain ⟨m, rfl⟩ : ∃ m, n = m + 1 := ⟨n - 1, by omega⟩
  simp only [codeK]
  rw [h m (by omega)]
  simp only [hi, cond_false]
theorem Goes.scope {E : Env} {N : Nat} {a : Code} {s s' : St} {e : Ex} (h : Goes E N a s e s') : Goes E (N + 1) (.scope a) s e s' := fun n hn k' => by
  obtain ⟨m, rfl⟩ : ∃ m, n = m + 1 := ⟨n - 1, by omega⟩
  simp only [codeK]
  rw [h m (by omega)]
theorem Goes.label {E : Env} {N l : Nat} {s : St} : Goes E (N + 1) (.label l) s .normal s := fun n hn k' => by
  obtain ⟨m, rfl⟩ : ∃ m, n = m + 1 := ⟨n - 1, by omega⟩
  rfl
theorem codeK_out {E : Env} {r : Value × Heap × Bool} : ∀ (n : Nat) (c : Code) (s : St) (k : Ex → St → Ans), codeK E n c s k = some r → ∃ e s', k e s' = some r ∧ Goes E n c s e s'
  | 0, c, s, k, h => by simp [codeK] at h
  | n + 1, c, s, k, h => by
    cases c with
    | skip => exact ⟨_, _, h, Goes.skip⟩
    | region id ops draw =>
      simp only [codeK] at h
      cases hrg : regionD E draw ops.toList s with
      | none => rw [hrg] at h; cases h
      | some s' => rw [hrg] at h; exact ⟨_, _, h, Goes.region hrg⟩
    | seq a b =>
      simp only [codeK] at h
      obtain ⟨e1, s1, h1, g1⟩ := codeK_out n a s _ h
      cases e1 with
      | normal =>
        obtain ⟨e, s', h2, g2⟩ := codeK_out n b s1 k h1
        exact ⟨e, s', h2, Goes.seq g1 g2⟩
      | exit id => exact ⟨_, _, h1, Goes.seqX g1⟩
      | ret => exact ⟨_, _, h1, Goes.seqR g1⟩
    | cond x a b =>
      simp only [codeK] at h
      split at h
      · rename_i t g hx
        cases t with
        | true =>
          obtain ⟨e, s', h2, g2⟩ := codeK_out n a _ k h
          exact ⟨e, s', h2, Goes.condT hx g2⟩
        | false =>
          obtain ⟨e, s', h2, g2⟩ := codeK_out n b _ k h
          exact ⟨e, s', h2, Goes.condF hx g2⟩
      · cases h
    | block id a =>
      simp only [codeK] at h
      obtain ⟨e1, s1, h1, g1⟩ := codeK_out n a s _ h
      cases e1 with
      | normal => exact ⟨_, _, h1, Goes.block g1⟩
      | exit j =>
        simp only at h1
        cases hj : Nat.beq j id with
        | true =>
          rw [hj] at h1
          have := Nat.eq_of_beq_eq_true hj
          subst this
          exact ⟨_, _, h1, Goes.blockX g1⟩
        | false => rw [hj] at h1; exact ⟨_, _, h1, Goes.blockP g1 hj⟩
      | ret => exact ⟨_, _, h1, Goes.blockR g1⟩
    | loop a =>
      rw [codeK] at h
      obtain ⟨e1, s1, h1, g1⟩ := codeK_out n a s _ h
      cases e1 with
      | normal =>
        obtain ⟨e, s', h2, g2⟩ := codeK_out n (.loop a) s1 k h1
        exact ⟨e, s', h2, Goes.loop g1 g2⟩
      | exit id => exact ⟨_, _, h1, Goes.loopX g1⟩
      | ret => exact ⟨_, _, h1, Goes.loopR g1⟩
    | exit id => exact ⟨_, _, h, Goes.exit⟩
    | scope a =>
      simp only [codeK] at h
      obtain ⟨e, s', h2, g2⟩ := codeK_out n a s k h
      exact ⟨e, s', h2, Goes.scope g2⟩
    | label l => exact ⟨_, _, h, Goes.label⟩
    | ret => exact ⟨_, _, h, Goes.ret⟩
    | _ => simp [codeK] at h
/-- pieces of code, one behind the other -/
def codeL (E : Env) (n : Nat) : List Code → St → (Ex → St → Ans) → Ans
  | [], s, k => k .normal s
  | c :: r, s, k => codeK E n c s fun
    | .normal, s' => codeL E n r s' k
    | e, s' => k e s'
def seqs (rest : Code) : List Code → Code
  | [] => rest
  | c :: r => .seq c (seqs rest r)
/-- a test on the state behind some code -/
def testK (T : St → Bool) : Ex → St → Ans
  | .normal, s => bif T s then some (.bool true, [], true) else none
  | _, _ => none
theorem codeL_out {E : Env} {n : Nat} {T : St → Bool} : ∀ (l : List Code) (s : St), codeL E n l s (testK T) = some (.bool true, [], true) →
    ∃ s', T s' = true ∧ ∀ {rest : Code} {N : Nat} {e2 : Ex} {s2 : St}, Goes E N rest s' e2 s2 → Goes E (n + N + l.length) (seqs rest l) s e2 s2
  | [], s, h => by
    have h : (bif T s then some (.bool true, [], true) else none) = some (Value.bool true, ([] : Heap), true) := h
    cases hT : T s with
    | false => rw [hT] at h; cases h
    | true => exact ⟨s, hT, fun g => g.more (by simp)⟩
  | c :: r, s, h => by
    rw [codeL] at h
    obtain ⟨e1, s1, h1, g1⟩ := codeK_out n c s _ h
    cases e1 with
    | normal =>
      obtain ⟨s', hT, k⟩ := codeL_out r s1 h1
      exact ⟨s', hT, fun {rest N e2 s2} g => (Goes.seq (g1.more (show n ≤ n + N + r.length by omega)) (k g)).more (by rw [List.length_cons]; omega)⟩
    | exit id => cases h1
    | ret => cases h1
/-- slots, heap and flag, as functions of numbers -/
theorem St_eta (s : St) (n : Nat) (hl : Nat.beq s.tmps.length n = true) (hk : s.ok = true) : s = ⟨(List.range n).map fun m => s.tmps.getD m (undef, false), s.heap, true⟩ := by
  have hl := Nat.eq_of_beq_eq_true hl
  have : s.tmps = (List.range n).map fun m => s.tmps.getD m (undef, false) := by
    refine List.ext_getElem? fun i => ?_
    rw [List.getElem?_map]
    by_cases hi : i < n
    · rw [List.getElem?_range hi, Option.map_some, List.getElem?_eq_getElem (by omega), List.getD_eq_getElem?_getD, List.getElem?_eq_getElem (by omega)]
      rfl
    · rw [List.getElem?_eq_none (by omega), List.getElem?_eq_none (by simp; omega)]; rfl
  rw [← this, ← hk]
end
end
end Ev
