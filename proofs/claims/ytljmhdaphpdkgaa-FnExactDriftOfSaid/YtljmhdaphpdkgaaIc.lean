/-
  Pieces of code, evaluated at once: what an evaluation leaves in the slots that live, the other slots being such as may be forgotten. No condition.
-/
import Derived.Test.YtljmhdaphpdkgaaIb
set_option linter.unusedSectionVars false
set_option linter.unusedVariables false
noncomputable section
namespace Go.Proofs.Ytljmhdaphpdkgaa
namespace Dr
open Go Go.ChangeShapes Go.WideShapes Go.ChangeAt Go.RowKit Ev Mc
def ups : List (Nat × (Value × Bool)) → J → J
  | [], j => j
  | (i, p) :: r, j => up (ups r j) i p
def encP (p : Value × Bool) : Value := .tuple #[p.1, .bool p.2]
def cutB (p : Value × Bool) : Bool := !p.2 || (stayV 0 p.1 || dropB p.1)
def capP (N : Nat) (sl rest : List Nat) : Ex → St → Ans
  | .normal, s => bif Nat.beq s.tmps.length N then some (.tuple (sl.map fun i => encP (s.tmps.getD i (undef, false))).toArray, s.heap, (rest.all fun i => cutB (s.tmps.getD i (undef, false))) && s.ok) else none
  | _, _ => none
theorem enc_inj : ∀ {a b : List (Value × Bool)}, a.map encP = b.map encP → a = b
  | [], [], _ => rfl
  | [], _ :: _, h => by cases h
  | _ :: _, [], h => by cases h
  | (x, p) :: a, (y, q) :: b, h => by
    rw [List.map_cons, List.map_cons, List.cons.injEq] at h
    obtain ⟨h1, h2⟩ := h
    unfold encP at h1
    simp only [Value.tuple.injEq, Array.mk.injEq, List.cons.injEq, Value.bool.injEq, and_true] at h1
    obtain ⟨rfl, rfl⟩ := h1
    rw [enc_inj h2]
section
variable [ι : Frn] {E : Env} {n N : Nat} {c : Code} {s : St} {sl rest : List Nat} {vs : List (Value × Bool)} {h : Heap}
theorem cap_goes (hk : codeK E n c s (capP N sl rest) = some (.tuple (vs.map encP).toArray, h, true)) :
    ∃ j : J, (∀ i ∈ rest, i < N → cutB (j i) = true) ∧ (sl.map fun i => if i < N then j i else (undef, false)) = vs ∧ Goes E n c s .normal (S N j h true) := by
  obtain ⟨e, s', h1, g⟩ := codeK_out n c s _ hk
  cases e with
  | normal =>
    have h1 : (bif Nat.beq s'.tmps.length N then some (Value.tuple (sl.map fun i => encP (s'.tmps.getD i (undef, false))).toArray, s'.heap, (rest.all fun i => cutB (s'.tmps.getD i (undef, false))) && s'.ok) else none) = some (.tuple (vs.map encP).toArray, h, true) := h1
    cases hb : Nat.beq s'.tmps.length N with
    | false => rw [hb] at h1; cases h1
    | true =>
      rw [hb, cond_true] at h1
      simp only [Option.some.injEq, Prod.mk.injEq, Value.tuple.injEq, Array.mk.injEq, Bool.and_eq_true] at h1
      obtain ⟨q1, rfl, q3, q4⟩ := h1
      have e := St_eta s' N hb q4
      refine ⟨fun m => s'.tmps.getD m (undef, false), fun i hi _ => List.all_eq_true.1 q3 i hi, ?_, ?_⟩
      · have hN := Nat.eq_of_beq_eq_true hb
        have : (sl.map fun i => s'.tmps.getD i (undef, false)) = vs := enc_inj (by rw [List.map_map]; exact q1)
        rw [← this]
        refine List.map_congr_left fun i _ => ?_
        by_cases hi : i < N
        · rw [if_pos hi]
        · rw [if_neg hi, List.getD_eq_getElem?_getD, List.getElem?_eq_none (by omega)]; rfl
      · have e2 : S N (fun m => s'.tmps.getD m (undef, false)) s'.heap true = s' := e.symm
        rw [e2]
        exact g
  | exit i => cases h1
  | ret => cases h1
theorem ups_self : ∀ {sl : List Nat} {vs : List (Value × Bool)} {j : J}, (∀ i ∈ sl, i < N) → (sl.map fun i => if i < N then j i else (undef, false)) = vs → ups (sl.zip vs) j = j
  | [], _, _, _, _ => by rw [List.zip_nil_left]; rfl
  | i :: sl, vs, j, hi, h => by
    subst h
    rw [List.map_cons, List.zip_cons_cons]
    show up (ups _ j) i _ = j
    rw [ups_self (fun k hk => hi k (List.mem_cons_of_mem _ hk)) rfl, if_pos (hi i List.mem_cons_self)]
    funext m
    unfold up
    cases hb : Nat.beq m i with
    | true => rw [Nat.eq_of_beq_eq_true hb]; rfl
    | false => rfl
theorem cap_goes' (hs : sl.all (Nat.blt · N) = true) (hk : codeK E n c s (capP N sl rest) = some (.tuple (vs.map encP).toArray, h, true)) :
    ∃ j : J, (∀ i ∈ rest, i < N → cutB (j i) = true) ∧ Goes E n c s .normal (S N (ups (sl.zip vs) j) h true) := by
  obtain ⟨j, h1, h2, h3⟩ := cap_goes hk
  refine ⟨j, h1, ?_⟩
  rw [ups_self (fun i hi => by
    have := List.all_eq_true.1 hs i hi
    rwa [Nat.blt_eq] at this) h2]
  exact h3
/-- a slot that is forgotten -/
def cutV (p : Value × Bool) : Value × Bool := if p.2 = true ∧ stayV 0 p.1 = false then vJ else p
theorem cutV_ok {p : Value × Bool} (h : cutB p = true) : okCut 0 p (cutV p) := by
  unfold cutV
  by_cases hp : p.2 = true ∧ stayV 0 p.1 = false
  · rw [if_pos hp]
    unfold cutB at h
    rw [hp.1, hp.2] at h
    exact .inr ⟨hp.1, rfl, by simpa using h⟩
  · rw [if_neg hp]
    refine .inl ⟨rfl, fun e => ?_⟩
    cases hs : stayV 0 p.1 with
    | true => rfl
    | false => exact absurd ⟨e, hs⟩ hp
/-- a slot, where the blocks get other numbers: pointers, too -/
def okMvP (r : Nat → Nat) (n : Nat) (p p' : Value × Bool) : Prop :=
  okMove r n p p' ∨ ∃ b o, b < n ∧ p = (.pointer (some ⟨r b, o, none⟩), true) ∧ p' = (.pointer (some ⟨b, o, none⟩), true)
theorem okMvP.slot [Frn] {r : Nat → Nat} {n : Nat} {μ : Mu} {p p' : Value × Bool} {v : Value} (h : okMvP r n p p') (hs : SlotR μ p v) : SlotR (movM r n μ) p' v := by
  rcases h with h | ⟨b, o, hb, rfl, rfl⟩
  · exact h.slot hs
  · refine ⟨fun _ => ?_, fun e => by cases e⟩
    have hv := hs.1 rfl
    cases hv with
    | ptr b2 o2 b' hm => exact .ptr _ _ _ (by rw [movM_f, if_pos hb]; exact hm)
theorem moveP [Frn] {E : Env} {s s1 s' : St} {e : Ex} {c : Code} {r : Nat → Nat} (h : Leads E 0 c s e s1) (hp : ∀ b cs, s'.heap.getD b none = some cs → s1.heap.getD (r b) none = some cs ∧ cs.all bareC = true) (hs : ∀ b, b < s'.heap.length → s'.heap.getD b none ≠ none)
    (hr : ∀ a b, a < s'.heap.length → b < s'.heap.length → r a = r b → a = b) (hl : s'.tmps.length = s1.tmps.length) (ht : ∀ i, okMvP r s'.heap.length (s1.tmps.getD i (undef, false)) (s'.tmps.getD i (undef, false))) : Leads E 0 c s e s' := fun D μ0 B w0 Q x w hμ hs0 hQ =>
  h D μ0 B w0 Q x w hμ hs0 fun a' w' ⟨μ, q⟩ => hQ a' w' ⟨movM r s'.heap.length μ, {
    tmps := ⟨by rw [hl]; exact q.tmps.1, fun i p' v hp' hv => by
      have hi : i < s1.tmps.length := by rw [← hl]; exact (List.getElem?_eq_some_iff.1 hp').1
      have h1 := ht i
      have e2 : s'.tmps.getD i (undef, false) = p' := by rw [List.getD_eq_getElem?_getD, hp']; rfl
      rw [e2] at h1
      have h2 : s1.tmps[i]? = some (s1.tmps.getD i (undef, false)) := by rw [List.getD_eq_getElem?_getD, List.getElem?_eq_getElem hi]; rfl
      exact h1.slot (q.tmps.2 i _ v h2 hv)⟩
    heap := mov_heap q.heap hp hs hr
    below := q.below
    room := q.room
    defers := q.defers
    sub := fun b x hb => absurd (hμ b x hb) (Nat.not_lt_zero _) }⟩
def okMvPs (r : Nat → Nat) (n : Nat) : List (Value × Bool) → List (Value × Bool) → Prop
  | [], [] => True
  | p :: a, q :: b => okMvP r n p q ∧ okMvPs r n a b
  | _, _ => False
theorem mv_ups {r : Nat → Nat} {n m : Nat} {j j' : J} : ∀ {sl : List Nat} {vs vs2 : List (Value × Bool)}, sl.length = vs.length → okMvPs r n vs vs2 → (sl.contains m = false → okMvP r n (j m) (j' m)) → okMvP r n (ups (sl.zip vs) j m) (ups (sl.zip vs2) j' m)
  | [], vs, vs2, _, _, h => by rw [List.zip_nil_left, List.zip_nil_left]; exact h rfl
  | i :: sl, [], _, hl, _, _ => by cases hl
  | i :: sl, p :: vs, [], _, hv, _ => hv.elim
  | i :: sl, p :: vs, q :: vs2, hl, hv, h => by
    rw [List.zip_cons_cons, List.zip_cons_cons]
    show okMvP r n (up (ups _ j) i p m) (up (ups _ j') i q m)
    unfold up
    cases hb : Nat.beq m i with
    | true => exact hv.1
    | false =>
      refine mv_ups (by simpa using hl) hv.2 fun hc => h ?_
      rw [List.contains_cons, hc]
      have : (m == i) = false := beq_eq_false_iff_ne.2 fun e => by
        rw [e, Nat.beq_refl] at hb
        cases hb
      rw [this]; rfl
/-- blocks are left out or get other numbers at a piece's end -/
theorem cap_move (hE : EnvOk E) (hm : E.P.follows .mixedOrders = true) (hc : codeOk c = true) (hs : sl.all (Nat.blt · N) = true) (hcov : (List.range N).all (fun m => sl.contains m || rest.contains m) = true) (hl : sl.length = vs.length)
    (hk : codeK E n c s (capP N sl rest) = some (.tuple (vs.map encP).toArray, h, true)) {r : Nat → Nat} {h2 : Heap} {vs2 : List (Value × Bool)} (hv : okMvPs r h2.length vs vs2)
    (hp : ∀ b cs, h2.getD b none = some cs → h.getD (r b) none = some cs ∧ cs.all bareC = true) (hne : ∀ b, b < h2.length → h2.getD b none ≠ none) (hr : ∀ a b, a < h2.length → b < h2.length → r a = r b → a = b) :
    ∃ j : J, Leads E 0 c s .normal (S N (ups (sl.zip vs2) j) h2 true) := by
  obtain ⟨j, h1, g⟩ := cap_goes' hs hk
  refine ⟨fun m => cutV (j m), moveP (r := r) (Leads.of (n0 := 0) hE hm hc g rfl) hp hne hr ?_ fun i => ?_⟩
  · show ((List.range N).map _).length = ((List.range N).map _).length
    rw [List.length_map, List.length_map]
  · show okMvP _ _ (((List.range N).map (ups (sl.zip vs) j)).getD i (undef, false)) (((List.range N).map (ups (sl.zip vs2) fun m => cutV (j m))).getD i (undef, false))
    rw [List.getD_eq_getElem?_getD, List.getD_eq_getElem?_getD, List.getElem?_map, List.getElem?_map]
    by_cases hi : i < N
    · rw [List.getElem?_range hi]
      refine mv_ups hl hv fun hcn => .inl (.inl (cutV_ok (h1 i ?_ hi)))
      have := List.all_eq_true.1 hcov i (List.mem_range.2 hi)
      rw [hcn, Bool.false_or] at this
      exact List.contains_iff_mem.1 this
    · rw [List.getElem?_eq_none (by simp; omega)]
      exact .inl (.inl (.inl ⟨rfl, fun e => by cases e⟩))
end
end Dr
end Go.Proofs.Ytljmhdaphpdkgaa
end
