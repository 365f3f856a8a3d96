/-
  Slices of records, as they come in: their cells, by the types' own form. No condition.
-/
import Derived.Test.YtljmhdaphpdkgaaKl
import Derived.Deep.Slices
set_option linter.unusedSectionVars false
noncomputable section
namespace Go.Proofs.Ytljmhdaphpdkgaa
open Go Go.ChangeShapes Go.WideShapes Go.ChangeAt Go.RowKit Go.Deep Ev

/-! ### The cells of a flat type -/
def flatFs (g : TypeId → Option (List CK)) (P : Program) : List Field → Nat → Option (List CK)
  | [], _ => some []
  | f :: r, o => match g f.type with
    | some l => bif Nat.beq f.offset o && Nat.beq l.length (P.cellsOf f.type) then (match flatFs g P r (o + l.length) with
      | some l2 => some (l ++ l2)
      | none => none) else none
    | none => none
def repK (l : List CK) : Nat → List CK
  | 0 => []
  | n + 1 => repK l n ++ l
def flatK (P : Program) : Nat → TypeId → Option (List CK)
  | 0, _ => none
  | n + 1, t => match P.underlying t with
    | some .bool => some [.b]
    | some (.int k) => some [.i k]
    | some (.float k) => some [.f k]
    | some .string => some [.s]
    | some (.struct fs) => match flatFs (flatK P n) P fs.toList 0 with
      | some l => bif Nat.beq l.length (P.cellsOf t) then some l else none
      | none => none
    | some (.array m e) => match flatK P n e with
      | some l => bif Nat.beq l.length (P.cellsOf e) && Nat.beq (m * P.cellsOf e) (P.cellsOf t) then some (repK l m) else none
      | none => none
    | _ => none
theorem shape_append : ∀ {a b : List CK} {u v : List Value}, shapeB a u = true → shapeB b v = true → shapeB (a ++ b) (u ++ v) = true
  | [], b, [], v, _, h => h
  | c :: a, b, x :: u, v, h, h2 => by
    rw [shapeB, Bool.and_eq_true] at h
    show (c.ok x && shapeB (a ++ b) (u ++ v)) = true
    rw [h.1, shape_append h.2 h2]; rfl
  | [], _, _ :: _, _, h, _ => by cases h
  | _ :: _, _, [], _, h, _ => by cases h
/-- numbers are in their kinds' ranges, texts are not too long -/
def wfC : Value → Bool
  | .int k n => (Lit.int k n).wf
  | .string s => decide (s.size ≤ maxLen)
  | _ => true
def shapeW (ck : List CK) (vs : List Value) : Prop := shapeB ck vs = true ∧ vs.all wfC = true
theorem shapeW_append {a b : List CK} {u v : List Value} (h : shapeW a u) (h2 : shapeW b v) : shapeW (a ++ b) (u ++ v) :=
  ⟨shape_append h.1 h2.1, by rw [List.all_append, h.2, h2.2]; rfl⟩
theorem flatFs_ok {g : TypeId → Option (List CK)} {P : Program} {cs : List Value} : ∀ {r : List Field} {o : Nat} {l : List CK}, flatFs g P r o = some l →
    (∀ f ∈ r, ∀ l', g f.type = some l' → shapeW l' ((cs.drop f.offset).take (P.cellsOf f.type))) → shapeW l ((cs.drop o).take l.length)
  | [], o, l, h, _ => by
    cases h
    exact ⟨rfl, rfl⟩
  | f :: r, o, l, h, hg => by
    rw [flatFs] at h
    split at h
    · rename_i l1 h1
      cases hc : (Nat.beq f.offset o && Nat.beq l1.length (P.cellsOf f.type)) with
      | false => rw [hc] at h; cases h
      | true =>
        rw [hc, cond_true] at h
        rw [Bool.and_eq_true] at hc
        have e1 := Nat.eq_of_beq_eq_true hc.1
        have e2 := Nat.eq_of_beq_eq_true hc.2
        split at h
        · rename_i l2 h2
          cases h
          have q1 := hg f (by simp) l1 h1
          have q2 := flatFs_ok h2 fun f' hf => hg f' (by simp [hf])
          rw [e1, ← e2] at q1
          rw [List.length_append, List.take_add, List.drop_drop]
          exact shapeW_append q1 q2
        · cases h
    · cases h
theorem mapM_each {α β : Type} {f : α → Option β} : ∀ {l : List α} {xs : List β}, l.mapM f = some xs → ∀ a ∈ l, ∃ x, f a = some x
  | [], _, _, a, ha => by cases ha
  | b :: l, xs, h, a, ha => by
    rw [List.mapM_cons] at h
    cases hb : f b with
    | none => rw [hb] at h; cases h
    | some y =>
      rw [hb] at h
      cases hl : l.mapM f with
      | none => rw [hl] at h; cases h
      | some ys =>
        rcases List.mem_cons.1 ha with rfl | ha
        · exact ⟨y, hb⟩
        · exact mapM_each hl a ha
theorem repK_len {l : List CK} : ∀ {m : Nat}, (repK l m).length = m * l.length
  | 0 => by rw [Nat.zero_mul]; rfl
  | m + 1 => by rw [repK, List.length_append, repK_len, Nat.succ_mul]
theorem repK_ok {l : List CK} {cs : List Value} : ∀ {m : Nat}, (∀ i, i < m → shapeW l ((cs.drop (i * l.length)).take l.length)) → shapeW (repK l m) (cs.take (m * l.length))
  | 0, _ => by rw [Nat.zero_mul]; exact ⟨rfl, rfl⟩
  | m + 1, h => by
    rw [repK, Nat.succ_mul, List.take_add]
    exact shapeW_append (repK_ok fun i hi => h i (by omega)) (h m (by omega))
theorem flat_ok {H : Type} {enc : TypeId × Value → H} {P : Program} {w : World} {base : Nat} {spare : Nat → Bool} {held : Bool} : ∀ {n : Nat} {t : TypeId} {l : List CK} {fuel : Nat} {cs : List Value} {x : DataW H × List MemPlace},
    flatK P n t = some l → DataW.trod enc P w base spare held fuel t cs = some x → shapeW l cs
  | 0, _, _, _, _, _, h, _ => by cases h
  | n + 1, t, l, fuel, cs, x, h, ht => by
    rw [flatK] at h
    split at h
    · rename_i hu
      cases h
      obtain ⟨b, rfl, _⟩ := DataW.trod_bool hu ht
      exact ⟨rfl, rfl⟩
    · rename_i k hu
      cases h
      obtain ⟨z, rfl, _, hz⟩ := DataW.trod_int hu ht
      refine ⟨?_, ?_⟩
      · show (decide (k = k) && true) = true
        rw [decide_eq_true rfl]; rfl
      · show ((Lit.int k z).wf && true) = true
        rw [hz]; rfl
    · rename_i k hu
      cases h
      cases fuel with
      | zero => cases ht
      | succ m =>
        unfold DataW.trod at ht
        rw [hu] at ht
        split at ht <;> simp_all
        obtain ⟨⟨rfl, _⟩, _⟩ := ht
        have hk : ∀ q, sameK q q = true := fun q => by cases q <;> rfl
        refine ⟨?_, rfl⟩
        show (sameK _ _ && true) = true
        rw [hk]; rfl
    · rename_i hu
      cases h
      obtain ⟨b, rfl, _, hb⟩ := DataW.trod_string hu ht
      refine ⟨rfl, ?_⟩
      show (decide (b.size ≤ maxLen) && true) = true
      rw [decide_eq_true hb]; rfl
    · rename_i fs hu
      split at h
      · rename_i l1 h1
        cases hc : Nat.beq l1.length (P.cellsOf t) with
        | false => rw [hc] at h; cases h
        | true =>
          rw [hc, cond_true] at h
          cases h
          obtain ⟨xs, m, _, _, hlen, hxl, hf⟩ := DataW.trod_struct hu ht
          have q := flatFs_ok (cs := cs) h1 fun f hf' l' hl' => by
            obtain ⟨i, hi⟩ := List.mem_iff_getElem?.1 hf'
            have hi' : fs[i]? = some f := by simpa using hi
            have hlt : i < fs.size := (Array.getElem?_eq_some_iff.1 hi').1
            have := hf i f hi'
            rw [List.getElem?_eq_getElem (by omega)] at this
            exact flat_ok hl' this
          rw [List.drop_zero, Nat.eq_of_beq_eq_true hc, ← hlen, List.take_length] at q
          exact q
      · cases h
    · rename_i m e hu
      split at h
      · rename_i l1 h1
        cases hc : (Nat.beq l1.length (P.cellsOf e) && Nat.beq (m * P.cellsOf e) (P.cellsOf t)) with
        | false => rw [hc] at h; cases h
        | true =>
          rw [hc, cond_true] at h
          cases h
          rw [Bool.and_eq_true] at hc
          have e1 := Nat.eq_of_beq_eq_true hc.1
          have e2 := Nat.eq_of_beq_eq_true hc.2
          cases fuel with
          | zero => cases ht
          | succ k =>
            unfold DataW.trod at ht
            rw [hu] at ht
            have ht : (if cs.length = P.cellsOf t then ((List.range m).mapM fun i => DataW.trod enc P w base spare held k e ((cs.drop (i * P.cellsOf e)).take (P.cellsOf e))).map fun xs => (DataW.agg (xs.map (·.1)), xs.flatMap (·.2)) else none) = some x := by
              simpa using ht
            split at ht
            · rename_i hl
              obtain ⟨xs, hxs, _⟩ := Option.map_eq_some_iff.1 ht
              have q := repK_ok (l := l1) (cs := cs) (m := m) fun i hi => by
                obtain ⟨y, hy⟩ := mapM_each hxs i (List.mem_range.2 hi)
                rw [e1]
                exact flat_ok h1 hy
              rw [e1, e2, ← hl, List.take_length] at q
              exact q
            · cases ht
      · cases h
    · cases h

/-! ### A slice of records -/
def canC : Value → Value
  | .float k b => .float k (cn k b)
  | v => v
theorem canC_shape : ∀ {ck : List CK} {vs : List Value}, shapeB ck vs = true → shapeB ck (vs.map canC) = true
  | [], [], _ => rfl
  | c :: ck, v :: vs, h => by
    rw [shapeB, Bool.and_eq_true] at h
    show (c.ok (canC v) && shapeB ck (vs.map canC)) = true
    rw [canC_shape h.2, Bool.and_true]
    have h1 := h.1
    cases c <;> cases v <;> first | exact h1 | cases h1
  | [], _ :: _, h => by cases h
  | _ :: _, [], h => by cases h
theorem canC_wf : ∀ {vs : List Value}, vs.all wfC = true → (vs.map canC).all wfC = true
  | [], _ => rfl
  | v :: vs, h => by
    rw [List.all_cons, Bool.and_eq_true] at h
    rw [List.map_cons, List.all_cons, canC_wf h.2, Bool.and_true]
    have h1 := h.1
    cases v <;> exact h1
theorem canC_R {v : Value} (h : bareC v = true) : CanR (canC v) v := by
  cases v with
  | bool b => exact .bool b
  | int k n => exact .int k n
  | string s => exact .string s
  | float k x => exact .float k _ x rfl
  | _ => cases h
theorem cell_spot {w : World} {a : Addr} {v : Value} (h : w.cell? a = some v) : a = ⟨a.block, a.off, none⟩ ∧ a.block < w.heap.size := by
  unfold World.cell? at h
  split at h
  · rename_i hb
    split at h
    · cases h
    · rename_i hs
      obtain ⟨b, o, s⟩ := a
      cases s with
      | none => exact ⟨rfl, (Array.getElem?_eq_some_iff.1 hb).1⟩
      | some q => exact absurd rfl hs
  · cases h
theorem slice_row {H : Type} {enc : TypeId × Value → H} {P : Program} {w : World} {base : Nat} {spare : Nat → Bool} {held : Bool} {t e : TypeId} {fuel n0 : Nat} {ck : List CK} {v : Value} {x : DataW H × List MemPlace} (ht : P.underlying t = some (.slice e))
    (hk : flatK P n0 e = some ck) (hlen : ck.length = P.cellsOf e) (hpos : 0 < ck.length) (h : DataW.trod enc P w base spare held fuel t [v] = some x) :
    ∃ l cs, RowIn w v l cs ∧ rowsB ck l cs = true ∧ l ≤ 9223372036854775807 ∧ cs.all wfC = true := by
  rcases open_slice ht h with ⟨h0, _⟩ | ⟨a, len, cap, m, n, D, Pl, hcs, _, hl, hm, hmm, _, hx⟩
  · simp only [List.cons.injEq, and_true] at h0
    subst h0
    refine ⟨0, [], ⟨none, 0, rfl, fun h => absurd h (Nat.lt_irrefl 0), fun j x hx => by simp at hx⟩, ?_, Nat.zero_le _, rfl⟩
    unfold rowsB
    simp
  · simp only [List.cons.injEq, and_true] at hcs
    subst hcs
    have hlm : len ≤ m := by rw [hmm]; split <;> omega
    rw [← hlen] at hx
    generalize hK : ck.length = K at *
    have at_ : ∀ i, i < len → ∃ cs', cs'.length = K ∧ shapeW ck cs' ∧ ∀ r, r < K → w.cell? (a.add (i * K + r)) = cs'[r]? := fun i hi => by
      obtain ⟨cs', h1, h2⟩ := hx i (by omega)
      obtain ⟨_, q1, q2⟩ := World.cells?_some h1
      exact ⟨cs', q1, flat_ok hk h2, fun r hr => by rw [← Go.Deep.add_add]; exact q2 r hr⟩
    obtain ⟨V, hV⟩ := choose_lt (α := Value) (n := len * K) (p := fun j v => w.cell? (a.add j) = some v ∧ bareC v = true ∧ wfC v = true) (fun j hj => by
      have hi : j / K < len := Nat.div_lt_of_lt_mul (by rw [Nat.mul_comm]; exact hj)
      obtain ⟨cs', q1, q2, q3⟩ := at_ (j / K) hi
      have hr : j % K < K := Nat.mod_lt _ hpos
      have := q3 _ hr
      rw [Nat.mul_comm, Nat.div_add_mod, List.getElem?_eq_getElem (by omega)] at this
      exact ⟨_, this, List.all_eq_true.1 (shape_bare q2.1) _ (List.getElem_mem _), List.all_eq_true.1 q2.2 _ (List.getElem_mem _)⟩)
    have row : ∀ i, i < len → shapeB ck (recAt K ((List.range (len * K)).map fun j => canC (V j)) i) = true := fun i hi => by
      obtain ⟨cs', q1, q2, q3⟩ := at_ i hi
      have hle : i * K + K ≤ len * K := by rw [← Nat.succ_mul]; exact Nat.mul_le_mul_right _ hi
      have : recAt K ((List.range (len * K)).map fun j => canC (V j)) i = cs'.map canC := by
        refine List.ext_getElem? fun r => ?_
        unfold recAt
        by_cases hr : r < K
        · have h1 := (hV (i * K + r) (by omega)).1
          rw [q3 r hr] at h1
          rw [List.getElem?_take_of_lt hr, List.getElem?_drop, List.getElem?_map, List.getElem?_map, h1, List.getElem?_range (by omega)]
          rfl
        · rw [List.getElem?_eq_none (by simp; omega), List.getElem?_eq_none (by simp; omega)]
      rw [this]
      exact canC_shape q2.1
    refine ⟨len, (List.range (len * K)).map fun j => canC (V j), ⟨some a, cap, rfl, fun h0 => ?_, fun j x hx => ?_⟩, ?_, ?_, ?_⟩
    · have := (hV 0 (Nat.mul_pos h0 hpos)).1
      exact ⟨_, _, congrArg some (cell_spot (a := a) this).1⟩
    · rw [List.getElem?_map] at hx
      obtain ⟨j', hj', rfl⟩ := Option.map_eq_some_iff.1 hx
      obtain ⟨hj1, hj2⟩ := List.getElem?_eq_some_iff.1 hj'
      simp only [List.length_range] at hj1
      simp only [List.getElem_range] at hj2
      subst hj2
      have h0 := cell_spot (a := a) (hV 0 (by omega)).1
      have hj := (hV j hj1)
      refine ⟨a.block, a.off, V j, congrArg some h0.1, h0.2, ?_, canC_R hj.2.1⟩
      have ha : a.add j = ⟨a.block, a.off + j, none⟩ := by
        unfold Addr.add
        split
        · rename_i e; subst e; exact h0.1
        · rfl
      rw [← ha]
      exact hj.1
    · unfold rowsB
      rw [Bool.and_eq_true, hK]
      refine ⟨by rw [List.length_map, List.length_range]; exact Nat.beq_refl _, List.all_eq_true.2 fun i hi => row i (List.mem_range.1 hi)⟩
    · have : cap ≤ 9223372036854775807 := Nat.le_trans hm (of_decide_eq_true (by kernel_rfl))
      omega
    · rw [List.all_map, List.all_eq_true]
      intro j hj
      have h1 := (hV j (List.mem_range.1 hj)).2.2
      show wfC (canC (V j)) = true
      generalize V j = q at h1
      cases q <;> exact h1

end Go.Proofs.Ytljmhdaphpdkgaa
end
