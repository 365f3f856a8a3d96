/-
  The second part of a symbolic executor over the evaluator: values, floats; nothing of one program stands here. No condition.
-/
import Derived.Test.YtljmhdaphpdkgaaSa
set_option linter.unusedSectionVars false
noncomputable section
namespace Sx
open Go Ev

/-! ### What a symbolic value stands for -/
mutual
def conc (g : Nat → Vl) : SV → Value
  | .lit v => v
  | .b i => .bool (g i).tr
  | .f k i => .float k (g i).nat
  | .n k i => .int k (g i).z
  | .s i => .string (strOf (g i).z)
  | .ptr b o => .pointer (some ⟨b, o, none⟩)
  | .slice b o l c => .slice (some ⟨b, o, none⟩) l c
  | .func fn fs cs => .func fn (concL g fs).toArray (concL g cs).toArray
  | .agg l => .agg (concL g l).toArray
  | .tuple l => .tuple (concL g l).toArray
def concL (g : Nat → Vl) : List SV → List Value
  | [] => []
  | x :: r => conc g x :: concL g r
end
theorem concL_map (g : Nat → Vl) : ∀ l, concL g l = l.map (conc g)
  | [] => rfl
  | x :: r => by rw [concL, List.map_cons, concL_map g r]

section
variable {F : Tab} {ρ : Nat → Int} {U : Nat → Vl → Vl}
abbrev cv (F : Tab) (ρ : Nat → Int) (U : Nat → Vl → Vl) : SV → Value := conc (raw F ρ U)
abbrev cvl (F : Tab) (ρ : Nat → Int) (U : Nat → Vl → Vl) (l : List SV) : List Value := l.map (conc (raw F ρ U))
theorem cv_lit (v : Value) : cv F ρ U (.lit v) = v := by simp only [cv, conc]
theorem cv_b (i : Nat) : cv F ρ U (.b i) = .bool (tv F ρ U i) := by simp only [cv, conc]
theorem cv_f (k : FloatKind) (i : Nat) : cv F ρ U (.f k i) = .float k (raw F ρ U i).nat := by simp only [cv, conc]
theorem cv_n (k : IntKind) (i : Nat) : cv F ρ U (.n k i) = .int k (raw F ρ U i).z := by simp only [cv, conc]
theorem cv_s (i : Nat) : cv F ρ U (.s i) = .string (strOf (raw F ρ U i).z) := by simp only [cv, conc]
theorem cv_ptr (b o : Nat) : cv F ρ U (.ptr b o) = .pointer (some ⟨b, o, none⟩) := by simp only [cv, conc]
theorem cv_slice (b o l c : Nat) : cv F ρ U (.slice b o l c) = .slice (some ⟨b, o, none⟩) l c := by simp only [cv, conc]
theorem cv_func (fn : Fn) (fs cs : List SV) : cv F ρ U (.func fn fs cs) = .func fn (cvl F ρ U fs).toArray (cvl F ρ U cs).toArray := by simp only [cv, cvl, conc, concL_map]
theorem cv_agg (l : List SV) : cv F ρ U (.agg l) = .agg (cvl F ρ U l).toArray := by simp only [cv, cvl, conc, concL_map]
theorem cv_tuple (l : List SV) : cv F ρ U (.tuple l) = .tuple (cvl F ρ U l).toArray := by simp only [cv, cvl, conc, concL_map]
theorem map_lit (l : List Value) : cvl F ρ U (l.map .lit) = l := by
  unfold cvl
  rw [List.map_map]
  refine (List.map_congr_left fun v _ => ?_).trans (List.map_id l)
  exact cv_lit v
theorem cells_spec (x : SV) : cvl F ρ U x.cells = (cv F ρ U x).cells.toList := by
  cases x with
  | agg l => rw [cv_agg]; rfl
  | lit v => rw [cv_lit]; exact map_lit _
  | b i => rw [cv_b]; simp only [SV.cells, cvl, List.map_cons, List.map_nil, Value.cells]; rw [show conc (raw F ρ U) (.b i) = _ from cv_b i]
  | f k i => rw [cv_f]; simp only [SV.cells, cvl, List.map_cons, List.map_nil, Value.cells]; rw [show conc (raw F ρ U) (.f k i) = _ from cv_f k i]
  | n k i => rw [cv_n]; simp only [SV.cells, cvl, List.map_cons, List.map_nil, Value.cells]; rw [show conc (raw F ρ U) (.n k i) = _ from cv_n k i]
  | s i => rw [cv_s]; simp only [SV.cells, cvl, List.map_cons, List.map_nil, Value.cells]; rw [show conc (raw F ρ U) (.s i) = _ from cv_s i]
  | ptr b o => rw [cv_ptr]; simp only [SV.cells, cvl, List.map_cons, List.map_nil, Value.cells]; rw [show conc (raw F ρ U) (.ptr b o) = _ from cv_ptr b o]
  | slice b o l c => rw [cv_slice]; simp only [SV.cells, cvl, List.map_cons, List.map_nil, Value.cells]; rw [show conc (raw F ρ U) (.slice b o l c) = _ from cv_slice b o l c]
  | func fn fs cs => rw [cv_func]; simp only [SV.cells, cvl, List.map_cons, List.map_nil, Value.cells]; rw [show conc (raw F ρ U) (.func fn fs cs) = _ from cv_func fn fs cs]
  | tuple l => rw [cv_tuple]; simp only [SV.cells, cvl, List.map_cons, List.map_nil, Value.cells]; rw [show conc (raw F ρ U) (.tuple l) = _ from cv_tuple l]

theorem sameK_eq {k k' : FloatKind} (h : sameK k k' = true) : k = k' := by cases k <;> cases k' <;> first | rfl | cases h
theorem sameI_eq {k k' : IntKind} (h : sameI k k' = true) : k = k' := by cases k <;> cases k' <;> first | rfl | cases h
theorem asB_spec (hB : Base F ρ U) {x : SV} {i : Nat} (h : asB x = some i) : cv F ρ U x = .bool (tv F ρ U i) := by
  unfold asB at h
  split at h
  · cases h; exact cv_b _
  · cases h; rw [cv_lit, hB.t1]
  · cases h; rw [cv_lit, hB.t0]
  · cases h
theorem optB (hB : Base F ρ U) {x : SV} : Spec F (opt (asB x)) (fun i => cv F ρ U x = .bool (tv F ρ U i)) := Spec.opt.mono fun _ h => asB_spec hB h
theorem asF_spec {x : SV} {k : FloatKind} (h : isF x = some k) : Spec F (asF x) (fun i => cv F ρ U x = .float k (raw F ρ U i).nat) := by
  unfold isF at h
  split at h
  · cases h; exact Spec.ret (cv_f _ _)
  · cases h
    refine (mkP_spec (ρ := ρ) (U := U) (by decide)).mono fun i e => ?_
    rw [e, op0, cv_lit]; rfl
  · cases h
theorem asI_spec {x : SV} {k : IntKind} (h : isI x = some k) : Spec F (asI x) (fun i => cv F ρ U x = .int k (raw F ρ U i).z) := by
  unfold isI at h
  split at h
  · cases h; exact Spec.ret (cv_n _ _)
  · rename_i k' z
    cases h
    rw [cv_lit]
    cases z with
    | ofNat z =>
      refine (mkP_spec (ρ := ρ) (U := U) (by decide)).mono fun i e => ?_
      rw [e, op0]; rfl
    | negSucc z =>
      refine (mkP_spec (ρ := ρ) (U := U) (by decide)).mono fun i e => ?_
      rw [e, op1]; rfl
  · cases h

theorem litEq_spec {a b : Value} (h : litEq a b = true) : a = b := by
  unfold litEq at h
  split at h
  · rw [beq_iff_eq] at h; rw [h]
  · rw [Bool.and_eq_true] at h; rw [sameI_eq h.1, of_decide_eq_true h.2]
  · rw [Bool.and_eq_true] at h; rw [sameK_eq h.1, beqT h.2]
  · rfl
  · rfl
  · rfl
  · rfl
  · rw [Bool.and_eq_true] at h; rw [beqT h.1, beqT h.2]
  · rw [of_decide_eq_true h]
  · simp only [Bool.and_eq_true] at h
    rw [beqT h.1, beqT h.2.1, beqT h.2.2.1, beqT h.2.2.2.1, beqT h.2.2.2.2]
  · cases h
theorem allEq_spec {eq : SV → SV → Bool} {g : Nat → Vl} (he : ∀ x y, eq x y = true → conc g x = conc g y) : ∀ {l m : List SV}, allEq eq l m = true → l.map (conc g) = m.map (conc g)
  | [], [], _ => rfl
  | x :: r, y :: s, h => by
    rw [allEq, Bool.and_eq_true] at h
    rw [List.map_cons, List.map_cons, he x y h.1, allEq_spec he h.2]
  | [], _ :: _, h => by cases h
  | _ :: _, [], h => by cases h
theorem fnEq_spec {a b : Fn} (h : fnEq a b = true) : a = b := by
  unfold fnEq at h
  split at h
  · rw [beqT h]
  · cases h
theorem eqSV_spec : ∀ (n : Nat) {x y : SV}, eqSV n x y = true → cv F ρ U x = cv F ρ U y
  | 0, _, _, h => by cases h
  | n + 1, x, y, h => by
    have ih := fun x y h => @eqSV_spec n x y h
    unfold eqSV at h
    split at h
    · rw [litEq_spec h]
    · rw [beqT h]
    · rw [Bool.and_eq_true] at h; rw [sameK_eq h.1, beqT h.2]
    · rw [Bool.and_eq_true] at h; rw [sameI_eq h.1, beqT h.2]
    · rw [beqT h]
    · rw [Bool.and_eq_true] at h; rw [beqT h.1, beqT h.2]
    · simp only [Bool.and_eq_true] at h; rw [beqT h.1, beqT h.2.1, beqT h.2.2.1, beqT h.2.2.2]
    · simp only [Bool.and_eq_true] at h
      rw [cv_func, cv_func, fnEq_spec h.1, cvl, cvl, cvl, cvl, allEq_spec ih h.2.1, allEq_spec ih h.2.2]
    · rw [cv_agg, cv_agg, cvl, cvl, allEq_spec ih h]
    · rw [cv_tuple, cv_tuple, cvl, cvl, allEq_spec ih h]
    · cases h

/-! ### what joins -/
/-- by the decision -/
abbrev by_ {α : Type} (F : Tab) (ρ : Nat → Int) (U : Nat → Vl → Vl) (c : Nat) (x y : α) : α := bif tv F ρ U c then x else y
theorem mergeL_spec {c : Nat} {mv : SV → SV → M SV} (hm : ∀ x y, Spec F (mv x y) (fun r => cv F ρ U r = by_ F ρ U c (cv F ρ U x) (cv F ρ U y))) :
    ∀ (l m : List SV), Spec F (mergeL mv l m) (fun r => cvl F ρ U r = by_ F ρ U c (cvl F ρ U l) (cvl F ρ U m))
  | [], [] => Spec.ret (by simp [cvl, by_])
  | x :: r, y :: s => by
    unfold mergeL
    refine Spec.bnd (hm x y) fun z => Spec.bnd (mergeL_spec hm r s) fun q => Spec.ret fun h1 h2 => ?_
    simp only [cvl, List.map_cons] at h1 ⊢
    rw [h1, show conc (raw F ρ U) z = _ from h2]
    unfold by_
    cases tv F ρ U c <;> rfl
  | [], _ :: _ => Spec.non
  | _ :: _, [] => Spec.non
theorem by_bool {c : Nat} {x y : Bool} : Value.bool (by_ F ρ U c x y) = by_ F ρ U c (.bool x) (.bool y) := by unfold by_; cases tv F ρ U c <;> rfl
theorem mergeN_spec (hB : Base F ρ U) {c : Nat} {x y : SV} : Spec F (mergeN c x y) (fun r => cv F ρ U r = by_ F ρ U c (cv F ρ U x) (cv F ρ U y)) := by
  unfold mergeN
  split
  · rename_i k k' hx hy
    refine Spec.gd fun hk => Spec.bnd (asI_spec (ρ := ρ) (U := U) hx) fun i => Spec.bnd (asI_spec (ρ := ρ) (U := U) hy) fun j => Spec.bnd (ite_spec hB) fun r => Spec.ret fun h1 h2 h3 => ?_
    rw [cv_n, h1, h2, h3, ← sameI_eq hk]
    unfold by_ tv
    cases (raw F ρ U c).tr <;> rfl
  · exact Spec.non
theorem mergeF_spec (hB : Base F ρ U) {c : Nat} {x y : SV} : Spec F (mergeF c x y) (fun r => cv F ρ U r = by_ F ρ U c (cv F ρ U x) (cv F ρ U y)) := by
  unfold mergeF
  split
  · rename_i k k' hx hy
    refine Spec.gd fun hk => Spec.bnd (asF_spec (ρ := ρ) (U := U) hx) fun i => Spec.bnd (asF_spec (ρ := ρ) (U := U) hy) fun j => Spec.bnd (selS_spec hB 8 c i j) fun r => Spec.ret fun h1 h2 h3 => ?_
    have h1 : raw F ρ U r = if (raw F ρ U c).tr then raw F ρ U i else raw F ρ U j := h1
    rw [cv_f, h1, h2, h3, ← sameK_eq hk]
    unfold by_ tv
    cases (raw F ρ U c).tr <;> rfl
  · exact mergeN_spec hB
theorem mergeSc_spec (hB : Base F ρ U) {c : Nat} {x y : SV} : Spec F (mergeSc c x y) (fun r => cv F ρ U r = by_ F ρ U c (cv F ρ U x) (cv F ρ U y)) := by
  unfold mergeSc
  split
  · rename_i i j hx hy
    refine Spec.bnd (ite_tv hB) fun r => Spec.ret fun h1 => ?_
    rw [cv_b, h1, asB_spec hB hx, asB_spec hB hy]
    exact by_bool
  · exact mergeF_spec hB
theorem mergeK_spec (hB : Base F ρ U) {mv : SV → SV → M SV} {c : Nat} (hm : ∀ x y, Spec F (mv x y) (fun r => cv F ρ U r = by_ F ρ U c (cv F ρ U x) (cv F ρ U y))) {x y : SV} :
    Spec F (mergeK mv c x y) (fun r => cv F ρ U r = by_ F ρ U c (cv F ρ U x) (cv F ρ U y)) := by
  unfold mergeK
  split
  · refine Spec.bnd (mergeL_spec hm _ _) fun r => Spec.ret fun h => ?_
    rw [cv_agg, cv_agg, cv_agg, h]
    unfold by_
    cases tv F ρ U c <;> rfl
  · refine Spec.bnd (mergeL_spec hm _ _) fun r => Spec.ret fun h => ?_
    rw [cv_tuple, cv_tuple, cv_tuple, h]
    unfold by_
    cases tv F ρ U c <;> rfl
  · exact mergeSc_spec hB
theorem mergeV_spec (hB : Base F ρ U) : ∀ (n c : Nat) (x y : SV), Spec F (mergeV n c x y) (fun r => cv F ρ U r = by_ F ρ U c (cv F ρ U x) (cv F ρ U y))
  | 0, _, _, _ => Spec.non
  | n + 1, c, x, y => by
    unfold mergeV
    refine Spec.bif (fun h => Spec.ret ?_) fun _ => mergeK_spec hB (mergeV_spec hB n c)
    rw [eqSV_spec 5 h]
    unfold by_
    cases tv F ρ U c <;> rfl

/-! ### states -/
def SlotR (F : Tab) (ρ : Nat → Int) (U : Nat → Vl → Vl) (s : Slot) (p : Value × Bool) : Prop := ∀ v d, s = some (v, d) → bif tv F ρ U d then p = (cv F ρ U v, true) else p.2 = false
abbrev hpc (F : Tab) (ρ : Nat → Int) (U : Nat → Vl → Vl) (h : HeapS) : Heap := h.map (Option.map (List.map (conc (raw F ρ U))))
structure StR (F : Tab) (ρ : Nat → Int) (U : Nat → Vl → Vl) (s : SSt) (st : St) : Prop where
  ok : st.ok = true
  len : s.tmps.n = st.tmps.length ∧ s.tmps.n ≤ 4 ^ s.tmps.d
  tm : ∀ i, SlotR F ρ U (getTm s.tmps i) (st.tmps.getD i (undef, false))
  hp : st.heap = hpc F ρ U s.heap
theorem SlotR.none {p : Value × Bool} : SlotR F ρ U none p := fun _ _ h => by cases h
theorem try_spec {α : Type} {m : M α} {Q : α → Prop} (h : Spec F m Q) : Spec F (tryM m) (fun o => ∀ a, o = some a → Q a) := fun t o t' e hF => by
  unfold tryM at e
  cases hm : m t with
  | none =>
    rw [hm] at e
    cases e
    exact ⟨hF, fun c => ⟨c, fun _ h => by cases h⟩⟩
  | some r =>
    obtain ⟨a, t1⟩ := r
    rw [hm] at e
    cases e
    exact h.via hm hF fun _ h2 b hb => by cases hb; exact h2
theorem mergeSlot_spec (hB : Base F ρ U) {c : Nat} {x y : Slot} : Spec F (mergeSlot c x y) (fun r => ∀ p, SlotR F ρ U (by_ F ρ U c x y) p → SlotR F ρ U r p) := by
  unfold mergeSlot
  split
  · rename_i v d w e
    have key : Spec F (bnd (mergeV 5 c v w) fun z => bnd (ite c d e) fun g => ret (z, g)) (fun r => cv F ρ U r.1 = by_ F ρ U c (cv F ρ U v) (cv F ρ U w) ∧ tv F ρ U r.2 = by_ F ρ U c (tv F ρ U d) (tv F ρ U e)) :=
      Spec.bnd (mergeV_spec hB 5 c v w) fun z => Spec.bnd (ite_tv hB) fun g => Spec.ret fun h1 h2 => ⟨h2, h1⟩
    refine (try_spec key).mono fun o ho p hp v' d' he => ?_
    obtain ⟨h1, h2⟩ := ho _ he
    simp only at h1 h2
    rw [h1, h2]
    unfold by_ at hp ⊢
    cases hc : tv F ρ U c with
    | true => rw [hc] at hp; exact hp v d rfl
    | false => rw [hc] at hp; exact hp w e rfl
  · exact Spec.ret fun _ _ => SlotR.none
theorem mergeTS_spec (hB : Base F ρ U) {c : Nat} : ∀ (k : Nat) (a b : TS (SV × Nat)), Spec F (mergeTS c k a b) (fun l => ∀ i p, SlotR F ρ U (by_ F ρ U c (getS k a i) (getS k b i)) p → SlotR F ρ U (getS k l i) p)
  | k, a, b => by
    have dflt : Spec F (ret (TS.nil : TS (SV × Nat))) (fun l => ∀ i p, SlotR F ρ U (by_ F ρ U c (getS k a i) (getS k b i)) p → SlotR F ρ U (getS k l i) p) :=
      Spec.ret fun i p _ => by rw [getS_nil]; exact SlotR.none
    unfold mergeTS
    split
    · exact Spec.bnd (mergeSlot_spec hB) fun z => Spec.ret fun h i p hp => h p hp
    · rename_i k x0 x1 x2 x3 y0 y1 y2 y3
      refine Spec.bnd (mergeTS_spec hB k x0 y0) fun z0 => Spec.bnd (mergeTS_spec hB k x1 y1) fun z1 => Spec.bnd (mergeTS_spec hB k x2 y2) fun z2 => Spec.bnd (mergeTS_spec hB k x3 y3) fun z3 => Spec.ret fun h3 h2 h1 h0 i p hp => ?_
      have nd : ∀ a b c d : TS (SV × Nat), getS (k + 1) (.node a b c d) i = bif Nat.ble (Nat.mod i 4) 1 then (bif Nat.beq (Nat.mod i 4) 0 then getS k a (Nat.div i 4) else getS k b (Nat.div i 4)) else (bif Nat.beq (Nat.mod i 4) 2 then getS k c (Nat.div i 4) else getS k d (Nat.div i 4)) := fun a b c d => four_eq ..
      rw [show k.succ = k + 1 from rfl, nd] at *
      rw [nd] at hp
      cases e1 : Nat.ble (Nat.mod i 4) 1 with
      | true =>
        cases e2 : Nat.beq (Nat.mod i 4) 0 with
        | true => simp only [e1, e2, cond_true] at hp; exact h0 _ p hp
        | false => simp only [e1, e2, cond_true, cond_false] at hp; exact h1 _ p hp
      | false =>
        cases e2 : Nat.beq (Nat.mod i 4) 2 with
        | true => simp only [e1, e2, cond_true, cond_false] at hp; exact h2 _ p hp
        | false => simp only [e1, e2, cond_false] at hp; exact h3 _ p hp
    · exact dflt
theorem mergeSlots_spec (hB : Base F ρ U) {c : Nat} (a b : TmS) : Spec F (mergeSlots c a b) (fun l => (l.n = a.n ∧ l.d = a.d) ∧ (l.n = b.n ∧ l.d = b.d) ∧ ∀ i p, SlotR F ρ U (getTm (by_ F ρ U c a b) i) p → SlotR F ρ U (getTm l i) p) := by
  obtain ⟨n, d, t⟩ := a
  obtain ⟨n', d', t'⟩ := b
  unfold mergeSlots
  refine Spec.gd fun hc => Spec.bnd (mergeTS_spec hB d t t') fun r => Spec.ret fun h => ?_
  rw [Bool.and_eq_true] at hc
  have e1 : n = n' := Nat.eq_of_beq_eq_true hc.1
  have e2 : d = d' := Nat.eq_of_beq_eq_true hc.2
  subst e1 e2
  refine ⟨⟨rfl, rfl⟩, ⟨rfl, rfl⟩, fun i p hp => ?_⟩
  show SlotR F ρ U (bif Nat.blt i n then getS d r i else none) p
  cases hb : Nat.blt i n with
  | false => exact SlotR.none
  | true =>
    rw [cond_true]
    refine h i p ?_
    unfold by_ at hp ⊢
    cases hc : tv F ρ U c with
    | true =>
      rw [hc] at hp
      have hp : SlotR F ρ U (bif Nat.blt i n then getS d t i else none) p := hp
      rw [hb] at hp; exact hp
    | false =>
      rw [hc] at hp
      have hp : SlotR F ρ U (bif Nat.blt i n then getS d t' i else none) p := hp
      rw [hb] at hp; exact hp
theorem mergeRow_spec (hB : Base F ρ U) {c : Nat} {a b : Option (List SV)} : Spec F (mergeRow c a b) (fun r => r.map (cvl F ρ U) = by_ F ρ U c (a.map (cvl F ρ U)) (b.map (cvl F ρ U))) := by
  unfold mergeRow
  split
  · exact Spec.ret (by unfold by_; cases tv F ρ U c <;> rfl)
  · refine Spec.bnd (mergeL_spec (mergeV_spec hB 5 c) _ _) fun l => Spec.ret fun h => ?_
    rw [Option.map_some, h]
    unfold by_
    cases tv F ρ U c <;> rfl
  · exact Spec.non
theorem mergeHeap_spec (hB : Base F ρ U) {c : Nat} : ∀ (a b : HeapS), Spec F (mergeHeap c a b) (fun l => hpc F ρ U l = by_ F ρ U c (hpc F ρ U a) (hpc F ρ U b))
  | [], [] => Spec.ret (by unfold by_; cases tv F ρ U c <;> rfl)
  | x :: r, y :: s => by
    unfold mergeHeap
    refine Spec.bnd (mergeRow_spec hB) fun z => Spec.bnd (mergeHeap_spec hB r s) fun l => Spec.ret fun h1 h2 => ?_
    have h2 : z.map (List.map (conc (raw F ρ U))) = _ := h2
    rw [hpc, List.map_cons, h2, show l.map (Option.map (List.map (conc (raw F ρ U)))) = _ from h1]
    unfold by_
    cases tv F ρ U c <;> rfl
  | [], _ :: _ => Spec.non
  | _ :: _, [] => Spec.non
theorem mergeSt_spec (hB : Base F ρ U) {c : Nat} {a b : SSt} : Spec F (mergeSt c a b) (fun m => ∀ st, StR F ρ U (by_ F ρ U c a b) st → StR F ρ U m st) := by
  unfold mergeSt
  refine Spec.bnd (mergeSlots_spec hB _ _) fun l => Spec.bnd (mergeHeap_spec hB _ _) fun h => Spec.ret fun h1 h2 st hs => ?_
  obtain ⟨l1, l2, l3⟩ := h2
  unfold by_ at h1 l3 hs
  cases hc : tv F ρ U c with
  | true =>
    rw [hc] at h1 l3 hs
    exact ⟨hs.ok, ⟨l1.1.trans hs.len.1, by rw [l1.1, l1.2]; exact hs.len.2⟩, fun i => l3 i _ (hs.tm i), hs.hp.trans h1.symm⟩
  | false =>
    rw [hc] at h1 l3 hs
    exact ⟨hs.ok, ⟨l2.1.trans hs.len.1, by rw [l2.1, l2.2]; exact hs.len.2⟩, fun i => l3 i _ (hs.tm i), hs.hp.trans h1.symm⟩

/-! ### reading -/
theorem evS_spec (hB : Base F ρ U) {s : SSt} {st : St} (hs : StR F ρ U s st) (x : Operand) : SlotR F ρ U (evS s.tmps x) (evl st.tmps x) := by
  cases x with
  | tmp i => exact hs.tm i
  | const v =>
    intro w d h
    have h : (bif canonB v then some (SV.lit v, 1) else none) = some (w, d) := h
    cases hc : canonB v with
    | false => rw [hc] at h; cases h
    | true =>
      rw [hc] at h
      cases h
      rw [hB.t1, cv_lit]
      show (v, canonB v) = (v, true)
      rw [hc]
  | func f =>
    intro w d h
    cases h
    rw [hB.t1, cv_func]
    rfl
  | global g => exact SlotR.none
theorem hasPC_spec {f : Nat} : ∀ {pc : PC}, hasPC f pc = true → pcH F ρ U pc → tv F ρ U f = true
  | (g, b) :: r, h, hp => by
    rw [hasPC, Bool.or_eq_true, Bool.and_eq_true] at h
    rcases h with ⟨h1, h2⟩ | h
    · have := hp (g, b) List.mem_cons_self
      rw [h1] at this
      rw [beqT h2]; exact this
    · exact hasPC_spec h hp.tail
theorem hasNo_spec {f : Nat} : ∀ {pc : PC}, hasNo f pc = true → pcH F ρ U pc → tv F ρ U f = false
  | (g, b) :: r, h, hp => by
    rw [hasNo, Bool.or_eq_true, Bool.and_eq_true, Bool.not_eq_true'] at h
    rcases h with ⟨h1, h2⟩ | h
    · have := hp (g, b) List.mem_cons_self
      rw [h1] at this
      rw [beqT h2]; exact this
    · exact hasNo_spec h hp.tail
theorem knowS_spec (hB : Base F ρ U) {pc : PC} {f : Nat} : Spec F (knowS pc f) (fun g => pcH F ρ U pc → tv F ρ U g = tv F ρ U f) := fun t g t' e hF => by
  unfold knowS at e
  cases h0 : oneD t f with
  | true => rw [h0, cond_true] at e; exact simpS_spec hB t g t' e hF
  | false =>
  rw [h0, cond_false] at e
  cases h1 : hasPC f pc with
  | true =>
    rw [h1, cond_true] at e
    cases e
    exact ⟨hF, fun c => ⟨c, fun hp => by rw [hB.t1, hasPC_spec h1 hp]⟩⟩
  | false =>
  rw [h1, cond_false] at e
  cases h2 : hasNo f pc with
  | true =>
    rw [h2, cond_true] at e
    cases e
    exact ⟨hF, fun c => ⟨c, fun hp => by rw [hB.t0, hasNo_spec h2 hp]⟩⟩
  | false =>
    rw [h2, cond_false] at e
    have key : Spec F (bnd (notS f) fun nf => bif hasPC nf pc then ret 0 else bif hasNo nf pc then ret 1 else simpS pc f) (fun g => pcH F ρ U pc → tv F ρ U g = tv F ρ U f) := by
      refine Spec.bnd (notS_spec hB) fun nf => Spec.bif (fun h => Spec.ret fun hn hp => ?_) fun _ => Spec.bif (fun h => Spec.ret fun hn hp => ?_) fun _ => (simpS_spec hB).mono fun _ h _ => h
      · have := hasPC_spec h hp
        rw [hn] at this
        rw [hB.t0]
        cases hf : tv F ρ U f <;> rw [hf] at this <;> first | rfl | cases this
      · have := hasNo_spec h hp
        rw [hn] at this
        rw [hB.t1]
        cases hf : tv F ρ U f <;> rw [hf] at this <;> first | rfl | cases this
    exact key t g t' e hF

theorem viewF_spec (hB : Base F ρ U) : ∀ (n : Nat) (pc : PC) (i : Nat), Spec F (viewF n pc i) (fun r => pcH F ρ U pc → raw F ρ U r = raw F ρ U i)
  | 0, _, _ => Spec.ret fun _ => rfl
  | n + 1, pc, i => by
    intro t r t' e hF
    unfold viewF at e
    cases h4 : Nat.beq (opAt t i) 4 with
    | false =>
      rw [h4, cond_false] at e
      cases e
      exact ⟨hF, fun c => ⟨c, fun _ => rfl⟩⟩
    | true =>
      rw [h4, cond_true, force_eq] at e
      have key : Spec F (bif hasPC (aOf (nodeAt t i)) pc then viewF n pc (bOf (nodeAt t i)) else bif hasNo (aOf (nodeAt t i)) pc then viewF n pc (cOf (nodeAt t i)) else
          bnd (notS (aOf (nodeAt t i))) fun c => bif hasPC c pc then viewF n pc (cOf (nodeAt t i)) else bif hasNo c pc then viewF n pc (bOf (nodeAt t i)) else ret i)
          (fun r => pcH F ρ U pc → raw F ρ U i = (if tv F ρ U (aOf (nodeAt t i)) then raw F ρ U (bOf (nodeAt t i)) else raw F ρ U (cOf (nodeAt t i))) → raw F ρ U r = raw F ρ U i) :=
        Spec.bif (fun h => (viewF_spec hB n pc _).mono fun r k hp hi => by rw [k hp, hi, hasPC_spec h hp]; rfl) fun _ =>
        Spec.bif (fun h => (viewF_spec hB n pc _).mono fun r k hp hi => by rw [k hp, hi, hasNo_spec h hp]; rfl) fun _ =>
        Spec.bnd (notS_spec hB) fun c => Spec.bif (fun h => (viewF_spec hB n pc _).mono fun r k q hp hi => by
            have h1 := hasPC_spec h hp
            rw [q] at h1
            have h2 : tv F ρ U (aOf (nodeAt t i)) = false := by cases hc : tv F ρ U (aOf (nodeAt t i)) <;> rw [hc] at h1 <;> first | rfl | cases h1
            rw [k hp, hi, h2]; rfl) fun _ => Spec.bif (fun h => (viewF_spec hB n pc _).mono fun r k q hp hi => by
            have h1 := hasNo_spec h hp
            rw [q] at h1
            have h2 : tv F ρ U (aOf (nodeAt t i)) = true := by cases hc : tv F ρ U (aOf (nodeAt t i)) <;> rw [hc] at h1 <;> first | rfl | cases h1
            rw [k hp, hi, h2]; rfl) fun _ => Spec.ret fun _ _ _ => rfl
      refine Spec.via key e hF fun h1 h2 hp => h2 hp ?_
      obtain ⟨g1, g2⟩ := opAt_spec (beqT h4) (by decide)
      rw [raw_at h1 g1]
      unfold nodeVal
      rw [g2, op4]
theorem seeS_spec (hB : Base F ρ U) {pc : PC} {v : SV} : Spec F (seeS pc v) (fun r => pcH F ρ U pc → cv F ρ U r = cv F ρ U v) := by
  unfold seeS
  split
  · rename_i c r k i
    refine Spec.bnd (viewF_spec hB 4 (c :: r) i) fun j => Spec.ret fun h hp => ?_
    rw [cv_f, cv_f, h hp]
  · exact Spec.ret fun _ => rfl
/-- read, and defined on this way -/
theorem rdS_spec (hB : Base F ρ U) {pc : PC} {tm : TmS} {x : Operand} : Spec F (rdS pc tm x) (fun v => ∀ h st, StR F ρ U ⟨tm, h⟩ st → pcH F ρ U pc → evl st.tmps x = (cv F ρ U v, true)) := by
  unfold rdS
  split
  · rename_i v d he
    refine Spec.bnd (needS_spec hB) fun _ => (seeS_spec hB).mono fun w h0 h1 h st hs hp => ?_
    have := evS_spec hB hs x v d he
    rw [h1 hp] at this
    rw [h0 hp]
    exact this
  · exact Spec.non
theorem rdL_spec (hB : Base F ρ U) {pc : PC} {tm : TmS} : ∀ (l : List Operand), Spec F (rdL pc tm l) (fun m => ∀ h st, StR F ρ U ⟨tm, h⟩ st → pcH F ρ U pc → l.map (evl st.tmps) = (cvl F ρ U m).map fun v => (v, true))
  | [] => Spec.ret fun _ _ _ _ => rfl
  | x :: r => by
    unfold rdL
    refine Spec.bnd (rdS_spec hB) fun v => Spec.bnd (rdL_spec hB r) fun l => Spec.ret fun h1 h2 h st hs hp => ?_
    rw [List.map_cons, h2 h st hs hp, h1 h st hs hp]
    rfl
end
end Sx
end
noncomputable section
namespace Sx
open Go Ev Ieee

/-! ### the order of floats -/
theorem cmpI_swap (a b : Int) : compare b a = (compare a b).swap := (Int.compare_swap a b).symm
theorem cmpN_swap (a b : Nat) : compare b a = (compare a b).swap := (Nat.compare_swap a b).symm
theorem order_swap (d e : Datum) : e.order d = (d.order e).map Ordering.swap := by
  cases d with
  | nan g t => cases e <;> rfl
  | infinity g =>
    cases e with
    | nan h t => rfl
    | infinity h => simp only [Datum.order, Option.map_some]; rw [cmpN_swap]
    | number h m i => cases g <;> rfl
  | number g m i =>
    cases e with
    | nan h t => rfl
    | infinity h => cases h <;> rfl
    | number h n j =>
      simp only [Datum.order, Option.map_some]
      rw [Int.min_comm j i, cmpI_swap]
theorem ford_swap (k : FloatKind) (x y : Nat) : k.format.order y x = (k.format.order x y).map Ordering.swap := order_swap _ _
theorem fgt_swap (k : FloatKind) (x y : Nat) : fgt k y x = flt k x y := by
  unfold fgt flt
  rw [ford_swap k x y]
  cases k.format.order x y with
  | none => rfl
  | some o => cases o <;> rfl
theorem fge_swap (k : FloatKind) (x y : Nat) : fge k y x = fle k x y := by
  unfold fge fle
  rw [ford_swap k x y]
  cases k.format.order x y with
  | none => rfl
  | some o => cases o <;> rfl
theorem feq_swap (k : FloatKind) (x y : Nat) : feq k y x = feq k x y := by
  unfold feq
  rw [ford_swap k x y]
  cases k.format.order x y with
  | none => rfl
  | some o => cases o <;> rfl
theorem fne_eq (k : FloatKind) (x y : Nat) : fne k x y = !feq k x y := rfl
theorem order_N {k : FloatKind} {x : Nat} (h : isN k x = true) (y : Nat) : k.format.order x y = none := by
  unfold Format.order
  unfold isN at h
  cases hr : k.format.read x with
  | nan g t => rfl
  | infinity g => rw [hr] at h; cases h
  | number g m e => rw [hr] at h; cases h
theorem self_ord (k : FloatKind) (x : Nat) : k.format.order x x = bif isN k x then none else some .eq := by
  cases h : isN k x with
  | true => exact order_N h x
  | false =>
    have := order_self h
    exact this
theorem fin_cmp {a : Nat} (h : fge .f32 a 0 = true) : fle .f32 a 2139095039 = finB a := by
  have h0 : single.read 0 = .number false 0 (-149) := by decide +kernel
  have hm : single.read 2139095039 = .number false 16777215 104 := by decide +kernel
  have h : (single.order a 0 == some .gt || single.order a 0 == some .eq) = true := h
  show (single.order a 2139095039 == some .lt || single.order a 2139095039 == some .eq) = _
  unfold finB
  unfold Format.order at h ⊢
  rw [h0] at h
  rw [hm]
  rcases read_single a with ⟨g, m, e, hr, h1, h2, h3⟩ | ⟨g, hr⟩ | ⟨g, t, hr⟩
  · rw [hr]
    simp only [Datum.order]
    rw [Int.min_eq_left (by omega)]
    have a1 : (e - e).toNat = 0 := by omega
    obtain ⟨d, hd⟩ : ∃ d : Nat, 104 = e + d := ⟨(104 - e).toNat, by omega⟩
    have a2 : (104 - e).toNat = d := by omega
    rw [a1, a2]
    have hp : 1 ≤ 2 ^ d := Nat.one_le_two_pow
    have hle : m ≤ 16777215 * 2 ^ d := by
      calc m ≤ 16777215 * 1 := by omega
        _ ≤ 16777215 * 2 ^ d := Nat.mul_le_mul_left _ hp
    have key : signed g m 0 ≤ signed false 16777215 d := by
      have e2 : signed false 16777215 d = ((16777215 * 2 ^ d : Nat) : Int) := by
        unfold signed
        rw [Nat.shiftLeft_eq]
        rfl
      rw [e2]
      have e3 : signed g m 0 = if g then -((m : Nat) : Int) else ((m : Nat) : Int) := by
        unfold signed
        rw [Nat.shiftLeft_eq, Nat.pow_zero, Nat.mul_one]
      rw [e3]
      generalize 16777215 * 2 ^ d = z at hle
      cases g with
      | false => exact Int.ofNat_le.2 hle
      | true =>
        rw [if_pos rfl]
        omega
    rcases Int.lt_or_eq_of_le key with hl | hl
    · rw [Int.compare_eq_lt.2 hl]; rfl
    · rw [Int.compare_eq_eq.2 hl]; rfl
  · rw [hr] at h ⊢
    cases g with
    | true => exact absurd h (by decide)
    | false => rfl
  · rw [hr]; rfl

/-! ### the least number, the lesser of two, what is no NaN -/
theorem read_cases (a : Nat) : (a % 2147483648 < 8388608 ∧ single.read a = .number (a / 2147483648 % 2 == 1) (a % 2147483648) (-149)) ∨
    (8388608 ≤ a % 2147483648 ∧ a % 2147483648 < 2139095040 ∧ single.read a = .number (a / 2147483648 % 2 == 1) (8388608 + a % 2147483648 % 8388608) (-149 + (a % 2147483648 / 8388608 - 1 : Nat))) ∨
    (∃ g, single.read a = .infinity g) ∨ ∃ g t, single.read a = .nan g t := by
  obtain ⟨f1, f2, f3, f4, f5⟩ := single_facts
  unfold Format.read
  simp only [f1, f2, f3, f4]
  by_cases h1 : a % 2147483648 < 8388608
  · rw [if_pos h1]
    exact .inl ⟨h1, rfl⟩
  · rw [if_neg h1]
    by_cases h2 : a % 2147483648 < 2139095040
    · rw [if_pos h2]
      exact .inr (.inl ⟨by omega, h2, rfl⟩)
    · rw [if_neg h2]
      by_cases h3 : a % 2147483648 = 2139095040
      · rw [if_pos h3]; exact .inr (.inr (.inl ⟨_, rfl⟩))
      · rw [if_neg h3]; exact .inr (.inr (.inr ⟨_, _, rfl⟩))
theorem read_0 : single.read 0 = .number false 0 (-149) := by decide +kernel
theorem read_tiny : single.read 1 = .number false 1 (-149) := by decide +kernel
theorem read_one : single.read 1065353216 = .number false 8388608 (-23) := by decide +kernel
theorem signed_eq (g : Bool) (m d : Nat) : signed g m d = if g then -((m * 2 ^ d : Nat) : Int) else ((m * 2 ^ d : Nat) : Int) := by
  unfold signed
  rw [Nat.shiftLeft_eq]
theorem place_ge {a : Nat} {g : Bool} {m : Nat} {e : Int} (h : single.read a = .number g m e) : -149 ≤ e := by
  rcases read_cases a with ⟨_, h1⟩ | ⟨_, _, h1⟩ | ⟨_, h1⟩ | ⟨_, _, h1⟩
  · rw [h] at h1; injection h1 with _ _ h3; omega
  · rw [h] at h1; injection h1 with _ _ h3; omega
  · rw [h] at h1; cases h1
  · rw [h] at h1; cases h1
theorem ge_tiny (a : Nat) : fge .f32 a 1 = fgt .f32 a 0 := by
  show (single.order a 1 == some .gt || single.order a 1 == some .eq) = (single.order a 0 == some .gt)
  unfold Format.order
  rw [read_0, read_tiny]
  cases hr : single.read a with
  | nan g t => rfl
  | infinity g => cases g <;> rfl
  | number g m e =>
    have he := place_ge hr
    simp only [Datum.order]
    rw [Int.min_eq_right he]
    rw [signed_eq, signed_eq, signed_eq]
    generalize m * 2 ^ (e - -149).toNat = z
    have e0 : ((-149 : Int) - -149).toNat = 0 := by decide
    rw [e0]
    have key : ∀ s : Int, (compare s (((1 * 2 ^ 0 : Nat) : Int)) == Ordering.gt || compare s (((1 * 2 ^ 0 : Nat) : Int)) == Ordering.eq) = (compare s (((0 * 2 ^ 0 : Nat) : Int)) == Ordering.gt) := fun s => by
      show (compare s 1 == Ordering.gt || compare s 1 == Ordering.eq) = (compare s 0 == Ordering.gt)
      by_cases h : s ≤ 0
      · rw [Int.compare_eq_lt.2 (show s < 1 by omega)]
        by_cases h2 : s = 0
        · rw [Int.compare_eq_eq.2 h2]; rfl
        · rw [Int.compare_eq_lt.2 (show s < 0 by omega)]; rfl
      · rw [Int.compare_eq_gt.2 (show s > 0 by omega)]
        by_cases h2 : s = 1
        · rw [Int.compare_eq_eq.2 h2]; rfl
        · rw [Int.compare_eq_gt.2 (show s > 1 by omega)]; rfl
    cases g with
    | true => simp only [if_true]; exact key _
    | false => simp only [Bool.false_eq_true, if_false]; exact key _
theorem eq_one {a : Nat} (h : single.order a 1065353216 = some .eq) (ha : a < 4294967296) : a = 1065353216 := by
  unfold Format.order at h
  rw [read_one] at h
  rcases read_cases a with ⟨h0, h1⟩ | ⟨h0, h0', h1⟩ | ⟨g, h1⟩ | ⟨g, t, h1⟩
  · rw [h1] at h
    simp only [Datum.order] at h
    rw [Int.min_eq_left (by decide), signed_eq, signed_eq] at h
    have h := Int.compare_eq_eq.1 (Option.some.inj h)
    rw [show ((-149 : Int) - -149).toNat = 0 by decide, show ((-23 : Int) - -149).toNat = 126 by decide] at h
    rw [if_neg (show ¬ (false = true) by decide)] at h
    have hb : (8388608 * 2 ^ 126 : Nat) = 713623846352979940529142984724747568191373312 := by decide
    rw [hb, Nat.pow_zero, Nat.mul_one] at h
    split at h
    · omega
    · omega
  · rw [h1] at h
    simp only [Datum.order] at h
    rw [signed_eq, signed_eq, if_neg (show ¬ (false = true) by decide)] at h
    have h := Int.compare_eq_eq.1 (Option.some.inj h)
    generalize hq : a % 2147483648 / 8388608 = q at h
    generalize hm : a % 2147483648 % 8388608 = m at h
    have hml : m < 8388608 := by rw [← hm]; exact Nat.mod_lt _ (by decide)
    have hq1 : 1 ≤ q := by omega
    by_cases hle : q ≤ 127
    · obtain ⟨d, hd⟩ : ∃ d, 127 = q + d := ⟨127 - q, by omega⟩
      rw [Int.min_eq_left (by omega)] at h
      have a1 : (-149 + ((q - 1 : Nat) : Int) - (-149 + ((q - 1 : Nat) : Int))).toNat = 0 := by omega
      have a2 : ((-23 : Int) - (-149 + ((q - 1 : Nat) : Int))).toNat = d := by omega
      rw [a1, a2, Nat.pow_zero, Nat.mul_one] at h
      have hd0 : d = 0 := by
        cases d with
        | zero => rfl
        | succ d =>
          exfalso
          have : 1 ≤ 2 ^ d := Nat.one_le_two_pow
          have h2 : 8388608 * 2 ^ (d + 1) = 16777216 * 2 ^ d := by rw [Nat.pow_succ]; omega
          rw [h2] at h
          split at h <;> omega
      subst hd0
      rw [Nat.pow_zero, Nat.mul_one] at h
      split at h
      · omega
      · rename_i hs
        have : a / 2147483648 % 2 = 0 := by
          have hs : ¬ (a / 2147483648 % 2 == 1) = true := hs
          rw [beq_iff_eq] at hs
          omega
        omega
    · obtain ⟨d, hd⟩ : ∃ d, q = 127 + (d + 1) := ⟨q - 128, by omega⟩
      rw [Int.min_eq_right (by omega)] at h
      have a1 : (-149 + ((q - 1 : Nat) : Int) - -23).toNat = d + 1 := by omega
      have a2 : ((-23 : Int) - -23).toNat = 0 := by decide
      rw [a1, a2, Nat.pow_zero, Nat.mul_one] at h
      have : 1 ≤ 2 ^ d := Nat.one_le_two_pow
      have h2 : (8388608 + m) * 2 ^ (d + 1) = 2 * ((8388608 + m) * 2 ^ d) := by rw [Nat.pow_succ, Nat.mul_comm (2 ^ d) 2, ← Nat.mul_assoc, Nat.mul_comm _ 2, Nat.mul_assoc]
      have h3 : 8388608 + m ≤ (8388608 + m) * 2 ^ d := Nat.le_mul_of_pos_right _ (by omega)
      rw [h2] at h
      split at h <;> omega
  · rw [h1] at h; cases g <;> cases h
  · rw [h1] at h; cases h
theorem eq_zero {a : Nat} (h : single.order a 0 = some .eq) (ha : a < 4294967296) (hn : (single.read a).neg = false) : a = 0 := by
  unfold Format.order at h
  rw [read_0] at h
  rcases read_cases a with ⟨h0, h1⟩ | ⟨h0, h0', h1⟩ | ⟨g, h1⟩ | ⟨g, t, h1⟩
  · rw [h1] at h hn
    simp only [Datum.order] at h
    have hn : (a / 2147483648 % 2 == 1) = false := hn
    rw [Int.min_self, signed_eq, signed_eq, hn] at h
    have h := Int.compare_eq_eq.1 (Option.some.inj h)
    rw [show ((-149 : Int) - -149).toNat = 0 by decide, Nat.pow_zero, Nat.mul_one, Nat.mul_one] at h
    simp only [Bool.false_eq_true, if_false] at h
    have : ¬ a / 2147483648 % 2 = 1 := by
      intro e; rw [e] at hn; cases hn
    omega
  · rw [h1] at h
    simp only [Datum.order] at h
    rw [signed_eq, signed_eq, if_neg (show ¬ (false = true) by decide)] at h
    have h := Int.compare_eq_eq.1 (Option.some.inj h)
    rw [Nat.zero_mul] at h
    have : 0 < (8388608 + a % 2147483648 % 8388608) * 2 ^ (-149 + ((a % 2147483648 / 8388608 - 1 : Nat) : Int) - min (-149 + ((a % 2147483648 / 8388608 - 1 : Nat) : Int)) (-149)).toNat := Nat.mul_pos (by omega) (Nat.two_pow_pos _)
    generalize (8388608 + a % 2147483648 % 8388608) * 2 ^ (-149 + ((a % 2147483648 / 8388608 - 1 : Nat) : Int) - min (-149 + ((a % 2147483648 / 8388608 - 1 : Nat) : Int)) (-149)).toNat = z at h this
    split at h <;> omega
  · rw [h1] at h; cases g <;> cases h
  · rw [h1] at h; cases h
theorem word_lt (g : Bool) {r : Nat} (h : r ≤ 2139095040) : single.word g r < 4294967296 := by
  unfold Format.word
  have : single.signWeight = 2147483648 := by decide
  rw [this]
  split <;> omega
theorem write_lt {d : Datum} (h : d.isNaN = false) : single.write d < 4294967296 := by
  have hi : single.infRung = 2139095040 := by decide
  cases d with
  | nan g t => cases h
  | infinity g => exact word_lt g (by rw [hi]; exact Nat.le_refl _)
  | number g m e =>
    show single.nearest g m e < _
    unfold Format.nearest
    split
    · exact word_lt g (by omega)
    · exact word_lt g (by rw [hi]; exact Nat.min_le_right ..)
theorem o2_lt {o : Option Datum} (h : ∀ d, o = some d → d.isNaN = false) : o2 .f32 (o.map single.write) < 4294967296 := by
  cases o with
  | none => decide
  | some d => exact write_lt (h d rfl)
theorem o2_cn {o : Option Nat} (h : ∀ r, o = some r → isN .f32 r = false) : cn .f32 (o2 .f32 o) = o2 .f32 o := by
  cases o with
  | none => decide +kernel
  | some r => exact cn_of_not (h r rfl)
theorem arith_ok (a b : Nat) : (fadd .f32 a b < 4294967296 ∧ cn .f32 (fadd .f32 a b) = fadd .f32 a b) ∧ (fsub .f32 a b < 4294967296 ∧ cn .f32 (fsub .f32 a b) = fsub .f32 a b) ∧ (fmul .f32 a b < 4294967296 ∧ cn .f32 (fmul .f32 a b) = fmul .f32 a b) ∧ (fdiv .f32 a b < 4294967296 ∧ cn .f32 (fdiv .f32 a b) = fdiv .f32 a b) :=
  ⟨⟨o2_lt fun _ hd => sum_notNaN hd, o2_cn add_cn.2⟩, ⟨o2_lt fun _ hd => sum_notNaN hd, o2_cn sub_cn.2⟩, ⟨o2_lt fun _ hd => product_notNaN hd, o2_cn mul_cn.2⟩, ⟨o2_lt fun _ hd => quotient_notNaN hd, o2_cn div_cn.2⟩⟩
theorem min_one {a : Nat} (h : cn .f32 a = a) (ha : a < 4294967296) : fmin .f32 a 1065353216 = bif fgt .f32 a 1065353216 then 1065353216 else a := by
  unfold fmin fgt
  cases ho : FloatKind.f32.format.order a 1065353216 with
  | none =>
    have hn : isN .f32 a = true := by
      have ho : single.order a 1065353216 = none := ho
      unfold Format.order at ho
      rw [read_one] at ho
      show (single.read a).isNaN = true
      cases hr : single.read a with
      | nan g t => rfl
      | infinity g => rw [hr] at ho; cases ho
      | number g m e => rw [hr] at ho; cases ho
    rw [cn_of_N hn] at h
    exact h
  | some o =>
    cases o with
    | lt => rfl
    | gt => rfl
    | eq =>
      rw [eq_one ho ha]
      decide +kernel
theorem max_zero {a : Nat} (hn : isN .f32 a = false) (ha : a < 4294967296) : fmax .f32 a 0 = bif fgt .f32 a 0 then a else 0 := by
  unfold fmax fgt
  cases ho : FloatKind.f32.format.order a 0 with
  | none =>
    exfalso
    have ho : single.order a 0 = none := ho
    unfold Format.order at ho
    rw [read_0] at ho
    have hn : (single.read a).isNaN = false := hn
    cases hr : single.read a with
    | nan g t => rw [hr] at hn; cases hn
    | infinity g => rw [hr] at ho; cases ho
    | number g m e => rw [hr] at ho; cases ho
  | some o =>
    cases o with
    | lt => rfl
    | gt => rfl
    | eq =>
      show (if (single.read a).neg then 0 else a) = 0
      split
      · rfl
      · rename_i h
        exact eq_zero ho ha (by simpa using h)
theorem sub_num {a b : Nat} (ha : isN .f32 a = false) (hb : finB b = true) : isN .f32 (fsub .f32 a b) = false := by
  have ha : (single.read a).isNaN = false := ha
  unfold finB at hb
  cases hr : single.read b with
  | nan g t => rw [hr] at hb; cases hb
  | infinity g => rw [hr] at hb; cases hb
  | number g m e =>
    show isN .f32 (o2 .f32 (((single.read a).sum (single.read b).opposite).map single.write)) = false
    rw [hr]
    cases hq : single.read a with
    | nan g t => rw [hq] at ha; cases ha
    | infinity g' => exact write_cn .f32 (d := .infinity g') rfl
    | number g' m' e' => exact write_cn .f32 (sum_notNaN (x := .number g' m' e') (y := .number (!g) m e) rfl)
theorem share_fin {a : Nat} (h1 : fge .f32 a 0 = true) (h2 : fle .f32 a 1065353216 = true) : finB a = true := by
  have h1 : (single.order a 0 == some .gt || single.order a 0 == some .eq) = true := h1
  have h2 : (single.order a 1065353216 == some .lt || single.order a 1065353216 == some .eq) = true := h2
  unfold Format.order at h1 h2
  rw [read_0] at h1
  rw [read_one] at h2
  unfold finB
  cases hr : single.read a with
  | nan g t => rw [hr] at h1; cases h1
  | infinity g =>
    rw [hr] at h1 h2
    cases g
    · cases h2
    · cases h1
  | number g m e => rfl
end Sx
end
noncomputable section
namespace Sx
open Go Ev Ieee

/-! ### numbers that are not negative, and their reciprocals -/
def nnD : Datum → Bool
  | .number g m _ => !g || Nat.beq m 0
  | .infinity g => !g
  | .nan .. => false
theorem word_cases (f : Format) (g : Bool) {r : Nat} (h : r ≤ f.infRung) :
    f.read (f.word g r) = if r < f.binade then .number g r f.leastPlace else if r < f.infRung then .number g (f.binade + r % f.binade) (f.leastPlace + (r / f.binade - 1 : Nat)) else .infinity g := by
  have hlt : r < f.signWeight := Nat.lt_of_le_of_lt h f.infRung_lt
  have hs : (f.word g r / f.signWeight % 2 == 1) = g := by
    unfold Format.word
    cases g with
    | true =>
      have e : (f.signWeight + r) / f.signWeight = 1 := by
        rw [Nat.add_div_left _ (by omega), Nat.div_eq_of_lt hlt]
      rw [if_pos rfl, e]; rfl
    | false =>
      rw [if_neg (by decide), Nat.div_eq_of_lt hlt]; rfl
  unfold Format.read
  simp only [Format.word_mod f g hlt, hs]
  split
  · rfl
  · split
    · rfl
    · rw [if_pos (by omega)]
theorem nn_nearest (f : Format) {g : Bool} {m : Nat} {e : Int} (h : g = false ∨ m = 0) : nnD (f.read (f.nearest g m e)) = true := by
  unfold Format.nearest
  have hb : 0 < f.binade := Nat.two_pow_pos _
  split
  · rw [word_cases f g (Nat.zero_le _), if_pos hb]
    cases g <;> rfl
  · rename_i h0
    have hg := h.resolve_right h0
    subst hg
    rw [word_cases f false (Nat.min_le_right ..)]
    split
    · rfl
    · split
      · rfl
      · rfl
theorem nn_num {g : Bool} {m : Nat} {e : Int} : nnD (.number g m e) = true ↔ g = false ∨ m = 0 := by
  show (!g || Nat.beq m 0) = true ↔ _
  rw [Bool.or_eq_true]
  constructor
  · rintro (h | h)
    · left; cases g
      · rfl
      · cases h
    · exact .inr (Nat.eq_of_beq_eq_true h)
  · rintro (h | h)
    · left; rw [h]; rfl
    · right; rw [h]; rfl
theorem nn_write (f : Format) {d : Datum} (h : nnD d = true) : nnD (f.read (f.write d)) = true := by
  cases d with
  | number g m e => exact nn_nearest f (nn_num.1 h)
  | infinity g =>
    cases g with
    | true => cases h
    | false =>
      show nnD (f.read (f.word false f.infRung)) = true
      rw [word_cases f false (Nat.le_refl _)]
      split
      · rfl
      · split <;> rfl
  | nan g t => cases h
theorem signed_nn {g : Bool} {m : Nat} (h : g = false ∨ m = 0) (d : Nat) : signed g m d = ((m * 2 ^ d : Nat) : Int) := by
  rw [signed_eq]
  rcases h with rfl | rfl
  · rfl
  · rw [Nat.zero_mul]; cases g <;> rfl
theorem nn_sum {x y : Datum} (hx : nnD x = true) (hy : nnD y = true) : ∃ d, x.sum y = some d ∧ nnD d = true := by
  cases x with
  | nan g t => cases hx
  | infinity g =>
    cases g with
    | true => cases hx
    | false =>
      cases y with
      | nan g t => cases hy
      | infinity g' => cases g' with
        | true => cases hy
        | false => exact ⟨_, rfl, rfl⟩
      | number g' m e => exact ⟨_, rfl, rfl⟩
  | number g m e =>
    cases y with
    | nan g t => cases hy
    | infinity g' => cases g' with
      | true => cases hy
      | false => exact ⟨_, rfl, rfl⟩
    | number g' n j =>
      refine ⟨_, rfl, ?_⟩
      rw [nn_num, signed_nn (nn_num.1 hx), signed_nn (nn_num.1 hy), ← Int.natCast_add]
      generalize m * 2 ^ (e - min e j).toNat + n * 2 ^ (j - min e j).toNat = z
      by_cases hz : z = 0
      · right; rw [hz]; rfl
      · left
        rw [if_neg (by omega)]
        exact decide_eq_false (by omega)
theorem nn_product {x y d : Datum} (hx : nnD x = true) (hy : nnD y = true) (h : x.product y = some d) : nnD d = true := by
  cases x with
  | nan g t => cases hx
  | infinity g =>
    cases g with
    | true => cases hx
    | false =>
      cases y with
      | nan g t => cases hy
      | infinity g' => cases g' with
        | true => cases hy
        | false => cases h; rfl
      | number g' m e =>
        have h : (if m = 0 then none else some (Datum.infinity (false ^^ g'))) = some d := h
        split at h
        · cases h
        · rename_i h0
          have := (nn_num.1 hy).resolve_right h0
          subst this
          cases h; rfl
  | number g m e =>
    cases y with
    | nan g t => cases hy
    | infinity g' => cases g' with
      | true => cases hy
      | false =>
        have h : (if m = 0 then none else some (Datum.infinity (false ^^ g))) = some d := h
        split at h
        · cases h
        · rename_i h0
          have := (nn_num.1 hx).resolve_right h0
          subst this
          cases h; rfl
    | number g' n j =>
      cases h
      rw [nn_num]
      rcases nn_num.1 hx with rfl | rfl
      · rcases nn_num.1 hy with rfl | rfl
        · exact .inl rfl
        · exact .inr (Nat.mul_zero _)
      · exact .inr (Nat.zero_mul _)
def nnb (k : FloatKind) (x : Nat) : Prop := nnD (k.format.read x) = true
theorem nn_add {k : FloatKind} {a b : Nat} (ha : nnb k a) (hb : nnb k b) : nnb k (fadd k a b) := by
  obtain ⟨d, h1, h2⟩ := nn_sum ha hb
  show nnD (k.format.read (o2 k (((k.format.read a).sum (k.format.read b)).map k.format.write))) = true
  rw [h1]
  exact nn_write _ h2
theorem nn_sq {k : FloatKind} {a : Nat} (ha : nnb k a) : nnb k (fmul k a a) := by
  show nnD (k.format.read (o2 k (((k.format.read a).product (k.format.read a)).map k.format.write))) = true
  have h : ∃ d, (k.format.read a).product (k.format.read a) = some d := by
    have ha : nnD (k.format.read a) = true := ha
    cases hr : k.format.read a with
    | nan g t => rw [hr] at ha; cases ha
    | infinity g => exact ⟨_, rfl⟩
    | number g m e => exact ⟨_, rfl⟩
  obtain ⟨d, hd⟩ := h
  rw [hd]
  exact nn_write _ (nn_product ha ha hd)
theorem read_two : single.read 1073741824 = .number false 8388608 (-22) := by decide +kernel
theorem nn_two {a : Nat} (ha : nnb .f32 a) : nnb .f32 (fmul .f32 1073741824 a) := by
  show nnD (single.read (o2 .f32 (((single.read 1073741824).product (single.read a)).map single.write))) = true
  rw [read_two]
  have ha : nnD (single.read a) = true := ha
  have h : ∃ d, (Datum.number false 8388608 (-22)).product (single.read a) = some d := by
    cases hr : single.read a with
    | nan g t => rw [hr] at ha; cases ha
    | infinity g => exact ⟨_, rfl⟩
    | number g m e => exact ⟨_, rfl⟩
  obtain ⟨d, hd⟩ := h
  rw [hd]
  exact nn_write single (nn_product rfl ha hd)
theorem nn_cv {s d : FloatKind} {a : Nat} (ha : nnb s a) : nnb d (fcv s d a) := by
  have ha : nnD (s.format.read a) = true := ha
  show nnD (d.format.read (fcv s d a)) = true
  unfold fcv
  cases hr : s.format.read a with
  | nan g t => rw [hr] at ha; cases ha
  | infinity g => rw [hr] at ha; exact nn_write _ ha
  | number g m e => rw [hr] at ha; exact nn_write _ ha
theorem nn_sqrt {a : Nat} (ha : nnb .f64 a) : nnb .f64 (fsqrt a) := by
  have ha : nnD (double.read a) = true := ha
  show nnD (double.read (o2 .f64 (((double.read a).root 54).map double.write))) = true
  cases hr : double.read a with
  | nan g t => rw [hr] at ha; cases ha
  | infinity g =>
    rw [hr] at ha
    cases g with
    | true => cases ha
    | false => exact nn_write double (d := .infinity false) rfl
  | number g m e =>
    rw [hr] at ha
    unfold Datum.root
    simp only
    split
    · exact nn_write double (d := .number g m e) ha
    · rename_i h0
      have hg := (nn_num.1 ha).resolve_right h0
      subst hg
      rw [if_neg (by decide)]
      exact nn_nearest double (.inl rfl)

/-! ### numbers of 1 at least -/
def g1D : Datum → Prop
  | .number g m e => g = false ∧ m ≠ 0 ∧ 0 ≤ e + (m.log2 : Int)
  | .infinity g => g = false
  | .nan .. => False
theorem cut_low {g : Bool} {n d : Nat} (hd : d ≤ n.log2 + 2) : n / 2 ^ d ≤ Toward.even.cut g n d := by
  unfold Toward.cut
  simp only
  rw [Nat.min_eq_left hd, Nat.one_shiftLeft]
  exact Nat.le_add_right ..
theorem g1_word {r : Nat} (h : 1065353216 ≤ r) (hi : r ≤ 2139095040) : g1D (single.read (single.word false r)) := by
  obtain ⟨f1, f2, f3, f4, f5⟩ := single_facts
  rw [word_cases single false (by rw [f1]; exact hi), f1, f2, f3, if_neg (Nat.not_lt.2 (Nat.le_trans (by decide) h))]
  by_cases hc : r < 2139095040
  · rw [if_pos hc]
    have hm := Nat.mod_lt r (show 0 < 8388608 by decide)
    have h1 : (8388608 + r % 8388608).log2 = 23 := (Nat.log2_eq_iff (Nat.ne_of_gt (Nat.lt_of_lt_of_le (by decide) (Nat.le_add_right ..)))).2 ⟨Nat.le_add_right 8388608 _, Nat.add_lt_add_left hm 8388608⟩
    refine ⟨rfl, Nat.ne_of_gt (Nat.lt_of_lt_of_le (by decide) (Nat.le_add_right ..)), ?_⟩
    rw [h1]
    have hd : 127 ≤ r / 8388608 := (Nat.le_div_iff_mul_le (by decide)).2 (Nat.le_trans (by decide) h)
    generalize r / 8388608 = d at hd
    omega
  · rw [if_neg hc]
    exact rfl
theorem g1_write {d : Datum} (h : g1D d) : g1D (single.read (single.write d)) := by
  obtain ⟨f1, f2, f3, f4, f5⟩ := single_facts
  cases d with
  | nan g t => exact h.elim
  | infinity g =>
    have h : g = false := h
    subst h
    show g1D (single.read (single.word false single.infRung))
    rw [word_cases single false (Nat.le_refl _), f1, f2, if_neg (by decide), if_neg (by decide)]
    exact rfl
  | number g m e =>
    obtain ⟨rfl, h0, he⟩ := h
    show g1D (single.read (single.nearest false m e))
    unfold Format.nearest
    rw [if_neg h0, f3, f5]
    have hl : max (e + (m.log2 : Int) - ((23 : Nat) : Int)) (-149) = e + (m.log2 : Int) - 23 := by omega
    rw [hl]
    dsimp only
    have hm : 2 ^ m.log2 ≤ m := Nat.log2_self_le h0
    have hk : 8388608 ≤ Toward.even.cut false (m <<< (e - (e + (m.log2 : Int) - 23)).toNat) (e + (m.log2 : Int) - 23 - e).toNat := by
      by_cases hc : m.log2 ≤ 23
      · have a1 : (e + (m.log2 : Int) - 23 - e).toNat = 0 := by omega
        have a2 : (e - (e + (m.log2 : Int) - 23)).toNat = 23 - m.log2 := by omega
        rw [a1, a2]
        refine Nat.le_trans ?_ (cut_low (Nat.zero_le _))
        rw [Nat.pow_zero, Nat.div_one, Nat.shiftLeft_eq]
        calc 8388608 = 2 ^ m.log2 * 2 ^ (23 - m.log2) := by rw [← Nat.pow_add, show m.log2 + (23 - m.log2) = 23 by omega]
          _ ≤ m * 2 ^ (23 - m.log2) := Nat.mul_le_mul_right _ hm
      · have a1 : (e + (m.log2 : Int) - 23 - e).toNat = m.log2 - 23 := by omega
        have a2 : (e - (e + (m.log2 : Int) - 23)).toNat = 0 := by omega
        rw [a1, a2, Nat.shiftLeft_zero]
        refine Nat.le_trans ?_ (cut_low (by omega))
        rw [Nat.le_div_iff_mul_le (Nat.two_pow_pos _)]
        calc 8388608 * 2 ^ (m.log2 - 23) = 2 ^ m.log2 := by rw [show (8388608 : Nat) = 2 ^ 23 by decide, ← Nat.pow_add, show 23 + (m.log2 - 23) = m.log2 by omega]
          _ ≤ m := hm
    generalize Toward.even.cut false (m <<< (e - (e + (m.log2 : Int) - 23)).toNat) (e + (m.log2 : Int) - 23 - e).toNat = kept at hk
    have hL : 126 ≤ (e + (m.log2 : Int) - 23 - -149).toNat := by omega
    generalize (e + (m.log2 : Int) - 23 - -149).toNat = L at hL
    have hr : 1065353216 ≤ min (L * 8388608 + kept) 2139095040 := by
      have h1 : 126 * 8388608 ≤ L * 8388608 := Nat.mul_le_mul_right _ hL
      have h2 : (126 * 8388608 : Nat) = 1056964608 := by decide
      rw [h2] at h1
      generalize L * 8388608 = z at h1
      exact Nat.le_min.2 ⟨by omega, by decide⟩
    have hr2 : min (L * 8388608 + kept) 2139095040 ≤ 2139095040 := Nat.min_le_right ..
    rw [f1, f2]
    exact g1_word hr hr2
theorem g1_sum {x y : Datum} (hx : g1D x) (hy : nnD y = true) : ∃ d, x.sum y = some d ∧ g1D d := by
  cases x with
  | nan g t => exact hx.elim
  | infinity g =>
    have h : g = false := hx
    subst h
    cases y with
    | nan g t => cases hy
    | infinity g' => cases g' with
      | true => cases hy
      | false => exact ⟨_, rfl, rfl⟩
    | number g' m e => exact ⟨_, rfl, rfl⟩
  | number g m e =>
    obtain ⟨rfl, h0, he⟩ := hx
    cases y with
    | nan g t => cases hy
    | infinity g' => cases g' with
      | true => cases hy
      | false => exact ⟨_, rfl, rfl⟩
    | number g' n j =>
      refine ⟨_, rfl, ?_⟩
      rw [signed_nn (.inl rfl), signed_nn (nn_num.1 hy), ← Int.natCast_add]
      have hm : 2 ^ m.log2 ≤ m := Nat.log2_self_le h0
      have hz : 2 ^ (m.log2 + (e - min e j).toNat) ≤ m * 2 ^ (e - min e j).toNat + n * 2 ^ (j - min e j).toNat := by
        rw [Nat.pow_add]
        exact Nat.le_trans (Nat.mul_le_mul_right _ hm) (Nat.le_add_right ..)
      generalize m * 2 ^ (e - min e j).toNat + n * 2 ^ (j - min e j).toNat = z at hz
      have hp := Nat.two_pow_pos (m.log2 + (e - min e j).toNat)
      have hz0 : z ≠ 0 := by omega
      refine ⟨?_, ?_, ?_⟩
      · rw [if_neg (by omega)]
        exact decide_eq_false (by omega)
      · rw [Int.natAbs_natCast]; exact hz0
      · rw [Int.natAbs_natCast]
        have := (Nat.le_log2 hz0).2 hz
        omega
def g1b (x : Nat) : Prop := g1D (single.read x)
theorem g1_add {a b : Nat} (ha : g1b a) (hb : nnb .f32 b) : g1b (fadd .f32 a b) := by
  obtain ⟨d, h1, h2⟩ := g1_sum ha hb
  show g1D (single.read (o2 .f32 (((single.read a).sum (single.read b)).map single.write)))
  have h1 : (single.read a).sum (single.read b) = some d := h1
  rw [h1]
  exact g1_write h2
theorem g1_one : g1b 1065353216 := by
  show g1D (single.read 1065353216)
  rw [read_one]
  exact ⟨rfl, by decide, by decide⟩
theorem fin_of {a : Nat} (h1 : (single.read a).isNaN = false) (h2 : (single.read a).isInfinity = false) : finB a = true := by
  unfold finB
  cases hr : single.read a with
  | nan g t => rw [hr] at h1; cases h1
  | infinity g => rw [hr] at h2; cases h2
  | number g m e => rfl
theorem fin_recip {D : Nat} (h : g1b D) : finB (fdiv .f32 1065353216 D) = true := by
  have h : g1D (single.read D) := h
  have e : fdiv .f32 1065353216 D = o2 .f32 (((single.read 1065353216).quotient 25 (single.read D)).map single.write) := rfl
  rw [e, read_one]
  cases hr : single.read D with
  | nan g t => rw [hr] at h; exact h.elim
  | infinity g =>
    rw [hr] at h
    have h : g = false := h
    subst h
    decide +kernel
  | number g n j =>
    rw [hr] at h
    obtain ⟨rfl, h0, he⟩ := h
    unfold Datum.quotient
    simp only
    rw [if_neg h0]
    have hn : 2 ^ n.log2 ≤ n := Nat.log2_self_le h0
    have hlog : (8388608 : Nat).log2 = 23 := by decide +kernel
    simp only [hlog]
    generalize hmore : 25 + n.log2 - 23 = more
    have hb : ∀ b : Bool, b.toNat ≤ 1 := fun b => by cases b <;> decide
    have hd : 8388608 <<< more / n ≤ 2 ^ 25 := by
      refine Nat.div_le_of_le_mul ?_
      rw [Nat.shiftLeft_eq]
      calc 8388608 * 2 ^ more = 2 ^ n.log2 * 2 ^ 25 := by rw [show (8388608 : Nat) = 2 ^ 23 by decide, ← Nat.pow_add, ← Nat.pow_add, show 23 + more = n.log2 + 25 by omega]
        _ ≤ n * 2 ^ 25 := Nat.mul_le_mul_right _ hn
    have hq : 2 * (8388608 <<< more / n) + (8388608 <<< more % n != 0).toNat < 2 ^ 27 := by
      have := hb (8388608 <<< more % n != 0)
      omega
    generalize 2 * (8388608 <<< more / n) + (8388608 <<< more % n != 0).toNat = q at hq
    have hfin : q = 0 ∨ ((-23 : Int) - j - more - 1) + (q.log2 : Int) ≤ 120 := by
      by_cases hq0 : q = 0
      · exact .inl hq0
      · right
        have := (Nat.log2_lt hq0).2 hq
        omega
    refine fin_of ?_ ?_
    · exact Format.write_notNaN single (d := .number (false ^^ false) q ((-23 : Int) - j - more - 1)) rfl
    · exact fcvOk_number hfin
/-- what a ratio reflects is finite -/
theorem fin_reflects {q : Nat} (h : nnb .f32 q) : finB (fdiv .f32 1065353216 (fadd .f32 (fadd .f32 1065353216 q) (fcv .f64 .f32 (fsqrt (fcv .f32 .f64 (fadd .f32 (fmul .f32 q q) (fmul .f32 1073741824 q))))))) = true :=
  fin_recip (g1_add (g1_add g1_one h) (nn_cv (nn_sqrt (nn_cv (nn_add (nn_sq h) (nn_two h))))))
/-- where a number is at least 0, it is not negative -/
theorem nn_ge {a : Nat} (h : fge .f32 a 0 = true) : nnb .f32 a := by
  have h : (single.order a 0 == some .gt || single.order a 0 == some .eq) = true := h
  show nnD (single.read a) = true
  unfold Format.order at h
  rw [read_0] at h
  cases hr : single.read a with
  | nan g t => rw [hr] at h; cases h
  | infinity g =>
    rw [hr] at h
    cases g with
    | true => cases h
    | false => rfl
  | number g m e =>
    rw [nn_num]
    cases g with
    | false => exact .inl rfl
    | true =>
      right
      rw [hr] at h
      simp only [Datum.order] at h
      rw [signed_eq, signed_eq, if_pos rfl, if_neg (by decide), Nat.zero_mul] at h
      have hp := Nat.two_pow_pos (e - min e (-149)).toNat
      generalize 2 ^ (e - min e (-149)).toNat = p at h hp
      rcases Nat.eq_zero_or_pos m with h0 | h0
      · exact h0
      · have : 0 < m * p := Nat.mul_pos h0 hp
        rw [Int.compare_eq_lt.2 (show -((m * p : Nat) : Int) < ((0 : Nat) : Int) by omega)] at h
        cases h
/-- a quotient of a number that is not negative by one that is greater than 0 -/
theorem nn_quo {a b : Nat} (ha : nnb .f32 a) (hb : nnb .f32 b) (h0 : feq .f32 b 0 = false) (hf : finB (fdiv .f32 a b) = true) : nnb .f32 (fdiv .f32 a b) := by
  have ha : nnD (single.read a) = true := ha
  have hb : nnD (single.read b) = true := hb
  have e : fdiv .f32 a b = o2 .f32 (((single.read a).quotient 25 (single.read b)).map single.write) := rfl
  show nnD (single.read (fdiv .f32 a b)) = true
  rw [e] at hf ⊢
  cases hq : (single.read a).quotient 25 (single.read b) with
  | none =>
    rw [hq] at hf
    exact absurd hf (by decide +kernel)
  | some d =>
    refine nn_write single ?_
    have h0 : (single.order b 0 == some .eq) = false := h0
    unfold Format.order at h0
    rw [read_0] at h0
    cases ra : single.read a with
    | nan g t => rw [ra] at ha; cases ha
    | infinity g =>
      rw [ra] at ha hq
      cases g with
      | true => cases ha
      | false =>
        cases rb : single.read b with
        | nan g t => rw [rb] at hb; cases hb
        | infinity g => rw [rb] at hq; cases hq
        | number g n j =>
          rw [rb] at hq hb h0
          cases hq
          rcases nn_num.1 hb with rfl | rfl
          · rfl
          · exfalso
            simp only [Datum.order] at h0
            rw [signed_eq, signed_eq, Nat.zero_mul, Nat.zero_mul] at h0
            cases g <;> cases h0
    | number g m e =>
      rw [ra] at ha hq
      cases rb : single.read b with
      | nan g t => rw [rb] at hb; cases hb
      | infinity g' =>
        rw [rb] at hq hb
        cases hq
        exact nn_num.2 (.inr rfl)
      | number g' n j =>
        rw [rb] at hq hb h0
        have hn : n ≠ 0 := by
          rintro rfl
          simp only [Datum.order] at h0
          rw [signed_eq, signed_eq, Nat.zero_mul, Nat.zero_mul] at h0
          cases g' <;> cases h0
        have hg' := (nn_num.1 hb).resolve_right hn
        subst hg'
        unfold Datum.quotient at hq
        simp only [if_neg hn, Option.some.injEq] at hq
        subst hq
        rw [nn_num]
        rcases nn_num.1 ha with rfl | rfl
        · exact .inl rfl
        · right
          rw [Nat.zero_shiftLeft, Nat.zero_div, Nat.zero_mod]; rfl
theorem not_nan_le {a b : Nat} (ha : fge .f32 a 0 = true) (hb : fge .f32 b 0 = true) : fle .f32 a b = !fgt .f32 a b := by
  have na : (single.read a).isNaN = false := by
    have := nn_ge ha
    have h : nnD (single.read a) = true := this
    cases hr : single.read a with
    | nan g t => rw [hr] at h; cases h
    | infinity g => rfl
    | number g m e => rfl
  have nb : (single.read b).isNaN = false := by
    have := nn_ge hb
    have h : nnD (single.read b) = true := this
    cases hr : single.read b with
    | nan g t => rw [hr] at h; cases h
    | infinity g => rfl
    | number g m e => rfl
  have : ∃ o, single.order a b = some o := by
    unfold Format.order
    cases ra : single.read a with
    | nan g t => rw [ra] at na; cases na
    | infinity g =>
      cases rb : single.read b with
      | nan g t => rw [rb] at nb; cases nb
      | infinity g => exact ⟨_, rfl⟩
      | number g m e => exact ⟨_, rfl⟩
    | number g m e =>
      cases rb : single.read b with
      | nan g t => rw [rb] at nb; cases nb
      | infinity g => exact ⟨_, rfl⟩
      | number g m e => exact ⟨_, rfl⟩
  obtain ⟨o, ho⟩ := this
  show (single.order a b == some .lt || single.order a b == some .eq) = !(single.order a b == some .gt)
  rw [ho]
  cases o <;> rfl
theorem product_comm (x y : Datum) : x.product y = y.product x := by
  cases x <;> cases y <;> first | rfl | (simp only [Datum.product, Bool.xor_comm, Nat.mul_comm, Int.add_comm])
theorem mul_comm32 (a b : Nat) : fmul .f32 a b = fmul .f32 b a := by
  show o2 .f32 (((single.read a).product (single.read b)).map single.write) = o2 .f32 (((single.read b).product (single.read a)).map single.write)
  rw [product_comm]
/-- finite numbers that are not negative: neither is their product -/
theorem nn_mul {a b : Nat} (ha : nnb .f32 a) (fa : finB a = true) (hb : nnb .f32 b) (fb : finB b = true) : nnb .f32 (fmul .f32 a b) := by
  have ha : nnD (single.read a) = true := ha
  have hb : nnD (single.read b) = true := hb
  unfold finB at fa fb
  cases hr : single.read a with
  | nan g t => rw [hr] at fa; cases fa
  | infinity g => rw [hr] at fa; cases fa
  | number g m e =>
  cases hq : single.read b with
  | nan g t => rw [hq] at fb; cases fb
  | infinity g => rw [hq] at fb; cases fb
  | number g' n j =>
    have hp : (single.read a).product (single.read b) = some (.number (g ^^ g') (m * n) (e + j)) := by rw [hr, hq]; rfl
    show nnD (single.read (o2 .f32 (((single.read a).product (single.read b)).map single.write))) = true
    have := nn_write single (nn_product ha hb hp)
    rw [hp]
    exact this
theorem ge_nn {a : Nat} (h : nnb .f32 a) : fge .f32 a 0 = true := by
  have h : nnD (single.read a) = true := h
  show (single.order a 0 == some .gt || single.order a 0 == some .eq) = true
  unfold Format.order
  rw [read_0]
  cases hr : single.read a with
  | nan g t => rw [hr] at h; cases h
  | infinity g =>
    rw [hr] at h
    cases g with
    | true => cases h
    | false => rfl
  | number g m e =>
    rw [hr, nn_num] at h
    simp only [Datum.order]
    have h0 : signed g m (e - min e (-149)).toNat = ((m * 2 ^ (e - min e (-149)).toNat : Nat) : Int) := signed_nn h _
    rw [h0, signed_eq, if_neg (by decide), Nat.zero_mul]
    generalize m * 2 ^ (e - min e (-149)).toNat = p
    rcases Nat.eq_zero_or_pos p with hp | hp
    · subst hp
      rw [Int.compare_eq_eq.2 rfl]; rfl
    · rw [Int.compare_eq_gt.2 (show ((0 : Nat) : Int) < (p : Int) by omega)]; rfl
end Sx
end
namespace Sx
open Go Ev Ieee

/-! ### rounding keeps the order -/
/-- the even one of the nearest whole numbers to 'n / 2 ^ d' -/
def rne (n d : Nat) : Nat := n / 2 ^ d + (decide (2 ^ d < 2 * (n % 2 ^ d)) || (2 ^ d == 2 * (n % 2 ^ d) && n / 2 ^ d % 2 == 1)).toNat
theorem toNat_le (b : Bool) : b.toNat ≤ 1 := by cases b <;> decide
theorem cut_rne (g : Bool) (n d : Nat) : Toward.even.cut g n d = rne n d := by
  unfold Toward.cut rne
  simp only
  by_cases hd : d ≤ n.log2 + 2
  · rw [Nat.min_eq_left hd, Nat.one_shiftLeft]
  · have h1 : n < 2 ^ (n.log2 + 1) := Nat.lt_log2_self
    have h2 : 2 ^ (n.log2 + 2) = 2 * 2 ^ (n.log2 + 1) := by rw [Nat.pow_succ, Nat.mul_comm]
    have h3 : 2 ^ (n.log2 + 2) ≤ 2 ^ d := Nat.pow_le_pow_right (by decide) (by omega)
    rw [Nat.min_eq_right (by omega), Nat.one_shiftLeft]
    generalize 2 ^ (n.log2 + 1) = p at h1 h2
    generalize 2 ^ (n.log2 + 2) = q at h2 h3
    generalize 2 ^ d = r at h3
    have a1 : n / q = 0 := Nat.div_eq_of_lt (by omega)
    have a2 : n / r = 0 := Nat.div_eq_of_lt (by omega)
    have a3 : n % q = n := Nat.mod_eq_of_lt (by omega)
    have a4 : n % r = n := Nat.mod_eq_of_lt (by omega)
    rw [a1, a2, a3, a4]
    have b1 : ¬ q < 2 * n := by omega
    have b2 : ¬ r < 2 * n := by omega
    simp [b1, b2]
theorem rne_le {n m d : Nat} (h : n ≤ m) : rne n d ≤ rne m d := by
  unfold rne
  have hp : 0 < 2 ^ d := Nat.two_pow_pos d
  generalize 2 ^ d = p at hp
  have hn := Nat.div_add_mod n p
  have hm := Nat.div_add_mod m p
  have hq : n / p ≤ m / p := Nat.div_le_div_right h
  rcases Nat.lt_or_eq_of_le hq with hl | he
  · have := toNat_le (decide (p < 2 * (n % p)) || (p == 2 * (n % p) && n / p % 2 == 1))
    omega
  · rw [he] at hn ⊢
    have hr : n % p ≤ m % p := by omega
    have : (decide (p < 2 * (n % p)) || (p == 2 * (n % p) && m / p % 2 == 1)).toNat ≤ (decide (p < 2 * (m % p)) || (p == 2 * (m % p) && m / p % 2 == 1)).toNat := by
      by_cases h1 : p < 2 * (m % p)
      · rw [decide_eq_true h1, Bool.true_or]
        exact toNat_le _
      · have h2 : ¬ p < 2 * (n % p) := by omega
        rw [decide_eq_false h1, decide_eq_false h2, Bool.false_or, Bool.false_or]
        by_cases h3 : p = 2 * (n % p)
        · have h4 : p = 2 * (m % p) := by omega
          have e : n % p = m % p := by omega
          rw [e]
          exact Nat.le_refl _
        · have : (p == 2 * (n % p)) = false := by simpa using h3
          rw [this, Bool.false_and]
          exact Nat.zero_le _
    omega
theorem rne_scale (n d k : Nat) : rne (n * 2 ^ k) (d + k) = rne n d := by
  unfold rne
  have hk : 0 < 2 ^ k := Nat.two_pow_pos k
  rw [Nat.pow_add]
  generalize 2 ^ k = q at hk
  generalize 2 ^ d = p
  have e1 : n * q / (p * q) = n / p := Nat.mul_div_mul_right _ _ hk
  have e2 : n * q % (p * q) = n % p * q := Nat.mul_mod_mul_right ..
  rw [e1, e2]
  have e3 : (p * q < 2 * (n % p * q)) ↔ (p < 2 * (n % p)) := by
    rw [← Nat.mul_assoc]
    exact Nat.mul_lt_mul_right hk
  have e4 : (p * q = 2 * (n % p * q)) ↔ (p = 2 * (n % p)) := by
    rw [← Nat.mul_assoc]
    exact ⟨fun h => Nat.eq_of_mul_eq_mul_right hk h, fun h => by rw [← h]⟩
  have f3 : decide (p * q < 2 * (n % p * q)) = decide (p < 2 * (n % p)) := decide_eq_decide.2 e3
  have f4 : (p * q == 2 * (n % p * q)) = (p == 2 * (n % p)) := by
    rw [Bool.eq_iff_iff, beq_iff_eq, beq_iff_eq]; exact e4
  rw [f3, f4]
/-- 'm * 2 ^ e' in units of '2 ^ base' -/
def unitsOf (m : Nat) (e base : Int) : Nat := m * 2 ^ (e - base).toNat
/-- what is kept of a number at a place, in units of a lower one -/
theorem kept_units {m : Nat} {e L base : Int} (h1 : base ≤ e) (h2 : base ≤ L) : Toward.even.cut false (m <<< (e - L).toNat) (L - e).toNat = rne (unitsOf m e base) (L - base).toNat := by
  rw [cut_rne, Nat.shiftLeft_eq]
  unfold unitsOf
  rcases Int.le_total L e with h | h
  · have a1 : (L - e).toNat = 0 := by omega
    have a2 : (e - base).toNat = (e - L).toNat + (L - base).toNat := by omega
    rw [a1, a2, Nat.pow_add, ← Nat.mul_assoc]
    have := rne_scale (m * 2 ^ (e - L).toNat) 0 (L - base).toNat
    rw [Nat.zero_add] at this
    exact this.symm
  · have a1 : (e - L).toNat = 0 := by omega
    have a2 : (L - base).toNat = (L - e).toNat + (e - base).toNat := by omega
    rw [a1, Nat.pow_zero, Nat.mul_one, a2]
    exact (rne_scale m (L - e).toNat (e - base).toNat).symm
theorem log_units {m : Nat} (h : m ≠ 0) {e base : Int} (hb : base ≤ e) : base + ((unitsOf m e base).log2 : Int) = e + (m.log2 : Int) := by
  unfold unitsOf
  have h1 : (m * 2 ^ (e - base).toNat).log2 = m.log2 + (e - base).toNat := by
    refine (Nat.log2_eq_iff (Nat.mul_ne_zero h (Nat.ne_of_gt (Nat.two_pow_pos _)))).2 ⟨?_, ?_⟩
    · rw [Nat.pow_add]; exact Nat.mul_le_mul_right _ (Nat.log2_self_le h)
    · rw [show m.log2 + (e - base).toNat + 1 = (m.log2 + 1) + (e - base).toNat by omega, Nat.pow_add]
      exact Nat.mul_lt_mul_of_pos_right Nat.lt_log2_self (Nat.two_pow_pos _)
  rw [h1]; omega
/-- the rung that a number is rounded to -/
def rungOf (f : Format) (m : Nat) (e : Int) : Nat :=
  if m = 0 then 0 else min ((max (e + (m.log2 : Int) - f.fractionBits) f.leastPlace - f.leastPlace).toNat * f.binade + Toward.even.cut false (m <<< (e - max (e + (m.log2 : Int) - f.fractionBits) f.leastPlace).toNat) (max (e + (m.log2 : Int) - f.fractionBits) f.leastPlace - e).toNat) f.infRung
theorem nearest_rungOf (f : Format) (g : Bool) (m : Nat) (e : Int) : f.nearest g m e = f.word g (rungOf f m e) := by
  unfold Format.nearest rungOf
  split
  · rfl
  · simp only [cut_rne]
theorem rung_mono (f : Format) {m1 m2 : Nat} {e1 e2 base : Int} (b1 : base ≤ e1) (b2 : base ≤ e2) (b3 : base ≤ f.leastPlace) (h : unitsOf m1 e1 base ≤ unitsOf m2 e2 base) : rungOf f m1 e1 ≤ rungOf f m2 e2 := by
  unfold rungOf
  by_cases z1 : m1 = 0
  · rw [if_pos z1]; exact Nat.zero_le _
  have u1 : unitsOf m1 e1 base ≠ 0 := Nat.mul_ne_zero z1 (Nat.ne_of_gt (Nat.two_pow_pos _))
  have z2 : m2 ≠ 0 := fun e => by
    subst e
    unfold unitsOf at h u1
    rw [Nat.zero_mul] at h
    omega
  have u2 : unitsOf m2 e2 base ≠ 0 := Nat.mul_ne_zero z2 (Nat.ne_of_gt (Nat.two_pow_pos _))
  rw [if_neg z1, if_neg z2]
  have l1 := log_units z1 b1
  have l2 := log_units z2 b2
  have hl : (unitsOf m1 e1 base).log2 ≤ (unitsOf m2 e2 base).log2 := (Nat.le_log2 u2).2 (Nat.le_trans (Nat.log2_self_le u1) h)
  rw [← l1, ← l2]
  generalize hL1 : max (base + ((unitsOf m1 e1 base).log2 : Int) - f.fractionBits) f.leastPlace = L1
  generalize hL2 : max (base + ((unitsOf m2 e2 base).log2 : Int) - f.fractionBits) f.leastPlace = L2
  have c1 : base ≤ L1 := by omega
  have c2 : base ≤ L2 := by omega
  rw [kept_units b1 c1, kept_units b2 c2]
  have hB : f.binade = 2 ^ f.fractionBits := rfl
  have hLL : L1 ≤ L2 := by omega
  suffices hs : (L1 - f.leastPlace).toNat * f.binade + rne (unitsOf m1 e1 base) (L1 - base).toNat ≤ (L2 - f.leastPlace).toNat * f.binade + rne (unitsOf m2 e2 base) (L2 - base).toNat by
    exact Nat.le_min.2 ⟨Nat.le_trans (Nat.min_le_left ..) hs, Nat.min_le_right ..⟩
  rcases Int.lt_or_eq_of_le hLL with hlt | heq
  · have k1 : rne (unitsOf m1 e1 base) (L1 - base).toNat ≤ 2 * f.binade := by
      have hu : unitsOf m1 e1 base < 2 ^ ((unitsOf m1 e1 base).log2 + 1) := Nat.lt_log2_self
      have hd : unitsOf m1 e1 base / 2 ^ (L1 - base).toNat < 2 ^ (f.fractionBits + 1) := by
        refine Nat.div_lt_of_lt_mul (Nat.lt_of_lt_of_le hu ?_)
        rw [← Nat.pow_add]
        exact Nat.pow_le_pow_right (by decide) (by omega)
      unfold rne
      have := toNat_le (decide (2 ^ (L1 - base).toNat < 2 * (unitsOf m1 e1 base % 2 ^ (L1 - base).toNat)) || (2 ^ (L1 - base).toNat == 2 * (unitsOf m1 e1 base % 2 ^ (L1 - base).toNat) && unitsOf m1 e1 base / 2 ^ (L1 - base).toNat % 2 == 1))
      rw [Nat.pow_succ, ← hB] at hd
      omega
    have k2 : f.binade ≤ rne (unitsOf m2 e2 base) (L2 - base).toNat := by
      have hu : 2 ^ (unitsOf m2 e2 base).log2 ≤ unitsOf m2 e2 base := Nat.log2_self_le u2
      unfold rne
      refine Nat.le_trans ?_ (Nat.le_add_right ..)
      rw [Nat.le_div_iff_mul_le (Nat.two_pow_pos _), hB, ← Nat.pow_add]
      refine Nat.le_trans (Nat.pow_le_pow_right (by decide) ?_) hu
      omega
    have hm : ((L1 - f.leastPlace).toNat + 1) * f.binade ≤ (L2 - f.leastPlace).toNat * f.binade := Nat.mul_le_mul_right _ (by omega)
    rw [Nat.add_mul, Nat.one_mul] at hm
    omega
  · subst heq
    exact Nat.add_le_add_left (rne_le h) _
/-- a number in other units is rounded to the same -/
theorem rung_units (f : Format) {m : Nat} {e base : Int} (b1 : base ≤ e) (b3 : base ≤ f.leastPlace) : rungOf f m e = rungOf f (unitsOf m e base) base := by
  have h : unitsOf (unitsOf m e base) base base = unitsOf m e base := by
    show unitsOf m e base * 2 ^ (base - base).toNat = _
    rw [Int.sub_self]
    exact Nat.mul_one _
  exact Nat.le_antisymm (rung_mono f b1 (Int.le_refl _) b3 (Nat.le_of_eq h.symm)) (rung_mono f (Int.le_refl _) b1 b3 (Nat.le_of_eq h))
/-- what a word that is not negative stands for, in units of the least place -/
def valW (f : Format) (r : Nat) : Nat := if r < f.binade then r else (f.binade + r % f.binade) * 2 ^ (r / f.binade - 1)
theorem read_val (f : Format) {r : Nat} (h : r < f.infRung) : ∃ m e, f.read r = .number false m e ∧ f.leastPlace ≤ e ∧ unitsOf m e f.leastPlace = valW f r := by
  have hw := word_cases f false (Nat.le_of_lt h)
  have e0 : f.word false r = r := rfl
  rw [e0] at hw
  rw [hw]
  unfold valW unitsOf
  by_cases hb : r < f.binade
  · rw [if_pos hb, if_pos hb]
    exact ⟨_, _, rfl, Int.le_refl _, by rw [Int.sub_self]; exact Nat.mul_one _⟩
  · rw [if_neg hb, if_neg hb, if_pos h]
    refine ⟨_, _, rfl, by omega, ?_⟩
    rw [show (f.leastPlace + ((r / f.binade - 1 : Nat) : Int) - f.leastPlace).toNat = r / f.binade - 1 by omega]
theorem valW_mono (f : Format) {r s : Nat} (h : r ≤ s) : valW f r ≤ valW f s := by
  have hB : 0 < f.binade := Nat.two_pow_pos _
  unfold valW
  by_cases h1 : r < f.binade
  · rw [if_pos h1]
    by_cases h2 : s < f.binade
    · rw [if_pos h2]; exact h
    · rw [if_neg h2]
      have hp := Nat.two_pow_pos (s / f.binade - 1)
      calc r ≤ (f.binade + s % f.binade) * 1 := by omega
        _ ≤ _ := Nat.mul_le_mul_left _ hp
  · have h2 : ¬ s < f.binade := by omega
    rw [if_neg h1, if_neg h2]
    have hr := Nat.div_add_mod r f.binade
    have hs := Nat.div_add_mod s f.binade
    have mr := Nat.mod_lt r hB
    have ms := Nat.mod_lt s hB
    have hq : r / f.binade ≤ s / f.binade := Nat.div_le_div_right h
    have q1 : 1 ≤ r / f.binade := (Nat.le_div_iff_mul_le hB).2 (by omega)
    rcases Nat.lt_or_eq_of_le hq with hl | he
    · calc (f.binade + r % f.binade) * 2 ^ (r / f.binade - 1) ≤ (2 * f.binade) * 2 ^ (r / f.binade - 1) := Nat.mul_le_mul_right _ (by omega)
        _ = f.binade * 2 ^ (r / f.binade - 1 + 1) := by rw [Nat.pow_succ, Nat.mul_comm 2 f.binade, Nat.mul_assoc, Nat.mul_comm 2]
        _ ≤ f.binade * 2 ^ (s / f.binade - 1) := Nat.mul_le_mul_left _ (Nat.pow_le_pow_right (by decide) (by omega))
        _ ≤ _ := Nat.mul_le_mul_right _ (Nat.le_add_right ..)
    · rw [he] at hr ⊢
      exact Nat.mul_le_mul_right _ (by omega)
theorem add_val (f : Format) {a b : Nat} (ha : a < f.infRung) (hb : b < f.infRung) : f.add a b = some (rungOf f (valW f a + valW f b) f.leastPlace) := by
  obtain ⟨m, e, r1, l1, v1⟩ := read_val f ha
  obtain ⟨n, j, r2, l2, v2⟩ := read_val f hb
  unfold Format.add
  rw [r1, r2]
  simp only [Datum.sum, Option.map_some]
  rw [signed_nn (.inl rfl), signed_nn (.inl rfl), ← Int.natCast_add]
  have hbase : f.leastPlace ≤ min e j := by omega
  have key : unitsOf (m * 2 ^ (e - min e j).toNat + n * 2 ^ (j - min e j).toNat) (min e j) f.leastPlace = valW f a + valW f b := by
    rw [← v1, ← v2]
    unfold unitsOf
    rw [Nat.add_mul, Nat.mul_assoc, Nat.mul_assoc, ← Nat.pow_add, ← Nat.pow_add,
      show (e - min e j).toNat + (min e j - f.leastPlace).toNat = (e - f.leastPlace).toNat by omega, show (j - min e j).toNat + (min e j - f.leastPlace).toNat = (j - f.leastPlace).toNat by omega]
  generalize m * 2 ^ (e - min e j).toNat + n * 2 ^ (j - min e j).toNat = z at key
  rw [Int.natAbs_natCast]
  have hs : (if ((z : Nat) : Int) = 0 then (false && false) else decide (((z : Nat) : Int) < 0)) = false := by
    split
    · rfl
    · exact decide_eq_false (by omega)
  rw [hs]
  show some (f.nearest false z (min e j)) = _
  rw [nearest_rungOf, rung_units f hbase (Int.le_refl _), key]
  rfl
theorem mul_val (f : Format) (hl : f.leastPlace ≤ 0) {a b : Nat} (ha : a < f.infRung) (hb : b < f.infRung) : f.mul a b = some (rungOf f (valW f a * valW f b) (f.leastPlace + f.leastPlace)) := by
  obtain ⟨m, e, r1, l1, v1⟩ := read_val f ha
  obtain ⟨n, j, r2, l2, v2⟩ := read_val f hb
  unfold Format.mul
  rw [r1, r2]
  simp only [Datum.product, Option.map_some, Bool.bne_false]
  have key : unitsOf (m * n) (e + j) (f.leastPlace + f.leastPlace) = valW f a * valW f b := by
    rw [← v1, ← v2]
    unfold unitsOf
    rw [show (e + j - (f.leastPlace + f.leastPlace)).toNat = (e - f.leastPlace).toNat + (j - f.leastPlace).toNat by omega, Nat.pow_add]
    exact Nat.mul_mul_mul_comm ..
  show some (f.nearest false (m * n) (e + j)) = _
  rw [nearest_rungOf, rung_units f (show f.leastPlace + f.leastPlace ≤ e + j by omega) (show f.leastPlace + f.leastPlace ≤ f.leastPlace by omega), key]
  rfl
theorem rung_le (f : Format) {m n : Nat} {e : Int} (he : e ≤ f.leastPlace) (h : m ≤ n) : rungOf f m e ≤ rungOf f n e :=
  rung_mono f (Int.le_refl _) (Int.le_refl _) he (Nat.mul_le_mul_right _ h)
theorem add_mono (k : FloatKind) {a b c d : Nat} (hc : c < k.format.infRung) (hd : d < k.format.infRung) (h1 : a ≤ c) (h2 : b ≤ d) : fadd k a b ≤ fadd k c d := by
  unfold fadd
  rw [add_val _ (Nat.lt_of_le_of_lt h1 hc) (Nat.lt_of_le_of_lt h2 hd), add_val _ hc hd]
  exact rung_le _ (Int.le_refl _) (Nat.add_le_add (valW_mono _ h1) (valW_mono _ h2))
theorem least_neg (k : FloatKind) : k.format.leastPlace ≤ 0 := by cases k <;> decide
theorem mul_mono (k : FloatKind) {a b c d : Nat} (hc : c < k.format.infRung) (hd : d < k.format.infRung) (h1 : a ≤ c) (h2 : b ≤ d) : fmul k a b ≤ fmul k c d := by
  have hl := least_neg k
  unfold fmul
  rw [mul_val _ hl (Nat.lt_of_le_of_lt h1 hc) (Nat.lt_of_le_of_lt h2 hd), mul_val _ hl hc hd]
  exact rung_le _ (by omega) (Nat.mul_le_mul (valW_mono _ h1) (valW_mono _ h2))
/-! ### differences -/
theorem opp_read (f : Format) {m : Nat} {e : Int} {r : Nat} (h : f.read r = .number false m e) : (f.read r).opposite = .number true m e := by rw [h]; rfl
theorem sub_units {m n : Nat} {e j l : Int} (h1 : l ≤ e) (h2 : l ≤ j) : unitsOf (m * 2 ^ (e - min e j).toNat) (min e j) l = unitsOf m e l ∧ unitsOf (n * 2 ^ (j - min e j).toNat) (min e j) l = unitsOf n j l := by
  unfold unitsOf
  constructor
  · rw [Nat.mul_assoc, ← Nat.pow_add, show (e - min e j).toNat + (min e j - l).toNat = (e - l).toNat by omega]
  · rw [Nat.mul_assoc, ← Nat.pow_add, show (j - min e j).toNat + (min e j - l).toNat = (j - l).toNat by omega]
theorem sub_val (f : Format) {a b : Nat} (ha : a < f.infRung) (hb : b < f.infRung) :
    f.sub a b = some (if valW f b ≤ valW f a then rungOf f (valW f a - valW f b) f.leastPlace else f.signWeight + rungOf f (valW f b - valW f a) f.leastPlace) := by
  obtain ⟨m, e, r1, l1, v1⟩ := read_val f ha
  obtain ⟨n, j, r2, l2, v2⟩ := read_val f hb
  unfold Format.sub
  rw [r1, opp_read f r2]
  simp only [Datum.sum, Option.map_some]
  obtain ⟨u1, u2⟩ := sub_units (m := m) (n := n) l1 l2
  rw [v1] at u1
  rw [v2] at u2
  have hbase : f.leastPlace ≤ min e j := by omega
  have e1 : signed false m (e - min e j).toNat = ((m * 2 ^ (e - min e j).toNat : Nat) : Int) := signed_nn (.inl rfl) _
  have e2 : signed true n (j - min e j).toNat = -((n * 2 ^ (j - min e j).toNat : Nat) : Int) := by rw [signed_eq]; rfl
  rw [e1, e2]
  generalize m * 2 ^ (e - min e j).toNat = x at u1
  generalize n * 2 ^ (j - min e j).toNat = y at u2
  generalize min e j = base at hbase u1 u2
  have hp : 0 < 2 ^ (base - f.leastPlace).toNat := Nat.two_pow_pos _
  have hle : valW f b ≤ valW f a ↔ y ≤ x := by
    rw [← u1, ← u2]
    exact Nat.mul_le_mul_right_iff hp
  have hsub : ∀ p q : Nat, unitsOf (p - q) base f.leastPlace = unitsOf p base f.leastPlace - unitsOf q base f.leastPlace := fun p q => Nat.sub_mul ..
  by_cases h : y ≤ x
  · rw [if_pos (hle.2 h)]
    have hz : ((x : Nat) : Int) + -((y : Nat) : Int) = ((x - y : Nat) : Int) := by omega
    rw [hz, Int.natAbs_natCast]
    have hs : (if ((x - y : Nat) : Int) = 0 then (false && true) else decide (((x - y : Nat) : Int) < 0)) = false := by
      split
      · rfl
      · exact decide_eq_false (by omega)
    rw [hs]
    show some (f.nearest false (x - y) base) = _
    rw [nearest_rungOf, rung_units f hbase (Int.le_refl _), hsub, u1, u2]
    rfl
  · rw [if_neg (fun hh => h (hle.1 hh))]
    have hz : ((x : Nat) : Int) + -((y : Nat) : Int) = -((y - x : Nat) : Int) := by omega
    rw [hz, Int.natAbs_neg, Int.natAbs_natCast]
    have hs : (if -((y - x : Nat) : Int) = 0 then (false && true) else decide (-((y - x : Nat) : Int) < 0)) = true := by
      rw [if_neg (by omega)]
      exact decide_eq_true (by omega)
    rw [hs]
    show some (f.nearest true (y - x) base) = _
    rw [nearest_rungOf, rung_units f hbase (Int.le_refl _), hsub, u1, u2]
    rfl
/-! ### quotients -/
/-- strictly between two multiples of 4, all numbers are rounded to the same -/
theorem rne_sticky {u a b d : Nat} (hd : 3 ≤ d) (a1 : 4 * u < a) (a2 : a < 4 * u + 4) (b1 : 4 * u < b) (b2 : b < 4 * u + 4) : rne a d = rne b d := by
  obtain ⟨q, hq⟩ : ∃ q, 2 ^ d = 8 * q := ⟨2 ^ (d - 3), by rw [show (8 : Nat) = 2 ^ 3 by decide, ← Nat.pow_add, show 3 + (d - 3) = d by omega]⟩
  have hq0 : 0 < q := by
    rcases Nat.eq_zero_or_pos q with h | h
    · have := Nat.two_pow_pos d
      rw [hq, h] at this
      omega
    · exact h
  unfold rne
  rw [hq]
  have hu := Nat.div_add_mod u (2 * q)
  have mu := Nat.mod_lt u (show 0 < 2 * q by omega)
  have key : ∀ c, 4 * u < c → c < 4 * u + 4 → c / (8 * q) = u / (2 * q) ∧ c % (8 * q) = 4 * (u % (2 * q)) + (c - 4 * u) := fun c c1 c2 => by
    have e : c = (4 * (u % (2 * q)) + (c - 4 * u)) + 8 * q * (u / (2 * q)) := by
      have : 8 * q * (u / (2 * q)) = 4 * (2 * q * (u / (2 * q))) := by
        rw [← Nat.mul_assoc, ← Nat.mul_assoc]
      omega
    have hlt : 4 * (u % (2 * q)) + (c - 4 * u) < 8 * q := by omega
    refine ⟨?_, ?_⟩
    · have e2 : c / (8 * q) = ((4 * (u % (2 * q)) + (c - 4 * u)) + 8 * q * (u / (2 * q))) / (8 * q) := congrArg (· / (8 * q)) e
      rw [e2, Nat.add_mul_div_left _ _ (by omega), Nat.div_eq_of_lt hlt, Nat.zero_add]
    · have e2 : c % (8 * q) = ((4 * (u % (2 * q)) + (c - 4 * u)) + 8 * q * (u / (2 * q))) % (8 * q) := congrArg (· % (8 * q)) e
      rw [e2, Nat.add_mul_mod_self_left, Nat.mod_eq_of_lt hlt]
  obtain ⟨p1, p2⟩ := key a a1 a2
  obtain ⟨p3, p4⟩ := key b b1 b2
  rw [p1, p2, p3, p4]
  generalize u % (2 * q) = v at mu
  have c1 : (8 * q < 2 * (4 * v + (a - 4 * u))) ↔ (8 * q < 2 * (4 * v + (b - 4 * u))) := by omega
  have c2 : ¬ 8 * q = 2 * (4 * v + (a - 4 * u)) := by omega
  have c3 : ¬ 8 * q = 2 * (4 * v + (b - 4 * u)) := by omega
  have d1 : (8 * q == 2 * (4 * v + (a - 4 * u))) = false := by simpa using c2
  have d2 : (8 * q == 2 * (4 * v + (b - 4 * u))) = false := by simpa using c3
  rw [d1, d2, decide_eq_decide.2 c1]
/-- a quotient with one more digit that tells whether anything is left -/
def quoK (m n K : Nat) : Nat := 2 * (m * 2 ^ K / n) + (m * 2 ^ K % n != 0).toNat
theorem log4 {u c : Nat} (hu : u ≠ 0) (hc : c < 4) : (4 * u + c).log2 = u.log2 + 2 := by
  have h1 := Nat.log2_self_le hu
  have h2 : u < 2 ^ (u.log2 + 1) := Nat.lt_log2_self
  have e1 : 2 ^ (u.log2 + 2) = 4 * 2 ^ u.log2 := by rw [Nat.pow_add]; omega
  have e2 : 2 ^ (u.log2 + 2 + 1) = 4 * 2 ^ (u.log2 + 1) := by rw [show u.log2 + 2 + 1 = (u.log2 + 1) + 2 by omega, Nat.pow_add (m := u.log2 + 1)]; omega
  exact (Nat.log2_eq_iff (by omega)).2 ⟨by rw [e1]; omega, by rw [e2]; omega⟩
theorem rung_low (f : Format) {a : Nat} {e L : Int} (h0 : a ≠ 0) (hL : max (e + (a.log2 : Int) - f.fractionBits) f.leastPlace = L) (h : e ≤ L) : rungOf f a e = min ((L - f.leastPlace).toNat * f.binade + rne a (L - e).toNat) f.infRung := by
  unfold rungOf
  rw [if_neg h0, hL, cut_rne, show (e - L).toNat = 0 by omega, Nat.shiftLeft_zero]
theorem quo_next (f : Format) {m n K : Nat} {p : Int} (hn : 0 < n) (hA : f.fractionBits + 2 ≤ (quoK m n K).log2) : rungOf f (quoK m n K) p = rungOf f (quoK m n (K + 1)) (p - 1) ∧ f.fractionBits + 2 ≤ (quoK m n (K + 1)).log2 := by
  unfold quoK at *
  rw [Nat.pow_succ, ← Nat.mul_assoc]
  generalize m * 2 ^ K = X at *
  have hX := Nat.div_add_mod X n
  have hr := Nat.mod_lt X hn
  generalize hu : X / n = u at *
  generalize hrm : X % n = r at *
  have hX2 : X * 2 = n * (2 * u) + 2 * r := by rw [← hX]; rw [Nat.add_mul, Nat.mul_assoc, Nat.mul_comm u 2, Nat.mul_comm r 2]
  have hu0 : u ≠ 0 := by
    rintro rfl
    have := toNat_le (r != 0)
    have h2 : (2 * 0 + (r != 0).toNat).log2 ≤ 0 := by
      have : 2 * 0 + (r != 0).toNat < 2 := by omega
      generalize 2 * 0 + (r != 0).toNat = z at this
      rcases Nat.eq_zero_or_pos z with h | h
      · subst h; decide
      · have : z = 1 := by omega
        subst this; decide
    omega
  -- both, as numbers between 4 * u and 4 * u + 4
  obtain ⟨c, hc, hc0, e1⟩ : ∃ c, c < 4 ∧ (r = 0 → c = 0) ∧ (r ≠ 0 → 0 < c) ∧ 2 * (X * 2 / n) + (X * 2 % n != 0).toNat = 4 * u + c := by
    by_cases h : 2 * r < n
    · have d1 : X * 2 / n = 2 * u := by rw [hX2, Nat.mul_add_div hn, Nat.div_eq_of_lt h, Nat.add_zero]
      have d2 : X * 2 % n = 2 * r := by rw [hX2, Nat.mul_add_mod, Nat.mod_eq_of_lt h]
      rw [d1, d2]
      by_cases hr0 : r = 0
      · exact ⟨0, by omega, fun _ => rfl, fun h => absurd hr0 h, by rw [hr0]; simp; omega⟩
      · have : (2 * r != 0) = true := by simp; omega
        exact ⟨1, by omega, fun h => absurd h hr0, fun _ => by omega, by rw [this]; show 2 * (2 * u) + 1 = _; omega⟩
    · have hlt : 2 * r - n < n := by omega
      have hX3 : X * 2 = n * (2 * u + 1) + (2 * r - n) := by rw [hX2, Nat.mul_add, Nat.mul_one]; omega
      have d1 : X * 2 / n = 2 * u + 1 := by rw [hX3, Nat.mul_add_div hn, Nat.div_eq_of_lt hlt, Nat.add_zero]
      have d2 : X * 2 % n = 2 * r - n := by rw [hX3, Nat.mul_add_mod, Nat.mod_eq_of_lt hlt]
      rw [d1, d2]
      have := toNat_le (2 * r - n != 0)
      exact ⟨2 + (2 * r - n != 0).toNat, by omega, fun h => by omega, fun _ => by omega, by omega⟩
  obtain ⟨hc1, e1⟩ := e1
  rw [e1]
  have e0 : 2 * u + (r != 0).toNat = 2 * u + (if r = 0 then 0 else 1) := by
    by_cases h : r = 0
    · rw [h]; rfl
    · rw [if_neg h]
      have : (r != 0) = true := by simpa using h
      rw [this]; rfl
  rw [e0] at hA ⊢
  have l2 : (4 * u + c).log2 = u.log2 + 2 := log4 hu0 hc
  have l1 : (2 * u + (if r = 0 then 0 else 1)).log2 = u.log2 + 1 := by
    have h1 := Nat.log2_self_le hu0
    have h2 : u < 2 ^ (u.log2 + 1) := Nat.lt_log2_self
    have q1 : 2 ^ (u.log2 + 1) = 2 * 2 ^ u.log2 := by rw [Nat.pow_succ]; omega
    have q2 : 2 ^ (u.log2 + 1 + 1) = 2 * 2 ^ (u.log2 + 1) := by rw [Nat.pow_succ]; omega
    refine (Nat.log2_eq_iff (by omega)).2 ⟨by rw [q1]; omega, ?_⟩
    rw [q2]
    split <;> omega
  refine ⟨?_, by omega⟩
  rw [l1] at hA
  generalize hL : max (p + (((2 * u + (if r = 0 then 0 else 1)).log2 : Nat) : Int) - f.fractionBits) f.leastPlace = L
  have hL2 : max (p - 1 + (((4 * u + c).log2 : Nat) : Int) - f.fractionBits) f.leastPlace = L := by
    rw [← hL, l1, l2]; omega
  have hpL : p + 2 ≤ L := by rw [← hL, l1]; omega
  rw [rung_low f (by omega) hL (by omega), rung_low f (by omega) hL2 (by omega)]
  have hk : rne (2 * u + (if r = 0 then 0 else 1)) (L - p).toNat = rne (4 * u + c) (L - (p - 1)).toNat := by
    have hd : (L - (p - 1)).toNat = (L - p).toNat + 1 := by omega
    have hs := rne_scale (2 * u + (if r = 0 then 0 else 1)) (L - p).toNat 1
    rw [← hs, hd]
    by_cases h : r = 0
    · rw [hc0 h, if_pos h]
      rw [show (2 * u + 0) * 2 ^ 1 = 4 * u + 0 by omega]
    · have := hc1 h
      rw [if_neg h]
      exact rne_sticky (u := u) (by omega) (by omega) (by omega) (by omega) (by omega)
  rw [hk]
theorem quo_any (f : Format) {m n K : Nat} {p : Int} (hn : 0 < n) (hA : f.fractionBits + 2 ≤ (quoK m n K).log2) : ∀ t : Nat, rungOf f (quoK m n K) p = rungOf f (quoK m n (K + t)) (p - t) ∧ f.fractionBits + 2 ≤ (quoK m n (K + t)).log2
  | 0 => ⟨by rw [Nat.add_zero]; simp, hA⟩
  | t + 1 => by
    obtain ⟨h1, h2⟩ := quo_any f hn hA t
    obtain ⟨h3, h4⟩ := quo_next f (p := p - (t : Int)) hn h2
    refine ⟨?_, h4⟩
    rw [h1, h3, show p - (t : Int) - 1 = p - ((t + 1 : Nat) : Int) by omega]
    rfl
theorem ratio_le {a b c d : Nat} (hb : 0 < b) (hd : 0 < d) (h : a * d ≤ c * b) : 2 * (a / b) + (a % b != 0).toNat ≤ 2 * (c / d) + (c % d != 0).toNat := by
  have ha := Nat.div_add_mod a b
  have hc := Nat.div_add_mod c d
  have ma := Nat.mod_lt a hb
  have mc := Nat.mod_lt c hd
  have t1 := toNat_le (a % b != 0)
  have hq : a / b ≤ c / d := by
    rw [Nat.le_div_iff_mul_le hd]
    have h1 : a / b * d * b ≤ c * b := by
      calc a / b * d * b = b * (a / b) * d := by rw [Nat.mul_comm (a / b * d) b, Nat.mul_assoc]
        _ ≤ a * d := Nat.mul_le_mul_right _ (Nat.mul_div_le a b)
        _ ≤ c * b := h
    exact Nat.le_of_mul_le_mul_right h1 hb
  rcases Nat.lt_or_eq_of_le hq with hl | he
  · omega
  · rw [he]
    by_cases h0 : a % b = 0
    · rw [h0]
      have : ((0 : Nat) != 0).toNat = 0 := rfl
      rw [this]; omega
    · by_cases h1 : c % d = 0
      · exfalso
        rw [h1, Nat.add_zero] at hc
        rw [he] at ha
        generalize c / d = q at *
        subst hc
        have : a * d ≤ q * b * d := by
          calc a * d ≤ d * q * b := h
            _ = q * b * d := by rw [Nat.mul_comm d q, Nat.mul_assoc, Nat.mul_comm d b, ← Nat.mul_assoc]
        have h2 := Nat.le_of_mul_le_mul_right this hd
        rw [Nat.mul_comm q b] at h2
        omega
      · have : (c % d != 0) = true := by simpa using h1
        rw [this]
        have e1 : (true).toNat = 1 := rfl
        rw [e1]; omega
theorem valW_pos (f : Format) {b : Nat} (h : 0 < b) : 0 < valW f b := by
  unfold valW
  split
  · exact h
  · exact Nat.mul_pos (Nat.lt_of_lt_of_le (Nat.two_pow_pos _) (Nat.le_add_right ..)) (Nat.two_pow_pos _)
theorem div_val (f : Format) {a b : Nat} (ha : a < f.infRung) (hb : b < f.infRung) (hb0 : 0 < b) :
    ∃ (m n K : Nat) (e j : Int), f.leastPlace ≤ e ∧ unitsOf m e f.leastPlace = valW f a ∧ f.leastPlace ≤ j ∧ unitsOf n j f.leastPlace = valW f b ∧ 0 < n ∧
      f.div a b = some (rungOf f (quoK m n K) (e - j - K - 1)) ∧ (m ≠ 0 → f.fractionBits + 2 ≤ (quoK m n K).log2) := by
  obtain ⟨m, e, r1, l1, v1⟩ := read_val f ha
  obtain ⟨n, j, r2, l2, v2⟩ := read_val f hb
  have hn : n ≠ 0 := by
    rintro rfl
    have := valW_pos f hb0
    rw [← v2] at this
    unfold unitsOf at this
    omega
  refine ⟨m, n, f.fractionBits + 2 + n.log2 - m.log2, e, j, l1, v1, l2, v2, Nat.pos_of_ne_zero hn, ?_, fun hm => ?_⟩
  · unfold Format.div
    rw [r1, r2]
    unfold Datum.quotient
    simp only
    rw [if_neg hn]
    show some (f.nearest (false ^^ false) _ _) = _
    rw [nearest_rungOf, Nat.shiftLeft_eq]
    rfl
  · have h1 := Nat.log2_self_le hm
    have h2 : n < 2 ^ (n.log2 + 1) := Nat.lt_log2_self
    have hu : 2 ^ (f.fractionBits + 1) ≤ m * 2 ^ (f.fractionBits + 2 + n.log2 - m.log2) / n := by
      rw [Nat.le_div_iff_mul_le (Nat.pos_of_ne_zero hn)]
      calc 2 ^ (f.fractionBits + 1) * n ≤ 2 ^ (f.fractionBits + 1) * 2 ^ (n.log2 + 1) := Nat.mul_le_mul_left _ (Nat.le_of_lt h2)
        _ = 2 ^ (f.fractionBits + 1 + (n.log2 + 1)) := by rw [← Nat.pow_add]
        _ ≤ 2 ^ (m.log2 + (f.fractionBits + 2 + n.log2 - m.log2)) := Nat.pow_le_pow_right (by decide) (by omega)
        _ = 2 ^ m.log2 * 2 ^ (f.fractionBits + 2 + n.log2 - m.log2) := by rw [Nat.pow_add]
        _ ≤ _ := Nat.mul_le_mul_right _ h1
    unfold quoK
    generalize m * 2 ^ (f.fractionBits + 2 + n.log2 - m.log2) / n = u at hu
    have hp : 2 ^ (f.fractionBits + 2) = 2 * 2 ^ (f.fractionBits + 1) := by rw [show f.fractionBits + 2 = f.fractionBits + 1 + 1 by omega, Nat.pow_succ]; omega
    have hq := Nat.two_pow_pos (f.fractionBits + 1)
    exact (Nat.le_log2 (by omega)).2 (by rw [hp]; omega)
theorem div_mono (k : FloatKind) {a b c d : Nat} (hc : c < k.format.infRung) (hb : b < k.format.infRung) (hd : 0 < d) (h1 : a ≤ c) (h2 : d ≤ b) : fdiv k a b ≤ fdiv k c d := by
  unfold fdiv
  generalize k.format = f at *
  obtain ⟨m1, n1, K1, e1, j1, l1, v1, l2, v2, hn1, q1, g1⟩ := div_val f (Nat.lt_of_le_of_lt h1 hc) hb (Nat.lt_of_lt_of_le hd h2)
  obtain ⟨m2, n2, K2, e2, j2, l3, v3, l4, v4, hn2, q2, g2⟩ := div_val f hc (Nat.lt_of_le_of_lt h2 hb) hd
  rw [q1, q2]
  show rungOf f (quoK m1 n1 K1) _ ≤ rungOf f (quoK m2 n2 K2) _
  by_cases z1 : m1 = 0
  · have : quoK m1 n1 K1 = 0 := by
      unfold quoK
      rw [z1, Nat.zero_mul, Nat.zero_div, Nat.zero_mod]; rfl
    rw [this]
    exact Nat.zero_le _
  have va : valW f a ≤ valW f c := valW_mono f h1
  have vb : valW f d ≤ valW f b := valW_mono f h2
  have z2 : m2 ≠ 0 := by
    rintro rfl
    have : 0 < valW f a := by
      rw [← v1]
      exact Nat.mul_pos (Nat.pos_of_ne_zero z1) (Nat.two_pow_pos _)
    rw [← v3] at va
    unfold unitsOf at va
    omega
  have hx : valW f a * valW f d ≤ valW f c * valW f b := Nat.mul_le_mul va vb
  obtain ⟨P, hP1, hP2⟩ : ∃ P : Int, P ≤ e1 - j1 - K1 - 1 ∧ P ≤ e2 - j2 - K2 - 1 := ⟨min (e1 - j1 - K1 - 1) (e2 - j2 - K2 - 1), by omega, by omega⟩
  have r1 := (quo_any f (p := e1 - j1 - K1 - 1) hn1 (g1 z1) (e1 - j1 - K1 - 1 - P).toNat).1
  have r2 := (quo_any f (p := e2 - j2 - K2 - 1) hn2 (g2 z2) (e2 - j2 - K2 - 1 - P).toNat).1
  rw [r1, r2, show e1 - j1 - (K1 : Int) - 1 - ((e1 - j1 - (K1 : Int) - 1 - P).toNat : Int) = P by omega, show e2 - j2 - (K2 : Int) - 1 - ((e2 - j2 - (K2 : Int) - 1 - P).toNat : Int) = P by omega]
  have hA : quoK m1 n1 (K1 + (e1 - j1 - K1 - 1 - P).toNat) ≤ quoK m2 n2 (K2 + (e2 - j2 - K2 - 1 - P).toNat) := by
    refine ratio_le hn1 hn2 ?_
    rw [← v1, ← v2, ← v3, ← v4] at hx
    unfold unitsOf at hx
    generalize hw1 : K1 + (e1 - j1 - K1 - 1 - P).toNat = w1
    generalize hw2 : K2 + (e2 - j2 - K2 - 1 - P).toNat = w2
    have x1 : m1 * 2 ^ (e1 - f.leastPlace).toNat * (n2 * 2 ^ (j2 - f.leastPlace).toNat) = m1 * n2 * 2 ^ ((e1 - f.leastPlace).toNat + (j2 - f.leastPlace).toNat) := by
      rw [Nat.pow_add]; exact Nat.mul_mul_mul_comm ..
    have x2 : m2 * 2 ^ (e2 - f.leastPlace).toNat * (n1 * 2 ^ (j1 - f.leastPlace).toNat) = m2 * n1 * 2 ^ ((e2 - f.leastPlace).toNat + (j1 - f.leastPlace).toNat) := by
      rw [Nat.pow_add]; exact Nat.mul_mul_mul_comm ..
    rw [x1, x2] at hx
    have y1 : m1 * 2 ^ w1 * n2 = m1 * n2 * 2 ^ w1 := Nat.mul_right_comm ..
    have y2 : m2 * 2 ^ w2 * n1 = m2 * n1 * 2 ^ w2 := Nat.mul_right_comm ..
    rw [y1, y2]
    rcases Int.le_total 0 (j1 + j2 + 1 + P - f.leastPlace - f.leastPlace) with hS | hS
    · have s1 : (e1 - f.leastPlace).toNat + (j2 - f.leastPlace).toNat = w1 + (j1 + j2 + 1 + P - f.leastPlace - f.leastPlace).toNat := by omega
      have s2 : (e2 - f.leastPlace).toNat + (j1 - f.leastPlace).toNat = w2 + (j1 + j2 + 1 + P - f.leastPlace - f.leastPlace).toNat := by omega
      rw [s1, s2, Nat.pow_add, Nat.pow_add, ← Nat.mul_assoc, ← Nat.mul_assoc] at hx
      exact Nat.le_of_mul_le_mul_right hx (Nat.two_pow_pos _)
    · have s1 : w1 = (e1 - f.leastPlace).toNat + (j2 - f.leastPlace).toNat + (-(j1 + j2 + 1 + P - f.leastPlace - f.leastPlace)).toNat := by omega
      have s2 : w2 = (e2 - f.leastPlace).toNat + (j1 - f.leastPlace).toNat + (-(j1 + j2 + 1 + P - f.leastPlace - f.leastPlace)).toNat := by omega
      rw [s1, s2, Nat.pow_add, Nat.pow_add _ _ (-(j1 + j2 + 1 + P - f.leastPlace - f.leastPlace)).toNat, ← Nat.mul_assoc, ← Nat.mul_assoc]
      exact Nat.mul_le_mul_right _ hx
  by_cases hPl : P ≤ f.leastPlace
  · exact rung_le f hPl hA
  · exact rung_mono f (base := f.leastPlace) (by omega) (by omega) (Int.le_refl _) (Nat.mul_le_mul_right _ hA)
/-- a difference of two numbers, the first one being the greater -/
theorem sub_mono (k : FloatKind) {a b c d : Nat} (hc : c < k.format.infRung) (hb : b < k.format.infRung) (h1 : a ≤ c) (h2 : d ≤ b) (h3 : b ≤ a) : fsub k a b ≤ fsub k c d := by
  unfold fsub
  rw [sub_val _ (Nat.lt_of_le_of_lt h1 hc) hb, sub_val _ hc (Nat.lt_of_le_of_lt h2 hb), if_pos (valW_mono _ h3), if_pos (valW_mono _ (by omega))]
  have x := valW_mono k.format h1
  have y := valW_mono k.format h2
  exact rung_le _ (Int.le_refl _) (by omega)
end Sx
namespace Sx
open Go Ev Ieee

/-! ### once is the same -/
theorem rne_zero (n : Nat) : rne n 0 = n := by
  unfold rne
  have h1 : n % 2 ^ 0 = 0 := by rw [Nat.pow_zero]; exact Nat.mod_one n
  rw [h1, Nat.pow_zero, Nat.div_one]
  rfl
theorem rne_exact (n d : Nat) : rne (n * 2 ^ d) d = n := by
  have := rne_scale n 0 d
  rw [Nat.zero_add] at this
  rw [this, rne_zero]
/-- a word's number is rounded to the word -/
theorem rung_val (f : Format) {r : Nat} (h : r < f.infRung) : rungOf f (valW f r) f.leastPlace = r := by
  have hB : f.binade = 2 ^ f.fractionBits := rfl
  have hBp : 0 < f.binade := Nat.two_pow_pos _
  have hk : ∀ v : Nat, ∀ L : Int, f.leastPlace ≤ L → Toward.even.cut false (v <<< (f.leastPlace - L).toNat) (L - f.leastPlace).toNat = rne v (L - f.leastPlace).toNat := fun v L hL => by
    have := kept_units (m := v) (e := f.leastPlace) (L := L) (base := f.leastPlace) (Int.le_refl _) hL
    rw [this]
    unfold unitsOf
    rw [Int.sub_self]
    show rne (v * 2 ^ 0) _ = _
    rw [Nat.pow_zero, Nat.mul_one]
  by_cases h0 : r = 0
  · subst h0
    have : valW f 0 = 0 := by unfold valW; rw [if_pos hBp]
    rw [this]
    unfold rungOf
    rw [if_pos rfl]
  have hv0 : valW f r ≠ 0 := Nat.ne_of_gt (valW_pos f (Nat.pos_of_ne_zero h0))
  unfold rungOf
  rw [if_neg hv0]
  by_cases hr : r < f.binade
  · have hv : valW f r = r := by unfold valW; rw [if_pos hr]
    rw [hv] at hv0 ⊢
    have hl : r.log2 < f.fractionBits := by
      rw [Nat.log2_lt hv0]
      exact hr
    have hL : max (f.leastPlace + (r.log2 : Int) - f.fractionBits) f.leastPlace = f.leastPlace := by omega
    rw [hL, hk r _ (Int.le_refl _), Int.sub_self]
    show min (0 * f.binade + rne r 0) f.infRung = r
    rw [rne_zero, Nat.zero_mul, Nat.zero_add]
    exact Nat.min_eq_left (Nat.le_of_lt h)
  · have hv : valW f r = (f.binade + r % f.binade) * 2 ^ (r / f.binade - 1) := by unfold valW; rw [if_neg hr]
    have hm := Nat.mod_lt r hBp
    have hd := Nat.div_add_mod r f.binade
    have hq : 1 ≤ r / f.binade := (Nat.le_div_iff_mul_le hBp).2 (by omega)
    have hl : (valW f r).log2 = f.fractionBits + (r / f.binade - 1) := by
      refine (Nat.log2_eq_iff hv0).2 ⟨?_, ?_⟩
      · rw [hv, Nat.pow_add, ← hB]
        exact Nat.mul_le_mul_right _ (Nat.le_add_right ..)
      · rw [hv, show f.fractionBits + (r / f.binade - 1) + 1 = (f.fractionBits + 1) + (r / f.binade - 1) by omega, Nat.pow_add]
        refine Nat.mul_lt_mul_of_pos_right ?_ (Nat.two_pow_pos _)
        rw [Nat.pow_succ, ← hB]
        omega
    have hL : max (f.leastPlace + ((valW f r).log2 : Int) - f.fractionBits) f.leastPlace = f.leastPlace + ((r / f.binade - 1 : Nat) : Int) := by omega
    rw [hL, hk _ _ (by omega)]
    rw [show (f.leastPlace + ((r / f.binade - 1 : Nat) : Int) - f.leastPlace).toNat = r / f.binade - 1 by omega]
    rw [hv, rne_exact]
    have e : (r / f.binade - 1) * f.binade + (f.binade + r % f.binade) = r := by
      have : (r / f.binade - 1) * f.binade + f.binade = f.binade * (r / f.binade) := by
        rw [Nat.sub_mul, Nat.one_mul, Nat.mul_comm]
        refine Nat.sub_add_cancel ?_
        calc f.binade = f.binade * 1 := (Nat.mul_one _).symm
          _ ≤ _ := Nat.mul_le_mul_left _ hq
      omega
    rw [e]
    exact Nat.min_eq_left (Nat.le_of_lt h)
/-- what a word reads as: a word of a sign and a rung, or a NaN -/
theorem read_parts (x : Nat) : (∃ g r, r ≤ single.infRung ∧ single.read x = single.read (single.word g r)) ∨ ∃ g y, single.read x = .nan g y := by
  have f4 : single.signWeight = 2147483648 := by decide
  have f1 : single.infRung = 2139095040 := by decide
  have f2 : single.binade = 8388608 := by decide
  by_cases hr : x % single.signWeight ≤ single.infRung
  · left
    refine ⟨x / single.signWeight % 2 == 1, x % single.signWeight, hr, ?_⟩
    have hl : x % single.signWeight < single.signWeight := Nat.mod_lt _ (by rw [f4]; decide)
    have hs : (single.word (x / single.signWeight % 2 == 1) (x % single.signWeight) / single.signWeight % 2 == 1) = (x / single.signWeight % 2 == 1) := by
      unfold Format.word
      cases hg : (x / single.signWeight % 2 == 1) with
      | true =>
        have e : (single.signWeight + x % single.signWeight) / single.signWeight = 1 := by
          rw [Nat.add_div_left _ (by rw [f4]; decide), Nat.div_eq_of_lt hl]
        rw [if_pos rfl, e]; rfl
      | false => rw [if_neg (by decide), Nat.div_eq_of_lt hl]; rfl
    unfold Format.read
    simp only [hs, Format.word_mod single _ hl]
  · right
    unfold Format.read
    simp only
    rw [if_neg (by omega), if_neg (by omega), if_neg (by omega)]
    exact ⟨_, _, rfl⟩
theorem one_times (x : Nat) : (∃ g y, single.read x = .nan g y) ∧ (∃ g y, single.read (fmul .f32 1065353216 x) = .nan g y) ∨ single.read (fmul .f32 1065353216 x) = single.read x := by
  have h1 : single.read 1065353216 = .number false 8388608 (-23) := by decide +kernel
  have hm : fmul .f32 1065353216 x = o2 .f32 (((single.read 1065353216).product (single.read x)).map single.write) := rfl
  rcases read_parts x with ⟨g, r, hr, e⟩ | ⟨g, y, e⟩
  · right
    rcases Nat.lt_or_eq_of_le hr with hr | hr
    · rw [hm, h1, e]
      have hw : ∃ m e, single.read (single.word g r) = .number g m e ∧ single.leastPlace ≤ e ∧ unitsOf m e single.leastPlace = valW single r := by
        rw [word_cases single g (Nat.le_of_lt hr)]
        unfold valW unitsOf
        by_cases hb : r < single.binade
        · rw [if_pos hb, if_pos hb]
          exact ⟨_, _, rfl, Int.le_refl _, by rw [Int.sub_self]; exact Nat.mul_one _⟩
        · rw [if_neg hb, if_neg hb, if_pos hr]
          refine ⟨_, _, rfl, by omega, ?_⟩
          rw [show (single.leastPlace + ((r / single.binade - 1 : Nat) : Int) - single.leastPlace).toNat = r / single.binade - 1 by omega]
      obtain ⟨m, p, e1, e2, e3⟩ := hw
      rw [e1]
      show single.read (single.write (.number (false ^^ g) (8388608 * m) (-23 + p))) = _
      rw [Bool.false_xor]
      show single.read (single.nearest g (8388608 * m) (-23 + p)) = _
      rw [nearest_rungOf]
      have hrung : rungOf single (8388608 * m) (-23 + p) = r := by
        have hu : unitsOf (8388608 * m) (-23 + p) (single.leastPlace - 23) = unitsOf (valW single r) single.leastPlace (single.leastPlace - 23) := by
          rw [← e3]
          unfold unitsOf
          rw [show (-23 + p - (single.leastPlace - 23)).toNat = (p - single.leastPlace).toNat by omega]
          rw [show (single.leastPlace - (single.leastPlace - 23)).toNat = 23 by omega]
          rw [Nat.mul_comm 8388608 m, Nat.mul_assoc, Nat.mul_assoc, Nat.mul_comm 8388608]
        have hb3 : single.leastPlace - 23 ≤ single.leastPlace := by omega
        rw [← rung_val single hr]
        exact Nat.le_antisymm (rung_mono single (by omega) (by omega) hb3 (Nat.le_of_eq hu)) (rung_mono single (by omega) (by omega) hb3 (Nat.le_of_eq hu.symm))
      rw [hrung, e1]
    · subst hr
      have hi : single.read (single.word g single.infRung) = .infinity g := by
        rw [word_cases single g (Nat.le_refl _), if_neg (by decide), if_neg (by decide)]
      rw [hm, h1, e, hi]
      have hp : (Datum.number false 8388608 (-23)).product (.infinity g) = some (.infinity (g ^^ false)) := rfl
      rw [hp, Bool.xor_false]
      exact hi
  · left
    refine ⟨⟨g, y, e⟩, ?_⟩
    rw [hm, h1, e]
    exact ⟨_, _, rfl⟩
theorem mul_read {x y z : Nat} (h : single.read x = single.read y) : fmul .f32 x z = fmul .f32 y z := by
  show o2 .f32 (((single.read x).product (single.read z)).map single.write) = o2 .f32 (((single.read y).product (single.read z)).map single.write)
  rw [h]
theorem mul_nan {x z : Nat} {g : Bool} {y : Nat} (h : single.read x = .nan g y) : fmul .f32 x z = qn .f32 := by
  show o2 .f32 (((single.read x).product (single.read z)).map single.write) = _
  rw [h]
  rfl
/-- a product with 1 is handed on -/
theorem one_arg_mul (x y : Nat) : fmul .f32 (fmul .f32 1065353216 x) y = fmul .f32 x y := by
  rcases one_times x with ⟨⟨_, _, h1⟩, ⟨_, _, h2⟩⟩ | h
  · rw [mul_nan h1, mul_nan h2]
  · exact mul_read h
/-! ### no NaN -/
theorem between_fin {a c d : Nat} (hc : finB c = true) (hd : finB d = true) (h1 : fge .f32 a c = true) (h2 : fle .f32 a d = true) : finB a = true := by
  have h1 : (single.order a c == some .gt || single.order a c == some .eq) = true := h1
  have h2 : (single.order a d == some .lt || single.order a d == some .eq) = true := h2
  unfold finB at hc hd
  unfold Format.order at h1 h2
  cases rc : single.read c with
  | nan g t => rw [rc] at hc; cases hc
  | infinity g => rw [rc] at hc; cases hc
  | number g m e =>
  cases rd : single.read d with
  | nan g t => rw [rd] at hd; cases hd
  | infinity g => rw [rd] at hd; cases hd
  | number g' m' e' =>
  rw [rc] at h1
  rw [rd] at h2
  unfold finB
  cases hr : single.read a with
  | nan g t => rw [hr] at h1; cases h1
  | infinity g =>
    rw [hr] at h1 h2
    cases g
    · cases h2
    · cases h1
  | number g m e => rfl
theorem add_num {a b : Nat} (ha : finB a = true) (hb : isN .f32 b = false) : isN .f32 (fadd .f32 a b) = false := by
  have hb : (single.read b).isNaN = false := hb
  unfold finB at ha
  cases hr : single.read a with
  | nan g t => rw [hr] at ha; cases ha
  | infinity g => rw [hr] at ha; cases ha
  | number g m e =>
    show isN .f32 (o2 .f32 (((single.read a).sum (single.read b)).map single.write)) = false
    rw [hr]
    cases hq : single.read b with
    | nan g t => rw [hq] at hb; cases hb
    | infinity g' => exact write_cn .f32 (d := .infinity g') rfl
    | number g' m' e' => exact write_cn .f32 (sum_notNaN (x := .number g m e) (y := .number g' m' e') rfl)
theorem mul_num {a b : Nat} (ha : finB a = true) (hb : finB b = true) : isN .f32 (fmul .f32 a b) = false := by
  unfold finB at ha hb
  cases hr : single.read a with
  | nan g t => rw [hr] at ha; cases ha
  | infinity g => rw [hr] at ha; cases ha
  | number g m e =>
  cases hq : single.read b with
  | nan g t => rw [hq] at hb; cases hb
  | infinity g => rw [hq] at hb; cases hb
  | number g' m' e' =>
    show isN .f32 (o2 .f32 (((single.read a).product (single.read b)).map single.write)) = false
    rw [hr, hq]
    exact write_cn .f32 (d := .number (g ^^ g') (m * m') (e + e')) rfl
theorem turn_fin {n : Int} (h0 : 0 ≤ n) (h1 : n < 100001) : finB (FloatKind.nearest .f32 n) = true := by
  have e1 : FloatKind.nearest .f32 n = rungOf single n.natAbs 0 := by
    show single.nearest (decide (n < 0)) n.natAbs 0 = _
    rw [nearest_rungOf, decide_eq_false (by omega)]
    unfold Format.word
    rw [if_neg (by decide)]
  have h2 : rungOf single n.natAbs 0 ≤ rungOf single 100000 0 := rung_mono single (base := single.leastPlace) (by decide) (by decide) (Int.le_refl _) (Nat.mul_le_mul_right _ (by omega))
  have h3 : rungOf single 100000 0 < single.infRung := by decide +kernel
  obtain ⟨m, e, hr, _⟩ := read_val single (Nat.lt_of_le_of_lt h2 h3)
  rw [e1]
  unfold finB
  rw [hr]
theorem gt_not_le {a b : Nat} (ha : isN .f32 a = false) (hb : finB b = true) : fgt .f32 a b = !fle .f32 a b := by
  have ha : (single.read a).isNaN = false := ha
  unfold finB at hb
  have hn : single.order a b ≠ none := by
    unfold Format.order
    cases hr : single.read b with
    | nan g t => rw [hr] at hb; cases hb
    | infinity g => rw [hr] at hb; cases hb
    | number g m e =>
      cases hq : single.read a with
      | nan g t => rw [hq] at ha; cases ha
      | infinity g' => exact fun h => by cases h
      | number g' m' e' => exact fun h => by cases h
  unfold fgt fle
  show (single.order a b == some .gt) = !(single.order a b == some .lt || single.order a b == some .eq)
  cases ho : single.order a b with
  | none => exact absurd ho hn
  | some o => cases o <;> rfl
/-! ### quotients of numbers that were integers -/
theorem near_rung {n : Int} (h0 : 0 ≤ n) : FloatKind.nearest .f32 n = rungOf single n.natAbs 0 := by
  show single.nearest (decide (n < 0)) n.natAbs 0 = _
  rw [nearest_rungOf, decide_eq_false (by omega)]
  unfold Format.word
  rw [if_neg (by decide)]
theorem rung_ints {a b : Nat} (h : a ≤ b) : rungOf single a 0 ≤ rungOf single b 0 := rung_mono single (base := single.leastPlace) (by decide) (by decide) (Int.le_refl _) (Nat.mul_le_mul_right _ h)
/-- the quotient's bits: between 0 and a number that is finite; 0 just for 0 -/
theorem ratio_bits {a b : Int} (a0 : 0 ≤ a) (a1 : a ≤ 32767) (b0 : 1 ≤ b) (b1 : b ≤ 8388608) :
    fdiv .f32 (FloatKind.nearest .f32 a) (FloatKind.nearest .f32 b) < single.infRung ∧ (0 < fdiv .f32 (FloatKind.nearest .f32 a) (FloatKind.nearest .f32 b) ↔ a ≠ 0) := by
  rw [near_rung a0, near_rung (by omega)]
  have hA : rungOf single a.natAbs 0 ≤ rungOf single 32767 0 := rung_ints (by omega)
  have hB0 : rungOf single 1 0 ≤ rungOf single b.natAbs 0 := rung_ints (by omega)
  have hB1 : rungOf single b.natAbs 0 ≤ rungOf single 8388608 0 := rung_ints (by omega)
  have c1 : rungOf single 32767 0 < single.infRung := by decide +kernel
  have c2 : rungOf single 8388608 0 < single.infRung := by decide +kernel
  have c3 : 0 < rungOf single 1 0 := by decide +kernel
  have c4 : rungOf single 1 0 < single.infRung := by decide +kernel
  have hBi : rungOf single b.natAbs 0 < single.infRung := Nat.lt_of_le_of_lt hB1 c2
  refine ⟨?_, ?_⟩
  · exact Nat.lt_of_le_of_lt (div_mono .f32 (c := rungOf single 32767 0) (d := rungOf single 1 0) c1 hBi c3 hA hB0) (by decide +kernel)
  · constructor
    · intro h ha
      subst ha
      have h2 : fdiv .f32 (rungOf single (Int.natAbs 0) 0) (rungOf single b.natAbs 0) ≤ fdiv .f32 (rungOf single (Int.natAbs 0) 0) (rungOf single 1 0) := div_mono .f32 (c := rungOf single (Int.natAbs 0) 0) (d := rungOf single 1 0) (by decide +kernel) hBi c3 (Nat.le_refl _) hB0
      have h3 : fdiv .f32 (rungOf single (Int.natAbs 0) 0) (rungOf single 1 0) = 0 := by decide +kernel
      omega
    · intro ha
      have hA1 : rungOf single 1 0 ≤ rungOf single a.natAbs 0 := rung_ints (by omega)
      have h2 : fdiv .f32 (rungOf single 1 0) (rungOf single 8388608 0) ≤ fdiv .f32 (rungOf single a.natAbs 0) (rungOf single b.natAbs 0) := div_mono .f32 (c := rungOf single a.natAbs 0) (d := rungOf single b.natAbs 0) (Nat.lt_of_le_of_lt hA c1) c2 (Nat.lt_of_lt_of_le c3 hB0) hA1 hB1
      exact Nat.lt_of_lt_of_le (by decide +kernel) h2
theorem bits_fin {r : Nat} (h : r < single.infRung) : finB r = true := by
  obtain ⟨m, e, hr, _⟩ := read_val single h
  unfold finB
  rw [hr]
theorem bits_nn {r : Nat} (h : r < single.infRung) : nnb .f32 r := by
  obtain ⟨m, e, hr, _⟩ := read_val single h
  show nnD (single.read r) = true
  rw [hr]; rfl
theorem bits_zero {r : Nat} (h : r < single.infRung) : feq .f32 r 0 = !decide (0 < r) := by
  obtain ⟨m, e, hr, he, hv⟩ := read_val single h
  show (single.order r 0 == some .eq) = _
  unfold Format.order
  rw [hr, read_0]
  simp only [Datum.order]
  have h0 : signed false m (e - min e (-149)).toNat = ((m * 2 ^ (e - min e (-149)).toNat : Nat) : Int) := signed_nn (.inl rfl) _
  rw [h0, signed_eq, if_neg (by decide), Nat.zero_mul]
  have hp := Nat.two_pow_pos (e - min e (-149)).toNat
  generalize 2 ^ (e - min e (-149)).toNat = p at hp
  by_cases hz : 0 < r
  · have hm : m ≠ 0 := fun hm => by
      have := valW_pos single hz
      rw [← hv, hm] at this
      unfold unitsOf at this
      rw [Nat.zero_mul] at this
      omega
    have : 0 < m * p := Nat.mul_pos (by omega) hp
    rw [Int.compare_eq_gt.2 (show ((0 : Nat) : Int) < ((m * p : Nat) : Int) by omega), decide_eq_true hz]; rfl
  · have hr0 : r = 0 := by omega
    subst hr0
    have hm : m = 0 := by
      have h9 : single.read 0 = .number false 0 (-149) := read_0
      rw [h9] at hr
      injection hr with _ hr _
      exact hr.symm
    rw [hm, Nat.zero_mul, Int.compare_eq_eq.2 rfl, decide_eq_false hz]; rfl
end Sx
noncomputable section
namespace Sx
open Go Ev

section
variable {F : Tab} {ρ : Nat → Int} {U : Nat → Vl → Vl}

/-! ### floats -/
theorem isNS_spec {k : FloatKind} {i : Nat} : Spec F (isNS k i) (fun a => tv F ρ U a = isN k (raw F ρ U i).nat) := fun t a t' e hF => by
  unfold isNS at e
  cases hc : (Nat.beq (kk k) 1 && Nat.beq (opAt t i) 53) with
  | true =>
    rw [hc, cond_true] at e
    rw [Bool.and_eq_true] at hc
    refine Spec.via (mk3_spec (ρ := ρ) (U := U)) e hF fun h1 h0 => ?_
    obtain ⟨p, hp⟩ := h0
    obtain ⟨h2, h3⟩ := opAt_spec (beqT hc.2) (by decide)
    show (raw F ρ U a).tr = _
    rw [hp, op48, Vl.tr_bif, raw_at h1 h2]
    unfold nodeVal
    rw [h3, op53, Vl.nat_i]
    have hk : k = .f64 := by
      cases k with
      | f32 => cases hc.1
      | f64 => rfl
    rw [hk, isN_widen]
  | false =>
    rw [hc, cond_false] at e
    refine Spec.via (mk3_spec (ρ := ρ) (U := U)) e hF fun h1 h0 => ?_
    obtain ⟨p, hp⟩ := h0
    show (raw F ρ U a).tr = _
    rw [hp]
    cases k
    · exact Vl.tr_bif _
    · exact Vl.tr_bif _
theorem finS_spec (hB : Base F ρ U) {i : Nat} : Spec F (finS i) (fun r => tv F ρ U r = finB (raw F ρ U i).nat) :=
  Spec.bnd (mk3_spec (ρ := ρ) (U := U)) fun a => (atomS_spec hB).mono fun r h1 h2 => by
    obtain ⟨p, hp⟩ := h2
    rw [h1]
    show (raw F ρ U a).tr = _
    rw [hp, op50, Vl.tr_bif]
def fcmp (op : BinOp) (k : FloatKind) (a b : Nat) : Bool :=
  match op with
  | .gtr => fgt k a b
  | .eql => feq k a b
  | .neq => fne k a b
  | .lss => flt k a b
  | .geq => fge k a b
  | .leq => fle k a b
  | _ => false
theorem fcmp_bin {op : BinOp} {k : FloatKind} {a b : Nat} (h : isCmp op = true) : fbin op k a b = some (.bool (fcmp op k a b)) := by
  cases op <;> first | rfl | cases h
theorem fcmp_flip {op : BinOp} {k : FloatKind} {a b : Nat} (h : isCmp op = true) : fcmp (flipOp op) k b a = fcmp op k a b := by
  cases op with
  | gtr => exact (fgt_swap k b a).symm
  | lss => exact fgt_swap k a b
  | geq => exact (fge_swap k b a).symm
  | leq => exact fge_swap k a b
  | eql => exact feq_swap k a b
  | neq => exact (fne_eq k b a).trans ((congrArg (!·) (feq_swap k a b)).trans (fne_eq k a b).symm)
  | _ => cases h
theorem isCmp_flip {op : BinOp} (h : isCmp (flipOp op) = true) : isCmp op = true := by cases op <;> first | rfl | cases h
theorem cmpA_spec (hB : Base F ρ U) {k : FloatKind} {op : BinOp} {i j : Nat} : Spec F (cmpA k op i j) (fun r => isCmp op = true ∧ tv F ρ U r = fcmp op k (raw F ρ U i).nat (raw F ρ U j).nat) := by
  unfold cmpA
  refine Spec.gd fun hc => Spec.bnd (mk3_spec (ρ := ρ) (U := U)) fun a => ?_
  have key : (∃ p, raw F ρ U a = opVal ρ U (raw F ρ U) (Nat.add 32 (Nat.add (Nat.mul 8 (kk k)) (cmpCode op))) i j 0 p) → tv F ρ U a = bif isNeq op then !fcmp op k (raw F ρ U i).nat (raw F ρ U j).nat else fcmp op k (raw F ρ U i).nat (raw F ρ U j).nat := fun ⟨p, hp⟩ => by
    show (raw F ρ U a).tr = _
    rw [hp]
    have hn : ∀ k, (!fcmp .neq k (raw F ρ U i).nat (raw F ρ U j).nat) = feq k (raw F ρ U i).nat (raw F ρ U j).nat := fun k => by
      show (!fne _ _ _) = _
      rw [fne_eq, Bool.not_not]
    cases op <;> first | (cases hc; done) | (cases k <;> first | exact Vl.tr_bif _ | exact (Vl.tr_bif _).trans (hn _).symm)
  refine Spec.bif (fun hn => (atomNot_spec hB).mono fun r h1 h2 => ⟨hc, ?_⟩) fun hn => (atomS_spec hB).mono fun r h1 h2 => ⟨hc, ?_⟩
  · rw [h1, key h2, hn, cond_true, Bool.not_not]
  · rw [h1, key h2, hn, cond_false]
theorem cmpSelf_spec (hB : Base F ρ U) {k : FloatKind} {op : BinOp} {i : Nat} : Spec F (cmpSelf k op i) (fun r => isCmp op = true ∧ tv F ρ U r = fcmp op k (raw F ρ U i).nat (raw F ρ U i).nat) := by
  have hs := self_ord k (raw F ρ U i).nat
  have n1 : Spec F (bnd (isNS k i) atomS) (fun r => tv F ρ U r = isN k (raw F ρ U i).nat) := Spec.bnd (isNS_spec (ρ := ρ) (U := U)) fun a => (atomS_spec hB).mono fun r h1 h2 => h1.trans h2
  have n2 : Spec F (bnd (isNS k i) atomNot) (fun r => tv F ρ U r = !isN k (raw F ρ U i).nat) := Spec.bnd (isNS_spec (ρ := ρ) (U := U)) fun a => (atomNot_spec hB).mono fun r h1 h2 => h1.trans (congrArg (!·) h2)
  unfold cmpSelf
  split
  · refine n1.mono fun r h => ⟨rfl, h.trans ?_⟩
    show _ = fne _ _ _
    unfold fne
    rw [hs]; cases isN k (raw F ρ U i).nat <;> rfl
  · refine n2.mono fun r h => ⟨rfl, h.trans ?_⟩
    show _ = feq _ _ _
    unfold feq
    rw [hs]; cases isN k (raw F ρ U i).nat <;> rfl
  · refine n2.mono fun r h => ⟨rfl, h.trans ?_⟩
    show _ = fge _ _ _
    unfold fge
    rw [hs]; cases isN k (raw F ρ U i).nat <;> rfl
  · refine n2.mono fun r h => ⟨rfl, h.trans ?_⟩
    show _ = fle _ _ _
    unfold fle
    rw [hs]; cases isN k (raw F ρ U i).nat <;> rfl
  · refine Spec.ret ⟨rfl, hB.t0.trans ?_⟩
    show _ = fgt _ _ _
    unfold fgt
    rw [hs]; cases isN k (raw F ρ U i).nat <;> rfl
  · refine Spec.ret ⟨rfl, hB.t0.trans ?_⟩
    show _ = flt _ _ _
    unfold flt
    rw [hs]; cases isN k (raw F ρ U i).nat <;> rfl
  · exact Spec.non
theorem cmpP_spec (hB : Base F ρ U) {k : FloatKind} {op : BinOp} {i j : Nat} : Spec F (cmpP k op i j) (fun r => isCmp op = true ∧ tv F ρ U r = fcmp op k (raw F ρ U i).nat (raw F ρ U j).nat) := by
  unfold cmpP
  refine Spec.bif (fun h => ?_) fun _ => Spec.bif (fun _ => (cmpA_spec hB).mono fun r h => ?_) fun _ => cmpA_spec hB
  · rw [← beqT h]; exact cmpSelf_spec hB
  · have hc := isCmp_flip h.1
    exact ⟨hc, h.2.trans (fcmp_flip hc)⟩
theorem constIs_spec {t : Tab} {j z : Nat} (h : constIs t j z = true) : j < t.n ∧ nodeAt t j = Nat.mul 256 z := by
  unfold constIs at h
  rw [Bool.and_eq_true] at h
  exact ⟨bltT h.1, beqT h.2⟩
theorem geS_spec (hB : Base F ρ U) {pc : PC} {i : Nat} : Spec F (geS pc i) (fun b => b = true → pcH F ρ U pc → fge .f32 (raw F ρ U i).nat 0 = true) := by
  unfold geS
  refine Spec.bnd (mkP_spec (ρ := ρ) (U := U) (by decide)) fun z => Spec.bnd (cmpP_spec hB) fun g => Spec.bnd (underS_spec hB pc g) fun r => Spec.ret fun h1 h2 h3 hb hp => ?_
  have h4 := h1 (by rw [beqT hb]; exact hB.t1) hp
  rw [h2.2, h3, op0] at h4
  exact h4
theorem ord3 (k : FloatKind) (x y : Nat) : fgt k x y = (fge k x y && !fle k x y) ∧ flt k x y = (!fge k x y && fle k x y) ∧ feq k x y = (fge k x y && fle k x y) := by
  unfold fgt fge fle flt feq
  cases k.format.order x y with
  | none => exact ⟨rfl, rfl, rfl⟩
  | some o => cases o <;> exact ⟨rfl, rfl, rfl⟩
theorem cmpZ_spec (hB : Base F ρ U) {op : BinOp} {i z : Nat} : Spec F (cmpZ op i z) (fun r => isCmp op = true ∧ tv F ρ U r = fcmp op .f32 (raw F ρ U i).nat (raw F ρ U z).nat) := by
  unfold cmpZ
  split
  · exact cmpP_spec hB
  · exact cmpP_spec hB
  refine Spec.bnd (cmpP_spec hB) fun g => Spec.bnd (cmpP_spec hB) fun l => ?_
  obtain ⟨o1, o2, o3⟩ := ord3 .f32 (raw F ρ U i).nat (raw F ρ U z).nat
  split
  · refine Spec.bnd (notS_spec hB) fun nl => (andS_spec hB).mono fun r h1 h2 h3 h4 => ⟨rfl, ?_⟩
    rw [h1, h2, h3.2, h4.2]; exact o1.symm
  · refine Spec.bnd (notS_spec hB) fun nl => (andS_spec hB).mono fun r h1 h2 h3 h4 => ⟨rfl, ?_⟩
    rw [h1, h2, h3.2, h4.2]; exact o2.symm
  · refine (andS_spec hB).mono fun r h1 h3 h4 => ⟨rfl, ?_⟩
    rw [h1, h3.2, h4.2]; exact o3.symm
  · refine Spec.bnd (andS_spec hB) fun e => (notS_spec hB).mono fun r h1 h2 h3 h4 => ⟨rfl, ?_⟩
    rw [h1, h2, h3.2, h4.2]
    show _ = fne _ _ _
    rw [fne_eq, o3]; rfl
  · exact Spec.non
theorem neS_spec (hB : Base F ρ U) {pc : PC} {i : Nat} : Spec F (neS pc i) (fun b => b = true → pcH F ρ U pc → feq .f32 (raw F ρ U i).nat 0 = false) := by
  unfold neS
  refine Spec.bnd (mkP_spec (ρ := ρ) (U := U) (by decide)) fun z => Spec.bnd (cmpZ_spec hB) fun g => Spec.bnd (underS_spec hB pc g) fun r => Spec.ret fun h1 h2 h3 hb hp => ?_
  have h4 := h1 (by rw [beqT hb]; exact hB.t1) hp
  rw [h2.2, h3, op0] at h4
  have h4 : fne .f32 (raw F ρ U i).nat 0 = true := h4
  rw [fne_eq] at h4
  simpa using h4
theorem sel_raw {t : Tab} (h1 : Le t F) {i : Nat} (h : Nat.beq (opAt t i) 4 = true) : raw F ρ U i = bif tv F ρ U (aOf (nodeAt t i)) then raw F ρ U (bOf (nodeAt t i)) else raw F ρ U (cOf (nodeAt t i)) := by
  obtain ⟨h2, h3⟩ := opAt_spec (beqT h) (by decide)
  rw [raw_at h1 h2]
  unfold nodeVal
  rw [h3, op4]
  show (if tv F ρ U (aOf (nodeAt t i)) = true then _ else _) = _
  cases tv F ρ U (aOf (nodeAt t i)) <;> rfl
theorem const_raw {t : Tab} (h1 : Le t F) {i : Nat} (h : Nat.beq (opAt t i) 0 = true) : (raw F ρ U i).nat = pOf (nodeAt t i) := by
  obtain ⟨h2, h3⟩ := opAt_spec (beqT h) (by decide)
  rw [raw_at h1 h2]
  unfold nodeVal
  rw [h3, op0]; rfl
theorem nnG_spec (hB : Base F ρ U) : ∀ (n : Nat) (pc : PC) (i : Nat), Spec F (nnG n pc i) (fun b => b = true → pcH F ρ U pc → finB (raw F ρ U i).nat = true → nnb .f32 (raw F ρ U i).nat)
  | 0, _, _ => Spec.ret fun h => by cases h
  | n + 1, pc, i => by
    intro t r t' e hF
    unfold nnG at e
    cases h0 : Nat.beq (opAt t i) 0 with
    | true =>
      rw [h0, cond_true] at e
      have key : Spec F (ret (nnZ (pOf (nodeAt t i)))) (fun r => r = nnZ (pOf (nodeAt t i))) := Spec.ret rfl
      refine Spec.via (key) e hF fun h1 h2 => fun hb _ _ => ?_
      rw [const_raw h1 h0]
      rw [h2] at hb
      exact hb
    | false =>
      rw [h0, cond_false] at e
      cases h4 : Nat.beq (opAt t i) 4 with
      | true =>
        rw [h4, cond_true, force_eq] at e
        have key : Spec F (bnd (nnG n ((aOf (nodeAt t i), true) :: pc) (bOf (nodeAt t i))) fun a => bnd (nnG n ((aOf (nodeAt t i), false) :: pc) (cOf (nodeAt t i))) fun b => ret (a && b))
            (fun r => r = true → (pcH F ρ U ((aOf (nodeAt t i), true) :: pc) → finB (raw F ρ U (bOf (nodeAt t i))).nat = true → nnb .f32 (raw F ρ U (bOf (nodeAt t i))).nat) ∧
              (pcH F ρ U ((aOf (nodeAt t i), false) :: pc) → finB (raw F ρ U (cOf (nodeAt t i))).nat = true → nnb .f32 (raw F ρ U (cOf (nodeAt t i))).nat)) :=
          Spec.bnd (nnG_spec hB n _ _) fun a => Spec.bnd (nnG_spec hB n _ _) fun b => Spec.ret fun h2 h1 hab => by
            rw [Bool.and_eq_true] at hab
            exact ⟨h1 hab.1, h2 hab.2⟩
        refine Spec.via (key) e hF fun h1 h2 => fun hb hp hf => ?_
        obtain ⟨a, b⟩ := h2 hb
        rw [sel_raw h1 h4] at hf ⊢
        cases hc : tv F ρ U (aOf (nodeAt t i)) with
        | true => rw [hc] at hf; exact a (hp.cons hc) hf
        | false => rw [hc] at hf; exact b (hp.cons hc) hf
      | false =>
        rw [h4, cond_false] at e
        cases h19 : Nat.beq (opAt t i) 19 with
        | true =>
          rw [h19, cond_true, force_eq] at e
          have key : Spec F (bnd (geS pc (aOf (nodeAt t i))) fun a => bnd (geS pc (bOf (nodeAt t i))) fun b => bnd (neS pc (bOf (nodeAt t i))) fun c => ret (a && (b && c)))
              (fun r => r = true → (pcH F ρ U pc → fge .f32 (raw F ρ U (aOf (nodeAt t i))).nat 0 = true) ∧ (pcH F ρ U pc → fge .f32 (raw F ρ U (bOf (nodeAt t i))).nat 0 = true) ∧
                (pcH F ρ U pc → feq .f32 (raw F ρ U (bOf (nodeAt t i))).nat 0 = false)) :=
            Spec.bnd (geS_spec hB) fun a => Spec.bnd (geS_spec hB) fun b => Spec.bnd (neS_spec hB) fun c => Spec.ret fun h3 h2 h1 hab => by
              rw [Bool.and_eq_true, Bool.and_eq_true] at hab
              exact ⟨h1 hab.1, h2 hab.2.1, h3 hab.2.2⟩
          refine Spec.via (key) e hF fun h1 h2 => fun hb hp hf => ?_
          obtain ⟨a, b, c⟩ := h2 hb
          obtain ⟨h5, h6⟩ := opAt_spec (beqT h19) (by decide)
          have hq : (raw F ρ U i).nat = fdiv .f32 (raw F ρ U (aOf (nodeAt t i))).nat (raw F ρ U (bOf (nodeAt t i))).nat := by
            rw [raw_at h1 h5]
            unfold nodeVal
            rw [h6, op19]; rfl
          rw [hq] at hf ⊢
          exact nn_quo (nn_ge (a hp)) (nn_ge (b hp)) (c hp) hf
        | false =>
          rw [h19, cond_false] at e
          exact Spec.via (geS_spec hB) e hF fun h1 h2 => fun hb hp _ => nn_ge (h2 hb hp)
theorem isOp_spec {t : Tab} {op i : Nat} (h : isOp t op i = true) (hop : op ≠ 255) : i < t.n ∧ opOf (nodeAt t i) = op := opAt_spec (beqT h) hop
theorem un_raw {t : Tab} (h1 : Le t F) {op i : Nat} (h : isOp t op i = true) (hop : op ≠ 255) : raw F ρ U i = opVal ρ U (raw F ρ U) op (kidA t i) (kidB t i) (cOf (nodeAt t i)) (pOf (nodeAt t i)) := by
  obtain ⟨h2, h3⟩ := isOp_spec h hop
  rw [raw_at h1 h2]
  unfold nodeVal
  rw [h3]; rfl
theorem constIs_raw {t : Tab} (h1 : Le t F) {j z : Nat} (h : constIs t j z = true) : (raw F ρ U j).nat = z := by
  obtain ⟨h5, h6⟩ := constIs_spec h
  rw [raw_at h1 h5, h6]
  unfold nodeVal
  have e1 : opOf (Nat.mul 256 z) = 0 := by show (256 * z) % 256 = 0; omega
  have e2 : pOf (Nat.mul 256 z) = z := by show (256 * z) >>> 8 = z; rw [Nat.shiftRight_eq_div_pow]; omega
  rw [e1, e2, op0]; rfl
theorem isRefl_spec {t : Tab} (h1 : Le t F) {i q : Nat} (h : isRefl t i q = true) : (raw F ρ U i).nat = fdiv .f32 1065353216 (fadd .f32 (fadd .f32 1065353216 (raw F ρ U q).nat) (fcv .f64 .f32 (fsqrt (fcv .f32 .f64 (fadd .f32 (fmul .f32 (raw F ρ U q).nat (raw F ρ U q).nat) (fmul .f32 1073741824 (raw F ρ U q).nat)))))) := by
  unfold isRefl at h
  simp only [Bool.and_eq_true] at h
  obtain ⟨a1, a2, a3, a4, a5, a6, a7, a8, a9, b1, b2, b3, b4, b5⟩ := h
  unfold opIs at b2
  simp only [Bool.and_eq_true] at b2
  obtain ⟨c1, c2, c3⟩ := b2
  rw [un_raw h1 a1 (by decide), op19, Vl.nat_i, constIs_raw h1 a2, un_raw h1 a3 (by decide), op16, Vl.nat_i, un_raw h1 a4 (by decide), op16, Vl.nat_i, constIs_raw h1 a5, beqT a6,
    un_raw h1 a7 (by decide), op54, Vl.nat_i, un_raw h1 a8 (by decide), op55, Vl.nat_i, un_raw h1 a9 (by decide), op53, Vl.nat_i, un_raw h1 b1 (by decide), op16, Vl.nat_i,
    un_raw h1 (show isOp t 18 _ = true from c1) (by decide), op18, Vl.nat_i, un_raw h1 b3 (by decide), op18, Vl.nat_i, constIs_raw h1 b4, beqT b5]
  have d1 : kidA t (kidA t (kidA t (kidA t (kidA t (kidB t (kidB t i)))))) = q := beqT c2
  have d2 : kidB t (kidA t (kidA t (kidA t (kidA t (kidB t (kidB t i)))))) = q := beqT c3
  rw [d1, d2]
theorem finP_spec (hB : Base F ρ U) : ∀ (n : Nat) (pc : PC) (i : Nat), Spec F (finP n pc i) (fun r => pcH F ρ U pc → tv F ρ U r = finB (raw F ρ U i).nat)
  | 0, _, i => (finS_spec hB).mono fun r h _ => h
  | n + 1, pc, i => by
    intro t r t' e hF
    unfold finP at e
    cases h0 : Nat.beq (opAt t i) 0 with
    | true =>
      rw [h0, cond_true] at e
      have key : Spec F (ret (bif finB (pOf (nodeAt t i)) then 1 else 0)) (fun r => r = bif finB (pOf (nodeAt t i)) then 1 else 0) := Spec.ret rfl
      refine Spec.via (key) e hF fun h1 h2 => fun _ => ?_
      rw [const_raw h1 h0, h2]
      cases finB (pOf (nodeAt t i))
      · exact hB.t0
      · exact hB.t1
    | false =>
      rw [h0, cond_false] at e
      cases h4 : Nat.beq (opAt t i) 4 with
      | true =>
        rw [h4, cond_true, force_eq] at e
        have key : Spec F (bif hasPC (aOf (nodeAt t i)) pc then finP n pc (bOf (nodeAt t i)) else bif hasNo (aOf (nodeAt t i)) pc then finP n pc (cOf (nodeAt t i)) else
              bnd (finP n ((aOf (nodeAt t i), true) :: pc) (bOf (nodeAt t i))) fun a => bnd (finP n ((aOf (nodeAt t i), false) :: pc) (cOf (nodeAt t i))) fun b => ite (aOf (nodeAt t i)) a b)
            (fun r => pcH F ρ U pc → tv F ρ U r = bif tv F ρ U (aOf (nodeAt t i)) then finB (raw F ρ U (bOf (nodeAt t i))).nat else finB (raw F ρ U (cOf (nodeAt t i))).nat) :=
          Spec.bif (fun h => (finP_spec hB n pc _).mono fun r k hp => by rw [k hp, hasPC_spec h hp]; rfl) fun _ =>
          Spec.bif (fun h => (finP_spec hB n pc _).mono fun r k hp => by rw [k hp, hasNo_spec h hp]; rfl) fun _ =>
          Spec.bnd (finP_spec hB n _ _) fun a => Spec.bnd (finP_spec hB n _ _) fun b => (ite_tv hB).mono fun r k1 k2 k3 hp => by
            rw [k1]
            cases hc : tv F ρ U (aOf (nodeAt t i)) with
            | true => exact k3 (hp.cons hc)
            | false => exact k2 (hp.cons hc)
        refine Spec.via (key) e hF fun h1 h2 => fun hp => ?_
        rw [h2 hp, sel_raw h1 h4]
        cases tv F ρ U (aOf (nodeAt t i)) <;> rfl
      | false =>
        rw [h4, cond_false, force_eq] at e
        cases hr : isRefl t i (kidB t (kidA t (kidB t i))) with
        | true =>
          rw [hr, cond_true] at e
          generalize hq : kidB t (kidA t (kidB t i)) = q at e hr
          have key : Spec F (bnd (finP n pc q) fun f => bnd (underS pc f) fun u => bnd (nnG 6 pc q) fun ok => bif Nat.beq u 1 && ok then ret 1 else finS i)
              (fun r => pcH F ρ U pc → nnb .f32 (raw F ρ U q).nat ∧ tv F ρ U r = true ∨ tv F ρ U r = finB (raw F ρ U i).nat) :=
            Spec.bnd (finP_spec hB n pc q) fun f => Spec.bnd (underS_spec hB pc f) fun u => Spec.bnd (nnG_spec hB 6 pc q) fun ok => Spec.bif (fun hc => Spec.ret fun k1 k2 k3 hp => by
                rw [Bool.and_eq_true] at hc
                refine .inl ⟨k1 hc.2 hp ?_, hB.t1⟩
                rw [← k3 hp]
                exact k2 (by rw [beqT hc.1]; exact hB.t1) hp) fun _ => (finS_spec hB).mono fun r k _ _ _ _ => .inr k
          refine Spec.via (key) e hF fun h1 h2 => fun hp => ?_
          rcases h2 hp with ⟨k1, k2⟩ | k
          · rw [k2, isRefl_spec h1 hr]
            exact (fin_reflects k1).symm
          · exact k
        | false =>
          rw [hr, cond_false] at e
          exact Spec.via (finS_spec hB) e hF fun h1 h2 => fun _ => h2
theorem cmpO_spec (hB : Base F ρ U) {op : BinOp} {i j : Nat} : Spec F (cmpO op i j) (fun r => isCmp op = true ∧ tv F ρ U r = fcmp op .f32 (raw F ρ U i).nat (raw F ρ U j).nat) :=
  Spec.bnd (mk3_spec (ρ := ρ) (U := U)) fun _ => (cmpP_spec hB).mono fun _ h _ => h
theorem cmpD_spec (hB : Base F ρ U) {k : FloatKind} {op : BinOp} {i j : Nat} : Spec F (cmpD k op i j) (fun r => isCmp op = true ∧ tv F ρ U r = fcmp op k (raw F ρ U i).nat (raw F ρ U j).nat) := by
  unfold cmpD
  split
  · intro t r t' e hF
    dsimp only at e
    cases h1 : constIs t j 0 with
    | true => rw [h1, cond_true] at e; exact cmpZ_spec hB t r t' e hF
    | false =>
      rw [h1, cond_false] at e
      cases h2 : constIs t i 0 with
      | true =>
        rw [h2, cond_true] at e
        exact Spec.via (cmpZ_spec hB) e hF fun _ k => ⟨isCmp_flip k.1, k.2.trans (fcmp_flip (isCmp_flip k.1))⟩
      | false =>
        rw [h2, cond_false] at e
        cases h3 : (constIs t j 1065353216 && isGt op) with
        | true => rw [h3, cond_true] at e; exact cmpO_spec hB t r t' e hF
        | false => rw [h3, cond_false] at e; exact cmpP_spec hB t r t' e hF
  · exact cmpP_spec hB
theorem leN_spec (hB : Base F ρ U) {pc : PC} {i j : Nat} : Spec F (leN pc i j) (fun r => pcH F ρ U pc → tv F ρ U r = fle .f32 (raw F ρ U i).nat (raw F ρ U j).nat) := by
  unfold leN
  refine Spec.bnd (geS_spec hB) fun a => Spec.bnd (geS_spec hB) fun b => Spec.bif (fun hab => ?_) fun _ => (cmpP_spec hB).mono fun r h _ _ _ => h.2
  rw [Bool.and_eq_true] at hab
  refine Spec.bnd (cmpP_spec hB) fun g => (notS_spec hB).mono fun r h1 h2 h3 h4 hp => ?_
  rw [h1, h2.2]
  exact (not_nan_le (h4 hab.1 hp) (h3 hab.2 hp)).symm
theorem ltX_spec (hB : Base F ρ U) {i j : Nat} : Spec F (bnd (mk3 57 i j 0) atomS) (fun r => tv F ρ U r = decide ((raw F ρ U i).z < (raw F ρ U j).z)) :=
  Spec.bnd (mk3_spec (ρ := ρ) (U := U)) fun a => (atomS_spec hB).mono fun r h1 h2 => by
    obtain ⟨p, hp⟩ := h2
    rw [h1]
    show (raw F ρ U a).tr = _
    rw [hp, op57, Vl.tr_bif]
theorem isLine_spec {t : Tab} (hF : Le t F) {i : Nat} (h : isLine t i = true) : (raw F ρ U i).nat = fadd .f32 1065353216 (fmul .f32 (raw F ρ U (aOf (nodeAt t (bOf (nodeAt t i))))).nat (FloatKind.nearest .f32 (raw F ρ U (aOf (nodeAt t (bOf (nodeAt t (bOf (nodeAt t i))))))).z)) := by
  unfold isLine at h
  rw [Bool.and_eq_true, Bool.and_eq_true, Bool.and_eq_true] at h
  obtain ⟨h1, h2, h3, h4⟩ := h
  obtain ⟨g1, g2⟩ := opAt_spec (beqT h1) (by decide)
  obtain ⟨g3, g4⟩ := opAt_spec (beqT h3) (by decide)
  obtain ⟨g5, g6⟩ := opAt_spec (beqT h4) (by decide)
  obtain ⟨c1, c2⟩ := constIs_spec h2
  have e1 : raw F ρ U i = .i (fadd .f32 (raw F ρ U (aOf (nodeAt t i))).nat (raw F ρ U (bOf (nodeAt t i))).nat : Nat) := by
    rw [raw_at hF g1]; unfold nodeVal; rw [g2, op16]
  have e2 : raw F ρ U (bOf (nodeAt t i)) = .i (fmul .f32 (raw F ρ U (aOf (nodeAt t (bOf (nodeAt t i))))).nat (raw F ρ U (bOf (nodeAt t (bOf (nodeAt t i))))).nat : Nat) := by
    rw [raw_at hF g3]; unfold nodeVal; rw [g4, op18]
  have e3 : raw F ρ U (bOf (nodeAt t (bOf (nodeAt t i)))) = .i (FloatKind.nearest .f32 (raw F ρ U (aOf (nodeAt t (bOf (nodeAt t (bOf (nodeAt t i))))))).z : Nat) := by
    rw [raw_at hF g5]; unfold nodeVal; rw [g6, op58]
  have e4 : raw F ρ U (aOf (nodeAt t i)) = .i ((1065353216 : Nat) : Int) := by rw [raw_at hF c1, c2]; rfl
  rw [e1, e4, e2, e3]
  rfl
theorem driftS_spec (hB : Base F ρ U) {pc : PC} {x : Nat} : Spec F (driftS pc x) (fun b => b = true → pcH F ρ U pc → finB (raw F ρ U x).nat = true) := by
  unfold driftS
  refine Spec.bnd (mkP_spec (ρ := ρ) (U := U) (by decide)) fun lo => Spec.bnd (cmpP_spec hB) fun a => Spec.bnd (underS_spec hB pc a) fun u =>
    Spec.bnd (mkP_spec (ρ := ρ) (U := U) (by decide)) fun hi => Spec.bnd (cmpP_spec hB) fun b => Spec.bnd (underS_spec hB pc b) fun v => Spec.ret fun h6 h5 h4 h3 h2 h1 hb hp => ?_
  rw [Bool.and_eq_true] at hb
  have k1 := h3 (by rw [beqT hb.1]; exact hB.t1) hp
  have k2 := h6 (by rw [beqT hb.2]; exact hB.t1) hp
  rw [h2.2, h1, op0] at k1
  rw [h5.2, h4, op0] at k2
  exact between_fin (c := 3129152111) (d := 981668463) (by decide +kernel) (by decide +kernel) k1 k2
theorem turnS_spec (hB : Base F ρ U) {pc : PC} {n : Nat} : Spec F (turnS pc n) (fun b => b = true → pcH F ρ U pc → finB (FloatKind.nearest .f32 (raw F ρ U n).z) = true) := by
  unfold turnS
  refine Spec.bnd (mkP_spec (ρ := ρ) (U := U) (by decide)) fun z => Spec.bnd (ltX_spec hB) fun a => Spec.bnd (notS_spec hB) fun na => Spec.bnd (underS_spec hB pc na) fun u =>
    Spec.bnd (mkP_spec (ρ := ρ) (U := U) (by decide)) fun m => Spec.bnd (ltX_spec hB) fun b => Spec.bnd (underS_spec hB pc b) fun v => Spec.ret fun h7 h6 h5 h4 h3 h2 h1 hb hp => ?_
  rw [Bool.and_eq_true] at hb
  have k1 := h4 (by rw [beqT hb.1]; exact hB.t1) hp
  have k2 := h7 (by rw [beqT hb.2]; exact hB.t1) hp
  rw [h3, h2, h1, op0, Bool.not_eq_true', decide_eq_false_iff_not] at k1
  rw [h6, h5, op0, decide_eq_true_eq] at k2
  have k1 : ¬ (raw F ρ U n).z < ((0 : Nat) : Int) := k1
  have k2 : (raw F ρ U n).z < ((100001 : Nat) : Int) := k2
  exact turn_fin (by omega) (by omega)
theorem lineS_spec (hB : Base F ρ U) {pc : PC} {i j : Nat} {t t' : Tab} {r : Nat} (hj : constIs t j 0 = true) (hi : isLine t i = true) (e : lineS pc i j t = some (r, t')) (hF : Le t' F) :
    Le t F ∧ (Cok F t → Cok F t' ∧ (pcH F ρ U pc → isCmp .gtr = true ∧ tv F ρ U r = fcmp .gtr .f32 (raw F ρ U i).nat (raw F ρ U j).nat)) := by
  unfold lineS at e
  rw [force_eq, force_eq] at e
  have key : Spec F (bnd (driftS pc (aOf (nodeAt t (bOf (nodeAt t i))))) fun a => bnd (turnS pc (aOf (nodeAt t (bOf (nodeAt t (bOf (nodeAt t i))))))) fun b => bif a && b then bnd (cmpP .f32 .leq i j) notS else cmpD .f32 .gtr i j)
      (fun r => pcH F ρ U pc → (finB (raw F ρ U (aOf (nodeAt t (bOf (nodeAt t i))))).nat = true ∧ finB (FloatKind.nearest .f32 (raw F ρ U (aOf (nodeAt t (bOf (nodeAt t (bOf (nodeAt t i))))))).z) = true ∧ tv F ρ U r = !fle .f32 (raw F ρ U i).nat (raw F ρ U j).nat) ∨ tv F ρ U r = fcmp .gtr .f32 (raw F ρ U i).nat (raw F ρ U j).nat) := by
    refine Spec.bnd (driftS_spec hB) fun a => Spec.bnd (turnS_spec hB) fun b => Spec.bif (fun h => Spec.bnd (cmpP_spec hB) fun l => (notS_spec hB).mono fun r h1 h2 h3 h4 hp => ?_) fun _ => (cmpD_spec hB).mono fun r h _ _ _ => .inr h.2
    rw [Bool.and_eq_true] at h
    exact .inl ⟨h4 h.1 hp, h3 h.2 hp, by rw [h1, h2.2]; rfl⟩
  refine Spec.via key e hF fun h1 h2 => fun hp => ⟨rfl, ?_⟩
  rcases h2 hp with ⟨k1, k2, k3⟩ | k
  · rw [k3]
    obtain ⟨c1, c2⟩ := constIs_spec hj
    have e0 : (raw F ρ U j).nat = 0 := by rw [raw_at h1 c1, c2]; rfl
    have hn : isN .f32 (raw F ρ U i).nat = false := by
      rw [isLine_spec h1 hi]
      exact add_num (by decide +kernel) (mul_num k1 k2)
    rw [e0]
    exact (gt_not_le hn (by decide +kernel)).symm
  · exact k
theorem cmpF_spec (hB : Base F ρ U) {pc : PC} {k : FloatKind} {op : BinOp} {i j : Nat} : Spec F (cmpF pc k op i j) (fun r => pcH F ρ U pc → isCmp op = true ∧ tv F ρ U r = fcmp op k (raw F ρ U i).nat (raw F ρ U j).nat) := by
  unfold cmpF
  split
  · intro t r t' e hF
    dsimp only at e
    cases hc : constIs t j 2139095039 with
    | false =>
      rw [hc, cond_false] at e
      cases hn : (noConst t i && noConst t j) with
      | true =>
        rw [hn, cond_true] at e
        exact Spec.via (leN_spec hB) e hF fun h1 h2 => fun hp => ⟨rfl, h2 hp⟩
      | false =>
        rw [hn, cond_false] at e
        exact Spec.via (cmpD_spec hB) e hF fun h1 h2 => fun _ => h2
    | true =>
      rw [hc, cond_true] at e
      have key : Spec F (bnd (mkP 0 0) fun z => bnd (cmpP .f32 .geq i z) fun ge => bif hasPC ge pc then finP 6 pc i else cmpP .f32 .leq i j)
          (fun r => pcH F ρ U pc → (fge .f32 (raw F ρ U i).nat 0 = true ∧ tv F ρ U r = finB (raw F ρ U i).nat) ∨ tv F ρ U r = fcmp .leq .f32 (raw F ρ U i).nat (raw F ρ U j).nat) := by
        refine Spec.bnd (mkP_spec (ρ := ρ) (U := U) (by decide)) fun z => Spec.bnd (cmpP_spec hB) fun ge => Spec.bif (fun hh => (finP_spec hB 6 pc i).mono fun r h1 h2 h3 hp => .inl ⟨?_, h1 hp⟩) fun _ => (cmpP_spec hB).mono fun r h1 _ _ _ => .inr h1.2
        have h4 := hasPC_spec hh hp
        rw [h2.2, h3, op0] at h4
        exact h4
      refine Spec.via (key) e hF fun h1 h2 => fun hp => ⟨rfl, ?_⟩
      rcases h2 hp with ⟨h3, h4⟩ | h3
      · rw [h4]
        show _ = fle _ _ _
        rw [constIs_raw h1 hc]
        exact (fin_cmp h3).symm
      · exact h3
  · intro t r t' e hF
    dsimp only at e
    cases hc : constIs t j 1 with
    | false =>
      rw [hc, cond_false] at e
      exact Spec.via (cmpD_spec hB) e hF fun h1 h2 => fun _ => h2
    | true =>
      rw [hc, cond_true] at e
      have key : Spec F (bnd (mkP 0 0) fun z => cmpZ .gtr i z) (fun r => tv F ρ U r = fgt .f32 (raw F ρ U i).nat 0) :=
        Spec.bnd (mkP_spec (ρ := ρ) (U := U) (by decide)) fun z => (cmpZ_spec hB).mono fun r h1 h2 => by
          rw [h1.2, h2, op0]; rfl
      refine Spec.via (key) e hF fun h1 h2 => fun hp => ⟨rfl, ?_⟩
      rw [h2]
      show _ = fge _ _ _
      rw [constIs_raw h1 hc]
      exact (ge_tiny _).symm
  · intro t r t' e hF
    dsimp only at e
    cases hc : (constIs t j 0 && (Nat.beq (opAt t i) 17 && Nat.beq (aOf (nodeAt t i)) (bOf (nodeAt t i)))) with
    | false =>
      rw [hc, cond_false] at e
      exact Spec.via (cmpD_spec hB) e hF fun h1 h2 => fun _ => h2
    | true =>
      rw [hc, cond_true] at e
      refine Spec.via (finP_spec hB 6 pc _) e hF fun h1 h2 => fun hp => ⟨rfl, ?_⟩
      simp only [Bool.and_eq_true] at hc
      obtain ⟨c1, c2, c3⟩ := hc
      obtain ⟨h8, h9⟩ := opAt_spec (beqT c2) (by decide)
      have h10 : raw F ρ U i = .i (fsub .f32 (raw F ρ U (aOf (nodeAt t i))).nat (raw F ρ U (aOf (nodeAt t i))).nat : Nat) := by
        rw [raw_at h1 h8]
        unfold nodeVal
        rw [h9, op17, ← beqT c3]
      rw [h2 hp]
      show _ = feq _ _ _
      rw [constIs_raw h1 c1, h10]
      exact (fin_model _).symm
  · intro t r t' e hF
    dsimp only at e
    cases hc : (constIs t j 0 && isLine t i) with
    | false =>
      rw [hc, cond_false] at e
      exact Spec.via (cmpD_spec hB) e hF fun h1 h2 => fun _ => h2
    | true =>
      rw [hc, cond_true] at e
      rw [Bool.and_eq_true] at hc
      exact lineS_spec hB hc.1 hc.2 e hF
  · exact (cmpD_spec hB).mono fun r h _ => h
theorem oneN_spec {i : Nat} : Spec F (oneN i) (fun i' => ∀ b, fmul .f32 (raw F ρ U i).nat b = fmul .f32 (raw F ρ U i').nat b) := by
  intro t i' t' e hF
  unfold oneN at e
  cases hc : (Nat.beq (opAt t i) 18 && constIs t (aOf (nodeAt t i)) 1065353216) with
  | false =>
    rw [hc] at e
    cases e
    exact ⟨hF, fun c => ⟨c, fun _ => rfl⟩⟩
  | true =>
    rw [hc] at e
    cases e
    refine ⟨hF, fun c => ⟨c, fun b => ?_⟩⟩
    rw [Bool.and_eq_true] at hc
    obtain ⟨h1, h2⟩ := hc
    have h3 : (raw F ρ U (kidA t i)).nat = 1065353216 := constIs_raw hF h2
    rw [un_raw hF (show isOp t 18 i = true from h1) (by decide), op18, Vl.nat_i, h3, one_arg_mul]
    rfl
theorem oneS_spec {op : BinOp} {k : FloatKind} {i : Nat} : Spec F (oneS op k i) (fun i' => ∀ b, fbin op k (raw F ρ U i).nat b = fbin op k (raw F ρ U i').nat b) := by
  unfold oneS
  split
  · exact oneN_spec.mono fun i' h b => by
      show some (Value.float .f32 (fmul .f32 _ b)) = some (Value.float .f32 (fmul .f32 _ b))
      rw [h b]
  · exact Spec.ret fun _ => rfl
theorem swapS_spec {op : BinOp} {k : FloatKind} {i j : Nat} : Spec F (swapS op k i j) (fun p => fbin op k (raw F ρ U p.1).nat (raw F ρ U p.2).nat = fbin op k (raw F ρ U i).nat (raw F ρ U j).nat) := by
  unfold swapS
  split
  · intro t p t' e hF
    dsimp only at e
    cases hc : (Nat.blt j i && (noConst t i && noConst t j)) with
    | true =>
      rw [hc, cond_true] at e
      cases e
      refine ⟨hF, fun c => ⟨c, ?_⟩⟩
      show some (Value.float .f32 (fmul .f32 (raw F ρ U j).nat (raw F ρ U i).nat)) = some (Value.float .f32 (fmul .f32 (raw F ρ U i).nat (raw F ρ U j).nat))
      rw [mul_comm32]
    | false =>
      rw [hc, cond_false] at e
      cases e
      exact ⟨hF, fun c => ⟨c, rfl⟩⟩
  · exact Spec.ret rfl
theorem floatS_spec (hB : Base F ρ U) {pc : PC} {op : BinOp} {k : FloatKind} {i j : Nat} : Spec F (floatS pc op k i j) (fun r => pcH F ρ U pc → fbin op k (raw F ρ U i).nat (raw F ρ U j).nat = some (cv F ρ U r)) := by
  unfold floatS
  split
  · rename_i o ho
    refine Spec.bnd (oneS_spec (ρ := ρ) (U := U)) fun i' => Spec.bnd (swapS_spec (ρ := ρ) (U := U)) fun q => Spec.bnd (mk3_spec (ρ := ρ) (U := U)) fun r => Spec.ret fun h h2 h1 _ => ?_
    obtain ⟨p, hp⟩ := h
    rw [h1, ← h2, cv_f, hp]
    cases op <;> first | (cases ho; cases k <;> rfl) | cases ho
  · refine Spec.bnd (cmpF_spec hB) fun r => Spec.ret fun h hp => ?_
    obtain ⟨h1, h2⟩ := h hp
    rw [fcmp_bin h1, cv_b, h2]

/-! ### integers -/
theorem eqA_spec (hB : Base F ρ U) {i j : Nat} : Spec F (eqA i j) (fun r => tv F ρ U r = decide ((raw F ρ U i).z = (raw F ρ U j).z)) := by
  unfold eqA
  have key : Spec F (bif Nat.ble i j then mk3 56 i j 0 else mk3 56 j i 0) (fun a => tv F ρ U a = decide ((raw F ρ U i).z = (raw F ρ U j).z)) := by
    refine Spec.bif (fun _ => (mk3_spec (ρ := ρ) (U := U)).mono fun a h => ?_) fun _ => (mk3_spec (ρ := ρ) (U := U)).mono fun a h => ?_
    · obtain ⟨p, hp⟩ := h
      show (raw F ρ U a).tr = _
      rw [hp, op56, Vl.tr_bif]
    · obtain ⟨p, hp⟩ := h
      show (raw F ρ U a).tr = _
      rw [hp, op56, Vl.tr_bif]
      exact decide_eq_decide.2 ⟨Eq.symm, Eq.symm⟩
  exact Spec.bnd key fun a => (atomS_spec hB).mono fun r h1 h2 => h1.trans h2
theorem isC_z {t : Tab} (hF : Le t F) {i : Nat} (h : isC t i = true) : raw F ρ U i = .i (bif Nat.beq (opOf (nodeAt t i)) 0 then (pOf (nodeAt t i) : Int) else Int.negSucc (pOf (nodeAt t i))) := by
  unfold isC at h
  rw [Bool.and_eq_true] at h
  rw [raw_at hF (bltT h.1)]
  unfold nodeVal
  have h2 := bltT h.2
  have : opOf (nodeAt t i) = 0 ∨ opOf (nodeAt t i) = 1 := by omega
  rcases this with e | e <;> rw [e]
  · exact op0 ..
  · exact op1 ..
theorem node_low (x : Nat) : x = opOf x + 256 * pOf x := by
  show x = x % 256 + 256 * (x >>> 8)
  rw [Nat.shiftRight_eq_div_pow]
  omega
theorem isC_eq {t : Tab} (hF : Le t F) {i j : Nat} (hi : isC t i = true) (hj : isC t j = true) : decide ((raw F ρ U i).z = (raw F ρ U j).z) = Nat.beq (nodeAt t i) (nodeAt t j) := by
  rw [isC_z hF hi, isC_z hF hj]
  unfold isC at hi hj
  rw [Bool.and_eq_true] at hi hj
  have hi := bltT hi.2
  have hj := bltT hj.2
  have ei := node_low (nodeAt t i)
  have ej := node_low (nodeAt t j)
  generalize opOf (nodeAt t i) = a at *
  generalize opOf (nodeAt t j) = b at *
  generalize pOf (nodeAt t i) = p at *
  generalize pOf (nodeAt t j) = q at *
  rw [ei, ej]
  have key : (Nat.beq (a + 256 * p) (b + 256 * q)) = decide (a = b ∧ p = q) := by
    cases hd : Nat.beq (a + 256 * p) (b + 256 * q) with
    | true => have := beqT hd; exact (decide_eq_true (by omega)).symm
    | false =>
      refine (decide_eq_false fun hh => ?_).symm
      rw [hh.1, hh.2, Nat.beq_refl] at hd
      cases hd
  rw [key]
  have ha : a = 0 ∨ a = 1 := by omega
  have hb : b = 0 ∨ b = 1 := by omega
  rcases ha with rfl | rfl <;> rcases hb with rfl | rfl
  · show decide ((p : Int) = (q : Int)) = _
    exact decide_eq_decide.2 ⟨fun h => ⟨rfl, by omega⟩, fun h => by omega⟩
  · show decide ((p : Int) = Int.negSucc q) = _
    exact decide_eq_decide.2 ⟨fun h => by omega, fun h => by omega⟩
  · show decide (Int.negSucc p = (q : Int)) = _
    exact decide_eq_decide.2 ⟨fun h => by omega, fun h => by omega⟩
  · show decide (Int.negSucc p = Int.negSucc q) = _
    exact decide_eq_decide.2 ⟨fun h => ⟨rfl, by omega⟩, fun h => by omega⟩
theorem eqEnd_spec (hB : Base F ρ U) : ∀ (k i j : Nat), Spec F (eqEnd k i j) (fun r => tv F ρ U r = decide ((raw F ρ U i).z = (raw F ρ U j).z))
  | 0, _, _ => Spec.non
  | k + 1, i, j => by
    intro t r t' e hF
    unfold eqEnd at e
    cases h3 : Nat.beq (opAt t i) 3 with
    | true =>
      rw [h3, cond_true, force_eq] at e
      have key : Spec F (bnd (eqEnd k (bOf (nodeAt t i)) j) fun h => bnd (eqEnd k (cOf (nodeAt t i)) j) fun l => mkIte (aOf (nodeAt t i)) h l)
          (fun r => tv F ρ U r = if tv F ρ U (aOf (nodeAt t i)) then decide ((raw F ρ U (bOf (nodeAt t i))).z = (raw F ρ U j).z) else decide ((raw F ρ U (cOf (nodeAt t i))).z = (raw F ρ U j).z)) :=
        Spec.bnd (eqEnd_spec hB k _ _) fun h => Spec.bnd (eqEnd_spec hB k _ _) fun l => (mkIte_spec (ρ := ρ) (U := U)).mono fun r h1 h2 h3 => by
          show (raw F ρ U r).tr = _
          rw [h1]
          by_cases hc : (raw F ρ U (aOf (nodeAt t i))).tr = true
          · rw [if_pos hc, if_pos hc]; exact h3
          · rw [if_neg hc, if_neg hc]; exact h2
      refine Spec.via key e hF fun h1 h2 => ?_
      obtain ⟨g1, g2⟩ := opAt_spec (beqT h3) (by decide)
      rw [h2, raw_at h1 g1]
      unfold nodeVal
      rw [g2, op3]
      by_cases hc : (raw F ρ U (aOf (nodeAt t i))).tr = true
      · rw [if_pos hc, if_pos hc]
      · rw [if_neg hc, if_neg hc]
    | false =>
      rw [h3, cond_false] at e
      cases hc : (isC t i && isC t j) with
      | true =>
        rw [hc, cond_true] at e
        rw [Bool.and_eq_true] at hc
        cases e
        refine ⟨hF, fun c => ⟨c, ?_⟩⟩
        rw [isC_eq hF hc.1 hc.2]
        cases Nat.beq (nodeAt t i) (nodeAt t j)
        · exact hB.t0
        · exact hB.t1
      | false =>
        rw [hc, cond_false] at e
        exact Spec.via (eqA_spec hB) e hF fun _ h => h
theorem sucC_spec {x : Nat} : Spec F (sucC x) (fun c => opOf x < 2 → (raw F ρ U c).z = (nodeVal ρ U (raw F ρ U) x).z + 1) := by
  unfold sucC
  refine Spec.bif (fun h0 => (mkP_spec (ρ := ρ) (U := U) (by decide)).mono fun c h _ => ?_) fun h0 => Spec.bif (fun hp => (mkP_spec (ρ := ρ) (U := U) (by decide)).mono fun c h hx => ?_) fun hp => (mkP_spec (ρ := ρ) (U := U) (by decide)).mono fun c h hx => ?_
  · rw [h]
    unfold nodeVal
    rw [beqT h0, op0, op0]; rfl
  · have h1 : opOf x = 1 := by
      have : opOf x ≠ 0 := fun e => by rw [e] at h0; cases h0
      omega
    rw [h]
    unfold nodeVal
    rw [h1, beqT hp, op0, op1]; rfl
  · have h1 : opOf x = 1 := by
      have : opOf x ≠ 0 := fun e => by rw [e] at h0; cases h0
      omega
    rw [h]
    unfold nodeVal
    rw [h1, op1, op1]
    show Int.negSucc (pOf x - 1) = Int.negSucc (pOf x) + 1
    have : pOf x ≠ 0 := fun e => by rw [e] at hp; cases hp
    omega
theorem eqLt_spec (hB : Base F ρ U) {i j : Nat} {t t' : Tab} {r : Nat} (hj : isC t j = true) (e : eqLt i j t = some (r, t')) (hF : Le t' F) : Le t F ∧ (Cok F t → Cok F t' ∧ tv F ρ U r = decide ((raw F ρ U i).z = (raw F ρ U j).z)) := by
  unfold eqLt at e
  unfold isC at hj
  rw [Bool.and_eq_true] at hj
  have key : Spec F (bnd (sucC (nodeAt t j)) fun s => bnd (bnd (mk3 57 i j 0) atomS) fun a => bnd (bnd (mk3 57 i s 0) atomS) fun b => bnd (notS a) fun na => andS na b)
      (fun r => tv F ρ U r = (!decide ((raw F ρ U i).z < (raw F ρ U j).z) && decide ((raw F ρ U i).z < (nodeVal ρ U (raw F ρ U) (nodeAt t j)).z + 1))) :=
    Spec.bnd (sucC_spec (ρ := ρ) (U := U)) fun s => Spec.bnd (ltX_spec hB) fun a => Spec.bnd (ltX_spec hB) fun b => Spec.bnd (notS_spec hB) fun na => (andS_spec hB).mono fun r h1 h2 h3 h4 h5 => by
      rw [h1, h2, h3, h4, h5 (bltT hj.2)]
  refine Spec.via key e hF fun k1 k2 => ?_
  rw [k2, ← raw_at k1 (bltT hj.1)]
  generalize (raw F ρ U i).z = a
  generalize (raw F ρ U j).z = b
  by_cases hab : a = b
  · rw [decide_eq_true hab, decide_eq_false (show ¬ a < b by omega), decide_eq_true (show a < b + 1 by omega)]; rfl
  · rw [decide_eq_false hab]
    by_cases h : a < b
    · rw [decide_eq_true h]; rfl
    · rw [decide_eq_false h, decide_eq_false (show ¬ a < b + 1 by omega)]; rfl
theorem eqP_spec (hB : Base F ρ U) {i j : Nat} : Spec F (eqP i j) (fun r => tv F ρ U r = decide ((raw F ρ U i).z = (raw F ρ U j).z)) := by
  intro t r t' e hF
  unfold eqP at e
  cases h1 : (Nat.beq (opAt t i) 3 && isC t j) with
  | true => rw [h1, cond_true] at e; exact Spec.via (eqEnd_spec hB bigK i j) e hF fun _ h => h
  | false =>
    rw [h1, cond_false] at e
    cases h2 : (Nat.beq (opAt t j) 3 && isC t i) with
    | true => rw [h2, cond_true] at e; exact Spec.via (eqEnd_spec hB bigK j i) e hF fun _ h => h.trans (decide_eq_decide.2 ⟨Eq.symm, Eq.symm⟩)
    | false =>
    rw [h2, cond_false] at e
    cases h3 : (isNarrow t i && isC t j) with
    | true => rw [h3, cond_true] at e; rw [Bool.and_eq_true] at h3; exact eqLt_spec hB h3.2 e hF
    | false =>
    rw [h3, cond_false] at e
    cases h4 : (isNarrow t j && isC t i) with
    | true =>
      rw [h4, cond_true] at e
      rw [Bool.and_eq_true] at h4
      obtain ⟨k1, k2⟩ := eqLt_spec (ρ := ρ) (U := U) hB h4.2 e hF
      exact ⟨k1, fun c => ⟨(k2 c).1, (k2 c).2.trans (decide_eq_decide.2 ⟨Eq.symm, Eq.symm⟩)⟩⟩
    | false => rw [h4, cond_false] at e; exact Spec.via (eqA_spec hB) e hF fun _ h => h
theorem eqI_spec (hB : Base F ρ U) {i j : Nat} {pos : Bool} : Spec F (eqI i j pos) (fun r => cv F ρ U r = .bool (bif pos then decide ((raw F ρ U i).z = (raw F ρ U j).z) else !decide ((raw F ρ U i).z = (raw F ρ U j).z))) := by
  unfold eqI
  refine Spec.bif (fun h => Spec.ret ?_) fun _ => ?_
  · have hd : decide ((raw F ρ U i).z = (raw F ρ U i).z) = true := by simp
    rw [← beqT h, cv_b, hd]
    cases pos
    · rw [cond_false, cond_false, hB.t0]; rfl
    · rw [cond_true, cond_true, hB.t1]
  refine Spec.bnd (eqP_spec hB) fun a => ?_
  have k2 : Spec F (bif pos then ret a else notS a) (fun r => tv F ρ U r = bif pos then tv F ρ U a else !tv F ρ U a) :=
    Spec.bif (fun h => Spec.ret (by rw [h, cond_true])) (fun h => (notS_spec hB).mono fun r e => by rw [h, cond_false]; exact e)
  refine Spec.bnd k2 fun r => Spec.ret fun h1 h2 => ?_
  rw [cv_b, h1, h2]
theorem isC_lt {t : Tab} (hF : Le t F) {i j : Nat} (hi : isC t i = true) (hj : isC t j = true) : decide ((raw F ρ U i).z < (raw F ρ U j).z) = ltC (nodeAt t i) (nodeAt t j) := by
  rw [isC_z hF hi, isC_z hF hj]
  unfold ltC
  generalize pOf (nodeAt t i) = p
  generalize pOf (nodeAt t j) = q
  have hb : ∀ a b : Nat, Nat.blt a b = decide (a < b) := fun a b => by
    cases h : Nat.blt a b with
    | true => exact (decide_eq_true (bltT h)).symm
    | false => exact (decide_eq_false fun hl => by
        have : Nat.blt a b = true := Nat.ble_eq_true_of_le hl
        rw [h] at this; cases this).symm
  cases Nat.beq (opOf (nodeAt t i)) 0 <;> cases Nat.beq (opOf (nodeAt t j)) 0
  · show decide (Int.negSucc p < Int.negSucc q) = Nat.blt q p
    rw [hb]; exact decide_eq_decide.2 ⟨fun h => by omega, fun h => by omega⟩
  · show decide (Int.negSucc p < (q : Int)) = true
    exact decide_eq_true (by omega)
  · show decide ((p : Int) < Int.negSucc q) = false
    exact decide_eq_false (by omega)
  · show decide ((p : Int) < (q : Int)) = Nat.blt p q
    rw [hb]; exact decide_eq_decide.2 ⟨fun h => by omega, fun h => by omega⟩
theorem ltEnd_spec (hB : Base F ρ U) : ∀ (k i j : Nat), Spec F (ltEnd k i j) (fun r => tv F ρ U r = decide ((raw F ρ U i).z < (raw F ρ U j).z))
  | 0, _, _ => Spec.non
  | k + 1, i, j => by
    intro t r t' e hF
    unfold ltEnd at e
    cases h3 : Nat.beq (opAt t i) 3 with
    | true =>
      rw [h3, cond_true, force_eq] at e
      have key : Spec F (bnd (ltEnd k (bOf (nodeAt t i)) j) fun h => bnd (ltEnd k (cOf (nodeAt t i)) j) fun l => mkIte (aOf (nodeAt t i)) h l)
          (fun r => tv F ρ U r = if tv F ρ U (aOf (nodeAt t i)) then decide ((raw F ρ U (bOf (nodeAt t i))).z < (raw F ρ U j).z) else decide ((raw F ρ U (cOf (nodeAt t i))).z < (raw F ρ U j).z)) :=
        Spec.bnd (ltEnd_spec hB k _ _) fun h => Spec.bnd (ltEnd_spec hB k _ _) fun l => (mkIte_spec (ρ := ρ) (U := U)).mono fun r h1 h2 h3 => by
          show (raw F ρ U r).tr = _
          rw [h1]
          by_cases hc : (raw F ρ U (aOf (nodeAt t i))).tr = true
          · rw [if_pos hc, if_pos hc]; exact h3
          · rw [if_neg hc, if_neg hc]; exact h2
      refine Spec.via key e hF fun h1 h2 => ?_
      obtain ⟨g1, g2⟩ := opAt_spec (beqT h3) (by decide)
      rw [h2, raw_at h1 g1]
      unfold nodeVal
      rw [g2, op3]
      by_cases hc : (raw F ρ U (aOf (nodeAt t i))).tr = true
      · rw [if_pos hc, if_pos hc]
      · rw [if_neg hc, if_neg hc]
    | false =>
      rw [h3, cond_false] at e
      cases hc : (isC t i && isC t j) with
      | true =>
        rw [hc, cond_true] at e
        rw [Bool.and_eq_true] at hc
        cases e
        refine ⟨hF, fun c => ⟨c, ?_⟩⟩
        rw [isC_lt hF hc.1 hc.2]
        cases ltC (nodeAt t i) (nodeAt t j)
        · exact hB.t0
        · exact hB.t1
      | false =>
        rw [hc, cond_false] at e
        exact Spec.via (ltX_spec hB) e hF fun _ h => h
theorem ltB_spec (hB : Base F ρ U) {i j : Nat} {pos : Bool} : Spec F (ltB i j pos) (fun r => cv F ρ U r = .bool (bif pos then decide ((raw F ρ U i).z < (raw F ρ U j).z) else !decide ((raw F ρ U i).z < (raw F ρ U j).z))) := by
  unfold ltB
  refine Spec.bnd (mk3_spec (ρ := ρ) (U := U)) fun a => ?_
  have k2 : Spec F (bif pos then atomS a else atomNot a) (fun r => tv F ρ U r = bif pos then tv F ρ U a else !tv F ρ U a) :=
    Spec.bif (fun h => (atomS_spec hB).mono fun r e => by rw [h, cond_true]; exact e) (fun h => (atomNot_spec hB).mono fun r e => by rw [h, cond_false]; exact e)
  refine Spec.bnd k2 fun r => Spec.ret fun h1 h2 => ?_
  obtain ⟨p, hp⟩ := h2
  rw [cv_b, h1]
  show Value.bool (bif pos then (raw F ρ U a).tr else !(raw F ρ U a).tr) = _
  rw [hp, op57, Vl.tr_bif]
theorem ltA_spec (hB : Base F ρ U) {i j : Nat} {pos : Bool} : Spec F (ltA i j pos) (fun r => cv F ρ U r = .bool (bif pos then decide ((raw F ρ U i).z < (raw F ρ U j).z) else !decide ((raw F ρ U i).z < (raw F ρ U j).z))) := by
  unfold ltA
  refine Spec.bif (fun h => Spec.ret ?_) fun _ => ?_
  · have hd : decide ((raw F ρ U i).z < (raw F ρ U i).z) = false := decide_eq_false (Int.lt_irrefl _)
    rw [← beqT h, cv_b, hd]
    cases pos
    · rw [cond_false, cond_false, hB.t1]; rfl
    · rw [cond_true, cond_true, hB.t0]
  intro t r t' e hF
  dsimp only at e
  cases h1 : (Nat.beq (opAt t i) 3 && isC t j) with
  | false => rw [h1, cond_false] at e; exact ltB_spec hB t r t' e hF
  | true =>
    rw [h1, cond_true] at e
    have key : Spec F (bnd (ltEnd bigK i j) fun a => bnd (bif pos then ret a else notS a) fun r => ret (SV.b r)) (fun r => cv F ρ U r = .bool (bif pos then decide ((raw F ρ U i).z < (raw F ρ U j).z) else !decide ((raw F ρ U i).z < (raw F ρ U j).z))) := by
      refine Spec.bnd (ltEnd_spec hB bigK i j) fun a => ?_
      have k2 : Spec F (bif pos then ret a else notS a) (fun r => tv F ρ U r = bif pos then tv F ρ U a else !tv F ρ U a) :=
        Spec.bif (fun h => Spec.ret (by rw [h, cond_true])) (fun h => (notS_spec hB).mono fun r e => by rw [h, cond_false]; exact e)
      refine Spec.bnd k2 fun r => Spec.ret fun h1 h2 => ?_
      rw [cv_b, h1, h2]
    exact key t r t' e hF
theorem ltI_spec (hB : Base F ρ U) {i j : Nat} {pos : Bool} : Spec F (ltI i j pos) (fun r => cv F ρ U r = .bool (bif pos then decide ((raw F ρ U i).z < (raw F ρ U j).z) else !decide ((raw F ρ U i).z < (raw F ρ U j).z))) := fun t r t' e hF => by
  unfold ltI at e
  cases h0 : Nat.beq i j with
  | true => rw [h0, cond_true] at e; exact ltA_spec hB t r t' e hF
  | false =>
    rw [h0, cond_false] at e
    cases h1 : (Nat.blt i t.n && Nat.blt (opOf (nodeAt t i)) 2) with
    | false => rw [h1, cond_false] at e; exact ltA_spec hB t r t' e hF
    | true =>
      rw [h1, cond_true] at e
      rw [Bool.and_eq_true] at h1
      have key : Spec F (bnd (sucC (nodeAt t i)) fun c => ltA j c (!pos)) (fun r => cv F ρ U r = .bool (bif pos then decide ((nodeVal ρ U (raw F ρ U) (nodeAt t i)).z < (raw F ρ U j).z) else !decide ((nodeVal ρ U (raw F ρ U) (nodeAt t i)).z < (raw F ρ U j).z))) :=
        Spec.bnd (sucC_spec (ρ := ρ) (U := U)) fun c => (ltA_spec hB).mono fun r h2 h3 => by
          have h4 := h3 (bltT h1.2)
          rw [h2, h4]
          generalize (nodeVal ρ U (raw F ρ U) (nodeAt t i)).z = a
          generalize (raw F ρ U j).z = b
          have : decide (b < a + 1) = !decide (a < b) := by
            by_cases hab : a < b
            · rw [decide_eq_true hab, decide_eq_false (by omega)]; rfl
            · rw [decide_eq_false hab, decide_eq_true (by omega)]; rfl
          cases pos with
          | true => show Value.bool (!decide (b < a + 1)) = .bool (decide (a < b)); rw [this, Bool.not_not]
          | false => show Value.bool (decide (b < a + 1)) = .bool (!decide (a < b)); rw [this]
      refine Spec.via key e hF fun k1 k2 => ?_
      show cv F ρ U r = _
      rw [k2, raw_at k1 (bltT h1.1)]
theorem bin_arith (P : Program) (ty : TypeId) (k : IntKind) (a b : Int) : binD P .add ty (.int k a) (.int k b) = some (.int k (k.wrap (a + b))) ∧ binD P .sub ty (.int k a) (.int k b) = some (.int k (k.wrap (a - b))) ∧ binD P .mul ty (.int k a) (.int k b) = some (.int k (k.wrap (a * b))) := by
  cases k <;> exact ⟨rfl, rfl, rfl⟩
theorem bin_cmp (P : Program) (ty : TypeId) (k : IntKind) (a b : Int) : binD P .eql ty (.int k a) (.int k b) = some (.bool (a == b)) ∧ binD P .neq ty (.int k a) (.int k b) = some (.bool (a != b)) ∧
    binD P .lss ty (.int k a) (.int k b) = some (.bool (decide (a < b))) ∧ binD P .gtr ty (.int k a) (.int k b) = some (.bool (decide (a > b))) ∧ binD P .leq ty (.int k a) (.int k b) = some (.bool (decide (a ≤ b))) ∧ binD P .geq ty (.int k a) (.int k b) = some (.bool (decide (a ≥ b))) := by
  cases k <;> exact ⟨rfl, rfl, rfl, rfl, rfl, rfl⟩
theorem beq_dec (a b : Int) : (a == b) = decide (a = b) := rfl
theorem le_dec (a b : Int) : (!decide (b < a)) = decide (a ≤ b) := by
  by_cases h : b < a
  · rw [decide_eq_true h, decide_eq_false (by omega)]; rfl
  · rw [decide_eq_false h, decide_eq_true (by omega)]; rfl
theorem bin_div (P : Program) (ty : TypeId) (k : IntKind) (a b : Int) (h : b ≠ 0) : binD P .quo ty (.int k a) (.int k b) = some (.int k (k.wrap (a.tdiv b))) ∧ binD P .rem ty (.int k a) (.int k b) = some (.int k (a.tmod b)) := by
  have h1 : Op.intDiv .quo k a b = pure (.int k (k.wrap (a.tdiv b))) := by unfold Op.intDiv; rw [if_neg h]
  have h2 : Op.intDiv .rem k a b = pure (.int k (a.tmod b)) := by unfold Op.intDiv; rw [if_neg h]
  have e1 : binD P .quo ty (.int k a) (.int k b) = rig (pureS P (Op.intDiv .quo k a b)) := by cases k <;> rfl
  have e2 : binD P .rem ty (.int k a) (.int k b) = rig (pureS P (Op.intDiv .rem k a b)) := by cases k <;> rfl
  rw [e1, e2, h1, h2]
  exact ⟨rfl, rfl⟩
theorem isPosC_spec {t : Tab} (hF : Le t F) {j : Nat} (h : isPosC t j = true) : 0 < (raw F ρ U j).z := by
  unfold isPosC at h
  rw [Bool.and_eq_true] at h
  obtain ⟨g1, g2⟩ := opAt_spec (beqT h.1) (by decide)
  rw [raw_at hF g1]
  unfold nodeVal
  rw [g2, op0]
  have := bltT h.2
  show (0 : Int) < (pOf (nodeAt t j) : Nat)
  omega
theorem odd_wrap (z : Int) : IntKind.i64.wrap (IntKind.i64.wrap (2 * z) + 1) ≠ 0 := by
  have h : ∀ n : Int, IntKind.i64.wrap n % 2 = n % 2 := fun n => by
    unfold IntKind.wrap
    simp [IntKind.signed, IntKind.bits]
    split <;> omega
  intro e
  have h1 := h (IntKind.i64.wrap (2 * z) + 1)
  have h2 := h (2 * z)
  rw [e] at h1
  omega
theorem isOdd_spec {t : Tab} (hF : Le t F) {j : Nat} (h : isOdd t j = true) : (raw F ρ U j).z ≠ 0 := by
  unfold isOdd at h
  rw [Bool.and_eq_true, Bool.and_eq_true, Bool.and_eq_true] at h
  obtain ⟨h1, h2, h3, h4⟩ := h
  obtain ⟨g1, g2⟩ := opAt_spec (beqT h1) (by decide)
  obtain ⟨g3, g4⟩ := opAt_spec (beqT h3) (by decide)
  obtain ⟨c1, c2⟩ := constIs_spec h2
  obtain ⟨c3, c4⟩ := constIs_spec h4
  rw [raw_at hF g1]
  unfold nodeVal
  rw [g2, op67, raw_at hF g3]
  unfold nodeVal
  rw [g4, op83, raw_at hF c1, raw_at hF c3, c2, c4]
  exact odd_wrap _
theorem quoS_spec {P : Program} {ty : TypeId} {k : IntKind} {i j : Nat} : Spec F (quoS k i j) (fun r => binD P .quo ty (.int k (raw F ρ U i).z) (.int k (raw F ρ U j).z) = some (cv F ρ U r)) := fun t r t' e hF => by
  unfold quoS at e
  cases hc : isPosC t j with
  | false => rw [hc] at e; cases e
  | true =>
    rw [hc, cond_true] at e
    refine Spec.via ((Spec.bnd (mk3_spec (ρ := ρ) (U := U)) fun r => Spec.ret fun h => ?_ : Spec F (bnd (mk3 (Nat.add 88 (ik k)) i j 0) fun r => ret (SV.n k r)) (fun r => cv F ρ U r = .int k (k.wrap ((raw F ρ U i).z.tdiv (raw F ρ U j).z))))) e hF fun h1 h2 => ?_
    · obtain ⟨p, hp⟩ := h
      rw [cv_n, hp]
      cases k <;> rfl
    · have h0 := isPosC_spec (ρ := ρ) (U := U) h1 hc
      rw [(bin_div P ty k _ _ (by omega)).1]; exact congrArg some h2.symm
theorem remS_spec {P : Program} {ty : TypeId} {k : IntKind} {i j : Nat} : Spec F (remS k i j) (fun r => binD P .rem ty (.int k (raw F ρ U i).z) (.int k (raw F ρ U j).z) = some (cv F ρ U r)) := fun t r t' e hF => by
  unfold remS at e
  cases hc : (isPosC t j || isOdd t j) with
  | false => rw [hc] at e; cases e
  | true =>
    rw [hc, cond_true] at e
    refine Spec.via ((Spec.bnd (mk3_spec (ρ := ρ) (U := U)) fun r => Spec.ret fun h => ?_ : Spec F (bnd (mk3 (Nat.add 96 (ik k)) i j 0) fun r => ret (SV.n k r)) (fun r => cv F ρ U r = .int k ((raw F ρ U i).z.tmod (raw F ρ U j).z)))) e hF fun h1 h2 => ?_
    · obtain ⟨p, hp⟩ := h
      rw [cv_n, hp]
      cases k <;> rfl
    · have h0 : (raw F ρ U j).z ≠ 0 := by
        rw [Bool.or_eq_true] at hc
        rcases hc with hc | hc
        · have := isPosC_spec (ρ := ρ) (U := U) h1 hc
          omega
        · exact isOdd_spec h1 hc
      rw [(bin_div P ty k _ _ h0).2]; exact congrArg some h2.symm
theorem intS_spec (hB : Base F ρ U) {P : Program} {op : BinOp} {ty : TypeId} {k : IntKind} {i j : Nat} : Spec F (intS op k i j) (fun r => binD P op ty (.int k (raw F ρ U i).z) (.int k (raw F ρ U j).z) = some (cv F ρ U r)) := by
  obtain ⟨a1, a2, a3⟩ := bin_arith P ty k (raw F ρ U i).z (raw F ρ U j).z
  obtain ⟨c1, c2, c3, c4, c5, c6⟩ := bin_cmp P ty k (raw F ρ U i).z (raw F ρ U j).z
  unfold intS
  split
  · exact quoS_spec
  · exact remS_spec
  · refine Spec.bnd (mk3_spec (ρ := ρ) (U := U)) fun r => Spec.ret fun h => ?_
    obtain ⟨p, hp⟩ := h
    rw [a1, cv_n, hp]
    cases k <;> rfl
  · refine Spec.bnd (mk3_spec (ρ := ρ) (U := U)) fun r => Spec.ret fun h => ?_
    obtain ⟨p, hp⟩ := h
    rw [a2, cv_n, hp]
    cases k <;> rfl
  · refine Spec.bnd (mk3_spec (ρ := ρ) (U := U)) fun r => Spec.ret fun h => ?_
    obtain ⟨p, hp⟩ := h
    rw [a3, cv_n, hp]
    cases k <;> rfl
  · exact (eqI_spec hB).mono fun r h => by rw [c1, h]; rfl
  · exact (eqI_spec hB).mono fun r h => by rw [c2, h]; rfl
  · exact (ltI_spec hB).mono fun r h => by rw [c3, h]; rfl
  · exact (ltI_spec hB).mono fun r h => by rw [c4, h]; rfl
  · exact (ltI_spec hB).mono fun r h => by rw [c5, h, cond_false, le_dec]
  · exact (ltI_spec hB).mono fun r h => by rw [c6, h, cond_false, le_dec]
  · exact Spec.non
theorem orM_spec {α : Type} {m m' : M α} {Q : α → Prop} (h : Spec F m Q) (h' : Spec F m' Q) : Spec F (orM m m') Q := fun t a t' e hF => by
  unfold orM at e
  cases hm : m t with
  | none => rw [hm] at e; exact h' t a t' e hF
  | some r => rw [hm] at e; cases e; exact h t a t' hm hF
theorem i16_in (z : Int) : -32768 ≤ IntKind.i16.wrap z ∧ IntKind.i16.wrap z ≤ 32767 := by
  unfold IntKind.wrap
  simp only [IntKind.signed, IntKind.bits]
  simp
  omega
theorem i64_id {z : Int} (h0 : 0 ≤ z) (h1 : z ≤ 16777216) : IntKind.i64.wrap z = z := by
  unfold IntKind.wrap
  simp only [IntKind.signed, IntKind.bits]
  simp
  omega
theorem constIs_spec0 {t : Tab} (hF : Le t F) {i : Nat} (h : constIs t i 0 = true) : (raw F ρ U i).z = 0 := by
  unfold constIs at h
  rw [Bool.and_eq_true] at h
  rw [raw_at hF (bltT h.1), beqT h.2]
  rfl
def topZ : Nat → Int
  | 0 => 32768
  | k + 1 => topZ k + topZ k
theorem zerosS_spec (hB : Base F ρ U) {pc : PC} : ∀ (k i : Nat), k ≤ 8 → Spec F (zerosS pc k i) (fun r => pcH F ρ U pc → (0 ≤ (raw F ρ U i).z ∧ (raw F ρ U i).z ≤ topZ k) ∧ tv F ρ U r = decide ((raw F ρ U i).z = 0))
  | 0, _, _ => Spec.non
  | k + 1, i, hk => fun t r t' e hF => by
    have hpos : ∀ k : Nat, 32768 ≤ topZ k := fun k => by
      induction k with
      | zero => exact Int.le_refl _
      | succ k ih => show 32768 ≤ topZ k + topZ k; omega
    unfold zerosS at e
    cases h1 : Nat.beq (opAt t i) 67 with
    | true =>
      rw [h1, cond_true, force_eq] at e
      have key : Spec F (bnd (zerosS pc k (aOf (nodeAt t i))) fun a => bnd (zerosS pc k (bOf (nodeAt t i))) fun b => andS a b) (fun r => pcH F ρ U pc → ((0 ≤ (raw F ρ U (aOf (nodeAt t i))).z ∧ (raw F ρ U (aOf (nodeAt t i))).z ≤ topZ k) ∧ (0 ≤ (raw F ρ U (bOf (nodeAt t i))).z ∧ (raw F ρ U (bOf (nodeAt t i))).z ≤ topZ k)) ∧
          tv F ρ U r = (decide ((raw F ρ U (aOf (nodeAt t i))).z = 0) && decide ((raw F ρ U (bOf (nodeAt t i))).z = 0))) :=
        Spec.bnd (zerosS_spec hB k _ (by omega)) fun a => Spec.bnd (zerosS_spec hB k _ (by omega)) fun b => (andS_spec hB).mono fun r h1 h2 h3 hp => by
          obtain ⟨p1, p2⟩ := h3 hp
          obtain ⟨q1, q2⟩ := h2 hp
          refine ⟨⟨p1, q1⟩, ?_⟩
          rw [h1, p2, q2]
      refine Spec.via key e hF fun k1 k2 hp => ?_
      obtain ⟨⟨⟨a1, a2⟩, b1, b2⟩, h⟩ := k2 hp
      obtain ⟨g1, g2⟩ := opAt_spec (beqT h1) (by decide)
      rw [raw_at k1 g1]
      unfold nodeVal
      rw [g2, op67]
      have htop : ∀ k : Nat, k ≤ 7 → topZ k ≤ 4194304 := fun k hk => by
        match k, hk with
        | 0, _ | 1, _ | 2, _ | 3, _ | 4, _ | 5, _ | 6, _ | 7, _ => decide
      have ht := htop k (by omega)
      generalize (raw F ρ U (aOf (nodeAt t i))).z = za at *
      generalize (raw F ρ U (bOf (nodeAt t i))).z = zb at *
      show (0 ≤ IntKind.i64.wrap (za + zb) ∧ IntKind.i64.wrap (za + zb) ≤ topZ k + topZ k) ∧ _ = decide (IntKind.i64.wrap (za + zb) = 0)
      rw [i64_id (by omega) (by omega)]
      refine ⟨⟨by omega, by omega⟩, ?_⟩
      rw [h]
      by_cases ha : za = 0
      · by_cases hb : zb = 0
        · rw [decide_eq_true ha, decide_eq_true hb, decide_eq_true (by omega)]; rfl
        · rw [decide_eq_false hb, decide_eq_false (show ¬ za + zb = 0 by omega), Bool.and_false]
      · rw [decide_eq_false ha, decide_eq_false (show ¬ za + zb = 0 by omega), Bool.false_and]
    | false =>
    rw [h1, cond_false] at e
    cases h2 : constIs t i 0 with
    | true =>
      rw [h2, cond_true] at e
      cases e
      refine ⟨hF, fun c => ⟨c, fun _ => ?_⟩⟩
      have := hpos (k + 1)
      rw [constIs_spec0 hF h2, hB.t1]
      exact ⟨⟨Int.le_refl _, Int.le_trans (by decide) this⟩, rfl⟩
    | false =>
    rw [h2, cond_false] at e
    cases h3 : Nat.beq (opAt t i) 105 with
    | false => rw [h3, cond_false] at e; cases e
    | true =>
    rw [h3, cond_true] at e
    have key : Spec F (bnd (mkP 0 0) fun z => bnd (bnd (mk3 57 i z 0) atomS) fun a => bnd (notS a) fun na => bnd (underS pc na) fun u => gd (Nat.beq u 1) (eqP i z))
        (fun r => pcH F ρ U pc → 0 ≤ (raw F ρ U i).z ∧ tv F ρ U r = decide ((raw F ρ U i).z = 0)) := by
      refine Spec.bnd (mkP_spec (ρ := ρ) (U := U) (by decide)) fun z => Spec.bnd (ltX_spec hB) fun a => Spec.bnd (notS_spec hB) fun na => Spec.bnd (underS_spec hB pc na) fun u => Spec.gd fun hu => (eqP_spec hB).mono fun r h5 h4 h3 h2 h1 hp => ?_
      have k1 := h4 (by rw [beqT hu]; exact hB.t1) hp
      rw [h3, h2, h1, op0, Bool.not_eq_true', decide_eq_false_iff_not] at k1
      have k1 : ¬ (raw F ρ U i).z < ((0 : Nat) : Int) := k1
      rw [h1, op0] at h5
      exact ⟨by omega, h5⟩
    refine Spec.via key e hF fun k1 k2 hp => ?_
    obtain ⟨p1, p2⟩ := k2 hp
    obtain ⟨g1, g2⟩ := opAt_spec (beqT h3) (by decide)
    have hr : (raw F ρ U i).z ≤ 32767 := by
      rw [raw_at k1 g1]
      unfold nodeVal
      rw [g2]
      exact (i16_in _).2
    have := hpos (k + 1)
    exact ⟨⟨p1, by omega⟩, p2⟩
theorem isGtI_eq {op : BinOp} {k : IntKind} (h : isGtI op k = true) : op = .gtr ∧ k = .i64 := by
  cases op <;> cases k <;> first | exact ⟨rfl, rfl⟩ | cases h
theorem ratioS_spec (hB : Base F ρ U) {pc : PC} {i : Nat} : Spec F (ratioS pc i) (fun r => pcH F ρ U pc → (raw F ρ U i).nat < Ieee.single.infRung ∧ tv F ρ U r = feq .f32 (raw F ρ U i).nat 0) := fun t r t' e hF => by
  unfold ratioS at e
  cases h1 : (isOp t 19 i && (isOp t 58 (kidA t i) && isOp t 58 (kidB t i))) with
  | false => rw [h1, cond_false] at e; cases e
  | true =>
    rw [h1, cond_true, force_eq, force_eq] at e
    rw [Bool.and_eq_true, Bool.and_eq_true] at h1
    cases h2 : Nat.beq (opAt t (kidA t (kidA t i))) 105 with
    | false => rw [h2, cond_false] at e; cases e
    | true =>
      rw [h2, cond_true] at e
      have key : Spec F (bnd (zerosS pc 8 (kidA t (kidB t i))) fun r => bnd (notS r) fun nr => bnd (underS pc nr) fun u => gd (Nat.beq u 1) <|
          bnd (mkP 0 0) fun z => bnd (bnd (mk3 57 (kidA t (kidA t i)) z 0) atomS) fun a => bnd (notS a) fun na => bnd (underS pc na) fun u2 => gd (Nat.beq u2 1) (eqP (kidA t (kidA t i)) z))
          (fun r => pcH F ρ U pc → (1 ≤ (raw F ρ U (kidA t (kidB t i))).z ∧ (raw F ρ U (kidA t (kidB t i))).z ≤ topZ 8) ∧ 0 ≤ (raw F ρ U (kidA t (kidA t i))).z ∧ tv F ρ U r = decide ((raw F ρ U (kidA t (kidA t i))).z = 0)) := by
        refine Spec.bnd (zerosS_spec hB 8 _ (Nat.le_refl _)) fun r => Spec.bnd (notS_spec hB) fun nr => Spec.bnd (underS_spec hB pc nr) fun u => Spec.gd fun hu => Spec.bnd (mkP_spec (ρ := ρ) (U := U) (by decide)) fun z => Spec.bnd (ltX_spec hB) fun a => Spec.bnd (notS_spec hB) fun na => Spec.bnd (underS_spec hB pc na) fun u2 => Spec.gd fun hu2 => (eqP_spec hB).mono fun q g5 g4 g3 g2 g1 g0 f1 f0 hp => ?_
        have k1 := g4 (by rw [beqT hu2]; exact hB.t1) hp
        rw [g3, g2, g1, op0, Bool.not_eq_true', decide_eq_false_iff_not] at k1
        have k1 : ¬ (raw F ρ U (kidA t (kidA t i))).z < ((0 : Nat) : Int) := k1
        have k2 := g0 (by rw [beqT hu]; exact hB.t1) hp
        obtain ⟨⟨p1, p2⟩, p3⟩ := f0 hp
        rw [f1, p3, Bool.not_eq_true', decide_eq_false_iff_not] at k2
        rw [g1, op0] at g5
        exact ⟨⟨by omega, p2⟩, by omega, g5⟩
      refine Spec.via key e hF fun k1 k2 hp => ?_
      obtain ⟨⟨b0, b1⟩, a0, hz⟩ := k2 hp
      have hq : (raw F ρ U i).nat = fdiv .f32 (FloatKind.nearest .f32 (raw F ρ U (kidA t (kidA t i))).z) (FloatKind.nearest .f32 (raw F ρ U (kidA t (kidB t i))).z) := by
        rw [un_raw k1 h1.1 (by decide), op19, Vl.nat_i, un_raw k1 h1.2.1 (by decide), op58, Vl.nat_i, un_raw k1 h1.2.2 (by decide), op58, Vl.nat_i]
      have a1 : (raw F ρ U (kidA t (kidA t i))).z ≤ 32767 := by
        obtain ⟨g1, g2⟩ := opAt_spec (beqT h2) (by decide)
        rw [raw_at k1 g1]
        unfold nodeVal
        rw [g2]
        exact (i16_in _).2
      obtain ⟨r1, r2⟩ := ratio_bits a0 a1 b0 (Int.le_trans b1 (by decide))
      rw [hq]
      refine ⟨r1, ?_⟩
      rw [hz, bits_zero r1]
      by_cases h0 : (raw F ρ U (kidA t (kidA t i))).z = 0
      · rw [decide_eq_true h0, decide_eq_false (fun h => r2.1 h h0)]; rfl
      · rw [decide_eq_false h0, decide_eq_true (r2.2 h0)]; rfl
theorem floatP_spec (hB : Base F ρ U) {pc : PC} {op : BinOp} {k : FloatKind} {i j : Nat} : Spec F (floatP pc op k i j) (fun r => pcH F ρ U pc → fbin op k (raw F ρ U i).nat (raw F ρ U j).nat = some (cv F ρ U r)) := fun t r t' e hF => by
  have isF : ∀ {k : FloatKind}, isF32 k = true → k = .f32 := fun {k} h => by cases k <;> first | rfl | cases h
  unfold floatP at e
  cases h1 : (isF32 k && (isOp t 19 i && (isCmp op && constIs t j 0))) with
  | true =>
    rw [h1, cond_true] at e
    rw [Bool.and_eq_true, Bool.and_eq_true, Bool.and_eq_true] at h1
    obtain ⟨hk, _, hc, hj⟩ := h1
    have := isF hk
    subst this
    have key : Spec F (orM (bnd (ratioS pc i) fun z => ratioC op z) (floatS pc op .f32 i j)) (fun r => pcH F ρ U pc → fbin op .f32 (raw F ρ U i).nat (raw F ρ U j).nat = some (cv F ρ U r) ∨ fbin op .f32 (raw F ρ U i).nat 0 = some (cv F ρ U r)) := by
      refine orM_spec (Spec.bnd (ratioS_spec hB) fun z => ?_) ((floatS_spec hB).mono fun _ h hp => .inl (h hp))
      unfold ratioC
      split
      · refine Spec.ret fun h hp => .inr ?_
        show some (Value.bool (fge .f32 (raw F ρ U i).nat 0)) = _
        rw [ge_nn (bits_nn (h hp).1), cv_b, hB.t1]
      · refine Spec.ret fun h hp => .inr ?_
        show some (Value.bool (feq .f32 (raw F ρ U i).nat 0)) = _
        rw [cv_b, (h hp).2]
      · refine Spec.bnd (notS_spec hB) fun n => Spec.ret fun h2 h hp => .inr ?_
        show some (Value.bool (fne .f32 (raw F ρ U i).nat 0)) = _
        rw [cv_b, h2, (h hp).2]; rfl
      · exact Spec.non
    refine Spec.via key e hF fun k1 k2 hp => ?_
    rcases k2 hp with h | h
    · exact h
    · rw [constIs_raw k1 hj]; exact h
  | false =>
  rw [h1, cond_false] at e
  cases h2 : (isF32 k && (isOp t 19 i && (isLeq op && constIs t j 2139095039))) with
  | false => rw [h2, cond_false] at e; exact floatS_spec hB t r t' e hF
  | true =>
    rw [h2, cond_true] at e
    rw [Bool.and_eq_true, Bool.and_eq_true, Bool.and_eq_true] at h2
    obtain ⟨hk, _, hc, hj⟩ := h2
    have := isF hk
    subst this
    have : op = .leq := by cases op <;> first | rfl | cases hc
    subst this
    have key : Spec F (orM (bnd (ratioS pc i) fun _ => ret (SV.b 1)) (floatS pc .leq .f32 i j)) (fun r => pcH F ρ U pc → fbin .leq .f32 (raw F ρ U i).nat (raw F ρ U j).nat = some (cv F ρ U r) ∨ fbin .leq .f32 (raw F ρ U i).nat 2139095039 = some (cv F ρ U r)) := by
      refine orM_spec (Spec.bnd (ratioS_spec hB) fun z => Spec.ret fun h hp => .inr ?_) ((floatS_spec hB).mono fun _ h hp => .inl (h hp))
      show some (Value.bool (fle .f32 (raw F ρ U i).nat 2139095039)) = _
      rw [fin_cmp (ge_nn (bits_nn (h hp).1)), bits_fin (h hp).1, cv_b, hB.t1]
    refine Spec.via key e hF fun k1 k2 hp => ?_
    rcases k2 hp with h | h
    · exact h
    · rw [constIs_raw k1 hj]; exact h
theorem isQuoI_eq {op : BinOp} {k : IntKind} (h : isQuoI op k = true) : op = .quo ∧ (k = .i64 ∨ k = .i32) := by
  cases op <;> cases k <;> first | exact ⟨rfl, .inl rfl⟩ | exact ⟨rfl, .inr rfl⟩ | cases h
theorem posS_spec (hB : Base F ρ U) {pc : PC} {j : Nat} : Spec F (posS pc j) (fun _ => pcH F ρ U pc → 0 < (raw F ρ U j).z) := by
  unfold posS
  refine Spec.bnd (mkP_spec (ρ := ρ) (U := U) (by decide)) fun o => Spec.bnd (ltX_spec hB) fun a => Spec.bnd (notS_spec hB) fun na => Spec.bnd (underS_spec hB pc na) fun u => Spec.gd fun hu => Spec.ret fun h4 h3 h2 h1 hp => ?_
  have k1 := h4 (by rw [beqT hu]; exact hB.t1) hp
  rw [h3, h2, h1, op0, Bool.not_eq_true', decide_eq_false_iff_not] at k1
  have k1 : ¬ (raw F ρ U j).z < ((1 : Nat) : Int) := k1
  omega
theorem i32_in (z : Int) : -2147483648 ≤ IntKind.i32.wrap z ∧ IntKind.i32.wrap z ≤ 2147483647 := by
  unfold IntKind.wrap
  simp only [IntKind.signed, IntKind.bits]
  simp
  omega
theorem narrow_in {t : Tab} (hF : Le t F) {i : Nat} (h : isNarrow t i = true) : -2147483648 ≤ (raw F ρ U i).z ∧ (raw F ρ U i).z ≤ 2147483647 := by
  unfold isNarrow at h
  rcases Bool.or_eq_true _ _ |>.mp h with h | h
  · obtain ⟨g1, g2⟩ := opAt_spec (beqT h) (by decide)
    rw [raw_at hF g1]
    unfold nodeVal
    rw [g2]
    have := i16_in (raw F ρ U (aOf (nodeAt t i))).z
    show -2147483648 ≤ IntKind.i16.wrap (raw F ρ U (aOf (nodeAt t i))).z ∧ IntKind.i16.wrap (raw F ρ U (aOf (nodeAt t i))).z ≤ 2147483647
    omega
  · obtain ⟨g1, g2⟩ := opAt_spec (beqT h) (by decide)
    rw [raw_at hF g1]
    unfold nodeVal
    rw [g2]
    exact i32_in _
theorem tdiv_in {a b : Int} (h0 : -2147483648 ≤ a) (h1 : a ≤ 2147483647) (hb : 0 < b) : -2147483648 ≤ a.tdiv b ∧ a.tdiv b ≤ 2147483647 := by
  have key : ∀ a : Int, 0 ≤ a → 0 ≤ a.tdiv b ∧ a.tdiv b ≤ a := fun a h => by
    rw [Int.tdiv_eq_ediv_of_nonneg h]
    exact ⟨Int.ediv_nonneg h (Int.le_of_lt hb), Int.ediv_le_self b h⟩
  by_cases ha : 0 ≤ a
  · obtain ⟨k1, k2⟩ := key a ha
    omega
  · obtain ⟨k1, k2⟩ := key (-a) (by omega)
    rw [Int.neg_tdiv] at k1 k2
    omega
theorem wrap_quo {k : IntKind} (hk : k = .i64 ∨ k = .i32) {z : Int} (h0 : -2147483648 ≤ z) (h1 : z ≤ 2147483647) : k.wrap z = IntKind.i64.wrap z := by
  rcases hk with rfl | rfl
  · rfl
  · unfold IntKind.wrap
    simp only [IntKind.signed, IntKind.bits]
    simp
    omega
theorem intP_spec (hB : Base F ρ U) {P : Program} {pc : PC} {op : BinOp} {ty : TypeId} {k : IntKind} {i j : Nat} : Spec F (intP pc op k i j) (fun r => pcH F ρ U pc → binD P op ty (.int k (raw F ρ U i).z) (.int k (raw F ρ U j).z) = some (cv F ρ U r)) := fun t r t' e hF => by
  unfold intP at e
  cases h1 : (isGtI op k && (constIs t j 0 && Nat.beq (opAt t i) 67)) with
  | false =>
    rw [h1, cond_false] at e
    cases h2 : (isQuoI op k && (isNarrow t i && !isC t j)) with
    | false => rw [h2, cond_false] at e; exact ((intS_spec hB).mono fun _ h _ => h) t r t' e hF
    | true =>
      rw [h2, cond_true] at e
      rw [Bool.and_eq_true, Bool.and_eq_true] at h2
      obtain ⟨rfl, hk⟩ := isQuoI_eq h2.1
      have key : Spec F (orM (bnd (posS pc j) fun _ => bnd (mk3 91 i j 0) fun r => ret (SV.n k r)) (intS .quo k i j)) (fun r => pcH F ρ U pc → binD P .quo ty (.int k (raw F ρ U i).z) (.int k (raw F ρ U j).z) = some (cv F ρ U r) ∨ (0 < (raw F ρ U j).z ∧ cv F ρ U r = .int k (IntKind.i64.wrap ((raw F ρ U i).z.tdiv (raw F ρ U j).z)))) := by
        refine orM_spec (Spec.bnd (posS_spec hB) fun _ => Spec.bnd (mk3_spec (ρ := ρ) (U := U)) fun r => Spec.ret fun h3 h4 hp => .inr ⟨h4 hp, ?_⟩) ((intS_spec hB).mono fun _ h _ => .inl h)
        obtain ⟨p, hp⟩ := h3
        rw [cv_n, hp]
        rfl
      refine Spec.via key e hF fun k1 k2 hp => ?_
      rcases k2 hp with h | ⟨hpos, h⟩
      · exact h
      · obtain ⟨n1, n2⟩ := narrow_in (ρ := ρ) (U := U) k1 h2.2.1
        obtain ⟨d1, d2⟩ := tdiv_in n1 n2 hpos
        rw [h, (bin_div P ty k _ _ (by omega)).1, wrap_quo hk d1 d2]
  | true =>
    rw [h1, cond_true] at e
    rw [Bool.and_eq_true, Bool.and_eq_true] at h1
    obtain ⟨rfl, rfl⟩ := isGtI_eq h1.1
    have key : Spec F (orM (bnd (zerosS pc 8 i) fun r => bnd (notS r) fun n => ret (.b n)) (intS .gtr .i64 i j)) (fun r => pcH F ρ U pc → binD P .gtr ty (.int .i64 (raw F ρ U i).z) (.int .i64 (raw F ρ U j).z) = some (cv F ρ U r) ∨ cv F ρ U r = .bool (decide ((raw F ρ U i).z > 0))) := by
      refine orM_spec (Spec.bnd (zerosS_spec hB 8 i (Nat.le_refl _)) fun a => Spec.bnd (notS_spec hB) fun n => Spec.ret fun h2 h3 hp => .inr ?_) ((intS_spec hB).mono fun _ h _ => .inl h)
      obtain ⟨⟨p1, _⟩, p2⟩ := h3 hp
      rw [cv_b, h2, p2]
      by_cases hz : (raw F ρ U i).z = 0
      · rw [decide_eq_true hz, decide_eq_false (by omega)]; rfl
      · rw [decide_eq_false hz, decide_eq_true (by omega)]; rfl
    refine Spec.via key e hF fun k1 k2 hp => ?_
    rcases k2 hp with h | h
    · exact h
    · rw [h, (bin_cmp P ty .i64 _ _).2.2.2.1, constIs_spec0 k1 h1.2.1]
end
end Sx
end
