/-
  When a lamp gives a share: program and model lead to the same. No condition.
-/
import Derived.Test.YtigegnkifeljhaaLi
set_option linter.unusedSectionVars false
set_option linter.unusedVariables false
noncomputable section
namespace Go.Proofs.Ytigegnkifeljhaa
namespace Lg
open Go Go.ChangeShapes Go.WideShapes Go.ChangeAt Go.RowKit Ev Sx

theorem up_self {j : J} {i : Nat} {p : Value × Bool} (h : j i = p) : up j i p = j := by
  funext m
  unfold up
  cases hb : Nat.beq m i with
  | true => rw [cond_true, Nat.eq_of_beq_eq_true hb, h]
  | false => rfl
def see (sl : List Nat) (s : St) : Nat × Heap × Bool × List (Value × Bool) := (s.tmps.length, s.heap, s.ok, sl.map fun i => s.tmps.getD i (undef, false))
theorem S_of {s : St} {n : Nat} (h : s.tmps.length = n) : s = S n (fun m => s.tmps.getD m (undef, false)) s.heap s.ok := by
  unfold S
  have : s.tmps = (List.range n).map fun m => s.tmps.getD m (undef, false) := by
    refine List.ext_getElem? fun i => ?_
    rw [List.getElem?_map]
    by_cases hi : i < n
    · rw [List.getElem?_range hi, Option.map_some, List.getElem?_eq_getElem (by omega), List.getD_eq_getElem?_getD, List.getElem?_eq_getElem (by omega)]
      rfl
    · rw [List.getElem?_eq_none (by omega), List.getElem?_eq_none (by simp; omega)]; rfl
  rw [← this]
theorem reg_see [Frn] {E : Env} {c : Code} {s : St} {n : Nat} {h : Heap} {k : Bool} {sl : List Nat} {vs : List (Value × Bool)} (e : (regionOf E c s).map (see sl) = some (n, h, k, vs)) (hk : k = true) : ∃ j : J, regionOf E c s = some (S n j h true) ∧ sl.map j = vs := by
  obtain ⟨s', hs, e⟩ := Option.map_eq_some_iff.1 e
  unfold see at e
  simp only [Prod.mk.injEq] at e
  obtain ⟨e1, e2, e3, e4⟩ := e
  refine ⟨fun m => s'.tmps.getD m (undef, false), ?_, e4⟩
  exact hs.trans (congrArg some ((S_of e1).trans (by rw [e2, e3, hk])))


theorem m_r3 (base : Nat) (z : Nat → Int) (f : Nat → Nat) (s : Nat) (j : J) : (@regionOf (iG base) (EG base) m3 (S 25 (bJ s j) (HG z f) true)).map (see [1, 2, 15]) = some (25, HG z f, (((bif (fge .f32 s 0) then (decide ((fge .f32 s 0) = true) && true) else true) && true) && ((((decide ((fge .f32 s 0) = true) && true) && true) || (!decide ((fge .f32 s 0) = true))) && true)), [vF s, vP, vB (!Tl.shB s)]) := by kernel_rfl
abbrev GO (base N : Nat) (c : Code) (s : St) (e : Ex) (s' : St) : Prop := @Goes (iG base) (EG base) N c s e s'
theorem go_last (s : Nat) (g : List Value) (i : Nat) : goT s g 0 i = (0, 6) := rfl
theorem go_step (s : Nat) (g : List Value) (n i : Nat) : goT s g (n + 1) i = bif fle .f32 (lampC g (i : Int)) s then ((i : Int), 0) else goT s g n (i + 1) := rfl
theorem m_loop (base : Nat) (z : Nat → Int) (f : Nat → Nat) (s : Nat) : ∀ (n i : Nat) (j : J), i + n = 100001 →
    (∃ (t : Int) (j' : J), goT s (gr z f) n i = (t, 0) ∧ GO base (30 + n + 1) (.loop mBody) (S 25 (tJ s i j) (HG z f) true) .ret (S 25 (up (up j' 4 (vI t)) 5 (vI 0)) (HG z f) true)) ∨
    (goT s (gr z f) n i = (0, 6) ∧ ∃ j', GO base (30 + n + 1) (.loop mBody) (S 25 (tJ s i j) (HG z f) true) (.exit 0) (S 25 j' (HG z f) true))
  | 0, i, j, h => by
    letI : Frn := iG base
    have hi : i = 100001 := by omega
    subst hi
    refine .inr ⟨go_last _ _ _, ?_⟩
    have hc := (m_c6 z f s ((100001 : Nat) : Int) (up j 16 (vI ((100001 : Nat) : Int))) (decide (((100001 : Nat) : Int) ≤ 100000))).trans (show vB (decide (((100001 : Nat) : Int) ≤ 100000)) = vB false by rw [decide_eq_false (by omega)])
    exact ⟨_, (Goes.loopX (N := 25) (Goes.seqX (N := 24) (Goes.seq (N := 23) (Goes.reg (N := 22) (m_r6 base z f s 100001 j)) (Goes.condF (E := EG base) (N := 22) hc (Goes.exit (N := 21)))))).more (by omega)⟩
  | n + 1, i, j, h => by
    letI : Frn := iG base
    have hc := (m_c6 z f s (i : Int) (up j 16 (vI i)) (decide ((i : Int) ≤ 100000))).trans (show vB (decide ((i : Int) ≤ 100000)) = vB true by rw [decide_eq_true (by omega)])
    have g6 := Goes.seq (N := 23) (Goes.reg (N := 22) (m_r6 base z f s i j)) (Goes.condT (E := EG base) (N := 22) (a := .skip) (b := .exit 0) hc (Goes.skip (N := 21)))
    generalize (up (up j 16 (vI i)) 17 (vB (decide ((i : Int) ≤ 100000)))) = j1 at g6
    have g8 := Goes.reg (N := 20) (m_r8 base z f s i j1)
    rw [go_step]
    cases hb : fle .f32 (lampC (gr z f) (i : Int)) s with
    | true =>
      rw [hb] at g8
      have c8 := m_c8 z f s (i : Int) (up (up (up j1 20 (vI i)) 21 (vF (lampC (gr z f) i))) 22 (vF s)) true
      have g9 := Goes.condT (E := EG base) (N := 20) (a := .seq m9 .ret) (b := .skip) c8 (Goes.seq (N := 19) (Goes.reg (N := 18) (m_r9 base z f s i _)) (Goes.ret (N := 18)))
      exact .inl ⟨i, _, rfl, (Goes.loopR (N := 25) (Goes.seq (N := 24) g6 (Goes.seqR (N := 23) (Goes.blockR (id := 1) (N := 22) (Goes.seq (N := 21) g8 g9))))).more (by omega)⟩
    | false =>
      rw [hb] at g8
      have c8 := m_c8 z f s (i : Int) (up (up (up j1 20 (vI i)) 21 (vF (lampC (gr z f) i))) 22 (vF s)) false
      have g9 := Goes.condF (E := EG base) (N := 20) (a := .seq m9 .ret) (b := .skip) c8 (Goes.skip (N := 19))
      have g7 := m_r7 base z f s i (up (up (up (up j1 20 (vI i)) 21 (vF (lampC (gr z f) i))) 22 (vF s)) 23 (vB false))
      rw [wrap_in (by omega) (by omega)] at g7
      have gb := Goes.seq (N := 24) g6 (Goes.seq (N := 23) (Goes.block (id := 1) (N := 22) (Goes.seq (N := 21) g8 g9)) (Goes.reg (N := 22) g7))
      rw [cond_false]
      rcases m_loop base z f s n (i + 1) _ (by omega) with ⟨t, j', e, k⟩ | ⟨e, j', k⟩
      · exact .inl ⟨t, j', e, (Goes.loop ((gb).more (show 25 ≤ 30 + n + 1 by omega)) k).more (by omega)⟩
      · exact .inr ⟨e, j', (Goes.loop ((gb).more (show 25 ≤ 30 + n + 1 by omega)) k).more (by omega)⟩
theorem p_loop (base : Nat) (z : Nat → Int) (f : Nat → Nat) (s : Nat) : ∀ (n i : Nat) (j : J), i + n = 100001 →
    (∃ (t : Int) (j' : J), goT s (gr z f) n i = (t, 0) ∧ GO base (30 + n + 1) (.loop pBody) (S 23 (uJ s i j) (HG z f) true) .ret (S 23 (up (up j' 4 (vI t)) 5 (vI 0)) (HG z f) true)) ∨
    (goT s (gr z f) n i = (0, 6) ∧ ∃ j', GO base (30 + n + 1) (.loop pBody) (S 23 (uJ s i j) (HG z f) true) (.exit 0) (S 23 j' (HG z f) true))
  | 0, i, j, h => by
    letI : Frn := iG base
    have hi : i = 100001 := by omega
    subst hi
    refine .inr ⟨go_last _ _ _, ?_⟩
    have hc := (p_c6 z f s ((100001 : Nat) : Int) j (decide (((100001 : Nat) : Int) < 100001))).trans (show vB (decide (((100001 : Nat) : Int) < 100001)) = vB false by rw [decide_eq_false (by omega)])
    exact ⟨_, (Goes.loopX (N := 25) (Goes.seq (N := 24) (Goes.reg (N := 22) (p_r6 base z f s 100001 j) |>.more (by omega)) (Goes.seqX (N := 23) (Goes.condF (E := EG base) (N := 22) hc (Goes.exit (N := 21)))))).more (by omega)⟩
  | n + 1, i, j, h => by
    letI : Frn := iG base
    have hc := (p_c6 z f s (i : Int) j (decide ((i : Int) < 100001))).trans (show vB (decide ((i : Int) < 100001)) = vB true by rw [decide_eq_true (by omega)])
    have g6 := Goes.reg (N := 22) (p_r6 base z f s i j)
    have g6c := Goes.condT (E := EG base) (N := 22) (a := .skip) (b := .exit 0) hc (Goes.skip (N := 21))
    generalize (up j 14 (vB (decide ((i : Int) < 100001)))) = j1 at g6 g6c
    have g7 := Goes.reg (N := 20) (p_r7 base z f s i j1)
    have g8 := Goes.reg (N := 19) (p_r8 base z f s i (up j1 15 (vI i)))
    rw [go_step]
    cases hb : fle .f32 (lampC (gr z f) (i : Int)) s with
    | true =>
      rw [hb] at g8
      have c8 := p_c8 z f s (i : Int) (up (up (up (up (up j1 15 (vI i)) 16 (vG z f)) 17 (vI i)) 18 (vF (lampC (gr z f) i))) 19 (vF s)) true
      have g9 := Goes.condT (E := EG base) (N := 19) (a := .seq p9 .ret) (b := .skip) c8 (Goes.seq (N := 18) (Goes.reg (N := 17) (p_r9 base z f s i _)) (Goes.ret (N := 17)))
      exact .inl ⟨i, _, rfl, (Goes.loopR (N := 27) (Goes.seq (N := 26) (g6.more (by omega)) (Goes.seq (N := 25) (g6c.more (by omega)) (Goes.seqR (N := 24) (Goes.blockR (id := 1) (N := 23) (Goes.seq (N := 22) (g7.more (by omega)) (Goes.seq (N := 21) (g8.more (by omega)) (g9.more (by omega))))))))).more (by omega)⟩
    | false =>
      rw [hb] at g8
      have c8 := p_c8 z f s (i : Int) (up (up (up (up (up j1 15 (vI i)) 16 (vG z f)) 17 (vI i)) 18 (vF (lampC (gr z f) i))) 19 (vF s)) false
      have g9 := Goes.condF (E := EG base) (N := 19) (a := .seq p9 .ret) (b := .skip) c8 (Goes.skip (N := 18))
      have hw : ∀ (j : J), S 23 (wJ s i j) (HG z f) true = S 23 (uJ s i (up j 6 (vI i))) (HG z f) true := fun j => by kernel_rfl
      have g10 := p_r10 base z f s i (up (up (up (up (up (up (up j1 15 (vI i)) 16 (vG z f)) 17 (vI i)) 18 (vF (lampC (gr z f) i))) 19 (vF s)) 20 (vB false)) 6 (vI i))
      rw [← hw, wrap_in (by omega) (by omega)] at g10
      have gb := Goes.seq (N := 26) (g6.more (by omega)) (Goes.seq (N := 25) (g6c.more (by omega)) (Goes.seq (N := 24) (Goes.block (id := 1) (N := 23) (Goes.seq (N := 22) (g7.more (by omega)) (Goes.seq (N := 21) (g8.more (by omega)) (g9.more (by omega))))) (Goes.reg (N := 23) g10)))
      rw [cond_false]
      rcases p_loop base z f s n (i + 1) _ (by omega) with ⟨t, j', e, k⟩ | ⟨e, j', k⟩
      · exact .inl ⟨t, j', e, (Goes.loop ((gb).more (show 27 ≤ 30 + n + 1 by omega)) k).more (by omega)⟩
      · exact .inr ⟨e, j', (Goes.loop ((gb).more (show 27 ≤ 30 + n + 1 by omega)) k).more (by omega)⟩
end Lg
end Go.Proofs.Ytigegnkifeljhaa
end
