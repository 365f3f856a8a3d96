/-
  Lists of samples: program and model tell alike whether they are valid; with it the given statement of FnExactValidSamples. No condition.
-/
import Derived.Test.YtljmhdaphpdkgaaKa
set_option linter.unusedSectionVars false
set_option linter.unusedVariables false
noncomputable section
namespace Go.Proofs.Ytljmhdaphpdkgaa
open Go Go.ChangeShapes Go.WideShapes Go.ChangeAt Go.RowKit Ev
namespace Sm

theorem up_self {j : J} {i : Nat} {p : Value × Bool} (h : j i = p) : up j i p = j := by
  funext m
  unfold up
  cases hb : Nat.beq m i with
  | true => rw [cond_true, Nat.eq_of_beq_eq_true hb, h]
  | false => rfl
theorem S_of {s : St} {n : Nat} (h : s.tmps.length = n) : s = S n (fun m => s.tmps.getD m (undef, false)) s.heap s.ok := by
  unfold S
  have : s.tmps = (List.range n).map fun m => s.tmps.getD m (undef, false) := by
    refine List.ext_getElem? fun i => ?_
    rw [List.getElem?_map]
    by_cases hi : i < n
    · rw [List.getElem?_range hi, Option.map_some, List.getElem?_eq_getElem (by omega), List.getD_eq_getElem?_getD, List.getElem?_eq_getElem (by omega)]
      rfl
    · rw [List.getElem?_eq_none (by omega), List.getElem?_eq_none (by simp; omega)]; rfl
  rw [← this]
theorem reg_see [Frn] {E : Env} {c : Code} {s : St} {n : Nat} {h : Heap} {k : Bool} {sl : List Nat} {vs : List (Value × Bool)} (e : (regionOf E c s).map (see sl) = some (n, h, k, vs)) (hk : k = true) : ∃ j : J, regionOf E c s = some (S n j h true) ∧ sl.map j = vs := by
  obtain ⟨s', hs, e⟩ := Option.map_eq_some_iff.1 e
  unfold see at e
  simp only [Prod.mk.injEq] at e
  obtain ⟨e1, e2, e3, e4⟩ := e
  refine ⟨fun m => s'.tmps.getD m (undef, false), ?_, e4⟩
  exact hs.trans (congrArg some ((S_of e1).trans (by rw [e2, e3, hk])))
/-! ### what is told -/
noncomputable def okI (cs : List Value) (i : Nat) : Bool := inT (tuN cs i) && !(decide (0 < (i : Int)) && decide (tuN cs i < tuN cs ((i - 1 : Nat) : Int)))
noncomputable def allF (cs : List Value) : Nat → Nat → Bool
  | 0, _ => true
  | n + 1, i => okI cs i && allF cs n (i + 1)
noncomputable def vS (cs : List Value) (l : Nat) : Bool := allF cs l 0 && decide ((l : Int) ≤ 64)
theorem tu_B {cs : List Value} {l k : Nat} (hb : rowsB samK l cs = true) (hk : k < l) : tuB cs (k : Int) = true := by
  have h := rowsB_at hb hk
  obtain ⟨z, ys, e, _⟩ := shape_i h
  have e : (cs.drop (k * 17)).take 17 = .int .i64 z :: ys := e
  have : ((cs.drop (k * 17)).take 17)[0]? = some (.int .i64 z) := by rw [e]; rfl
  rw [List.getElem?_take_of_lt (by omega), List.getElem?_drop] at this
  unfold tuB
  rw [Int.toNat_natCast, List.getD_eq_getElem?_getD, this]; rfl
theorem tu_re {cs : List Value} {l k : Nat} (hb : rowsB samK l cs = true) (hk : k < l) : reN (recAt 17 cs k) = tuN cs (k : Int) ∧ reB (recAt 17 cs k) = true := by
  have h := rowsB_at hb hk
  obtain ⟨z, ys, e, _⟩ := shape_i h
  have e : recAt 17 cs k = .int .i64 z :: ys := e
  have e' : (cs.drop (k * 17)).take 17 = .int .i64 z :: ys := e
  have : ((cs.drop (k * 17)).take 17)[0]? = some (.int .i64 z) := by rw [e']; rfl
  rw [List.getElem?_take_of_lt (by omega), List.getElem?_drop] at this
  constructor
  · unfold tuN
    rw [Int.toNat_natCast, List.getD_eq_getElem?_getD, this, e]; rfl
  · rw [e]; rfl
section
variable (ι : Frn) {l : Nat} {cs : List Value}
/-! ### the model -/
theorem m_ok4 (hr : @Frn.row ι 0 = cs) (hb : rowsB samK l cs = true) (hl : l ≤ 9223372036854775807) (c i : Nat) (j : J) (hi : i < l) :
    ∃ j', @regionOf ι (@EA ι) m4 (S 38 (mJ l c i j) [] true) = some (S 38 (mJ l c i (up j' 34 (vB (!(okI cs i))))) [] true) := by
  letI : Frn := ι
  have q := m_r4 ι l c i j
  rw [hr] at q
  have hv : ((!(inT (tuN cs i))) || (decide (0 < (i : Int)) && decide (tuN cs i < tuN cs (IntKind.i64.wrap ((i : Int) - 1))))) = !(okI cs i) := by
    unfold okI
    by_cases h0 : 0 < i
    · rw [show IntKind.i64.wrap ((i : Int) - 1) = ((i - 1 : Nat) : Int) by rw [wrap_in (by omega) (by omega)]; omega]
      cases inT (tuN cs i) <;> cases (decide (0 < (i : Int)) && decide (tuN cs i < tuN cs ((i - 1 : Nat) : Int))) <;> rfl
    · rw [decide_eq_false (show ¬ 0 < (i : Int) by omega)]
      cases inT (tuN cs i) <;> rfl
  have hk : F4 (inT (tuN cs i)) (decide (0 < (i : Int))) (tuB cs i) (tuB cs (IntKind.i64.wrap ((i : Int) - 1))) (inB i l) (inB (IntKind.i64.wrap ((i : Int) - 1)) l) = true := by
    rw [tu_B hb hi, inB_true hi]
    refine F4_true _ _ _ _ ?_
    by_cases h0 : 0 < i
    · rw [show IntKind.i64.wrap ((i : Int) - 1) = ((i - 1 : Nat) : Int) by rw [wrap_in (by omega) (by omega)]; omega, tu_B hb (show i - 1 < l by omega), inB_true (show i - 1 < l by omega)]
      cases (inT (tuN cs i) && decide (0 < (i : Int))) <;> rfl
    · rw [decide_eq_false (show ¬ 0 < (i : Int) by omega), Bool.and_false]; rfl
  rw [hv] at q
  obtain ⟨j', e, v⟩ := reg_see q hk
  simp only [List.map_cons, List.map_nil, List.cons.injEq, and_true] at v
  refine ⟨j', ?_⟩
  have hj : mJ l c i (up j' 34 (vB (!(okI cs i)))) = j' := by
    unfold mJ
    rw [up_self v.2.2, up_self v.1, up_self v.2.1]
  rw [hj]; exact e
theorem m_loop (hr : @Frn.row ι 0 = cs) (hb : rowsB samK l cs = true) (hl : l ≤ 9223372036854775807) (c : Nat) : ∀ (n i : Nat) (j : J), i + n = l →
    (allF cs n i = true ∧ ∃ j', @Goes ι (@EA ι) (60 + n + 1) (.loop mBody) (S 38 (mJ l c i j) [] true) (.exit 0) (S 38 (mJ l c l j') [] true)) ∨
    (allF cs n i = false ∧ ∃ (k : Nat) (j' : J), @Goes ι (@EA ι) (60 + n + 1) (.loop mBody) (S 38 (mJ l c i j) [] true) .ret (S 38 (mJ l c k (up j' 2 (vB false))) [] true))
  | 0, i, j, h => by
    letI : Frn := ι
    have hi : i = l := by omega
    subst hi
    have g2 := Goes.reg (N := 20) (m_r2 ι i c i j)
    have c2 := (m_x2 i c i (up (up (up j 4 (vI i)) 5 (tok 0 i c, true)) 6 (vI i)) (decide ((i : Int) < (i : Int)))).trans (show vB (decide ((i : Int) < (i : Int))) = vB false by rw [decide_eq_false (by omega)])
    have g2c := Goes.condF (E := EA) (N := 20) (a := .skip) (b := .exit 0) c2 (Goes.exit (N := 19))
    exact .inl ⟨rfl, _, (Goes.loopX (N := 35) (Goes.seqX (N := 30) (Goes.seq (N := 25) (g2.more (by omega)) (g2c.more (by omega)) |>.more (by omega)) |>.more (by omega))).more (by omega)⟩
  | n + 1, i, j, h => by
    letI : Frn := ι
    have hi : i < l := by omega
    have g2 := Goes.reg (N := 20) (m_r2 ι l c i j)
    have c2 := (m_x2 l c i (up (up (up j 4 (vI i)) 5 (tok 0 l c, true)) 6 (vI l)) (decide ((i : Int) < (l : Int)))).trans (show vB (decide ((i : Int) < (l : Int))) = vB true by rw [decide_eq_true (by omega)])
    have g2c := Goes.condT (E := EA) (N := 20) (a := .skip) (b := .exit 0) c2 (Goes.skip (N := 19))
    generalize (up (up (up (up j 4 (vI i)) 5 (tok 0 l c, true)) 6 (vI l)) 7 (vB (decide ((i : Int) < (l : Int))))) = ja at g2 g2c
    obtain ⟨j4, e4⟩ := m_ok4 ι hr hb hl c i ja hi
    have g4 := Goes.reg (N := 20) e4
    rw [allF]
    cases hk : okI cs i with
    | false =>
      rw [hk] at g4
      have g4c := Goes.condT (E := EA) (N := 24) (a := .seq (sa (ca m4c)) .ret) (b := .skip) (m_x4 l c i j4 true) (Goes.seq (N := 23) (Goes.reg (N := 20) (m_r5 ι l c i (up j4 34 (vB true))) |>.more (by omega)) (Goes.ret (N := 20) |>.more (by omega)))
      exact .inr ⟨rfl, i, _, (Goes.loopR (N := 50) (Goes.seq (N := 45) (Goes.seq (N := 25) (g2.more (by omega)) (g2c.more (by omega)) |>.more (by omega)) (Goes.seqR (N := 40) (Goes.blockR (N := 35) (Goes.seq (N := 30) (g4.more (by omega)) (g4c.more (by omega)) |>.more (by omega)) |>.more (by omega)) |>.more (by omega)) |>.more (by omega))).more (by omega)⟩
    | true =>
      rw [hk] at g4
      have g4c := Goes.condF (E := EA) (N := 24) (a := .seq (sa (ca m4c)) .ret) (b := .skip) (m_x4 l c i j4 false) (Goes.skip (N := 20) |>.more (by omega))
      have e3 := m_r3 ι l c i (up j4 34 (vB false))
      rw [wrap_in (by omega) (by omega)] at e3
      have g3 := Goes.reg (N := 20) e3
      have gb := Goes.seq (N := 45) (Goes.seq (N := 25) (g2.more (by omega)) (g2c.more (by omega)) |>.more (by omega)) (Goes.seq (N := 40) (Goes.block (id := 1) (N := 35) (Goes.seq (N := 30) (g4.more (by omega)) (g4c.more (by omega)) |>.more (by omega)) |>.more (by omega)) (g3.more (by omega)) |>.more (by omega))
      rw [Bool.true_and]
      rcases m_loop hr hb hl c n (i + 1) _ (by omega) with ⟨e, j', k⟩ | ⟨e, k', j', k⟩
      · exact .inl ⟨e, j', (Goes.loop (gb.more (show 46 ≤ 60 + n + 1 by omega)) k).more (by omega)⟩
      · exact .inr ⟨e, k', j', (Goes.loop (gb.more (show 46 ≤ 60 + n + 1 by omega)) k).more (by omega)⟩
theorem m_goes (hr : @Frn.row ι 0 = cs) (hb : rowsB samK l cs = true) (hl : l ≤ 9223372036854775807) (c : Nat) : ∃ N s', @Goes ι (@EA ι) N mC (startS Try.f24 [tok 0 l c] []) .ret s' ∧
    @finK ι Try.prog Try.f24 .ret s' = some (.bool (vS cs l), [], true) := by
  letI : Frn := ι
  rw [m_start, m_shape]
  have g0 := Goes.reg (N := 20) (m_r0 ι l c j0)
  have g1 := Goes.reg (N := 20) (m_r1 ι l c (up j0 2 (vB false)))
  unfold vS
  rcases m_loop ι hr hb hl c l 0 (up j0 2 (vB false)) (by omega) with ⟨e, j', k⟩ | ⟨e, k', j', k⟩
  · rw [e, Bool.true_and]
    have g6 := Goes.reg (N := 20) (m_r6 ι l c l j')
    exact ⟨_, _, Goes.seq (N := l + 200) (g0.more (by omega)) (Goes.seq (N := l + 190) (Goes.seq (N := l + 180) (g1.more (by omega)) ((Goes.blockX k).more (by omega)) |>.more (by omega)) (Goes.seq (N := l + 180) (g6.more (by omega)) (Goes.ret (N := 20) |>.more (by omega)) |>.more (by omega)) |>.more (by omega)), m_end ι l c l _ _⟩
  · rw [e, Bool.false_and]
    exact ⟨_, _, Goes.seq (N := l + 200) (g0.more (by omega)) (Goes.seqR (N := l + 190) (Goes.seq (N := l + 180) (g1.more (by omega)) ((Goes.blockR k).more (by omega)) |>.more (by omega)) |>.more (by omega)), m_end ι l c k' _ _⟩
end
end Sm
end Go.Proofs.Ytljmhdaphpdkgaa
end
