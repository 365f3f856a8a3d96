/-
  The symbolic executor goes on: the cells of what came in as variables ('svs_conc'). No condition; nothing of one program stands here.
-/
import Derived.Test.YtobajdokfkimdaaSy
import Derived.Test.YtobajdokfkimdaaEt
set_option linter.unusedSectionVars false
noncomputable section
namespace Sx
open Go Ev Go.RowKit

/-! ### cells as variables -/
def zOf : Value → Int
  | .float _ b => (b : Nat)
  | .int _ z => z
  | .string s => encS s
  | _ => 0
def rhoV (vs : List Value) (j : Nat) : Int := zOf (vs.getD j undef)
/-- cells of these kinds, from variable 'j' on; narrow numbers are wrapped, from node 'w' on -/
def svsK : List CK → Nat → Nat → List SV
  | [], _, _ => []
  | .s :: r, j, w => .s (j + 2) :: svsK r (j + 1) w
  | .f k :: r, j, w => .f k (j + 2) :: svsK r (j + 1) w
  | .i .i64 :: r, j, w => .n .i64 (j + 2) :: svsK r (j + 1) w
  | .i k :: r, j, w => .n k w :: svsK r (j + 1) (w + 1)
  | .b :: r, j, w => .lit (.bool false) :: svsK r (j + 1) w
def wsK : List CK → Nat → List (IntKind × Nat)
  | [], _ => []
  | .s :: r, j => wsK r (j + 1)
  | .f _ :: r, j => wsK r (j + 1)
  | .i .i64 :: r, j => wsK r (j + 1)
  | .i k :: r, j => (k, j) :: wsK r (j + 1)
  | .b :: r, j => wsK r (j + 1)
def noB : List CK → Bool
  | [] => true
  | .b :: _ => false
  | _ :: r => noB r
def wrC : Value → Bool
  | .int k z => decide (k.wrap z = z)
  | _ => true
theorem gW_low {ρ : Nat → Int} {m : Nat} {ws : List (IntKind × Nat)} {j : Nat} (h : j < m) : gW ρ m ws (j + 2) = .i (ρ j) := by
  unfold gW gOf
  rw [if_pos (by omega), if_neg (by omega)]
  rfl
theorem gW_high {ρ : Nat → Int} {m : Nat} {ws pre post : List (IntKind × Nat)} {k : IntKind} {j w : Nat} (h : ws = pre ++ (k, j) :: post) (hw : w = m + 2 + pre.length) : gW ρ m ws w = .i (k.wrap (ρ j)) := by
  subst h hw
  unfold gW
  rw [if_neg (by omega), show m + 2 + pre.length - (m + 2) = pre.length by omega, List.getElem?_append_right (Nat.le_refl _), Nat.sub_self]
  rfl
theorem svs_conc {ρ : Nat → Int} {m : Nat} {ws : List (IntKind × Nat)} : ∀ {ks : List CK} {vs : List Value} {j w : Nat} {pre post : List (IntKind × Nat)}, noB ks = true → shapeB ks vs = true → vs.all wrC = true →
    (∀ i v, vs[i]? = some v → ρ (j + i) = zOf v) → j + ks.length ≤ m → ws = pre ++ (wsK ks j ++ post) → w = m + 2 + pre.length → (svsK ks j w).map (conc (gW ρ m ws)) = vs
  | [], [], _, _, _, _, _, _, _, _, _, _, _ => rfl
  | c :: r, v :: s, j, w, pre, post, hn, hs, hv, hr, hj, hws, hw => by
    rw [shapeB, Bool.and_eq_true] at hs
    rw [List.all_cons, Bool.and_eq_true] at hv
    rw [List.length_cons] at hj
    have hr0 : ρ j = zOf v := hr 0 v rfl
    have hr1 : ∀ i u, s[i]? = some u → ρ (j + 1 + i) = zOf u := fun i u hu => by
      have := hr (i + 1) u (by rw [List.getElem?_cons_succ]; exact hu)
      rwa [show j + (i + 1) = j + 1 + i by omega] at this
    cases c with
    | b => cases hn
    | s =>
      cases v with
      | string x =>
        show conc (gW ρ m ws) (.s (j + 2)) :: (svsK r (j + 1) w).map (conc (gW ρ m ws)) = _
        rw [svs_conc (ks := r) hn hs.2 hv.2 hr1 (by omega) hws hw]
        simp only [conc]
        rw [gW_low (by omega), hr0]
        show Value.string (strOf (encS x)) :: s = _
        rw [strOf_enc]
      | _ => cases hs.1
    | f k =>
      cases v with
      | float k' x =>
        show conc (gW ρ m ws) (.f k (j + 2)) :: (svsK r (j + 1) w).map (conc (gW ρ m ws)) = _
        rw [svs_conc (ks := r) hn hs.2 hv.2 hr1 (by omega) hws hw]
        simp only [conc]
        rw [gW_low (by omega), hr0, Ev.sameK_eq hs.1]
        rfl
      | _ => cases hs.1
    | i k =>
      cases v with
      | int k' x =>
        have hk : k = k' := of_decide_eq_true hs.1
        subst hk
        by_cases hq : k = .i64
        · subst hq
          show conc (gW ρ m ws) (.n .i64 (j + 2)) :: (svsK r (j + 1) w).map (conc (gW ρ m ws)) = _
          rw [svs_conc (ks := r) hn hs.2 hv.2 hr1 (by omega) hws hw]
          simp only [conc]
          rw [gW_low (by omega), hr0]
          rfl
        · have e1 : svsK (.i k :: r) j w = .n k w :: svsK r (j + 1) (w + 1) := by cases k <;> first | rfl | exact absurd rfl hq
          have e2 : wsK (.i k :: r) j = (k, j) :: wsK r (j + 1) := by cases k <;> first | rfl | exact absurd rfl hq
          rw [e2] at hws
          rw [e1, List.map_cons]
          have hx : k.wrap x = x := of_decide_eq_true hv.1
          rw [svs_conc (ks := r) (pre := pre ++ [(k, j)]) (post := post) hn hs.2 hv.2 hr1 (by omega) (by rw [hws]; simp) (by rw [hw]; simp; omega)]
          simp only [conc]
          rw [gW_high hws hw, hr0]
          show Value.int k (k.wrap x) :: s = _
          rw [hx]
      | _ => cases hs.1
  | [], _ :: _, _, _, _, _, _, hs, _, _, _, _, _ => by cases hs
  | _ :: _, [], _, _, _, _, _, hs, _, _, _, _, _ => by cases hs
theorem rho_part {A vs B : List Value} {j : Nat} (h : A.length = j) : ∀ i v, vs[i]? = some v → rhoV (A ++ (vs ++ B)) (j + i) = zOf v := fun i v hv => by
  unfold rhoV
  have hi : i < vs.length := (List.getElem?_eq_some_iff.1 hv).1
  rw [List.getD_eq_getElem?_getD, List.getElem?_append_right (by omega), show j + i - A.length = i by omega, List.getElem?_append_left hi, hv, Option.getD_some]

/-! ### arguments as variables -/
/-- an argument: a row of cells, or one value -/
inductive AK where
  | row (ks : List CK)
  | one (k : CK)
def AK.ks : AK → List CK
  | .row ks => ks
  | .one k => [k]
def argsK : List AK → List CK
  | [] => []
  | a :: r => a.ks ++ argsK r
def AK.sv (a : AK) (j w : Nat) : SV :=
  match a with
  | .row ks => .agg (svsK ks j w)
  | .one k => (svsK [k] j w).headD (.lit undef)
def argsS : List AK → Nat → Nat → List SV
  | [], _, _ => []
  | a :: r, j, w => a.sv j w :: argsS r (j + a.ks.length) (w + (wsK a.ks j).length)
def cellsV : Value → List Value
  | .agg cs => cs.toList
  | v => [v]
def flatV : List Value → List Value
  | [] => []
  | v :: r => cellsV v ++ flatV r
def AK.fit (a : AK) (v : Value) : Bool :=
  match a, v with
  | .row ks, .agg cs => noB ks && (shapeB ks cs.toList && cs.toList.all wrC)
  | .one k, v => noB [k] && (shapeB [k] [v] && [v].all wrC)
  | _, _ => false
def fitK : List AK → List Value → Bool
  | [], [] => true
  | a :: r, v :: s => a.fit v && fitK r s
  | _, _ => false
theorem wsK_append : ∀ (a b : List CK) (j : Nat), wsK (a ++ b) j = wsK a j ++ wsK b (j + a.length)
  | [], b, j => rfl
  | c :: a, b, j => by
    have h := wsK_append a b (j + 1)
    rw [show j + 1 + a.length = j + (c :: a).length by rw [List.length_cons]; omega] at h
    cases c with
    | s => exact h
    | f k => exact h
    | b => exact h
    | i k => cases k <;> first | exact h | exact congrArg (_ :: ·) h
theorem AK.fit_row {a : AK} {v : Value} (h : a.fit v = true) : noB a.ks = true ∧ shapeB a.ks (cellsV v) = true ∧ (cellsV v).all wrC = true := by
  cases a with
  | row ks =>
    cases v with
    | agg cs =>
      have h : (noB ks && (shapeB ks cs.toList && cs.toList.all wrC)) = true := h
      rw [Bool.and_eq_true, Bool.and_eq_true] at h
      exact h
    | _ => cases h
  | one k =>
    have h : (noB [k] && (shapeB [k] [v] && [v].all wrC)) = true := by
      cases v <;> exact h
    rw [Bool.and_eq_true, Bool.and_eq_true] at h
    have : cellsV v = [v] := by
      cases v with
      | agg cs =>
        have h2 := h.2.1
        cases k <;> cases h2
      | _ => rfl
    rw [this]
    exact h
theorem AK.sv_conc {a : AK} {v : Value} {g : Nat → Vl} {j w : Nat} (h : a.fit v = true) (hs : (svsK a.ks j w).map (conc g) = cellsV v) : conc g (a.sv j w) = v := by
  cases a with
  | row ks =>
    cases v with
    | agg cs =>
      show conc g (.agg (svsK ks j w)) = _
      simp only [conc, concL_map]
      have hs : (svsK ks j w).map (conc g) = cs.toList := hs
      rw [hs]
    | _ => cases h
  | one k =>
    have : cellsV v = [v] := by
      cases v with
      | agg cs =>
        exfalso
        have h : (noB [k] && (shapeB [k] [.agg cs] && _)) = true := h
        rw [Bool.and_eq_true, Bool.and_eq_true] at h
        have h2 := h.2.1
        cases k <;> cases h2
      | _ => rfl
    rw [this] at hs
    have hs : (svsK [k] j w).map (conc g) = [v] := hs
    show conc g ((svsK [k] j w).headD (.lit undef)) = v
    generalize svsK [k] j w = q at hs
    match q, hs with
    | [x], hs =>
      simp only [List.map_cons, List.map_nil, List.cons.injEq, and_true] at hs
      exact hs
theorem args_conc {ρ : Nat → Int} {m : Nat} {ws : List (IntKind × Nat)} : ∀ {as : List AK} {xs : List Value} {j w : Nat} {pre post : List (IntKind × Nat)}, fitK as xs = true →
    (∀ i v, (flatV xs)[i]? = some v → ρ (j + i) = zOf v) → j + (argsK as).length ≤ m → ws = pre ++ (wsK (argsK as) j ++ post) → w = m + 2 + pre.length → (argsS as j w).map (conc (gW ρ m ws)) = xs
  | [], [], _, _, _, _, _, _, _, _, _ => rfl
  | a :: r, v :: s, j, w, pre, post, h, hr, hj, hws, hw => by
    rw [fitK, Bool.and_eq_true] at h
    obtain ⟨n1, n2, n3⟩ := AK.fit_row h.1
    have hl : (cellsV v).length = a.ks.length := shape_len n2
    have hj' : j + (a.ks.length + (argsK r).length) ≤ m := by
      have : (argsK (a :: r)).length = a.ks.length + (argsK r).length := List.length_append
      omega
    have e1 : wsK (argsK (a :: r)) j = wsK a.ks j ++ wsK (argsK r) (j + a.ks.length) := wsK_append _ _ _
    rw [e1] at hws
    have h1 := svs_conc (ρ := ρ) (m := m) (ws := ws) (ks := a.ks) (vs := cellsV v) (j := j) (w := w) (pre := pre) (post := wsK (argsK r) (j + a.ks.length) ++ post) n1 n2 n3 (fun i u hu => hr i u (by
      show (cellsV v ++ flatV s)[i]? = some u
      rw [List.getElem?_append_left (List.getElem?_eq_some_iff.1 hu).1]; exact hu)) (by omega) (by rw [hws]; simp) hw
    have h2 := args_conc (ρ := ρ) (m := m) (ws := ws) (as := r) (xs := s) (j := j + a.ks.length) (w := w + (wsK a.ks j).length) (pre := pre ++ wsK a.ks j) (post := post) h.2 (fun i u hu => by
      have := hr (a.ks.length + i) u (by
        show (cellsV v ++ flatV s)[_]? = some u
        rw [List.getElem?_append_right (by omega), hl, Nat.add_sub_cancel_left]; exact hu)
      rwa [← Nat.add_assoc] at this) (by omega) (by rw [hws]; simp) (by rw [hw, List.length_append]; omega)
    show conc _ (a.sv j w) :: (argsS r _ _).map _ = _
    rw [h2, AK.sv_conc h.1 h1]
  | [], _ :: _, _, _, _, _, h, _, _, _, _ => by cases h
  | _ :: _, [], _, _, _, _, h, _, _, _, _ => by cases h
end Sx
end
