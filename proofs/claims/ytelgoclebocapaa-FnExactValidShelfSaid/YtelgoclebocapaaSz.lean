/-
  The symbolic executor goes on: the cells of what came in as variables ('svs_conc'). No condition; nothing of one program stands here.
-/
import Derived.Test.YtelgoclebocapaaSy
import Derived.Test.YtelgoclebocapaaEt
set_option linter.unusedSectionVars false
noncomputable section
namespace Sx
open Go Ev Go.RowKit

/-! ### cells as variables -/
def zOf : Value → Int
  | .float _ b => (b : Nat)
  | .int _ z => z
  | .string s => encS s
  | _ => 0
def rhoV (vs : List Value) (j : Nat) : Int := zOf (vs.getD j undef)
/-- cells of these kinds, from variable 'j' on; narrow numbers are wrapped, from node 'w' on -/
def svsK : List CK → Nat → Nat → List SV
  | [], _, _ => []
  | .s :: r, j, w => .s (j + 2) :: svsK r (j + 1) w
  | .f k :: r, j, w => .f k (j + 2) :: svsK r (j + 1) w
  | .i .i64 :: r, j, w => .n .i64 (j + 2) :: svsK r (j + 1) w
  | .i k :: r, j, w => .n k w :: svsK r (j + 1) (w + 1)
  | .b :: r, j, w => .lit (.bool false) :: svsK r (j + 1) w
def wsK : List CK → Nat → List (IntKind × Nat)
  | [], _ => []
  | .s :: r, j => wsK r (j + 1)
  | .f _ :: r, j => wsK r (j + 1)
  | .i .i64 :: r, j => wsK r (j + 1)
  | .i k :: r, j => (k, j) :: wsK r (j + 1)
  | .b :: r, j => wsK r (j + 1)
def noB : List CK → Bool
  | [] => true
  | .b :: _ => false
  | _ :: r => noB r
def wrC : Value → Bool
  | .int k z => decide (k.wrap z = z)
  | _ => true
theorem gW_low {ρ : Nat → Int} {m : Nat} {ws : List (IntKind × Nat)} {j : Nat} (h : j < m) : gW ρ m ws (j + 2) = .i (ρ j) := by
  unfold gW gOf
  rw [if_pos (by omega), if_neg (by omega)]
  rfl
theorem gW_high {ρ : Nat → Int} {m : Nat} {ws pre post : List (IntKind × Nat)} {k : IntKind} {j w : Nat} (h : ws = pre ++ (k, j) :: post) (hw : w = m + 2 + pre.length) : gW ρ m ws w = .i (k.wrap (ρ j)) := by
  subst h hw
  unfold gW
  rw [if_neg (by omega), show m + 2 + pre.length - (m + 2) = pre.length by omega, List.getElem?_append_right (Nat.le_refl _), Nat.sub_self]
  rfl
theorem svs_conc {ρ : Nat → Int} {m : Nat} {ws : List (IntKind × Nat)} : ∀ {ks : List CK} {vs : List Value} {j w : Nat} {pre post : List (IntKind × Nat)}, noB ks = true → shapeB ks vs = true → vs.all wrC = true →
    (∀ i v, vs[i]? = some v → ρ (j + i) = zOf v) → j + ks.length ≤ m → ws = pre ++ (wsK ks j ++ post) → w = m + 2 + pre.length → (svsK ks j w).map (conc (gW ρ m ws)) = vs
  | [], [], _, _, _, _, _, _, _, _, _, _, _ => rfl
  | c :: r, v :: s, j, w, pre, post, hn, hs, hv, hr, hj, hws, hw => by
    rw [shapeB, Bool.and_eq_true] at hs
    rw [List.all_cons, Bool.and_eq_true] at hv
    rw [List.length_cons] at hj
    have hr0 : ρ j = zOf v := hr 0 v rfl
    have hr1 : ∀ i u, s[i]? = some u → ρ (j + 1 + i) = zOf u := fun i u hu => by
      have := hr (i + 1) u (by rw [List.getElem?_cons_succ]; exact hu)
      rwa [show j + (i + 1) = j + 1 + i by omega] at this
    cases c with
    | b => cases hn
    | s =>
      cases v with
      | string x =>
        show conc (gW ρ m ws) (.s (j + 2)) :: (svsK r (j + 1) w).map (conc (gW ρ m ws)) = _
        rw [svs_conc (ks := r) hn hs.2 hv.2 hr1 (by omega) hws hw]
        simp only [conc]
        rw [gW_low (by omega), hr0]
        show Value.string (strOf (encS x)) :: s = _
        rw [strOf_enc]
      | _ => cases hs.1
    | f k =>
      cases v with
      | float k' x =>
        show conc (gW ρ m ws) (.f k (j + 2)) :: (svsK r (j + 1) w).map (conc (gW ρ m ws)) = _
        rw [svs_conc (ks := r) hn hs.2 hv.2 hr1 (by omega) hws hw]
        simp only [conc]
        rw [gW_low (by omega), hr0, Ev.sameK_eq hs.1]
        rfl
      | _ => cases hs.1
    | i k =>
      cases v with
      | int k' x =>
        have hk : k = k' := of_decide_eq_true hs.1
        subst hk
        by_cases hq : k = .i64
        · subst hq
          show conc (gW ρ m ws) (.n .i64 (j + 2)) :: (svsK r (j + 1) w).map (conc (gW ρ m ws)) = _
          rw [svs_conc (ks := r) hn hs.2 hv.2 hr1 (by omega) hws hw]
          simp only [conc]
          rw [gW_low (by omega), hr0]
          rfl
        · have e1 : svsK (.i k :: r) j w = .n k w :: svsK r (j + 1) (w + 1) := by cases k <;> first | rfl | exact absurd rfl hq
          have e2 : wsK (.i k :: r) j = (k, j) :: wsK r (j + 1) := by cases k <;> first | rfl | exact absurd rfl hq
          rw [e2] at hws
          rw [e1, List.map_cons]
          have hx : k.wrap x = x := of_decide_eq_true hv.1
          rw [svs_conc (ks := r) (pre := pre ++ [(k, j)]) (post := post) hn hs.2 hv.2 hr1 (by omega) (by rw [hws]; simp) (by rw [hw]; simp; omega)]
          simp only [conc]
          rw [gW_high hws hw, hr0]
          show Value.int k (k.wrap x) :: s = _
          rw [hx]
      | _ => cases hs.1
  | [], _ :: _, _, _, _, _, _, hs, _, _, _, _, _ => by cases hs
  | _ :: _, [], _, _, _, _, _, hs, _, _, _, _, _ => by cases hs
theorem rho_part {A vs B : List Value} {j : Nat} (h : A.length = j) : ∀ i v, vs[i]? = some v → rhoV (A ++ (vs ++ B)) (j + i) = zOf v := fun i v hv => by
  unfold rhoV
  have hi : i < vs.length := (List.getElem?_eq_some_iff.1 hv).1
  rw [List.getD_eq_getElem?_getD, List.getElem?_append_right (by omega), show j + i - A.length = i by omega, List.getElem?_append_left hi, hv, Option.getD_some]
end Sx
end
