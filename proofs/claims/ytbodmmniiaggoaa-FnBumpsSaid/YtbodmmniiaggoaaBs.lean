/-
  Contracts of 'Bump', of the program and of its model, where the place and the width are such as a bump may have, and of 'SameCurve' at one and the same curve. No condition.
-/
import Derived.Test.YtbodmmniiaggoaaCb
import Derived.Test.YtbodmmniiaggoaaEt
import Derived.WalkSpells
import Derived.WalkLawsBesides
namespace Go.Proofs.Ytbodmmniiaggoaa
open Go.ChangeShapes Go.WideShapes Go.ChangeAt Go.RowKit Ev

theorem two_args {μ : Nat → Option Nat} {x y : Value} {cargs : List Value} (h : VRL μ [x, y] cargs) : ∃ a b, cargs = [a, b] ∧ VR μ x a ∧ VR μ y b := by
  match cargs, h with
  | [a, b], h => exact ⟨a, b, rfl, h.head, h.tail.head⟩
  | [], h => exact absurd h.1 (by simp)
  | [_], h => exact absurd h.1 (by simp)
  | _ :: _ :: _ :: _, h => exact absurd h.1 (by simp)
set_option maxHeartbeats 400000 in
theorem abs_walk (x : Nat) (w : World) : Calls Try.prog 28 #[.float .f64 x] w fun e w' => e = .returned (.float .f64 (fabsR x)) ∧ w' = w := by
  have h1 : ∀ x w, (callFunc 33 #[.float .f64 x]).run Try.prog w = .ok (.value (.int .u64 (x : Nat))) w := fun x w => ext_run isF64bits rfl
  have h2 : ∀ (n : Int) w, (callFunc 32 #[.int .u64 n]).run Try.prog w = .ok (.value (.float .f64 n.toNat)) w := fun n w => ext_run isF64from rfl
  go_enter Try.func28, Try.ntmps28
  go_wp2
  go_ret
  exact ⟨rfl, rfl⟩
def absO : Sig
  | [.float .f64 a] => some (.float .f64 (fabs a), true)
  | _ => none
theorem abs_one : OrcOne Try.prog 28 absO := by
  refine ⟨by kernel_rfl, fun args v k he hk μ cargs w hx _ => ?_⟩
  unfold absO at he
  split at he
  · simp only [Option.some.injEq, Prod.mk.injEq] at he
    obtain ⟨rfl, rfl⟩ := he
    obtain ⟨y, rfl, hy⟩ := one_arg hx
    obtain ⟨x, rfl, rfl⟩ := hy.float_inv
    refine (abs_walk x w).mono fun e w' ⟨h1, h2⟩ => ?_
    subst h1; subst h2
    exact ⟨_, rfl, .float _ _ _ (fabs_cn x).symm, Below.refl _ _⟩
  · cases he

def finO : Sig
  | [.float .f32 a] => some (.bool (finB a), true)
  | _ => none
theorem fin_eval (a : Nat) : ∃ h', funD Try.prog ext (orcOf [(28, absO)]) [14] 100 5 14 [.float .f32 a] [] = some (.bool (finB a), h', true) := by
  rw [← fin_impl]
  refine of_map ?_
  kernel_rfl
theorem fin2_eval (a : Nat) : ∃ h', funD Try.prog ext (orcOf []) [18] 100 5 18 [.float .f32 a] [] = some (.bool (finB a), h', true) := by
  rw [← fin_model]
  refine of_map ?_
  kernel_rfl
theorem fin_one : OrcOne Try.prog 14 finO := by
  refine orc_one (us := [14]) (cf := 100) (d := 5) mixed (by kernel_rfl) extsOk (l0 := [(28, absO)]) (all_cons abs_one all_nil) (by kernel_rfl) fun args v k he hk hx => ?_
  unfold finO at he
  split at he
  · simp only [Option.some.injEq, Prod.mk.injEq] at he
    obtain ⟨rfl, rfl⟩ := he
    exact ⟨rfl, rfl, fin_eval _⟩
  · cases he
theorem fin2_one : OrcOne Try.prog 18 finO := by
  refine orc_one (us := [18]) (cf := 100) (d := 5) mixed (by kernel_rfl) extsOk (l0 := []) all_nil (by kernel_rfl) fun args v k he hk hx => ?_
  unfold finO at he
  split at he
  · simp only [Option.some.injEq, Prod.mk.injEq] at he
    obtain ⟨rfl, rfl⟩ := he
    exact ⟨rfl, rfl, fin2_eval _⟩
  · cases he
def orcF : List (Nat × Sig) := [(14, finO), (18, finO)]
theorem orcFOk : ∀ p ∈ orcF, OrcOne Try.prog p.1 p.2 := all_cons fin_one (all_cons fin2_one all_nil)

/-- the flags of '.. || ..', as the evaluator lays them -/
def gN (c : Bool) : Bool := (true && (c == false)) && true
def clN (c : Bool) : Bool := ((gN c && true) && true) || !(true && (c == false))
def ntN (c : Bool) : Bool := gN c || !(true && (c == false))
def lqN (c : Bool) : Bool := (gN c && true) || !(true && (c == false))
def pkN (c : Bool) : Bool := true && ((bif c then true else gN c) && true)
def orC (p w : Nat) : Bool := bif !(finB p) then true else !(finB w)
def flI (c d : Bool) : Bool := pkN d && (lqN d && (pkN c && (ntN c && (clN c && true))))
def flM (c d : Bool) : Bool := pkN d && (ntN d && (lqN d && (pkN c && (ntN c && (clN c && true)))))
theorem flI_true (c d : Bool) : flI c d = true := by cases c <;> cases d <;> rfl
theorem flM_true (c d : Bool) : flM c d = true := by cases c <;> cases d <;> rfl

def bumpN (p w : Nat) : List Nat := [0, 1065353216, 1073741824, 1077936128, 1082130432, 1084227584, 1086324736, 1088421888, 1090519040, 1091567616, 1092616192, 1093664768, 1094713344, 1095761920, 1096810496, 1097859072].map fun i => fdiv .f32 1065353216 (fmul .f32 (fadd .f32 1065353216 (fmul .f32 (fdiv .f32 (fsub .f32 i p) w) (fdiv .f32 (fsub .f32 i p) w))) (fadd .f32 1065353216 (fmul .f32 (fdiv .f32 (fsub .f32 i p) w) (fdiv .f32 (fsub .f32 i p) w))))
def bumpT (p w : Nat) : Bool → Value
  | true => .tuple #[.agg (fl .f32 (bumpN p w)).toArray, .int .i64 0]
  | false => .tuple #[.agg (fl .f32 [0, 0, 0, 0, 0, 0, 0, 0, 0, 0, 0, 0, 0, 0, 0, 0]).toArray, .int .i64 2]
theorem bump_plain (p w : Nat) (b : Bool) : plainB (bumpT p w b) = true := by cases b <;> rfl
/-- out of range, as the program says it -/
def outB (p w : Nat) : Bool := bif orC p w then true else fle .f32 w 0
theorem out_model (p w : Nat) : (bif orC p w then true else !(fgt .f32 w 0)) = outB p w := by
  unfold outB
  cases hc : orC p w with
  | true => rfl
  | false =>
    have hw : finB w = true := by
      unfold orC at hc
      revert hc
      cases finB p <;> cases finB w <;> simp
    simp only [cond_false]
    unfold fle fgt Ieee.Format.order
    unfold finB at hw
    split at hw
    · rename_i g m e h
      rw [show FloatKind.f32.format.read w = .number g m e from h, show FloatKind.f32.format.read 0 = .number false 0 (-149) by decide +kernel]
      simp only [Ieee.Datum.order]
      generalize compare (α := Int) _ _ = o
      cases o <;> rfl
    · cases hw
def bumpO (b : Bool) : Sig
  | [.float .f32 p, .float .f32 w] => some (bumpT p w b, (!(outB p w)) == b)
  | _ => none
theorem bump_eval (p w : Nat) (b : Bool) (hb : (!(outB p w)) = b) : ∃ h', funD Try.prog ext (orcOf orcF) [6, 16, 17, 15] 100 6 6 [.float .f32 p, .float .f32 w] [] = some (bumpT p w b, h', true) := by
  refine of_funM (by kernel_rfl) (by kernel_rfl) ?_
  refine Eq.trans (b := bif outB p w then some (bumpT p w false, [], flI (!(finB p)) (orC p w)) else some (bumpT p w true, [], flI (!(finB p)) (orC p w))) (by kernel_rfl) ?_
  rw [flI_true, ← hb]
  cases outB p w <;> rfl
theorem bump2_eval (p w : Nat) (b : Bool) (hb : (!(outB p w)) = b) : ∃ h', funD Try.prog ext (orcOf orcF) [7, 19] 100 6 7 [.float .f32 p, .float .f32 w] [] = some (bumpT p w b, h', true) := by
  refine of_funM (by kernel_rfl) (by kernel_rfl) ?_
  refine Eq.trans (b := bif (bif orC p w then true else !(fgt .f32 w 0)) then some (bumpT p w false, [], flM (!(finB p)) (orC p w)) else some (bumpT p w true, [], flM (!(finB p)) (orC p w))) (by kernel_rfl) ?_
  rw [flM_true, out_model, ← hb]
  cases outB p w <;> rfl
theorem beq_bool {c b : Bool} (h : (c == b) = true) : c = b := by cases c <;> cases b <;> simp_all
theorem bump_one (b : Bool) : OrcOne Try.prog 6 (bumpO b) := by
  refine orc_one (us := [6, 16, 17, 15]) (cf := 100) (d := 6) mixed (by kernel_rfl) extsOk orcFOk (by kernel_rfl) fun args v k he hk hx => ?_
  unfold bumpO at he
  split at he
  · simp only [Option.some.injEq, Prod.mk.injEq] at he
    obtain ⟨rfl, rfl⟩ := he
    exact ⟨rfl, bump_plain _ _ _, bump_eval _ _ _ (beq_bool hk)⟩
  · cases he
theorem bump2_one (b : Bool) : OrcOne Try.prog 7 (bumpO b) := by
  refine orc_one (us := [7, 19]) (cf := 100) (d := 6) mixed (by kernel_rfl) extsOk orcFOk (by kernel_rfl) fun args v k he hk hx => ?_
  unfold bumpO at he
  split at he
  · simp only [Option.some.injEq, Prod.mk.injEq] at he
    obtain ⟨rfl, rfl⟩ := he
    exact ⟨rfl, bump_plain _ _ _, bump2_eval _ _ _ (beq_bool hk)⟩
  · cases he
theorem fne_isN {k : FloatKind} {a : Nat} (h : cn k a = a) : fne k a a = isN k a := by
  cases hn : isN k a with
  | false => exact fne_self hn
  | true =>
    rw [cn_of_N hn] at h
    subst h
    cases k <;> decide +kernel
def ib (a b : Nat) : Bool := decide ((a : Int) = (b : Int))
theorem ib_ne {a b : Nat} (h : a ≠ b) : ib a b = false := decide_eq_false fun e => h (Int.ofNat.inj e)
theorem ib_self (a : Nat) : ib a a = true := decide_eq_true rfl
def gG (c w : Bool) : Bool := (true && (c == w)) && true
def ok1 (c : Bool) : Bool := ((gG c false && gG c false) || !(true && (c == false))) && true
def ok2 (c : Bool) : Bool := (true && ((bif c then true else gG c false) && true)) && ok1 c
def ok3 (c : Bool) : Bool := ((gG c true && gG c true) || !(true && (c == true))) && ok2 c
def okT (c : Bool) : Bool := (true && ((bif c then gG c true else true) && true)) && ok3 c
theorem ok2_true (c : Bool) : ok2 c = true := by cases c <;> rfl
theorem okT_true (c : Bool) : okT c = true := by cases c <;> rfl
def sameO : Sig
  | [.float .f32 a, .float .f32 b] => some (.bool (ib a b), true)
  | _ => none
theorem same_eval (a b : Nat) (ha : cn .f32 a = a) (hb : cn .f32 b = b) : ∃ h', funD Try.prog ext (orcOf []) [29] 100 5 29 [.float .f32 a, .float .f32 b] [] = some (.bool (ib a b), h', true) := by
  refine of_funM (by kernel_rfl) (by kernel_rfl) ?_
  rw [show funM Try.prog ext (orcOf []) [29] 100 4 29 [.float .f32 a, .float .f32 b] = (bif (bif fne .f32 a a then true else fne .f32 b b) then some (.bool (bif fne .f32 a a then fne .f32 b b else false), [], okT (fne .f32 a a)) else some (.bool (ib a b), [], (!isN .f32 b) && ((!isN .f32 a) && ok2 (fne .f32 a a)))) by kernel_rfl]
  rw [okT_true, ok2_true, fne_isN ha, fne_isN hb]
  cases hn : isN .f32 a with
  | true =>
    rw [cn_of_N hn] at ha
    cases hm : isN .f32 b with
    | true =>
      rw [cn_of_N hm] at hb
      subst ha; subst hb
      rw [ib_self]; rfl
    | false =>
      rw [ib_ne (by intro e; rw [e, hm] at hn; cases hn)]; rfl
  | false =>
    cases hm : isN .f32 b with
    | true => rw [ib_ne (by intro e; rw [e, hm] at hn; cases hn)]; rfl
    | false => rfl
theorem same_one : OrcOne Try.prog 29 sameO := by
  refine orc_one (us := [29]) (cf := 100) (d := 5) mixed (by kernel_rfl) extsOk (l0 := []) all_nil (by kernel_rfl) fun args v k he hk hx => ?_
  obtain ⟨μ, cargs, hx⟩ := hx
  unfold sameO at he
  split at he
  · simp only [Option.some.injEq, Prod.mk.injEq] at he
    obtain ⟨rfl, rfl⟩ := he
    obtain ⟨y, z, rfl, hy, hz⟩ := two_args hx
    exact ⟨rfl, rfl, same_eval _ _ (float_canon hy) (float_canon hz)⟩
  · cases he
/-! ### one and the same curve -/
def sqT : List Nat → List Nat → Ans
  | a :: r, b :: s => bif !(ib a b) then some (.bool false, [], true) else sqT r s
  | _, _ => some (.bool true, [], true)
theorem sqT_self : ∀ (l : List Nat), sqT l l = some (.bool true, [], true)
  | [] => rfl
  | a :: r => by
    show (bif !(ib a a) then some (.bool false, [], true) else sqT r r) = _
    rw [ib_self, sqT_self r]; rfl
theorem sq1_eval (l : List Nat) (hl : l.length = 16) : ∃ h', funD Try.prog ext (orcOf [(29, sameO)]) [20] 200 5 20 [.agg (fl .f32 l).toArray, .agg (fl .f32 l).toArray] [] = some (.bool true, h', true) := by
  refine of_funM (by kernel_rfl) (by kernel_rfl) ?_
  rw [← sqT_self l]
  obtain ⟨a0, a1, a2, a3, a4, a5, a6, a7, a8, a9, a10, a11, a12, a13, a14, a15, rfl⟩ := list16 hl
  kernel_rfl
theorem eqF32_refl : ∀ (l : List Nat), eqF32 (fl .f32 l) (fl .f32 l) = true
  | [] => rfl
  | a :: l => by
    show (Nat.beq a a && eqF32 (fl .f32 l) (fl .f32 l)) = true
    rw [Nat.beq_refl, eqF32_refl l]; rfl
theorem sq_eval (l : List Nat) (hl : l.length = 16) : ∃ h', funD Try.prog ext (orcOf [(20, eqN 16)]) [8] 200 5 8 [.agg (fl .f32 l).toArray, .agg (fl .f32 l).toArray] [] = some (.bool true, h', true) := by
  refine of_funM (by kernel_rfl) (by kernel_rfl) ?_
  have hk : ((Nat.beq (fl .f32 l).length 16 && eqF32 (fl .f32 l) (fl .f32 l)) && true) = true := by
    rw [eqF32_refl]
    simp [fl, hl]
  refine Eq.trans (b := some (.bool true, [], ((Nat.beq (fl .f32 l).length 16 && eqF32 (fl .f32 l) (fl .f32 l)) && true))) ?_ (by rw [hk])
  clear hk
  obtain ⟨a0, a1, a2, a3, a4, a5, a6, a7, a8, a9, a10, a11, a12, a13, a14, a15, rfl⟩ := list16 hl
  kernel_rfl
theorem eqF32_spec : ∀ {xs ys : List Value}, eqF32 xs ys = true → ∃ l, xs = fl .f32 l ∧ ys = fl .f32 l
  | [], [], _ => ⟨[], rfl, rfl⟩
  | x :: r, y :: s, h => by
    unfold eqF32 at h
    split at h
    · rename_i h1 h2; cases h1
    · rename_i a r' b s' h1 h2
      cases h1; cases h2
      simp only [Bool.and_eq_true] at h
      obtain ⟨l, rfl, rfl⟩ := eqF32_spec h.2
      have := Nat.eq_of_beq_eq_true h.1
      subst this
      exact ⟨a :: l, rfl, rfl⟩
    · cases h
  | [], _ :: _, h => by simp [eqF32] at h
  | _ :: _, [], h => by simp [eqF32] at h
theorem sq1_one : OrcOne Try.prog 20 (eqN 16) := by
  refine orc_one (us := [20]) (cf := 200) (d := 5) mixed (by kernel_rfl) extsOk (l0 := [(29, sameO)]) (all_cons same_one all_nil) (by kernel_rfl) fun args v k he hk hx => ?_
  unfold eqN at he
  split at he
  · rename_i xs ys
    simp only [Option.some.injEq, Prod.mk.injEq] at he
    obtain ⟨rfl, rfl⟩ := he
    simp only [Bool.and_eq_true] at hk
    obtain ⟨l, h1, h2⟩ := eqF32_spec hk.2
    have hl : l.length = 16 := by
      have := Nat.eq_of_beq_eq_true hk.1
      rw [h1] at this
      simpa [fl] using this
    have e1 : xs = (fl .f32 l).toArray := by rw [← h1]
    have e2 : ys = (fl .f32 l).toArray := by rw [← h2]
    rw [e1, e2]
    exact ⟨allP (fl_plain _ _) (allP (fl_plain _ _) rfl), rfl, sq1_eval l hl⟩
  · cases he
theorem sq_one : OrcOne Try.prog 8 (eqN 16) := by
  refine orc_one (us := [8]) (cf := 200) (d := 5) mixed (by kernel_rfl) extsOk (l0 := [(20, eqN 16)]) (all_cons sq1_one all_nil) (by kernel_rfl) fun args v k he hk hx => ?_
  unfold eqN at he
  split at he
  · rename_i xs ys
    simp only [Option.some.injEq, Prod.mk.injEq] at he
    obtain ⟨rfl, rfl⟩ := he
    simp only [Bool.and_eq_true] at hk
    obtain ⟨l, h1, h2⟩ := eqF32_spec hk.2
    have hl : l.length = 16 := by
      have := Nat.eq_of_beq_eq_true hk.1
      rw [h1] at this
      simpa [fl] using this
    have e1 : xs = (fl .f32 l).toArray := by rw [← h1]
    have e2 : ys = (fl .f32 l).toArray := by rw [← h2]
    rw [e1, e2]
    exact ⟨allP (fl_plain _ _) (allP (fl_plain _ _) rfl), rfl, sq_eval l hl⟩
  · cases he
theorem bumpO_bare : BareSig (bumpO true) := fun args v he => by
  unfold bumpO at he
  split at he
  · simp only [Option.some.injEq, Prod.mk.injEq] at he
    obtain ⟨rfl, h⟩ := he
    exact ⟨rfl, rfl⟩
  · cases he
theorem eqN_bare : BareSig (eqN 16) := fun args v he => by
  unfold eqN at he
  split at he
  · rename_i xs ys
    simp only [Option.some.injEq, Prod.mk.injEq] at he
    obtain ⟨rfl, hk⟩ := he
    simp only [Bool.and_eq_true] at hk
    obtain ⟨l, h1, h2⟩ := eqF32_spec hk.2
    have b1 : bareP (.agg xs) = true := by
      show xs.toList.all bareC = true
      rw [h1]; exact fl_bare
    have b2 : bareP (.agg ys) = true := by
      show ys.toList.all bareC = true
      rw [h2]; exact fl_bare
    exact ⟨by rw [List.all_cons, List.all_cons, b1, b2]; rfl, rfl⟩
  · cases he
def orcBp : List (Nat × Sig) := [(6, bumpO true), (7, bumpO true), (8, eqN 16)]
theorem orcBpOk {ι : Frn} : ∀ p ∈ orcBp, @OrcOne ι Try.prog p.1 p.2 := all_cons (orc_any (bump_one true) bumpO_bare) <| all_cons (orc_any (bump2_one true) bumpO_bare) <| all_cons (orc_any sq_one eqN_bare) all_nil
end Go.Proofs.Ytbodmmniiaggoaa
