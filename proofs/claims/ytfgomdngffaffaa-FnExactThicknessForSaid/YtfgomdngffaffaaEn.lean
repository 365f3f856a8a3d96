/-
  The ends of curves: program and model find the same one. No condition.
-/
import Derived.Test.YtfgomdngffaffaaC
import Derived.Test.YtfgomdngffaffaaEt
import Derived.Test.YtfgomdngffaffaaEe
set_option linter.unusedSectionVars false
set_option linter.unusedVariables false
noncomputable section
namespace Go.Proofs.Ytfgomdngffaffaa
namespace En
open Go Go.ChangeShapes Go.WideShapes Go.ChangeAt Go.RowKit Ev

/-! ### states -/
abbrev J := Nat → Value × Bool
def up (j : J) (i : Nat) (p : Value × Bool) : J := fun m => bif Nat.beq m i then p else j m
def S (n : Nat) (j : J) (h : Heap) (ok : Bool) : St := ⟨(List.range n).map j, h, ok⟩
def vI (z : Int) : Value × Bool := (.int .i64 z, true)
def vB (b : Bool) : Value × Bool := (.bool b, true)
def vF (x : Nat) : Value × Bool := (.float .f32 x, true)
def zrow (z : Nat → Nat) : List Value := (List.range 16).map fun i => .float .f32 (z i)
def vA (z : Nat → Nat) : Value × Bool := (.agg (zrow z).toArray, true)
def vP : Value × Bool := (.pointer (some ⟨0, 0, none⟩), true)
def H (z : Nat → Nat) : Heap := [some (zrow z), none, none]
def j0 : J := fun _ => (undef, false)
theorem up_self {j : J} {i : Nat} {p : Value × Bool} (h : j i = p) : up j i p = j := by
  funext m
  unfold up
  cases hb : Nat.beq m i with
  | true => rw [cond_true, Nat.eq_of_beq_eq_true hb, h]
  | false => rfl
def see (sl : List Nat) (s : St) : Nat × Heap × Bool × List (Value × Bool) := (s.tmps.length, s.heap, s.ok, sl.map fun i => s.tmps.getD i (undef, false))
theorem S_of {s : St} {n : Nat} (h : s.tmps.length = n) : s = S n (fun m => s.tmps.getD m (undef, false)) s.heap s.ok := by
  unfold S
  have : s.tmps = (List.range n).map fun m => s.tmps.getD m (undef, false) := by
    refine List.ext_getElem? fun i => ?_
    rw [List.getElem?_map]
    by_cases hi : i < n
    · rw [List.getElem?_range hi, Option.map_some, List.getElem?_eq_getElem (by omega), List.getD_eq_getElem?_getD, List.getElem?_eq_getElem (by omega)]
      rfl
    · rw [List.getElem?_eq_none (by omega), List.getElem?_eq_none (by simp; omega)]; rfl
  rw [← this]
theorem reg_see [Frn] {E : Env} {c : Code} {s : St} {n : Nat} {h : Heap} {k : Bool} {sl : List Nat} {vs : List (Value × Bool)} (e : (regionOf E c s).map (see sl) = some (n, h, k, vs)) (hk : k = true) : ∃ j : J, regionOf E c s = some (S n j h true) ∧ sl.map j = vs := by
  obtain ⟨s', hs, e⟩ := Option.map_eq_some_iff.1 e
  unfold see at e
  simp only [Prod.mk.injEq] at e
  obtain ⟨e1, e2, e3, e4⟩ := e
  refine ⟨fun m => s'.tmps.getD m (undef, false), ?_, e4⟩
  exact hs.trans (congrArg some ((S_of e1).trans (by rw [e2, e3, hk])))

/-! ### contracts -/
def nanO : Sig
  | [.float .f32 a] => some (.bool (isN .f32 a), true)
  | _ => none
def cmpO (g : Bool) : Sig
  | [.float .f32 a, .float .f32 b] => some (.bool (cmpE g a b), true)
  | _ => none
def nnO : Sig
  | [] => some (.float .f64 (qn .f64), true)
  | _ => none
theorem wide_nan (a : Nat) : fne .f64 (fcv .f32 .f64 a) (fcv .f32 .f64 a) = isN .f32 a := by
  cases h : isN .f32 a with
  | true =>
    obtain ⟨s, t, e⟩ := read_N h
    have : fcv .f32 .f64 a = qn .f64 := by unfold fcv; rw [e]
    rw [this]
    exact fne_N (isN_qn .f64)
  | false =>
    refine fne_self ?_
    unfold fcv
    rcases read_single a with ⟨g, m, e, h1, _⟩ | ⟨g, h1⟩ | ⟨g, t, h1⟩
    · have h1 : FloatKind.f32.format.read a = _ := h1
      rw [h1]
      exact write_cn .f64 rfl
    · have h1 : FloatKind.f32.format.read a = _ := h1
      rw [h1]
      exact write_cn .f64 rfl
    · have h1 : FloatKind.f32.format.read a = _ := h1
      unfold isN at h
      rw [h1] at h
      cases h
theorem nan_eval (a : Nat) : (@funD noFrn Try.prog (fun f => seek f []) (fun f => seek f []) [54, 66] 60 5 54 [.float .f32 a] []).map (fun r => (r.1, r.2.2)) = some (.bool (fne .f64 (fcv .f32 .f64 a) (fcv .f32 .f64 a)), true) := by kernel_rfl
theorem ltc_eval (a b : Nat) : (@funD noFrn Try.prog (fun f => seek f []) (fun f => seek f []) [36] 60 5 36 [.float .f32 a, .float .f32 b] []).map (fun r => (r.1, r.2.2)) = some (.bool (cmpE false a b), true) := by kernel_rfl
theorem gtc_eval (a b : Nat) : (@funD noFrn Try.prog (fun f => seek f []) (fun f => seek f []) [37] 60 5 37 [.float .f32 a, .float .f32 b] []).map (fun r => (r.1, r.2.2)) = some (.bool (cmpE true a b), true) := by kernel_rfl
theorem of_mapB {x : Option (Value × Heap × Bool)} {v : Value} (h : x.map (fun r => (r.1, r.2.2)) = some (v, true)) : ∃ h', x = some (v, h', true) := by
  obtain ⟨r, hr, e⟩ := Option.map_eq_some_iff.1 h
  obtain ⟨a, b, c⟩ := r
  simp only [Prod.mk.injEq] at e
  obtain ⟨rfl, rfl⟩ := e
  exact ⟨b, hr⟩
theorem nan_one {ι : Frn} : @OrcOne ι Try.prog 54 nanO := by
  refine orc_any (?_ : @OrcOne noFrn Try.prog 54 nanO) fun args v he => ?_
  · refine orc_one (us := [54, 66]) (cf := 60) (d := 5) mixed (by kernel_rfl) (l0 := []) (lx := []) all_nil all_nil (by kernel_rfl) fun args v k he hk hx => ?_
    unfold nanO at he
    split at he
    · simp only [Option.some.injEq, Prod.mk.injEq] at he
      obtain ⟨rfl, rfl⟩ := he
      rename_i a
      refine ⟨rfl, rfl, ?_⟩
      have h := nan_eval a
      rw [wide_nan] at h
      exact of_mapB h
    · cases he
  · unfold nanO at he
    split at he
    · simp only [Option.some.injEq, Prod.mk.injEq] at he
      obtain ⟨rfl, _⟩ := he
      exact ⟨rfl, rfl⟩
    · cases he
theorem cmp_bare (g : Bool) : BareSig (cmpO g) := fun args v he => by
  unfold cmpO at he
  split at he
  · simp only [Option.some.injEq, Prod.mk.injEq] at he
    obtain ⟨rfl, _⟩ := he
    exact ⟨rfl, rfl⟩
  · cases he
theorem lt_one {ι : Frn} : @OrcOne ι Try.prog 36 (cmpO false) := by
  refine orc_any (?_ : @OrcOne noFrn Try.prog 36 (cmpO false)) (cmp_bare false)
  refine orc_one (us := [36]) (cf := 60) (d := 5) mixed (by kernel_rfl) (l0 := []) (lx := []) all_nil all_nil (by kernel_rfl) fun args v k he hk hx => ?_
  unfold cmpO at he
  split at he
  · rename_i a b
    simp only [Option.some.injEq, Prod.mk.injEq] at he
    obtain ⟨rfl, rfl⟩ := he
    exact ⟨rfl, rfl, of_mapB (ltc_eval a b)⟩
  · cases he
theorem gt_one {ι : Frn} : @OrcOne ι Try.prog 37 (cmpO true) := by
  refine orc_any (?_ : @OrcOne noFrn Try.prog 37 (cmpO true)) (cmp_bare true)
  refine orc_one (us := [37]) (cf := 60) (d := 5) mixed (by kernel_rfl) (l0 := []) (lx := []) all_nil all_nil (by kernel_rfl) fun args v k he hk hx => ?_
  unfold cmpO at he
  split at he
  · rename_i a b
    simp only [Option.some.injEq, Prod.mk.injEq] at he
    obtain ⟨rfl, rfl⟩ := he
    exact ⟨rfl, rfl, of_mapB (gtc_eval a b)⟩
  · cases he
theorem nn_one {ι : Frn} : @OrcOne ι Try.prog 53 nnO := by
  refine orc_any (?_ : @OrcOne noFrn Try.prog 53 nnO) fun args v he => ?_
  · refine orc_one (us := [53]) (cf := 60) (d := 5) mixed (by kernel_rfl) extsOk (l0 := []) all_nil (by kernel_rfl) fun args v k he hk hx => ?_
    unfold nnO at he
    split at he
    · simp only [Option.some.injEq, Prod.mk.injEq] at he
      obtain ⟨rfl, rfl⟩ := he
      exact ⟨rfl, rfl, of_mapB (by kernel_rfl)⟩
    · cases he
  · unfold nnO at he
    split at he
    · simp only [Option.some.injEq, Prod.mk.injEq] at he
      obtain ⟨rfl, _⟩ := he
      exact ⟨rfl, rfl⟩
    · cases he
def orcEd : List (Nat × Sig) := [(54, nanO), (36, cmpO false), (37, cmpO true), (53, nnO)]
theorem orcEdOk {ι : Frn} : ∀ p ∈ orcEd, @OrcOne ι Try.prog p.1 p.2 := all_cons nan_one (all_cons lt_one (all_cons gt_one (all_cons nn_one all_nil)))
section
variable [Frn]
noncomputable abbrev EE : Env := conE Try.prog noOrc (fun f => seek f orcEd)
def atI : Option Nat → Int
  | none => -1
  | some a => a
def ansF (z : Nat → Nat) : Option Nat → Nat
  | none => qn .f32
  | some a => z a
def ansI : Option Nat → Int
  | none => 0
  | some a => a

/-! ### the model -/
noncomputable def leC : Code := (Try.f34.body.getD .skip)
noncomputable def leA : Code := sa (sb (sb leC))
noncomputable def leZ : Code := sb (sb (sb leC))
noncomputable def leL : Code := sb leA
noncomputable def leB : Code := inn (inn leL)
noncomputable def le0 : Code := sa leC
noncomputable def le1 : Code := sa (sb leC)
noncomputable def le2 : Code := sa leA
noncomputable def le3 : Code := sa (sa leB)
noncomputable def le3c : Code := sb (sa leB)
noncomputable def lbk : Code := inn (sa (sb leB))
noncomputable def le5 : Code := sa (sa lbk)
noncomputable def le5c : Code := sb (sa lbk)
noncomputable def le6 : Code := sa (sb lbk)
noncomputable def le6c : Code := sb (sb lbk)
noncomputable def le7 : Code := ca le6c
noncomputable def le4 : Code := sb (sb leB)
noncomputable def le8 : Code := sa (sa leZ)
noncomputable def le8c : Code := sb (sa leZ)
noncomputable def le9 : Code := sa (ca le8c)
noncomputable def le10 : Code := sa (sb leZ)
noncomputable def leBody : Code := .seq (.seq le3 (.cond (cx le3c) .skip (.exit 0))) (.seq (.block 1 (.seq (.seq le5 (.cond (cx le5c) (.exit 1) .skip)) (.seq le6 (.cond (cx le6c) le7 .skip)))) le4)
theorem le_shape : leC = .seq le0 (.seq le1 (.seq (.seq le2 (.block 0 (.loop leBody))) (.seq (.seq le8 (.cond (cx le8c) (.seq le9 .ret) .skip)) (.seq le10 .ret)))) := by kernel_rfl
def lJ (g : Bool) (a i : Int) (j : J) : J := up (up (up (up j 1 (vB g)) 2 vP) 6 (vI a)) 7 (vI i)
theorem lJ_of {g : Bool} {a i : Int} {j : J} (h1 : j 1 = vB g) (h2 : j 2 = vP) (h6 : j 6 = vI a) (h7 : j 7 = vI i) : lJ g a i j = j := by
  unfold lJ
  rw [up_self h1, up_self h2, up_self h6, up_self h7]
theorem le_start (z : Nat → Nat) (g : Bool) : startS Try.f34 [.agg (zrow z).toArray, .bool g] [] = S 55 (up (up j0 0 (vA z)) 1 (vB g)) [] true := by kernel_rfl
theorem le_r0 (z : Nat → Nat) (g : Bool) : regionOf EE le0 (S 55 (up (up j0 0 (vA z)) 1 (vB g)) [] true) = some (S 55 (up (up (up (up (up j0 0 (vA z)) 1 (vB g)) 2 vP) 4 (vF 0)) 5 (vI 0)) (H z) true) := by kernel_rfl
theorem le_r1 (z : Nat → Nat) (g : Bool) (j : J) : regionOf EE le1 (S 55 (up (up j 1 (vB g)) 2 vP) (H z) true) = some (S 55 (up (up (up j 1 (vB g)) 2 vP) 6 (vI (-1))) (H z) true) := by kernel_rfl
theorem le_r2 (z : Nat → Nat) (g : Bool) (j : J) (a : Int) : regionOf EE le2 (S 55 (up (up (up j 1 (vB g)) 2 vP) 6 (vI a)) (H z) true) = some (S 55 (lJ g a ((0 : Nat) : Int) j) (H z) true) := by kernel_rfl
theorem le_r3 (z : Nat → Nat) (g : Bool) (a : Int) (i : Nat) (j : J) : regionOf EE le3 (S 55 (lJ g a i j) (H z) true) = some (S 55 (lJ g a i (up (up j 8 (vI i)) 9 (vB (decide ((i : Int) < 16))))) (H z) true) := by kernel_rfl
theorem le_c3 (z : Nat → Nat) (g : Bool) (a i : Int) (b : Bool) (j : J) : evl (S 55 (lJ g a i (up j 9 (vB b))) (H z) true).tmps (cx le3c) = vB b := by kernel_rfl
theorem le_r4 (z : Nat → Nat) (g : Bool) (a : Int) (i : Nat) (j : J) : regionOf EE le4 (S 55 (lJ g a i j) (H z) true) = some (S 55 (lJ g a (IntKind.i64.wrap ((i : Int) + 1)) (up (up j 10 (vI i)) 11 (vI (IntKind.i64.wrap ((i : Int) + 1))))) (H z) true) := by kernel_rfl
theorem le_c5 (z : Nat → Nat) (g : Bool) (a i : Int) (b : Bool) (j : J) : evl (S 55 (lJ g a i (up j 18 (vB b))) (H z) true).tmps (cx le5c) = vB b := by kernel_rfl
theorem le_c6 (z : Nat → Nat) (g : Bool) (a i : Int) (b : Bool) (j : J) : evl (S 55 (lJ g a i (up j 45 (vB b))) (H z) true).tmps (cx le6c) = vB b := by kernel_rfl
theorem le_r7 (z : Nat → Nat) (g : Bool) (a : Int) (i : Nat) (j : J) : regionOf EE le7 (S 55 (lJ g a i j) (H z) true) = some (S 55 (lJ g i i (up j 46 (vI i))) (H z) true) := by kernel_rfl
theorem le_r8 (z : Nat → Nat) (g : Bool) (a i : Int) (j : J) : regionOf EE le8 (S 55 (lJ g a i j) (H z) true) = some (S 55 (lJ g a i (up (up j 47 (vI a)) 48 (vB (decide (a < 0))))) (H z) true) := by kernel_rfl
theorem le_c8 (z : Nat → Nat) (g : Bool) (a i : Int) (b : Bool) (j : J) : evl (S 55 (lJ g a i (up j 48 (vB b))) (H z) true).tmps (cx le8c) = vB b := by kernel_rfl
theorem le_r9 (z : Nat → Nat) (g : Bool) (a i : Int) (j : J) : ∃ j', regionOf EE le9 (S 55 (lJ g a i j) (H z) true) = some (S 55 (up (up j' 4 (vF (qn .f32))) 5 (vI 0)) (H z) true) :=
  ⟨_, (by kernel_rfl : regionOf EE le9 (S 55 (lJ g a i j) (H z) true) = some (S 55 (up (up (lJ g a i (up (up j 49 (.float .f64 (qn .f64), true)) 50 (vF (qn .f32)))) 4 (vF (qn .f32))) 5 (vI 0)) (H z) true))⟩
theorem le_end (x : Nat) (k : Int) (j : J) (h : Heap) : finK Try.prog Try.f34 .ret (S 55 (up (up j 4 (vF x)) 5 (vI k)) h true) = some (.tuple #[.float .f32 x, .int .i64 k], h, true) := by kernel_rfl

def sl5 : List Nat := [1, 2, 6, 7, 18]
def sl6 : List Nat := [1, 2, 6, 7, 45]
def fokG (A : Bool) : Bool := (((A || (decide (A = false) && true)) && true) && ((((decide (A = false) && true) && true) || (!decide (A = false))) && ((((((decide (A = false) && true) && false) && true) && (((decide (A = false) && true) && false) && true)) || (!((decide (A = false) && true) && false))) && ((((((decide (A = false) && true) && false) && true) && true) || (!((decide (A = false) && true) && false))) && ((((((decide (A = false) && true) && false) && true) && true) || (!((decide (A = false) && true) && false))) && ((((((decide (A = false) && true) && false) && true) && true) || (!((decide (A = false) && true) && false))) && ((((((decide (A = false) && true) && false) && true) && true) || (!((decide (A = false) && true) && false))) && (((decide (A = false) && true) || (!decide (A = false))) && (((decide (A = false) && true) || (!decide (A = false))) && true)))))))))
theorem fokG_true (A : Bool) : fokG A = true := by cases A <;> rfl
/-! #### one number, and another one -/
theorem le5_see_0 (z : Nat → Nat) (g : Bool) (a : Int) (j : J) : (regionOf EE le5 (S 55 (lJ g a ((0 : Nat) : Int) j) (H z) true)).map (see sl5) = some (55, H z, true, [vB g, vP, vI a, vI ((0 : Nat) : Int), vB (fne .f32 (z 0) (z 0))]) := by kernel_rfl
theorem le5_see_1 (z : Nat → Nat) (g : Bool) (a : Int) (j : J) : (regionOf EE le5 (S 55 (lJ g a ((1 : Nat) : Int) j) (H z) true)).map (see sl5) = some (55, H z, true, [vB g, vP, vI a, vI ((1 : Nat) : Int), vB (fne .f32 (z 1) (z 1))]) := by kernel_rfl
theorem le5_see_2 (z : Nat → Nat) (g : Bool) (a : Int) (j : J) : (regionOf EE le5 (S 55 (lJ g a ((2 : Nat) : Int) j) (H z) true)).map (see sl5) = some (55, H z, true, [vB g, vP, vI a, vI ((2 : Nat) : Int), vB (fne .f32 (z 2) (z 2))]) := by kernel_rfl
theorem le5_see_3 (z : Nat → Nat) (g : Bool) (a : Int) (j : J) : (regionOf EE le5 (S 55 (lJ g a ((3 : Nat) : Int) j) (H z) true)).map (see sl5) = some (55, H z, true, [vB g, vP, vI a, vI ((3 : Nat) : Int), vB (fne .f32 (z 3) (z 3))]) := by kernel_rfl
theorem le5_see_4 (z : Nat → Nat) (g : Bool) (a : Int) (j : J) : (regionOf EE le5 (S 55 (lJ g a ((4 : Nat) : Int) j) (H z) true)).map (see sl5) = some (55, H z, true, [vB g, vP, vI a, vI ((4 : Nat) : Int), vB (fne .f32 (z 4) (z 4))]) := by kernel_rfl
theorem le5_see_5 (z : Nat → Nat) (g : Bool) (a : Int) (j : J) : (regionOf EE le5 (S 55 (lJ g a ((5 : Nat) : Int) j) (H z) true)).map (see sl5) = some (55, H z, true, [vB g, vP, vI a, vI ((5 : Nat) : Int), vB (fne .f32 (z 5) (z 5))]) := by kernel_rfl
theorem le5_see_6 (z : Nat → Nat) (g : Bool) (a : Int) (j : J) : (regionOf EE le5 (S 55 (lJ g a ((6 : Nat) : Int) j) (H z) true)).map (see sl5) = some (55, H z, true, [vB g, vP, vI a, vI ((6 : Nat) : Int), vB (fne .f32 (z 6) (z 6))]) := by kernel_rfl
theorem le5_see_7 (z : Nat → Nat) (g : Bool) (a : Int) (j : J) : (regionOf EE le5 (S 55 (lJ g a ((7 : Nat) : Int) j) (H z) true)).map (see sl5) = some (55, H z, true, [vB g, vP, vI a, vI ((7 : Nat) : Int), vB (fne .f32 (z 7) (z 7))]) := by kernel_rfl
theorem le5_see_8 (z : Nat → Nat) (g : Bool) (a : Int) (j : J) : (regionOf EE le5 (S 55 (lJ g a ((8 : Nat) : Int) j) (H z) true)).map (see sl5) = some (55, H z, true, [vB g, vP, vI a, vI ((8 : Nat) : Int), vB (fne .f32 (z 8) (z 8))]) := by kernel_rfl
theorem le5_see_9 (z : Nat → Nat) (g : Bool) (a : Int) (j : J) : (regionOf EE le5 (S 55 (lJ g a ((9 : Nat) : Int) j) (H z) true)).map (see sl5) = some (55, H z, true, [vB g, vP, vI a, vI ((9 : Nat) : Int), vB (fne .f32 (z 9) (z 9))]) := by kernel_rfl
theorem le5_see_10 (z : Nat → Nat) (g : Bool) (a : Int) (j : J) : (regionOf EE le5 (S 55 (lJ g a ((10 : Nat) : Int) j) (H z) true)).map (see sl5) = some (55, H z, true, [vB g, vP, vI a, vI ((10 : Nat) : Int), vB (fne .f32 (z 10) (z 10))]) := by kernel_rfl
theorem le5_see_11 (z : Nat → Nat) (g : Bool) (a : Int) (j : J) : (regionOf EE le5 (S 55 (lJ g a ((11 : Nat) : Int) j) (H z) true)).map (see sl5) = some (55, H z, true, [vB g, vP, vI a, vI ((11 : Nat) : Int), vB (fne .f32 (z 11) (z 11))]) := by kernel_rfl
theorem le5_see_12 (z : Nat → Nat) (g : Bool) (a : Int) (j : J) : (regionOf EE le5 (S 55 (lJ g a ((12 : Nat) : Int) j) (H z) true)).map (see sl5) = some (55, H z, true, [vB g, vP, vI a, vI ((12 : Nat) : Int), vB (fne .f32 (z 12) (z 12))]) := by kernel_rfl
theorem le5_see_13 (z : Nat → Nat) (g : Bool) (a : Int) (j : J) : (regionOf EE le5 (S 55 (lJ g a ((13 : Nat) : Int) j) (H z) true)).map (see sl5) = some (55, H z, true, [vB g, vP, vI a, vI ((13 : Nat) : Int), vB (fne .f32 (z 13) (z 13))]) := by kernel_rfl
theorem le5_see_14 (z : Nat → Nat) (g : Bool) (a : Int) (j : J) : (regionOf EE le5 (S 55 (lJ g a ((14 : Nat) : Int) j) (H z) true)).map (see sl5) = some (55, H z, true, [vB g, vP, vI a, vI ((14 : Nat) : Int), vB (fne .f32 (z 14) (z 14))]) := by kernel_rfl
theorem le5_see_15 (z : Nat → Nat) (g : Bool) (a : Int) (j : J) : (regionOf EE le5 (S 55 (lJ g a ((15 : Nat) : Int) j) (H z) true)).map (see sl5) = some (55, H z, true, [vB g, vP, vI a, vI ((15 : Nat) : Int), vB (fne .f32 (z 15) (z 15))]) := by kernel_rfl
theorem le5_see (z : Nat → Nat) (g : Bool) (a : Int) (j : J) (i : Nat) (hi : i < 16) : (regionOf EE le5 (S 55 (lJ g a ((i : Nat) : Int) j) (H z) true)).map (see sl5) = some (55, H z, true, [vB g, vP, vI a, vI ((i : Nat) : Int), vB (fne .f32 (z i) (z i))]) := by
  match i, hi with
  | 0, _ => exact le5_see_0 z g a j
  | 1, _ => exact le5_see_1 z g a j
  | 2, _ => exact le5_see_2 z g a j
  | 3, _ => exact le5_see_3 z g a j
  | 4, _ => exact le5_see_4 z g a j
  | 5, _ => exact le5_see_5 z g a j
  | 6, _ => exact le5_see_6 z g a j
  | 7, _ => exact le5_see_7 z g a j
  | 8, _ => exact le5_see_8 z g a j
  | 9, _ => exact le5_see_9 z g a j
  | 10, _ => exact le5_see_10 z g a j
  | 11, _ => exact le5_see_11 z g a j
  | 12, _ => exact le5_see_12 z g a j
  | 13, _ => exact le5_see_13 z g a j
  | 14, _ => exact le5_see_14 z g a j
  | 15, _ => exact le5_see_15 z g a j
  | k + 16, h => exact absurd h (by omega)
theorem le6_none_0 (z : Nat → Nat) (g : Bool) (j : J) : (regionOf EE le6 (S 55 (lJ g (-1) ((0 : Nat) : Int) j) (H z) true)).map (see sl6) = some (55, H z, true, [vB g, vP, vI (-1), vI ((0 : Nat) : Int), vB true]) := by kernel_rfl
theorem le6_none_1 (z : Nat → Nat) (g : Bool) (j : J) : (regionOf EE le6 (S 55 (lJ g (-1) ((1 : Nat) : Int) j) (H z) true)).map (see sl6) = some (55, H z, true, [vB g, vP, vI (-1), vI ((1 : Nat) : Int), vB true]) := by kernel_rfl
theorem le6_none_2 (z : Nat → Nat) (g : Bool) (j : J) : (regionOf EE le6 (S 55 (lJ g (-1) ((2 : Nat) : Int) j) (H z) true)).map (see sl6) = some (55, H z, true, [vB g, vP, vI (-1), vI ((2 : Nat) : Int), vB true]) := by kernel_rfl
theorem le6_none_3 (z : Nat → Nat) (g : Bool) (j : J) : (regionOf EE le6 (S 55 (lJ g (-1) ((3 : Nat) : Int) j) (H z) true)).map (see sl6) = some (55, H z, true, [vB g, vP, vI (-1), vI ((3 : Nat) : Int), vB true]) := by kernel_rfl
theorem le6_none_4 (z : Nat → Nat) (g : Bool) (j : J) : (regionOf EE le6 (S 55 (lJ g (-1) ((4 : Nat) : Int) j) (H z) true)).map (see sl6) = some (55, H z, true, [vB g, vP, vI (-1), vI ((4 : Nat) : Int), vB true]) := by kernel_rfl
theorem le6_none_5 (z : Nat → Nat) (g : Bool) (j : J) : (regionOf EE le6 (S 55 (lJ g (-1) ((5 : Nat) : Int) j) (H z) true)).map (see sl6) = some (55, H z, true, [vB g, vP, vI (-1), vI ((5 : Nat) : Int), vB true]) := by kernel_rfl
theorem le6_none_6 (z : Nat → Nat) (g : Bool) (j : J) : (regionOf EE le6 (S 55 (lJ g (-1) ((6 : Nat) : Int) j) (H z) true)).map (see sl6) = some (55, H z, true, [vB g, vP, vI (-1), vI ((6 : Nat) : Int), vB true]) := by kernel_rfl
theorem le6_none_7 (z : Nat → Nat) (g : Bool) (j : J) : (regionOf EE le6 (S 55 (lJ g (-1) ((7 : Nat) : Int) j) (H z) true)).map (see sl6) = some (55, H z, true, [vB g, vP, vI (-1), vI ((7 : Nat) : Int), vB true]) := by kernel_rfl
theorem le6_none_8 (z : Nat → Nat) (g : Bool) (j : J) : (regionOf EE le6 (S 55 (lJ g (-1) ((8 : Nat) : Int) j) (H z) true)).map (see sl6) = some (55, H z, true, [vB g, vP, vI (-1), vI ((8 : Nat) : Int), vB true]) := by kernel_rfl
theorem le6_none_9 (z : Nat → Nat) (g : Bool) (j : J) : (regionOf EE le6 (S 55 (lJ g (-1) ((9 : Nat) : Int) j) (H z) true)).map (see sl6) = some (55, H z, true, [vB g, vP, vI (-1), vI ((9 : Nat) : Int), vB true]) := by kernel_rfl
theorem le6_none_10 (z : Nat → Nat) (g : Bool) (j : J) : (regionOf EE le6 (S 55 (lJ g (-1) ((10 : Nat) : Int) j) (H z) true)).map (see sl6) = some (55, H z, true, [vB g, vP, vI (-1), vI ((10 : Nat) : Int), vB true]) := by kernel_rfl
theorem le6_none_11 (z : Nat → Nat) (g : Bool) (j : J) : (regionOf EE le6 (S 55 (lJ g (-1) ((11 : Nat) : Int) j) (H z) true)).map (see sl6) = some (55, H z, true, [vB g, vP, vI (-1), vI ((11 : Nat) : Int), vB true]) := by kernel_rfl
theorem le6_none_12 (z : Nat → Nat) (g : Bool) (j : J) : (regionOf EE le6 (S 55 (lJ g (-1) ((12 : Nat) : Int) j) (H z) true)).map (see sl6) = some (55, H z, true, [vB g, vP, vI (-1), vI ((12 : Nat) : Int), vB true]) := by kernel_rfl
theorem le6_none_13 (z : Nat → Nat) (g : Bool) (j : J) : (regionOf EE le6 (S 55 (lJ g (-1) ((13 : Nat) : Int) j) (H z) true)).map (see sl6) = some (55, H z, true, [vB g, vP, vI (-1), vI ((13 : Nat) : Int), vB true]) := by kernel_rfl
theorem le6_none_14 (z : Nat → Nat) (g : Bool) (j : J) : (regionOf EE le6 (S 55 (lJ g (-1) ((14 : Nat) : Int) j) (H z) true)).map (see sl6) = some (55, H z, true, [vB g, vP, vI (-1), vI ((14 : Nat) : Int), vB true]) := by kernel_rfl
theorem le6_none_15 (z : Nat → Nat) (g : Bool) (j : J) : (regionOf EE le6 (S 55 (lJ g (-1) ((15 : Nat) : Int) j) (H z) true)).map (see sl6) = some (55, H z, true, [vB g, vP, vI (-1), vI ((15 : Nat) : Int), vB true]) := by kernel_rfl
theorem le6_none (z : Nat → Nat) (g : Bool) (j : J) (i : Nat) (hi : i < 16) : (regionOf EE le6 (S 55 (lJ g (-1) ((i : Nat) : Int) j) (H z) true)).map (see sl6) = some (55, H z, true, [vB g, vP, vI (-1), vI ((i : Nat) : Int), vB true]) := by
  match i, hi with
  | 0, _ => exact le6_none_0 z g j
  | 1, _ => exact le6_none_1 z g j
  | 2, _ => exact le6_none_2 z g j
  | 3, _ => exact le6_none_3 z g j
  | 4, _ => exact le6_none_4 z g j
  | 5, _ => exact le6_none_5 z g j
  | 6, _ => exact le6_none_6 z g j
  | 7, _ => exact le6_none_7 z g j
  | 8, _ => exact le6_none_8 z g j
  | 9, _ => exact le6_none_9 z g j
  | 10, _ => exact le6_none_10 z g j
  | 11, _ => exact le6_none_11 z g j
  | 12, _ => exact le6_none_12 z g j
  | 13, _ => exact le6_none_13 z g j
  | 14, _ => exact le6_none_14 z g j
  | 15, _ => exact le6_none_15 z g j
  | k + 16, h => exact absurd h (by omega)
section
variable (z : Nat → Nat) (j : J)
theorem le6_t_0_0 (z : Nat → Nat) (j : J) : (regionOf EE le6 (S 55 (lJ true ((0 : Nat) : Int) ((0 : Nat) : Int) j) (H z) true)).map (see sl6) = some (55, H z, fokG (fgt .f32 (z 0) (z 0)), [vB true, vP, vI ((0 : Nat) : Int), vI ((0 : Nat) : Int), vB (bif fgt .f32 (z 0) (z 0) then true else false)]) := by kernel_rfl
abbrev A6t (k a : Nat) (z : Nat → Nat) (j : J) := (regionOf EE le6 (S 55 (lJ true ((a : Nat) : Int) ((k : Nat) : Int) j) (H z) true)).map (see sl6)
abbrev B6t (k a : Nat) (z : Nat → Nat) := some (55, H z, fokG (fgt .f32 (z k) (z a)), [vB true, vP, vI ((a : Nat) : Int), vI ((k : Nat) : Int), vB (bif fgt .f32 (z k) (z a) then true else false)])
theorem le6_t_0_1 : A6t 0 1 z j = B6t 0 1 z := by kernel_rfl
theorem le6_t_0_2 : A6t 0 2 z j = B6t 0 2 z := by kernel_rfl
theorem le6_t_0_3 : A6t 0 3 z j = B6t 0 3 z := by kernel_rfl
theorem le6_t_0_4 : A6t 0 4 z j = B6t 0 4 z := by kernel_rfl
theorem le6_t_0_5 : A6t 0 5 z j = B6t 0 5 z := by kernel_rfl
theorem le6_t_0_6 : A6t 0 6 z j = B6t 0 6 z := by kernel_rfl
theorem le6_t_0_7 : A6t 0 7 z j = B6t 0 7 z := by kernel_rfl
theorem le6_t_0_8 : A6t 0 8 z j = B6t 0 8 z := by kernel_rfl
theorem le6_t_0_9 : A6t 0 9 z j = B6t 0 9 z := by kernel_rfl
theorem le6_t_0_10 : A6t 0 10 z j = B6t 0 10 z := by kernel_rfl
theorem le6_t_0_11 : A6t 0 11 z j = B6t 0 11 z := by kernel_rfl
theorem le6_t_0_12 : A6t 0 12 z j = B6t 0 12 z := by kernel_rfl
theorem le6_t_0_13 : A6t 0 13 z j = B6t 0 13 z := by kernel_rfl
theorem le6_t_0_14 : A6t 0 14 z j = B6t 0 14 z := by kernel_rfl
theorem le6_t_0_15 : A6t 0 15 z j = B6t 0 15 z := by kernel_rfl
theorem le6_t_0 (z : Nat → Nat) (j : J) (a : Nat) (ha : a < 16) : (regionOf EE le6 (S 55 (lJ true ((a : Nat) : Int) ((0 : Nat) : Int) j) (H z) true)).map (see sl6) = some (55, H z, fokG (fgt .f32 (z 0) (z a)), [vB true, vP, vI ((a : Nat) : Int), vI ((0 : Nat) : Int), vB (bif fgt .f32 (z 0) (z a) then true else false)]) := by
  match a, ha with
  | 0, _ => exact le6_t_0_0 z j
  | 1, _ => exact le6_t_0_1 z j
  | 2, _ => exact le6_t_0_2 z j
  | 3, _ => exact le6_t_0_3 z j
  | 4, _ => exact le6_t_0_4 z j
  | 5, _ => exact le6_t_0_5 z j
  | 6, _ => exact le6_t_0_6 z j
  | 7, _ => exact le6_t_0_7 z j
  | 8, _ => exact le6_t_0_8 z j
  | 9, _ => exact le6_t_0_9 z j
  | 10, _ => exact le6_t_0_10 z j
  | 11, _ => exact le6_t_0_11 z j
  | 12, _ => exact le6_t_0_12 z j
  | 13, _ => exact le6_t_0_13 z j
  | 14, _ => exact le6_t_0_14 z j
  | 15, _ => exact le6_t_0_15 z j
  | k + 16, h => exact absurd h (by omega)
theorem le6_t_1_0 : A6t 1 0 z j = B6t 1 0 z := by kernel_rfl
theorem le6_t_1_1 : A6t 1 1 z j = B6t 1 1 z := by kernel_rfl
theorem le6_t_1_2 : A6t 1 2 z j = B6t 1 2 z := by kernel_rfl
theorem le6_t_1_3 : A6t 1 3 z j = B6t 1 3 z := by kernel_rfl
theorem le6_t_1_4 : A6t 1 4 z j = B6t 1 4 z := by kernel_rfl
theorem le6_t_1_5 : A6t 1 5 z j = B6t 1 5 z := by kernel_rfl
theorem le6_t_1_6 : A6t 1 6 z j = B6t 1 6 z := by kernel_rfl
theorem le6_t_1_7 : A6t 1 7 z j = B6t 1 7 z := by kernel_rfl
theorem le6_t_1_8 : A6t 1 8 z j = B6t 1 8 z := by kernel_rfl
theorem le6_t_1_9 : A6t 1 9 z j = B6t 1 9 z := by kernel_rfl
theorem le6_t_1_10 : A6t 1 10 z j = B6t 1 10 z := by kernel_rfl
theorem le6_t_1_11 : A6t 1 11 z j = B6t 1 11 z := by kernel_rfl
theorem le6_t_1_12 : A6t 1 12 z j = B6t 1 12 z := by kernel_rfl
theorem le6_t_1_13 : A6t 1 13 z j = B6t 1 13 z := by kernel_rfl
theorem le6_t_1_14 : A6t 1 14 z j = B6t 1 14 z := by kernel_rfl
theorem le6_t_1_15 : A6t 1 15 z j = B6t 1 15 z := by kernel_rfl
theorem le6_t_1 (z : Nat → Nat) (j : J) (a : Nat) (ha : a < 16) : (regionOf EE le6 (S 55 (lJ true ((a : Nat) : Int) ((1 : Nat) : Int) j) (H z) true)).map (see sl6) = some (55, H z, fokG (fgt .f32 (z 1) (z a)), [vB true, vP, vI ((a : Nat) : Int), vI ((1 : Nat) : Int), vB (bif fgt .f32 (z 1) (z a) then true else false)]) := by
  match a, ha with
  | 0, _ => exact le6_t_1_0 z j
  | 1, _ => exact le6_t_1_1 z j
  | 2, _ => exact le6_t_1_2 z j
  | 3, _ => exact le6_t_1_3 z j
  | 4, _ => exact le6_t_1_4 z j
  | 5, _ => exact le6_t_1_5 z j
  | 6, _ => exact le6_t_1_6 z j
  | 7, _ => exact le6_t_1_7 z j
  | 8, _ => exact le6_t_1_8 z j
  | 9, _ => exact le6_t_1_9 z j
  | 10, _ => exact le6_t_1_10 z j
  | 11, _ => exact le6_t_1_11 z j
  | 12, _ => exact le6_t_1_12 z j
  | 13, _ => exact le6_t_1_13 z j
  | 14, _ => exact le6_t_1_14 z j
  | 15, _ => exact le6_t_1_15 z j
  | k + 16, h => exact absurd h (by omega)
theorem le6_t_2_0 : A6t 2 0 z j = B6t 2 0 z := by kernel_rfl
theorem le6_t_2_1 : A6t 2 1 z j = B6t 2 1 z := by kernel_rfl
theorem le6_t_2_2 : A6t 2 2 z j = B6t 2 2 z := by kernel_rfl
theorem le6_t_2_3 : A6t 2 3 z j = B6t 2 3 z := by kernel_rfl
theorem le6_t_2_4 : A6t 2 4 z j = B6t 2 4 z := by kernel_rfl
theorem le6_t_2_5 : A6t 2 5 z j = B6t 2 5 z := by kernel_rfl
theorem le6_t_2_6 : A6t 2 6 z j = B6t 2 6 z := by kernel_rfl
theorem le6_t_2_7 : A6t 2 7 z j = B6t 2 7 z := by kernel_rfl
theorem le6_t_2_8 : A6t 2 8 z j = B6t 2 8 z := by kernel_rfl
theorem le6_t_2_9 : A6t 2 9 z j = B6t 2 9 z := by kernel_rfl
theorem le6_t_2_10 : A6t 2 10 z j = B6t 2 10 z := by kernel_rfl
theorem le6_t_2_11 : A6t 2 11 z j = B6t 2 11 z := by kernel_rfl
theorem le6_t_2_12 : A6t 2 12 z j = B6t 2 12 z := by kernel_rfl
theorem le6_t_2_13 : A6t 2 13 z j = B6t 2 13 z := by kernel_rfl
theorem le6_t_2_14 : A6t 2 14 z j = B6t 2 14 z := by kernel_rfl
theorem le6_t_2_15 : A6t 2 15 z j = B6t 2 15 z := by kernel_rfl
theorem le6_t_2 (z : Nat → Nat) (j : J) (a : Nat) (ha : a < 16) : (regionOf EE le6 (S 55 (lJ true ((a : Nat) : Int) ((2 : Nat) : Int) j) (H z) true)).map (see sl6) = some (55, H z, fokG (fgt .f32 (z 2) (z a)), [vB true, vP, vI ((a : Nat) : Int), vI ((2 : Nat) : Int), vB (bif fgt .f32 (z 2) (z a) then true else false)]) := by
  match a, ha with
  | 0, _ => exact le6_t_2_0 z j
  | 1, _ => exact le6_t_2_1 z j
  | 2, _ => exact le6_t_2_2 z j
  | 3, _ => exact le6_t_2_3 z j
  | 4, _ => exact le6_t_2_4 z j
  | 5, _ => exact le6_t_2_5 z j
  | 6, _ => exact le6_t_2_6 z j
  | 7, _ => exact le6_t_2_7 z j
  | 8, _ => exact le6_t_2_8 z j
  | 9, _ => exact le6_t_2_9 z j
  | 10, _ => exact le6_t_2_10 z j
  | 11, _ => exact le6_t_2_11 z j
  | 12, _ => exact le6_t_2_12 z j
  | 13, _ => exact le6_t_2_13 z j
  | 14, _ => exact le6_t_2_14 z j
  | 15, _ => exact le6_t_2_15 z j
  | k + 16, h => exact absurd h (by omega)
theorem le6_t_3_0 : A6t 3 0 z j = B6t 3 0 z := by kernel_rfl
theorem le6_t_3_1 : A6t 3 1 z j = B6t 3 1 z := by kernel_rfl
theorem le6_t_3_2 : A6t 3 2 z j = B6t 3 2 z := by kernel_rfl
theorem le6_t_3_3 : A6t 3 3 z j = B6t 3 3 z := by kernel_rfl
theorem le6_t_3_4 : A6t 3 4 z j = B6t 3 4 z := by kernel_rfl
theorem le6_t_3_5 : A6t 3 5 z j = B6t 3 5 z := by kernel_rfl
theorem le6_t_3_6 : A6t 3 6 z j = B6t 3 6 z := by kernel_rfl
theorem le6_t_3_7 : A6t 3 7 z j = B6t 3 7 z := by kernel_rfl
theorem le6_t_3_8 : A6t 3 8 z j = B6t 3 8 z := by kernel_rfl
theorem le6_t_3_9 : A6t 3 9 z j = B6t 3 9 z := by kernel_rfl
theorem le6_t_3_10 : A6t 3 10 z j = B6t 3 10 z := by kernel_rfl
theorem le6_t_3_11 : A6t 3 11 z j = B6t 3 11 z := by kernel_rfl
theorem le6_t_3_12 : A6t 3 12 z j = B6t 3 12 z := by kernel_rfl
theorem le6_t_3_13 : A6t 3 13 z j = B6t 3 13 z := by kernel_rfl
theorem le6_t_3_14 : A6t 3 14 z j = B6t 3 14 z := by kernel_rfl
theorem le6_t_3_15 : A6t 3 15 z j = B6t 3 15 z := by kernel_rfl
theorem le6_t_3 (z : Nat → Nat) (j : J) (a : Nat) (ha : a < 16) : (regionOf EE le6 (S 55 (lJ true ((a : Nat) : Int) ((3 : Nat) : Int) j) (H z) true)).map (see sl6) = some (55, H z, fokG (fgt .f32 (z 3) (z a)), [vB true, vP, vI ((a : Nat) : Int), vI ((3 : Nat) : Int), vB (bif fgt .f32 (z 3) (z a) then true else false)]) := by
  match a, ha with
  | 0, _ => exact le6_t_3_0 z j
  | 1, _ => exact le6_t_3_1 z j
  | 2, _ => exact le6_t_3_2 z j
  | 3, _ => exact le6_t_3_3 z j
  | 4, _ => exact le6_t_3_4 z j
  | 5, _ => exact le6_t_3_5 z j
  | 6, _ => exact le6_t_3_6 z j
  | 7, _ => exact le6_t_3_7 z j
  | 8, _ => exact le6_t_3_8 z j
  | 9, _ => exact le6_t_3_9 z j
  | 10, _ => exact le6_t_3_10 z j
  | 11, _ => exact le6_t_3_11 z j
  | 12, _ => exact le6_t_3_12 z j
  | 13, _ => exact le6_t_3_13 z j
  | 14, _ => exact le6_t_3_14 z j
  | 15, _ => exact le6_t_3_15 z j
  | k + 16, h => exact absurd h (by omega)
theorem le6_t_4_0 : A6t 4 0 z j = B6t 4 0 z := by kernel_rfl
theorem le6_t_4_1 : A6t 4 1 z j = B6t 4 1 z := by kernel_rfl
theorem le6_t_4_2 : A6t 4 2 z j = B6t 4 2 z := by kernel_rfl
theorem le6_t_4_3 : A6t 4 3 z j = B6t 4 3 z := by kernel_rfl
theorem le6_t_4_4 : A6t 4 4 z j = B6t 4 4 z := by kernel_rfl
theorem le6_t_4_5 : A6t 4 5 z j = B6t 4 5 z := by kernel_rfl
theorem le6_t_4_6 : A6t 4 6 z j = B6t 4 6 z := by kernel_rfl
theorem le6_t_4_7 : A6t 4 7 z j = B6t 4 7 z := by kernel_rfl
theorem le6_t_4_8 : A6t 4 8 z j = B6t 4 8 z := by kernel_rfl
theorem le6_t_4_9 : A6t 4 9 z j = B6t 4 9 z := by kernel_rfl
theorem le6_t_4_10 : A6t 4 10 z j = B6t 4 10 z := by kernel_rfl
theorem le6_t_4_11 : A6t 4 11 z j = B6t 4 11 z := by kernel_rfl
theorem le6_t_4_12 : A6t 4 12 z j = B6t 4 12 z := by kernel_rfl
theorem le6_t_4_13 : A6t 4 13 z j = B6t 4 13 z := by kernel_rfl
theorem le6_t_4_14 : A6t 4 14 z j = B6t 4 14 z := by kernel_rfl
theorem le6_t_4_15 : A6t 4 15 z j = B6t 4 15 z := by kernel_rfl
theorem le6_t_4 (z : Nat → Nat) (j : J) (a : Nat) (ha : a < 16) : (regionOf EE le6 (S 55 (lJ true ((a : Nat) : Int) ((4 : Nat) : Int) j) (H z) true)).map (see sl6) = some (55, H z, fokG (fgt .f32 (z 4) (z a)), [vB true, vP, vI ((a : Nat) : Int), vI ((4 : Nat) : Int), vB (bif fgt .f32 (z 4) (z a) then true else false)]) := by
  match a, ha with
  | 0, _ => exact le6_t_4_0 z j
  | 1, _ => exact le6_t_4_1 z j
  | 2, _ => exact le6_t_4_2 z j
  | 3, _ => exact le6_t_4_3 z j
  | 4, _ => exact le6_t_4_4 z j
  | 5, _ => exact le6_t_4_5 z j
  | 6, _ => exact le6_t_4_6 z j
  | 7, _ => exact le6_t_4_7 z j
  | 8, _ => exact le6_t_4_8 z j
  | 9, _ => exact le6_t_4_9 z j
  | 10, _ => exact le6_t_4_10 z j
  | 11, _ => exact le6_t_4_11 z j
  | 12, _ => exact le6_t_4_12 z j
  | 13, _ => exact le6_t_4_13 z j
  | 14, _ => exact le6_t_4_14 z j
  | 15, _ => exact le6_t_4_15 z j
  | k + 16, h => exact absurd h (by omega)
theorem le6_t_5_0 : A6t 5 0 z j = B6t 5 0 z := by kernel_rfl
theorem le6_t_5_1 : A6t 5 1 z j = B6t 5 1 z := by kernel_rfl
theorem le6_t_5_2 : A6t 5 2 z j = B6t 5 2 z := by kernel_rfl
theorem le6_t_5_3 : A6t 5 3 z j = B6t 5 3 z := by kernel_rfl
theorem le6_t_5_4 : A6t 5 4 z j = B6t 5 4 z := by kernel_rfl
theorem le6_t_5_5 : A6t 5 5 z j = B6t 5 5 z := by kernel_rfl
theorem le6_t_5_6 : A6t 5 6 z j = B6t 5 6 z := by kernel_rfl
theorem le6_t_5_7 : A6t 5 7 z j = B6t 5 7 z := by kernel_rfl
theorem le6_t_5_8 : A6t 5 8 z j = B6t 5 8 z := by kernel_rfl
theorem le6_t_5_9 : A6t 5 9 z j = B6t 5 9 z := by kernel_rfl
theorem le6_t_5_10 : A6t 5 10 z j = B6t 5 10 z := by kernel_rfl
theorem le6_t_5_11 : A6t 5 11 z j = B6t 5 11 z := by kernel_rfl
theorem le6_t_5_12 : A6t 5 12 z j = B6t 5 12 z := by kernel_rfl
theorem le6_t_5_13 : A6t 5 13 z j = B6t 5 13 z := by kernel_rfl
theorem le6_t_5_14 : A6t 5 14 z j = B6t 5 14 z := by kernel_rfl
theorem le6_t_5_15 : A6t 5 15 z j = B6t 5 15 z := by kernel_rfl
theorem le6_t_5 (z : Nat → Nat) (j : J) (a : Nat) (ha : a < 16) : (regionOf EE le6 (S 55 (lJ true ((a : Nat) : Int) ((5 : Nat) : Int) j) (H z) true)).map (see sl6) = some (55, H z, fokG (fgt .f32 (z 5) (z a)), [vB true, vP, vI ((a : Nat) : Int), vI ((5 : Nat) : Int), vB (bif fgt .f32 (z 5) (z a) then true else false)]) := by
  match a, ha with
  | 0, _ => exact le6_t_5_0 z j
  | 1, _ => exact le6_t_5_1 z j
  | 2, _ => exact le6_t_5_2 z j
  | 3, _ => exact le6_t_5_3 z j
  | 4, _ => exact le6_t_5_4 z j
  | 5, _ => exact le6_t_5_5 z j
  | 6, _ => exact le6_t_5_6 z j
  | 7, _ => exact le6_t_5_7 z j
  | 8, _ => exact le6_t_5_8 z j
  | 9, _ => exact le6_t_5_9 z j
  | 10, _ => exact le6_t_5_10 z j
  | 11, _ => exact le6_t_5_11 z j
  | 12, _ => exact le6_t_5_12 z j
  | 13, _ => exact le6_t_5_13 z j
  | 14, _ => exact le6_t_5_14 z j
  | 15, _ => exact le6_t_5_15 z j
  | k + 16, h => exact absurd h (by omega)
theorem le6_t_6_0 : A6t 6 0 z j = B6t 6 0 z := by kernel_rfl
theorem le6_t_6_1 : A6t 6 1 z j = B6t 6 1 z := by kernel_rfl
theorem le6_t_6_2 : A6t 6 2 z j = B6t 6 2 z := by kernel_rfl
theorem le6_t_6_3 : A6t 6 3 z j = B6t 6 3 z := by kernel_rfl
theorem le6_t_6_4 : A6t 6 4 z j = B6t 6 4 z := by kernel_rfl
theorem le6_t_6_5 : A6t 6 5 z j = B6t 6 5 z := by kernel_rfl
theorem le6_t_6_6 : A6t 6 6 z j = B6t 6 6 z := by kernel_rfl
theorem le6_t_6_7 : A6t 6 7 z j = B6t 6 7 z := by kernel_rfl
theorem le6_t_6_8 : A6t 6 8 z j = B6t 6 8 z := by kernel_rfl
theorem le6_t_6_9 : A6t 6 9 z j = B6t 6 9 z := by kernel_rfl
theorem le6_t_6_10 : A6t 6 10 z j = B6t 6 10 z := by kernel_rfl
theorem le6_t_6_11 : A6t 6 11 z j = B6t 6 11 z := by kernel_rfl
theorem le6_t_6_12 : A6t 6 12 z j = B6t 6 12 z := by kernel_rfl
theorem le6_t_6_13 : A6t 6 13 z j = B6t 6 13 z := by kernel_rfl
theorem le6_t_6_14 : A6t 6 14 z j = B6t 6 14 z := by kernel_rfl
theorem le6_t_6_15 : A6t 6 15 z j = B6t 6 15 z := by kernel_rfl
theorem le6_t_6 (z : Nat → Nat) (j : J) (a : Nat) (ha : a < 16) : (regionOf EE le6 (S 55 (lJ true ((a : Nat) : Int) ((6 : Nat) : Int) j) (H z) true)).map (see sl6) = some (55, H z, fokG (fgt .f32 (z 6) (z a)), [vB true, vP, vI ((a : Nat) : Int), vI ((6 : Nat) : Int), vB (bif fgt .f32 (z 6) (z a) then true else false)]) := by
  match a, ha with
  | 0, _ => exact le6_t_6_0 z j
  | 1, _ => exact le6_t_6_1 z j
  | 2, _ => exact le6_t_6_2 z j
  | 3, _ => exact le6_t_6_3 z j
  | 4, _ => exact le6_t_6_4 z j
  | 5, _ => exact le6_t_6_5 z j
  | 6, _ => exact le6_t_6_6 z j
  | 7, _ => exact le6_t_6_7 z j
  | 8, _ => exact le6_t_6_8 z j
  | 9, _ => exact le6_t_6_9 z j
  | 10, _ => exact le6_t_6_10 z j
  | 11, _ => exact le6_t_6_11 z j
  | 12, _ => exact le6_t_6_12 z j
  | 13, _ => exact le6_t_6_13 z j
  | 14, _ => exact le6_t_6_14 z j
  | 15, _ => exact le6_t_6_15 z j
  | k + 16, h => exact absurd h (by omega)
theorem le6_t_7_0 : A6t 7 0 z j = B6t 7 0 z := by kernel_rfl
theorem le6_t_7_1 : A6t 7 1 z j = B6t 7 1 z := by kernel_rfl
theorem le6_t_7_2 : A6t 7 2 z j = B6t 7 2 z := by kernel_rfl
theorem le6_t_7_3 : A6t 7 3 z j = B6t 7 3 z := by kernel_rfl
theorem le6_t_7_4 : A6t 7 4 z j = B6t 7 4 z := by kernel_rfl
theorem le6_t_7_5 : A6t 7 5 z j = B6t 7 5 z := by kernel_rfl
theorem le6_t_7_6 : A6t 7 6 z j = B6t 7 6 z := by kernel_rfl
theorem le6_t_7_7 : A6t 7 7 z j = B6t 7 7 z := by kernel_rfl
theorem le6_t_7_8 : A6t 7 8 z j = B6t 7 8 z := by kernel_rfl
theorem le6_t_7_9 : A6t 7 9 z j = B6t 7 9 z := by kernel_rfl
theorem le6_t_7_10 : A6t 7 10 z j = B6t 7 10 z := by kernel_rfl
theorem le6_t_7_11 : A6t 7 11 z j = B6t 7 11 z := by kernel_rfl
theorem le6_t_7_12 : A6t 7 12 z j = B6t 7 12 z := by kernel_rfl
theorem le6_t_7_13 : A6t 7 13 z j = B6t 7 13 z := by kernel_rfl
theorem le6_t_7_14 : A6t 7 14 z j = B6t 7 14 z := by kernel_rfl
theorem le6_t_7_15 : A6t 7 15 z j = B6t 7 15 z := by kernel_rfl
theorem le6_t_7 (z : Nat → Nat) (j : J) (a : Nat) (ha : a < 16) : (regionOf EE le6 (S 55 (lJ true ((a : Nat) : Int) ((7 : Nat) : Int) j) (H z) true)).map (see sl6) = some (55, H z, fokG (fgt .f32 (z 7) (z a)), [vB true, vP, vI ((a : Nat) : Int), vI ((7 : Nat) : Int), vB (bif fgt .f32 (z 7) (z a) then true else false)]) := by
  match a, ha with
  | 0, _ => exact le6_t_7_0 z j
  | 1, _ => exact le6_t_7_1 z j
  | 2, _ => exact le6_t_7_2 z j
  | 3, _ => exact le6_t_7_3 z j
  | 4, _ => exact le6_t_7_4 z j
  | 5, _ => exact le6_t_7_5 z j
  | 6, _ => exact le6_t_7_6 z j
  | 7, _ => exact le6_t_7_7 z j
  | 8, _ => exact le6_t_7_8 z j
  | 9, _ => exact le6_t_7_9 z j
  | 10, _ => exact le6_t_7_10 z j
  | 11, _ => exact le6_t_7_11 z j
  | 12, _ => exact le6_t_7_12 z j
  | 13, _ => exact le6_t_7_13 z j
  | 14, _ => exact le6_t_7_14 z j
  | 15, _ => exact le6_t_7_15 z j
  | k + 16, h => exact absurd h (by omega)
theorem le6_t_8_0 : A6t 8 0 z j = B6t 8 0 z := by kernel_rfl
theorem le6_t_8_1 : A6t 8 1 z j = B6t 8 1 z := by kernel_rfl
theorem le6_t_8_2 : A6t 8 2 z j = B6t 8 2 z := by kernel_rfl
theorem le6_t_8_3 : A6t 8 3 z j = B6t 8 3 z := by kernel_rfl
theorem le6_t_8_4 : A6t 8 4 z j = B6t 8 4 z := by kernel_rfl
theorem le6_t_8_5 : A6t 8 5 z j = B6t 8 5 z := by kernel_rfl
theorem le6_t_8_6 : A6t 8 6 z j = B6t 8 6 z := by kernel_rfl
theorem le6_t_8_7 : A6t 8 7 z j = B6t 8 7 z := by kernel_rfl
theorem le6_t_8_8 : A6t 8 8 z j = B6t 8 8 z := by kernel_rfl
theorem le6_t_8_9 : A6t 8 9 z j = B6t 8 9 z := by kernel_rfl
theorem le6_t_8_10 : A6t 8 10 z j = B6t 8 10 z := by kernel_rfl
theorem le6_t_8_11 : A6t 8 11 z j = B6t 8 11 z := by kernel_rfl
theorem le6_t_8_12 : A6t 8 12 z j = B6t 8 12 z := by kernel_rfl
theorem le6_t_8_13 : A6t 8 13 z j = B6t 8 13 z := by kernel_rfl
theorem le6_t_8_14 : A6t 8 14 z j = B6t 8 14 z := by kernel_rfl
theorem le6_t_8_15 : A6t 8 15 z j = B6t 8 15 z := by kernel_rfl
theorem le6_t_8 (z : Nat → Nat) (j : J) (a : Nat) (ha : a < 16) : (regionOf EE le6 (S 55 (lJ true ((a : Nat) : Int) ((8 : Nat) : Int) j) (H z) true)).map (see sl6) = some (55, H z, fokG (fgt .f32 (z 8) (z a)), [vB true, vP, vI ((a : Nat) : Int), vI ((8 : Nat) : Int), vB (bif fgt .f32 (z 8) (z a) then true else false)]) := by
  match a, ha with
  | 0, _ => exact le6_t_8_0 z j
  | 1, _ => exact le6_t_8_1 z j
  | 2, _ => exact le6_t_8_2 z j
  | 3, _ => exact le6_t_8_3 z j
  | 4, _ => exact le6_t_8_4 z j
  | 5, _ => exact le6_t_8_5 z j
  | 6, _ => exact le6_t_8_6 z j
  | 7, _ => exact le6_t_8_7 z j
  | 8, _ => exact le6_t_8_8 z j
  | 9, _ => exact le6_t_8_9 z j
  | 10, _ => exact le6_t_8_10 z j
  | 11, _ => exact le6_t_8_11 z j
  | 12, _ => exact le6_t_8_12 z j
  | 13, _ => exact le6_t_8_13 z j
  | 14, _ => exact le6_t_8_14 z j
  | 15, _ => exact le6_t_8_15 z j
  | k + 16, h => exact absurd h (by omega)
theorem le6_t_9_0 : A6t 9 0 z j = B6t 9 0 z := by kernel_rfl
theorem le6_t_9_1 : A6t 9 1 z j = B6t 9 1 z := by kernel_rfl
theorem le6_t_9_2 : A6t 9 2 z j = B6t 9 2 z := by kernel_rfl
theorem le6_t_9_3 : A6t 9 3 z j = B6t 9 3 z := by kernel_rfl
theorem le6_t_9_4 : A6t 9 4 z j = B6t 9 4 z := by kernel_rfl
theorem le6_t_9_5 : A6t 9 5 z j = B6t 9 5 z := by kernel_rfl
theorem le6_t_9_6 : A6t 9 6 z j = B6t 9 6 z := by kernel_rfl
theorem le6_t_9_7 : A6t 9 7 z j = B6t 9 7 z := by kernel_rfl
theorem le6_t_9_8 : A6t 9 8 z j = B6t 9 8 z := by kernel_rfl
theorem le6_t_9_9 : A6t 9 9 z j = B6t 9 9 z := by kernel_rfl
theorem le6_t_9_10 : A6t 9 10 z j = B6t 9 10 z := by kernel_rfl
theorem le6_t_9_11 : A6t 9 11 z j = B6t 9 11 z := by kernel_rfl
theorem le6_t_9_12 : A6t 9 12 z j = B6t 9 12 z := by kernel_rfl
theorem le6_t_9_13 : A6t 9 13 z j = B6t 9 13 z := by kernel_rfl
theorem le6_t_9_14 : A6t 9 14 z j = B6t 9 14 z := by kernel_rfl
theorem le6_t_9_15 : A6t 9 15 z j = B6t 9 15 z := by kernel_rfl
theorem le6_t_9 (z : Nat → Nat) (j : J) (a : Nat) (ha : a < 16) : (regionOf EE le6 (S 55 (lJ true ((a : Nat) : Int) ((9 : Nat) : Int) j) (H z) true)).map (see sl6) = some (55, H z, fokG (fgt .f32 (z 9) (z a)), [vB true, vP, vI ((a : Nat) : Int), vI ((9 : Nat) : Int), vB (bif fgt .f32 (z 9) (z a) then true else false)]) := by
  match a, ha with
  | 0, _ => exact le6_t_9_0 z j
  | 1, _ => exact le6_t_9_1 z j
  | 2, _ => exact le6_t_9_2 z j
  | 3, _ => exact le6_t_9_3 z j
  | 4, _ => exact le6_t_9_4 z j
  | 5, _ => exact le6_t_9_5 z j
  | 6, _ => exact le6_t_9_6 z j
  | 7, _ => exact le6_t_9_7 z j
  | 8, _ => exact le6_t_9_8 z j
  | 9, _ => exact le6_t_9_9 z j
  | 10, _ => exact le6_t_9_10 z j
  | 11, _ => exact le6_t_9_11 z j
  | 12, _ => exact le6_t_9_12 z j
  | 13, _ => exact le6_t_9_13 z j
  | 14, _ => exact le6_t_9_14 z j
  | 15, _ => exact le6_t_9_15 z j
  | k + 16, h => exact absurd h (by omega)
theorem le6_t_10_0 : A6t 10 0 z j = B6t 10 0 z := by kernel_rfl
theorem le6_t_10_1 : A6t 10 1 z j = B6t 10 1 z := by kernel_rfl
theorem le6_t_10_2 : A6t 10 2 z j = B6t 10 2 z := by kernel_rfl
theorem le6_t_10_3 : A6t 10 3 z j = B6t 10 3 z := by kernel_rfl
theorem le6_t_10_4 : A6t 10 4 z j = B6t 10 4 z := by kernel_rfl
theorem le6_t_10_5 : A6t 10 5 z j = B6t 10 5 z := by kernel_rfl
theorem le6_t_10_6 : A6t 10 6 z j = B6t 10 6 z := by kernel_rfl
theorem le6_t_10_7 : A6t 10 7 z j = B6t 10 7 z := by kernel_rfl
theorem le6_t_10_8 : A6t 10 8 z j = B6t 10 8 z := by kernel_rfl
theorem le6_t_10_9 : A6t 10 9 z j = B6t 10 9 z := by kernel_rfl
theorem le6_t_10_10 : A6t 10 10 z j = B6t 10 10 z := by kernel_rfl
theorem le6_t_10_11 : A6t 10 11 z j = B6t 10 11 z := by kernel_rfl
theorem le6_t_10_12 : A6t 10 12 z j = B6t 10 12 z := by kernel_rfl
theorem le6_t_10_13 : A6t 10 13 z j = B6t 10 13 z := by kernel_rfl
theorem le6_t_10_14 : A6t 10 14 z j = B6t 10 14 z := by kernel_rfl
theorem le6_t_10_15 : A6t 10 15 z j = B6t 10 15 z := by kernel_rfl
theorem le6_t_10 (z : Nat → Nat) (j : J) (a : Nat) (ha : a < 16) : (regionOf EE le6 (S 55 (lJ true ((a : Nat) : Int) ((10 : Nat) : Int) j) (H z) true)).map (see sl6) = some (55, H z, fokG (fgt .f32 (z 10) (z a)), [vB true, vP, vI ((a : Nat) : Int), vI ((10 : Nat) : Int), vB (bif fgt .f32 (z 10) (z a) then true else false)]) := by
  match a, ha with
  | 0, _ => exact le6_t_10_0 z j
  | 1, _ => exact le6_t_10_1 z j
  | 2, _ => exact le6_t_10_2 z j
  | 3, _ => exact le6_t_10_3 z j
  | 4, _ => exact le6_t_10_4 z j
  | 5, _ => exact le6_t_10_5 z j
  | 6, _ => exact le6_t_10_6 z j
  | 7, _ => exact le6_t_10_7 z j
  | 8, _ => exact le6_t_10_8 z j
  | 9, _ => exact le6_t_10_9 z j
  | 10, _ => exact le6_t_10_10 z j
  | 11, _ => exact le6_t_10_11 z j
  | 12, _ => exact le6_t_10_12 z j
  | 13, _ => exact le6_t_10_13 z j
  | 14, _ => exact le6_t_10_14 z j
  | 15, _ => exact le6_t_10_15 z j
  | k + 16, h => exact absurd h (by omega)
theorem le6_t_11_0 : A6t 11 0 z j = B6t 11 0 z := by kernel_rfl
theorem le6_t_11_1 : A6t 11 1 z j = B6t 11 1 z := by kernel_rfl
theorem le6_t_11_2 : A6t 11 2 z j = B6t 11 2 z := by kernel_rfl
theorem le6_t_11_3 : A6t 11 3 z j = B6t 11 3 z := by kernel_rfl
theorem le6_t_11_4 : A6t 11 4 z j = B6t 11 4 z := by kernel_rfl
theorem le6_t_11_5 : A6t 11 5 z j = B6t 11 5 z := by kernel_rfl
theorem le6_t_11_6 : A6t 11 6 z j = B6t 11 6 z := by kernel_rfl
theorem le6_t_11_7 : A6t 11 7 z j = B6t 11 7 z := by kernel_rfl
theorem le6_t_11_8 : A6t 11 8 z j = B6t 11 8 z := by kernel_rfl
theorem le6_t_11_9 : A6t 11 9 z j = B6t 11 9 z := by kernel_rfl
theorem le6_t_11_10 : A6t 11 10 z j = B6t 11 10 z := by kernel_rfl
theorem le6_t_11_11 : A6t 11 11 z j = B6t 11 11 z := by kernel_rfl
theorem le6_t_11_12 : A6t 11 12 z j = B6t 11 12 z := by kernel_rfl
theorem le6_t_11_13 : A6t 11 13 z j = B6t 11 13 z := by kernel_rfl
theorem le6_t_11_14 : A6t 11 14 z j = B6t 11 14 z := by kernel_rfl
theorem le6_t_11_15 : A6t 11 15 z j = B6t 11 15 z := by kernel_rfl
theorem le6_t_11 (z : Nat → Nat) (j : J) (a : Nat) (ha : a < 16) : (regionOf EE le6 (S 55 (lJ true ((a : Nat) : Int) ((11 : Nat) : Int) j) (H z) true)).map (see sl6) = some (55, H z, fokG (fgt .f32 (z 11) (z a)), [vB true, vP, vI ((a : Nat) : Int), vI ((11 : Nat) : Int), vB (bif fgt .f32 (z 11) (z a) then true else false)]) := by
  match a, ha with
  | 0, _ => exact le6_t_11_0 z j
  | 1, _ => exact le6_t_11_1 z j
  | 2, _ => exact le6_t_11_2 z j
  | 3, _ => exact le6_t_11_3 z j
  | 4, _ => exact le6_t_11_4 z j
  | 5, _ => exact le6_t_11_5 z j
  | 6, _ => exact le6_t_11_6 z j
  | 7, _ => exact le6_t_11_7 z j
  | 8, _ => exact le6_t_11_8 z j
  | 9, _ => exact le6_t_11_9 z j
  | 10, _ => exact le6_t_11_10 z j
  | 11, _ => exact le6_t_11_11 z j
  | 12, _ => exact le6_t_11_12 z j
  | 13, _ => exact le6_t_11_13 z j
  | 14, _ => exact le6_t_11_14 z j
  | 15, _ => exact le6_t_11_15 z j
  | k + 16, h => exact absurd h (by omega)
theorem le6_t_12_0 : A6t 12 0 z j = B6t 12 0 z := by kernel_rfl
theorem le6_t_12_1 : A6t 12 1 z j = B6t 12 1 z := by kernel_rfl
theorem le6_t_12_2 : A6t 12 2 z j = B6t 12 2 z := by kernel_rfl
theorem le6_t_12_3 : A6t 12 3 z j = B6t 12 3 z := by kernel_rfl
theorem le6_t_12_4 : A6t 12 4 z j = B6t 12 4 z := by kernel_rfl
theorem le6_t_12_5 : A6t 12 5 z j = B6t 12 5 z := by kernel_rfl
theorem le6_t_12_6 : A6t 12 6 z j = B6t 12 6 z := by kernel_rfl
theorem le6_t_12_7 : A6t 12 7 z j = B6t 12 7 z := by kernel_rfl
theorem le6_t_12_8 : A6t 12 8 z j = B6t 12 8 z := by kernel_rfl
theorem le6_t_12_9 : A6t 12 9 z j = B6t 12 9 z := by kernel_rfl
theorem le6_t_12_10 : A6t 12 10 z j = B6t 12 10 z := by kernel_rfl
theorem le6_t_12_11 : A6t 12 11 z j = B6t 12 11 z := by kernel_rfl
theorem le6_t_12_12 : A6t 12 12 z j = B6t 12 12 z := by kernel_rfl
theorem le6_t_12_13 : A6t 12 13 z j = B6t 12 13 z := by kernel_rfl
theorem le6_t_12_14 : A6t 12 14 z j = B6t 12 14 z := by kernel_rfl
theorem le6_t_12_15 : A6t 12 15 z j = B6t 12 15 z := by kernel_rfl
theorem le6_t_12 (z : Nat → Nat) (j : J) (a : Nat) (ha : a < 16) : (regionOf EE le6 (S 55 (lJ true ((a : Nat) : Int) ((12 : Nat) : Int) j) (H z) true)).map (see sl6) = some (55, H z, fokG (fgt .f32 (z 12) (z a)), [vB true, vP, vI ((a : Nat) : Int), vI ((12 : Nat) : Int), vB (bif fgt .f32 (z 12) (z a) then true else false)]) := by
  match a, ha with
  | 0, _ => exact le6_t_12_0 z j
  | 1, _ => exact le6_t_12_1 z j
  | 2, _ => exact le6_t_12_2 z j
  | 3, _ => exact le6_t_12_3 z j
  | 4, _ => exact le6_t_12_4 z j
  | 5, _ => exact le6_t_12_5 z j
  | 6, _ => exact le6_t_12_6 z j
  | 7, _ => exact le6_t_12_7 z j
  | 8, _ => exact le6_t_12_8 z j
  | 9, _ => exact le6_t_12_9 z j
  | 10, _ => exact le6_t_12_10 z j
  | 11, _ => exact le6_t_12_11 z j
  | 12, _ => exact le6_t_12_12 z j
  | 13, _ => exact le6_t_12_13 z j
  | 14, _ => exact le6_t_12_14 z j
  | 15, _ => exact le6_t_12_15 z j
  | k + 16, h => exact absurd h (by omega)
theorem le6_t_13_0 : A6t 13 0 z j = B6t 13 0 z := by kernel_rfl
theorem le6_t_13_1 : A6t 13 1 z j = B6t 13 1 z := by kernel_rfl
theorem le6_t_13_2 : A6t 13 2 z j = B6t 13 2 z := by kernel_rfl
theorem le6_t_13_3 : A6t 13 3 z j = B6t 13 3 z := by kernel_rfl
theorem le6_t_13_4 : A6t 13 4 z j = B6t 13 4 z := by kernel_rfl
theorem le6_t_13_5 : A6t 13 5 z j = B6t 13 5 z := by kernel_rfl
theorem le6_t_13_6 : A6t 13 6 z j = B6t 13 6 z := by kernel_rfl
theorem le6_t_13_7 : A6t 13 7 z j = B6t 13 7 z := by kernel_rfl
theorem le6_t_13_8 : A6t 13 8 z j = B6t 13 8 z := by kernel_rfl
theorem le6_t_13_9 : A6t 13 9 z j = B6t 13 9 z := by kernel_rfl
theorem le6_t_13_10 : A6t 13 10 z j = B6t 13 10 z := by kernel_rfl
theorem le6_t_13_11 : A6t 13 11 z j = B6t 13 11 z := by kernel_rfl
theorem le6_t_13_12 : A6t 13 12 z j = B6t 13 12 z := by kernel_rfl
theorem le6_t_13_13 : A6t 13 13 z j = B6t 13 13 z := by kernel_rfl
theorem le6_t_13_14 : A6t 13 14 z j = B6t 13 14 z := by kernel_rfl
theorem le6_t_13_15 : A6t 13 15 z j = B6t 13 15 z := by kernel_rfl
theorem le6_t_13 (z : Nat → Nat) (j : J) (a : Nat) (ha : a < 16) : (regionOf EE le6 (S 55 (lJ true ((a : Nat) : Int) ((13 : Nat) : Int) j) (H z) true)).map (see sl6) = some (55, H z, fokG (fgt .f32 (z 13) (z a)), [vB true, vP, vI ((a : Nat) : Int), vI ((13 : Nat) : Int), vB (bif fgt .f32 (z 13) (z a) then true else false)]) := by
  match a, ha with
  | 0, _ => exact le6_t_13_0 z j
  | 1, _ => exact le6_t_13_1 z j
  | 2, _ => exact le6_t_13_2 z j
  | 3, _ => exact le6_t_13_3 z j
  | 4, _ => exact le6_t_13_4 z j
  | 5, _ => exact le6_t_13_5 z j
  | 6, _ => exact le6_t_13_6 z j
  | 7, _ => exact le6_t_13_7 z j
  | 8, _ => exact le6_t_13_8 z j
  | 9, _ => exact le6_t_13_9 z j
  | 10, _ => exact le6_t_13_10 z j
  | 11, _ => exact le6_t_13_11 z j
  | 12, _ => exact le6_t_13_12 z j
  | 13, _ => exact le6_t_13_13 z j
  | 14, _ => exact le6_t_13_14 z j
  | 15, _ => exact le6_t_13_15 z j
  | k + 16, h => exact absurd h (by omega)
theorem le6_t_14_0 : A6t 14 0 z j = B6t 14 0 z := by kernel_rfl
theorem le6_t_14_1 : A6t 14 1 z j = B6t 14 1 z := by kernel_rfl
theorem le6_t_14_2 : A6t 14 2 z j = B6t 14 2 z := by kernel_rfl
theorem le6_t_14_3 : A6t 14 3 z j = B6t 14 3 z := by kernel_rfl
theorem le6_t_14_4 : A6t 14 4 z j = B6t 14 4 z := by kernel_rfl
theorem le6_t_14_5 : A6t 14 5 z j = B6t 14 5 z := by kernel_rfl
theorem le6_t_14_6 : A6t 14 6 z j = B6t 14 6 z := by kernel_rfl
theorem le6_t_14_7 : A6t 14 7 z j = B6t 14 7 z := by kernel_rfl
theorem le6_t_14_8 : A6t 14 8 z j = B6t 14 8 z := by kernel_rfl
theorem le6_t_14_9 : A6t 14 9 z j = B6t 14 9 z := by kernel_rfl
theorem le6_t_14_10 : A6t 14 10 z j = B6t 14 10 z := by kernel_rfl
theorem le6_t_14_11 : A6t 14 11 z j = B6t 14 11 z := by kernel_rfl
theorem le6_t_14_12 : A6t 14 12 z j = B6t 14 12 z := by kernel_rfl
theorem le6_t_14_13 : A6t 14 13 z j = B6t 14 13 z := by kernel_rfl
theorem le6_t_14_14 : A6t 14 14 z j = B6t 14 14 z := by kernel_rfl
theorem le6_t_14_15 : A6t 14 15 z j = B6t 14 15 z := by kernel_rfl
theorem le6_t_14 (z : Nat → Nat) (j : J) (a : Nat) (ha : a < 16) : (regionOf EE le6 (S 55 (lJ true ((a : Nat) : Int) ((14 : Nat) : Int) j) (H z) true)).map (see sl6) = some (55, H z, fokG (fgt .f32 (z 14) (z a)), [vB true, vP, vI ((a : Nat) : Int), vI ((14 : Nat) : Int), vB (bif fgt .f32 (z 14) (z a) then true else false)]) := by
  match a, ha with
  | 0, _ => exact le6_t_14_0 z j
  | 1, _ => exact le6_t_14_1 z j
  | 2, _ => exact le6_t_14_2 z j
  | 3, _ => exact le6_t_14_3 z j
  | 4, _ => exact le6_t_14_4 z j
  | 5, _ => exact le6_t_14_5 z j
  | 6, _ => exact le6_t_14_6 z j
  | 7, _ => exact le6_t_14_7 z j
  | 8, _ => exact le6_t_14_8 z j
  | 9, _ => exact le6_t_14_9 z j
  | 10, _ => exact le6_t_14_10 z j
  | 11, _ => exact le6_t_14_11 z j
  | 12, _ => exact le6_t_14_12 z j
  | 13, _ => exact le6_t_14_13 z j
  | 14, _ => exact le6_t_14_14 z j
  | 15, _ => exact le6_t_14_15 z j
  | k + 16, h => exact absurd h (by omega)
theorem le6_t_15_0 : A6t 15 0 z j = B6t 15 0 z := by kernel_rfl
theorem le6_t_15_1 : A6t 15 1 z j = B6t 15 1 z := by kernel_rfl
theorem le6_t_15_2 : A6t 15 2 z j = B6t 15 2 z := by kernel_rfl
theorem le6_t_15_3 : A6t 15 3 z j = B6t 15 3 z := by kernel_rfl
theorem le6_t_15_4 : A6t 15 4 z j = B6t 15 4 z := by kernel_rfl
theorem le6_t_15_5 : A6t 15 5 z j = B6t 15 5 z := by kernel_rfl
theorem le6_t_15_6 : A6t 15 6 z j = B6t 15 6 z := by kernel_rfl
theorem le6_t_15_7 : A6t 15 7 z j = B6t 15 7 z := by kernel_rfl
theorem le6_t_15_8 : A6t 15 8 z j = B6t 15 8 z := by kernel_rfl
theorem le6_t_15_9 : A6t 15 9 z j = B6t 15 9 z := by kernel_rfl
theorem le6_t_15_10 : A6t 15 10 z j = B6t 15 10 z := by kernel_rfl
theorem le6_t_15_11 : A6t 15 11 z j = B6t 15 11 z := by kernel_rfl
theorem le6_t_15_12 : A6t 15 12 z j = B6t 15 12 z := by kernel_rfl
theorem le6_t_15_13 : A6t 15 13 z j = B6t 15 13 z := by kernel_rfl
theorem le6_t_15_14 : A6t 15 14 z j = B6t 15 14 z := by kernel_rfl
theorem le6_t_15_15 : A6t 15 15 z j = B6t 15 15 z := by kernel_rfl
theorem le6_t_15 (z : Nat → Nat) (j : J) (a : Nat) (ha : a < 16) : (regionOf EE le6 (S 55 (lJ true ((a : Nat) : Int) ((15 : Nat) : Int) j) (H z) true)).map (see sl6) = some (55, H z, fokG (fgt .f32 (z 15) (z a)), [vB true, vP, vI ((a : Nat) : Int), vI ((15 : Nat) : Int), vB (bif fgt .f32 (z 15) (z a) then true else false)]) := by
  match a, ha with
  | 0, _ => exact le6_t_15_0 z j
  | 1, _ => exact le6_t_15_1 z j
  | 2, _ => exact le6_t_15_2 z j
  | 3, _ => exact le6_t_15_3 z j
  | 4, _ => exact le6_t_15_4 z j
  | 5, _ => exact le6_t_15_5 z j
  | 6, _ => exact le6_t_15_6 z j
  | 7, _ => exact le6_t_15_7 z j
  | 8, _ => exact le6_t_15_8 z j
  | 9, _ => exact le6_t_15_9 z j
  | 10, _ => exact le6_t_15_10 z j
  | 11, _ => exact le6_t_15_11 z j
  | 12, _ => exact le6_t_15_12 z j
  | 13, _ => exact le6_t_15_13 z j
  | 14, _ => exact le6_t_15_14 z j
  | 15, _ => exact le6_t_15_15 z j
  | k + 16, h => exact absurd h (by omega)
theorem le6_f_0_0 (z : Nat → Nat) (j : J) : (regionOf EE le6 (S 55 (lJ false ((0 : Nat) : Int) ((0 : Nat) : Int) j) (H z) true)).map (see sl6) = some (55, H z, true, [vB false, vP, vI ((0 : Nat) : Int), vI ((0 : Nat) : Int), vB (flt .f32 (z 0) (z 0))]) := by kernel_rfl
abbrev A6f (k a : Nat) (z : Nat → Nat) (j : J) := (regionOf EE le6 (S 55 (lJ false ((a : Nat) : Int) ((k : Nat) : Int) j) (H z) true)).map (see sl6)
abbrev B6f (k a : Nat) (z : Nat → Nat) := some (55, H z, true, [vB false, vP, vI ((a : Nat) : Int), vI ((k : Nat) : Int), vB (flt .f32 (z k) (z a))])
theorem le6_f_0_1 : A6f 0 1 z j = B6f 0 1 z := by kernel_rfl
theorem le6_f_0_2 : A6f 0 2 z j = B6f 0 2 z := by kernel_rfl
theorem le6_f_0_3 : A6f 0 3 z j = B6f 0 3 z := by kernel_rfl
theorem le6_f_0_4 : A6f 0 4 z j = B6f 0 4 z := by kernel_rfl
theorem le6_f_0_5 : A6f 0 5 z j = B6f 0 5 z := by kernel_rfl
theorem le6_f_0_6 : A6f 0 6 z j = B6f 0 6 z := by kernel_rfl
theorem le6_f_0_7 : A6f 0 7 z j = B6f 0 7 z := by kernel_rfl
theorem le6_f_0_8 : A6f 0 8 z j = B6f 0 8 z := by kernel_rfl
theorem le6_f_0_9 : A6f 0 9 z j = B6f 0 9 z := by kernel_rfl
theorem le6_f_0_10 : A6f 0 10 z j = B6f 0 10 z := by kernel_rfl
theorem le6_f_0_11 : A6f 0 11 z j = B6f 0 11 z := by kernel_rfl
theorem le6_f_0_12 : A6f 0 12 z j = B6f 0 12 z := by kernel_rfl
theorem le6_f_0_13 : A6f 0 13 z j = B6f 0 13 z := by kernel_rfl
theorem le6_f_0_14 : A6f 0 14 z j = B6f 0 14 z := by kernel_rfl
theorem le6_f_0_15 : A6f 0 15 z j = B6f 0 15 z := by kernel_rfl
theorem le6_f_0 (z : Nat → Nat) (j : J) (a : Nat) (ha : a < 16) : (regionOf EE le6 (S 55 (lJ false ((a : Nat) : Int) ((0 : Nat) : Int) j) (H z) true)).map (see sl6) = some (55, H z, true, [vB false, vP, vI ((a : Nat) : Int), vI ((0 : Nat) : Int), vB (flt .f32 (z 0) (z a))]) := by
  match a, ha with
  | 0, _ => exact le6_f_0_0 z j
  | 1, _ => exact le6_f_0_1 z j
  | 2, _ => exact le6_f_0_2 z j
  | 3, _ => exact le6_f_0_3 z j
  | 4, _ => exact le6_f_0_4 z j
  | 5, _ => exact le6_f_0_5 z j
  | 6, _ => exact le6_f_0_6 z j
  | 7, _ => exact le6_f_0_7 z j
  | 8, _ => exact le6_f_0_8 z j
  | 9, _ => exact le6_f_0_9 z j
  | 10, _ => exact le6_f_0_10 z j
  | 11, _ => exact le6_f_0_11 z j
  | 12, _ => exact le6_f_0_12 z j
  | 13, _ => exact le6_f_0_13 z j
  | 14, _ => exact le6_f_0_14 z j
  | 15, _ => exact le6_f_0_15 z j
  | k + 16, h => exact absurd h (by omega)
theorem le6_f_1_0 : A6f 1 0 z j = B6f 1 0 z := by kernel_rfl
theorem le6_f_1_1 : A6f 1 1 z j = B6f 1 1 z := by kernel_rfl
theorem le6_f_1_2 : A6f 1 2 z j = B6f 1 2 z := by kernel_rfl
theorem le6_f_1_3 : A6f 1 3 z j = B6f 1 3 z := by kernel_rfl
theorem le6_f_1_4 : A6f 1 4 z j = B6f 1 4 z := by kernel_rfl
theorem le6_f_1_5 : A6f 1 5 z j = B6f 1 5 z := by kernel_rfl
theorem le6_f_1_6 : A6f 1 6 z j = B6f 1 6 z := by kernel_rfl
theorem le6_f_1_7 : A6f 1 7 z j = B6f 1 7 z := by kernel_rfl
theorem le6_f_1_8 : A6f 1 8 z j = B6f 1 8 z := by kernel_rfl
theorem le6_f_1_9 : A6f 1 9 z j = B6f 1 9 z := by kernel_rfl
theorem le6_f_1_10 : A6f 1 10 z j = B6f 1 10 z := by kernel_rfl
theorem le6_f_1_11 : A6f 1 11 z j = B6f 1 11 z := by kernel_rfl
theorem le6_f_1_12 : A6f 1 12 z j = B6f 1 12 z := by kernel_rfl
theorem le6_f_1_13 : A6f 1 13 z j = B6f 1 13 z := by kernel_rfl
theorem le6_f_1_14 : A6f 1 14 z j = B6f 1 14 z := by kernel_rfl
theorem le6_f_1_15 : A6f 1 15 z j = B6f 1 15 z := by kernel_rfl
theorem le6_f_1 (z : Nat → Nat) (j : J) (a : Nat) (ha : a < 16) : (regionOf EE le6 (S 55 (lJ false ((a : Nat) : Int) ((1 : Nat) : Int) j) (H z) true)).map (see sl6) = some (55, H z, true, [vB false, vP, vI ((a : Nat) : Int), vI ((1 : Nat) : Int), vB (flt .f32 (z 1) (z a))]) := by
  match a, ha with
  | 0, _ => exact le6_f_1_0 z j
  | 1, _ => exact le6_f_1_1 z j
  | 2, _ => exact le6_f_1_2 z j
  | 3, _ => exact le6_f_1_3 z j
  | 4, _ => exact le6_f_1_4 z j
  | 5, _ => exact le6_f_1_5 z j
  | 6, _ => exact le6_f_1_6 z j
  | 7, _ => exact le6_f_1_7 z j
  | 8, _ => exact le6_f_1_8 z j
  | 9, _ => exact le6_f_1_9 z j
  | 10, _ => exact le6_f_1_10 z j
  | 11, _ => exact le6_f_1_11 z j
  | 12, _ => exact le6_f_1_12 z j
  | 13, _ => exact le6_f_1_13 z j
  | 14, _ => exact le6_f_1_14 z j
  | 15, _ => exact le6_f_1_15 z j
  | k + 16, h => exact absurd h (by omega)
theorem le6_f_2_0 : A6f 2 0 z j = B6f 2 0 z := by kernel_rfl
theorem le6_f_2_1 : A6f 2 1 z j = B6f 2 1 z := by kernel_rfl
theorem le6_f_2_2 : A6f 2 2 z j = B6f 2 2 z := by kernel_rfl
theorem le6_f_2_3 : A6f 2 3 z j = B6f 2 3 z := by kernel_rfl
theorem le6_f_2_4 : A6f 2 4 z j = B6f 2 4 z := by kernel_rfl
theorem le6_f_2_5 : A6f 2 5 z j = B6f 2 5 z := by kernel_rfl
theorem le6_f_2_6 : A6f 2 6 z j = B6f 2 6 z := by kernel_rfl
theorem le6_f_2_7 : A6f 2 7 z j = B6f 2 7 z := by kernel_rfl
theorem le6_f_2_8 : A6f 2 8 z j = B6f 2 8 z := by kernel_rfl
theorem le6_f_2_9 : A6f 2 9 z j = B6f 2 9 z := by kernel_rfl
theorem le6_f_2_10 : A6f 2 10 z j = B6f 2 10 z := by kernel_rfl
theorem le6_f_2_11 : A6f 2 11 z j = B6f 2 11 z := by kernel_rfl
theorem le6_f_2_12 : A6f 2 12 z j = B6f 2 12 z := by kernel_rfl
theorem le6_f_2_13 : A6f 2 13 z j = B6f 2 13 z := by kernel_rfl
theorem le6_f_2_14 : A6f 2 14 z j = B6f 2 14 z := by kernel_rfl
theorem le6_f_2_15 : A6f 2 15 z j = B6f 2 15 z := by kernel_rfl
theorem le6_f_2 (z : Nat → Nat) (j : J) (a : Nat) (ha : a < 16) : (regionOf EE le6 (S 55 (lJ false ((a : Nat) : Int) ((2 : Nat) : Int) j) (H z) true)).map (see sl6) = some (55, H z, true, [vB false, vP, vI ((a : Nat) : Int), vI ((2 : Nat) : Int), vB (flt .f32 (z 2) (z a))]) := by
  match a, ha with
  | 0, _ => exact le6_f_2_0 z j
  | 1, _ => exact le6_f_2_1 z j
  | 2, _ => exact le6_f_2_2 z j
  | 3, _ => exact le6_f_2_3 z j
  | 4, _ => exact le6_f_2_4 z j
  | 5, _ => exact le6_f_2_5 z j
  | 6, _ => exact le6_f_2_6 z j
  | 7, _ => exact le6_f_2_7 z j
  | 8, _ => exact le6_f_2_8 z j
  | 9, _ => exact le6_f_2_9 z j
  | 10, _ => exact le6_f_2_10 z j
  | 11, _ => exact le6_f_2_11 z j
  | 12, _ => exact le6_f_2_12 z j
  | 13, _ => exact le6_f_2_13 z j
  | 14, _ => exact le6_f_2_14 z j
  | 15, _ => exact le6_f_2_15 z j
  | k + 16, h => exact absurd h (by omega)
theorem le6_f_3_0 : A6f 3 0 z j = B6f 3 0 z := by kernel_rfl
theorem le6_f_3_1 : A6f 3 1 z j = B6f 3 1 z := by kernel_rfl
theorem le6_f_3_2 : A6f 3 2 z j = B6f 3 2 z := by kernel_rfl
theorem le6_f_3_3 : A6f 3 3 z j = B6f 3 3 z := by kernel_rfl
theorem le6_f_3_4 : A6f 3 4 z j = B6f 3 4 z := by kernel_rfl
theorem le6_f_3_5 : A6f 3 5 z j = B6f 3 5 z := by kernel_rfl
theorem le6_f_3_6 : A6f 3 6 z j = B6f 3 6 z := by kernel_rfl
theorem le6_f_3_7 : A6f 3 7 z j = B6f 3 7 z := by kernel_rfl
theorem le6_f_3_8 : A6f 3 8 z j = B6f 3 8 z := by kernel_rfl
theorem le6_f_3_9 : A6f 3 9 z j = B6f 3 9 z := by kernel_rfl
theorem le6_f_3_10 : A6f 3 10 z j = B6f 3 10 z := by kernel_rfl
theorem le6_f_3_11 : A6f 3 11 z j = B6f 3 11 z := by kernel_rfl
theorem le6_f_3_12 : A6f 3 12 z j = B6f 3 12 z := by kernel_rfl
theorem le6_f_3_13 : A6f 3 13 z j = B6f 3 13 z := by kernel_rfl
theorem le6_f_3_14 : A6f 3 14 z j = B6f 3 14 z := by kernel_rfl
theorem le6_f_3_15 : A6f 3 15 z j = B6f 3 15 z := by kernel_rfl
theorem le6_f_3 (z : Nat → Nat) (j : J) (a : Nat) (ha : a < 16) : (regionOf EE le6 (S 55 (lJ false ((a : Nat) : Int) ((3 : Nat) : Int) j) (H z) true)).map (see sl6) = some (55, H z, true, [vB false, vP, vI ((a : Nat) : Int), vI ((3 : Nat) : Int), vB (flt .f32 (z 3) (z a))]) := by
  match a, ha with
  | 0, _ => exact le6_f_3_0 z j
  | 1, _ => exact le6_f_3_1 z j
  | 2, _ => exact le6_f_3_2 z j
  | 3, _ => exact le6_f_3_3 z j
  | 4, _ => exact le6_f_3_4 z j
  | 5, _ => exact le6_f_3_5 z j
  | 6, _ => exact le6_f_3_6 z j
  | 7, _ => exact le6_f_3_7 z j
  | 8, _ => exact le6_f_3_8 z j
  | 9, _ => exact le6_f_3_9 z j
  | 10, _ => exact le6_f_3_10 z j
  | 11, _ => exact le6_f_3_11 z j
  | 12, _ => exact le6_f_3_12 z j
  | 13, _ => exact le6_f_3_13 z j
  | 14, _ => exact le6_f_3_14 z j
  | 15, _ => exact le6_f_3_15 z j
  | k + 16, h => exact absurd h (by omega)
theorem le6_f_4_0 : A6f 4 0 z j = B6f 4 0 z := by kernel_rfl
theorem le6_f_4_1 : A6f 4 1 z j = B6f 4 1 z := by kernel_rfl
theorem le6_f_4_2 : A6f 4 2 z j = B6f 4 2 z := by kernel_rfl
theorem le6_f_4_3 : A6f 4 3 z j = B6f 4 3 z := by kernel_rfl
theorem le6_f_4_4 : A6f 4 4 z j = B6f 4 4 z := by kernel_rfl
theorem le6_f_4_5 : A6f 4 5 z j = B6f 4 5 z := by kernel_rfl
theorem le6_f_4_6 : A6f 4 6 z j = B6f 4 6 z := by kernel_rfl
theorem le6_f_4_7 : A6f 4 7 z j = B6f 4 7 z := by kernel_rfl
theorem le6_f_4_8 : A6f 4 8 z j = B6f 4 8 z := by kernel_rfl
theorem le6_f_4_9 : A6f 4 9 z j = B6f 4 9 z := by kernel_rfl
theorem le6_f_4_10 : A6f 4 10 z j = B6f 4 10 z := by kernel_rfl
theorem le6_f_4_11 : A6f 4 11 z j = B6f 4 11 z := by kernel_rfl
theorem le6_f_4_12 : A6f 4 12 z j = B6f 4 12 z := by kernel_rfl
theorem le6_f_4_13 : A6f 4 13 z j = B6f 4 13 z := by kernel_rfl
theorem le6_f_4_14 : A6f 4 14 z j = B6f 4 14 z := by kernel_rfl
theorem le6_f_4_15 : A6f 4 15 z j = B6f 4 15 z := by kernel_rfl
theorem le6_f_4 (z : Nat → Nat) (j : J) (a : Nat) (ha : a < 16) : (regionOf EE le6 (S 55 (lJ false ((a : Nat) : Int) ((4 : Nat) : Int) j) (H z) true)).map (see sl6) = some (55, H z, true, [vB false, vP, vI ((a : Nat) : Int), vI ((4 : Nat) : Int), vB (flt .f32 (z 4) (z a))]) := by
  match a, ha with
  | 0, _ => exact le6_f_4_0 z j
  | 1, _ => exact le6_f_4_1 z j
  | 2, _ => exact le6_f_4_2 z j
  | 3, _ => exact le6_f_4_3 z j
  | 4, _ => exact le6_f_4_4 z j
  | 5, _ => exact le6_f_4_5 z j
  | 6, _ => exact le6_f_4_6 z j
  | 7, _ => exact le6_f_4_7 z j
  | 8, _ => exact le6_f_4_8 z j
  | 9, _ => exact le6_f_4_9 z j
  | 10, _ => exact le6_f_4_10 z j
  | 11, _ => exact le6_f_4_11 z j
  | 12, _ => exact le6_f_4_12 z j
  | 13, _ => exact le6_f_4_13 z j
  | 14, _ => exact le6_f_4_14 z j
  | 15, _ => exact le6_f_4_15 z j
  | k + 16, h => exact absurd h (by omega)
theorem le6_f_5_0 : A6f 5 0 z j = B6f 5 0 z := by kernel_rfl
theorem le6_f_5_1 : A6f 5 1 z j = B6f 5 1 z := by kernel_rfl
theorem le6_f_5_2 : A6f 5 2 z j = B6f 5 2 z := by kernel_rfl
theorem le6_f_5_3 : A6f 5 3 z j = B6f 5 3 z := by kernel_rfl
theorem le6_f_5_4 : A6f 5 4 z j = B6f 5 4 z := by kernel_rfl
theorem le6_f_5_5 : A6f 5 5 z j = B6f 5 5 z := by kernel_rfl
theorem le6_f_5_6 : A6f 5 6 z j = B6f 5 6 z := by kernel_rfl
theorem le6_f_5_7 : A6f 5 7 z j = B6f 5 7 z := by kernel_rfl
theorem le6_f_5_8 : A6f 5 8 z j = B6f 5 8 z := by kernel_rfl
theorem le6_f_5_9 : A6f 5 9 z j = B6f 5 9 z := by kernel_rfl
theorem le6_f_5_10 : A6f 5 10 z j = B6f 5 10 z := by kernel_rfl
theorem le6_f_5_11 : A6f 5 11 z j = B6f 5 11 z := by kernel_rfl
theorem le6_f_5_12 : A6f 5 12 z j = B6f 5 12 z := by kernel_rfl
theorem le6_f_5_13 : A6f 5 13 z j = B6f 5 13 z := by kernel_rfl
theorem le6_f_5_14 : A6f 5 14 z j = B6f 5 14 z := by kernel_rfl
theorem le6_f_5_15 : A6f 5 15 z j = B6f 5 15 z := by kernel_rfl
theorem le6_f_5 (z : Nat → Nat) (j : J) (a : Nat) (ha : a < 16) : (regionOf EE le6 (S 55 (lJ false ((a : Nat) : Int) ((5 : Nat) : Int) j) (H z) true)).map (see sl6) = some (55, H z, true, [vB false, vP, vI ((a : Nat) : Int), vI ((5 : Nat) : Int), vB (flt .f32 (z 5) (z a))]) := by
  match a, ha with
  | 0, _ => exact le6_f_5_0 z j
  | 1, _ => exact le6_f_5_1 z j
  | 2, _ => exact le6_f_5_2 z j
  | 3, _ => exact le6_f_5_3 z j
  | 4, _ => exact le6_f_5_4 z j
  | 5, _ => exact le6_f_5_5 z j
  | 6, _ => exact le6_f_5_6 z j
  | 7, _ => exact le6_f_5_7 z j
  | 8, _ => exact le6_f_5_8 z j
  | 9, _ => exact le6_f_5_9 z j
  | 10, _ => exact le6_f_5_10 z j
  | 11, _ => exact le6_f_5_11 z j
  | 12, _ => exact le6_f_5_12 z j
  | 13, _ => exact le6_f_5_13 z j
  | 14, _ => exact le6_f_5_14 z j
  | 15, _ => exact le6_f_5_15 z j
  | k + 16, h => exact absurd h (by omega)
theorem le6_f_6_0 : A6f 6 0 z j = B6f 6 0 z := by kernel_rfl
theorem le6_f_6_1 : A6f 6 1 z j = B6f 6 1 z := by kernel_rfl
theorem le6_f_6_2 : A6f 6 2 z j = B6f 6 2 z := by kernel_rfl
theorem le6_f_6_3 : A6f 6 3 z j = B6f 6 3 z := by kernel_rfl
theorem le6_f_6_4 : A6f 6 4 z j = B6f 6 4 z := by kernel_rfl
theorem le6_f_6_5 : A6f 6 5 z j = B6f 6 5 z := by kernel_rfl
theorem le6_f_6_6 : A6f 6 6 z j = B6f 6 6 z := by kernel_rfl
theorem le6_f_6_7 : A6f 6 7 z j = B6f 6 7 z := by kernel_rfl
theorem le6_f_6_8 : A6f 6 8 z j = B6f 6 8 z := by kernel_rfl
theorem le6_f_6_9 : A6f 6 9 z j = B6f 6 9 z := by kernel_rfl
theorem le6_f_6_10 : A6f 6 10 z j = B6f 6 10 z := by kernel_rfl
theorem le6_f_6_11 : A6f 6 11 z j = B6f 6 11 z := by kernel_rfl
theorem le6_f_6_12 : A6f 6 12 z j = B6f 6 12 z := by kernel_rfl
theorem le6_f_6_13 : A6f 6 13 z j = B6f 6 13 z := by kernel_rfl
theorem le6_f_6_14 : A6f 6 14 z j = B6f 6 14 z := by kernel_rfl
theorem le6_f_6_15 : A6f 6 15 z j = B6f 6 15 z := by kernel_rfl
theorem le6_f_6 (z : Nat → Nat) (j : J) (a : Nat) (ha : a < 16) : (regionOf EE le6 (S 55 (lJ false ((a : Nat) : Int) ((6 : Nat) : Int) j) (H z) true)).map (see sl6) = some (55, H z, true, [vB false, vP, vI ((a : Nat) : Int), vI ((6 : Nat) : Int), vB (flt .f32 (z 6) (z a))]) := by
  match a, ha with
  | 0, _ => exact le6_f_6_0 z j
  | 1, _ => exact le6_f_6_1 z j
  | 2, _ => exact le6_f_6_2 z j
  | 3, _ => exact le6_f_6_3 z j
  | 4, _ => exact le6_f_6_4 z j
  | 5, _ => exact le6_f_6_5 z j
  | 6, _ => exact le6_f_6_6 z j
  | 7, _ => exact le6_f_6_7 z j
  | 8, _ => exact le6_f_6_8 z j
  | 9, _ => exact le6_f_6_9 z j
  | 10, _ => exact le6_f_6_10 z j
  | 11, _ => exact le6_f_6_11 z j
  | 12, _ => exact le6_f_6_12 z j
  | 13, _ => exact le6_f_6_13 z j
  | 14, _ => exact le6_f_6_14 z j
  | 15, _ => exact le6_f_6_15 z j
  | k + 16, h => exact absurd h (by omega)
theorem le6_f_7_0 : A6f 7 0 z j = B6f 7 0 z := by kernel_rfl
theorem le6_f_7_1 : A6f 7 1 z j = B6f 7 1 z := by kernel_rfl
theorem le6_f_7_2 : A6f 7 2 z j = B6f 7 2 z := by kernel_rfl
theorem le6_f_7_3 : A6f 7 3 z j = B6f 7 3 z := by kernel_rfl
theorem le6_f_7_4 : A6f 7 4 z j = B6f 7 4 z := by kernel_rfl
theorem le6_f_7_5 : A6f 7 5 z j = B6f 7 5 z := by kernel_rfl
theorem le6_f_7_6 : A6f 7 6 z j = B6f 7 6 z := by kernel_rfl
theorem le6_f_7_7 : A6f 7 7 z j = B6f 7 7 z := by kernel_rfl
theorem le6_f_7_8 : A6f 7 8 z j = B6f 7 8 z := by kernel_rfl
theorem le6_f_7_9 : A6f 7 9 z j = B6f 7 9 z := by kernel_rfl
theorem le6_f_7_10 : A6f 7 10 z j = B6f 7 10 z := by kernel_rfl
theorem le6_f_7_11 : A6f 7 11 z j = B6f 7 11 z := by kernel_rfl
theorem le6_f_7_12 : A6f 7 12 z j = B6f 7 12 z := by kernel_rfl
theorem le6_f_7_13 : A6f 7 13 z j = B6f 7 13 z := by kernel_rfl
theorem le6_f_7_14 : A6f 7 14 z j = B6f 7 14 z := by kernel_rfl
theorem le6_f_7_15 : A6f 7 15 z j = B6f 7 15 z := by kernel_rfl
theorem le6_f_7 (z : Nat → Nat) (j : J) (a : Nat) (ha : a < 16) : (regionOf EE le6 (S 55 (lJ false ((a : Nat) : Int) ((7 : Nat) : Int) j) (H z) true)).map (see sl6) = some (55, H z, true, [vB false, vP, vI ((a : Nat) : Int), vI ((7 : Nat) : Int), vB (flt .f32 (z 7) (z a))]) := by
  match a, ha with
  | 0, _ => exact le6_f_7_0 z j
  | 1, _ => exact le6_f_7_1 z j
  | 2, _ => exact le6_f_7_2 z j
  | 3, _ => exact le6_f_7_3 z j
  | 4, _ => exact le6_f_7_4 z j
  | 5, _ => exact le6_f_7_5 z j
  | 6, _ => exact le6_f_7_6 z j
  | 7, _ => exact le6_f_7_7 z j
  | 8, _ => exact le6_f_7_8 z j
  | 9, _ => exact le6_f_7_9 z j
  | 10, _ => exact le6_f_7_10 z j
  | 11, _ => exact le6_f_7_11 z j
  | 12, _ => exact le6_f_7_12 z j
  | 13, _ => exact le6_f_7_13 z j
  | 14, _ => exact le6_f_7_14 z j
  | 15, _ => exact le6_f_7_15 z j
  | k + 16, h => exact absurd h (by omega)
theorem le6_f_8_0 : A6f 8 0 z j = B6f 8 0 z := by kernel_rfl
theorem le6_f_8_1 : A6f 8 1 z j = B6f 8 1 z := by kernel_rfl
theorem le6_f_8_2 : A6f 8 2 z j = B6f 8 2 z := by kernel_rfl
theorem le6_f_8_3 : A6f 8 3 z j = B6f 8 3 z := by kernel_rfl
theorem le6_f_8_4 : A6f 8 4 z j = B6f 8 4 z := by kernel_rfl
theorem le6_f_8_5 : A6f 8 5 z j = B6f 8 5 z := by kernel_rfl
theorem le6_f_8_6 : A6f 8 6 z j = B6f 8 6 z := by kernel_rfl
theorem le6_f_8_7 : A6f 8 7 z j = B6f 8 7 z := by kernel_rfl
theorem le6_f_8_8 : A6f 8 8 z j = B6f 8 8 z := by kernel_rfl
theorem le6_f_8_9 : A6f 8 9 z j = B6f 8 9 z := by kernel_rfl
theorem le6_f_8_10 : A6f 8 10 z j = B6f 8 10 z := by kernel_rfl
theorem le6_f_8_11 : A6f 8 11 z j = B6f 8 11 z := by kernel_rfl
theorem le6_f_8_12 : A6f 8 12 z j = B6f 8 12 z := by kernel_rfl
theorem le6_f_8_13 : A6f 8 13 z j = B6f 8 13 z := by kernel_rfl
theorem le6_f_8_14 : A6f 8 14 z j = B6f 8 14 z := by kernel_rfl
theorem le6_f_8_15 : A6f 8 15 z j = B6f 8 15 z := by kernel_rfl
theorem le6_f_8 (z : Nat → Nat) (j : J) (a : Nat) (ha : a < 16) : (regionOf EE le6 (S 55 (lJ false ((a : Nat) : Int) ((8 : Nat) : Int) j) (H z) true)).map (see sl6) = some (55, H z, true, [vB false, vP, vI ((a : Nat) : Int), vI ((8 : Nat) : Int), vB (flt .f32 (z 8) (z a))]) := by
  match a, ha with
  | 0, _ => exact le6_f_8_0 z j
  | 1, _ => exact le6_f_8_1 z j
  | 2, _ => exact le6_f_8_2 z j
  | 3, _ => exact le6_f_8_3 z j
  | 4, _ => exact le6_f_8_4 z j
  | 5, _ => exact le6_f_8_5 z j
  | 6, _ => exact le6_f_8_6 z j
  | 7, _ => exact le6_f_8_7 z j
  | 8, _ => exact le6_f_8_8 z j
  | 9, _ => exact le6_f_8_9 z j
  | 10, _ => exact le6_f_8_10 z j
  | 11, _ => exact le6_f_8_11 z j
  | 12, _ => exact le6_f_8_12 z j
  | 13, _ => exact le6_f_8_13 z j
  | 14, _ => exact le6_f_8_14 z j
  | 15, _ => exact le6_f_8_15 z j
  | k + 16, h => exact absurd h (by omega)
theorem le6_f_9_0 : A6f 9 0 z j = B6f 9 0 z := by kernel_rfl
theorem le6_f_9_1 : A6f 9 1 z j = B6f 9 1 z := by kernel_rfl
theorem le6_f_9_2 : A6f 9 2 z j = B6f 9 2 z := by kernel_rfl
theorem le6_f_9_3 : A6f 9 3 z j = B6f 9 3 z := by kernel_rfl
theorem le6_f_9_4 : A6f 9 4 z j = B6f 9 4 z := by kernel_rfl
theorem le6_f_9_5 : A6f 9 5 z j = B6f 9 5 z := by kernel_rfl
theorem le6_f_9_6 : A6f 9 6 z j = B6f 9 6 z := by kernel_rfl
theorem le6_f_9_7 : A6f 9 7 z j = B6f 9 7 z := by kernel_rfl
theorem le6_f_9_8 : A6f 9 8 z j = B6f 9 8 z := by kernel_rfl
theorem le6_f_9_9 : A6f 9 9 z j = B6f 9 9 z := by kernel_rfl
theorem le6_f_9_10 : A6f 9 10 z j = B6f 9 10 z := by kernel_rfl
theorem le6_f_9_11 : A6f 9 11 z j = B6f 9 11 z := by kernel_rfl
theorem le6_f_9_12 : A6f 9 12 z j = B6f 9 12 z := by kernel_rfl
theorem le6_f_9_13 : A6f 9 13 z j = B6f 9 13 z := by kernel_rfl
theorem le6_f_9_14 : A6f 9 14 z j = B6f 9 14 z := by kernel_rfl
theorem le6_f_9_15 : A6f 9 15 z j = B6f 9 15 z := by kernel_rfl
theorem le6_f_9 (z : Nat → Nat) (j : J) (a : Nat) (ha : a < 16) : (regionOf EE le6 (S 55 (lJ false ((a : Nat) : Int) ((9 : Nat) : Int) j) (H z) true)).map (see sl6) = some (55, H z, true, [vB false, vP, vI ((a : Nat) : Int), vI ((9 : Nat) : Int), vB (flt .f32 (z 9) (z a))]) := by
  match a, ha with
  | 0, _ => exact le6_f_9_0 z j
  | 1, _ => exact le6_f_9_1 z j
  | 2, _ => exact le6_f_9_2 z j
  | 3, _ => exact le6_f_9_3 z j
  | 4, _ => exact le6_f_9_4 z j
  | 5, _ => exact le6_f_9_5 z j
  | 6, _ => exact le6_f_9_6 z j
  | 7, _ => exact le6_f_9_7 z j
  | 8, _ => exact le6_f_9_8 z j
  | 9, _ => exact le6_f_9_9 z j
  | 10, _ => exact le6_f_9_10 z j
  | 11, _ => exact le6_f_9_11 z j
  | 12, _ => exact le6_f_9_12 z j
  | 13, _ => exact le6_f_9_13 z j
  | 14, _ => exact le6_f_9_14 z j
  | 15, _ => exact le6_f_9_15 z j
  | k + 16, h => exact absurd h (by omega)
theorem le6_f_10_0 : A6f 10 0 z j = B6f 10 0 z := by kernel_rfl
theorem le6_f_10_1 : A6f 10 1 z j = B6f 10 1 z := by kernel_rfl
theorem le6_f_10_2 : A6f 10 2 z j = B6f 10 2 z := by kernel_rfl
theorem le6_f_10_3 : A6f 10 3 z j = B6f 10 3 z := by kernel_rfl
theorem le6_f_10_4 : A6f 10 4 z j = B6f 10 4 z := by kernel_rfl
theorem le6_f_10_5 : A6f 10 5 z j = B6f 10 5 z := by kernel_rfl
theorem le6_f_10_6 : A6f 10 6 z j = B6f 10 6 z := by kernel_rfl
theorem le6_f_10_7 : A6f 10 7 z j = B6f 10 7 z := by kernel_rfl
theorem le6_f_10_8 : A6f 10 8 z j = B6f 10 8 z := by kernel_rfl
theorem le6_f_10_9 : A6f 10 9 z j = B6f 10 9 z := by kernel_rfl
theorem le6_f_10_10 : A6f 10 10 z j = B6f 10 10 z := by kernel_rfl
theorem le6_f_10_11 : A6f 10 11 z j = B6f 10 11 z := by kernel_rfl
theorem le6_f_10_12 : A6f 10 12 z j = B6f 10 12 z := by kernel_rfl
theorem le6_f_10_13 : A6f 10 13 z j = B6f 10 13 z := by kernel_rfl
theorem le6_f_10_14 : A6f 10 14 z j = B6f 10 14 z := by kernel_rfl
theorem le6_f_10_15 : A6f 10 15 z j = B6f 10 15 z := by kernel_rfl
theorem le6_f_10 (z : Nat → Nat) (j : J) (a : Nat) (ha : a < 16) : (regionOf EE le6 (S 55 (lJ false ((a : Nat) : Int) ((10 : Nat) : Int) j) (H z) true)).map (see sl6) = some (55, H z, true, [vB false, vP, vI ((a : Nat) : Int), vI ((10 : Nat) : Int), vB (flt .f32 (z 10) (z a))]) := by
  match a, ha with
  | 0, _ => exact le6_f_10_0 z j
  | 1, _ => exact le6_f_10_1 z j
  | 2, _ => exact le6_f_10_2 z j
  | 3, _ => exact le6_f_10_3 z j
  | 4, _ => exact le6_f_10_4 z j
  | 5, _ => exact le6_f_10_5 z j
  | 6, _ => exact le6_f_10_6 z j
  | 7, _ => exact le6_f_10_7 z j
  | 8, _ => exact le6_f_10_8 z j
  | 9, _ => exact le6_f_10_9 z j
  | 10, _ => exact le6_f_10_10 z j
  | 11, _ => exact le6_f_10_11 z j
  | 12, _ => exact le6_f_10_12 z j
  | 13, _ => exact le6_f_10_13 z j
  | 14, _ => exact le6_f_10_14 z j
  | 15, _ => exact le6_f_10_15 z j
  | k + 16, h => exact absurd h (by omega)
theorem le6_f_11_0 : A6f 11 0 z j = B6f 11 0 z := by kernel_rfl
theorem le6_f_11_1 : A6f 11 1 z j = B6f 11 1 z := by kernel_rfl
theorem le6_f_11_2 : A6f 11 2 z j = B6f 11 2 z := by kernel_rfl
theorem le6_f_11_3 : A6f 11 3 z j = B6f 11 3 z := by kernel_rfl
theorem le6_f_11_4 : A6f 11 4 z j = B6f 11 4 z := by kernel_rfl
theorem le6_f_11_5 : A6f 11 5 z j = B6f 11 5 z := by kernel_rfl
theorem le6_f_11_6 : A6f 11 6 z j = B6f 11 6 z := by kernel_rfl
theorem le6_f_11_7 : A6f 11 7 z j = B6f 11 7 z := by kernel_rfl
theorem le6_f_11_8 : A6f 11 8 z j = B6f 11 8 z := by kernel_rfl
theorem le6_f_11_9 : A6f 11 9 z j = B6f 11 9 z := by kernel_rfl
theorem le6_f_11_10 : A6f 11 10 z j = B6f 11 10 z := by kernel_rfl
theorem le6_f_11_11 : A6f 11 11 z j = B6f 11 11 z := by kernel_rfl
theorem le6_f_11_12 : A6f 11 12 z j = B6f 11 12 z := by kernel_rfl
theorem le6_f_11_13 : A6f 11 13 z j = B6f 11 13 z := by kernel_rfl
theorem le6_f_11_14 : A6f 11 14 z j = B6f 11 14 z := by kernel_rfl
theorem le6_f_11_15 : A6f 11 15 z j = B6f 11 15 z := by kernel_rfl
theorem le6_f_11 (z : Nat → Nat) (j : J) (a : Nat) (ha : a < 16) : (regionOf EE le6 (S 55 (lJ false ((a : Nat) : Int) ((11 : Nat) : Int) j) (H z) true)).map (see sl6) = some (55, H z, true, [vB false, vP, vI ((a : Nat) : Int), vI ((11 : Nat) : Int), vB (flt .f32 (z 11) (z a))]) := by
  match a, ha with
  | 0, _ => exact le6_f_11_0 z j
  | 1, _ => exact le6_f_11_1 z j
  | 2, _ => exact le6_f_11_2 z j
  | 3, _ => exact le6_f_11_3 z j
  | 4, _ => exact le6_f_11_4 z j
  | 5, _ => exact le6_f_11_5 z j
  | 6, _ => exact le6_f_11_6 z j
  | 7, _ => exact le6_f_11_7 z j
  | 8, _ => exact le6_f_11_8 z j
  | 9, _ => exact le6_f_11_9 z j
  | 10, _ => exact le6_f_11_10 z j
  | 11, _ => exact le6_f_11_11 z j
  | 12, _ => exact le6_f_11_12 z j
  | 13, _ => exact le6_f_11_13 z j
  | 14, _ => exact le6_f_11_14 z j
  | 15, _ => exact le6_f_11_15 z j
  | k + 16, h => exact absurd h (by omega)
theorem le6_f_12_0 : A6f 12 0 z j = B6f 12 0 z := by kernel_rfl
theorem le6_f_12_1 : A6f 12 1 z j = B6f 12 1 z := by kernel_rfl
theorem le6_f_12_2 : A6f 12 2 z j = B6f 12 2 z := by kernel_rfl
theorem le6_f_12_3 : A6f 12 3 z j = B6f 12 3 z := by kernel_rfl
theorem le6_f_12_4 : A6f 12 4 z j = B6f 12 4 z := by kernel_rfl
theorem le6_f_12_5 : A6f 12 5 z j = B6f 12 5 z := by kernel_rfl
theorem le6_f_12_6 : A6f 12 6 z j = B6f 12 6 z := by kernel_rfl
theorem le6_f_12_7 : A6f 12 7 z j = B6f 12 7 z := by kernel_rfl
theorem le6_f_12_8 : A6f 12 8 z j = B6f 12 8 z := by kernel_rfl
theorem le6_f_12_9 : A6f 12 9 z j = B6f 12 9 z := by kernel_rfl
theorem le6_f_12_10 : A6f 12 10 z j = B6f 12 10 z := by kernel_rfl
theorem le6_f_12_11 : A6f 12 11 z j = B6f 12 11 z := by kernel_rfl
theorem le6_f_12_12 : A6f 12 12 z j = B6f 12 12 z := by kernel_rfl
theorem le6_f_12_13 : A6f 12 13 z j = B6f 12 13 z := by kernel_rfl
theorem le6_f_12_14 : A6f 12 14 z j = B6f 12 14 z := by kernel_rfl
theorem le6_f_12_15 : A6f 12 15 z j = B6f 12 15 z := by kernel_rfl
theorem le6_f_12 (z : Nat → Nat) (j : J) (a : Nat) (ha : a < 16) : (regionOf EE le6 (S 55 (lJ false ((a : Nat) : Int) ((12 : Nat) : Int) j) (H z) true)).map (see sl6) = some (55, H z, true, [vB false, vP, vI ((a : Nat) : Int), vI ((12 : Nat) : Int), vB (flt .f32 (z 12) (z a))]) := by
  match a, ha with
  | 0, _ => exact le6_f_12_0 z j
  | 1, _ => exact le6_f_12_1 z j
  | 2, _ => exact le6_f_12_2 z j
  | 3, _ => exact le6_f_12_3 z j
  | 4, _ => exact le6_f_12_4 z j
  | 5, _ => exact le6_f_12_5 z j
  | 6, _ => exact le6_f_12_6 z j
  | 7, _ => exact le6_f_12_7 z j
  | 8, _ => exact le6_f_12_8 z j
  | 9, _ => exact le6_f_12_9 z j
  | 10, _ => exact le6_f_12_10 z j
  | 11, _ => exact le6_f_12_11 z j
  | 12, _ => exact le6_f_12_12 z j
  | 13, _ => exact le6_f_12_13 z j
  | 14, _ => exact le6_f_12_14 z j
  | 15, _ => exact le6_f_12_15 z j
  | k + 16, h => exact absurd h (by omega)
theorem le6_f_13_0 : A6f 13 0 z j = B6f 13 0 z := by kernel_rfl
theorem le6_f_13_1 : A6f 13 1 z j = B6f 13 1 z := by kernel_rfl
theorem le6_f_13_2 : A6f 13 2 z j = B6f 13 2 z := by kernel_rfl
theorem le6_f_13_3 : A6f 13 3 z j = B6f 13 3 z := by kernel_rfl
theorem le6_f_13_4 : A6f 13 4 z j = B6f 13 4 z := by kernel_rfl
theorem le6_f_13_5 : A6f 13 5 z j = B6f 13 5 z := by kernel_rfl
theorem le6_f_13_6 : A6f 13 6 z j = B6f 13 6 z := by kernel_rfl
theorem le6_f_13_7 : A6f 13 7 z j = B6f 13 7 z := by kernel_rfl
theorem le6_f_13_8 : A6f 13 8 z j = B6f 13 8 z := by kernel_rfl
theorem le6_f_13_9 : A6f 13 9 z j = B6f 13 9 z := by kernel_rfl
theorem le6_f_13_10 : A6f 13 10 z j = B6f 13 10 z := by kernel_rfl
theorem le6_f_13_11 : A6f 13 11 z j = B6f 13 11 z := by kernel_rfl
theorem le6_f_13_12 : A6f 13 12 z j = B6f 13 12 z := by kernel_rfl
theorem le6_f_13_13 : A6f 13 13 z j = B6f 13 13 z := by kernel_rfl
theorem le6_f_13_14 : A6f 13 14 z j = B6f 13 14 z := by kernel_rfl
theorem le6_f_13_15 : A6f 13 15 z j = B6f 13 15 z := by kernel_rfl
theorem le6_f_13 (z : Nat → Nat) (j : J) (a : Nat) (ha : a < 16) : (regionOf EE le6 (S 55 (lJ false ((a : Nat) : Int) ((13 : Nat) : Int) j) (H z) true)).map (see sl6) = some (55, H z, true, [vB false, vP, vI ((a : Nat) : Int), vI ((13 : Nat) : Int), vB (flt .f32 (z 13) (z a))]) := by
  match a, ha with
  | 0, _ => exact le6_f_13_0 z j
  | 1, _ => exact le6_f_13_1 z j
  | 2, _ => exact le6_f_13_2 z j
  | 3, _ => exact le6_f_13_3 z j
  | 4, _ => exact le6_f_13_4 z j
  | 5, _ => exact le6_f_13_5 z j
  | 6, _ => exact le6_f_13_6 z j
  | 7, _ => exact le6_f_13_7 z j
  | 8, _ => exact le6_f_13_8 z j
  | 9, _ => exact le6_f_13_9 z j
  | 10, _ => exact le6_f_13_10 z j
  | 11, _ => exact le6_f_13_11 z j
  | 12, _ => exact le6_f_13_12 z j
  | 13, _ => exact le6_f_13_13 z j
  | 14, _ => exact le6_f_13_14 z j
  | 15, _ => exact le6_f_13_15 z j
  | k + 16, h => exact absurd h (by omega)
theorem le6_f_14_0 : A6f 14 0 z j = B6f 14 0 z := by kernel_rfl
theorem le6_f_14_1 : A6f 14 1 z j = B6f 14 1 z := by kernel_rfl
theorem le6_f_14_2 : A6f 14 2 z j = B6f 14 2 z := by kernel_rfl
theorem le6_f_14_3 : A6f 14 3 z j = B6f 14 3 z := by kernel_rfl
theorem le6_f_14_4 : A6f 14 4 z j = B6f 14 4 z := by kernel_rfl
theorem le6_f_14_5 : A6f 14 5 z j = B6f 14 5 z := by kernel_rfl
theorem le6_f_14_6 : A6f 14 6 z j = B6f 14 6 z := by kernel_rfl
theorem le6_f_14_7 : A6f 14 7 z j = B6f 14 7 z := by kernel_rfl
theorem le6_f_14_8 : A6f 14 8 z j = B6f 14 8 z := by kernel_rfl
theorem le6_f_14_9 : A6f 14 9 z j = B6f 14 9 z := by kernel_rfl
theorem le6_f_14_10 : A6f 14 10 z j = B6f 14 10 z := by kernel_rfl
theorem le6_f_14_11 : A6f 14 11 z j = B6f 14 11 z := by kernel_rfl
theorem le6_f_14_12 : A6f 14 12 z j = B6f 14 12 z := by kernel_rfl
theorem le6_f_14_13 : A6f 14 13 z j = B6f 14 13 z := by kernel_rfl
theorem le6_f_14_14 : A6f 14 14 z j = B6f 14 14 z := by kernel_rfl
theorem le6_f_14_15 : A6f 14 15 z j = B6f 14 15 z := by kernel_rfl
theorem le6_f_14 (z : Nat → Nat) (j : J) (a : Nat) (ha : a < 16) : (regionOf EE le6 (S 55 (lJ false ((a : Nat) : Int) ((14 : Nat) : Int) j) (H z) true)).map (see sl6) = some (55, H z, true, [vB false, vP, vI ((a : Nat) : Int), vI ((14 : Nat) : Int), vB (flt .f32 (z 14) (z a))]) := by
  match a, ha with
  | 0, _ => exact le6_f_14_0 z j
  | 1, _ => exact le6_f_14_1 z j
  | 2, _ => exact le6_f_14_2 z j
  | 3, _ => exact le6_f_14_3 z j
  | 4, _ => exact le6_f_14_4 z j
  | 5, _ => exact le6_f_14_5 z j
  | 6, _ => exact le6_f_14_6 z j
  | 7, _ => exact le6_f_14_7 z j
  | 8, _ => exact le6_f_14_8 z j
  | 9, _ => exact le6_f_14_9 z j
  | 10, _ => exact le6_f_14_10 z j
  | 11, _ => exact le6_f_14_11 z j
  | 12, _ => exact le6_f_14_12 z j
  | 13, _ => exact le6_f_14_13 z j
  | 14, _ => exact le6_f_14_14 z j
  | 15, _ => exact le6_f_14_15 z j
  | k + 16, h => exact absurd h (by omega)
theorem le6_f_15_0 : A6f 15 0 z j = B6f 15 0 z := by kernel_rfl
theorem le6_f_15_1 : A6f 15 1 z j = B6f 15 1 z := by kernel_rfl
theorem le6_f_15_2 : A6f 15 2 z j = B6f 15 2 z := by kernel_rfl
theorem le6_f_15_3 : A6f 15 3 z j = B6f 15 3 z := by kernel_rfl
theorem le6_f_15_4 : A6f 15 4 z j = B6f 15 4 z := by kernel_rfl
theorem le6_f_15_5 : A6f 15 5 z j = B6f 15 5 z := by kernel_rfl
theorem le6_f_15_6 : A6f 15 6 z j = B6f 15 6 z := by kernel_rfl
theorem le6_f_15_7 : A6f 15 7 z j = B6f 15 7 z := by kernel_rfl
theorem le6_f_15_8 : A6f 15 8 z j = B6f 15 8 z := by kernel_rfl
theorem le6_f_15_9 : A6f 15 9 z j = B6f 15 9 z := by kernel_rfl
theorem le6_f_15_10 : A6f 15 10 z j = B6f 15 10 z := by kernel_rfl
theorem le6_f_15_11 : A6f 15 11 z j = B6f 15 11 z := by kernel_rfl
theorem le6_f_15_12 : A6f 15 12 z j = B6f 15 12 z := by kernel_rfl
theorem le6_f_15_13 : A6f 15 13 z j = B6f 15 13 z := by kernel_rfl
theorem le6_f_15_14 : A6f 15 14 z j = B6f 15 14 z := by kernel_rfl
theorem le6_f_15_15 : A6f 15 15 z j = B6f 15 15 z := by kernel_rfl
theorem le6_f_15 (z : Nat → Nat) (j : J) (a : Nat) (ha : a < 16) : (regionOf EE le6 (S 55 (lJ false ((a : Nat) : Int) ((15 : Nat) : Int) j) (H z) true)).map (see sl6) = some (55, H z, true, [vB false, vP, vI ((a : Nat) : Int), vI ((15 : Nat) : Int), vB (flt .f32 (z 15) (z a))]) := by
  match a, ha with
  | 0, _ => exact le6_f_15_0 z j
  | 1, _ => exact le6_f_15_1 z j
  | 2, _ => exact le6_f_15_2 z j
  | 3, _ => exact le6_f_15_3 z j
  | 4, _ => exact le6_f_15_4 z j
  | 5, _ => exact le6_f_15_5 z j
  | 6, _ => exact le6_f_15_6 z j
  | 7, _ => exact le6_f_15_7 z j
  | 8, _ => exact le6_f_15_8 z j
  | 9, _ => exact le6_f_15_9 z j
  | 10, _ => exact le6_f_15_10 z j
  | 11, _ => exact le6_f_15_11 z j
  | 12, _ => exact le6_f_15_12 z j
  | 13, _ => exact le6_f_15_13 z j
  | 14, _ => exact le6_f_15_14 z j
  | 15, _ => exact le6_f_15_15 z j
  | k + 16, h => exact absurd h (by omega)
end
theorem le6_some (z : Nat → Nat) (g : Bool) (i a : Nat) (hi : i < 16) (ha : a < 16) (j : J) : ∃ k, (regionOf EE le6 (S 55 (lJ g (a : Int) (i : Int) j) (H z) true)).map (see sl6) = some (55, H z, k, [vB g, vP, vI a, vI i, vB (cmpE g (z i) (z a))]) ∧ k = true := by
  have e : ∀ x : Bool, (bif x then true else false) = x := fun x => by cases x <;> rfl
  cases g with
  | true =>
    refine ⟨_, ?_, fokG_true (fgt .f32 (z i) (z a))⟩
    show _ = some (55, H z, fokG (fgt .f32 (z i) (z a)), [vB true, vP, vI a, vI i, vB (fgt .f32 (z i) (z a))])
    rw [← e (fgt .f32 (z i) (z a))]
    conv => rhs; rw [e (fgt .f32 (z i) (z a))]
    match i, hi with
    | 0, _ => simpa only [e] using le6_t_0 z j a ha
    | 1, _ => simpa only [e] using le6_t_1 z j a ha
    | 2, _ => simpa only [e] using le6_t_2 z j a ha
    | 3, _ => simpa only [e] using le6_t_3 z j a ha
    | 4, _ => simpa only [e] using le6_t_4 z j a ha
    | 5, _ => simpa only [e] using le6_t_5 z j a ha
    | 6, _ => simpa only [e] using le6_t_6 z j a ha
    | 7, _ => simpa only [e] using le6_t_7 z j a ha
    | 8, _ => simpa only [e] using le6_t_8 z j a ha
    | 9, _ => simpa only [e] using le6_t_9 z j a ha
    | 10, _ => simpa only [e] using le6_t_10 z j a ha
    | 11, _ => simpa only [e] using le6_t_11 z j a ha
    | 12, _ => simpa only [e] using le6_t_12 z j a ha
    | 13, _ => simpa only [e] using le6_t_13 z j a ha
    | 14, _ => simpa only [e] using le6_t_14 z j a ha
    | 15, _ => simpa only [e] using le6_t_15 z j a ha
    | k + 16, h => exact absurd h (by omega)
  | false =>
    refine ⟨true, ?_, rfl⟩
    match i, hi with
    | 0, _ => exact le6_f_0 z j a ha
    | 1, _ => exact le6_f_1 z j a ha
    | 2, _ => exact le6_f_2 z j a ha
    | 3, _ => exact le6_f_3 z j a ha
    | 4, _ => exact le6_f_4 z j a ha
    | 5, _ => exact le6_f_5 z j a ha
    | 6, _ => exact le6_f_6 z j a ha
    | 7, _ => exact le6_f_7 z j a ha
    | 8, _ => exact le6_f_8 z j a ha
    | 9, _ => exact le6_f_9 z j a ha
    | 10, _ => exact le6_f_10 z j a ha
    | 11, _ => exact le6_f_11 z j a ha
    | 12, _ => exact le6_f_12 z j a ha
    | 13, _ => exact le6_f_13 z j a ha
    | 14, _ => exact le6_f_14 z j a ha
    | 15, _ => exact le6_f_15 z j a ha
    | k + 16, h => exact absurd h (by omega)
theorem le10_see_0 (z : Nat → Nat) (g : Bool) (i : Int) (j : J) : (regionOf EE le10 (S 55 (lJ g ((0 : Nat) : Int) i j) (H z) true)).map (see [4, 5]) = some (55, H z, true, [vF (z 0), vI ((0 : Nat) : Int)]) := by kernel_rfl
theorem le10_see_1 (z : Nat → Nat) (g : Bool) (i : Int) (j : J) : (regionOf EE le10 (S 55 (lJ g ((1 : Nat) : Int) i j) (H z) true)).map (see [4, 5]) = some (55, H z, true, [vF (z 1), vI ((1 : Nat) : Int)]) := by kernel_rfl
theorem le10_see_2 (z : Nat → Nat) (g : Bool) (i : Int) (j : J) : (regionOf EE le10 (S 55 (lJ g ((2 : Nat) : Int) i j) (H z) true)).map (see [4, 5]) = some (55, H z, true, [vF (z 2), vI ((2 : Nat) : Int)]) := by kernel_rfl
theorem le10_see_3 (z : Nat → Nat) (g : Bool) (i : Int) (j : J) : (regionOf EE le10 (S 55 (lJ g ((3 : Nat) : Int) i j) (H z) true)).map (see [4, 5]) = some (55, H z, true, [vF (z 3), vI ((3 : Nat) : Int)]) := by kernel_rfl
theorem le10_see_4 (z : Nat → Nat) (g : Bool) (i : Int) (j : J) : (regionOf EE le10 (S 55 (lJ g ((4 : Nat) : Int) i j) (H z) true)).map (see [4, 5]) = some (55, H z, true, [vF (z 4), vI ((4 : Nat) : Int)]) := by kernel_rfl
theorem le10_see_5 (z : Nat → Nat) (g : Bool) (i : Int) (j : J) : (regionOf EE le10 (S 55 (lJ g ((5 : Nat) : Int) i j) (H z) true)).map (see [4, 5]) = some (55, H z, true, [vF (z 5), vI ((5 : Nat) : Int)]) := by kernel_rfl
theorem le10_see_6 (z : Nat → Nat) (g : Bool) (i : Int) (j : J) : (regionOf EE le10 (S 55 (lJ g ((6 : Nat) : Int) i j) (H z) true)).map (see [4, 5]) = some (55, H z, true, [vF (z 6), vI ((6 : Nat) : Int)]) := by kernel_rfl
theorem le10_see_7 (z : Nat → Nat) (g : Bool) (i : Int) (j : J) : (regionOf EE le10 (S 55 (lJ g ((7 : Nat) : Int) i j) (H z) true)).map (see [4, 5]) = some (55, H z, true, [vF (z 7), vI ((7 : Nat) : Int)]) := by kernel_rfl
theorem le10_see_8 (z : Nat → Nat) (g : Bool) (i : Int) (j : J) : (regionOf EE le10 (S 55 (lJ g ((8 : Nat) : Int) i j) (H z) true)).map (see [4, 5]) = some (55, H z, true, [vF (z 8), vI ((8 : Nat) : Int)]) := by kernel_rfl
theorem le10_see_9 (z : Nat → Nat) (g : Bool) (i : Int) (j : J) : (regionOf EE le10 (S 55 (lJ g ((9 : Nat) : Int) i j) (H z) true)).map (see [4, 5]) = some (55, H z, true, [vF (z 9), vI ((9 : Nat) : Int)]) := by kernel_rfl
theorem le10_see_10 (z : Nat → Nat) (g : Bool) (i : Int) (j : J) : (regionOf EE le10 (S 55 (lJ g ((10 : Nat) : Int) i j) (H z) true)).map (see [4, 5]) = some (55, H z, true, [vF (z 10), vI ((10 : Nat) : Int)]) := by kernel_rfl
theorem le10_see_11 (z : Nat → Nat) (g : Bool) (i : Int) (j : J) : (regionOf EE le10 (S 55 (lJ g ((11 : Nat) : Int) i j) (H z) true)).map (see [4, 5]) = some (55, H z, true, [vF (z 11), vI ((11 : Nat) : Int)]) := by kernel_rfl
theorem le10_see_12 (z : Nat → Nat) (g : Bool) (i : Int) (j : J) : (regionOf EE le10 (S 55 (lJ g ((12 : Nat) : Int) i j) (H z) true)).map (see [4, 5]) = some (55, H z, true, [vF (z 12), vI ((12 : Nat) : Int)]) := by kernel_rfl
theorem le10_see_13 (z : Nat → Nat) (g : Bool) (i : Int) (j : J) : (regionOf EE le10 (S 55 (lJ g ((13 : Nat) : Int) i j) (H z) true)).map (see [4, 5]) = some (55, H z, true, [vF (z 13), vI ((13 : Nat) : Int)]) := by kernel_rfl
theorem le10_see_14 (z : Nat → Nat) (g : Bool) (i : Int) (j : J) : (regionOf EE le10 (S 55 (lJ g ((14 : Nat) : Int) i j) (H z) true)).map (see [4, 5]) = some (55, H z, true, [vF (z 14), vI ((14 : Nat) : Int)]) := by kernel_rfl
theorem le10_see_15 (z : Nat → Nat) (g : Bool) (i : Int) (j : J) : (regionOf EE le10 (S 55 (lJ g ((15 : Nat) : Int) i j) (H z) true)).map (see [4, 5]) = some (55, H z, true, [vF (z 15), vI ((15 : Nat) : Int)]) := by kernel_rfl
theorem le10_see (z : Nat → Nat) (g : Bool) (i : Int) (j : J) (a : Nat) (ha : a < 16) : (regionOf EE le10 (S 55 (lJ g ((a : Nat) : Int) i j) (H z) true)).map (see [4, 5]) = some (55, H z, true, [vF (z a), vI ((a : Nat) : Int)]) := by
  match a, ha with
  | 0, _ => exact le10_see_0 z g i j
  | 1, _ => exact le10_see_1 z g i j
  | 2, _ => exact le10_see_2 z g i j
  | 3, _ => exact le10_see_3 z g i j
  | 4, _ => exact le10_see_4 z g i j
  | 5, _ => exact le10_see_5 z g i j
  | 6, _ => exact le10_see_6 z g i j
  | 7, _ => exact le10_see_7 z g i j
  | 8, _ => exact le10_see_8 z g i j
  | 9, _ => exact le10_see_9 z g i j
  | 10, _ => exact le10_see_10 z g i j
  | 11, _ => exact le10_see_11 z g i j
  | 12, _ => exact le10_see_12 z g i j
  | 13, _ => exact le10_see_13 z g i j
  | 14, _ => exact le10_see_14 z g i j
  | 15, _ => exact le10_see_15 z g i j
  | k + 16, h => exact absurd h (by omega)

end
end En
end Go.Proofs.Ytfgomdngffaffaa
end
