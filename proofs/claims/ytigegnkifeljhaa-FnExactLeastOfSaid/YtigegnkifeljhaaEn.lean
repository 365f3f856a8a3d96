/-
  The ends of curves: program and model find the same one. No condition.
-/
import Derived.Test.YtigegnkifeljhaaC
import Derived.Test.YtigegnkifeljhaaEt
import Derived.Test.YtigegnkifeljhaaEe
set_option linter.unusedSectionVars false
set_option linter.unusedVariables false
noncomputable section
namespace Go.Proofs.Ytigegnkifeljhaa
namespace En
open Go Go.ChangeShapes Go.WideShapes Go.ChangeAt Go.RowKit Ev

/-! ### states -/
abbrev J := Nat → Value × Bool
def up (j : J) (i : Nat) (p : Value × Bool) : J := fun m => bif Nat.beq m i then p else j m
def S (n : Nat) (j : J) (h : Heap) (ok : Bool) : St := ⟨(List.range n).map j, h, ok⟩
def vI (z : Int) : Value × Bool := (.int .i64 z, true)
def vB (b : Bool) : Value × Bool := (.bool b, true)
def vF (x : Nat) : Value × Bool := (.float .f32 x, true)
def zrow (z : Nat → Nat) : List Value := (List.range 16).map fun i => .float .f32 (z i)
def vA (z : Nat → Nat) : Value × Bool := (.agg (zrow z).toArray, true)
def vP : Value × Bool := (.pointer (some ⟨0, 0, none⟩), true)
def H (z : Nat → Nat) : Heap := [some (zrow z), none, none]
def j0 : J := fun _ => (undef, false)
theorem up_self {j : J} {i : Nat} {p : Value × Bool} (h : j i = p) : up j i p = j := by
  funext m
  unfold up
  cases hb : Nat.beq m i with
  | true => rw [cond_true, Nat.eq_of_beq_eq_true hb, h]
  | false => rfl
def see (sl : List Nat) (s : St) : Nat × Heap × Bool × List (Value × Bool) := (s.tmps.length, s.heap, s.ok, sl.map fun i => s.tmps.getD i (undef, false))
theorem S_of {s : St} {n : Nat} (h : s.tmps.length = n) : s = S n (fun m => s.tmps.getD m (undef, false)) s.heap s.ok := by
  unfold S
  have : s.tmps = (List.range n).map fun m => s.tmps.getD m (undef, false) := by
    refine List.ext_getElem? fun i => ?_
    rw [List.getElem?_map]
    by_cases hi : i < n
    · rw [List.getElem?_range hi, Option.map_some, List.getElem?_eq_getElem (by omega), List.getD_eq_getElem?_getD, List.getElem?_eq_getElem (by omega)]
      rfl
    · rw [List.getElem?_eq_none (by omega), List.getElem?_eq_none (by simp; omega)]; rfl
  rw [← this]
theorem reg_see [Frn] {E : Env} {c : Code} {s : St} {n : Nat} {h : Heap} {k : Bool} {sl : List Nat} {vs : List (Value × Bool)} (e : (regionOf E c s).map (see sl) = some (n, h, k, vs)) (hk : k = true) : ∃ j : J, regionOf E c s = some (S n j h true) ∧ sl.map j = vs := by
  obtain ⟨s', hs, e⟩ := Option.map_eq_some_iff.1 e
  unfold see at e
  simp only [Prod.mk.injEq] at e
  obtain ⟨e1, e2, e3, e4⟩ := e
  refine ⟨fun m => s'.tmps.getD m (undef, false), ?_, e4⟩
  exact hs.trans (congrArg some ((S_of e1).trans (by rw [e2, e3, hk])))

/-! ### contracts -/
def nanO : Sig
  | [.float .f32 a] => some (.bool (isN .f32 a), true)
  | _ => none
def cmpO (g : Bool) : Sig
  | [.float .f32 a, .float .f32 b] => some (.bool (cmpE g a b), true)
  | _ => none
def nnO : Sig
  | [] => some (.float .f64 (qn .f64), true)
  | _ => none
theorem wide_nan (a : Nat) : fne .f64 (fcv .f32 .f64 a) (fcv .f32 .f64 a) = isN .f32 a := by
  cases h : isN .f32 a with
  | true =>
    obtain ⟨s, t, e⟩ := read_N h
    have : fcv .f32 .f64 a = qn .f64 := by unfold fcv; rw [e]
    rw [this]
    exact fne_N (isN_qn .f64)
  | false =>
    refine fne_self ?_
    unfold fcv
    rcases read_single a with ⟨g, m, e, h1, _⟩ | ⟨g, h1⟩ | ⟨g, t, h1⟩
    · have h1 : FloatKind.f32.format.read a = _ := h1
      rw [h1]
      exact write_cn .f64 rfl
    · have h1 : FloatKind.f32.format.read a = _ := h1
      rw [h1]
      exact write_cn .f64 rfl
    · have h1 : FloatKind.f32.format.read a = _ := h1
      unfold isN at h
      rw [h1] at h
      cases h
theorem nan_eval (a : Nat) : (@funD noFrn Try.prog (fun f => seek f []) (fun f => seek f []) [95, 137] 60 5 95 [.float .f32 a] []).map (fun r => (r.1, r.2.2)) = some (.bool (fne .f64 (fcv .f32 .f64 a) (fcv .f32 .f64 a)), true) := by kernel_rfl
theorem ltc_eval (a b : Nat) : (@funD noFrn Try.prog (fun f => seek f []) (fun f => seek f []) [77] 60 5 77 [.float .f32 a, .float .f32 b] []).map (fun r => (r.1, r.2.2)) = some (.bool (cmpE false a b), true) := by kernel_rfl
theorem gtc_eval (a b : Nat) : (@funD noFrn Try.prog (fun f => seek f []) (fun f => seek f []) [78] 60 5 78 [.float .f32 a, .float .f32 b] []).map (fun r => (r.1, r.2.2)) = some (.bool (cmpE true a b), true) := by kernel_rfl
theorem of_mapB {x : Option (Value × Heap × Bool)} {v : Value} (h : x.map (fun r => (r.1, r.2.2)) = some (v, true)) : ∃ h', x = some (v, h', true) := by
  obtain ⟨r, hr, e⟩ := Option.map_eq_some_iff.1 h
  obtain ⟨a, b, c⟩ := r
  simp only [Prod.mk.injEq] at e
  obtain ⟨rfl, rfl⟩ := e
  exact ⟨b, hr⟩
theorem nan_one {ι : Frn} : @OrcOne ι Try.prog 95 nanO := by
  refine orc_any (?_ : @OrcOne noFrn Try.prog 95 nanO) fun args v he => ?_
  · refine orc_one (us := [95, 137]) (cf := 60) (d := 5) mixed (by kernel_rfl) (l0 := []) (lx := []) all_nil all_nil (by kernel_rfl) fun args v k he hk hx => ?_
    unfold nanO at he
    split at he
    · simp only [Option.some.injEq, Prod.mk.injEq] at he
      obtain ⟨rfl, rfl⟩ := he
      rename_i a
      refine ⟨rfl, rfl, ?_⟩
      have h := nan_eval a
      rw [wide_nan] at h
      exact of_mapB h
    · cases he
  · unfold nanO at he
    split at he
    · simp only [Option.some.injEq, Prod.mk.injEq] at he
      obtain ⟨rfl, _⟩ := he
      exact ⟨rfl, rfl⟩
    · cases he
theorem cmp_bare (g : Bool) : BareSig (cmpO g) := fun args v he => by
  unfold cmpO at he
  split at he
  · simp only [Option.some.injEq, Prod.mk.injEq] at he
    obtain ⟨rfl, _⟩ := he
    exact ⟨rfl, rfl⟩
  · cases he
theorem lt_one {ι : Frn} : @OrcOne ι Try.prog 77 (cmpO false) := by
  refine orc_any (?_ : @OrcOne noFrn Try.prog 77 (cmpO false)) (cmp_bare false)
  refine orc_one (us := [77]) (cf := 60) (d := 5) mixed (by kernel_rfl) (l0 := []) (lx := []) all_nil all_nil (by kernel_rfl) fun args v k he hk hx => ?_
  unfold cmpO at he
  split at he
  · rename_i a b
    simp only [Option.some.injEq, Prod.mk.injEq] at he
    obtain ⟨rfl, rfl⟩ := he
    exact ⟨rfl, rfl, of_mapB (ltc_eval a b)⟩
  · cases he
theorem gt_one {ι : Frn} : @OrcOne ι Try.prog 78 (cmpO true) := by
  refine orc_any (?_ : @OrcOne noFrn Try.prog 78 (cmpO true)) (cmp_bare true)
  refine orc_one (us := [78]) (cf := 60) (d := 5) mixed (by kernel_rfl) (l0 := []) (lx := []) all_nil all_nil (by kernel_rfl) fun args v k he hk hx => ?_
  unfold cmpO at he
  split at he
  · rename_i a b
    simp only [Option.some.injEq, Prod.mk.injEq] at he
    obtain ⟨rfl, rfl⟩ := he
    exact ⟨rfl, rfl, of_mapB (gtc_eval a b)⟩
  · cases he
theorem nn_one {ι : Frn} : @OrcOne ι Try.prog 126 nnO := by
  refine orc_any (?_ : @OrcOne noFrn Try.prog 126 nnO) fun args v he => ?_
  · refine orc_one (us := [126]) (cf := 60) (d := 5) mixed (by kernel_rfl) extsOk (l0 := []) all_nil (by kernel_rfl) fun args v k he hk hx => ?_
    unfold nnO at he
    split at he
    · simp only [Option.some.injEq, Prod.mk.injEq] at he
      obtain ⟨rfl, rfl⟩ := he
      exact ⟨rfl, rfl, of_mapB (by kernel_rfl)⟩
    · cases he
  · unfold nnO at he
    split at he
    · simp only [Option.some.injEq, Prod.mk.injEq] at he
      obtain ⟨rfl, _⟩ := he
      exact ⟨rfl, rfl⟩
    · cases he
def orcEd : List (Nat × Sig) := [(95, nanO), (77, cmpO false), (78, cmpO true), (126, nnO)]
theorem orcEdOk {ι : Frn} : ∀ p ∈ orcEd, @OrcOne ι Try.prog p.1 p.2 := all_cons nan_one (all_cons lt_one (all_cons gt_one (all_cons nn_one all_nil)))
section
variable [Frn]
noncomputable abbrev EE : Env := conE Try.prog noOrc (fun f => seek f orcEd)
def atI : Option Nat → Int
  | none => -1
  | some a => a
def ansF (z : Nat → Nat) : Option Nat → Nat
  | none => qn .f32
  | some a => z a
def ansI : Option Nat → Int
  | none => 0
  | some a => a

/-! ### the model -/
noncomputable def leC : Code := (Try.f75.body.getD .skip)
noncomputable def leA : Code := sa (sb (sb leC))
noncomputable def leZ : Code := sb (sb (sb leC))
noncomputable def leL : Code := sb leA
noncomputable def leB : Code := inn (inn leL)
noncomputable def le0 : Code := sa leC
noncomputable def le1 : Code := sa (sb leC)
noncomputable def le2 : Code := sa leA
noncomputable def le3 : Code := sa (sa leB)
noncomputable def le3c : Code := sb (sa leB)
noncomputable def lbk : Code := inn (sa (sb leB))
noncomputable def le5 : Code := sa (sa lbk)
noncomputable def le5c : Code := sb (sa lbk)
noncomputable def le6 : Code := sa (sb lbk)
noncomputable def le6c : Code := sb (sb lbk)
noncomputable def le7 : Code := ca le6c
noncomputable def le4 : Code := sb (sb leB)
noncomputable def le8 : Code := sa (sa leZ)
noncomputable def le8c : Code := sb (sa leZ)
noncomputable def le9 : Code := sa (ca le8c)
noncomputable def le10 : Code := sa (sb leZ)
noncomputable def leBody : Code := .seq (.seq le3 (.cond (cx le3c) .skip (.exit 0))) (.seq (.block 1 (.seq (.seq le5 (.cond (cx le5c) (.exit 1) .skip)) (.seq le6 (.cond (cx le6c) le7 .skip)))) le4)
theorem le_shape : leC = .seq le0 (.seq le1 (.seq (.seq le2 (.block 0 (.loop leBody))) (.seq (.seq le8 (.cond (cx le8c) (.seq le9 .ret) .skip)) (.seq le10 .ret)))) := by kernel_rfl
def lJ (g : Bool) (a i : Int) (j : J) : J := up (up (up (up j 1 (vB g)) 2 vP) 6 (vI a)) 7 (vI i)
theorem lJ_of {g : Bool} {a i : Int} {j : J} (h1 : j 1 = vB g) (h2 : j 2 = vP) (h6 : j 6 = vI a) (h7 : j 7 = vI i) : lJ g a i j = j := by
  unfold lJ
  rw [up_self h1, up_self h2, up_self h6, up_self h7]
theorem le_start (z : Nat → Nat) (g : Bool) : startS Try.f75 [.agg (zrow z).toArray, .bool g] [] = S 55 (up (up j0 0 (vA z)) 1 (vB g)) [] true := by kernel_rfl
theorem le_r0 (z : Nat → Nat) (g : Bool) : regionOf EE le0 (S 55 (up (up j0 0 (vA z)) 1 (vB g)) [] true) = some (S 55 (up (up (up (up (up j0 0 (vA z)) 1 (vB g)) 2 vP) 4 (vF 0)) 5 (vI 0)) (H z) true) := by kernel_rfl
theorem le_r1 (z : Nat → Nat) (g : Bool) (j : J) : regionOf EE le1 (S 55 (up (up j 1 (vB g)) 2 vP) (H z) true) = some (S 55 (up (up (up j 1 (vB g)) 2 vP) 6 (vI (-1))) (H z) true) := by kernel_rfl
theorem le_r2 (z : Nat → Nat) (g : Bool) (j : J) (a : Int) : regionOf EE le2 (S 55 (up (up (up j 1 (vB g)) 2 vP) 6 (vI a)) (H z) true) = some (S 55 (lJ g a ((0 : Nat) : Int) j) (H z) true) := by kernel_rfl
theorem le_r3 (z : Nat → Nat) (g : Bool) (a : Int) (i : Nat) (j : J) : regionOf EE le3 (S 55 (lJ g a i j) (H z) true) = some (S 55 (lJ g a i (up (up j 8 (vI i)) 9 (vB (decide ((i : Int) < 16))))) (H z) true) := by kernel_rfl
theorem le_c3 (z : Nat → Nat) (g : Bool) (a i : Int) (b : Bool) (j : J) : evl (S 55 (lJ g a i (up j 9 (vB b))) (H z) true).tmps (cx le3c) = vB b := by kernel_rfl
theorem le_r4 (z : Nat → Nat) (g : Bool) (a : Int) (i : Nat) (j : J) : regionOf EE le4 (S 55 (lJ g a i j) (H z) true) = some (S 55 (lJ g a (IntKind.i64.wrap ((i : Int) + 1)) (up (up j 10 (vI i)) 11 (vI (IntKind.i64.wrap ((i : Int) + 1))))) (H z) true) := by kernel_rfl
theorem le_c5 (z : Nat → Nat) (g : Bool) (a i : Int) (b : Bool) (j : J) : evl (S 55 (lJ g a i (up j 18 (vB b))) (H z) true).tmps (cx le5c) = vB b := by kernel_rfl
theorem le_c6 (z : Nat → Nat) (g : Bool) (a i : Int) (b : Bool) (j : J) : evl (S 55 (lJ g a i (up j 45 (vB b))) (H z) true).tmps (cx le6c) = vB b := by kernel_rfl
theorem le_r7 (z : Nat → Nat) (g : Bool) (a : Int) (i : Nat) (j : J) : regionOf EE le7 (S 55 (lJ g a i j) (H z) true) = some (S 55 (lJ g i i (up j 46 (vI i))) (H z) true) := by kernel_rfl
theorem le_r8 (z : Nat → Nat) (g : Bool) (a i : Int) (j : J) : regionOf EE le8 (S 55 (lJ g a i j) (H z) true) = some (S 55 (lJ g a i (up (up j 47 (vI a)) 48 (vB (decide (a < 0))))) (H z) true) := by kernel_rfl
theorem le_c8 (z : Nat → Nat) (g : Bool) (a i : Int) (b : Bool) (j : J) : evl (S 55 (lJ g a i (up j 48 (vB b))) (H z) true).tmps (cx le8c) = vB b := by kernel_rfl
theorem le_r9 (z : Nat → Nat) (g : Bool) (a i : Int) (j : J) : ∃ j', regionOf EE le9 (S 55 (lJ g a i j) (H z) true) = some (S 55 (up (up j' 4 (vF (qn .f32))) 5 (vI 0)) (H z) true) :=
  ⟨_, (by kernel_rfl : regionOf EE le9 (S 55 (lJ g a i j) (H z) true) = some (S 55 (up (up (lJ g a i (up (up j 49 (.float .f64 (qn .f64), true)) 50 (vF (qn .f32)))) 4 (vF (qn .f32))) 5 (vI 0)) (H z) true))⟩
theorem le_end (x : Nat) (k : Int) (j : J) (h : Heap) : finK Try.prog Try.f75 .ret (S 55 (up (up j 4 (vF x)) 5 (vI k)) h true) = some (.tuple #[.float .f32 x, .int .i64 k], h, true) := by kernel_rfl

def sl5 : List Nat := [1, 2, 6, 7, 18]
def sl6 : List Nat := [1, 2, 6, 7, 45]
def fokG (A : Bool) : Bool := (((A || (decide (A = false) && true)) && true) && ((((decide (A = false) && true) && true) || (!decide (A = false))) && ((((((decide (A = false) && true) && false) && true) && (((decide (A = false) && true) && false) && true)) || (!((decide (A = false) && true) && false))) && ((((((decide (A = false) && true) && false) && true) && true) || (!((decide (A = false) && true) && false))) && ((((((decide (A = false) && true) && false) && true) && true) || (!((decide (A = false) && true) && false))) && ((((((decide (A = false) && true) && false) && true) && true) || (!((decide (A = false) && true) && false))) && ((((((decide (A = false) && true) && false) && true) && true) || (!((decide (A = false) && true) && false))) && (((decide (A = false) && true) || (!decide (A = false))) && (((decide (A = false) && true) || (!decide (A = false))) && true)))))))))
theorem fokG_true (A : Bool) : fokG A = true := by cases A <;> rfl
/-! #### one number, and another one -/
theorem le5_see_0 (z : Nat → Nat) (g : Bool) (a : Int) (j : J) : (regionOf EE le5 (S 55 (lJ g a ((0 : Nat) : Int) j) (H z) true)).map (see sl5) = some (55, H z, true, [vB g, vP, vI a, vI ((0 : Nat) : Int), vB (fne .f32 (z 0) (z 0))]) := by kernel_rfl
theorem le5_see_1 (z : Nat → Nat) (g : Bool) (a : Int) (j : J) : (regionOf EE le5 (S 55 (lJ g a ((1 : Nat) : Int) j) (H z) true)).map (see sl5) = some (55, H z, true, [vB g, vP, vI a, vI ((1 : Nat) : Int), vB (fne .f32 (z 1) (z 1))]) := by kernel_rfl
theorem le5_see_2 (z : Nat → Nat) (g : Bool) (a : Int) (j : J) : (regionOf EE le5 (S 55 (lJ g a ((2 : Nat) : Int) j) (H z) true)).map (see sl5) = some (55, H z, true, [vB g, vP, vI a, vI ((2 : Nat) : Int), vB (fne .f32 (z 2) (z 2))]) := by kernel_rfl
theorem le5_see_3 (z : Nat → Nat) (g : Bool) (a : Int) (j : J) : (regionOf EE le5 (S 55 (lJ g a ((3 : Nat) : Int) j) (H z) true)).map (see sl5) = some (55, H z, true, [vB g, vP, vI a, vI ((3 : Nat) : Int), vB (fne .f32 (z 3) (z 3))]) := by kernel_rfl
theorem le5_see_4 (z : Nat → Nat) (g : Bool) (a : Int) (j : J) : (regionOf EE le5 (S 55 (lJ g a ((4 : Nat) : Int) j) (H z) true)).map (see sl5) = some (55, H z, true, [vB g, vP, vI a, vI ((4 : Nat) : Int), vB (fne .f32 (z 4) (z 4))]) := by kernel_rfl
theorem le5_see_5 (z : Nat → Nat) (g : Bool) (a : Int) (j : J) : (regionOf EE le5 (S 55 (lJ g a ((5 : Nat) : Int) j) (H z) true)).map (see sl5) = some (55, H z, true, [vB g, vP, vI a, vI ((5 : Nat) : Int), vB (fne .f32 (z 5) (z 5))]) := by kernel_rfl
theorem le5_see_6 (z : Nat → Nat) (g : Bool) (a : Int) (j : J) : (regionOf EE le5 (S 55 (lJ g a ((6 : Nat) : Int) j) (H z) true)).map (see sl5) = some (55, H z, true, [vB g, vP, vI a, vI ((6 : Nat) : Int), vB (fne .f32 (z 6) (z 6))]) := by kernel_rfl
theorem le5_see_7 (z : Nat → Nat) (g : Bool) (a : Int) (j : J) : (regionOf EE le5 (S 55 (lJ g a ((7 : Nat) : Int) j) (H z) true)).map (see sl5) = some (55, H z, true, [vB g, vP, vI a, vI ((7 : Nat) : Int), vB (fne .f32 (z 7) (z 7))]) := by kernel_rfl
theorem le5_see_8 (z : Nat → Nat) (g : Bool) (a : Int) (j : J) : (regionOf EE le5 (S 55 (lJ g a ((8 : Nat) : Int) j) (H z) true)).map (see sl5) = some (55, H z, true, [vB g, vP, vI a, vI ((8 : Nat) : Int), vB (fne .f32 (z 8) (z 8))]) := by kernel_rfl
theorem le5_see_9 (z : Nat → Nat) (g : Bool) (a : Int) (j : J) : (regionOf EE le5 (S 55 (lJ g a ((9 : Nat) : Int) j) (H z) true)).map (see sl5) = some (55, H z, true, [vB g, vP, vI a, vI ((9 : Nat) : Int), vB (fne .f32 (z 9) (z 9))]) := by kernel_rfl
theorem le5_see_10 (z : Nat → Nat) (g : Bool) (a : Int) (j : J) : (regionOf EE le5 (S 55 (lJ g a ((10 : Nat) : Int) j) (H z) true)).map (see sl5) = some (55, H z, true, [vB g, vP, vI a, vI ((10 : Nat) : Int), vB (fne .f32 (z 10) (z 10))]) := by kernel_rfl
theorem le5_see_11 (z : Nat → Nat) (g : Bool) (a : Int) (j : J) : (regionOf EE le5 (S 55 (lJ g a ((11 : Nat) : Int) j) (H z) true)).map (see sl5) = some (55, H z, true, [vB g, vP, vI a, vI ((11 : Nat) : Int), vB (fne .f32 (z 11) (z 11))]) := by kernel_rfl
theorem le5_see_12 (z : Nat → Nat) (g : Bool) (a : Int) (j : J) : (regionOf EE le5 (S 55 (lJ g a ((12 : Nat) : Int) j) (H z) true)).map (see sl5) = some (55, H z, true, [vB g, vP, vI a, vI ((12 : Nat) : Int), vB (fne .f32 (z 12) (z 12))]) := by kernel_rfl
theorem le5_see_13 (z : Nat → Nat) (g : Bool) (a : Int) (j : J) : (regionOf EE le5 (S 55 (lJ g a ((13 : Nat) : Int) j) (H z) true)).map (see sl5) = some (55, H z, true, [vB g, vP, vI a, vI ((13 : Nat) : Int), vB (fne .f32 (z 13) (z 13))]) := by kernel_rfl
theorem le5_see_14 (z : Nat → Nat) (g : Bool) (a : Int) (j : J) : (regionOf EE le5 (S 55 (lJ g a ((14 : Nat) : Int) j) (H z) true)).map (see sl5) = some (55, H z, true, [vB g, vP, vI a, vI ((14 : Nat) : Int), vB (fne .f32 (z 14) (z 14))]) := by kernel_rfl
theorem le5_see_15 (z : Nat → Nat) (g : Bool) (a : Int) (j : J) : (regionOf EE le5 (S 55 (lJ g a ((15 : Nat) : Int) j) (H z) true)).map (see sl5) = some (55, H z, true, [vB g, vP, vI a, vI ((15 : Nat) : Int), vB (fne .f32 (z 15) (z 15))]) := by kernel_rfl
theorem le5_see (z : Nat → Nat) (g : Bool) (a : Int) (j : J) (i : Nat) (hi : i < 16) : (regionOf EE le5 (S 55 (lJ g a ((i : Nat) : Int) j) (H z) true)).map (see sl5) = some (55, H z, true, [vB g, vP, vI a, vI ((i : Nat) : Int), vB (fne .f32 (z i) (z i))]) := by
  match i, hi with
  | 0, _ => exact le5_see_0 z g a j
  | 1, _ => exact le5_see_1 z g a j
  | 2, _ => exact le5_see_2 z g a j
  | 3, _ => exact le5_see_3 z g a j
  | 4, _ => exact le5_see_4 z g a j
  | 5, _ => exact le5_see_5 z g a j
  | 6, _ => exact le5_see_6 z g a j
  | 7, _ => exact le5_see_7 z g a j
  | 8, _ => exact le5_see_8 z g a j
  | 9, _ => exact le5_see_9 z g a j
  | 10, _ => exact le5_see_10 z g a j
  | 11, _ => exact le5_see_11 z g a j
  | 12, _ => exact le5_see_12 z g a j
  | 13, _ => exact le5_see_13 z g a j
  | 14, _ => exact le5_see_14 z g a j
  | 15, _ => exact le5_see_15 z g a j
  | k + 16, h => exact absurd h (by omega)
theorem le6_none_0 (z : Nat → Nat) (g : Bool) (j : J) : (regionOf EE le6 (S 55 (lJ g (-1) ((0 : Nat) : Int) j) (H z) true)).map (see sl6) = some (55, H z, true, [vB g, vP, vI (-1), vI ((0 : Nat) : Int), vB true]) := by kernel_rfl
theorem le6_none_1 (z : Nat → Nat) (g : Bool) (j : J) : (regionOf EE le6 (S 55 (lJ g (-1) ((1 : Nat) : Int) j) (H z) true)).map (see sl6) = some (55, H z, true, [vB g, vP, vI (-1), vI ((1 : Nat) : Int), vB true]) := by kernel_rfl
theorem le6_none_2 (z : Nat → Nat) (g : Bool) (j : J) : (regionOf EE le6 (S 55 (lJ g (-1) ((2 : Nat) : Int) j) (H z) true)).map (see sl6) = some (55, H z, true, [vB g, vP, vI (-1), vI ((2 : Nat) : Int), vB true]) := by kernel_rfl
theorem le6_none_3 (z : Nat → Nat) (g : Bool) (j : J) : (regionOf EE le6 (S 55 (lJ g (-1) ((3 : Nat) : Int) j) (H z) true)).map (see sl6) = some (55, H z, true, [vB g, vP, vI (-1), vI ((3 : Nat) : Int), vB true]) := by kernel_rfl
theorem le6_none_4 (z : Nat → Nat) (g : Bool) (j : J) : (regionOf EE le6 (S 55 (lJ g (-1) ((4 : Nat) : Int) j) (H z) true)).map (see sl6) = some (55, H z, true, [vB g, vP, vI (-1), vI ((4 : Nat) : Int), vB true]) := by kernel_rfl
theorem le6_none_5 (z : Nat → Nat) (g : Bool) (j : J) : (regionOf EE le6 (S 55 (lJ g (-1) ((5 : Nat) : Int) j) (H z) true)).map (see sl6) = some (55, H z, true, [vB g, vP, vI (-1), vI ((5 : Nat) : Int), vB true]) := by kernel_rfl
theorem le6_none_6 (z : Nat → Nat) (g : Bool) (j : J) : (regionOf EE le6 (S 55 (lJ g (-1) ((6 : Nat) : Int) j) (H z) true)).map (see sl6) = some (55, H z, true, [vB g, vP, vI (-1), vI ((6 : Nat) : Int), vB true]) := by kernel_rfl
theorem le6_none_7 (z : Nat → Nat) (g : Bool) (j : J) : (regionOf EE le6 (S 55 (lJ g (-1) ((7 : Nat) : Int) j) (H z) true)).map (see sl6) = some (55, H z, true, [vB g, vP, vI (-1), vI ((7 : Nat) : Int), vB true]) := by kernel_rfl
theorem le6_none_8 (z : Nat → Nat) (g : Bool) (j : J) : (regionOf EE le6 (S 55 (lJ g (-1) ((8 : Nat) : Int) j) (H z) true)).map (see sl6) = some (55, H z, true, [vB g, vP, vI (-1), vI ((8 : Nat) : Int), vB true]) := by kernel_rfl
theorem le6_none_9 (z : Nat → Nat) (g : Bool) (j : J) : (regionOf EE le6 (S 55 (lJ g (-1) ((9 : Nat) : Int) j) (H z) true)).map (see sl6) = some (55, H z, true, [vB g, vP, vI (-1), vI ((9 : Nat) : Int), vB true]) := by kernel_rfl
theorem le6_none_10 (z : Nat → Nat) (g : Bool) (j : J) : (regionOf EE le6 (S 55 (lJ g (-1) ((10 : Nat) : Int) j) (H z) true)).map (see sl6) = some (55, H z, true, [vB g, vP, vI (-1), vI ((10 : Nat) : Int), vB true]) := by kernel_rfl
theorem le6_none_11 (z : Nat → Nat) (g : Bool) (j : J) : (regionOf EE le6 (S 55 (lJ g (-1) ((11 : Nat) : Int) j) (H z) true)).map (see sl6) = some (55, H z, true, [vB g, vP, vI (-1), vI ((11 : Nat) : Int), vB true]) := by kernel_rfl
theorem le6_none_12 (z : Nat → Nat) (g : Bool) (j : J) : (regionOf EE le6 (S 55 (lJ g (-1) ((12 : Nat) : Int) j) (H z) true)).map (see sl6) = some (55, H z, true, [vB g, vP, vI (-1), vI ((12 : Nat) : Int), vB true]) := by kernel_rfl
theorem le6_none_13 (z : Nat → Nat) (g : Bool) (j : J) : (regionOf EE le6 (S 55 (lJ g (-1) ((13 : Nat) : Int) j) (H z) true)).map (see sl6) = some (55, H z, true, [vB g, vP, vI (-1), vI ((13 : Nat) : Int), vB true]) := by kernel_rfl
theorem le6_none_14 (z : Nat → Nat) (g : Bool) (j : J) : (regionOf EE le6 (S 55 (lJ g (-1) ((14 : Nat) : Int) j) (H z) true)).map (see sl6) = some (55, H z, true, [vB g, vP, vI (-1), vI ((14 : Nat) : Int), vB true]) := by kernel_rfl
theorem le6_none_15 (z : Nat → Nat) (g : Bool) (j : J) : (regionOf EE le6 (S 55 (lJ g (-1) ((15 : Nat) : Int) j) (H z) true)).map (see sl6) = some (55, H z, true, [vB g, vP, vI (-1), vI ((15 : Nat) : Int), vB true]) := by kernel_rfl
theorem le6_none (z : Nat → Nat) (g : Bool) (j : J) (i : Nat) (hi : i < 16) : (regionOf EE le6 (S 55 (lJ g (-1) ((i : Nat) : Int) j) (H z) true)).map (see sl6) = some (55, H z, true, [vB g, vP, vI (-1), vI ((i : Nat) : Int), vB true]) := by
  match i, hi with
  | 0, _ => exact le6_none_0 z g j
  | 1, _ => exact le6_none_1 z g j
  | 2, _ => exact le6_none_2 z g j
  | 3, _ => exact le6_none_3 z g j
  | 4, _ => exact le6_none_4 z g j
  | 5, _ => exact le6_none_5 z g j
  | 6, _ => exact le6_none_6 z g j
  | 7, _ => exact le6_none_7 z g j
  | 8, _ => exact le6_none_8 z g j
  | 9, _ => exact le6_none_9 z g j
  | 10, _ => exact le6_none_10 z g j
  | 11, _ => exact le6_none_11 z g j
  | 12, _ => exact le6_none_12 z g j
  | 13, _ => exact le6_none_13 z g j
  | 14, _ => exact le6_none_14 z g j
  | 15, _ => exact le6_none_15 z g j
  | k + 16, h => exact absurd h (by omega)
theorem le6_t_0_0 (z : Nat → Nat) (j : J) : (regionOf EE le6 (S 55 (lJ true ((0 : Nat) : Int) ((0 : Nat) : Int) j) (H z) true)).map (see sl6) = some (55, H z, fokG (fgt .f32 (z 0) (z 0)), [vB true, vP, vI ((0 : Nat) : Int), vI ((0 : Nat) : Int), vB (bif fgt .f32 (z 0) (z 0) then true else false)]) := by kernel_rfl
theorem le6_t_0_1 (z : Nat → Nat) (j : J) : (regionOf EE le6 (S 55 (lJ true ((1 : Nat) : Int) ((0 : Nat) : Int) j) (H z) true)).map (see sl6) = some (55, H z, fokG (fgt .f32 (z 0) (z 1)), [vB true, vP, vI ((1 : Nat) : Int), vI ((0 : Nat) : Int), vB (bif fgt .f32 (z 0) (z 1) then true else false)]) := by kernel_rfl
theorem le6_t_0_2 (z : Nat → Nat) (j : J) : (regionOf EE le6 (S 55 (lJ true ((2 : Nat) : Int) ((0 : Nat) : Int) j) (H z) true)).map (see sl6) = some (55, H z, fokG (fgt .f32 (z 0) (z 2)), [vB true, vP, vI ((2 : Nat) : Int), vI ((0 : Nat) : Int), vB (bif fgt .f32 (z 0) (z 2) then true else false)]) := by kernel_rfl
theorem le6_t_0_3 (z : Nat → Nat) (j : J) : (regionOf EE le6 (S 55 (lJ true ((3 : Nat) : Int) ((0 : Nat) : Int) j) (H z) true)).map (see sl6) = some (55, H z, fokG (fgt .f32 (z 0) (z 3)), [vB true, vP, vI ((3 : Nat) : Int), vI ((0 : Nat) : Int), vB (bif fgt .f32 (z 0) (z 3) then true else false)]) := by kernel_rfl
theorem le6_t_0_4 (z : Nat → Nat) (j : J) : (regionOf EE le6 (S 55 (lJ true ((4 : Nat) : Int) ((0 : Nat) : Int) j) (H z) true)).map (see sl6) = some (55, H z, fokG (fgt .f32 (z 0) (z 4)), [vB true, vP, vI ((4 : Nat) : Int), vI ((0 : Nat) : Int), vB (bif fgt .f32 (z 0) (z 4) then true else false)]) := by kernel_rfl
theorem le6_t_0_5 (z : Nat → Nat) (j : J) : (regionOf EE le6 (S 55 (lJ true ((5 : Nat) : Int) ((0 : Nat) : Int) j) (H z) true)).map (see sl6) = some (55, H z, fokG (fgt .f32 (z 0) (z 5)), [vB true, vP, vI ((5 : Nat) : Int), vI ((0 : Nat) : Int), vB (bif fgt .f32 (z 0) (z 5) then true else false)]) := by kernel_rfl
theorem le6_t_0_6 (z : Nat → Nat) (j : J) : (regionOf EE le6 (S 55 (lJ true ((6 : Nat) : Int) ((0 : Nat) : Int) j) (H z) true)).map (see sl6) = some (55, H z, fokG (fgt .f32 (z 0) (z 6)), [vB true, vP, vI ((6 : Nat) : Int), vI ((0 : Nat) : Int), vB (bif fgt .f32 (z 0) (z 6) then true else false)]) := by kernel_rfl
theorem le6_t_0_7 (z : Nat → Nat) (j : J) : (regionOf EE le6 (S 55 (lJ true ((7 : Nat) : Int) ((0 : Nat) : Int) j) (H z) true)).map (see sl6) = some (55, H z, fokG (fgt .f32 (z 0) (z 7)), [vB true, vP, vI ((7 : Nat) : Int), vI ((0 : Nat) : Int), vB (bif fgt .f32 (z 0) (z 7) then true else false)]) := by kernel_rfl
theorem le6_t_0_8 (z : Nat → Nat) (j : J) : (regionOf EE le6 (S 55 (lJ true ((8 : Nat) : Int) ((0 : Nat) : Int) j) (H z) true)).map (see sl6) = some (55, H z, fokG (fgt .f32 (z 0) (z 8)), [vB true, vP, vI ((8 : Nat) : Int), vI ((0 : Nat) : Int), vB (bif fgt .f32 (z 0) (z 8) then true else false)]) := by kernel_rfl
theorem le6_t_0_9 (z : Nat → Nat) (j : J) : (regionOf EE le6 (S 55 (lJ true ((9 : Nat) : Int) ((0 : Nat) : Int) j) (H z) true)).map (see sl6) = some (55, H z, fokG (fgt .f32 (z 0) (z 9)), [vB true, vP, vI ((9 : Nat) : Int), vI ((0 : Nat) : Int), vB (bif fgt .f32 (z 0) (z 9) then true else false)]) := by kernel_rfl
theorem le6_t_0_10 (z : Nat → Nat) (j : J) : (regionOf EE le6 (S 55 (lJ true ((10 : Nat) : Int) ((0 : Nat) : Int) j) (H z) true)).map (see sl6) = some (55, H z, fokG (fgt .f32 (z 0) (z 10)), [vB true, vP, vI ((10 : Nat) : Int), vI ((0 : Nat) : Int), vB (bif fgt .f32 (z 0) (z 10) then true else false)]) := by kernel_rfl
theorem le6_t_0_11 (z : Nat → Nat) (j : J) : (regionOf EE le6 (S 55 (lJ true ((11 : Nat) : Int) ((0 : Nat) : Int) j) (H z) true)).map (see sl6) = some (55, H z, fokG (fgt .f32 (z 0) (z 11)), [vB true, vP, vI ((11 : Nat) : Int), vI ((0 : Nat) : Int), vB (bif fgt .f32 (z 0) (z 11) then true else false)]) := by kernel_rfl
theorem le6_t_0_12 (z : Nat → Nat) (j : J) : (regionOf EE le6 (S 55 (lJ true ((12 : Nat) : Int) ((0 : Nat) : Int) j) (H z) true)).map (see sl6) = some (55, H z, fokG (fgt .f32 (z 0) (z 12)), [vB true, vP, vI ((12 : Nat) : Int), vI ((0 : Nat) : Int), vB (bif fgt .f32 (z 0) (z 12) then true else false)]) := by kernel_rfl
theorem le6_t_0_13 (z : Nat → Nat) (j : J) : (regionOf EE le6 (S 55 (lJ true ((13 : Nat) : Int) ((0 : Nat) : Int) j) (H z) true)).map (see sl6) = some (55, H z, fokG (fgt .f32 (z 0) (z 13)), [vB true, vP, vI ((13 : Nat) : Int), vI ((0 : Nat) : Int), vB (bif fgt .f32 (z 0) (z 13) then true else false)]) := by kernel_rfl
theorem le6_t_0_14 (z : Nat → Nat) (j : J) : (regionOf EE le6 (S 55 (lJ true ((14 : Nat) : Int) ((0 : Nat) : Int) j) (H z) true)).map (see sl6) = some (55, H z, fokG (fgt .f32 (z 0) (z 14)), [vB true, vP, vI ((14 : Nat) : Int), vI ((0 : Nat) : Int), vB (bif fgt .f32 (z 0) (z 14) then true else false)]) := by kernel_rfl
theorem le6_t_0_15 (z : Nat → Nat) (j : J) : (regionOf EE le6 (S 55 (lJ true ((15 : Nat) : Int) ((0 : Nat) : Int) j) (H z) true)).map (see sl6) = some (55, H z, fokG (fgt .f32 (z 0) (z 15)), [vB true, vP, vI ((15 : Nat) : Int), vI ((0 : Nat) : Int), vB (bif fgt .f32 (z 0) (z 15) then true else false)]) := by kernel_rfl
theorem le6_t_0 (z : Nat → Nat) (j : J) (a : Nat) (ha : a < 16) : (regionOf EE le6 (S 55 (lJ true ((a : Nat) : Int) ((0 : Nat) : Int) j) (H z) true)).map (see sl6) = some (55, H z, fokG (fgt .f32 (z 0) (z a)), [vB true, vP, vI ((a : Nat) : Int), vI ((0 : Nat) : Int), vB (bif fgt .f32 (z 0) (z a) then true else false)]) := by
  match a, ha with
  | 0, _ => exact le6_t_0_0 z j
  | 1, _ => exact le6_t_0_1 z j
  | 2, _ => exact le6_t_0_2 z j
  | 3, _ => exact le6_t_0_3 z j
  | 4, _ => exact le6_t_0_4 z j
  | 5, _ => exact le6_t_0_5 z j
  | 6, _ => exact le6_t_0_6 z j
  | 7, _ => exact le6_t_0_7 z j
  | 8, _ => exact le6_t_0_8 z j
  | 9, _ => exact le6_t_0_9 z j
  | 10, _ => exact le6_t_0_10 z j
  | 11, _ => exact le6_t_0_11 z j
  | 12, _ => exact le6_t_0_12 z j
  | 13, _ => exact le6_t_0_13 z j
  | 14, _ => exact le6_t_0_14 z j
  | 15, _ => exact le6_t_0_15 z j
  | k + 16, h => exact absurd h (by omega)
theorem le6_t_1_0 (z : Nat → Nat) (j : J) : (regionOf EE le6 (S 55 (lJ true ((0 : Nat) : Int) ((1 : Nat) : Int) j) (H z) true)).map (see sl6) = some (55, H z, fokG (fgt .f32 (z 1) (z 0)), [vB true, vP, vI ((0 : Nat) : Int), vI ((1 : Nat) : Int), vB (bif fgt .f32 (z 1) (z 0) then true else false)]) := by kernel_rfl
theorem le6_t_1_1 (z : Nat → Nat) (j : J) : (regionOf EE le6 (S 55 (lJ true ((1 : Nat) : Int) ((1 : Nat) : Int) j) (H z) true)).map (see sl6) = some (55, H z, fokG (fgt .f32 (z 1) (z 1)), [vB true, vP, vI ((1 : Nat) : Int), vI ((1 : Nat) : Int), vB (bif fgt .f32 (z 1) (z 1) then true else false)]) := by kernel_rfl
theorem le6_t_1_2 (z : Nat → Nat) (j : J) : (regionOf EE le6 (S 55 (lJ true ((2 : Nat) : Int) ((1 : Nat) : Int) j) (H z) true)).map (see sl6) = some (55, H z, fokG (fgt .f32 (z 1) (z 2)), [vB true, vP, vI ((2 : Nat) : Int), vI ((1 : Nat) : Int), vB (bif fgt .f32 (z 1) (z 2) then true else false)]) := by kernel_rfl
theorem le6_t_1_3 (z : Nat → Nat) (j : J) : (regionOf EE le6 (S 55 (lJ true ((3 : Nat) : Int) ((1 : Nat) : Int) j) (H z) true)).map (see sl6) = some (55, H z, fokG (fgt .f32 (z 1) (z 3)), [vB true, vP, vI ((3 : Nat) : Int), vI ((1 : Nat) : Int), vB (bif fgt .f32 (z 1) (z 3) then true else false)]) := by kernel_rfl
theorem le6_t_1_4 (z : Nat → Nat) (j : J) : (regionOf EE le6 (S 55 (lJ true ((4 : Nat) : Int) ((1 : Nat) : Int) j) (H z) true)).map (see sl6) = some (55, H z, fokG (fgt .f32 (z 1) (z 4)), [vB true, vP, vI ((4 : Nat) : Int), vI ((1 : Nat) : Int), vB (bif fgt .f32 (z 1) (z 4) then true else false)]) := by kernel_rfl
theorem le6_t_1_5 (z : Nat → Nat) (j : J) : (regionOf EE le6 (S 55 (lJ true ((5 : Nat) : Int) ((1 : Nat) : Int) j) (H z) true)).map (see sl6) = some (55, H z, fokG (fgt .f32 (z 1) (z 5)), [vB true, vP, vI ((5 : Nat) : Int), vI ((1 : Nat) : Int), vB (bif fgt .f32 (z 1) (z 5) then true else false)]) := by kernel_rfl
theorem le6_t_1_6 (z : Nat → Nat) (j : J) : (regionOf EE le6 (S 55 (lJ true ((6 : Nat) : Int) ((1 : Nat) : Int) j) (H z) true)).map (see sl6) = some (55, H z, fokG (fgt .f32 (z 1) (z 6)), [vB true, vP, vI ((6 : Nat) : Int), vI ((1 : Nat) : Int), vB (bif fgt .f32 (z 1) (z 6) then true else false)]) := by kernel_rfl
theorem le6_t_1_7 (z : Nat → Nat) (j : J) : (regionOf EE le6 (S 55 (lJ true ((7 : Nat) : Int) ((1 : Nat) : Int) j) (H z) true)).map (see sl6) = some (55, H z, fokG (fgt .f32 (z 1) (z 7)), [vB true, vP, vI ((7 : Nat) : Int), vI ((1 : Nat) : Int), vB (bif fgt .f32 (z 1) (z 7) then true else false)]) := by kernel_rfl
theorem le6_t_1_8 (z : Nat → Nat) (j : J) : (regionOf EE le6 (S 55 (lJ true ((8 : Nat) : Int) ((1 : Nat) : Int) j) (H z) true)).map (see sl6) = some (55, H z, fokG (fgt .f32 (z 1) (z 8)), [vB true, vP, vI ((8 : Nat) : Int), vI ((1 : Nat) : Int), vB (bif fgt .f32 (z 1) (z 8) then true else false)]) := by kernel_rfl
theorem le6_t_1_9 (z : Nat → Nat) (j : J) : (regionOf EE le6 (S 55 (lJ true ((9 : Nat) : Int) ((1 : Nat) : Int) j) (H z) true)).map (see sl6) = some (55, H z, fokG (fgt .f32 (z 1) (z 9)), [vB true, vP, vI ((9 : Nat) : Int), vI ((1 : Nat) : Int), vB (bif fgt .f32 (z 1) (z 9) then true else false)]) := by kernel_rfl
theorem le6_t_1_10 (z : Nat → Nat) (j : J) : (regionOf EE le6 (S 55 (lJ true ((10 : Nat) : Int) ((1 : Nat) : Int) j) (H z) true)).map (see sl6) = some (55, H z, fokG (fgt .f32 (z 1) (z 10)), [vB true, vP, vI ((10 : Nat) : Int), vI ((1 : Nat) : Int), vB (bif fgt .f32 (z 1) (z 10) then true else false)]) := by kernel_rfl
theorem le6_t_1_11 (z : Nat → Nat) (j : J) : (regionOf EE le6 (S 55 (lJ true ((11 : Nat) : Int) ((1 : Nat) : Int) j) (H z) true)).map (see sl6) = some (55, H z, fokG (fgt .f32 (z 1) (z 11)), [vB true, vP, vI ((11 : Nat) : Int), vI ((1 : Nat) : Int), vB (bif fgt .f32 (z 1) (z 11) then true else false)]) := by kernel_rfl
theorem le6_t_1_12 (z : Nat → Nat) (j : J) : (regionOf EE le6 (S 55 (lJ true ((12 : Nat) : Int) ((1 : Nat) : Int) j) (H z) true)).map (see sl6) = some (55, H z, fokG (fgt .f32 (z 1) (z 12)), [vB true, vP, vI ((12 : Nat) : Int), vI ((1 : Nat) : Int), vB (bif fgt .f32 (z 1) (z 12) then true else false)]) := by kernel_rfl
theorem le6_t_1_13 (z : Nat → Nat) (j : J) : (regionOf EE le6 (S 55 (lJ true ((13 : Nat) : Int) ((1 : Nat) : Int) j) (H z) true)).map (see sl6) = some (55, H z, fokG (fgt .f32 (z 1) (z 13)), [vB true, vP, vI ((13 : Nat) : Int), vI ((1 : Nat) : Int), vB (bif fgt .f32 (z 1) (z 13) then true else false)]) := by kernel_rfl
theorem le6_t_1_14 (z : Nat → Nat) (j : J) : (regionOf EE le6 (S 55 (lJ true ((14 : Nat) : Int) ((1 : Nat) : Int) j) (H z) true)).map (see sl6) = some (55, H z, fokG (fgt .f32 (z 1) (z 14)), [vB true, vP, vI ((14 : Nat) : Int), vI ((1 : Nat) : Int), vB (bif fgt .f32 (z 1) (z 14) then true else false)]) := by kernel_rfl
theorem le6_t_1_15 (z : Nat → Nat) (j : J) : (regionOf EE le6 (S 55 (lJ true ((15 : Nat) : Int) ((1 : Nat) : Int) j) (H z) true)).map (see sl6) = some (55, H z, fokG (fgt .f32 (z 1) (z 15)), [vB true, vP, vI ((15 : Nat) : Int), vI ((1 : Nat) : Int), vB (bif fgt .f32 (z 1) (z 15) then true else false)]) := by kernel_rfl
theorem le6_t_1 (z : Nat → Nat) (j : J) (a : Nat) (ha : a < 16) : (regionOf EE le6 (S 55 (lJ true ((a : Nat) : Int) ((1 : Nat) : Int) j) (H z) true)).map (see sl6) = some (55, H z, fokG (fgt .f32 (z 1) (z a)), [vB true, vP, vI ((a : Nat) : Int), vI ((1 : Nat) : Int), vB (bif fgt .f32 (z 1) (z a) then true else false)]) := by
  match a, ha with
  | 0, _ => exact le6_t_1_0 z j
  | 1, _ => exact le6_t_1_1 z j
  | 2, _ => exact le6_t_1_2 z j
  | 3, _ => exact le6_t_1_3 z j
  | 4, _ => exact le6_t_1_4 z j
  | 5, _ => exact le6_t_1_5 z j
  | 6, _ => exact le6_t_1_6 z j
  | 7, _ => exact le6_t_1_7 z j
  | 8, _ => exact le6_t_1_8 z j
  | 9, _ => exact le6_t_1_9 z j
  | 10, _ => exact le6_t_1_10 z j
  | 11, _ => exact le6_t_1_11 z j
  | 12, _ => exact le6_t_1_12 z j
  | 13, _ => exact le6_t_1_13 z j
  | 14, _ => exact le6_t_1_14 z j
  | 15, _ => exact le6_t_1_15 z j
  | k + 16, h => exact absurd h (by omega)
theorem le6_t_2_0 (z : Nat → Nat) (j : J) : (regionOf EE le6 (S 55 (lJ true ((0 : Nat) : Int) ((2 : Nat) : Int) j) (H z) true)).map (see sl6) = some (55, H z, fokG (fgt .f32 (z 2) (z 0)), [vB true, vP, vI ((0 : Nat) : Int), vI ((2 : Nat) : Int), vB (bif fgt .f32 (z 2) (z 0) then true else false)]) := by kernel_rfl
theorem le6_t_2_1 (z : Nat → Nat) (j : J) : (regionOf EE le6 (S 55 (lJ true ((1 : Nat) : Int) ((2 : Nat) : Int) j) (H z) true)).map (see sl6) = some (55, H z, fokG (fgt .f32 (z 2) (z 1)), [vB true, vP, vI ((1 : Nat) : Int), vI ((2 : Nat) : Int), vB (bif fgt .f32 (z 2) (z 1) then true else false)]) := by kernel_rfl
theorem le6_t_2_2 (z : Nat → Nat) (j : J) : (regionOf EE le6 (S 55 (lJ true ((2 : Nat) : Int) ((2 : Nat) : Int) j) (H z) true)).map (see sl6) = some (55, H z, fokG (fgt .f32 (z 2) (z 2)), [vB true, vP, vI ((2 : Nat) : Int), vI ((2 : Nat) : Int), vB (bif fgt .f32 (z 2) (z 2) then true else false)]) := by kernel_rfl
theorem le6_t_2_3 (z : Nat → Nat) (j : J) : (regionOf EE le6 (S 55 (lJ true ((3 : Nat) : Int) ((2 : Nat) : Int) j) (H z) true)).map (see sl6) = some (55, H z, fokG (fgt .f32 (z 2) (z 3)), [vB true, vP, vI ((3 : Nat) : Int), vI ((2 : Nat) : Int), vB (bif fgt .f32 (z 2) (z 3) then true else false)]) := by kernel_rfl
theorem le6_t_2_4 (z : Nat → Nat) (j : J) : (regionOf EE le6 (S 55 (lJ true ((4 : Nat) : Int) ((2 : Nat) : Int) j) (H z) true)).map (see sl6) = some (55, H z, fokG (fgt .f32 (z 2) (z 4)), [vB true, vP, vI ((4 : Nat) : Int), vI ((2 : Nat) : Int), vB (bif fgt .f32 (z 2) (z 4) then true else false)]) := by kernel_rfl
theorem le6_t_2_5 (z : Nat → Nat) (j : J) : (regionOf EE le6 (S 55 (lJ true ((5 : Nat) : Int) ((2 : Nat) : Int) j) (H z) true)).map (see sl6) = some (55, H z, fokG (fgt .f32 (z 2) (z 5)), [vB true, vP, vI ((5 : Nat) : Int), vI ((2 : Nat) : Int), vB (bif fgt .f32 (z 2) (z 5) then true else false)]) := by kernel_rfl
theorem le6_t_2_6 (z : Nat → Nat) (j : J) : (regionOf EE le6 (S 55 (lJ true ((6 : Nat) : Int) ((2 : Nat) : Int) j) (H z) true)).map (see sl6) = some (55, H z, fokG (fgt .f32 (z 2) (z 6)), [vB true, vP, vI ((6 : Nat) : Int), vI ((2 : Nat) : Int), vB (bif fgt .f32 (z 2) (z 6) then true else false)]) := by kernel_rfl
theorem le6_t_2_7 (z : Nat → Nat) (j : J) : (regionOf EE le6 (S 55 (lJ true ((7 : Nat) : Int) ((2 : Nat) : Int) j) (H z) true)).map (see sl6) = some (55, H z, fokG (fgt .f32 (z 2) (z 7)), [vB true, vP, vI ((7 : Nat) : Int), vI ((2 : Nat) : Int), vB (bif fgt .f32 (z 2) (z 7) then true else false)]) := by kernel_rfl
theorem le6_t_2_8 (z : Nat → Nat) (j : J) : (regionOf EE le6 (S 55 (lJ true ((8 : Nat) : Int) ((2 : Nat) : Int) j) (H z) true)).map (see sl6) = some (55, H z, fokG (fgt .f32 (z 2) (z 8)), [vB true, vP, vI ((8 : Nat) : Int), vI ((2 : Nat) : Int), vB (bif fgt .f32 (z 2) (z 8) then true else false)]) := by kernel_rfl
theorem le6_t_2_9 (z : Nat → Nat) (j : J) : (regionOf EE le6 (S 55 (lJ true ((9 : Nat) : Int) ((2 : Nat) : Int) j) (H z) true)).map (see sl6) = some (55, H z, fokG (fgt .f32 (z 2) (z 9)), [vB true, vP, vI ((9 : Nat) : Int), vI ((2 : Nat) : Int), vB (bif fgt .f32 (z 2) (z 9) then true else false)]) := by kernel_rfl
theorem le6_t_2_10 (z : Nat → Nat) (j : J) : (regionOf EE le6 (S 55 (lJ true ((10 : Nat) : Int) ((2 : Nat) : Int) j) (H z) true)).map (see sl6) = some (55, H z, fokG (fgt .f32 (z 2) (z 10)), [vB true, vP, vI ((10 : Nat) : Int), vI ((2 : Nat) : Int), vB (bif fgt .f32 (z 2) (z 10) then true else false)]) := by kernel_rfl
theorem le6_t_2_11 (z : Nat → Nat) (j : J) : (regionOf EE le6 (S 55 (lJ true ((11 : Nat) : Int) ((2 : Nat) : Int) j) (H z) true)).map (see sl6) = some (55, H z, fokG (fgt .f32 (z 2) (z 11)), [vB true, vP, vI ((11 : Nat) : Int), vI ((2 : Nat) : Int), vB (bif fgt .f32 (z 2) (z 11) then true else false)]) := by kernel_rfl
theorem le6_t_2_12 (z : Nat → Nat) (j : J) : (regionOf EE le6 (S 55 (lJ true ((12 : Nat) : Int) ((2 : Nat) : Int) j) (H z) true)).map (see sl6) = some (55, H z, fokG (fgt .f32 (z 2) (z 12)), [vB true, vP, vI ((12 : Nat) : Int), vI ((2 : Nat) : Int), vB (bif fgt .f32 (z 2) (z 12) then true else false)]) := by kernel_rfl
theorem le6_t_2_13 (z : Nat → Nat) (j : J) : (regionOf EE le6 (S 55 (lJ true ((13 : Nat) : Int) ((2 : Nat) : Int) j) (H z) true)).map (see sl6) = some (55, H z, fokG (fgt .f32 (z 2) (z 13)), [vB true, vP, vI ((13 : Nat) : Int), vI ((2 : Nat) : Int), vB (bif fgt .f32 (z 2) (z 13) then true else false)]) := by kernel_rfl
theorem le6_t_2_14 (z : Nat → Nat) (j : J) : (regionOf EE le6 (S 55 (lJ true ((14 : Nat) : Int) ((2 : Nat) : Int) j) (H z) true)).map (see sl6) = some (55, H z, fokG (fgt .f32 (z 2) (z 14)), [vB true, vP, vI ((14 : Nat) : Int), vI ((2 : Nat) : Int), vB (bif fgt .f32 (z 2) (z 14) then true else false)]) := by kernel_rfl
theorem le6_t_2_15 (z : Nat → Nat) (j : J) : (regionOf EE le6 (S 55 (lJ true ((15 : Nat) : Int) ((2 : Nat) : Int) j) (H z) true)).map (see sl6) = some (55, H z, fokG (fgt .f32 (z 2) (z 15)), [vB true, vP, vI ((15 : Nat) : Int), vI ((2 : Nat) : Int), vB (bif fgt .f32 (z 2) (z 15) then true else false)]) := by kernel_rfl
theorem le6_t_2 (z : Nat → Nat) (j : J) (a : Nat) (ha : a < 16) : (regionOf EE le6 (S 55 (lJ true ((a : Nat) : Int) ((2 : Nat) : Int) j) (H z) true)).map (see sl6) = some (55, H z, fokG (fgt .f32 (z 2) (z a)), [vB true, vP, vI ((a : Nat) : Int), vI ((2 : Nat) : Int), vB (bif fgt .f32 (z 2) (z a) then true else false)]) := by
  match a, ha with
  | 0, _ => exact le6_t_2_0 z j
  | 1, _ => exact le6_t_2_1 z j
  | 2, _ => exact le6_t_2_2 z j
  | 3, _ => exact le6_t_2_3 z j
  | 4, _ => exact le6_t_2_4 z j
  | 5, _ => exact le6_t_2_5 z j
  | 6, _ => exact le6_t_2_6 z j
  | 7, _ => exact le6_t_2_7 z j
  | 8, _ => exact le6_t_2_8 z j
  | 9, _ => exact le6_t_2_9 z j
  | 10, _ => exact le6_t_2_10 z j
  | 11, _ => exact le6_t_2_11 z j
  | 12, _ => exact le6_t_2_12 z j
  | 13, _ => exact le6_t_2_13 z j
  | 14, _ => exact le6_t_2_14 z j
  | 15, _ => exact le6_t_2_15 z j
  | k + 16, h => exact absurd h (by omega)
theorem le6_t_3_0 (z : Nat → Nat) (j : J) : (regionOf EE le6 (S 55 (lJ true ((0 : Nat) : Int) ((3 : Nat) : Int) j) (H z) true)).map (see sl6) = some (55, H z, fokG (fgt .f32 (z 3) (z 0)), [vB true, vP, vI ((0 : Nat) : Int), vI ((3 : Nat) : Int), vB (bif fgt .f32 (z 3) (z 0) then true else false)]) := by kernel_rfl
theorem le6_t_3_1 (z : Nat → Nat) (j : J) : (regionOf EE le6 (S 55 (lJ true ((1 : Nat) : Int) ((3 : Nat) : Int) j) (H z) true)).map (see sl6) = some (55, H z, fokG (fgt .f32 (z 3) (z 1)), [vB true, vP, vI ((1 : Nat) : Int), vI ((3 : Nat) : Int), vB (bif fgt .f32 (z 3) (z 1) then true else false)]) := by kernel_rfl
theorem le6_t_3_2 (z : Nat → Nat) (j : J) : (regionOf EE le6 (S 55 (lJ true ((2 : Nat) : Int) ((3 : Nat) : Int) j) (H z) true)).map (see sl6) = some (55, H z, fokG (fgt .f32 (z 3) (z 2)), [vB true, vP, vI ((2 : Nat) : Int), vI ((3 : Nat) : Int), vB (bif fgt .f32 (z 3) (z 2) then true else false)]) := by kernel_rfl
theorem le6_t_3_3 (z : Nat → Nat) (j : J) : (regionOf EE le6 (S 55 (lJ true ((3 : Nat) : Int) ((3 : Nat) : Int) j) (H z) true)).map (see sl6) = some (55, H z, fokG (fgt .f32 (z 3) (z 3)), [vB true, vP, vI ((3 : Nat) : Int), vI ((3 : Nat) : Int), vB (bif fgt .f32 (z 3) (z 3) then true else false)]) := by kernel_rfl
theorem le6_t_3_4 (z : Nat → Nat) (j : J) : (regionOf EE le6 (S 55 (lJ true ((4 : Nat) : Int) ((3 : Nat) : Int) j) (H z) true)).map (see sl6) = some (55, H z, fokG (fgt .f32 (z 3) (z 4)), [vB true, vP, vI ((4 : Nat) : Int), vI ((3 : Nat) : Int), vB (bif fgt .f32 (z 3) (z 4) then true else false)]) := by kernel_rfl
theorem le6_t_3_5 (z : Nat → Nat) (j : J) : (regionOf EE le6 (S 55 (lJ true ((5 : Nat) : Int) ((3 : Nat) : Int) j) (H z) true)).map (see sl6) = some (55, H z, fokG (fgt .f32 (z 3) (z 5)), [vB true, vP, vI ((5 : Nat) : Int), vI ((3 : Nat) : Int), vB (bif fgt .f32 (z 3) (z 5) then true else false)]) := by kernel_rfl
theorem le6_t_3_6 (z : Nat → Nat) (j : J) : (regionOf EE le6 (S 55 (lJ true ((6 : Nat) : Int) ((3 : Nat) : Int) j) (H z) true)).map (see sl6) = some (55, H z, fokG (fgt .f32 (z 3) (z 6)), [vB true, vP, vI ((6 : Nat) : Int), vI ((3 : Nat) : Int), vB (bif fgt .f32 (z 3) (z 6) then true else false)]) := by kernel_rfl
theorem le6_t_3_7 (z : Nat → Nat) (j : J) : (regionOf EE le6 (S 55 (lJ true ((7 : Nat) : Int) ((3 : Nat) : Int) j) (H z) true)).map (see sl6) = some (55, H z, fokG (fgt .f32 (z 3) (z 7)), [vB true, vP, vI ((7 : Nat) : Int), vI ((3 : Nat) : Int), vB (bif fgt .f32 (z 3) (z 7) then true else false)]) := by kernel_rfl
theorem le6_t_3_8 (z : Nat → Nat) (j : J) : (regionOf EE le6 (S 55 (lJ true ((8 : Nat) : Int) ((3 : Nat) : Int) j) (H z) true)).map (see sl6) = some (55, H z, fokG (fgt .f32 (z 3) (z 8)), [vB true, vP, vI ((8 : Nat) : Int), vI ((3 : Nat) : Int), vB (bif fgt .f32 (z 3) (z 8) then true else false)]) := by kernel_rfl
theorem le6_t_3_9 (z : Nat → Nat) (j : J) : (regionOf EE le6 (S 55 (lJ true ((9 : Nat) : Int) ((3 : Nat) : Int) j) (H z) true)).map (see sl6) = some (55, H z, fokG (fgt .f32 (z 3) (z 9)), [vB true, vP, vI ((9 : Nat) : Int), vI ((3 : Nat) : Int), vB (bif fgt .f32 (z 3) (z 9) then true else false)]) := by kernel_rfl
theorem le6_t_3_10 (z : Nat → Nat) (j : J) : (regionOf EE le6 (S 55 (lJ true ((10 : Nat) : Int) ((3 : Nat) : Int) j) (H z) true)).map (see sl6) = some (55, H z, fokG (fgt .f32 (z 3) (z 10)), [vB true, vP, vI ((10 : Nat) : Int), vI ((3 : Nat) : Int), vB (bif fgt .f32 (z 3) (z 10) then true else false)]) := by kernel_rfl
theorem le6_t_3_11 (z : Nat → Nat) (j : J) : (regionOf EE le6 (S 55 (lJ true ((11 : Nat) : Int) ((3 : Nat) : Int) j) (H z) true)).map (see sl6) = some (55, H z, fokG (fgt .f32 (z 3) (z 11)), [vB true, vP, vI ((11 : Nat) : Int), vI ((3 : Nat) : Int), vB (bif fgt .f32 (z 3) (z 11) then true else false)]) := by kernel_rfl
theorem le6_t_3_12 (z : Nat → Nat) (j : J) : (regionOf EE le6 (S 55 (lJ true ((12 : Nat) : Int) ((3 : Nat) : Int) j) (H z) true)).map (see sl6) = some (55, H z, fokG (fgt .f32 (z 3) (z 12)), [vB true, vP, vI ((12 : Nat) : Int), vI ((3 : Nat) : Int), vB (bif fgt .f32 (z 3) (z 12) then true else false)]) := by kernel_rfl
theorem le6_t_3_13 (z : Nat → Nat) (j : J) : (regionOf EE le6 (S 55 (lJ true ((13 : Nat) : Int) ((3 : Nat) : Int) j) (H z) true)).map (see sl6) = some (55, H z, fokG (fgt .f32 (z 3) (z 13)), [vB true, vP, vI ((13 : Nat) : Int), vI ((3 : Nat) : Int), vB (bif fgt .f32 (z 3) (z 13) then true else false)]) := by kernel_rfl
theorem le6_t_3_14 (z : Nat → Nat) (j : J) : (regionOf EE le6 (S 55 (lJ true ((14 : Nat) : Int) ((3 : Nat) : Int) j) (H z) true)).map (see sl6) = some (55, H z, fokG (fgt .f32 (z 3) (z 14)), [vB true, vP, vI ((14 : Nat) : Int), vI ((3 : Nat) : Int), vB (bif fgt .f32 (z 3) (z 14) then true else false)]) := by kernel_rfl
theorem le6_t_3_15 (z : Nat → Nat) (j : J) : (regionOf EE le6 (S 55 (lJ true ((15 : Nat) : Int) ((3 : Nat) : Int) j) (H z) true)).map (see sl6) = some (55, H z, fokG (fgt .f32 (z 3) (z 15)), [vB true, vP, vI ((15 : Nat) : Int), vI ((3 : Nat) : Int), vB (bif fgt .f32 (z 3) (z 15) then true else false)]) := by kernel_rfl
theorem le6_t_3 (z : Nat → Nat) (j : J) (a : Nat) (ha : a < 16) : (regionOf EE le6 (S 55 (lJ true ((a : Nat) : Int) ((3 : Nat) : Int) j) (H z) true)).map (see sl6) = some (55, H z, fokG (fgt .f32 (z 3) (z a)), [vB true, vP, vI ((a : Nat) : Int), vI ((3 : Nat) : Int), vB (bif fgt .f32 (z 3) (z a) then true else false)]) := by
  match a, ha with
  | 0, _ => exact le6_t_3_0 z j
  | 1, _ => exact le6_t_3_1 z j
  | 2, _ => exact le6_t_3_2 z j
  | 3, _ => exact le6_t_3_3 z j
  | 4, _ => exact le6_t_3_4 z j
  | 5, _ => exact le6_t_3_5 z j
  | 6, _ => exact le6_t_3_6 z j
  | 7, _ => exact le6_t_3_7 z j
  | 8, _ => exact le6_t_3_8 z j
  | 9, _ => exact le6_t_3_9 z j
  | 10, _ => exact le6_t_3_10 z j
  | 11, _ => exact le6_t_3_11 z j
  | 12, _ => exact le6_t_3_12 z j
  | 13, _ => exact le6_t_3_13 z j
  | 14, _ => exact le6_t_3_14 z j
  | 15, _ => exact le6_t_3_15 z j
  | k + 16, h => exact absurd h (by omega)
theorem le6_t_4_0 (z : Nat → Nat) (j : J) : (regionOf EE le6 (S 55 (lJ true ((0 : Nat) : Int) ((4 : Nat) : Int) j) (H z) true)).map (see sl6) = some (55, H z, fokG (fgt .f32 (z 4) (z 0)), [vB true, vP, vI ((0 : Nat) : Int), vI ((4 : Nat) : Int), vB (bif fgt .f32 (z 4) (z 0) then true else false)]) := by kernel_rfl
theorem le6_t_4_1 (z : Nat → Nat) (j : J) : (regionOf EE le6 (S 55 (lJ true ((1 : Nat) : Int) ((4 : Nat) : Int) j) (H z) true)).map (see sl6) = some (55, H z, fokG (fgt .f32 (z 4) (z 1)), [vB true, vP, vI ((1 : Nat) : Int), vI ((4 : Nat) : Int), vB (bif fgt .f32 (z 4) (z 1) then true else false)]) := by kernel_rfl
theorem le6_t_4_2 (z : Nat → Nat) (j : J) : (regionOf EE le6 (S 55 (lJ true ((2 : Nat) : Int) ((4 : Nat) : Int) j) (H z) true)).map (see sl6) = some (55, H z, fokG (fgt .f32 (z 4) (z 2)), [vB true, vP, vI ((2 : Nat) : Int), vI ((4 : Nat) : Int), vB (bif fgt .f32 (z 4) (z 2) then true else false)]) := by kernel_rfl
theorem le6_t_4_3 (z : Nat → Nat) (j : J) : (regionOf EE le6 (S 55 (lJ true ((3 : Nat) : Int) ((4 : Nat) : Int) j) (H z) true)).map (see sl6) = some (55, H z, fokG (fgt .f32 (z 4) (z 3)), [vB true, vP, vI ((3 : Nat) : Int), vI ((4 : Nat) : Int), vB (bif fgt .f32 (z 4) (z 3) then true else false)]) := by kernel_rfl
theorem le6_t_4_4 (z : Nat → Nat) (j : J) : (regionOf EE le6 (S 55 (lJ true ((4 : Nat) : Int) ((4 : Nat) : Int) j) (H z) true)).map (see sl6) = some (55, H z, fokG (fgt .f32 (z 4) (z 4)), [vB true, vP, vI ((4 : Nat) : Int), vI ((4 : Nat) : Int), vB (bif fgt .f32 (z 4) (z 4) then true else false)]) := by kernel_rfl
theorem le6_t_4_5 (z : Nat → Nat) (j : J) : (regionOf EE le6 (S 55 (lJ true ((5 : Nat) : Int) ((4 : Nat) : Int) j) (H z) true)).map (see sl6) = some (55, H z, fokG (fgt .f32 (z 4) (z 5)), [vB true, vP, vI ((5 : Nat) : Int), vI ((4 : Nat) : Int), vB (bif fgt .f32 (z 4) (z 5) then true else false)]) := by kernel_rfl
theorem le6_t_4_6 (z : Nat → Nat) (j : J) : (regionOf EE le6 (S 55 (lJ true ((6 : Nat) : Int) ((4 : Nat) : Int) j) (H z) true)).map (see sl6) = some (55, H z, fokG (fgt .f32 (z 4) (z 6)), [vB true, vP, vI ((6 : Nat) : Int), vI ((4 : Nat) : Int), vB (bif fgt .f32 (z 4) (z 6) then true else false)]) := by kernel_rfl
theorem le6_t_4_7 (z : Nat → Nat) (j : J) : (regionOf EE le6 (S 55 (lJ true ((7 : Nat) : Int) ((4 : Nat) : Int) j) (H z) true)).map (see sl6) = some (55, H z, fokG (fgt .f32 (z 4) (z 7)), [vB true, vP, vI ((7 : Nat) : Int), vI ((4 : Nat) : Int), vB (bif fgt .f32 (z 4) (z 7) then true else false)]) := by kernel_rfl
theorem le6_t_4_8 (z : Nat → Nat) (j : J) : (regionOf EE le6 (S 55 (lJ true ((8 : Nat) : Int) ((4 : Nat) : Int) j) (H z) true)).map (see sl6) = some (55, H z, fokG (fgt .f32 (z 4) (z 8)), [vB true, vP, vI ((8 : Nat) : Int), vI ((4 : Nat) : Int), vB (bif fgt .f32 (z 4) (z 8) then true else false)]) := by kernel_rfl
theorem le6_t_4_9 (z : Nat → Nat) (j : J) : (regionOf EE le6 (S 55 (lJ true ((9 : Nat) : Int) ((4 : Nat) : Int) j) (H z) true)).map (see sl6) = some (55, H z, fokG (fgt .f32 (z 4) (z 9)), [vB true, vP, vI ((9 : Nat) : Int), vI ((4 : Nat) : Int), vB (bif fgt .f32 (z 4) (z 9) then true else false)]) := by kernel_rfl
theorem le6_t_4_10 (z : Nat → Nat) (j : J) : (regionOf EE le6 (S 55 (lJ true ((10 : Nat) : Int) ((4 : Nat) : Int) j) (H z) true)).map (see sl6) = some (55, H z, fokG (fgt .f32 (z 4) (z 10)), [vB true, vP, vI ((10 : Nat) : Int), vI ((4 : Nat) : Int), vB (bif fgt .f32 (z 4) (z 10) then true else false)]) := by kernel_rfl
theorem le6_t_4_11 (z : Nat → Nat) (j : J) : (regionOf EE le6 (S 55 (lJ true ((11 : Nat) : Int) ((4 : Nat) : Int) j) (H z) true)).map (see sl6) = some (55, H z, fokG (fgt .f32 (z 4) (z 11)), [vB true, vP, vI ((11 : Nat) : Int), vI ((4 : Nat) : Int), vB (bif fgt .f32 (z 4) (z 11) then true else false)]) := by kernel_rfl
theorem le6_t_4_12 (z : Nat → Nat) (j : J) : (regionOf EE le6 (S 55 (lJ true ((12 : Nat) : Int) ((4 : Nat) : Int) j) (H z) true)).map (see sl6) = some (55, H z, fokG (fgt .f32 (z 4) (z 12)), [vB true, vP, vI ((12 : Nat) : Int), vI ((4 : Nat) : Int), vB (bif fgt .f32 (z 4) (z 12) then true else false)]) := by kernel_rfl
theorem le6_t_4_13 (z : Nat → Nat) (j : J) : (regionOf EE le6 (S 55 (lJ true ((13 : Nat) : Int) ((4 : Nat) : Int) j) (H z) true)).map (see sl6) = some (55, H z, fokG (fgt .f32 (z 4) (z 13)), [vB true, vP, vI ((13 : Nat) : Int), vI ((4 : Nat) : Int), vB (bif fgt .f32 (z 4) (z 13) then true else false)]) := by kernel_rfl
theorem le6_t_4_14 (z : Nat → Nat) (j : J) : (regionOf EE le6 (S 55 (lJ true ((14 : Nat) : Int) ((4 : Nat) : Int) j) (H z) true)).map (see sl6) = some (55, H z, fokG (fgt .f32 (z 4) (z 14)), [vB true, vP, vI ((14 : Nat) : Int), vI ((4 : Nat) : Int), vB (bif fgt .f32 (z 4) (z 14) then true else false)]) := by kernel_rfl
theorem le6_t_4_15 (z : Nat → Nat) (j : J) : (regionOf EE le6 (S 55 (lJ true ((15 : Nat) : Int) ((4 : Nat) : Int) j) (H z) true)).map (see sl6) = some (55, H z, fokG (fgt .f32 (z 4) (z 15)), [vB true, vP, vI ((15 : Nat) : Int), vI ((4 : Nat) : Int), vB (bif fgt .f32 (z 4) (z 15) then true else false)]) := by kernel_rfl
theorem le6_t_4 (z : Nat → Nat) (j : J) (a : Nat) (ha : a < 16) : (regionOf EE le6 (S 55 (lJ true ((a : Nat) : Int) ((4 : Nat) : Int) j) (H z) true)).map (see sl6) = some (55, H z, fokG (fgt .f32 (z 4) (z a)), [vB true, vP, vI ((a : Nat) : Int), vI ((4 : Nat) : Int), vB (bif fgt .f32 (z 4) (z a) then true else false)]) := by
  match a, ha with
  | 0, _ => exact le6_t_4_0 z j
  | 1, _ => exact le6_t_4_1 z j
  | 2, _ => exact le6_t_4_2 z j
  | 3, _ => exact le6_t_4_3 z j
  | 4, _ => exact le6_t_4_4 z j
  | 5, _ => exact le6_t_4_5 z j
  | 6, _ => exact le6_t_4_6 z j
  | 7, _ => exact le6_t_4_7 z j
  | 8, _ => exact le6_t_4_8 z j
  | 9, _ => exact le6_t_4_9 z j
  | 10, _ => exact le6_t_4_10 z j
  | 11, _ => exact le6_t_4_11 z j
  | 12, _ => exact le6_t_4_12 z j
  | 13, _ => exact le6_t_4_13 z j
  | 14, _ => exact le6_t_4_14 z j
  | 15, _ => exact le6_t_4_15 z j
  | k + 16, h => exact absurd h (by omega)
theorem le6_t_5_0 (z : Nat → Nat) (j : J) : (regionOf EE le6 (S 55 (lJ true ((0 : Nat) : Int) ((5 : Nat) : Int) j) (H z) true)).map (see sl6) = some (55, H z, fokG (fgt .f32 (z 5) (z 0)), [vB true, vP, vI ((0 : Nat) : Int), vI ((5 : Nat) : Int), vB (bif fgt .f32 (z 5) (z 0) then true else false)]) := by kernel_rfl
theorem le6_t_5_1 (z : Nat → Nat) (j : J) : (regionOf EE le6 (S 55 (lJ true ((1 : Nat) : Int) ((5 : Nat) : Int) j) (H z) true)).map (see sl6) = some (55, H z, fokG (fgt .f32 (z 5) (z 1)), [vB true, vP, vI ((1 : Nat) : Int), vI ((5 : Nat) : Int), vB (bif fgt .f32 (z 5) (z 1) then true else false)]) := by kernel_rfl
theorem le6_t_5_2 (z : Nat → Nat) (j : J) : (regionOf EE le6 (S 55 (lJ true ((2 : Nat) : Int) ((5 : Nat) : Int) j) (H z) true)).map (see sl6) = some (55, H z, fokG (fgt .f32 (z 5) (z 2)), [vB true, vP, vI ((2 : Nat) : Int), vI ((5 : Nat) : Int), vB (bif fgt .f32 (z 5) (z 2) then true else false)]) := by kernel_rfl
theorem le6_t_5_3 (z : Nat → Nat) (j : J) : (regionOf EE le6 (S 55 (lJ true ((3 : Nat) : Int) ((5 : Nat) : Int) j) (H z) true)).map (see sl6) = some (55, H z, fokG (fgt .f32 (z 5) (z 3)), [vB true, vP, vI ((3 : Nat) : Int), vI ((5 : Nat) : Int), vB (bif fgt .f32 (z 5) (z 3) then true else false)]) := by kernel_rfl
theorem le6_t_5_4 (z : Nat → Nat) (j : J) : (regionOf EE le6 (S 55 (lJ true ((4 : Nat) : Int) ((5 : Nat) : Int) j) (H z) true)).map (see sl6) = some (55, H z, fokG (fgt .f32 (z 5) (z 4)), [vB true, vP, vI ((4 : Nat) : Int), vI ((5 : Nat) : Int), vB (bif fgt .f32 (z 5) (z 4) then true else false)]) := by kernel_rfl
theorem le6_t_5_5 (z : Nat → Nat) (j : J) : (regionOf EE le6 (S 55 (lJ true ((5 : Nat) : Int) ((5 : Nat) : Int) j) (H z) true)).map (see sl6) = some (55, H z, fokG (fgt .f32 (z 5) (z 5)), [vB true, vP, vI ((5 : Nat) : Int), vI ((5 : Nat) : Int), vB (bif fgt .f32 (z 5) (z 5) then true else false)]) := by kernel_rfl
theorem le6_t_5_6 (z : Nat → Nat) (j : J) : (regionOf EE le6 (S 55 (lJ true ((6 : Nat) : Int) ((5 : Nat) : Int) j) (H z) true)).map (see sl6) = some (55, H z, fokG (fgt .f32 (z 5) (z 6)), [vB true, vP, vI ((6 : Nat) : Int), vI ((5 : Nat) : Int), vB (bif fgt .f32 (z 5) (z 6) then true else false)]) := by kernel_rfl
theorem le6_t_5_7 (z : Nat → Nat) (j : J) : (regionOf EE le6 (S 55 (lJ true ((7 : Nat) : Int) ((5 : Nat) : Int) j) (H z) true)).map (see sl6) = some (55, H z, fokG (fgt .f32 (z 5) (z 7)), [vB true, vP, vI ((7 : Nat) : Int), vI ((5 : Nat) : Int), vB (bif fgt .f32 (z 5) (z 7) then true else false)]) := by kernel_rfl
theorem le6_t_5_8 (z : Nat → Nat) (j : J) : (regionOf EE le6 (S 55 (lJ true ((8 : Nat) : Int) ((5 : Nat) : Int) j) (H z) true)).map (see sl6) = some (55, H z, fokG (fgt .f32 (z 5) (z 8)), [vB true, vP, vI ((8 : Nat) : Int), vI ((5 : Nat) : Int), vB (bif fgt .f32 (z 5) (z 8) then true else false)]) := by kernel_rfl
theorem le6_t_5_9 (z : Nat → Nat) (j : J) : (regionOf EE le6 (S 55 (lJ true ((9 : Nat) : Int) ((5 : Nat) : Int) j) (H z) true)).map (see sl6) = some (55, H z, fokG (fgt .f32 (z 5) (z 9)), [vB true, vP, vI ((9 : Nat) : Int), vI ((5 : Nat) : Int), vB (bif fgt .f32 (z 5) (z 9) then true else false)]) := by kernel_rfl
theorem le6_t_5_10 (z : Nat → Nat) (j : J) : (regionOf EE le6 (S 55 (lJ true ((10 : Nat) : Int) ((5 : Nat) : Int) j) (H z) true)).map (see sl6) = some (55, H z, fokG (fgt .f32 (z 5) (z 10)), [vB true, vP, vI ((10 : Nat) : Int), vI ((5 : Nat) : Int), vB (bif fgt .f32 (z 5) (z 10) then true else false)]) := by kernel_rfl
theorem le6_t_5_11 (z : Nat → Nat) (j : J) : (regionOf EE le6 (S 55 (lJ true ((11 : Nat) : Int) ((5 : Nat) : Int) j) (H z) true)).map (see sl6) = some (55, H z, fokG (fgt .f32 (z 5) (z 11)), [vB true, vP, vI ((11 : Nat) : Int), vI ((5 : Nat) : Int), vB (bif fgt .f32 (z 5) (z 11) then true else false)]) := by kernel_rfl
theorem le6_t_5_12 (z : Nat → Nat) (j : J) : (regionOf EE le6 (S 55 (lJ true ((12 : Nat) : Int) ((5 : Nat) : Int) j) (H z) true)).map (see sl6) = some (55, H z, fokG (fgt .f32 (z 5) (z 12)), [vB true, vP, vI ((12 : Nat) : Int), vI ((5 : Nat) : Int), vB (bif fgt .f32 (z 5) (z 12) then true else false)]) := by kernel_rfl
theorem le6_t_5_13 (z : Nat → Nat) (j : J) : (regionOf EE le6 (S 55 (lJ true ((13 : Nat) : Int) ((5 : Nat) : Int) j) (H z) true)).map (see sl6) = some (55, H z, fokG (fgt .f32 (z 5) (z 13)), [vB true, vP, vI ((13 : Nat) : Int), vI ((5 : Nat) : Int), vB (bif fgt .f32 (z 5) (z 13) then true else false)]) := by kernel_rfl
theorem le6_t_5_14 (z : Nat → Nat) (j : J) : (regionOf EE le6 (S 55 (lJ true ((14 : Nat) : Int) ((5 : Nat) : Int) j) (H z) true)).map (see sl6) = some (55, H z, fokG (fgt .f32 (z 5) (z 14)), [vB true, vP, vI ((14 : Nat) : Int), vI ((5 : Nat) : Int), vB (bif fgt .f32 (z 5) (z 14) then true else false)]) := by kernel_rfl
theorem le6_t_5_15 (z : Nat → Nat) (j : J) : (regionOf EE le6 (S 55 (lJ true ((15 : Nat) : Int) ((5 : Nat) : Int) j) (H z) true)).map (see sl6) = some (55, H z, fokG (fgt .f32 (z 5) (z 15)), [vB true, vP, vI ((15 : Nat) : Int), vI ((5 : Nat) : Int), vB (bif fgt .f32 (z 5) (z 15) then true else false)]) := by kernel_rfl
theorem le6_t_5 (z : Nat → Nat) (j : J) (a : Nat) (ha : a < 16) : (regionOf EE le6 (S 55 (lJ true ((a : Nat) : Int) ((5 : Nat) : Int) j) (H z) true)).map (see sl6) = some (55, H z, fokG (fgt .f32 (z 5) (z a)), [vB true, vP, vI ((a : Nat) : Int), vI ((5 : Nat) : Int), vB (bif fgt .f32 (z 5) (z a) then true else false)]) := by
  match a, ha with
  | 0, _ => exact le6_t_5_0 z j
  | 1, _ => exact le6_t_5_1 z j
  | 2, _ => exact le6_t_5_2 z j
  | 3, _ => exact le6_t_5_3 z j
  | 4, _ => exact le6_t_5_4 z j
  | 5, _ => exact le6_t_5_5 z j
  | 6, _ => exact le6_t_5_6 z j
  | 7, _ => exact le6_t_5_7 z j
  | 8, _ => exact le6_t_5_8 z j
  | 9, _ => exact le6_t_5_9 z j
  | 10, _ => exact le6_t_5_10 z j
  | 11, _ => exact le6_t_5_11 z j
  | 12, _ => exact le6_t_5_12 z j
  | 13, _ => exact le6_t_5_13 z j
  | 14, _ => exact le6_t_5_14 z j
  | 15, _ => exact le6_t_5_15 z j
  | k + 16, h => exact absurd h (by omega)
theorem le6_t_6_0 (z : Nat → Nat) (j : J) : (regionOf EE le6 (S 55 (lJ true ((0 : Nat) : Int) ((6 : Nat) : Int) j) (H z) true)).map (see sl6) = some (55, H z, fokG (fgt .f32 (z 6) (z 0)), [vB true, vP, vI ((0 : Nat) : Int), vI ((6 : Nat) : Int), vB (bif fgt .f32 (z 6) (z 0) then true else false)]) := by kernel_rfl
theorem le6_t_6_1 (z : Nat → Nat) (j : J) : (regionOf EE le6 (S 55 (lJ true ((1 : Nat) : Int) ((6 : Nat) : Int) j) (H z) true)).map (see sl6) = some (55, H z, fokG (fgt .f32 (z 6) (z 1)), [vB true, vP, vI ((1 : Nat) : Int), vI ((6 : Nat) : Int), vB (bif fgt .f32 (z 6) (z 1) then true else false)]) := by kernel_rfl
theorem le6_t_6_2 (z : Nat → Nat) (j : J) : (regionOf EE le6 (S 55 (lJ true ((2 : Nat) : Int) ((6 : Nat) : Int) j) (H z) true)).map (see sl6) = some (55, H z, fokG (fgt .f32 (z 6) (z 2)), [vB true, vP, vI ((2 : Nat) : Int), vI ((6 : Nat) : Int), vB (bif fgt .f32 (z 6) (z 2) then true else false)]) := by kernel_rfl
theorem le6_t_6_3 (z : Nat → Nat) (j : J) : (regionOf EE le6 (S 55 (lJ true ((3 : Nat) : Int) ((6 : Nat) : Int) j) (H z) true)).map (see sl6) = some (55, H z, fokG (fgt .f32 (z 6) (z 3)), [vB true, vP, vI ((3 : Nat) : Int), vI ((6 : Nat) : Int), vB (bif fgt .f32 (z 6) (z 3) then true else false)]) := by kernel_rfl
theorem le6_t_6_4 (z : Nat → Nat) (j : J) : (regionOf EE le6 (S 55 (lJ true ((4 : Nat) : Int) ((6 : Nat) : Int) j) (H z) true)).map (see sl6) = some (55, H z, fokG (fgt .f32 (z 6) (z 4)), [vB true, vP, vI ((4 : Nat) : Int), vI ((6 : Nat) : Int), vB (bif fgt .f32 (z 6) (z 4) then true else false)]) := by kernel_rfl
theorem le6_t_6_5 (z : Nat → Nat) (j : J) : (regionOf EE le6 (S 55 (lJ true ((5 : Nat) : Int) ((6 : Nat) : Int) j) (H z) true)).map (see sl6) = some (55, H z, fokG (fgt .f32 (z 6) (z 5)), [vB true, vP, vI ((5 : Nat) : Int), vI ((6 : Nat) : Int), vB (bif fgt .f32 (z 6) (z 5) then true else false)]) := by kernel_rfl
theorem le6_t_6_6 (z : Nat → Nat) (j : J) : (regionOf EE le6 (S 55 (lJ true ((6 : Nat) : Int) ((6 : Nat) : Int) j) (H z) true)).map (see sl6) = some (55, H z, fokG (fgt .f32 (z 6) (z 6)), [vB true, vP, vI ((6 : Nat) : Int), vI ((6 : Nat) : Int), vB (bif fgt .f32 (z 6) (z 6) then true else false)]) := by kernel_rfl
theorem le6_t_6_7 (z : Nat → Nat) (j : J) : (regionOf EE le6 (S 55 (lJ true ((7 : Nat) : Int) ((6 : Nat) : Int) j) (H z) true)).map (see sl6) = some (55, H z, fokG (fgt .f32 (z 6) (z 7)), [vB true, vP, vI ((7 : Nat) : Int), vI ((6 : Nat) : Int), vB (bif fgt .f32 (z 6) (z 7) then true else false)]) := by kernel_rfl
theorem le6_t_6_8 (z : Nat → Nat) (j : J) : (regionOf EE le6 (S 55 (lJ true ((8 : Nat) : Int) ((6 : Nat) : Int) j) (H z) true)).map (see sl6) = some (55, H z, fokG (fgt .f32 (z 6) (z 8)), [vB true, vP, vI ((8 : Nat) : Int), vI ((6 : Nat) : Int), vB (bif fgt .f32 (z 6) (z 8) then true else false)]) := by kernel_rfl
theorem le6_t_6_9 (z : Nat → Nat) (j : J) : (regionOf EE le6 (S 55 (lJ true ((9 : Nat) : Int) ((6 : Nat) : Int) j) (H z) true)).map (see sl6) = some (55, H z, fokG (fgt .f32 (z 6) (z 9)), [vB true, vP, vI ((9 : Nat) : Int), vI ((6 : Nat) : Int), vB (bif fgt .f32 (z 6) (z 9) then true else false)]) := by kernel_rfl
theorem le6_t_6_10 (z : Nat → Nat) (j : J) : (regionOf EE le6 (S 55 (lJ true ((10 : Nat) : Int) ((6 : Nat) : Int) j) (H z) true)).map (see sl6) = some (55, H z, fokG (fgt .f32 (z 6) (z 10)), [vB true, vP, vI ((10 : Nat) : Int), vI ((6 : Nat) : Int), vB (bif fgt .f32 (z 6) (z 10) then true else false)]) := by kernel_rfl
theorem le6_t_6_11 (z : Nat → Nat) (j : J) : (regionOf EE le6 (S 55 (lJ true ((11 : Nat) : Int) ((6 : Nat) : Int) j) (H z) true)).map (see sl6) = some (55, H z, fokG (fgt .f32 (z 6) (z 11)), [vB true, vP, vI ((11 : Nat) : Int), vI ((6 : Nat) : Int), vB (bif fgt .f32 (z 6) (z 11) then true else false)]) := by kernel_rfl
theorem le6_t_6_12 (z : Nat → Nat) (j : J) : (regionOf EE le6 (S 55 (lJ true ((12 : Nat) : Int) ((6 : Nat) : Int) j) (H z) true)).map (see sl6) = some (55, H z, fokG (fgt .f32 (z 6) (z 12)), [vB true, vP, vI ((12 : Nat) : Int), vI ((6 : Nat) : Int), vB (bif fgt .f32 (z 6) (z 12) then true else false)]) := by kernel_rfl
theorem le6_t_6_13 (z : Nat → Nat) (j : J) : (regionOf EE le6 (S 55 (lJ true ((13 : Nat) : Int) ((6 : Nat) : Int) j) (H z) true)).map (see sl6) = some (55, H z, fokG (fgt .f32 (z 6) (z 13)), [vB true, vP, vI ((13 : Nat) : Int), vI ((6 : Nat) : Int), vB (bif fgt .f32 (z 6) (z 13) then true else false)]) := by kernel_rfl
theorem le6_t_6_14 (z : Nat → Nat) (j : J) : (regionOf EE le6 (S 55 (lJ true ((14 : Nat) : Int) ((6 : Nat) : Int) j) (H z) true)).map (see sl6) = some (55, H z, fokG (fgt .f32 (z 6) (z 14)), [vB true, vP, vI ((14 : Nat) : Int), vI ((6 : Nat) : Int), vB (bif fgt .f32 (z 6) (z 14) then true else false)]) := by kernel_rfl
theorem le6_t_6_15 (z : Nat → Nat) (j : J) : (regionOf EE le6 (S 55 (lJ true ((15 : Nat) : Int) ((6 : Nat) : Int) j) (H z) true)).map (see sl6) = some (55, H z, fokG (fgt .f32 (z 6) (z 15)), [vB true, vP, vI ((15 : Nat) : Int), vI ((6 : Nat) : Int), vB (bif fgt .f32 (z 6) (z 15) then true else false)]) := by kernel_rfl
theorem le6_t_6 (z : Nat → Nat) (j : J) (a : Nat) (ha : a < 16) : (regionOf EE le6 (S 55 (lJ true ((a : Nat) : Int) ((6 : Nat) : Int) j) (H z) true)).map (see sl6) = some (55, H z, fokG (fgt .f32 (z 6) (z a)), [vB true, vP, vI ((a : Nat) : Int), vI ((6 : Nat) : Int), vB (bif fgt .f32 (z 6) (z a) then true else false)]) := by
  match a, ha with
  | 0, _ => exact le6_t_6_0 z j
  | 1, _ => exact le6_t_6_1 z j
  | 2, _ => exact le6_t_6_2 z j
  | 3, _ => exact le6_t_6_3 z j
  | 4, _ => exact le6_t_6_4 z j
  | 5, _ => exact le6_t_6_5 z j
  | 6, _ => exact le6_t_6_6 z j
  | 7, _ => exact le6_t_6_7 z j
  | 8, _ => exact le6_t_6_8 z j
  | 9, _ => exact le6_t_6_9 z j
  | 10, _ => exact le6_t_6_10 z j
  | 11, _ => exact le6_t_6_11 z j
  | 12, _ => exact le6_t_6_12 z j
  | 13, _ => exact le6_t_6_13 z j
  | 14, _ => exact le6_t_6_14 z j
  | 15, _ => exact le6_t_6_15 z j
  | k + 16, h => exact absurd h (by omega)
theorem le6_t_7_0 (z : Nat → Nat) (j : J) : (regionOf EE le6 (S 55 (lJ true ((0 : Nat) : Int) ((7 : Nat) : Int) j) (H z) true)).map (see sl6) = some (55, H z, fokG (fgt .f32 (z 7) (z 0)), [vB true, vP, vI ((0 : Nat) : Int), vI ((7 : Nat) : Int), vB (bif fgt .f32 (z 7) (z 0) then true else false)]) := by kernel_rfl
theorem le6_t_7_1 (z : Nat → Nat) (j : J) : (regionOf EE le6 (S 55 (lJ true ((1 : Nat) : Int) ((7 : Nat) : Int) j) (H z) true)).map (see sl6) = some (55, H z, fokG (fgt .f32 (z 7) (z 1)), [vB true, vP, vI ((1 : Nat) : Int), vI ((7 : Nat) : Int), vB (bif fgt .f32 (z 7) (z 1) then true else false)]) := by kernel_rfl
theorem le6_t_7_2 (z : Nat → Nat) (j : J) : (regionOf EE le6 (S 55 (lJ true ((2 : Nat) : Int) ((7 : Nat) : Int) j) (H z) true)).map (see sl6) = some (55, H z, fokG (fgt .f32 (z 7) (z 2)), [vB true, vP, vI ((2 : Nat) : Int), vI ((7 : Nat) : Int), vB (bif fgt .f32 (z 7) (z 2) then true else false)]) := by kernel_rfl
theorem le6_t_7_3 (z : Nat → Nat) (j : J) : (regionOf EE le6 (S 55 (lJ true ((3 : Nat) : Int) ((7 : Nat) : Int) j) (H z) true)).map (see sl6) = some (55, H z, fokG (fgt .f32 (z 7) (z 3)), [vB true, vP, vI ((3 : Nat) : Int), vI ((7 : Nat) : Int), vB (bif fgt .f32 (z 7) (z 3) then true else false)]) := by kernel_rfl
theorem le6_t_7_4 (z : Nat → Nat) (j : J) : (regionOf EE le6 (S 55 (lJ true ((4 : Nat) : Int) ((7 : Nat) : Int) j) (H z) true)).map (see sl6) = some (55, H z, fokG (fgt .f32 (z 7) (z 4)), [vB true, vP, vI ((4 : Nat) : Int), vI ((7 : Nat) : Int), vB (bif fgt .f32 (z 7) (z 4) then true else false)]) := by kernel_rfl
theorem le6_t_7_5 (z : Nat → Nat) (j : J) : (regionOf EE le6 (S 55 (lJ true ((5 : Nat) : Int) ((7 : Nat) : Int) j) (H z) true)).map (see sl6) = some (55, H z, fokG (fgt .f32 (z 7) (z 5)), [vB true, vP, vI ((5 : Nat) : Int), vI ((7 : Nat) : Int), vB (bif fgt .f32 (z 7) (z 5) then true else false)]) := by kernel_rfl
theorem le6_t_7_6 (z : Nat → Nat) (j : J) : (regionOf EE le6 (S 55 (lJ true ((6 : Nat) : Int) ((7 : Nat) : Int) j) (H z) true)).map (see sl6) = some (55, H z, fokG (fgt .f32 (z 7) (z 6)), [vB true, vP, vI ((6 : Nat) : Int), vI ((7 : Nat) : Int), vB (bif fgt .f32 (z 7) (z 6) then true else false)]) := by kernel_rfl
theorem le6_t_7_7 (z : Nat → Nat) (j : J) : (regionOf EE le6 (S 55 (lJ true ((7 : Nat) : Int) ((7 : Nat) : Int) j) (H z) true)).map (see sl6) = some (55, H z, fokG (fgt .f32 (z 7) (z 7)), [vB true, vP, vI ((7 : Nat) : Int), vI ((7 : Nat) : Int), vB (bif fgt .f32 (z 7) (z 7) then true else false)]) := by kernel_rfl
theorem le6_t_7_8 (z : Nat → Nat) (j : J) : (regionOf EE le6 (S 55 (lJ true ((8 : Nat) : Int) ((7 : Nat) : Int) j) (H z) true)).map (see sl6) = some (55, H z, fokG (fgt .f32 (z 7) (z 8)), [vB true, vP, vI ((8 : Nat) : Int), vI ((7 : Nat) : Int), vB (bif fgt .f32 (z 7) (z 8) then true else false)]) := by kernel_rfl
theorem le6_t_7_9 (z : Nat → Nat) (j : J) : (regionOf EE le6 (S 55 (lJ true ((9 : Nat) : Int) ((7 : Nat) : Int) j) (H z) true)).map (see sl6) = some (55, H z, fokG (fgt .f32 (z 7) (z 9)), [vB true, vP, vI ((9 : Nat) : Int), vI ((7 : Nat) : Int), vB (bif fgt .f32 (z 7) (z 9) then true else false)]) := by kernel_rfl
theorem le6_t_7_10 (z : Nat → Nat) (j : J) : (regionOf EE le6 (S 55 (lJ true ((10 : Nat) : Int) ((7 : Nat) : Int) j) (H z) true)).map (see sl6) = some (55, H z, fokG (fgt .f32 (z 7) (z 10)), [vB true, vP, vI ((10 : Nat) : Int), vI ((7 : Nat) : Int), vB (bif fgt .f32 (z 7) (z 10) then true else false)]) := by kernel_rfl
theorem le6_t_7_11 (z : Nat → Nat) (j : J) : (regionOf EE le6 (S 55 (lJ true ((11 : Nat) : Int) ((7 : Nat) : Int) j) (H z) true)).map (see sl6) = some (55, H z, fokG (fgt .f32 (z 7) (z 11)), [vB true, vP, vI ((11 : Nat) : Int), vI ((7 : Nat) : Int), vB (bif fgt .f32 (z 7) (z 11) then true else false)]) := by kernel_rfl
theorem le6_t_7_12 (z : Nat → Nat) (j : J) : (regionOf EE le6 (S 55 (lJ true ((12 : Nat) : Int) ((7 : Nat) : Int) j) (H z) true)).map (see sl6) = some (55, H z, fokG (fgt .f32 (z 7) (z 12)), [vB true, vP, vI ((12 : Nat) : Int), vI ((7 : Nat) : Int), vB (bif fgt .f32 (z 7) (z 12) then true else false)]) := by kernel_rfl
theorem le6_t_7_13 (z : Nat → Nat) (j : J) : (regionOf EE le6 (S 55 (lJ true ((13 : Nat) : Int) ((7 : Nat) : Int) j) (H z) true)).map (see sl6) = some (55, H z, fokG (fgt .f32 (z 7) (z 13)), [vB true, vP, vI ((13 : Nat) : Int), vI ((7 : Nat) : Int), vB (bif fgt .f32 (z 7) (z 13) then true else false)]) := by kernel_rfl
theorem le6_t_7_14 (z : Nat → Nat) (j : J) : (regionOf EE le6 (S 55 (lJ true ((14 : Nat) : Int) ((7 : Nat) : Int) j) (H z) true)).map (see sl6) = some (55, H z, fokG (fgt .f32 (z 7) (z 14)), [vB true, vP, vI ((14 : Nat) : Int), vI ((7 : Nat) : Int), vB (bif fgt .f32 (z 7) (z 14) then true else false)]) := by kernel_rfl
theorem le6_t_7_15 (z : Nat → Nat) (j : J) : (regionOf EE le6 (S 55 (lJ true ((15 : Nat) : Int) ((7 : Nat) : Int) j) (H z) true)).map (see sl6) = some (55, H z, fokG (fgt .f32 (z 7) (z 15)), [vB true, vP, vI ((15 : Nat) : Int), vI ((7 : Nat) : Int), vB (bif fgt .f32 (z 7) (z 15) then true else false)]) := by kernel_rfl
theorem le6_t_7 (z : Nat → Nat) (j : J) (a : Nat) (ha : a < 16) : (regionOf EE le6 (S 55 (lJ true ((a : Nat) : Int) ((7 : Nat) : Int) j) (H z) true)).map (see sl6) = some (55, H z, fokG (fgt .f32 (z 7) (z a)), [vB true, vP, vI ((a : Nat) : Int), vI ((7 : Nat) : Int), vB (bif fgt .f32 (z 7) (z a) then true else false)]) := by
  match a, ha with
  | 0, _ => exact le6_t_7_0 z j
  | 1, _ => exact le6_t_7_1 z j
  | 2, _ => exact le6_t_7_2 z j
  | 3, _ => exact le6_t_7_3 z j
  | 4, _ => exact le6_t_7_4 z j
  | 5, _ => exact le6_t_7_5 z j
  | 6, _ => exact le6_t_7_6 z j
  | 7, _ => exact le6_t_7_7 z j
  | 8, _ => exact le6_t_7_8 z j
  | 9, _ => exact le6_t_7_9 z j
  | 10, _ => exact le6_t_7_10 z j
  | 11, _ => exact le6_t_7_11 z j
  | 12, _ => exact le6_t_7_12 z j
  | 13, _ => exact le6_t_7_13 z j
  | 14, _ => exact le6_t_7_14 z j
  | 15, _ => exact le6_t_7_15 z j
  | k + 16, h => exact absurd h (by omega)
theorem le6_t_8_0 (z : Nat → Nat) (j : J) : (regionOf EE le6 (S 55 (lJ true ((0 : Nat) : Int) ((8 : Nat) : Int) j) (H z) true)).map (see sl6) = some (55, H z, fokG (fgt .f32 (z 8) (z 0)), [vB true, vP, vI ((0 : Nat) : Int), vI ((8 : Nat) : Int), vB (bif fgt .f32 (z 8) (z 0) then true else false)]) := by kernel_rfl
theorem le6_t_8_1 (z : Nat → Nat) (j : J) : (regionOf EE le6 (S 55 (lJ true ((1 : Nat) : Int) ((8 : Nat) : Int) j) (H z) true)).map (see sl6) = some (55, H z, fokG (fgt .f32 (z 8) (z 1)), [vB true, vP, vI ((1 : Nat) : Int), vI ((8 : Nat) : Int), vB (bif fgt .f32 (z 8) (z 1) then true else false)]) := by kernel_rfl
theorem le6_t_8_2 (z : Nat → Nat) (j : J) : (regionOf EE le6 (S 55 (lJ true ((2 : Nat) : Int) ((8 : Nat) : Int) j) (H z) true)).map (see sl6) = some (55, H z, fokG (fgt .f32 (z 8) (z 2)), [vB true, vP, vI ((2 : Nat) : Int), vI ((8 : Nat) : Int), vB (bif fgt .f32 (z 8) (z 2) then true else false)]) := by kernel_rfl
theorem le6_t_8_3 (z : Nat → Nat) (j : J) : (regionOf EE le6 (S 55 (lJ true ((3 : Nat) : Int) ((8 : Nat) : Int) j) (H z) true)).map (see sl6) = some (55, H z, fokG (fgt .f32 (z 8) (z 3)), [vB true, vP, vI ((3 : Nat) : Int), vI ((8 : Nat) : Int), vB (bif fgt .f32 (z 8) (z 3) then true else false)]) := by kernel_rfl
theorem le6_t_8_4 (z : Nat → Nat) (j : J) : (regionOf EE le6 (S 55 (lJ true ((4 : Nat) : Int) ((8 : Nat) : Int) j) (H z) true)).map (see sl6) = some (55, H z, fokG (fgt .f32 (z 8) (z 4)), [vB true, vP, vI ((4 : Nat) : Int), vI ((8 : Nat) : Int), vB (bif fgt .f32 (z 8) (z 4) then true else false)]) := by kernel_rfl
theorem le6_t_8_5 (z : Nat → Nat) (j : J) : (regionOf EE le6 (S 55 (lJ true ((5 : Nat) : Int) ((8 : Nat) : Int) j) (H z) true)).map (see sl6) = some (55, H z, fokG (fgt .f32 (z 8) (z 5)), [vB true, vP, vI ((5 : Nat) : Int), vI ((8 : Nat) : Int), vB (bif fgt .f32 (z 8) (z 5) then true else false)]) := by kernel_rfl
theorem le6_t_8_6 (z : Nat → Nat) (j : J) : (regionOf EE le6 (S 55 (lJ true ((6 : Nat) : Int) ((8 : Nat) : Int) j) (H z) true)).map (see sl6) = some (55, H z, fokG (fgt .f32 (z 8) (z 6)), [vB true, vP, vI ((6 : Nat) : Int), vI ((8 : Nat) : Int), vB (bif fgt .f32 (z 8) (z 6) then true else false)]) := by kernel_rfl
theorem le6_t_8_7 (z : Nat → Nat) (j : J) : (regionOf EE le6 (S 55 (lJ true ((7 : Nat) : Int) ((8 : Nat) : Int) j) (H z) true)).map (see sl6) = some (55, H z, fokG (fgt .f32 (z 8) (z 7)), [vB true, vP, vI ((7 : Nat) : Int), vI ((8 : Nat) : Int), vB (bif fgt .f32 (z 8) (z 7) then true else false)]) := by kernel_rfl
theorem le6_t_8_8 (z : Nat → Nat) (j : J) : (regionOf EE le6 (S 55 (lJ true ((8 : Nat) : Int) ((8 : Nat) : Int) j) (H z) true)).map (see sl6) = some (55, H z, fokG (fgt .f32 (z 8) (z 8)), [vB true, vP, vI ((8 : Nat) : Int), vI ((8 : Nat) : Int), vB (bif fgt .f32 (z 8) (z 8) then true else false)]) := by kernel_rfl
theorem le6_t_8_9 (z : Nat → Nat) (j : J) : (regionOf EE le6 (S 55 (lJ true ((9 : Nat) : Int) ((8 : Nat) : Int) j) (H z) true)).map (see sl6) = some (55, H z, fokG (fgt .f32 (z 8) (z 9)), [vB true, vP, vI ((9 : Nat) : Int), vI ((8 : Nat) : Int), vB (bif fgt .f32 (z 8) (z 9) then true else false)]) := by kernel_rfl
theorem le6_t_8_10 (z : Nat → Nat) (j : J) : (regionOf EE le6 (S 55 (lJ true ((10 : Nat) : Int) ((8 : Nat) : Int) j) (H z) true)).map (see sl6) = some (55, H z, fokG (fgt .f32 (z 8) (z 10)), [vB true, vP, vI ((10 : Nat) : Int), vI ((8 : Nat) : Int), vB (bif fgt .f32 (z 8) (z 10) then true else false)]) := by kernel_rfl
theorem le6_t_8_11 (z : Nat → Nat) (j : J) : (regionOf EE le6 (S 55 (lJ true ((11 : Nat) : Int) ((8 : Nat) : Int) j) (H z) true)).map (see sl6) = some (55, H z, fokG (fgt .f32 (z 8) (z 11)), [vB true, vP, vI ((11 : Nat) : Int), vI ((8 : Nat) : Int), vB (bif fgt .f32 (z 8) (z 11) then true else false)]) := by kernel_rfl
theorem le6_t_8_12 (z : Nat → Nat) (j : J) : (regionOf EE le6 (S 55 (lJ true ((12 : Nat) : Int) ((8 : Nat) : Int) j) (H z) true)).map (see sl6) = some (55, H z, fokG (fgt .f32 (z 8) (z 12)), [vB true, vP, vI ((12 : Nat) : Int), vI ((8 : Nat) : Int), vB (bif fgt .f32 (z 8) (z 12) then true else false)]) := by kernel_rfl
theorem le6_t_8_13 (z : Nat → Nat) (j : J) : (regionOf EE le6 (S 55 (lJ true ((13 : Nat) : Int) ((8 : Nat) : Int) j) (H z) true)).map (see sl6) = some (55, H z, fokG (fgt .f32 (z 8) (z 13)), [vB true, vP, vI ((13 : Nat) : Int), vI ((8 : Nat) : Int), vB (bif fgt .f32 (z 8) (z 13) then true else false)]) := by kernel_rfl
theorem le6_t_8_14 (z : Nat → Nat) (j : J) : (regionOf EE le6 (S 55 (lJ true ((14 : Nat) : Int) ((8 : Nat) : Int) j) (H z) true)).map (see sl6) = some (55, H z, fokG (fgt .f32 (z 8) (z 14)), [vB true, vP, vI ((14 : Nat) : Int), vI ((8 : Nat) : Int), vB (bif fgt .f32 (z 8) (z 14) then true else false)]) := by kernel_rfl
theorem le6_t_8_15 (z : Nat → Nat) (j : J) : (regionOf EE le6 (S 55 (lJ true ((15 : Nat) : Int) ((8 : Nat) : Int) j) (H z) true)).map (see sl6) = some (55, H z, fokG (fgt .f32 (z 8) (z 15)), [vB true, vP, vI ((15 : Nat) : Int), vI ((8 : Nat) : Int), vB (bif fgt .f32 (z 8) (z 15) then true else false)]) := by kernel_rfl
theorem le6_t_8 (z : Nat → Nat) (j : J) (a : Nat) (ha : a < 16) : (regionOf EE le6 (S 55 (lJ true ((a : Nat) : Int) ((8 : Nat) : Int) j) (H z) true)).map (see sl6) = some (55, H z, fokG (fgt .f32 (z 8) (z a)), [vB true, vP, vI ((a : Nat) : Int), vI ((8 : Nat) : Int), vB (bif fgt .f32 (z 8) (z a) then true else false)]) := by
  match a, ha with
  | 0, _ => exact le6_t_8_0 z j
  | 1, _ => exact le6_t_8_1 z j
  | 2, _ => exact le6_t_8_2 z j
  | 3, _ => exact le6_t_8_3 z j
  | 4, _ => exact le6_t_8_4 z j
  | 5, _ => exact le6_t_8_5 z j
  | 6, _ => exact le6_t_8_6 z j
  | 7, _ => exact le6_t_8_7 z j
  | 8, _ => exact le6_t_8_8 z j
  | 9, _ => exact le6_t_8_9 z j
  | 10, _ => exact le6_t_8_10 z j
  | 11, _ => exact le6_t_8_11 z j
  | 12, _ => exact le6_t_8_12 z j
  | 13, _ => exact le6_t_8_13 z j
  | 14, _ => exact le6_t_8_14 z j
  | 15, _ => exact le6_t_8_15 z j
  | k + 16, h => exact absurd h (by omega)
theorem le6_t_9_0 (z : Nat → Nat) (j : J) : (regionOf EE le6 (S 55 (lJ true ((0 : Nat) : Int) ((9 : Nat) : Int) j) (H z) true)).map (see sl6) = some (55, H z, fokG (fgt .f32 (z 9) (z 0)), [vB true, vP, vI ((0 : Nat) : Int), vI ((9 : Nat) : Int), vB (bif fgt .f32 (z 9) (z 0) then true else false)]) := by kernel_rfl
theorem le6_t_9_1 (z : Nat → Nat) (j : J) : (regionOf EE le6 (S 55 (lJ true ((1 : Nat) : Int) ((9 : Nat) : Int) j) (H z) true)).map (see sl6) = some (55, H z, fokG (fgt .f32 (z 9) (z 1)), [vB true, vP, vI ((1 : Nat) : Int), vI ((9 : Nat) : Int), vB (bif fgt .f32 (z 9) (z 1) then true else false)]) := by kernel_rfl
theorem le6_t_9_2 (z : Nat → Nat) (j : J) : (regionOf EE le6 (S 55 (lJ true ((2 : Nat) : Int) ((9 : Nat) : Int) j) (H z) true)).map (see sl6) = some (55, H z, fokG (fgt .f32 (z 9) (z 2)), [vB true, vP, vI ((2 : Nat) : Int), vI ((9 : Nat) : Int), vB (bif fgt .f32 (z 9) (z 2) then true else false)]) := by kernel_rfl
theorem le6_t_9_3 (z : Nat → Nat) (j : J) : (regionOf EE le6 (S 55 (lJ true ((3 : Nat) : Int) ((9 : Nat) : Int) j) (H z) true)).map (see sl6) = some (55, H z, fokG (fgt .f32 (z 9) (z 3)), [vB true, vP, vI ((3 : Nat) : Int), vI ((9 : Nat) : Int), vB (bif fgt .f32 (z 9) (z 3) then true else false)]) := by kernel_rfl
theorem le6_t_9_4 (z : Nat → Nat) (j : J) : (regionOf EE le6 (S 55 (lJ true ((4 : Nat) : Int) ((9 : Nat) : Int) j) (H z) true)).map (see sl6) = some (55, H z, fokG (fgt .f32 (z 9) (z 4)), [vB true, vP, vI ((4 : Nat) : Int), vI ((9 : Nat) : Int), vB (bif fgt .f32 (z 9) (z 4) then true else false)]) := by kernel_rfl
theorem le6_t_9_5 (z : Nat → Nat) (j : J) : (regionOf EE le6 (S 55 (lJ true ((5 : Nat) : Int) ((9 : Nat) : Int) j) (H z) true)).map (see sl6) = some (55, H z, fokG (fgt .f32 (z 9) (z 5)), [vB true, vP, vI ((5 : Nat) : Int), vI ((9 : Nat) : Int), vB (bif fgt .f32 (z 9) (z 5) then true else false)]) := by kernel_rfl
theorem le6_t_9_6 (z : Nat → Nat) (j : J) : (regionOf EE le6 (S 55 (lJ true ((6 : Nat) : Int) ((9 : Nat) : Int) j) (H z) true)).map (see sl6) = some (55, H z, fokG (fgt .f32 (z 9) (z 6)), [vB true, vP, vI ((6 : Nat) : Int), vI ((9 : Nat) : Int), vB (bif fgt .f32 (z 9) (z 6) then true else false)]) := by kernel_rfl
theorem le6_t_9_7 (z : Nat → Nat) (j : J) : (regionOf EE le6 (S 55 (lJ true ((7 : Nat) : Int) ((9 : Nat) : Int) j) (H z) true)).map (see sl6) = some (55, H z, fokG (fgt .f32 (z 9) (z 7)), [vB true, vP, vI ((7 : Nat) : Int), vI ((9 : Nat) : Int), vB (bif fgt .f32 (z 9) (z 7) then true else false)]) := by kernel_rfl
theorem le6_t_9_8 (z : Nat → Nat) (j : J) : (regionOf EE le6 (S 55 (lJ true ((8 : Nat) : Int) ((9 : Nat) : Int) j) (H z) true)).map (see sl6) = some (55, H z, fokG (fgt .f32 (z 9) (z 8)), [vB true, vP, vI ((8 : Nat) : Int), vI ((9 : Nat) : Int), vB (bif fgt .f32 (z 9) (z 8) then true else false)]) := by kernel_rfl
theorem le6_t_9_9 (z : Nat → Nat) (j : J) : (regionOf EE le6 (S 55 (lJ true ((9 : Nat) : Int) ((9 : Nat) : Int) j) (H z) true)).map (see sl6) = some (55, H z, fokG (fgt .f32 (z 9) (z 9)), [vB true, vP, vI ((9 : Nat) : Int), vI ((9 : Nat) : Int), vB (bif fgt .f32 (z 9) (z 9) then true else false)]) := by kernel_rfl
theorem le6_t_9_10 (z : Nat → Nat) (j : J) : (regionOf EE le6 (S 55 (lJ true ((10 : Nat) : Int) ((9 : Nat) : Int) j) (H z) true)).map (see sl6) = some (55, H z, fokG (fgt .f32 (z 9) (z 10)), [vB true, vP, vI ((10 : Nat) : Int), vI ((9 : Nat) : Int), vB (bif fgt .f32 (z 9) (z 10) then true else false)]) := by kernel_rfl
theorem le6_t_9_11 (z : Nat → Nat) (j : J) : (regionOf EE le6 (S 55 (lJ true ((11 : Nat) : Int) ((9 : Nat) : Int) j) (H z) true)).map (see sl6) = some (55, H z, fokG (fgt .f32 (z 9) (z 11)), [vB true, vP, vI ((11 : Nat) : Int), vI ((9 : Nat) : Int), vB (bif fgt .f32 (z 9) (z 11) then true else false)]) := by kernel_rfl
theorem le6_t_9_12 (z : Nat → Nat) (j : J) : (regionOf EE le6 (S 55 (lJ true ((12 : Nat) : Int) ((9 : Nat) : Int) j) (H z) true)).map (see sl6) = some (55, H z, fokG (fgt .f32 (z 9) (z 12)), [vB true, vP, vI ((12 : Nat) : Int), vI ((9 : Nat) : Int), vB (bif fgt .f32 (z 9) (z 12) then true else false)]) := by kernel_rfl
theorem le6_t_9_13 (z : Nat → Nat) (j : J) : (regionOf EE le6 (S 55 (lJ true ((13 : Nat) : Int) ((9 : Nat) : Int) j) (H z) true)).map (see sl6) = some (55, H z, fokG (fgt .f32 (z 9) (z 13)), [vB true, vP, vI ((13 : Nat) : Int), vI ((9 : Nat) : Int), vB (bif fgt .f32 (z 9) (z 13) then true else false)]) := by kernel_rfl
theorem le6_t_9_14 (z : Nat → Nat) (j : J) : (regionOf EE le6 (S 55 (lJ true ((14 : Nat) : Int) ((9 : Nat) : Int) j) (H z) true)).map (see sl6) = some (55, H z, fokG (fgt .f32 (z 9) (z 14)), [vB true, vP, vI ((14 : Nat) : Int), vI ((9 : Nat) : Int), vB (bif fgt .f32 (z 9) (z 14) then true else false)]) := by kernel_rfl
theorem le6_t_9_15 (z : Nat → Nat) (j : J) : (regionOf EE le6 (S 55 (lJ true ((15 : Nat) : Int) ((9 : Nat) : Int) j) (H z) true)).map (see sl6) = some (55, H z, fokG (fgt .f32 (z 9) (z 15)), [vB true, vP, vI ((15 : Nat) : Int), vI ((9 : Nat) : Int), vB (bif fgt .f32 (z 9) (z 15) then true else false)]) := by kernel_rfl
theorem le6_t_9 (z : Nat → Nat) (j : J) (a : Nat) (ha : a < 16) : (regionOf EE le6 (S 55 (lJ true ((a : Nat) : Int) ((9 : Nat) : Int) j) (H z) true)).map (see sl6) = some (55, H z, fokG (fgt .f32 (z 9) (z a)), [vB true, vP, vI ((a : Nat) : Int), vI ((9 : Nat) : Int), vB (bif fgt .f32 (z 9) (z a) then true else false)]) := by
  match a, ha with
  | 0, _ => exact le6_t_9_0 z j
  | 1, _ => exact le6_t_9_1 z j
  | 2, _ => exact le6_t_9_2 z j
  | 3, _ => exact le6_t_9_3 z j
  | 4, _ => exact le6_t_9_4 z j
  | 5, _ => exact le6_t_9_5 z j
  | 6, _ => exact le6_t_9_6 z j
  | 7, _ => exact le6_t_9_7 z j
  | 8, _ => exact le6_t_9_8 z j
  | 9, _ => exact le6_t_9_9 z j
  | 10, _ => exact le6_t_9_10 z j
  | 11, _ => exact le6_t_9_11 z j
  | 12, _ => exact le6_t_9_12 z j
  | 13, _ => exact le6_t_9_13 z j
  | 14, _ => exact le6_t_9_14 z j
  | 15, _ => exact le6_t_9_15 z j
  | k + 16, h => exact absurd h (by omega)
theorem le6_t_10_0 (z : Nat → Nat) (j : J) : (regionOf EE le6 (S 55 (lJ true ((0 : Nat) : Int) ((10 : Nat) : Int) j) (H z) true)).map (see sl6) = some (55, H z, fokG (fgt .f32 (z 10) (z 0)), [vB true, vP, vI ((0 : Nat) : Int), vI ((10 : Nat) : Int), vB (bif fgt .f32 (z 10) (z 0) then true else false)]) := by kernel_rfl
theorem le6_t_10_1 (z : Nat → Nat) (j : J) : (regionOf EE le6 (S 55 (lJ true ((1 : Nat) : Int) ((10 : Nat) : Int) j) (H z) true)).map (see sl6) = some (55, H z, fokG (fgt .f32 (z 10) (z 1)), [vB true, vP, vI ((1 : Nat) : Int), vI ((10 : Nat) : Int), vB (bif fgt .f32 (z 10) (z 1) then true else false)]) := by kernel_rfl
theorem le6_t_10_2 (z : Nat → Nat) (j : J) : (regionOf EE le6 (S 55 (lJ true ((2 : Nat) : Int) ((10 : Nat) : Int) j) (H z) true)).map (see sl6) = some (55, H z, fokG (fgt .f32 (z 10) (z 2)), [vB true, vP, vI ((2 : Nat) : Int), vI ((10 : Nat) : Int), vB (bif fgt .f32 (z 10) (z 2) then true else false)]) := by kernel_rfl
theorem le6_t_10_3 (z : Nat → Nat) (j : J) : (regionOf EE le6 (S 55 (lJ true ((3 : Nat) : Int) ((10 : Nat) : Int) j) (H z) true)).map (see sl6) = some (55, H z, fokG (fgt .f32 (z 10) (z 3)), [vB true, vP, vI ((3 : Nat) : Int), vI ((10 : Nat) : Int), vB (bif fgt .f32 (z 10) (z 3) then true else false)]) := by kernel_rfl
theorem le6_t_10_4 (z : Nat → Nat) (j : J) : (regionOf EE le6 (S 55 (lJ true ((4 : Nat) : Int) ((10 : Nat) : Int) j) (H z) true)).map (see sl6) = some (55, H z, fokG (fgt .f32 (z 10) (z 4)), [vB true, vP, vI ((4 : Nat) : Int), vI ((10 : Nat) : Int), vB (bif fgt .f32 (z 10) (z 4) then true else false)]) := by kernel_rfl
theorem le6_t_10_5 (z : Nat → Nat) (j : J) : (regionOf EE le6 (S 55 (lJ true ((5 : Nat) : Int) ((10 : Nat) : Int) j) (H z) true)).map (see sl6) = some (55, H z, fokG (fgt .f32 (z 10) (z 5)), [vB true, vP, vI ((5 : Nat) : Int), vI ((10 : Nat) : Int), vB (bif fgt .f32 (z 10) (z 5) then true else false)]) := by kernel_rfl
theorem le6_t_10_6 (z : Nat → Nat) (j : J) : (regionOf EE le6 (S 55 (lJ true ((6 : Nat) : Int) ((10 : Nat) : Int) j) (H z) true)).map (see sl6) = some (55, H z, fokG (fgt .f32 (z 10) (z 6)), [vB true, vP, vI ((6 : Nat) : Int), vI ((10 : Nat) : Int), vB (bif fgt .f32 (z 10) (z 6) then true else false)]) := by kernel_rfl
theorem le6_t_10_7 (z : Nat → Nat) (j : J) : (regionOf EE le6 (S 55 (lJ true ((7 : Nat) : Int) ((10 : Nat) : Int) j) (H z) true)).map (see sl6) = some (55, H z, fokG (fgt .f32 (z 10) (z 7)), [vB true, vP, vI ((7 : Nat) : Int), vI ((10 : Nat) : Int), vB (bif fgt .f32 (z 10) (z 7) then true else false)]) := by kernel_rfl
theorem le6_t_10_8 (z : Nat → Nat) (j : J) : (regionOf EE le6 (S 55 (lJ true ((8 : Nat) : Int) ((10 : Nat) : Int) j) (H z) true)).map (see sl6) = some (55, H z, fokG (fgt .f32 (z 10) (z 8)), [vB true, vP, vI ((8 : Nat) : Int), vI ((10 : Nat) : Int), vB (bif fgt .f32 (z 10) (z 8) then true else false)]) := by kernel_rfl
theorem le6_t_10_9 (z : Nat → Nat) (j : J) : (regionOf EE le6 (S 55 (lJ true ((9 : Nat) : Int) ((10 : Nat) : Int) j) (H z) true)).map (see sl6) = some (55, H z, fokG (fgt .f32 (z 10) (z 9)), [vB true, vP, vI ((9 : Nat) : Int), vI ((10 : Nat) : Int), vB (bif fgt .f32 (z 10) (z 9) then true else false)]) := by kernel_rfl
theorem le6_t_10_10 (z : Nat → Nat) (j : J) : (regionOf EE le6 (S 55 (lJ true ((10 : Nat) : Int) ((10 : Nat) : Int) j) (H z) true)).map (see sl6) = some (55, H z, fokG (fgt .f32 (z 10) (z 10)), [vB true, vP, vI ((10 : Nat) : Int), vI ((10 : Nat) : Int), vB (bif fgt .f32 (z 10) (z 10) then true else false)]) := by kernel_rfl
theorem le6_t_10_11 (z : Nat → Nat) (j : J) : (regionOf EE le6 (S 55 (lJ true ((11 : Nat) : Int) ((10 : Nat) : Int) j) (H z) true)).map (see sl6) = some (55, H z, fokG (fgt .f32 (z 10) (z 11)), [vB true, vP, vI ((11 : Nat) : Int), vI ((10 : Nat) : Int), vB (bif fgt .f32 (z 10) (z 11) then true else false)]) := by kernel_rfl
theorem le6_t_10_12 (z : Nat → Nat) (j : J) : (regionOf EE le6 (S 55 (lJ true ((12 : Nat) : Int) ((10 : Nat) : Int) j) (H z) true)).map (see sl6) = some (55, H z, fokG (fgt .f32 (z 10) (z 12)), [vB true, vP, vI ((12 : Nat) : Int), vI ((10 : Nat) : Int), vB (bif fgt .f32 (z 10) (z 12) then true else false)]) := by kernel_rfl
theorem le6_t_10_13 (z : Nat → Nat) (j : J) : (regionOf EE le6 (S 55 (lJ true ((13 : Nat) : Int) ((10 : Nat) : Int) j) (H z) true)).map (see sl6) = some (55, H z, fokG (fgt .f32 (z 10) (z 13)), [vB true, vP, vI ((13 : Nat) : Int), vI ((10 : Nat) : Int), vB (bif fgt .f32 (z 10) (z 13) then true else false)]) := by kernel_rfl
theorem le6_t_10_14 (z : Nat → Nat) (j : J) : (regionOf EE le6 (S 55 (lJ true ((14 : Nat) : Int) ((10 : Nat) : Int) j) (H z) true)).map (see sl6) = some (55, H z, fokG (fgt .f32 (z 10) (z 14)), [vB true, vP, vI ((14 : Nat) : Int), vI ((10 : Nat) : Int), vB (bif fgt .f32 (z 10) (z 14) then true else false)]) := by kernel_rfl
theorem le6_t_10_15 (z : Nat → Nat) (j : J) : (regionOf EE le6 (S 55 (lJ true ((15 : Nat) : Int) ((10 : Nat) : Int) j) (H z) true)).map (see sl6) = some (55, H z, fokG (fgt .f32 (z 10) (z 15)), [vB true, vP, vI ((15 : Nat) : Int), vI ((10 : Nat) : Int), vB (bif fgt .f32 (z 10) (z 15) then true else false)]) := by kernel_rfl
theorem le6_t_10 (z : Nat → Nat) (j : J) (a : Nat) (ha : a < 16) : (regionOf EE le6 (S 55 (lJ true ((a : Nat) : Int) ((10 : Nat) : Int) j) (H z) true)).map (see sl6) = some (55, H z, fokG (fgt .f32 (z 10) (z a)), [vB true, vP, vI ((a : Nat) : Int), vI ((10 : Nat) : Int), vB (bif fgt .f32 (z 10) (z a) then true else false)]) := by
  match a, ha with
  | 0, _ => exact le6_t_10_0 z j
  | 1, _ => exact le6_t_10_1 z j
  | 2, _ => exact le6_t_10_2 z j
  | 3, _ => exact le6_t_10_3 z j
  | 4, _ => exact le6_t_10_4 z j
  | 5, _ => exact le6_t_10_5 z j
  | 6, _ => exact le6_t_10_6 z j
  | 7, _ => exact le6_t_10_7 z j
  | 8, _ => exact le6_t_10_8 z j
  | 9, _ => exact le6_t_10_9 z j
  | 10, _ => exact le6_t_10_10 z j
  | 11, _ => exact le6_t_10_11 z j
  | 12, _ => exact le6_t_10_12 z j
  | 13, _ => exact le6_t_10_13 z j
  | 14, _ => exact le6_t_10_14 z j
  | 15, _ => exact le6_t_10_15 z j
  | k + 16, h => exact absurd h (by omega)
theorem le6_t_11_0 (z : Nat → Nat) (j : J) : (regionOf EE le6 (S 55 (lJ true ((0 : Nat) : Int) ((11 : Nat) : Int) j) (H z) true)).map (see sl6) = some (55, H z, fokG (fgt .f32 (z 11) (z 0)), [vB true, vP, vI ((0 : Nat) : Int), vI ((11 : Nat) : Int), vB (bif fgt .f32 (z 11) (z 0) then true else false)]) := by kernel_rfl
theorem le6_t_11_1 (z : Nat → Nat) (j : J) : (regionOf EE le6 (S 55 (lJ true ((1 : Nat) : Int) ((11 : Nat) : Int) j) (H z) true)).map (see sl6) = some (55, H z, fokG (fgt .f32 (z 11) (z 1)), [vB true, vP, vI ((1 : Nat) : Int), vI ((11 : Nat) : Int), vB (bif fgt .f32 (z 11) (z 1) then true else false)]) := by kernel_rfl
theorem le6_t_11_2 (z : Nat → Nat) (j : J) : (regionOf EE le6 (S 55 (lJ true ((2 : Nat) : Int) ((11 : Nat) : Int) j) (H z) true)).map (see sl6) = some (55, H z, fokG (fgt .f32 (z 11) (z 2)), [vB true, vP, vI ((2 : Nat) : Int), vI ((11 : Nat) : Int), vB (bif fgt .f32 (z 11) (z 2) then true else false)]) := by kernel_rfl
theorem le6_t_11_3 (z : Nat → Nat) (j : J) : (regionOf EE le6 (S 55 (lJ true ((3 : Nat) : Int) ((11 : Nat) : Int) j) (H z) true)).map (see sl6) = some (55, H z, fokG (fgt .f32 (z 11) (z 3)), [vB true, vP, vI ((3 : Nat) : Int), vI ((11 : Nat) : Int), vB (bif fgt .f32 (z 11) (z 3) then true else false)]) := by kernel_rfl
theorem le6_t_11_4 (z : Nat → Nat) (j : J) : (regionOf EE le6 (S 55 (lJ true ((4 : Nat) : Int) ((11 : Nat) : Int) j) (H z) true)).map (see sl6) = some (55, H z, fokG (fgt .f32 (z 11) (z 4)), [vB true, vP, vI ((4 : Nat) : Int), vI ((11 : Nat) : Int), vB (bif fgt .f32 (z 11) (z 4) then true else false)]) := by kernel_rfl
theorem le6_t_11_5 (z : Nat → Nat) (j : J) : (regionOf EE le6 (S 55 (lJ true ((5 : Nat) : Int) ((11 : Nat) : Int) j) (H z) true)).map (see sl6) = some (55, H z, fokG (fgt .f32 (z 11) (z 5)), [vB true, vP, vI ((5 : Nat) : Int), vI ((11 : Nat) : Int), vB (bif fgt .f32 (z 11) (z 5) then true else false)]) := by kernel_rfl
theorem le6_t_11_6 (z : Nat → Nat) (j : J) : (regionOf EE le6 (S 55 (lJ true ((6 : Nat) : Int) ((11 : Nat) : Int) j) (H z) true)).map (see sl6) = some (55, H z, fokG (fgt .f32 (z 11) (z 6)), [vB true, vP, vI ((6 : Nat) : Int), vI ((11 : Nat) : Int), vB (bif fgt .f32 (z 11) (z 6) then true else false)]) := by kernel_rfl
theorem le6_t_11_7 (z : Nat → Nat) (j : J) : (regionOf EE le6 (S 55 (lJ true ((7 : Nat) : Int) ((11 : Nat) : Int) j) (H z) true)).map (see sl6) = some (55, H z, fokG (fgt .f32 (z 11) (z 7)), [vB true, vP, vI ((7 : Nat) : Int), vI ((11 : Nat) : Int), vB (bif fgt .f32 (z 11) (z 7) then true else false)]) := by kernel_rfl
theorem le6_t_11_8 (z : Nat → Nat) (j : J) : (regionOf EE le6 (S 55 (lJ true ((8 : Nat) : Int) ((11 : Nat) : Int) j) (H z) true)).map (see sl6) = some (55, H z, fokG (fgt .f32 (z 11) (z 8)), [vB true, vP, vI ((8 : Nat) : Int), vI ((11 : Nat) : Int), vB (bif fgt .f32 (z 11) (z 8) then true else false)]) := by kernel_rfl
theorem le6_t_11_9 (z : Nat → Nat) (j : J) : (regionOf EE le6 (S 55 (lJ true ((9 : Nat) : Int) ((11 : Nat) : Int) j) (H z) true)).map (see sl6) = some (55, H z, fokG (fgt .f32 (z 11) (z 9)), [vB true, vP, vI ((9 : Nat) : Int), vI ((11 : Nat) : Int), vB (bif fgt .f32 (z 11) (z 9) then true else false)]) := by kernel_rfl
theorem le6_t_11_10 (z : Nat → Nat) (j : J) : (regionOf EE le6 (S 55 (lJ true ((10 : Nat) : Int) ((11 : Nat) : Int) j) (H z) true)).map (see sl6) = some (55, H z, fokG (fgt .f32 (z 11) (z 10)), [vB true, vP, vI ((10 : Nat) : Int), vI ((11 : Nat) : Int), vB (bif fgt .f32 (z 11) (z 10) then true else false)]) := by kernel_rfl
theorem le6_t_11_11 (z : Nat → Nat) (j : J) : (regionOf EE le6 (S 55 (lJ true ((11 : Nat) : Int) ((11 : Nat) : Int) j) (H z) true)).map (see sl6) = some (55, H z, fokG (fgt .f32 (z 11) (z 11)), [vB true, vP, vI ((11 : Nat) : Int), vI ((11 : Nat) : Int), vB (bif fgt .f32 (z 11) (z 11) then true else false)]) := by kernel_rfl
theorem le6_t_11_12 (z : Nat → Nat) (j : J) : (regionOf EE le6 (S 55 (lJ true ((12 : Nat) : Int) ((11 : Nat) : Int) j) (H z) true)).map (see sl6) = some (55, H z, fokG (fgt .f32 (z 11) (z 12)), [vB true, vP, vI ((12 : Nat) : Int), vI ((11 : Nat) : Int), vB (bif fgt .f32 (z 11) (z 12) then true else false)]) := by kernel_rfl
theorem le6_t_11_13 (z : Nat → Nat) (j : J) : (regionOf EE le6 (S 55 (lJ true ((13 : Nat) : Int) ((11 : Nat) : Int) j) (H z) true)).map (see sl6) = some (55, H z, fokG (fgt .f32 (z 11) (z 13)), [vB true, vP, vI ((13 : Nat) : Int), vI ((11 : Nat) : Int), vB (bif fgt .f32 (z 11) (z 13) then true else false)]) := by kernel_rfl
theorem le6_t_11_14 (z : Nat → Nat) (j : J) : (regionOf EE le6 (S 55 (lJ true ((14 : Nat) : Int) ((11 : Nat) : Int) j) (H z) true)).map (see sl6) = some (55, H z, fokG (fgt .f32 (z 11) (z 14)), [vB true, vP, vI ((14 : Nat) : Int), vI ((11 : Nat) : Int), vB (bif fgt .f32 (z 11) (z 14) then true else false)]) := by kernel_rfl
theorem le6_t_11_15 (z : Nat → Nat) (j : J) : (regionOf EE le6 (S 55 (lJ true ((15 : Nat) : Int) ((11 : Nat) : Int) j) (H z) true)).map (see sl6) = some (55, H z, fokG (fgt .f32 (z 11) (z 15)), [vB true, vP, vI ((15 : Nat) : Int), vI ((11 : Nat) : Int), vB (bif fgt .f32 (z 11) (z 15) then true else false)]) := by kernel_rfl
theorem le6_t_11 (z : Nat → Nat) (j : J) (a : Nat) (ha : a < 16) : (regionOf EE le6 (S 55 (lJ true ((a : Nat) : Int) ((11 : Nat) : Int) j) (H z) true)).map (see sl6) = some (55, H z, fokG (fgt .f32 (z 11) (z a)), [vB true, vP, vI ((a : Nat) : Int), vI ((11 : Nat) : Int), vB (bif fgt .f32 (z 11) (z a) then true else false)]) := by
  match a, ha with
  | 0, _ => exact le6_t_11_0 z j
  | 1, _ => exact le6_t_11_1 z j
  | 2, _ => exact le6_t_11_2 z j
  | 3, _ => exact le6_t_11_3 z j
  | 4, _ => exact le6_t_11_4 z j
  | 5, _ => exact le6_t_11_5 z j
  | 6, _ => exact le6_t_11_6 z j
  | 7, _ => exact le6_t_11_7 z j
  | 8, _ => exact le6_t_11_8 z j
  | 9, _ => exact le6_t_11_9 z j
  | 10, _ => exact le6_t_11_10 z j
  | 11, _ => exact le6_t_11_11 z j
  | 12, _ => exact le6_t_11_12 z j
  | 13, _ => exact le6_t_11_13 z j
  | 14, _ => exact le6_t_11_14 z j
  | 15, _ => exact le6_t_11_15 z j
  | k + 16, h => exact absurd h (by omega)
theorem le6_t_12_0 (z : Nat → Nat) (j : J) : (regionOf EE le6 (S 55 (lJ true ((0 : Nat) : Int) ((12 : Nat) : Int) j) (H z) true)).map (see sl6) = some (55, H z, fokG (fgt .f32 (z 12) (z 0)), [vB true, vP, vI ((0 : Nat) : Int), vI ((12 : Nat) : Int), vB (bif fgt .f32 (z 12) (z 0) then true else false)]) := by kernel_rfl
theorem le6_t_12_1 (z : Nat → Nat) (j : J) : (regionOf EE le6 (S 55 (lJ true ((1 : Nat) : Int) ((12 : Nat) : Int) j) (H z) true)).map (see sl6) = some (55, H z, fokG (fgt .f32 (z 12) (z 1)), [vB true, vP, vI ((1 : Nat) : Int), vI ((12 : Nat) : Int), vB (bif fgt .f32 (z 12) (z 1) then true else false)]) := by kernel_rfl
theorem le6_t_12_2 (z : Nat → Nat) (j : J) : (regionOf EE le6 (S 55 (lJ true ((2 : Nat) : Int) ((12 : Nat) : Int) j) (H z) true)).map (see sl6) = some (55, H z, fokG (fgt .f32 (z 12) (z 2)), [vB true, vP, vI ((2 : Nat) : Int), vI ((12 : Nat) : Int), vB (bif fgt .f32 (z 12) (z 2) then true else false)]) := by kernel_rfl
theorem le6_t_12_3 (z : Nat → Nat) (j : J) : (regionOf EE le6 (S 55 (lJ true ((3 : Nat) : Int) ((12 : Nat) : Int) j) (H z) true)).map (see sl6) = some (55, H z, fokG (fgt .f32 (z 12) (z 3)), [vB true, vP, vI ((3 : Nat) : Int), vI ((12 : Nat) : Int), vB (bif fgt .f32 (z 12) (z 3) then true else false)]) := by kernel_rfl
theorem le6_t_12_4 (z : Nat → Nat) (j : J) : (regionOf EE le6 (S 55 (lJ true ((4 : Nat) : Int) ((12 : Nat) : Int) j) (H z) true)).map (see sl6) = some (55, H z, fokG (fgt .f32 (z 12) (z 4)), [vB true, vP, vI ((4 : Nat) : Int), vI ((12 : Nat) : Int), vB (bif fgt .f32 (z 12) (z 4) then true else false)]) := by kernel_rfl
theorem le6_t_12_5 (z : Nat → Nat) (j : J) : (regionOf EE le6 (S 55 (lJ true ((5 : Nat) : Int) ((12 : Nat) : Int) j) (H z) true)).map (see sl6) = some (55, H z, fokG (fgt .f32 (z 12) (z 5)), [vB true, vP, vI ((5 : Nat) : Int), vI ((12 : Nat) : Int), vB (bif fgt .f32 (z 12) (z 5) then true else false)]) := by kernel_rfl
theorem le6_t_12_6 (z : Nat → Nat) (j : J) : (regionOf EE le6 (S 55 (lJ true ((6 : Nat) : Int) ((12 : Nat) : Int) j) (H z) true)).map (see sl6) = some (55, H z, fokG (fgt .f32 (z 12) (z 6)), [vB true, vP, vI ((6 : Nat) : Int), vI ((12 : Nat) : Int), vB (bif fgt .f32 (z 12) (z 6) then true else false)]) := by kernel_rfl
theorem le6_t_12_7 (z : Nat → Nat) (j : J) : (regionOf EE le6 (S 55 (lJ true ((7 : Nat) : Int) ((12 : Nat) : Int) j) (H z) true)).map (see sl6) = some (55, H z, fokG (fgt .f32 (z 12) (z 7)), [vB true, vP, vI ((7 : Nat) : Int), vI ((12 : Nat) : Int), vB (bif fgt .f32 (z 12) (z 7) then true else false)]) := by kernel_rfl
theorem le6_t_12_8 (z : Nat → Nat) (j : J) : (regionOf EE le6 (S 55 (lJ true ((8 : Nat) : Int) ((12 : Nat) : Int) j) (H z) true)).map (see sl6) = some (55, H z, fokG (fgt .f32 (z 12) (z 8)), [vB true, vP, vI ((8 : Nat) : Int), vI ((12 : Nat) : Int), vB (bif fgt .f32 (z 12) (z 8) then true else false)]) := by kernel_rfl
theorem le6_t_12_9 (z : Nat → Nat) (j : J) : (regionOf EE le6 (S 55 (lJ true ((9 : Nat) : Int) ((12 : Nat) : Int) j) (H z) true)).map (see sl6) = some (55, H z, fokG (fgt .f32 (z 12) (z 9)), [vB true, vP, vI ((9 : Nat) : Int), vI ((12 : Nat) : Int), vB (bif fgt .f32 (z 12) (z 9) then true else false)]) := by kernel_rfl
theorem le6_t_12_10 (z : Nat → Nat) (j : J) : (regionOf EE le6 (S 55 (lJ true ((10 : Nat) : Int) ((12 : Nat) : Int) j) (H z) true)).map (see sl6) = some (55, H z, fokG (fgt .f32 (z 12) (z 10)), [vB true, vP, vI ((10 : Nat) : Int), vI ((12 : Nat) : Int), vB (bif fgt .f32 (z 12) (z 10) then true else false)]) := by kernel_rfl
theorem le6_t_12_11 (z : Nat → Nat) (j : J) : (regionOf EE le6 (S 55 (lJ true ((11 : Nat) : Int) ((12 : Nat) : Int) j) (H z) true)).map (see sl6) = some (55, H z, fokG (fgt .f32 (z 12) (z 11)), [vB true, vP, vI ((11 : Nat) : Int), vI ((12 : Nat) : Int), vB (bif fgt .f32 (z 12) (z 11) then true else false)]) := by kernel_rfl
theorem le6_t_12_12 (z : Nat → Nat) (j : J) : (regionOf EE le6 (S 55 (lJ true ((12 : Nat) : Int) ((12 : Nat) : Int) j) (H z) true)).map (see sl6) = some (55, H z, fokG (fgt .f32 (z 12) (z 12)), [vB true, vP, vI ((12 : Nat) : Int), vI ((12 : Nat) : Int), vB (bif fgt .f32 (z 12) (z 12) then true else false)]) := by kernel_rfl
theorem le6_t_12_13 (z : Nat → Nat) (j : J) : (regionOf EE le6 (S 55 (lJ true ((13 : Nat) : Int) ((12 : Nat) : Int) j) (H z) true)).map (see sl6) = some (55, H z, fokG (fgt .f32 (z 12) (z 13)), [vB true, vP, vI ((13 : Nat) : Int), vI ((12 : Nat) : Int), vB (bif fgt .f32 (z 12) (z 13) then true else false)]) := by kernel_rfl
theorem le6_t_12_14 (z : Nat → Nat) (j : J) : (regionOf EE le6 (S 55 (lJ true ((14 : Nat) : Int) ((12 : Nat) : Int) j) (H z) true)).map (see sl6) = some (55, H z, fokG (fgt .f32 (z 12) (z 14)), [vB true, vP, vI ((14 : Nat) : Int), vI ((12 : Nat) : Int), vB (bif fgt .f32 (z 12) (z 14) then true else false)]) := by kernel_rfl
theorem le6_t_12_15 (z : Nat → Nat) (j : J) : (regionOf EE le6 (S 55 (lJ true ((15 : Nat) : Int) ((12 : Nat) : Int) j) (H z) true)).map (see sl6) = some (55, H z, fokG (fgt .f32 (z 12) (z 15)), [vB true, vP, vI ((15 : Nat) : Int), vI ((12 : Nat) : Int), vB (bif fgt .f32 (z 12) (z 15) then true else false)]) := by kernel_rfl
theorem le6_t_12 (z : Nat → Nat) (j : J) (a : Nat) (ha : a < 16) : (regionOf EE le6 (S 55 (lJ true ((a : Nat) : Int) ((12 : Nat) : Int) j) (H z) true)).map (see sl6) = some (55, H z, fokG (fgt .f32 (z 12) (z a)), [vB true, vP, vI ((a : Nat) : Int), vI ((12 : Nat) : Int), vB (bif fgt .f32 (z 12) (z a) then true else false)]) := by
  match a, ha with
  | 0, _ => exact le6_t_12_0 z j
  | 1, _ => exact le6_t_12_1 z j
  | 2, _ => exact le6_t_12_2 z j
  | 3, _ => exact le6_t_12_3 z j
  | 4, _ => exact le6_t_12_4 z j
  | 5, _ => exact le6_t_12_5 z j
  | 6, _ => exact le6_t_12_6 z j
  | 7, _ => exact le6_t_12_7 z j
  | 8, _ => exact le6_t_12_8 z j
  | 9, _ => exact le6_t_12_9 z j
  | 10, _ => exact le6_t_12_10 z j
  | 11, _ => exact le6_t_12_11 z j
  | 12, _ => exact le6_t_12_12 z j
  | 13, _ => exact le6_t_12_13 z j
  | 14, _ => exact le6_t_12_14 z j
  | 15, _ => exact le6_t_12_15 z j
  | k + 16, h => exact absurd h (by omega)
theorem le6_t_13_0 (z : Nat → Nat) (j : J) : (regionOf EE le6 (S 55 (lJ true ((0 : Nat) : Int) ((13 : Nat) : Int) j) (H z) true)).map (see sl6) = some (55, H z, fokG (fgt .f32 (z 13) (z 0)), [vB true, vP, vI ((0 : Nat) : Int), vI ((13 : Nat) : Int), vB (bif fgt .f32 (z 13) (z 0) then true else false)]) := by kernel_rfl
theorem le6_t_13_1 (z : Nat → Nat) (j : J) : (regionOf EE le6 (S 55 (lJ true ((1 : Nat) : Int) ((13 : Nat) : Int) j) (H z) true)).map (see sl6) = some (55, H z, fokG (fgt .f32 (z 13) (z 1)), [vB true, vP, vI ((1 : Nat) : Int), vI ((13 : Nat) : Int), vB (bif fgt .f32 (z 13) (z 1) then true else false)]) := by kernel_rfl
theorem le6_t_13_2 (z : Nat → Nat) (j : J) : (regionOf EE le6 (S 55 (lJ true ((2 : Nat) : Int) ((13 : Nat) : Int) j) (H z) true)).map (see sl6) = some (55, H z, fokG (fgt .f32 (z 13) (z 2)), [vB true, vP, vI ((2 : Nat) : Int), vI ((13 : Nat) : Int), vB (bif fgt .f32 (z 13) (z 2) then true else false)]) := by kernel_rfl
theorem le6_t_13_3 (z : Nat → Nat) (j : J) : (regionOf EE le6 (S 55 (lJ true ((3 : Nat) : Int) ((13 : Nat) : Int) j) (H z) true)).map (see sl6) = some (55, H z, fokG (fgt .f32 (z 13) (z 3)), [vB true, vP, vI ((3 : Nat) : Int), vI ((13 : Nat) : Int), vB (bif fgt .f32 (z 13) (z 3) then true else false)]) := by kernel_rfl
theorem le6_t_13_4 (z : Nat → Nat) (j : J) : (regionOf EE le6 (S 55 (lJ true ((4 : Nat) : Int) ((13 : Nat) : Int) j) (H z) true)).map (see sl6) = some (55, H z, fokG (fgt .f32 (z 13) (z 4)), [vB true, vP, vI ((4 : Nat) : Int), vI ((13 : Nat) : Int), vB (bif fgt .f32 (z 13) (z 4) then true else false)]) := by kernel_rfl
theorem le6_t_13_5 (z : Nat → Nat) (j : J) : (regionOf EE le6 (S 55 (lJ true ((5 : Nat) : Int) ((13 : Nat) : Int) j) (H z) true)).map (see sl6) = some (55, H z, fokG (fgt .f32 (z 13) (z 5)), [vB true, vP, vI ((5 : Nat) : Int), vI ((13 : Nat) : Int), vB (bif fgt .f32 (z 13) (z 5) then true else false)]) := by kernel_rfl
theorem le6_t_13_6 (z : Nat → Nat) (j : J) : (regionOf EE le6 (S 55 (lJ true ((6 : Nat) : Int) ((13 : Nat) : Int) j) (H z) true)).map (see sl6) = some (55, H z, fokG (fgt .f32 (z 13) (z 6)), [vB true, vP, vI ((6 : Nat) : Int), vI ((13 : Nat) : Int), vB (bif fgt .f32 (z 13) (z 6) then true else false)]) := by kernel_rfl
theorem le6_t_13_7 (z : Nat → Nat) (j : J) : (regionOf EE le6 (S 55 (lJ true ((7 : Nat) : Int) ((13 : Nat) : Int) j) (H z) true)).map (see sl6) = some (55, H z, fokG (fgt .f32 (z 13) (z 7)), [vB true, vP, vI ((7 : Nat) : Int), vI ((13 : Nat) : Int), vB (bif fgt .f32 (z 13) (z 7) then true else false)]) := by kernel_rfl
theorem le6_t_13_8 (z : Nat → Nat) (j : J) : (regionOf EE le6 (S 55 (lJ true ((8 : Nat) : Int) ((13 : Nat) : Int) j) (H z) true)).map (see sl6) = some (55, H z, fokG (fgt .f32 (z 13) (z 8)), [vB true, vP, vI ((8 : Nat) : Int), vI ((13 : Nat) : Int), vB (bif fgt .f32 (z 13) (z 8) then true else false)]) := by kernel_rfl
theorem le6_t_13_9 (z : Nat → Nat) (j : J) : (regionOf EE le6 (S 55 (lJ true ((9 : Nat) : Int) ((13 : Nat) : Int) j) (H z) true)).map (see sl6) = some (55, H z, fokG (fgt .f32 (z 13) (z 9)), [vB true, vP, vI ((9 : Nat) : Int), vI ((13 : Nat) : Int), vB (bif fgt .f32 (z 13) (z 9) then true else false)]) := by kernel_rfl
theorem le6_t_13_10 (z : Nat → Nat) (j : J) : (regionOf EE le6 (S 55 (lJ true ((10 : Nat) : Int) ((13 : Nat) : Int) j) (H z) true)).map (see sl6) = some (55, H z, fokG (fgt .f32 (z 13) (z 10)), [vB true, vP, vI ((10 : Nat) : Int), vI ((13 : Nat) : Int), vB (bif fgt .f32 (z 13) (z 10) then true else false)]) := by kernel_rfl
theorem le6_t_13_11 (z : Nat → Nat) (j : J) : (regionOf EE le6 (S 55 (lJ true ((11 : Nat) : Int) ((13 : Nat) : Int) j) (H z) true)).map (see sl6) = some (55, H z, fokG (fgt .f32 (z 13) (z 11)), [vB true, vP, vI ((11 : Nat) : Int), vI ((13 : Nat) : Int), vB (bif fgt .f32 (z 13) (z 11) then true else false)]) := by kernel_rfl
theorem le6_t_13_12 (z : Nat → Nat) (j : J) : (regionOf EE le6 (S 55 (lJ true ((12 : Nat) : Int) ((13 : Nat) : Int) j) (H z) true)).map (see sl6) = some (55, H z, fokG (fgt .f32 (z 13) (z 12)), [vB true, vP, vI ((12 : Nat) : Int), vI ((13 : Nat) : Int), vB (bif fgt .f32 (z 13) (z 12) then true else false)]) := by kernel_rfl
theorem le6_t_13_13 (z : Nat → Nat) (j : J) : (regionOf EE le6 (S 55 (lJ true ((13 : Nat) : Int) ((13 : Nat) : Int) j) (H z) true)).map (see sl6) = some (55, H z, fokG (fgt .f32 (z 13) (z 13)), [vB true, vP, vI ((13 : Nat) : Int), vI ((13 : Nat) : Int), vB (bif fgt .f32 (z 13) (z 13) then true else false)]) := by kernel_rfl
theorem le6_t_13_14 (z : Nat → Nat) (j : J) : (regionOf EE le6 (S 55 (lJ true ((14 : Nat) : Int) ((13 : Nat) : Int) j) (H z) true)).map (see sl6) = some (55, H z, fokG (fgt .f32 (z 13) (z 14)), [vB true, vP, vI ((14 : Nat) : Int), vI ((13 : Nat) : Int), vB (bif fgt .f32 (z 13) (z 14) then true else false)]) := by kernel_rfl
theorem le6_t_13_15 (z : Nat → Nat) (j : J) : (regionOf EE le6 (S 55 (lJ true ((15 : Nat) : Int) ((13 : Nat) : Int) j) (H z) true)).map (see sl6) = some (55, H z, fokG (fgt .f32 (z 13) (z 15)), [vB true, vP, vI ((15 : Nat) : Int), vI ((13 : Nat) : Int), vB (bif fgt .f32 (z 13) (z 15) then true else false)]) := by kernel_rfl
theorem le6_t_13 (z : Nat → Nat) (j : J) (a : Nat) (ha : a < 16) : (regionOf EE le6 (S 55 (lJ true ((a : Nat) : Int) ((13 : Nat) : Int) j) (H z) true)).map (see sl6) = some (55, H z, fokG (fgt .f32 (z 13) (z a)), [vB true, vP, vI ((a : Nat) : Int), vI ((13 : Nat) : Int), vB (bif fgt .f32 (z 13) (z a) then true else false)]) := by
  match a, ha with
  | 0, _ => exact le6_t_13_0 z j
  | 1, _ => exact le6_t_13_1 z j
  | 2, _ => exact le6_t_13_2 z j
  | 3, _ => exact le6_t_13_3 z j
  | 4, _ => exact le6_t_13_4 z j
  | 5, _ => exact le6_t_13_5 z j
  | 6, _ => exact le6_t_13_6 z j
  | 7, _ => exact le6_t_13_7 z j
  | 8, _ => exact le6_t_13_8 z j
  | 9, _ => exact le6_t_13_9 z j
  | 10, _ => exact le6_t_13_10 z j
  | 11, _ => exact le6_t_13_11 z j
  | 12, _ => exact le6_t_13_12 z j
  | 13, _ => exact le6_t_13_13 z j
  | 14, _ => exact le6_t_13_14 z j
  | 15, _ => exact le6_t_13_15 z j
  | k + 16, h => exact absurd h (by omega)
theorem le6_t_14_0 (z : Nat → Nat) (j : J) : (regionOf EE le6 (S 55 (lJ true ((0 : Nat) : Int) ((14 : Nat) : Int) j) (H z) true)).map (see sl6) = some (55, H z, fokG (fgt .f32 (z 14) (z 0)), [vB true, vP, vI ((0 : Nat) : Int), vI ((14 : Nat) : Int), vB (bif fgt .f32 (z 14) (z 0) then true else false)]) := by kernel_rfl
theorem le6_t_14_1 (z : Nat → Nat) (j : J) : (regionOf EE le6 (S 55 (lJ true ((1 : Nat) : Int) ((14 : Nat) : Int) j) (H z) true)).map (see sl6) = some (55, H z, fokG (fgt .f32 (z 14) (z 1)), [vB true, vP, vI ((1 : Nat) : Int), vI ((14 : Nat) : Int), vB (bif fgt .f32 (z 14) (z 1) then true else false)]) := by kernel_rfl
theorem le6_t_14_2 (z : Nat → Nat) (j : J) : (regionOf EE le6 (S 55 (lJ true ((2 : Nat) : Int) ((14 : Nat) : Int) j) (H z) true)).map (see sl6) = some (55, H z, fokG (fgt .f32 (z 14) (z 2)), [vB true, vP, vI ((2 : Nat) : Int), vI ((14 : Nat) : Int), vB (bif fgt .f32 (z 14) (z 2) then true else false)]) := by kernel_rfl
theorem le6_t_14_3 (z : Nat → Nat) (j : J) : (regionOf EE le6 (S 55 (lJ true ((3 : Nat) : Int) ((14 : Nat) : Int) j) (H z) true)).map (see sl6) = some (55, H z, fokG (fgt .f32 (z 14) (z 3)), [vB true, vP, vI ((3 : Nat) : Int), vI ((14 : Nat) : Int), vB (bif fgt .f32 (z 14) (z 3) then true else false)]) := by kernel_rfl
theorem le6_t_14_4 (z : Nat → Nat) (j : J) : (regionOf EE le6 (S 55 (lJ true ((4 : Nat) : Int) ((14 : Nat) : Int) j) (H z) true)).map (see sl6) = some (55, H z, fokG (fgt .f32 (z 14) (z 4)), [vB true, vP, vI ((4 : Nat) : Int), vI ((14 : Nat) : Int), vB (bif fgt .f32 (z 14) (z 4) then true else false)]) := by kernel_rfl
theorem le6_t_14_5 (z : Nat → Nat) (j : J) : (regionOf EE le6 (S 55 (lJ true ((5 : Nat) : Int) ((14 : Nat) : Int) j) (H z) true)).map (see sl6) = some (55, H z, fokG (fgt .f32 (z 14) (z 5)), [vB true, vP, vI ((5 : Nat) : Int), vI ((14 : Nat) : Int), vB (bif fgt .f32 (z 14) (z 5) then true else false)]) := by kernel_rfl
theorem le6_t_14_6 (z : Nat → Nat) (j : J) : (regionOf EE le6 (S 55 (lJ true ((6 : Nat) : Int) ((14 : Nat) : Int) j) (H z) true)).map (see sl6) = some (55, H z, fokG (fgt .f32 (z 14) (z 6)), [vB true, vP, vI ((6 : Nat) : Int), vI ((14 : Nat) : Int), vB (bif fgt .f32 (z 14) (z 6) then true else false)]) := by kernel_rfl
theorem le6_t_14_7 (z : Nat → Nat) (j : J) : (regionOf EE le6 (S 55 (lJ true ((7 : Nat) : Int) ((14 : Nat) : Int) j) (H z) true)).map (see sl6) = some (55, H z, fokG (fgt .f32 (z 14) (z 7)), [vB true, vP, vI ((7 : Nat) : Int), vI ((14 : Nat) : Int), vB (bif fgt .f32 (z 14) (z 7) then true else false)]) := by kernel_rfl
theorem le6_t_14_8 (z : Nat → Nat) (j : J) : (regionOf EE le6 (S 55 (lJ true ((8 : Nat) : Int) ((14 : Nat) : Int) j) (H z) true)).map (see sl6) = some (55, H z, fokG (fgt .f32 (z 14) (z 8)), [vB true, vP, vI ((8 : Nat) : Int), vI ((14 : Nat) : Int), vB (bif fgt .f32 (z 14) (z 8) then true else false)]) := by kernel_rfl
theorem le6_t_14_9 (z : Nat → Nat) (j : J) : (regionOf EE le6 (S 55 (lJ true ((9 : Nat) : Int) ((14 : Nat) : Int) j) (H z) true)).map (see sl6) = some (55, H z, fokG (fgt .f32 (z 14) (z 9)), [vB true, vP, vI ((9 : Nat) : Int), vI ((14 : Nat) : Int), vB (bif fgt .f32 (z 14) (z 9) then true else false)]) := by kernel_rfl
theorem le6_t_14_10 (z : Nat → Nat) (j : J) : (regionOf EE le6 (S 55 (lJ true ((10 : Nat) : Int) ((14 : Nat) : Int) j) (H z) true)).map (see sl6) = some (55, H z, fokG (fgt .f32 (z 14) (z 10)), [vB true, vP, vI ((10 : Nat) : Int), vI ((14 : Nat) : Int), vB (bif fgt .f32 (z 14) (z 10) then true else false)]) := by kernel_rfl
theorem le6_t_14_11 (z : Nat → Nat) (j : J) : (regionOf EE le6 (S 55 (lJ true ((11 : Nat) : Int) ((14 : Nat) : Int) j) (H z) true)).map (see sl6) = some (55, H z, fokG (fgt .f32 (z 14) (z 11)), [vB true, vP, vI ((11 : Nat) : Int), vI ((14 : Nat) : Int), vB (bif fgt .f32 (z 14) (z 11) then true else false)]) := by kernel_rfl
theorem le6_t_14_12 (z : Nat → Nat) (j : J) : (regionOf EE le6 (S 55 (lJ true ((12 : Nat) : Int) ((14 : Nat) : Int) j) (H z) true)).map (see sl6) = some (55, H z, fokG (fgt .f32 (z 14) (z 12)), [vB true, vP, vI ((12 : Nat) : Int), vI ((14 : Nat) : Int), vB (bif fgt .f32 (z 14) (z 12) then true else false)]) := by kernel_rfl
theorem le6_t_14_13 (z : Nat → Nat) (j : J) : (regionOf EE le6 (S 55 (lJ true ((13 : Nat) : Int) ((14 : Nat) : Int) j) (H z) true)).map (see sl6) = some (55, H z, fokG (fgt .f32 (z 14) (z 13)), [vB true, vP, vI ((13 : Nat) : Int), vI ((14 : Nat) : Int), vB (bif fgt .f32 (z 14) (z 13) then true else false)]) := by kernel_rfl
theorem le6_t_14_14 (z : Nat → Nat) (j : J) : (regionOf EE le6 (S 55 (lJ true ((14 : Nat) : Int) ((14 : Nat) : Int) j) (H z) true)).map (see sl6) = some (55, H z, fokG (fgt .f32 (z 14) (z 14)), [vB true, vP, vI ((14 : Nat) : Int), vI ((14 : Nat) : Int), vB (bif fgt .f32 (z 14) (z 14) then true else false)]) := by kernel_rfl
theorem le6_t_14_15 (z : Nat → Nat) (j : J) : (regionOf EE le6 (S 55 (lJ true ((15 : Nat) : Int) ((14 : Nat) : Int) j) (H z) true)).map (see sl6) = some (55, H z, fokG (fgt .f32 (z 14) (z 15)), [vB true, vP, vI ((15 : Nat) : Int), vI ((14 : Nat) : Int), vB (bif fgt .f32 (z 14) (z 15) then true else false)]) := by kernel_rfl
theorem le6_t_14 (z : Nat → Nat) (j : J) (a : Nat) (ha : a < 16) : (regionOf EE le6 (S 55 (lJ true ((a : Nat) : Int) ((14 : Nat) : Int) j) (H z) true)).map (see sl6) = some (55, H z, fokG (fgt .f32 (z 14) (z a)), [vB true, vP, vI ((a : Nat) : Int), vI ((14 : Nat) : Int), vB (bif fgt .f32 (z 14) (z a) then true else false)]) := by
  match a, ha with
  | 0, _ => exact le6_t_14_0 z j
  | 1, _ => exact le6_t_14_1 z j
  | 2, _ => exact le6_t_14_2 z j
  | 3, _ => exact le6_t_14_3 z j
  | 4, _ => exact le6_t_14_4 z j
  | 5, _ => exact le6_t_14_5 z j
  | 6, _ => exact le6_t_14_6 z j
  | 7, _ => exact le6_t_14_7 z j
  | 8, _ => exact le6_t_14_8 z j
  | 9, _ => exact le6_t_14_9 z j
  | 10, _ => exact le6_t_14_10 z j
  | 11, _ => exact le6_t_14_11 z j
  | 12, _ => exact le6_t_14_12 z j
  | 13, _ => exact le6_t_14_13 z j
  | 14, _ => exact le6_t_14_14 z j
  | 15, _ => exact le6_t_14_15 z j
  | k + 16, h => exact absurd h (by omega)
theorem le6_t_15_0 (z : Nat → Nat) (j : J) : (regionOf EE le6 (S 55 (lJ true ((0 : Nat) : Int) ((15 : Nat) : Int) j) (H z) true)).map (see sl6) = some (55, H z, fokG (fgt .f32 (z 15) (z 0)), [vB true, vP, vI ((0 : Nat) : Int), vI ((15 : Nat) : Int), vB (bif fgt .f32 (z 15) (z 0) then true else false)]) := by kernel_rfl
theorem le6_t_15_1 (z : Nat → Nat) (j : J) : (regionOf EE le6 (S 55 (lJ true ((1 : Nat) : Int) ((15 : Nat) : Int) j) (H z) true)).map (see sl6) = some (55, H z, fokG (fgt .f32 (z 15) (z 1)), [vB true, vP, vI ((1 : Nat) : Int), vI ((15 : Nat) : Int), vB (bif fgt .f32 (z 15) (z 1) then true else false)]) := by kernel_rfl
theorem le6_t_15_2 (z : Nat → Nat) (j : J) : (regionOf EE le6 (S 55 (lJ true ((2 : Nat) : Int) ((15 : Nat) : Int) j) (H z) true)).map (see sl6) = some (55, H z, fokG (fgt .f32 (z 15) (z 2)), [vB true, vP, vI ((2 : Nat) : Int), vI ((15 : Nat) : Int), vB (bif fgt .f32 (z 15) (z 2) then true else false)]) := by kernel_rfl
theorem le6_t_15_3 (z : Nat → Nat) (j : J) : (regionOf EE le6 (S 55 (lJ true ((3 : Nat) : Int) ((15 : Nat) : Int) j) (H z) true)).map (see sl6) = some (55, H z, fokG (fgt .f32 (z 15) (z 3)), [vB true, vP, vI ((3 : Nat) : Int), vI ((15 : Nat) : Int), vB (bif fgt .f32 (z 15) (z 3) then true else false)]) := by kernel_rfl
theorem le6_t_15_4 (z : Nat → Nat) (j : J) : (regionOf EE le6 (S 55 (lJ true ((4 : Nat) : Int) ((15 : Nat) : Int) j) (H z) true)).map (see sl6) = some (55, H z, fokG (fgt .f32 (z 15) (z 4)), [vB true, vP, vI ((4 : Nat) : Int), vI ((15 : Nat) : Int), vB (bif fgt .f32 (z 15) (z 4) then true else false)]) := by kernel_rfl
theorem le6_t_15_5 (z : Nat → Nat) (j : J) : (regionOf EE le6 (S 55 (lJ true ((5 : Nat) : Int) ((15 : Nat) : Int) j) (H z) true)).map (see sl6) = some (55, H z, fokG (fgt .f32 (z 15) (z 5)), [vB true, vP, vI ((5 : Nat) : Int), vI ((15 : Nat) : Int), vB (bif fgt .f32 (z 15) (z 5) then true else false)]) := by kernel_rfl
theorem le6_t_15_6 (z : Nat → Nat) (j : J) : (regionOf EE le6 (S 55 (lJ true ((6 : Nat) : Int) ((15 : Nat) : Int) j) (H z) true)).map (see sl6) = some (55, H z, fokG (fgt .f32 (z 15) (z 6)), [vB true, vP, vI ((6 : Nat) : Int), vI ((15 : Nat) : Int), vB (bif fgt .f32 (z 15) (z 6) then true else false)]) := by kernel_rfl
theorem le6_t_15_7 (z : Nat → Nat) (j : J) : (regionOf EE le6 (S 55 (lJ true ((7 : Nat) : Int) ((15 : Nat) : Int) j) (H z) true)).map (see sl6) = some (55, H z, fokG (fgt .f32 (z 15) (z 7)), [vB true, vP, vI ((7 : Nat) : Int), vI ((15 : Nat) : Int), vB (bif fgt .f32 (z 15) (z 7) then true else false)]) := by kernel_rfl
theorem le6_t_15_8 (z : Nat → Nat) (j : J) : (regionOf EE le6 (S 55 (lJ true ((8 : Nat) : Int) ((15 : Nat) : Int) j) (H z) true)).map (see sl6) = some (55, H z, fokG (fgt .f32 (z 15) (z 8)), [vB true, vP, vI ((8 : Nat) : Int), vI ((15 : Nat) : Int), vB (bif fgt .f32 (z 15) (z 8) then true else false)]) := by kernel_rfl
theorem le6_t_15_9 (z : Nat → Nat) (j : J) : (regionOf EE le6 (S 55 (lJ true ((9 : Nat) : Int) ((15 : Nat) : Int) j) (H z) true)).map (see sl6) = some (55, H z, fokG (fgt .f32 (z 15) (z 9)), [vB true, vP, vI ((9 : Nat) : Int), vI ((15 : Nat) : Int), vB (bif fgt .f32 (z 15) (z 9) then true else false)]) := by kernel_rfl
theorem le6_t_15_10 (z : Nat → Nat) (j : J) : (regionOf EE le6 (S 55 (lJ true ((10 : Nat) : Int) ((15 : Nat) : Int) j) (H z) true)).map (see sl6) = some (55, H z, fokG (fgt .f32 (z 15) (z 10)), [vB true, vP, vI ((10 : Nat) : Int), vI ((15 : Nat) : Int), vB (bif fgt .f32 (z 15) (z 10) then true else false)]) := by kernel_rfl
theorem le6_t_15_11 (z : Nat → Nat) (j : J) : (regionOf EE le6 (S 55 (lJ true ((11 : Nat) : Int) ((15 : Nat) : Int) j) (H z) true)).map (see sl6) = some (55, H z, fokG (fgt .f32 (z 15) (z 11)), [vB true, vP, vI ((11 : Nat) : Int), vI ((15 : Nat) : Int), vB (bif fgt .f32 (z 15) (z 11) then true else false)]) := by kernel_rfl
theorem le6_t_15_12 (z : Nat → Nat) (j : J) : (regionOf EE le6 (S 55 (lJ true ((12 : Nat) : Int) ((15 : Nat) : Int) j) (H z) true)).map (see sl6) = some (55, H z, fokG (fgt .f32 (z 15) (z 12)), [vB true, vP, vI ((12 : Nat) : Int), vI ((15 : Nat) : Int), vB (bif fgt .f32 (z 15) (z 12) then true else false)]) := by kernel_rfl
theorem le6_t_15_13 (z : Nat → Nat) (j : J) : (regionOf EE le6 (S 55 (lJ true ((13 : Nat) : Int) ((15 : Nat) : Int) j) (H z) true)).map (see sl6) = some (55, H z, fokG (fgt .f32 (z 15) (z 13)), [vB true, vP, vI ((13 : Nat) : Int), vI ((15 : Nat) : Int), vB (bif fgt .f32 (z 15) (z 13) then true else false)]) := by kernel_rfl
theorem le6_t_15_14 (z : Nat → Nat) (j : J) : (regionOf EE le6 (S 55 (lJ true ((14 : Nat) : Int) ((15 : Nat) : Int) j) (H z) true)).map (see sl6) = some (55, H z, fokG (fgt .f32 (z 15) (z 14)), [vB true, vP, vI ((14 : Nat) : Int), vI ((15 : Nat) : Int), vB (bif fgt .f32 (z 15) (z 14) then true else false)]) := by kernel_rfl
theorem le6_t_15_15 (z : Nat → Nat) (j : J) : (regionOf EE le6 (S 55 (lJ true ((15 : Nat) : Int) ((15 : Nat) : Int) j) (H z) true)).map (see sl6) = some (55, H z, fokG (fgt .f32 (z 15) (z 15)), [vB true, vP, vI ((15 : Nat) : Int), vI ((15 : Nat) : Int), vB (bif fgt .f32 (z 15) (z 15) then true else false)]) := by kernel_rfl
theorem le6_t_15 (z : Nat → Nat) (j : J) (a : Nat) (ha : a < 16) : (regionOf EE le6 (S 55 (lJ true ((a : Nat) : Int) ((15 : Nat) : Int) j) (H z) true)).map (see sl6) = some (55, H z, fokG (fgt .f32 (z 15) (z a)), [vB true, vP, vI ((a : Nat) : Int), vI ((15 : Nat) : Int), vB (bif fgt .f32 (z 15) (z a) then true else false)]) := by
  match a, ha with
  | 0, _ => exact le6_t_15_0 z j
  | 1, _ => exact le6_t_15_1 z j
  | 2, _ => exact le6_t_15_2 z j
  | 3, _ => exact le6_t_15_3 z j
  | 4, _ => exact le6_t_15_4 z j
  | 5, _ => exact le6_t_15_5 z j
  | 6, _ => exact le6_t_15_6 z j
  | 7, _ => exact le6_t_15_7 z j
  | 8, _ => exact le6_t_15_8 z j
  | 9, _ => exact le6_t_15_9 z j
  | 10, _ => exact le6_t_15_10 z j
  | 11, _ => exact le6_t_15_11 z j
  | 12, _ => exact le6_t_15_12 z j
  | 13, _ => exact le6_t_15_13 z j
  | 14, _ => exact le6_t_15_14 z j
  | 15, _ => exact le6_t_15_15 z j
  | k + 16, h => exact absurd h (by omega)
theorem le6_f_0_0 (z : Nat → Nat) (j : J) : (regionOf EE le6 (S 55 (lJ false ((0 : Nat) : Int) ((0 : Nat) : Int) j) (H z) true)).map (see sl6) = some (55, H z, true, [vB false, vP, vI ((0 : Nat) : Int), vI ((0 : Nat) : Int), vB (flt .f32 (z 0) (z 0))]) := by kernel_rfl
theorem le6_f_0_1 (z : Nat → Nat) (j : J) : (regionOf EE le6 (S 55 (lJ false ((1 : Nat) : Int) ((0 : Nat) : Int) j) (H z) true)).map (see sl6) = some (55, H z, true, [vB false, vP, vI ((1 : Nat) : Int), vI ((0 : Nat) : Int), vB (flt .f32 (z 0) (z 1))]) := by kernel_rfl
theorem le6_f_0_2 (z : Nat → Nat) (j : J) : (regionOf EE le6 (S 55 (lJ false ((2 : Nat) : Int) ((0 : Nat) : Int) j) (H z) true)).map (see sl6) = some (55, H z, true, [vB false, vP, vI ((2 : Nat) : Int), vI ((0 : Nat) : Int), vB (flt .f32 (z 0) (z 2))]) := by kernel_rfl
theorem le6_f_0_3 (z : Nat → Nat) (j : J) : (regionOf EE le6 (S 55 (lJ false ((3 : Nat) : Int) ((0 : Nat) : Int) j) (H z) true)).map (see sl6) = some (55, H z, true, [vB false, vP, vI ((3 : Nat) : Int), vI ((0 : Nat) : Int), vB (flt .f32 (z 0) (z 3))]) := by kernel_rfl
theorem le6_f_0_4 (z : Nat → Nat) (j : J) : (regionOf EE le6 (S 55 (lJ false ((4 : Nat) : Int) ((0 : Nat) : Int) j) (H z) true)).map (see sl6) = some (55, H z, true, [vB false, vP, vI ((4 : Nat) : Int), vI ((0 : Nat) : Int), vB (flt .f32 (z 0) (z 4))]) := by kernel_rfl
theorem le6_f_0_5 (z : Nat → Nat) (j : J) : (regionOf EE le6 (S 55 (lJ false ((5 : Nat) : Int) ((0 : Nat) : Int) j) (H z) true)).map (see sl6) = some (55, H z, true, [vB false, vP, vI ((5 : Nat) : Int), vI ((0 : Nat) : Int), vB (flt .f32 (z 0) (z 5))]) := by kernel_rfl
theorem le6_f_0_6 (z : Nat → Nat) (j : J) : (regionOf EE le6 (S 55 (lJ false ((6 : Nat) : Int) ((0 : Nat) : Int) j) (H z) true)).map (see sl6) = some (55, H z, true, [vB false, vP, vI ((6 : Nat) : Int), vI ((0 : Nat) : Int), vB (flt .f32 (z 0) (z 6))]) := by kernel_rfl
theorem le6_f_0_7 (z : Nat → Nat) (j : J) : (regionOf EE le6 (S 55 (lJ false ((7 : Nat) : Int) ((0 : Nat) : Int) j) (H z) true)).map (see sl6) = some (55, H z, true, [vB false, vP, vI ((7 : Nat) : Int), vI ((0 : Nat) : Int), vB (flt .f32 (z 0) (z 7))]) := by kernel_rfl
theorem le6_f_0_8 (z : Nat → Nat) (j : J) : (regionOf EE le6 (S 55 (lJ false ((8 : Nat) : Int) ((0 : Nat) : Int) j) (H z) true)).map (see sl6) = some (55, H z, true, [vB false, vP, vI ((8 : Nat) : Int), vI ((0 : Nat) : Int), vB (flt .f32 (z 0) (z 8))]) := by kernel_rfl
theorem le6_f_0_9 (z : Nat → Nat) (j : J) : (regionOf EE le6 (S 55 (lJ false ((9 : Nat) : Int) ((0 : Nat) : Int) j) (H z) true)).map (see sl6) = some (55, H z, true, [vB false, vP, vI ((9 : Nat) : Int), vI ((0 : Nat) : Int), vB (flt .f32 (z 0) (z 9))]) := by kernel_rfl
theorem le6_f_0_10 (z : Nat → Nat) (j : J) : (regionOf EE le6 (S 55 (lJ false ((10 : Nat) : Int) ((0 : Nat) : Int) j) (H z) true)).map (see sl6) = some (55, H z, true, [vB false, vP, vI ((10 : Nat) : Int), vI ((0 : Nat) : Int), vB (flt .f32 (z 0) (z 10))]) := by kernel_rfl
theorem le6_f_0_11 (z : Nat → Nat) (j : J) : (regionOf EE le6 (S 55 (lJ false ((11 : Nat) : Int) ((0 : Nat) : Int) j) (H z) true)).map (see sl6) = some (55, H z, true, [vB false, vP, vI ((11 : Nat) : Int), vI ((0 : Nat) : Int), vB (flt .f32 (z 0) (z 11))]) := by kernel_rfl
theorem le6_f_0_12 (z : Nat → Nat) (j : J) : (regionOf EE le6 (S 55 (lJ false ((12 : Nat) : Int) ((0 : Nat) : Int) j) (H z) true)).map (see sl6) = some (55, H z, true, [vB false, vP, vI ((12 : Nat) : Int), vI ((0 : Nat) : Int), vB (flt .f32 (z 0) (z 12))]) := by kernel_rfl
theorem le6_f_0_13 (z : Nat → Nat) (j : J) : (regionOf EE le6 (S 55 (lJ false ((13 : Nat) : Int) ((0 : Nat) : Int) j) (H z) true)).map (see sl6) = some (55, H z, true, [vB false, vP, vI ((13 : Nat) : Int), vI ((0 : Nat) : Int), vB (flt .f32 (z 0) (z 13))]) := by kernel_rfl
theorem le6_f_0_14 (z : Nat → Nat) (j : J) : (regionOf EE le6 (S 55 (lJ false ((14 : Nat) : Int) ((0 : Nat) : Int) j) (H z) true)).map (see sl6) = some (55, H z, true, [vB false, vP, vI ((14 : Nat) : Int), vI ((0 : Nat) : Int), vB (flt .f32 (z 0) (z 14))]) := by kernel_rfl
theorem le6_f_0_15 (z : Nat → Nat) (j : J) : (regionOf EE le6 (S 55 (lJ false ((15 : Nat) : Int) ((0 : Nat) : Int) j) (H z) true)).map (see sl6) = some (55, H z, true, [vB false, vP, vI ((15 : Nat) : Int), vI ((0 : Nat) : Int), vB (flt .f32 (z 0) (z 15))]) := by kernel_rfl
theorem le6_f_0 (z : Nat → Nat) (j : J) (a : Nat) (ha : a < 16) : (regionOf EE le6 (S 55 (lJ false ((a : Nat) : Int) ((0 : Nat) : Int) j) (H z) true)).map (see sl6) = some (55, H z, true, [vB false, vP, vI ((a : Nat) : Int), vI ((0 : Nat) : Int), vB (flt .f32 (z 0) (z a))]) := by
  match a, ha with
  | 0, _ => exact le6_f_0_0 z j
  | 1, _ => exact le6_f_0_1 z j
  | 2, _ => exact le6_f_0_2 z j
  | 3, _ => exact le6_f_0_3 z j
  | 4, _ => exact le6_f_0_4 z j
  | 5, _ => exact le6_f_0_5 z j
  | 6, _ => exact le6_f_0_6 z j
  | 7, _ => exact le6_f_0_7 z j
  | 8, _ => exact le6_f_0_8 z j
  | 9, _ => exact le6_f_0_9 z j
  | 10, _ => exact le6_f_0_10 z j
  | 11, _ => exact le6_f_0_11 z j
  | 12, _ => exact le6_f_0_12 z j
  | 13, _ => exact le6_f_0_13 z j
  | 14, _ => exact le6_f_0_14 z j
  | 15, _ => exact le6_f_0_15 z j
  | k + 16, h => exact absurd h (by omega)
theorem le6_f_1_0 (z : Nat → Nat) (j : J) : (regionOf EE le6 (S 55 (lJ false ((0 : Nat) : Int) ((1 : Nat) : Int) j) (H z) true)).map (see sl6) = some (55, H z, true, [vB false, vP, vI ((0 : Nat) : Int), vI ((1 : Nat) : Int), vB (flt .f32 (z 1) (z 0))]) := by kernel_rfl
theorem le6_f_1_1 (z : Nat → Nat) (j : J) : (regionOf EE le6 (S 55 (lJ false ((1 : Nat) : Int) ((1 : Nat) : Int) j) (H z) true)).map (see sl6) = some (55, H z, true, [vB false, vP, vI ((1 : Nat) : Int), vI ((1 : Nat) : Int), vB (flt .f32 (z 1) (z 1))]) := by kernel_rfl
theorem le6_f_1_2 (z : Nat → Nat) (j : J) : (regionOf EE le6 (S 55 (lJ false ((2 : Nat) : Int) ((1 : Nat) : Int) j) (H z) true)).map (see sl6) = some (55, H z, true, [vB false, vP, vI ((2 : Nat) : Int), vI ((1 : Nat) : Int), vB (flt .f32 (z 1) (z 2))]) := by kernel_rfl
theorem le6_f_1_3 (z : Nat → Nat) (j : J) : (regionOf EE le6 (S 55 (lJ false ((3 : Nat) : Int) ((1 : Nat) : Int) j) (H z) true)).map (see sl6) = some (55, H z, true, [vB false, vP, vI ((3 : Nat) : Int), vI ((1 : Nat) : Int), vB (flt .f32 (z 1) (z 3))]) := by kernel_rfl
theorem le6_f_1_4 (z : Nat → Nat) (j : J) : (regionOf EE le6 (S 55 (lJ false ((4 : Nat) : Int) ((1 : Nat) : Int) j) (H z) true)).map (see sl6) = some (55, H z, true, [vB false, vP, vI ((4 : Nat) : Int), vI ((1 : Nat) : Int), vB (flt .f32 (z 1) (z 4))]) := by kernel_rfl
theorem le6_f_1_5 (z : Nat → Nat) (j : J) : (regionOf EE le6 (S 55 (lJ false ((5 : Nat) : Int) ((1 : Nat) : Int) j) (H z) true)).map (see sl6) = some (55, H z, true, [vB false, vP, vI ((5 : Nat) : Int), vI ((1 : Nat) : Int), vB (flt .f32 (z 1) (z 5))]) := by kernel_rfl
theorem le6_f_1_6 (z : Nat → Nat) (j : J) : (regionOf EE le6 (S 55 (lJ false ((6 : Nat) : Int) ((1 : Nat) : Int) j) (H z) true)).map (see sl6) = some (55, H z, true, [vB false, vP, vI ((6 : Nat) : Int), vI ((1 : Nat) : Int), vB (flt .f32 (z 1) (z 6))]) := by kernel_rfl
theorem le6_f_1_7 (z : Nat → Nat) (j : J) : (regionOf EE le6 (S 55 (lJ false ((7 : Nat) : Int) ((1 : Nat) : Int) j) (H z) true)).map (see sl6) = some (55, H z, true, [vB false, vP, vI ((7 : Nat) : Int), vI ((1 : Nat) : Int), vB (flt .f32 (z 1) (z 7))]) := by kernel_rfl
theorem le6_f_1_8 (z : Nat → Nat) (j : J) : (regionOf EE le6 (S 55 (lJ false ((8 : Nat) : Int) ((1 : Nat) : Int) j) (H z) true)).map (see sl6) = some (55, H z, true, [vB false, vP, vI ((8 : Nat) : Int), vI ((1 : Nat) : Int), vB (flt .f32 (z 1) (z 8))]) := by kernel_rfl
theorem le6_f_1_9 (z : Nat → Nat) (j : J) : (regionOf EE le6 (S 55 (lJ false ((9 : Nat) : Int) ((1 : Nat) : Int) j) (H z) true)).map (see sl6) = some (55, H z, true, [vB false, vP, vI ((9 : Nat) : Int), vI ((1 : Nat) : Int), vB (flt .f32 (z 1) (z 9))]) := by kernel_rfl
theorem le6_f_1_10 (z : Nat → Nat) (j : J) : (regionOf EE le6 (S 55 (lJ false ((10 : Nat) : Int) ((1 : Nat) : Int) j) (H z) true)).map (see sl6) = some (55, H z, true, [vB false, vP, vI ((10 : Nat) : Int), vI ((1 : Nat) : Int), vB (flt .f32 (z 1) (z 10))]) := by kernel_rfl
theorem le6_f_1_11 (z : Nat → Nat) (j : J) : (regionOf EE le6 (S 55 (lJ false ((11 : Nat) : Int) ((1 : Nat) : Int) j) (H z) true)).map (see sl6) = some (55, H z, true, [vB false, vP, vI ((11 : Nat) : Int), vI ((1 : Nat) : Int), vB (flt .f32 (z 1) (z 11))]) := by kernel_rfl
theorem le6_f_1_12 (z : Nat → Nat) (j : J) : (regionOf EE le6 (S 55 (lJ false ((12 : Nat) : Int) ((1 : Nat) : Int) j) (H z) true)).map (see sl6) = some (55, H z, true, [vB false, vP, vI ((12 : Nat) : Int), vI ((1 : Nat) : Int), vB (flt .f32 (z 1) (z 12))]) := by kernel_rfl
theorem le6_f_1_13 (z : Nat → Nat) (j : J) : (regionOf EE le6 (S 55 (lJ false ((13 : Nat) : Int) ((1 : Nat) : Int) j) (H z) true)).map (see sl6) = some (55, H z, true, [vB false, vP, vI ((13 : Nat) : Int), vI ((1 : Nat) : Int), vB (flt .f32 (z 1) (z 13))]) := by kernel_rfl
theorem le6_f_1_14 (z : Nat → Nat) (j : J) : (regionOf EE le6 (S 55 (lJ false ((14 : Nat) : Int) ((1 : Nat) : Int) j) (H z) true)).map (see sl6) = some (55, H z, true, [vB false, vP, vI ((14 : Nat) : Int), vI ((1 : Nat) : Int), vB (flt .f32 (z 1) (z 14))]) := by kernel_rfl
theorem le6_f_1_15 (z : Nat → Nat) (j : J) : (regionOf EE le6 (S 55 (lJ false ((15 : Nat) : Int) ((1 : Nat) : Int) j) (H z) true)).map (see sl6) = some (55, H z, true, [vB false, vP, vI ((15 : Nat) : Int), vI ((1 : Nat) : Int), vB (flt .f32 (z 1) (z 15))]) := by kernel_rfl
theorem le6_f_1 (z : Nat → Nat) (j : J) (a : Nat) (ha : a < 16) : (regionOf EE le6 (S 55 (lJ false ((a : Nat) : Int) ((1 : Nat) : Int) j) (H z) true)).map (see sl6) = some (55, H z, true, [vB false, vP, vI ((a : Nat) : Int), vI ((1 : Nat) : Int), vB (flt .f32 (z 1) (z a))]) := by
  match a, ha with
  | 0, _ => exact le6_f_1_0 z j
  | 1, _ => exact le6_f_1_1 z j
  | 2, _ => exact le6_f_1_2 z j
  | 3, _ => exact le6_f_1_3 z j
  | 4, _ => exact le6_f_1_4 z j
  | 5, _ => exact le6_f_1_5 z j
  | 6, _ => exact le6_f_1_6 z j
  | 7, _ => exact le6_f_1_7 z j
  | 8, _ => exact le6_f_1_8 z j
  | 9, _ => exact le6_f_1_9 z j
  | 10, _ => exact le6_f_1_10 z j
  | 11, _ => exact le6_f_1_11 z j
  | 12, _ => exact le6_f_1_12 z j
  | 13, _ => exact le6_f_1_13 z j
  | 14, _ => exact le6_f_1_14 z j
  | 15, _ => exact le6_f_1_15 z j
  | k + 16, h => exact absurd h (by omega)
theorem le6_f_2_0 (z : Nat → Nat) (j : J) : (regionOf EE le6 (S 55 (lJ false ((0 : Nat) : Int) ((2 : Nat) : Int) j) (H z) true)).map (see sl6) = some (55, H z, true, [vB false, vP, vI ((0 : Nat) : Int), vI ((2 : Nat) : Int), vB (flt .f32 (z 2) (z 0))]) := by kernel_rfl
theorem le6_f_2_1 (z : Nat → Nat) (j : J) : (regionOf EE le6 (S 55 (lJ false ((1 : Nat) : Int) ((2 : Nat) : Int) j) (H z) true)).map (see sl6) = some (55, H z, true, [vB false, vP, vI ((1 : Nat) : Int), vI ((2 : Nat) : Int), vB (flt .f32 (z 2) (z 1))]) := by kernel_rfl
theorem le6_f_2_2 (z : Nat → Nat) (j : J) : (regionOf EE le6 (S 55 (lJ false ((2 : Nat) : Int) ((2 : Nat) : Int) j) (H z) true)).map (see sl6) = some (55, H z, true, [vB false, vP, vI ((2 : Nat) : Int), vI ((2 : Nat) : Int), vB (flt .f32 (z 2) (z 2))]) := by kernel_rfl
theorem le6_f_2_3 (z : Nat → Nat) (j : J) : (regionOf EE le6 (S 55 (lJ false ((3 : Nat) : Int) ((2 : Nat) : Int) j) (H z) true)).map (see sl6) = some (55, H z, true, [vB false, vP, vI ((3 : Nat) : Int), vI ((2 : Nat) : Int), vB (flt .f32 (z 2) (z 3))]) := by kernel_rfl
theorem le6_f_2_4 (z : Nat → Nat) (j : J) : (regionOf EE le6 (S 55 (lJ false ((4 : Nat) : Int) ((2 : Nat) : Int) j) (H z) true)).map (see sl6) = some (55, H z, true, [vB false, vP, vI ((4 : Nat) : Int), vI ((2 : Nat) : Int), vB (flt .f32 (z 2) (z 4))]) := by kernel_rfl
theorem le6_f_2_5 (z : Nat → Nat) (j : J) : (regionOf EE le6 (S 55 (lJ false ((5 : Nat) : Int) ((2 : Nat) : Int) j) (H z) true)).map (see sl6) = some (55, H z, true, [vB false, vP, vI ((5 : Nat) : Int), vI ((2 : Nat) : Int), vB (flt .f32 (z 2) (z 5))]) := by kernel_rfl
theorem le6_f_2_6 (z : Nat → Nat) (j : J) : (regionOf EE le6 (S 55 (lJ false ((6 : Nat) : Int) ((2 : Nat) : Int) j) (H z) true)).map (see sl6) = some (55, H z, true, [vB false, vP, vI ((6 : Nat) : Int), vI ((2 : Nat) : Int), vB (flt .f32 (z 2) (z 6))]) := by kernel_rfl
theorem le6_f_2_7 (z : Nat → Nat) (j : J) : (regionOf EE le6 (S 55 (lJ false ((7 : Nat) : Int) ((2 : Nat) : Int) j) (H z) true)).map (see sl6) = some (55, H z, true, [vB false, vP, vI ((7 : Nat) : Int), vI ((2 : Nat) : Int), vB (flt .f32 (z 2) (z 7))]) := by kernel_rfl
theorem le6_f_2_8 (z : Nat → Nat) (j : J) : (regionOf EE le6 (S 55 (lJ false ((8 : Nat) : Int) ((2 : Nat) : Int) j) (H z) true)).map (see sl6) = some (55, H z, true, [vB false, vP, vI ((8 : Nat) : Int), vI ((2 : Nat) : Int), vB (flt .f32 (z 2) (z 8))]) := by kernel_rfl
theorem le6_f_2_9 (z : Nat → Nat) (j : J) : (regionOf EE le6 (S 55 (lJ false ((9 : Nat) : Int) ((2 : Nat) : Int) j) (H z) true)).map (see sl6) = some (55, H z, true, [vB false, vP, vI ((9 : Nat) : Int), vI ((2 : Nat) : Int), vB (flt .f32 (z 2) (z 9))]) := by kernel_rfl
theorem le6_f_2_10 (z : Nat → Nat) (j : J) : (regionOf EE le6 (S 55 (lJ false ((10 : Nat) : Int) ((2 : Nat) : Int) j) (H z) true)).map (see sl6) = some (55, H z, true, [vB false, vP, vI ((10 : Nat) : Int), vI ((2 : Nat) : Int), vB (flt .f32 (z 2) (z 10))]) := by kernel_rfl
theorem le6_f_2_11 (z : Nat → Nat) (j : J) : (regionOf EE le6 (S 55 (lJ false ((11 : Nat) : Int) ((2 : Nat) : Int) j) (H z) true)).map (see sl6) = some (55, H z, true, [vB false, vP, vI ((11 : Nat) : Int), vI ((2 : Nat) : Int), vB (flt .f32 (z 2) (z 11))]) := by kernel_rfl
theorem le6_f_2_12 (z : Nat → Nat) (j : J) : (regionOf EE le6 (S 55 (lJ false ((12 : Nat) : Int) ((2 : Nat) : Int) j) (H z) true)).map (see sl6) = some (55, H z, true, [vB false, vP, vI ((12 : Nat) : Int), vI ((2 : Nat) : Int), vB (flt .f32 (z 2) (z 12))]) := by kernel_rfl
theorem le6_f_2_13 (z : Nat → Nat) (j : J) : (regionOf EE le6 (S 55 (lJ false ((13 : Nat) : Int) ((2 : Nat) : Int) j) (H z) true)).map (see sl6) = some (55, H z, true, [vB false, vP, vI ((13 : Nat) : Int), vI ((2 : Nat) : Int), vB (flt .f32 (z 2) (z 13))]) := by kernel_rfl
theorem le6_f_2_14 (z : Nat → Nat) (j : J) : (regionOf EE le6 (S 55 (lJ false ((14 : Nat) : Int) ((2 : Nat) : Int) j) (H z) true)).map (see sl6) = some (55, H z, true, [vB false, vP, vI ((14 : Nat) : Int), vI ((2 : Nat) : Int), vB (flt .f32 (z 2) (z 14))]) := by kernel_rfl
theorem le6_f_2_15 (z : Nat → Nat) (j : J) : (regionOf EE le6 (S 55 (lJ false ((15 : Nat) : Int) ((2 : Nat) : Int) j) (H z) true)).map (see sl6) = some (55, H z, true, [vB false, vP, vI ((15 : Nat) : Int), vI ((2 : Nat) : Int), vB (flt .f32 (z 2) (z 15))]) := by kernel_rfl
theorem le6_f_2 (z : Nat → Nat) (j : J) (a : Nat) (ha : a < 16) : (regionOf EE le6 (S 55 (lJ false ((a : Nat) : Int) ((2 : Nat) : Int) j) (H z) true)).map (see sl6) = some (55, H z, true, [vB false, vP, vI ((a : Nat) : Int), vI ((2 : Nat) : Int), vB (flt .f32 (z 2) (z a))]) := by
  match a, ha with
  | 0, _ => exact le6_f_2_0 z j
  | 1, _ => exact le6_f_2_1 z j
  | 2, _ => exact le6_f_2_2 z j
  | 3, _ => exact le6_f_2_3 z j
  | 4, _ => exact le6_f_2_4 z j
  | 5, _ => exact le6_f_2_5 z j
  | 6, _ => exact le6_f_2_6 z j
  | 7, _ => exact le6_f_2_7 z j
  | 8, _ => exact le6_f_2_8 z j
  | 9, _ => exact le6_f_2_9 z j
  | 10, _ => exact le6_f_2_10 z j
  | 11, _ => exact le6_f_2_11 z j
  | 12, _ => exact le6_f_2_12 z j
  | 13, _ => exact le6_f_2_13 z j
  | 14, _ => exact le6_f_2_14 z j
  | 15, _ => exact le6_f_2_15 z j
  | k + 16, h => exact absurd h (by omega)
theorem le6_f_3_0 (z : Nat → Nat) (j : J) : (regionOf EE le6 (S 55 (lJ false ((0 : Nat) : Int) ((3 : Nat) : Int) j) (H z) true)).map (see sl6) = some (55, H z, true, [vB false, vP, vI ((0 : Nat) : Int), vI ((3 : Nat) : Int), vB (flt .f32 (z 3) (z 0))]) := by kernel_rfl
theorem le6_f_3_1 (z : Nat → Nat) (j : J) : (regionOf EE le6 (S 55 (lJ false ((1 : Nat) : Int) ((3 : Nat) : Int) j) (H z) true)).map (see sl6) = some (55, H z, true, [vB false, vP, vI ((1 : Nat) : Int), vI ((3 : Nat) : Int), vB (flt .f32 (z 3) (z 1))]) := by kernel_rfl
theorem le6_f_3_2 (z : Nat → Nat) (j : J) : (regionOf EE le6 (S 55 (lJ false ((2 : Nat) : Int) ((3 : Nat) : Int) j) (H z) true)).map (see sl6) = some (55, H z, true, [vB false, vP, vI ((2 : Nat) : Int), vI ((3 : Nat) : Int), vB (flt .f32 (z 3) (z 2))]) := by kernel_rfl
theorem le6_f_3_3 (z : Nat → Nat) (j : J) : (regionOf EE le6 (S 55 (lJ false ((3 : Nat) : Int) ((3 : Nat) : Int) j) (H z) true)).map (see sl6) = some (55, H z, true, [vB false, vP, vI ((3 : Nat) : Int), vI ((3 : Nat) : Int), vB (flt .f32 (z 3) (z 3))]) := by kernel_rfl
theorem le6_f_3_4 (z : Nat → Nat) (j : J) : (regionOf EE le6 (S 55 (lJ false ((4 : Nat) : Int) ((3 : Nat) : Int) j) (H z) true)).map (see sl6) = some (55, H z, true, [vB false, vP, vI ((4 : Nat) : Int), vI ((3 : Nat) : Int), vB (flt .f32 (z 3) (z 4))]) := by kernel_rfl
theorem le6_f_3_5 (z : Nat → Nat) (j : J) : (regionOf EE le6 (S 55 (lJ false ((5 : Nat) : Int) ((3 : Nat) : Int) j) (H z) true)).map (see sl6) = some (55, H z, true, [vB false, vP, vI ((5 : Nat) : Int), vI ((3 : Nat) : Int), vB (flt .f32 (z 3) (z 5))]) := by kernel_rfl
theorem le6_f_3_6 (z : Nat → Nat) (j : J) : (regionOf EE le6 (S 55 (lJ false ((6 : Nat) : Int) ((3 : Nat) : Int) j) (H z) true)).map (see sl6) = some (55, H z, true, [vB false, vP, vI ((6 : Nat) : Int), vI ((3 : Nat) : Int), vB (flt .f32 (z 3) (z 6))]) := by kernel_rfl
theorem le6_f_3_7 (z : Nat → Nat) (j : J) : (regionOf EE le6 (S 55 (lJ false ((7 : Nat) : Int) ((3 : Nat) : Int) j) (H z) true)).map (see sl6) = some (55, H z, true, [vB false, vP, vI ((7 : Nat) : Int), vI ((3 : Nat) : Int), vB (flt .f32 (z 3) (z 7))]) := by kernel_rfl
theorem le6_f_3_8 (z : Nat → Nat) (j : J) : (regionOf EE le6 (S 55 (lJ false ((8 : Nat) : Int) ((3 : Nat) : Int) j) (H z) true)).map (see sl6) = some (55, H z, true, [vB false, vP, vI ((8 : Nat) : Int), vI ((3 : Nat) : Int), vB (flt .f32 (z 3) (z 8))]) := by kernel_rfl
theorem le6_f_3_9 (z : Nat → Nat) (j : J) : (regionOf EE le6 (S 55 (lJ false ((9 : Nat) : Int) ((3 : Nat) : Int) j) (H z) true)).map (see sl6) = some (55, H z, true, [vB false, vP, vI ((9 : Nat) : Int), vI ((3 : Nat) : Int), vB (flt .f32 (z 3) (z 9))]) := by kernel_rfl
theorem le6_f_3_10 (z : Nat → Nat) (j : J) : (regionOf EE le6 (S 55 (lJ false ((10 : Nat) : Int) ((3 : Nat) : Int) j) (H z) true)).map (see sl6) = some (55, H z, true, [vB false, vP, vI ((10 : Nat) : Int), vI ((3 : Nat) : Int), vB (flt .f32 (z 3) (z 10))]) := by kernel_rfl
theorem le6_f_3_11 (z : Nat → Nat) (j : J) : (regionOf EE le6 (S 55 (lJ false ((11 : Nat) : Int) ((3 : Nat) : Int) j) (H z) true)).map (see sl6) = some (55, H z, true, [vB false, vP, vI ((11 : Nat) : Int), vI ((3 : Nat) : Int), vB (flt .f32 (z 3) (z 11))]) := by kernel_rfl
theorem le6_f_3_12 (z : Nat → Nat) (j : J) : (regionOf EE le6 (S 55 (lJ false ((12 : Nat) : Int) ((3 : Nat) : Int) j) (H z) true)).map (see sl6) = some (55, H z, true, [vB false, vP, vI ((12 : Nat) : Int), vI ((3 : Nat) : Int), vB (flt .f32 (z 3) (z 12))]) := by kernel_rfl
theorem le6_f_3_13 (z : Nat → Nat) (j : J) : (regionOf EE le6 (S 55 (lJ false ((13 : Nat) : Int) ((3 : Nat) : Int) j) (H z) true)).map (see sl6) = some (55, H z, true, [vB false, vP, vI ((13 : Nat) : Int), vI ((3 : Nat) : Int), vB (flt .f32 (z 3) (z 13))]) := by kernel_rfl
theorem le6_f_3_14 (z : Nat → Nat) (j : J) : (regionOf EE le6 (S 55 (lJ false ((14 : Nat) : Int) ((3 : Nat) : Int) j) (H z) true)).map (see sl6) = some (55, H z, true, [vB false, vP, vI ((14 : Nat) : Int), vI ((3 : Nat) : Int), vB (flt .f32 (z 3) (z 14))]) := by kernel_rfl
theorem le6_f_3_15 (z : Nat → Nat) (j : J) : (regionOf EE le6 (S 55 (lJ false ((15 : Nat) : Int) ((3 : Nat) : Int) j) (H z) true)).map (see sl6) = some (55, H z, true, [vB false, vP, vI ((15 : Nat) : Int), vI ((3 : Nat) : Int), vB (flt .f32 (z 3) (z 15))]) := by kernel_rfl
theorem le6_f_3 (z : Nat → Nat) (j : J) (a : Nat) (ha : a < 16) : (regionOf EE le6 (S 55 (lJ false ((a : Nat) : Int) ((3 : Nat) : Int) j) (H z) true)).map (see sl6) = some (55, H z, true, [vB false, vP, vI ((a : Nat) : Int), vI ((3 : Nat) : Int), vB (flt .f32 (z 3) (z a))]) := by
  match a, ha with
  | 0, _ => exact le6_f_3_0 z j
  | 1, _ => exact le6_f_3_1 z j
  | 2, _ => exact le6_f_3_2 z j
  | 3, _ => exact le6_f_3_3 z j
  | 4, _ => exact le6_f_3_4 z j
  | 5, _ => exact le6_f_3_5 z j
  | 6, _ => exact le6_f_3_6 z j
  | 7, _ => exact le6_f_3_7 z j
  | 8, _ => exact le6_f_3_8 z j
  | 9, _ => exact le6_f_3_9 z j
  | 10, _ => exact le6_f_3_10 z j
  | 11, _ => exact le6_f_3_11 z j
  | 12, _ => exact le6_f_3_12 z j
  | 13, _ => exact le6_f_3_13 z j
  | 14, _ => exact le6_f_3_14 z j
  | 15, _ => exact le6_f_3_15 z j
  | k + 16, h => exact absurd h (by omega)
theorem le6_f_4_0 (z : Nat → Nat) (j : J) : (regionOf EE le6 (S 55 (lJ false ((0 : Nat) : Int) ((4 : Nat) : Int) j) (H z) true)).map (see sl6) = some (55, H z, true, [vB false, vP, vI ((0 : Nat) : Int), vI ((4 : Nat) : Int), vB (flt .f32 (z 4) (z 0))]) := by kernel_rfl
theorem le6_f_4_1 (z : Nat → Nat) (j : J) : (regionOf EE le6 (S 55 (lJ false ((1 : Nat) : Int) ((4 : Nat) : Int) j) (H z) true)).map (see sl6) = some (55, H z, true, [vB false, vP, vI ((1 : Nat) : Int), vI ((4 : Nat) : Int), vB (flt .f32 (z 4) (z 1))]) := by kernel_rfl
theorem le6_f_4_2 (z : Nat → Nat) (j : J) : (regionOf EE le6 (S 55 (lJ false ((2 : Nat) : Int) ((4 : Nat) : Int) j) (H z) true)).map (see sl6) = some (55, H z, true, [vB false, vP, vI ((2 : Nat) : Int), vI ((4 : Nat) : Int), vB (flt .f32 (z 4) (z 2))]) := by kernel_rfl
theorem le6_f_4_3 (z : Nat → Nat) (j : J) : (regionOf EE le6 (S 55 (lJ false ((3 : Nat) : Int) ((4 : Nat) : Int) j) (H z) true)).map (see sl6) = some (55, H z, true, [vB false, vP, vI ((3 : Nat) : Int), vI ((4 : Nat) : Int), vB (flt .f32 (z 4) (z 3))]) := by kernel_rfl
theorem le6_f_4_4 (z : Nat → Nat) (j : J) : (regionOf EE le6 (S 55 (lJ false ((4 : Nat) : Int) ((4 : Nat) : Int) j) (H z) true)).map (see sl6) = some (55, H z, true, [vB false, vP, vI ((4 : Nat) : Int), vI ((4 : Nat) : Int), vB (flt .f32 (z 4) (z 4))]) := by kernel_rfl
theorem le6_f_4_5 (z : Nat → Nat) (j : J) : (regionOf EE le6 (S 55 (lJ false ((5 : Nat) : Int) ((4 : Nat) : Int) j) (H z) true)).map (see sl6) = some (55, H z, true, [vB false, vP, vI ((5 : Nat) : Int), vI ((4 : Nat) : Int), vB (flt .f32 (z 4) (z 5))]) := by kernel_rfl
theorem le6_f_4_6 (z : Nat → Nat) (j : J) : (regionOf EE le6 (S 55 (lJ false ((6 : Nat) : Int) ((4 : Nat) : Int) j) (H z) true)).map (see sl6) = some (55, H z, true, [vB false, vP, vI ((6 : Nat) : Int), vI ((4 : Nat) : Int), vB (flt .f32 (z 4) (z 6))]) := by kernel_rfl
theorem le6_f_4_7 (z : Nat → Nat) (j : J) : (regionOf EE le6 (S 55 (lJ false ((7 : Nat) : Int) ((4 : Nat) : Int) j) (H z) true)).map (see sl6) = some (55, H z, true, [vB false, vP, vI ((7 : Nat) : Int), vI ((4 : Nat) : Int), vB (flt .f32 (z 4) (z 7))]) := by kernel_rfl
theorem le6_f_4_8 (z : Nat → Nat) (j : J) : (regionOf EE le6 (S 55 (lJ false ((8 : Nat) : Int) ((4 : Nat) : Int) j) (H z) true)).map (see sl6) = some (55, H z, true, [vB false, vP, vI ((8 : Nat) : Int), vI ((4 : Nat) : Int), vB (flt .f32 (z 4) (z 8))]) := by kernel_rfl
theorem le6_f_4_9 (z : Nat → Nat) (j : J) : (regionOf EE le6 (S 55 (lJ false ((9 : Nat) : Int) ((4 : Nat) : Int) j) (H z) true)).map (see sl6) = some (55, H z, true, [vB false, vP, vI ((9 : Nat) : Int), vI ((4 : Nat) : Int), vB (flt .f32 (z 4) (z 9))]) := by kernel_rfl
theorem le6_f_4_10 (z : Nat → Nat) (j : J) : (regionOf EE le6 (S 55 (lJ false ((10 : Nat) : Int) ((4 : Nat) : Int) j) (H z) true)).map (see sl6) = some (55, H z, true, [vB false, vP, vI ((10 : Nat) : Int), vI ((4 : Nat) : Int), vB (flt .f32 (z 4) (z 10))]) := by kernel_rfl
theorem le6_f_4_11 (z : Nat → Nat) (j : J) : (regionOf EE le6 (S 55 (lJ false ((11 : Nat) : Int) ((4 : Nat) : Int) j) (H z) true)).map (see sl6) = some (55, H z, true, [vB false, vP, vI ((11 : Nat) : Int), vI ((4 : Nat) : Int), vB (flt .f32 (z 4) (z 11))]) := by kernel_rfl
theorem le6_f_4_12 (z : Nat → Nat) (j : J) : (regionOf EE le6 (S 55 (lJ false ((12 : Nat) : Int) ((4 : Nat) : Int) j) (H z) true)).map (see sl6) = some (55, H z, true, [vB false, vP, vI ((12 : Nat) : Int), vI ((4 : Nat) : Int), vB (flt .f32 (z 4) (z 12))]) := by kernel_rfl
theorem le6_f_4_13 (z : Nat → Nat) (j : J) : (regionOf EE le6 (S 55 (lJ false ((13 : Nat) : Int) ((4 : Nat) : Int) j) (H z) true)).map (see sl6) = some (55, H z, true, [vB false, vP, vI ((13 : Nat) : Int), vI ((4 : Nat) : Int), vB (flt .f32 (z 4) (z 13))]) := by kernel_rfl
theorem le6_f_4_14 (z : Nat → Nat) (j : J) : (regionOf EE le6 (S 55 (lJ false ((14 : Nat) : Int) ((4 : Nat) : Int) j) (H z) true)).map (see sl6) = some (55, H z, true, [vB false, vP, vI ((14 : Nat) : Int), vI ((4 : Nat) : Int), vB (flt .f32 (z 4) (z 14))]) := by kernel_rfl
theorem le6_f_4_15 (z : Nat → Nat) (j : J) : (regionOf EE le6 (S 55 (lJ false ((15 : Nat) : Int) ((4 : Nat) : Int) j) (H z) true)).map (see sl6) = some (55, H z, true, [vB false, vP, vI ((15 : Nat) : Int), vI ((4 : Nat) : Int), vB (flt .f32 (z 4) (z 15))]) := by kernel_rfl
theorem le6_f_4 (z : Nat → Nat) (j : J) (a : Nat) (ha : a < 16) : (regionOf EE le6 (S 55 (lJ false ((a : Nat) : Int) ((4 : Nat) : Int) j) (H z) true)).map (see sl6) = some (55, H z, true, [vB false, vP, vI ((a : Nat) : Int), vI ((4 : Nat) : Int), vB (flt .f32 (z 4) (z a))]) := by
  match a, ha with
  | 0, _ => exact le6_f_4_0 z j
  | 1, _ => exact le6_f_4_1 z j
  | 2, _ => exact le6_f_4_2 z j
  | 3, _ => exact le6_f_4_3 z j
  | 4, _ => exact le6_f_4_4 z j
  | 5, _ => exact le6_f_4_5 z j
  | 6, _ => exact le6_f_4_6 z j
  | 7, _ => exact le6_f_4_7 z j
  | 8, _ => exact le6_f_4_8 z j
  | 9, _ => exact le6_f_4_9 z j
  | 10, _ => exact le6_f_4_10 z j
  | 11, _ => exact le6_f_4_11 z j
  | 12, _ => exact le6_f_4_12 z j
  | 13, _ => exact le6_f_4_13 z j
  | 14, _ => exact le6_f_4_14 z j
  | 15, _ => exact le6_f_4_15 z j
  | k + 16, h => exact absurd h (by omega)
theorem le6_f_5_0 (z : Nat → Nat) (j : J) : (regionOf EE le6 (S 55 (lJ false ((0 : Nat) : Int) ((5 : Nat) : Int) j) (H z) true)).map (see sl6) = some (55, H z, true, [vB false, vP, vI ((0 : Nat) : Int), vI ((5 : Nat) : Int), vB (flt .f32 (z 5) (z 0))]) := by kernel_rfl
theorem le6_f_5_1 (z : Nat → Nat) (j : J) : (regionOf EE le6 (S 55 (lJ false ((1 : Nat) : Int) ((5 : Nat) : Int) j) (H z) true)).map (see sl6) = some (55, H z, true, [vB false, vP, vI ((1 : Nat) : Int), vI ((5 : Nat) : Int), vB (flt .f32 (z 5) (z 1))]) := by kernel_rfl
theorem le6_f_5_2 (z : Nat → Nat) (j : J) : (regionOf EE le6 (S 55 (lJ false ((2 : Nat) : Int) ((5 : Nat) : Int) j) (H z) true)).map (see sl6) = some (55, H z, true, [vB false, vP, vI ((2 : Nat) : Int), vI ((5 : Nat) : Int), vB (flt .f32 (z 5) (z 2))]) := by kernel_rfl
theorem le6_f_5_3 (z : Nat → Nat) (j : J) : (regionOf EE le6 (S 55 (lJ false ((3 : Nat) : Int) ((5 : Nat) : Int) j) (H z) true)).map (see sl6) = some (55, H z, true, [vB false, vP, vI ((3 : Nat) : Int), vI ((5 : Nat) : Int), vB (flt .f32 (z 5) (z 3))]) := by kernel_rfl
theorem le6_f_5_4 (z : Nat → Nat) (j : J) : (regionOf EE le6 (S 55 (lJ false ((4 : Nat) : Int) ((5 : Nat) : Int) j) (H z) true)).map (see sl6) = some (55, H z, true, [vB false, vP, vI ((4 : Nat) : Int), vI ((5 : Nat) : Int), vB (flt .f32 (z 5) (z 4))]) := by kernel_rfl
theorem le6_f_5_5 (z : Nat → Nat) (j : J) : (regionOf EE le6 (S 55 (lJ false ((5 : Nat) : Int) ((5 : Nat) : Int) j) (H z) true)).map (see sl6) = some (55, H z, true, [vB false, vP, vI ((5 : Nat) : Int), vI ((5 : Nat) : Int), vB (flt .f32 (z 5) (z 5))]) := by kernel_rfl
theorem le6_f_5_6 (z : Nat → Nat) (j : J) : (regionOf EE le6 (S 55 (lJ false ((6 : Nat) : Int) ((5 : Nat) : Int) j) (H z) true)).map (see sl6) = some (55, H z, true, [vB false, vP, vI ((6 : Nat) : Int), vI ((5 : Nat) : Int), vB (flt .f32 (z 5) (z 6))]) := by kernel_rfl
theorem le6_f_5_7 (z : Nat → Nat) (j : J) : (regionOf EE le6 (S 55 (lJ false ((7 : Nat) : Int) ((5 : Nat) : Int) j) (H z) true)).map (see sl6) = some (55, H z, true, [vB false, vP, vI ((7 : Nat) : Int), vI ((5 : Nat) : Int), vB (flt .f32 (z 5) (z 7))]) := by kernel_rfl
theorem le6_f_5_8 (z : Nat → Nat) (j : J) : (regionOf EE le6 (S 55 (lJ false ((8 : Nat) : Int) ((5 : Nat) : Int) j) (H z) true)).map (see sl6) = some (55, H z, true, [vB false, vP, vI ((8 : Nat) : Int), vI ((5 : Nat) : Int), vB (flt .f32 (z 5) (z 8))]) := by kernel_rfl
theorem le6_f_5_9 (z : Nat → Nat) (j : J) : (regionOf EE le6 (S 55 (lJ false ((9 : Nat) : Int) ((5 : Nat) : Int) j) (H z) true)).map (see sl6) = some (55, H z, true, [vB false, vP, vI ((9 : Nat) : Int), vI ((5 : Nat) : Int), vB (flt .f32 (z 5) (z 9))]) := by kernel_rfl
theorem le6_f_5_10 (z : Nat → Nat) (j : J) : (regionOf EE le6 (S 55 (lJ false ((10 : Nat) : Int) ((5 : Nat) : Int) j) (H z) true)).map (see sl6) = some (55, H z, true, [vB false, vP, vI ((10 : Nat) : Int), vI ((5 : Nat) : Int), vB (flt .f32 (z 5) (z 10))]) := by kernel_rfl
theorem le6_f_5_11 (z : Nat → Nat) (j : J) : (regionOf EE le6 (S 55 (lJ false ((11 : Nat) : Int) ((5 : Nat) : Int) j) (H z) true)).map (see sl6) = some (55, H z, true, [vB false, vP, vI ((11 : Nat) : Int), vI ((5 : Nat) : Int), vB (flt .f32 (z 5) (z 11))]) := by kernel_rfl
theorem le6_f_5_12 (z : Nat → Nat) (j : J) : (regionOf EE le6 (S 55 (lJ false ((12 : Nat) : Int) ((5 : Nat) : Int) j) (H z) true)).map (see sl6) = some (55, H z, true, [vB false, vP, vI ((12 : Nat) : Int), vI ((5 : Nat) : Int), vB (flt .f32 (z 5) (z 12))]) := by kernel_rfl
theorem le6_f_5_13 (z : Nat → Nat) (j : J) : (regionOf EE le6 (S 55 (lJ false ((13 : Nat) : Int) ((5 : Nat) : Int) j) (H z) true)).map (see sl6) = some (55, H z, true, [vB false, vP, vI ((13 : Nat) : Int), vI ((5 : Nat) : Int), vB (flt .f32 (z 5) (z 13))]) := by kernel_rfl
theorem le6_f_5_14 (z : Nat → Nat) (j : J) : (regionOf EE le6 (S 55 (lJ false ((14 : Nat) : Int) ((5 : Nat) : Int) j) (H z) true)).map (see sl6) = some (55, H z, true, [vB false, vP, vI ((14 : Nat) : Int), vI ((5 : Nat) : Int), vB (flt .f32 (z 5) (z 14))]) := by kernel_rfl
theorem le6_f_5_15 (z : Nat → Nat) (j : J) : (regionOf EE le6 (S 55 (lJ false ((15 : Nat) : Int) ((5 : Nat) : Int) j) (H z) true)).map (see sl6) = some (55, H z, true, [vB false, vP, vI ((15 : Nat) : Int), vI ((5 : Nat) : Int), vB (flt .f32 (z 5) (z 15))]) := by kernel_rfl
theorem le6_f_5 (z : Nat → Nat) (j : J) (a : Nat) (ha : a < 16) : (regionOf EE le6 (S 55 (lJ false ((a : Nat) : Int) ((5 : Nat) : Int) j) (H z) true)).map (see sl6) = some (55, H z, true, [vB false, vP, vI ((a : Nat) : Int), vI ((5 : Nat) : Int), vB (flt .f32 (z 5) (z a))]) := by
  match a, ha with
  | 0, _ => exact le6_f_5_0 z j
  | 1, _ => exact le6_f_5_1 z j
  | 2, _ => exact le6_f_5_2 z j
  | 3, _ => exact le6_f_5_3 z j
  | 4, _ => exact le6_f_5_4 z j
  | 5, _ => exact le6_f_5_5 z j
  | 6, _ => exact le6_f_5_6 z j
  | 7, _ => exact le6_f_5_7 z j
  | 8, _ => exact le6_f_5_8 z j
  | 9, _ => exact le6_f_5_9 z j
  | 10, _ => exact le6_f_5_10 z j
  | 11, _ => exact le6_f_5_11 z j
  | 12, _ => exact le6_f_5_12 z j
  | 13, _ => exact le6_f_5_13 z j
  | 14, _ => exact le6_f_5_14 z j
  | 15, _ => exact le6_f_5_15 z j
  | k + 16, h => exact absurd h (by omega)
theorem le6_f_6_0 (z : Nat → Nat) (j : J) : (regionOf EE le6 (S 55 (lJ false ((0 : Nat) : Int) ((6 : Nat) : Int) j) (H z) true)).map (see sl6) = some (55, H z, true, [vB false, vP, vI ((0 : Nat) : Int), vI ((6 : Nat) : Int), vB (flt .f32 (z 6) (z 0))]) := by kernel_rfl
theorem le6_f_6_1 (z : Nat → Nat) (j : J) : (regionOf EE le6 (S 55 (lJ false ((1 : Nat) : Int) ((6 : Nat) : Int) j) (H z) true)).map (see sl6) = some (55, H z, true, [vB false, vP, vI ((1 : Nat) : Int), vI ((6 : Nat) : Int), vB (flt .f32 (z 6) (z 1))]) := by kernel_rfl
theorem le6_f_6_2 (z : Nat → Nat) (j : J) : (regionOf EE le6 (S 55 (lJ false ((2 : Nat) : Int) ((6 : Nat) : Int) j) (H z) true)).map (see sl6) = some (55, H z, true, [vB false, vP, vI ((2 : Nat) : Int), vI ((6 : Nat) : Int), vB (flt .f32 (z 6) (z 2))]) := by kernel_rfl
theorem le6_f_6_3 (z : Nat → Nat) (j : J) : (regionOf EE le6 (S 55 (lJ false ((3 : Nat) : Int) ((6 : Nat) : Int) j) (H z) true)).map (see sl6) = some (55, H z, true, [vB false, vP, vI ((3 : Nat) : Int), vI ((6 : Nat) : Int), vB (flt .f32 (z 6) (z 3))]) := by kernel_rfl
theorem le6_f_6_4 (z : Nat → Nat) (j : J) : (regionOf EE le6 (S 55 (lJ false ((4 : Nat) : Int) ((6 : Nat) : Int) j) (H z) true)).map (see sl6) = some (55, H z, true, [vB false, vP, vI ((4 : Nat) : Int), vI ((6 : Nat) : Int), vB (flt .f32 (z 6) (z 4))]) := by kernel_rfl
theorem le6_f_6_5 (z : Nat → Nat) (j : J) : (regionOf EE le6 (S 55 (lJ false ((5 : Nat) : Int) ((6 : Nat) : Int) j) (H z) true)).map (see sl6) = some (55, H z, true, [vB false, vP, vI ((5 : Nat) : Int), vI ((6 : Nat) : Int), vB (flt .f32 (z 6) (z 5))]) := by kernel_rfl
theorem le6_f_6_6 (z : Nat → Nat) (j : J) : (regionOf EE le6 (S 55 (lJ false ((6 : Nat) : Int) ((6 : Nat) : Int) j) (H z) true)).map (see sl6) = some (55, H z, true, [vB false, vP, vI ((6 : Nat) : Int), vI ((6 : Nat) : Int), vB (flt .f32 (z 6) (z 6))]) := by kernel_rfl
theorem le6_f_6_7 (z : Nat → Nat) (j : J) : (regionOf EE le6 (S 55 (lJ false ((7 : Nat) : Int) ((6 : Nat) : Int) j) (H z) true)).map (see sl6) = some (55, H z, true, [vB false, vP, vI ((7 : Nat) : Int), vI ((6 : Nat) : Int), vB (flt .f32 (z 6) (z 7))]) := by kernel_rfl
theorem le6_f_6_8 (z : Nat → Nat) (j : J) : (regionOf EE le6 (S 55 (lJ false ((8 : Nat) : Int) ((6 : Nat) : Int) j) (H z) true)).map (see sl6) = some (55, H z, true, [vB false, vP, vI ((8 : Nat) : Int), vI ((6 : Nat) : Int), vB (flt .f32 (z 6) (z 8))]) := by kernel_rfl
theorem le6_f_6_9 (z : Nat → Nat) (j : J) : (regionOf EE le6 (S 55 (lJ false ((9 : Nat) : Int) ((6 : Nat) : Int) j) (H z) true)).map (see sl6) = some (55, H z, true, [vB false, vP, vI ((9 : Nat) : Int), vI ((6 : Nat) : Int), vB (flt .f32 (z 6) (z 9))]) := by kernel_rfl
theorem le6_f_6_10 (z : Nat → Nat) (j : J) : (regionOf EE le6 (S 55 (lJ false ((10 : Nat) : Int) ((6 : Nat) : Int) j) (H z) true)).map (see sl6) = some (55, H z, true, [vB false, vP, vI ((10 : Nat) : Int), vI ((6 : Nat) : Int), vB (flt .f32 (z 6) (z 10))]) := by kernel_rfl
theorem le6_f_6_11 (z : Nat → Nat) (j : J) : (regionOf EE le6 (S 55 (lJ false ((11 : Nat) : Int) ((6 : Nat) : Int) j) (H z) true)).map (see sl6) = some (55, H z, true, [vB false, vP, vI ((11 : Nat) : Int), vI ((6 : Nat) : Int), vB (flt .f32 (z 6) (z 11))]) := by kernel_rfl
theorem le6_f_6_12 (z : Nat → Nat) (j : J) : (regionOf EE le6 (S 55 (lJ false ((12 : Nat) : Int) ((6 : Nat) : Int) j) (H z) true)).map (see sl6) = some (55, H z, true, [vB false, vP, vI ((12 : Nat) : Int), vI ((6 : Nat) : Int), vB (flt .f32 (z 6) (z 12))]) := by kernel_rfl
theorem le6_f_6_13 (z : Nat → Nat) (j : J) : (regionOf EE le6 (S 55 (lJ false ((13 : Nat) : Int) ((6 : Nat) : Int) j) (H z) true)).map (see sl6) = some (55, H z, true, [vB false, vP, vI ((13 : Nat) : Int), vI ((6 : Nat) : Int), vB (flt .f32 (z 6) (z 13))]) := by kernel_rfl
theorem le6_f_6_14 (z : Nat → Nat) (j : J) : (regionOf EE le6 (S 55 (lJ false ((14 : Nat) : Int) ((6 : Nat) : Int) j) (H z) true)).map (see sl6) = some (55, H z, true, [vB false, vP, vI ((14 : Nat) : Int), vI ((6 : Nat) : Int), vB (flt .f32 (z 6) (z 14))]) := by kernel_rfl
theorem le6_f_6_15 (z : Nat → Nat) (j : J) : (regionOf EE le6 (S 55 (lJ false ((15 : Nat) : Int) ((6 : Nat) : Int) j) (H z) true)).map (see sl6) = some (55, H z, true, [vB false, vP, vI ((15 : Nat) : Int), vI ((6 : Nat) : Int), vB (flt .f32 (z 6) (z 15))]) := by kernel_rfl
theorem le6_f_6 (z : Nat → Nat) (j : J) (a : Nat) (ha : a < 16) : (regionOf EE le6 (S 55 (lJ false ((a : Nat) : Int) ((6 : Nat) : Int) j) (H z) true)).map (see sl6) = some (55, H z, true, [vB false, vP, vI ((a : Nat) : Int), vI ((6 : Nat) : Int), vB (flt .f32 (z 6) (z a))]) := by
  match a, ha with
  | 0, _ => exact le6_f_6_0 z j
  | 1, _ => exact le6_f_6_1 z j
  | 2, _ => exact le6_f_6_2 z j
  | 3, _ => exact le6_f_6_3 z j
  | 4, _ => exact le6_f_6_4 z j
  | 5, _ => exact le6_f_6_5 z j
  | 6, _ => exact le6_f_6_6 z j
  | 7, _ => exact le6_f_6_7 z j
  | 8, _ => exact le6_f_6_8 z j
  | 9, _ => exact le6_f_6_9 z j
  | 10, _ => exact le6_f_6_10 z j
  | 11, _ => exact le6_f_6_11 z j
  | 12, _ => exact le6_f_6_12 z j
  | 13, _ => exact le6_f_6_13 z j
  | 14, _ => exact le6_f_6_14 z j
  | 15, _ => exact le6_f_6_15 z j
  | k + 16, h => exact absurd h (by omega)
theorem le6_f_7_0 (z : Nat → Nat) (j : J) : (regionOf EE le6 (S 55 (lJ false ((0 : Nat) : Int) ((7 : Nat) : Int) j) (H z) true)).map (see sl6) = some (55, H z, true, [vB false, vP, vI ((0 : Nat) : Int), vI ((7 : Nat) : Int), vB (flt .f32 (z 7) (z 0))]) := by kernel_rfl
theorem le6_f_7_1 (z : Nat → Nat) (j : J) : (regionOf EE le6 (S 55 (lJ false ((1 : Nat) : Int) ((7 : Nat) : Int) j) (H z) true)).map (see sl6) = some (55, H z, true, [vB false, vP, vI ((1 : Nat) : Int), vI ((7 : Nat) : Int), vB (flt .f32 (z 7) (z 1))]) := by kernel_rfl
theorem le6_f_7_2 (z : Nat → Nat) (j : J) : (regionOf EE le6 (S 55 (lJ false ((2 : Nat) : Int) ((7 : Nat) : Int) j) (H z) true)).map (see sl6) = some (55, H z, true, [vB false, vP, vI ((2 : Nat) : Int), vI ((7 : Nat) : Int), vB (flt .f32 (z 7) (z 2))]) := by kernel_rfl
theorem le6_f_7_3 (z : Nat → Nat) (j : J) : (regionOf EE le6 (S 55 (lJ false ((3 : Nat) : Int) ((7 : Nat) : Int) j) (H z) true)).map (see sl6) = some (55, H z, true, [vB false, vP, vI ((3 : Nat) : Int), vI ((7 : Nat) : Int), vB (flt .f32 (z 7) (z 3))]) := by kernel_rfl
theorem le6_f_7_4 (z : Nat → Nat) (j : J) : (regionOf EE le6 (S 55 (lJ false ((4 : Nat) : Int) ((7 : Nat) : Int) j) (H z) true)).map (see sl6) = some (55, H z, true, [vB false, vP, vI ((4 : Nat) : Int), vI ((7 : Nat) : Int), vB (flt .f32 (z 7) (z 4))]) := by kernel_rfl
theorem le6_f_7_5 (z : Nat → Nat) (j : J) : (regionOf EE le6 (S 55 (lJ false ((5 : Nat) : Int) ((7 : Nat) : Int) j) (H z) true)).map (see sl6) = some (55, H z, true, [vB false, vP, vI ((5 : Nat) : Int), vI ((7 : Nat) : Int), vB (flt .f32 (z 7) (z 5))]) := by kernel_rfl
theorem le6_f_7_6 (z : Nat → Nat) (j : J) : (regionOf EE le6 (S 55 (lJ false ((6 : Nat) : Int) ((7 : Nat) : Int) j) (H z) true)).map (see sl6) = some (55, H z, true, [vB false, vP, vI ((6 : Nat) : Int), vI ((7 : Nat) : Int), vB (flt .f32 (z 7) (z 6))]) := by kernel_rfl
theorem le6_f_7_7 (z : Nat → Nat) (j : J) : (regionOf EE le6 (S 55 (lJ false ((7 : Nat) : Int) ((7 : Nat) : Int) j) (H z) true)).map (see sl6) = some (55, H z, true, [vB false, vP, vI ((7 : Nat) : Int), vI ((7 : Nat) : Int), vB (flt .f32 (z 7) (z 7))]) := by kernel_rfl
theorem le6_f_7_8 (z : Nat → Nat) (j : J) : (regionOf EE le6 (S 55 (lJ false ((8 : Nat) : Int) ((7 : Nat) : Int) j) (H z) true)).map (see sl6) = some (55, H z, true, [vB false, vP, vI ((8 : Nat) : Int), vI ((7 : Nat) : Int), vB (flt .f32 (z 7) (z 8))]) := by kernel_rfl
theorem le6_f_7_9 (z : Nat → Nat) (j : J) : (regionOf EE le6 (S 55 (lJ false ((9 : Nat) : Int) ((7 : Nat) : Int) j) (H z) true)).map (see sl6) = some (55, H z, true, [vB false, vP, vI ((9 : Nat) : Int), vI ((7 : Nat) : Int), vB (flt .f32 (z 7) (z 9))]) := by kernel_rfl
theorem le6_f_7_10 (z : Nat → Nat) (j : J) : (regionOf EE le6 (S 55 (lJ false ((10 : Nat) : Int) ((7 : Nat) : Int) j) (H z) true)).map (see sl6) = some (55, H z, true, [vB false, vP, vI ((10 : Nat) : Int), vI ((7 : Nat) : Int), vB (flt .f32 (z 7) (z 10))]) := by kernel_rfl
theorem le6_f_7_11 (z : Nat → Nat) (j : J) : (regionOf EE le6 (S 55 (lJ false ((11 : Nat) : Int) ((7 : Nat) : Int) j) (H z) true)).map (see sl6) = some (55, H z, true, [vB false, vP, vI ((11 : Nat) : Int), vI ((7 : Nat) : Int), vB (flt .f32 (z 7) (z 11))]) := by kernel_rfl
theorem le6_f_7_12 (z : Nat → Nat) (j : J) : (regionOf EE le6 (S 55 (lJ false ((12 : Nat) : Int) ((7 : Nat) : Int) j) (H z) true)).map (see sl6) = some (55, H z, true, [vB false, vP, vI ((12 : Nat) : Int), vI ((7 : Nat) : Int), vB (flt .f32 (z 7) (z 12))]) := by kernel_rfl
theorem le6_f_7_13 (z : Nat → Nat) (j : J) : (regionOf EE le6 (S 55 (lJ false ((13 : Nat) : Int) ((7 : Nat) : Int) j) (H z) true)).map (see sl6) = some (55, H z, true, [vB false, vP, vI ((13 : Nat) : Int), vI ((7 : Nat) : Int), vB (flt .f32 (z 7) (z 13))]) := by kernel_rfl
theorem le6_f_7_14 (z : Nat → Nat) (j : J) : (regionOf EE le6 (S 55 (lJ false ((14 : Nat) : Int) ((7 : Nat) : Int) j) (H z) true)).map (see sl6) = some (55, H z, true, [vB false, vP, vI ((14 : Nat) : Int), vI ((7 : Nat) : Int), vB (flt .f32 (z 7) (z 14))]) := by kernel_rfl
theorem le6_f_7_15 (z : Nat → Nat) (j : J) : (regionOf EE le6 (S 55 (lJ false ((15 : Nat) : Int) ((7 : Nat) : Int) j) (H z) true)).map (see sl6) = some (55, H z, true, [vB false, vP, vI ((15 : Nat) : Int), vI ((7 : Nat) : Int), vB (flt .f32 (z 7) (z 15))]) := by kernel_rfl
theorem le6_f_7 (z : Nat → Nat) (j : J) (a : Nat) (ha : a < 16) : (regionOf EE le6 (S 55 (lJ false ((a : Nat) : Int) ((7 : Nat) : Int) j) (H z) true)).map (see sl6) = some (55, H z, true, [vB false, vP, vI ((a : Nat) : Int), vI ((7 : Nat) : Int), vB (flt .f32 (z 7) (z a))]) := by
  match a, ha with
  | 0, _ => exact le6_f_7_0 z j
  | 1, _ => exact le6_f_7_1 z j
  | 2, _ => exact le6_f_7_2 z j
  | 3, _ => exact le6_f_7_3 z j
  | 4, _ => exact le6_f_7_4 z j
  | 5, _ => exact le6_f_7_5 z j
  | 6, _ => exact le6_f_7_6 z j
  | 7, _ => exact le6_f_7_7 z j
  | 8, _ => exact le6_f_7_8 z j
  | 9, _ => exact le6_f_7_9 z j
  | 10, _ => exact le6_f_7_10 z j
  | 11, _ => exact le6_f_7_11 z j
  | 12, _ => exact le6_f_7_12 z j
  | 13, _ => exact le6_f_7_13 z j
  | 14, _ => exact le6_f_7_14 z j
  | 15, _ => exact le6_f_7_15 z j
  | k + 16, h => exact absurd h (by omega)
theorem le6_f_8_0 (z : Nat → Nat) (j : J) : (regionOf EE le6 (S 55 (lJ false ((0 : Nat) : Int) ((8 : Nat) : Int) j) (H z) true)).map (see sl6) = some (55, H z, true, [vB false, vP, vI ((0 : Nat) : Int), vI ((8 : Nat) : Int), vB (flt .f32 (z 8) (z 0))]) := by kernel_rfl
theorem le6_f_8_1 (z : Nat → Nat) (j : J) : (regionOf EE le6 (S 55 (lJ false ((1 : Nat) : Int) ((8 : Nat) : Int) j) (H z) true)).map (see sl6) = some (55, H z, true, [vB false, vP, vI ((1 : Nat) : Int), vI ((8 : Nat) : Int), vB (flt .f32 (z 8) (z 1))]) := by kernel_rfl
theorem le6_f_8_2 (z : Nat → Nat) (j : J) : (regionOf EE le6 (S 55 (lJ false ((2 : Nat) : Int) ((8 : Nat) : Int) j) (H z) true)).map (see sl6) = some (55, H z, true, [vB false, vP, vI ((2 : Nat) : Int), vI ((8 : Nat) : Int), vB (flt .f32 (z 8) (z 2))]) := by kernel_rfl
theorem le6_f_8_3 (z : Nat → Nat) (j : J) : (regionOf EE le6 (S 55 (lJ false ((3 : Nat) : Int) ((8 : Nat) : Int) j) (H z) true)).map (see sl6) = some (55, H z, true, [vB false, vP, vI ((3 : Nat) : Int), vI ((8 : Nat) : Int), vB (flt .f32 (z 8) (z 3))]) := by kernel_rfl
theorem le6_f_8_4 (z : Nat → Nat) (j : J) : (regionOf EE le6 (S 55 (lJ false ((4 : Nat) : Int) ((8 : Nat) : Int) j) (H z) true)).map (see sl6) = some (55, H z, true, [vB false, vP, vI ((4 : Nat) : Int), vI ((8 : Nat) : Int), vB (flt .f32 (z 8) (z 4))]) := by kernel_rfl
theorem le6_f_8_5 (z : Nat → Nat) (j : J) : (regionOf EE le6 (S 55 (lJ false ((5 : Nat) : Int) ((8 : Nat) : Int) j) (H z) true)).map (see sl6) = some (55, H z, true, [vB false, vP, vI ((5 : Nat) : Int), vI ((8 : Nat) : Int), vB (flt .f32 (z 8) (z 5))]) := by kernel_rfl
theorem le6_f_8_6 (z : Nat → Nat) (j : J) : (regionOf EE le6 (S 55 (lJ false ((6 : Nat) : Int) ((8 : Nat) : Int) j) (H z) true)).map (see sl6) = some (55, H z, true, [vB false, vP, vI ((6 : Nat) : Int), vI ((8 : Nat) : Int), vB (flt .f32 (z 8) (z 6))]) := by kernel_rfl
theorem le6_f_8_7 (z : Nat → Nat) (j : J) : (regionOf EE le6 (S 55 (lJ false ((7 : Nat) : Int) ((8 : Nat) : Int) j) (H z) true)).map (see sl6) = some (55, H z, true, [vB false, vP, vI ((7 : Nat) : Int), vI ((8 : Nat) : Int), vB (flt .f32 (z 8) (z 7))]) := by kernel_rfl
theorem le6_f_8_8 (z : Nat → Nat) (j : J) : (regionOf EE le6 (S 55 (lJ false ((8 : Nat) : Int) ((8 : Nat) : Int) j) (H z) true)).map (see sl6) = some (55, H z, true, [vB false, vP, vI ((8 : Nat) : Int), vI ((8 : Nat) : Int), vB (flt .f32 (z 8) (z 8))]) := by kernel_rfl
theorem le6_f_8_9 (z : Nat → Nat) (j : J) : (regionOf EE le6 (S 55 (lJ false ((9 : Nat) : Int) ((8 : Nat) : Int) j) (H z) true)).map (see sl6) = some (55, H z, true, [vB false, vP, vI ((9 : Nat) : Int), vI ((8 : Nat) : Int), vB (flt .f32 (z 8) (z 9))]) := by kernel_rfl
theorem le6_f_8_10 (z : Nat → Nat) (j : J) : (regionOf EE le6 (S 55 (lJ false ((10 : Nat) : Int) ((8 : Nat) : Int) j) (H z) true)).map (see sl6) = some (55, H z, true, [vB false, vP, vI ((10 : Nat) : Int), vI ((8 : Nat) : Int), vB (flt .f32 (z 8) (z 10))]) := by kernel_rfl
theorem le6_f_8_11 (z : Nat → Nat) (j : J) : (regionOf EE le6 (S 55 (lJ false ((11 : Nat) : Int) ((8 : Nat) : Int) j) (H z) true)).map (see sl6) = some (55, H z, true, [vB false, vP, vI ((11 : Nat) : Int), vI ((8 : Nat) : Int), vB (flt .f32 (z 8) (z 11))]) := by kernel_rfl
theorem le6_f_8_12 (z : Nat → Nat) (j : J) : (regionOf EE le6 (S 55 (lJ false ((12 : Nat) : Int) ((8 : Nat) : Int) j) (H z) true)).map (see sl6) = some (55, H z, true, [vB false, vP, vI ((12 : Nat) : Int), vI ((8 : Nat) : Int), vB (flt .f32 (z 8) (z 12))]) := by kernel_rfl
theorem le6_f_8_13 (z : Nat → Nat) (j : J) : (regionOf EE le6 (S 55 (lJ false ((13 : Nat) : Int) ((8 : Nat) : Int) j) (H z) true)).map (see sl6) = some (55, H z, true, [vB false, vP, vI ((13 : Nat) : Int), vI ((8 : Nat) : Int), vB (flt .f32 (z 8) (z 13))]) := by kernel_rfl
theorem le6_f_8_14 (z : Nat → Nat) (j : J) : (regionOf EE le6 (S 55 (lJ false ((14 : Nat) : Int) ((8 : Nat) : Int) j) (H z) true)).map (see sl6) = some (55, H z, true, [vB false, vP, vI ((14 : Nat) : Int), vI ((8 : Nat) : Int), vB (flt .f32 (z 8) (z 14))]) := by kernel_rfl
theorem le6_f_8_15 (z : Nat → Nat) (j : J) : (regionOf EE le6 (S 55 (lJ false ((15 : Nat) : Int) ((8 : Nat) : Int) j) (H z) true)).map (see sl6) = some (55, H z, true, [vB false, vP, vI ((15 : Nat) : Int), vI ((8 : Nat) : Int), vB (flt .f32 (z 8) (z 15))]) := by kernel_rfl
theorem le6_f_8 (z : Nat → Nat) (j : J) (a : Nat) (ha : a < 16) : (regionOf EE le6 (S 55 (lJ false ((a : Nat) : Int) ((8 : Nat) : Int) j) (H z) true)).map (see sl6) = some (55, H z, true, [vB false, vP, vI ((a : Nat) : Int), vI ((8 : Nat) : Int), vB (flt .f32 (z 8) (z a))]) := by
  match a, ha with
  | 0, _ => exact le6_f_8_0 z j
  | 1, _ => exact le6_f_8_1 z j
  | 2, _ => exact le6_f_8_2 z j
  | 3, _ => exact le6_f_8_3 z j
  | 4, _ => exact le6_f_8_4 z j
  | 5, _ => exact le6_f_8_5 z j
  | 6, _ => exact le6_f_8_6 z j
  | 7, _ => exact le6_f_8_7 z j
  | 8, _ => exact le6_f_8_8 z j
  | 9, _ => exact le6_f_8_9 z j
  | 10, _ => exact le6_f_8_10 z j
  | 11, _ => exact le6_f_8_11 z j
  | 12, _ => exact le6_f_8_12 z j
  | 13, _ => exact le6_f_8_13 z j
  | 14, _ => exact le6_f_8_14 z j
  | 15, _ => exact le6_f_8_15 z j
  | k + 16, h => exact absurd h (by omega)
theorem le6_f_9_0 (z : Nat → Nat) (j : J) : (regionOf EE le6 (S 55 (lJ false ((0 : Nat) : Int) ((9 : Nat) : Int) j) (H z) true)).map (see sl6) = some (55, H z, true, [vB false, vP, vI ((0 : Nat) : Int), vI ((9 : Nat) : Int), vB (flt .f32 (z 9) (z 0))]) := by kernel_rfl
theorem le6_f_9_1 (z : Nat → Nat) (j : J) : (regionOf EE le6 (S 55 (lJ false ((1 : Nat) : Int) ((9 : Nat) : Int) j) (H z) true)).map (see sl6) = some (55, H z, true, [vB false, vP, vI ((1 : Nat) : Int), vI ((9 : Nat) : Int), vB (flt .f32 (z 9) (z 1))]) := by kernel_rfl
theorem le6_f_9_2 (z : Nat → Nat) (j : J) : (regionOf EE le6 (S 55 (lJ false ((2 : Nat) : Int) ((9 : Nat) : Int) j) (H z) true)).map (see sl6) = some (55, H z, true, [vB false, vP, vI ((2 : Nat) : Int), vI ((9 : Nat) : Int), vB (flt .f32 (z 9) (z 2))]) := by kernel_rfl
theorem le6_f_9_3 (z : Nat → Nat) (j : J) : (regionOf EE le6 (S 55 (lJ false ((3 : Nat) : Int) ((9 : Nat) : Int) j) (H z) true)).map (see sl6) = some (55, H z, true, [vB false, vP, vI ((3 : Nat) : Int), vI ((9 : Nat) : Int), vB (flt .f32 (z 9) (z 3))]) := by kernel_rfl
theorem le6_f_9_4 (z : Nat → Nat) (j : J) : (regionOf EE le6 (S 55 (lJ false ((4 : Nat) : Int) ((9 : Nat) : Int) j) (H z) true)).map (see sl6) = some (55, H z, true, [vB false, vP, vI ((4 : Nat) : Int), vI ((9 : Nat) : Int), vB (flt .f32 (z 9) (z 4))]) := by kernel_rfl
theorem le6_f_9_5 (z : Nat → Nat) (j : J) : (regionOf EE le6 (S 55 (lJ false ((5 : Nat) : Int) ((9 : Nat) : Int) j) (H z) true)).map (see sl6) = some (55, H z, true, [vB false, vP, vI ((5 : Nat) : Int), vI ((9 : Nat) : Int), vB (flt .f32 (z 9) (z 5))]) := by kernel_rfl
theorem le6_f_9_6 (z : Nat → Nat) (j : J) : (regionOf EE le6 (S 55 (lJ false ((6 : Nat) : Int) ((9 : Nat) : Int) j) (H z) true)).map (see sl6) = some (55, H z, true, [vB false, vP, vI ((6 : Nat) : Int), vI ((9 : Nat) : Int), vB (flt .f32 (z 9) (z 6))]) := by kernel_rfl
theorem le6_f_9_7 (z : Nat → Nat) (j : J) : (regionOf EE le6 (S 55 (lJ false ((7 : Nat) : Int) ((9 : Nat) : Int) j) (H z) true)).map (see sl6) = some (55, H z, true, [vB false, vP, vI ((7 : Nat) : Int), vI ((9 : Nat) : Int), vB (flt .f32 (z 9) (z 7))]) := by kernel_rfl
theorem le6_f_9_8 (z : Nat → Nat) (j : J) : (regionOf EE le6 (S 55 (lJ false ((8 : Nat) : Int) ((9 : Nat) : Int) j) (H z) true)).map (see sl6) = some (55, H z, true, [vB false, vP, vI ((8 : Nat) : Int), vI ((9 : Nat) : Int), vB (flt .f32 (z 9) (z 8))]) := by kernel_rfl
theorem le6_f_9_9 (z : Nat → Nat) (j : J) : (regionOf EE le6 (S 55 (lJ false ((9 : Nat) : Int) ((9 : Nat) : Int) j) (H z) true)).map (see sl6) = some (55, H z, true, [vB false, vP, vI ((9 : Nat) : Int), vI ((9 : Nat) : Int), vB (flt .f32 (z 9) (z 9))]) := by kernel_rfl
theorem le6_f_9_10 (z : Nat → Nat) (j : J) : (regionOf EE le6 (S 55 (lJ false ((10 : Nat) : Int) ((9 : Nat) : Int) j) (H z) true)).map (see sl6) = some (55, H z, true, [vB false, vP, vI ((10 : Nat) : Int), vI ((9 : Nat) : Int), vB (flt .f32 (z 9) (z 10))]) := by kernel_rfl
theorem le6_f_9_11 (z : Nat → Nat) (j : J) : (regionOf EE le6 (S 55 (lJ false ((11 : Nat) : Int) ((9 : Nat) : Int) j) (H z) true)).map (see sl6) = some (55, H z, true, [vB false, vP, vI ((11 : Nat) : Int), vI ((9 : Nat) : Int), vB (flt .f32 (z 9) (z 11))]) := by kernel_rfl
theorem le6_f_9_12 (z : Nat → Nat) (j : J) : (regionOf EE le6 (S 55 (lJ false ((12 : Nat) : Int) ((9 : Nat) : Int) j) (H z) true)).map (see sl6) = some (55, H z, true, [vB false, vP, vI ((12 : Nat) : Int), vI ((9 : Nat) : Int), vB (flt .f32 (z 9) (z 12))]) := by kernel_rfl
theorem le6_f_9_13 (z : Nat → Nat) (j : J) : (regionOf EE le6 (S 55 (lJ false ((13 : Nat) : Int) ((9 : Nat) : Int) j) (H z) true)).map (see sl6) = some (55, H z, true, [vB false, vP, vI ((13 : Nat) : Int), vI ((9 : Nat) : Int), vB (flt .f32 (z 9) (z 13))]) := by kernel_rfl
theorem le6_f_9_14 (z : Nat → Nat) (j : J) : (regionOf EE le6 (S 55 (lJ false ((14 : Nat) : Int) ((9 : Nat) : Int) j) (H z) true)).map (see sl6) = some (55, H z, true, [vB false, vP, vI ((14 : Nat) : Int), vI ((9 : Nat) : Int), vB (flt .f32 (z 9) (z 14))]) := by kernel_rfl
theorem le6_f_9_15 (z : Nat → Nat) (j : J) : (regionOf EE le6 (S 55 (lJ false ((15 : Nat) : Int) ((9 : Nat) : Int) j) (H z) true)).map (see sl6) = some (55, H z, true, [vB false, vP, vI ((15 : Nat) : Int), vI ((9 : Nat) : Int), vB (flt .f32 (z 9) (z 15))]) := by kernel_rfl
theorem le6_f_9 (z : Nat → Nat) (j : J) (a : Nat) (ha : a < 16) : (regionOf EE le6 (S 55 (lJ false ((a : Nat) : Int) ((9 : Nat) : Int) j) (H z) true)).map (see sl6) = some (55, H z, true, [vB false, vP, vI ((a : Nat) : Int), vI ((9 : Nat) : Int), vB (flt .f32 (z 9) (z a))]) := by
  match a, ha with
  | 0, _ => exact le6_f_9_0 z j
  | 1, _ => exact le6_f_9_1 z j
  | 2, _ => exact le6_f_9_2 z j
  | 3, _ => exact le6_f_9_3 z j
  | 4, _ => exact le6_f_9_4 z j
  | 5, _ => exact le6_f_9_5 z j
  | 6, _ => exact le6_f_9_6 z j
  | 7, _ => exact le6_f_9_7 z j
  | 8, _ => exact le6_f_9_8 z j
  | 9, _ => exact le6_f_9_9 z j
  | 10, _ => exact le6_f_9_10 z j
  | 11, _ => exact le6_f_9_11 z j
  | 12, _ => exact le6_f_9_12 z j
  | 13, _ => exact le6_f_9_13 z j
  | 14, _ => exact le6_f_9_14 z j
  | 15, _ => exact le6_f_9_15 z j
  | k + 16, h => exact absurd h (by omega)
theorem le6_f_10_0 (z : Nat → Nat) (j : J) : (regionOf EE le6 (S 55 (lJ false ((0 : Nat) : Int) ((10 : Nat) : Int) j) (H z) true)).map (see sl6) = some (55, H z, true, [vB false, vP, vI ((0 : Nat) : Int), vI ((10 : Nat) : Int), vB (flt .f32 (z 10) (z 0))]) := by kernel_rfl
theorem le6_f_10_1 (z : Nat → Nat) (j : J) : (regionOf EE le6 (S 55 (lJ false ((1 : Nat) : Int) ((10 : Nat) : Int) j) (H z) true)).map (see sl6) = some (55, H z, true, [vB false, vP, vI ((1 : Nat) : Int), vI ((10 : Nat) : Int), vB (flt .f32 (z 10) (z 1))]) := by kernel_rfl
theorem le6_f_10_2 (z : Nat → Nat) (j : J) : (regionOf EE le6 (S 55 (lJ false ((2 : Nat) : Int) ((10 : Nat) : Int) j) (H z) true)).map (see sl6) = some (55, H z, true, [vB false, vP, vI ((2 : Nat) : Int), vI ((10 : Nat) : Int), vB (flt .f32 (z 10) (z 2))]) := by kernel_rfl
theorem le6_f_10_3 (z : Nat → Nat) (j : J) : (regionOf EE le6 (S 55 (lJ false ((3 : Nat) : Int) ((10 : Nat) : Int) j) (H z) true)).map (see sl6) = some (55, H z, true, [vB false, vP, vI ((3 : Nat) : Int), vI ((10 : Nat) : Int), vB (flt .f32 (z 10) (z 3))]) := by kernel_rfl
theorem le6_f_10_4 (z : Nat → Nat) (j : J) : (regionOf EE le6 (S 55 (lJ false ((4 : Nat) : Int) ((10 : Nat) : Int) j) (H z) true)).map (see sl6) = some (55, H z, true, [vB false, vP, vI ((4 : Nat) : Int), vI ((10 : Nat) : Int), vB (flt .f32 (z 10) (z 4))]) := by kernel_rfl
theorem le6_f_10_5 (z : Nat → Nat) (j : J) : (regionOf EE le6 (S 55 (lJ false ((5 : Nat) : Int) ((10 : Nat) : Int) j) (H z) true)).map (see sl6) = some (55, H z, true, [vB false, vP, vI ((5 : Nat) : Int), vI ((10 : Nat) : Int), vB (flt .f32 (z 10) (z 5))]) := by kernel_rfl
theorem le6_f_10_6 (z : Nat → Nat) (j : J) : (regionOf EE le6 (S 55 (lJ false ((6 : Nat) : Int) ((10 : Nat) : Int) j) (H z) true)).map (see sl6) = some (55, H z, true, [vB false, vP, vI ((6 : Nat) : Int), vI ((10 : Nat) : Int), vB (flt .f32 (z 10) (z 6))]) := by kernel_rfl
theorem le6_f_10_7 (z : Nat → Nat) (j : J) : (regionOf EE le6 (S 55 (lJ false ((7 : Nat) : Int) ((10 : Nat) : Int) j) (H z) true)).map (see sl6) = some (55, H z, true, [vB false, vP, vI ((7 : Nat) : Int), vI ((10 : Nat) : Int), vB (flt .f32 (z 10) (z 7))]) := by kernel_rfl
theorem le6_f_10_8 (z : Nat → Nat) (j : J) : (regionOf EE le6 (S 55 (lJ false ((8 : Nat) : Int) ((10 : Nat) : Int) j) (H z) true)).map (see sl6) = some (55, H z, true, [vB false, vP, vI ((8 : Nat) : Int), vI ((10 : Nat) : Int), vB (flt .f32 (z 10) (z 8))]) := by kernel_rfl
theorem le6_f_10_9 (z : Nat → Nat) (j : J) : (regionOf EE le6 (S 55 (lJ false ((9 : Nat) : Int) ((10 : Nat) : Int) j) (H z) true)).map (see sl6) = some (55, H z, true, [vB false, vP, vI ((9 : Nat) : Int), vI ((10 : Nat) : Int), vB (flt .f32 (z 10) (z 9))]) := by kernel_rfl
theorem le6_f_10_10 (z : Nat → Nat) (j : J) : (regionOf EE le6 (S 55 (lJ false ((10 : Nat) : Int) ((10 : Nat) : Int) j) (H z) true)).map (see sl6) = some (55, H z, true, [vB false, vP, vI ((10 : Nat) : Int), vI ((10 : Nat) : Int), vB (flt .f32 (z 10) (z 10))]) := by kernel_rfl
theorem le6_f_10_11 (z : Nat → Nat) (j : J) : (regionOf EE le6 (S 55 (lJ false ((11 : Nat) : Int) ((10 : Nat) : Int) j) (H z) true)).map (see sl6) = some (55, H z, true, [vB false, vP, vI ((11 : Nat) : Int), vI ((10 : Nat) : Int), vB (flt .f32 (z 10) (z 11))]) := by kernel_rfl
theorem le6_f_10_12 (z : Nat → Nat) (j : J) : (regionOf EE le6 (S 55 (lJ false ((12 : Nat) : Int) ((10 : Nat) : Int) j) (H z) true)).map (see sl6) = some (55, H z, true, [vB false, vP, vI ((12 : Nat) : Int), vI ((10 : Nat) : Int), vB (flt .f32 (z 10) (z 12))]) := by kernel_rfl
theorem le6_f_10_13 (z : Nat → Nat) (j : J) : (regionOf EE le6 (S 55 (lJ false ((13 : Nat) : Int) ((10 : Nat) : Int) j) (H z) true)).map (see sl6) = some (55, H z, true, [vB false, vP, vI ((13 : Nat) : Int), vI ((10 : Nat) : Int), vB (flt .f32 (z 10) (z 13))]) := by kernel_rfl
theorem le6_f_10_14 (z : Nat → Nat) (j : J) : (regionOf EE le6 (S 55 (lJ false ((14 : Nat) : Int) ((10 : Nat) : Int) j) (H z) true)).map (see sl6) = some (55, H z, true, [vB false, vP, vI ((14 : Nat) : Int), vI ((10 : Nat) : Int), vB (flt .f32 (z 10) (z 14))]) := by kernel_rfl
theorem le6_f_10_15 (z : Nat → Nat) (j : J) : (regionOf EE le6 (S 55 (lJ false ((15 : Nat) : Int) ((10 : Nat) : Int) j) (H z) true)).map (see sl6) = some (55, H z, true, [vB false, vP, vI ((15 : Nat) : Int), vI ((10 : Nat) : Int), vB (flt .f32 (z 10) (z 15))]) := by kernel_rfl
theorem le6_f_10 (z : Nat → Nat) (j : J) (a : Nat) (ha : a < 16) : (regionOf EE le6 (S 55 (lJ false ((a : Nat) : Int) ((10 : Nat) : Int) j) (H z) true)).map (see sl6) = some (55, H z, true, [vB false, vP, vI ((a : Nat) : Int), vI ((10 : Nat) : Int), vB (flt .f32 (z 10) (z a))]) := by
  match a, ha with
  | 0, _ => exact le6_f_10_0 z j
  | 1, _ => exact le6_f_10_1 z j
  | 2, _ => exact le6_f_10_2 z j
  | 3, _ => exact le6_f_10_3 z j
  | 4, _ => exact le6_f_10_4 z j
  | 5, _ => exact le6_f_10_5 z j
  | 6, _ => exact le6_f_10_6 z j
  | 7, _ => exact le6_f_10_7 z j
  | 8, _ => exact le6_f_10_8 z j
  | 9, _ => exact le6_f_10_9 z j
  | 10, _ => exact le6_f_10_10 z j
  | 11, _ => exact le6_f_10_11 z j
  | 12, _ => exact le6_f_10_12 z j
  | 13, _ => exact le6_f_10_13 z j
  | 14, _ => exact le6_f_10_14 z j
  | 15, _ => exact le6_f_10_15 z j
  | k + 16, h => exact absurd h (by omega)
theorem le6_f_11_0 (z : Nat → Nat) (j : J) : (regionOf EE le6 (S 55 (lJ false ((0 : Nat) : Int) ((11 : Nat) : Int) j) (H z) true)).map (see sl6) = some (55, H z, true, [vB false, vP, vI ((0 : Nat) : Int), vI ((11 : Nat) : Int), vB (flt .f32 (z 11) (z 0))]) := by kernel_rfl
theorem le6_f_11_1 (z : Nat → Nat) (j : J) : (regionOf EE le6 (S 55 (lJ false ((1 : Nat) : Int) ((11 : Nat) : Int) j) (H z) true)).map (see sl6) = some (55, H z, true, [vB false, vP, vI ((1 : Nat) : Int), vI ((11 : Nat) : Int), vB (flt .f32 (z 11) (z 1))]) := by kernel_rfl
theorem le6_f_11_2 (z : Nat → Nat) (j : J) : (regionOf EE le6 (S 55 (lJ false ((2 : Nat) : Int) ((11 : Nat) : Int) j) (H z) true)).map (see sl6) = some (55, H z, true, [vB false, vP, vI ((2 : Nat) : Int), vI ((11 : Nat) : Int), vB (flt .f32 (z 11) (z 2))]) := by kernel_rfl
theorem le6_f_11_3 (z : Nat → Nat) (j : J) : (regionOf EE le6 (S 55 (lJ false ((3 : Nat) : Int) ((11 : Nat) : Int) j) (H z) true)).map (see sl6) = some (55, H z, true, [vB false, vP, vI ((3 : Nat) : Int), vI ((11 : Nat) : Int), vB (flt .f32 (z 11) (z 3))]) := by kernel_rfl
theorem le6_f_11_4 (z : Nat → Nat) (j : J) : (regionOf EE le6 (S 55 (lJ false ((4 : Nat) : Int) ((11 : Nat) : Int) j) (H z) true)).map (see sl6) = some (55, H z, true, [vB false, vP, vI ((4 : Nat) : Int), vI ((11 : Nat) : Int), vB (flt .f32 (z 11) (z 4))]) := by kernel_rfl
theorem le6_f_11_5 (z : Nat → Nat) (j : J) : (regionOf EE le6 (S 55 (lJ false ((5 : Nat) : Int) ((11 : Nat) : Int) j) (H z) true)).map (see sl6) = some (55, H z, true, [vB false, vP, vI ((5 : Nat) : Int), vI ((11 : Nat) : Int), vB (flt .f32 (z 11) (z 5))]) := by kernel_rfl
theorem le6_f_11_6 (z : Nat → Nat) (j : J) : (regionOf EE le6 (S 55 (lJ false ((6 : Nat) : Int) ((11 : Nat) : Int) j) (H z) true)).map (see sl6) = some (55, H z, true, [vB false, vP, vI ((6 : Nat) : Int), vI ((11 : Nat) : Int), vB (flt .f32 (z 11) (z 6))]) := by kernel_rfl
theorem le6_f_11_7 (z : Nat → Nat) (j : J) : (regionOf EE le6 (S 55 (lJ false ((7 : Nat) : Int) ((11 : Nat) : Int) j) (H z) true)).map (see sl6) = some (55, H z, true, [vB false, vP, vI ((7 : Nat) : Int), vI ((11 : Nat) : Int), vB (flt .f32 (z 11) (z 7))]) := by kernel_rfl
theorem le6_f_11_8 (z : Nat → Nat) (j : J) : (regionOf EE le6 (S 55 (lJ false ((8 : Nat) : Int) ((11 : Nat) : Int) j) (H z) true)).map (see sl6) = some (55, H z, true, [vB false, vP, vI ((8 : Nat) : Int), vI ((11 : Nat) : Int), vB (flt .f32 (z 11) (z 8))]) := by kernel_rfl
theorem le6_f_11_9 (z : Nat → Nat) (j : J) : (regionOf EE le6 (S 55 (lJ false ((9 : Nat) : Int) ((11 : Nat) : Int) j) (H z) true)).map (see sl6) = some (55, H z, true, [vB false, vP, vI ((9 : Nat) : Int), vI ((11 : Nat) : Int), vB (flt .f32 (z 11) (z 9))]) := by kernel_rfl
theorem le6_f_11_10 (z : Nat → Nat) (j : J) : (regionOf EE le6 (S 55 (lJ false ((10 : Nat) : Int) ((11 : Nat) : Int) j) (H z) true)).map (see sl6) = some (55, H z, true, [vB false, vP, vI ((10 : Nat) : Int), vI ((11 : Nat) : Int), vB (flt .f32 (z 11) (z 10))]) := by kernel_rfl
theorem le6_f_11_11 (z : Nat → Nat) (j : J) : (regionOf EE le6 (S 55 (lJ false ((11 : Nat) : Int) ((11 : Nat) : Int) j) (H z) true)).map (see sl6) = some (55, H z, true, [vB false, vP, vI ((11 : Nat) : Int), vI ((11 : Nat) : Int), vB (flt .f32 (z 11) (z 11))]) := by kernel_rfl
theorem le6_f_11_12 (z : Nat → Nat) (j : J) : (regionOf EE le6 (S 55 (lJ false ((12 : Nat) : Int) ((11 : Nat) : Int) j) (H z) true)).map (see sl6) = some (55, H z, true, [vB false, vP, vI ((12 : Nat) : Int), vI ((11 : Nat) : Int), vB (flt .f32 (z 11) (z 12))]) := by kernel_rfl
theorem le6_f_11_13 (z : Nat → Nat) (j : J) : (regionOf EE le6 (S 55 (lJ false ((13 : Nat) : Int) ((11 : Nat) : Int) j) (H z) true)).map (see sl6) = some (55, H z, true, [vB false, vP, vI ((13 : Nat) : Int), vI ((11 : Nat) : Int), vB (flt .f32 (z 11) (z 13))]) := by kernel_rfl
theorem le6_f_11_14 (z : Nat → Nat) (j : J) : (regionOf EE le6 (S 55 (lJ false ((14 : Nat) : Int) ((11 : Nat) : Int) j) (H z) true)).map (see sl6) = some (55, H z, true, [vB false, vP, vI ((14 : Nat) : Int), vI ((11 : Nat) : Int), vB (flt .f32 (z 11) (z 14))]) := by kernel_rfl
theorem le6_f_11_15 (z : Nat → Nat) (j : J) : (regionOf EE le6 (S 55 (lJ false ((15 : Nat) : Int) ((11 : Nat) : Int) j) (H z) true)).map (see sl6) = some (55, H z, true, [vB false, vP, vI ((15 : Nat) : Int), vI ((11 : Nat) : Int), vB (flt .f32 (z 11) (z 15))]) := by kernel_rfl
theorem le6_f_11 (z : Nat → Nat) (j : J) (a : Nat) (ha : a < 16) : (regionOf EE le6 (S 55 (lJ false ((a : Nat) : Int) ((11 : Nat) : Int) j) (H z) true)).map (see sl6) = some (55, H z, true, [vB false, vP, vI ((a : Nat) : Int), vI ((11 : Nat) : Int), vB (flt .f32 (z 11) (z a))]) := by
  match a, ha with
  | 0, _ => exact le6_f_11_0 z j
  | 1, _ => exact le6_f_11_1 z j
  | 2, _ => exact le6_f_11_2 z j
  | 3, _ => exact le6_f_11_3 z j
  | 4, _ => exact le6_f_11_4 z j
  | 5, _ => exact le6_f_11_5 z j
  | 6, _ => exact le6_f_11_6 z j
  | 7, _ => exact le6_f_11_7 z j
  | 8, _ => exact le6_f_11_8 z j
  | 9, _ => exact le6_f_11_9 z j
  | 10, _ => exact le6_f_11_10 z j
  | 11, _ => exact le6_f_11_11 z j
  | 12, _ => exact le6_f_11_12 z j
  | 13, _ => exact le6_f_11_13 z j
  | 14, _ => exact le6_f_11_14 z j
  | 15, _ => exact le6_f_11_15 z j
  | k + 16, h => exact absurd h (by omega)
theorem le6_f_12_0 (z : Nat → Nat) (j : J) : (regionOf EE le6 (S 55 (lJ false ((0 : Nat) : Int) ((12 : Nat) : Int) j) (H z) true)).map (see sl6) = some (55, H z, true, [vB false, vP, vI ((0 : Nat) : Int), vI ((12 : Nat) : Int), vB (flt .f32 (z 12) (z 0))]) := by kernel_rfl
theorem le6_f_12_1 (z : Nat → Nat) (j : J) : (regionOf EE le6 (S 55 (lJ false ((1 : Nat) : Int) ((12 : Nat) : Int) j) (H z) true)).map (see sl6) = some (55, H z, true, [vB false, vP, vI ((1 : Nat) : Int), vI ((12 : Nat) : Int), vB (flt .f32 (z 12) (z 1))]) := by kernel_rfl
theorem le6_f_12_2 (z : Nat → Nat) (j : J) : (regionOf EE le6 (S 55 (lJ false ((2 : Nat) : Int) ((12 : Nat) : Int) j) (H z) true)).map (see sl6) = some (55, H z, true, [vB false, vP, vI ((2 : Nat) : Int), vI ((12 : Nat) : Int), vB (flt .f32 (z 12) (z 2))]) := by kernel_rfl
theorem le6_f_12_3 (z : Nat → Nat) (j : J) : (regionOf EE le6 (S 55 (lJ false ((3 : Nat) : Int) ((12 : Nat) : Int) j) (H z) true)).map (see sl6) = some (55, H z, true, [vB false, vP, vI ((3 : Nat) : Int), vI ((12 : Nat) : Int), vB (flt .f32 (z 12) (z 3))]) := by kernel_rfl
theorem le6_f_12_4 (z : Nat → Nat) (j : J) : (regionOf EE le6 (S 55 (lJ false ((4 : Nat) : Int) ((12 : Nat) : Int) j) (H z) true)).map (see sl6) = some (55, H z, true, [vB false, vP, vI ((4 : Nat) : Int), vI ((12 : Nat) : Int), vB (flt .f32 (z 12) (z 4))]) := by kernel_rfl
theorem le6_f_12_5 (z : Nat → Nat) (j : J) : (regionOf EE le6 (S 55 (lJ false ((5 : Nat) : Int) ((12 : Nat) : Int) j) (H z) true)).map (see sl6) = some (55, H z, true, [vB false, vP, vI ((5 : Nat) : Int), vI ((12 : Nat) : Int), vB (flt .f32 (z 12) (z 5))]) := by kernel_rfl
theorem le6_f_12_6 (z : Nat → Nat) (j : J) : (regionOf EE le6 (S 55 (lJ false ((6 : Nat) : Int) ((12 : Nat) : Int) j) (H z) true)).map (see sl6) = some (55, H z, true, [vB false, vP, vI ((6 : Nat) : Int), vI ((12 : Nat) : Int), vB (flt .f32 (z 12) (z 6))]) := by kernel_rfl
theorem le6_f_12_7 (z : Nat → Nat) (j : J) : (regionOf EE le6 (S 55 (lJ false ((7 : Nat) : Int) ((12 : Nat) : Int) j) (H z) true)).map (see sl6) = some (55, H z, true, [vB false, vP, vI ((7 : Nat) : Int), vI ((12 : Nat) : Int), vB (flt .f32 (z 12) (z 7))]) := by kernel_rfl
theorem le6_f_12_8 (z : Nat → Nat) (j : J) : (regionOf EE le6 (S 55 (lJ false ((8 : Nat) : Int) ((12 : Nat) : Int) j) (H z) true)).map (see sl6) = some (55, H z, true, [vB false, vP, vI ((8 : Nat) : Int), vI ((12 : Nat) : Int), vB (flt .f32 (z 12) (z 8))]) := by kernel_rfl
theorem le6_f_12_9 (z : Nat → Nat) (j : J) : (regionOf EE le6 (S 55 (lJ false ((9 : Nat) : Int) ((12 : Nat) : Int) j) (H z) true)).map (see sl6) = some (55, H z, true, [vB false, vP, vI ((9 : Nat) : Int), vI ((12 : Nat) : Int), vB (flt .f32 (z 12) (z 9))]) := by kernel_rfl
theorem le6_f_12_10 (z : Nat → Nat) (j : J) : (regionOf EE le6 (S 55 (lJ false ((10 : Nat) : Int) ((12 : Nat) : Int) j) (H z) true)).map (see sl6) = some (55, H z, true, [vB false, vP, vI ((10 : Nat) : Int), vI ((12 : Nat) : Int), vB (flt .f32 (z 12) (z 10))]) := by kernel_rfl
theorem le6_f_12_11 (z : Nat → Nat) (j : J) : (regionOf EE le6 (S 55 (lJ false ((11 : Nat) : Int) ((12 : Nat) : Int) j) (H z) true)).map (see sl6) = some (55, H z, true, [vB false, vP, vI ((11 : Nat) : Int), vI ((12 : Nat) : Int), vB (flt .f32 (z 12) (z 11))]) := by kernel_rfl
theorem le6_f_12_12 (z : Nat → Nat) (j : J) : (regionOf EE le6 (S 55 (lJ false ((12 : Nat) : Int) ((12 : Nat) : Int) j) (H z) true)).map (see sl6) = some (55, H z, true, [vB false, vP, vI ((12 : Nat) : Int), vI ((12 : Nat) : Int), vB (flt .f32 (z 12) (z 12))]) := by kernel_rfl
theorem le6_f_12_13 (z : Nat → Nat) (j : J) : (regionOf EE le6 (S 55 (lJ false ((13 : Nat) : Int) ((12 : Nat) : Int) j) (H z) true)).map (see sl6) = some (55, H z, true, [vB false, vP, vI ((13 : Nat) : Int), vI ((12 : Nat) : Int), vB (flt .f32 (z 12) (z 13))]) := by kernel_rfl
theorem le6_f_12_14 (z : Nat → Nat) (j : J) : (regionOf EE le6 (S 55 (lJ false ((14 : Nat) : Int) ((12 : Nat) : Int) j) (H z) true)).map (see sl6) = some (55, H z, true, [vB false, vP, vI ((14 : Nat) : Int), vI ((12 : Nat) : Int), vB (flt .f32 (z 12) (z 14))]) := by kernel_rfl
theorem le6_f_12_15 (z : Nat → Nat) (j : J) : (regionOf EE le6 (S 55 (lJ false ((15 : Nat) : Int) ((12 : Nat) : Int) j) (H z) true)).map (see sl6) = some (55, H z, true, [vB false, vP, vI ((15 : Nat) : Int), vI ((12 : Nat) : Int), vB (flt .f32 (z 12) (z 15))]) := by kernel_rfl
theorem le6_f_12 (z : Nat → Nat) (j : J) (a : Nat) (ha : a < 16) : (regionOf EE le6 (S 55 (lJ false ((a : Nat) : Int) ((12 : Nat) : Int) j) (H z) true)).map (see sl6) = some (55, H z, true, [vB false, vP, vI ((a : Nat) : Int), vI ((12 : Nat) : Int), vB (flt .f32 (z 12) (z a))]) := by
  match a, ha with
  | 0, _ => exact le6_f_12_0 z j
  | 1, _ => exact le6_f_12_1 z j
  | 2, _ => exact le6_f_12_2 z j
  | 3, _ => exact le6_f_12_3 z j
  | 4, _ => exact le6_f_12_4 z j
  | 5, _ => exact le6_f_12_5 z j
  | 6, _ => exact le6_f_12_6 z j
  | 7, _ => exact le6_f_12_7 z j
  | 8, _ => exact le6_f_12_8 z j
  | 9, _ => exact le6_f_12_9 z j
  | 10, _ => exact le6_f_12_10 z j
  | 11, _ => exact le6_f_12_11 z j
  | 12, _ => exact le6_f_12_12 z j
  | 13, _ => exact le6_f_12_13 z j
  | 14, _ => exact le6_f_12_14 z j
  | 15, _ => exact le6_f_12_15 z j
  | k + 16, h => exact absurd h (by omega)
theorem le6_f_13_0 (z : Nat → Nat) (j : J) : (regionOf EE le6 (S 55 (lJ false ((0 : Nat) : Int) ((13 : Nat) : Int) j) (H z) true)).map (see sl6) = some (55, H z, true, [vB false, vP, vI ((0 : Nat) : Int), vI ((13 : Nat) : Int), vB (flt .f32 (z 13) (z 0))]) := by kernel_rfl
theorem le6_f_13_1 (z : Nat → Nat) (j : J) : (regionOf EE le6 (S 55 (lJ false ((1 : Nat) : Int) ((13 : Nat) : Int) j) (H z) true)).map (see sl6) = some (55, H z, true, [vB false, vP, vI ((1 : Nat) : Int), vI ((13 : Nat) : Int), vB (flt .f32 (z 13) (z 1))]) := by kernel_rfl
theorem le6_f_13_2 (z : Nat → Nat) (j : J) : (regionOf EE le6 (S 55 (lJ false ((2 : Nat) : Int) ((13 : Nat) : Int) j) (H z) true)).map (see sl6) = some (55, H z, true, [vB false, vP, vI ((2 : Nat) : Int), vI ((13 : Nat) : Int), vB (flt .f32 (z 13) (z 2))]) := by kernel_rfl
theorem le6_f_13_3 (z : Nat → Nat) (j : J) : (regionOf EE le6 (S 55 (lJ false ((3 : Nat) : Int) ((13 : Nat) : Int) j) (H z) true)).map (see sl6) = some (55, H z, true, [vB false, vP, vI ((3 : Nat) : Int), vI ((13 : Nat) : Int), vB (flt .f32 (z 13) (z 3))]) := by kernel_rfl
theorem le6_f_13_4 (z : Nat → Nat) (j : J) : (regionOf EE le6 (S 55 (lJ false ((4 : Nat) : Int) ((13 : Nat) : Int) j) (H z) true)).map (see sl6) = some (55, H z, true, [vB false, vP, vI ((4 : Nat) : Int), vI ((13 : Nat) : Int), vB (flt .f32 (z 13) (z 4))]) := by kernel_rfl
theorem le6_f_13_5 (z : Nat → Nat) (j : J) : (regionOf EE le6 (S 55 (lJ false ((5 : Nat) : Int) ((13 : Nat) : Int) j) (H z) true)).map (see sl6) = some (55, H z, true, [vB false, vP, vI ((5 : Nat) : Int), vI ((13 : Nat) : Int), vB (flt .f32 (z 13) (z 5))]) := by kernel_rfl
theorem le6_f_13_6 (z : Nat → Nat) (j : J) : (regionOf EE le6 (S 55 (lJ false ((6 : Nat) : Int) ((13 : Nat) : Int) j) (H z) true)).map (see sl6) = some (55, H z, true, [vB false, vP, vI ((6 : Nat) : Int), vI ((13 : Nat) : Int), vB (flt .f32 (z 13) (z 6))]) := by kernel_rfl
theorem le6_f_13_7 (z : Nat → Nat) (j : J) : (regionOf EE le6 (S 55 (lJ false ((7 : Nat) : Int) ((13 : Nat) : Int) j) (H z) true)).map (see sl6) = some (55, H z, true, [vB false, vP, vI ((7 : Nat) : Int), vI ((13 : Nat) : Int), vB (flt .f32 (z 13) (z 7))]) := by kernel_rfl
theorem le6_f_13_8 (z : Nat → Nat) (j : J) : (regionOf EE le6 (S 55 (lJ false ((8 : Nat) : Int) ((13 : Nat) : Int) j) (H z) true)).map (see sl6) = some (55, H z, true, [vB false, vP, vI ((8 : Nat) : Int), vI ((13 : Nat) : Int), vB (flt .f32 (z 13) (z 8))]) := by kernel_rfl
theorem le6_f_13_9 (z : Nat → Nat) (j : J) : (regionOf EE le6 (S 55 (lJ false ((9 : Nat) : Int) ((13 : Nat) : Int) j) (H z) true)).map (see sl6) = some (55, H z, true, [vB false, vP, vI ((9 : Nat) : Int), vI ((13 : Nat) : Int), vB (flt .f32 (z 13) (z 9))]) := by kernel_rfl
theorem le6_f_13_10 (z : Nat → Nat) (j : J) : (regionOf EE le6 (S 55 (lJ false ((10 : Nat) : Int) ((13 : Nat) : Int) j) (H z) true)).map (see sl6) = some (55, H z, true, [vB false, vP, vI ((10 : Nat) : Int), vI ((13 : Nat) : Int), vB (flt .f32 (z 13) (z 10))]) := by kernel_rfl
theorem le6_f_13_11 (z : Nat → Nat) (j : J) : (regionOf EE le6 (S 55 (lJ false ((11 : Nat) : Int) ((13 : Nat) : Int) j) (H z) true)).map (see sl6) = some (55, H z, true, [vB false, vP, vI ((11 : Nat) : Int), vI ((13 : Nat) : Int), vB (flt .f32 (z 13) (z 11))]) := by kernel_rfl
theorem le6_f_13_12 (z : Nat → Nat) (j : J) : (regionOf EE le6 (S 55 (lJ false ((12 : Nat) : Int) ((13 : Nat) : Int) j) (H z) true)).map (see sl6) = some (55, H z, true, [vB false, vP, vI ((12 : Nat) : Int), vI ((13 : Nat) : Int), vB (flt .f32 (z 13) (z 12))]) := by kernel_rfl
theorem le6_f_13_13 (z : Nat → Nat) (j : J) : (regionOf EE le6 (S 55 (lJ false ((13 : Nat) : Int) ((13 : Nat) : Int) j) (H z) true)).map (see sl6) = some (55, H z, true, [vB false, vP, vI ((13 : Nat) : Int), vI ((13 : Nat) : Int), vB (flt .f32 (z 13) (z 13))]) := by kernel_rfl
theorem le6_f_13_14 (z : Nat → Nat) (j : J) : (regionOf EE le6 (S 55 (lJ false ((14 : Nat) : Int) ((13 : Nat) : Int) j) (H z) true)).map (see sl6) = some (55, H z, true, [vB false, vP, vI ((14 : Nat) : Int), vI ((13 : Nat) : Int), vB (flt .f32 (z 13) (z 14))]) := by kernel_rfl
theorem le6_f_13_15 (z : Nat → Nat) (j : J) : (regionOf EE le6 (S 55 (lJ false ((15 : Nat) : Int) ((13 : Nat) : Int) j) (H z) true)).map (see sl6) = some (55, H z, true, [vB false, vP, vI ((15 : Nat) : Int), vI ((13 : Nat) : Int), vB (flt .f32 (z 13) (z 15))]) := by kernel_rfl
theorem le6_f_13 (z : Nat → Nat) (j : J) (a : Nat) (ha : a < 16) : (regionOf EE le6 (S 55 (lJ false ((a : Nat) : Int) ((13 : Nat) : Int) j) (H z) true)).map (see sl6) = some (55, H z, true, [vB false, vP, vI ((a : Nat) : Int), vI ((13 : Nat) : Int), vB (flt .f32 (z 13) (z a))]) := by
  match a, ha with
  | 0, _ => exact le6_f_13_0 z j
  | 1, _ => exact le6_f_13_1 z j
  | 2, _ => exact le6_f_13_2 z j
  | 3, _ => exact le6_f_13_3 z j
  | 4, _ => exact le6_f_13_4 z j
  | 5, _ => exact le6_f_13_5 z j
  | 6, _ => exact le6_f_13_6 z j
  | 7, _ => exact le6_f_13_7 z j
  | 8, _ => exact le6_f_13_8 z j
  | 9, _ => exact le6_f_13_9 z j
  | 10, _ => exact le6_f_13_10 z j
  | 11, _ => exact le6_f_13_11 z j
  | 12, _ => exact le6_f_13_12 z j
  | 13, _ => exact le6_f_13_13 z j
  | 14, _ => exact le6_f_13_14 z j
  | 15, _ => exact le6_f_13_15 z j
  | k + 16, h => exact absurd h (by omega)
theorem le6_f_14_0 (z : Nat → Nat) (j : J) : (regionOf EE le6 (S 55 (lJ false ((0 : Nat) : Int) ((14 : Nat) : Int) j) (H z) true)).map (see sl6) = some (55, H z, true, [vB false, vP, vI ((0 : Nat) : Int), vI ((14 : Nat) : Int), vB (flt .f32 (z 14) (z 0))]) := by kernel_rfl
theorem le6_f_14_1 (z : Nat → Nat) (j : J) : (regionOf EE le6 (S 55 (lJ false ((1 : Nat) : Int) ((14 : Nat) : Int) j) (H z) true)).map (see sl6) = some (55, H z, true, [vB false, vP, vI ((1 : Nat) : Int), vI ((14 : Nat) : Int), vB (flt .f32 (z 14) (z 1))]) := by kernel_rfl
theorem le6_f_14_2 (z : Nat → Nat) (j : J) : (regionOf EE le6 (S 55 (lJ false ((2 : Nat) : Int) ((14 : Nat) : Int) j) (H z) true)).map (see sl6) = some (55, H z, true, [vB false, vP, vI ((2 : Nat) : Int), vI ((14 : Nat) : Int), vB (flt .f32 (z 14) (z 2))]) := by kernel_rfl
theorem le6_f_14_3 (z : Nat → Nat) (j : J) : (regionOf EE le6 (S 55 (lJ false ((3 : Nat) : Int) ((14 : Nat) : Int) j) (H z) true)).map (see sl6) = some (55, H z, true, [vB false, vP, vI ((3 : Nat) : Int), vI ((14 : Nat) : Int), vB (flt .f32 (z 14) (z 3))]) := by kernel_rfl
theorem le6_f_14_4 (z : Nat → Nat) (j : J) : (regionOf EE le6 (S 55 (lJ false ((4 : Nat) : Int) ((14 : Nat) : Int) j) (H z) true)).map (see sl6) = some (55, H z, true, [vB false, vP, vI ((4 : Nat) : Int), vI ((14 : Nat) : Int), vB (flt .f32 (z 14) (z 4))]) := by kernel_rfl
theorem le6_f_14_5 (z : Nat → Nat) (j : J) : (regionOf EE le6 (S 55 (lJ false ((5 : Nat) : Int) ((14 : Nat) : Int) j) (H z) true)).map (see sl6) = some (55, H z, true, [vB false, vP, vI ((5 : Nat) : Int), vI ((14 : Nat) : Int), vB (flt .f32 (z 14) (z 5))]) := by kernel_rfl
theorem le6_f_14_6 (z : Nat → Nat) (j : J) : (regionOf EE le6 (S 55 (lJ false ((6 : Nat) : Int) ((14 : Nat) : Int) j) (H z) true)).map (see sl6) = some (55, H z, true, [vB false, vP, vI ((6 : Nat) : Int), vI ((14 : Nat) : Int), vB (flt .f32 (z 14) (z 6))]) := by kernel_rfl
theorem le6_f_14_7 (z : Nat → Nat) (j : J) : (regionOf EE le6 (S 55 (lJ false ((7 : Nat) : Int) ((14 : Nat) : Int) j) (H z) true)).map (see sl6) = some (55, H z, true, [vB false, vP, vI ((7 : Nat) : Int), vI ((14 : Nat) : Int), vB (flt .f32 (z 14) (z 7))]) := by kernel_rfl
theorem le6_f_14_8 (z : Nat → Nat) (j : J) : (regionOf EE le6 (S 55 (lJ false ((8 : Nat) : Int) ((14 : Nat) : Int) j) (H z) true)).map (see sl6) = some (55, H z, true, [vB false, vP, vI ((8 : Nat) : Int), vI ((14 : Nat) : Int), vB (flt .f32 (z 14) (z 8))]) := by kernel_rfl
theorem le6_f_14_9 (z : Nat → Nat) (j : J) : (regionOf EE le6 (S 55 (lJ false ((9 : Nat) : Int) ((14 : Nat) : Int) j) (H z) true)).map (see sl6) = some (55, H z, true, [vB false, vP, vI ((9 : Nat) : Int), vI ((14 : Nat) : Int), vB (flt .f32 (z 14) (z 9))]) := by kernel_rfl
theorem le6_f_14_10 (z : Nat → Nat) (j : J) : (regionOf EE le6 (S 55 (lJ false ((10 : Nat) : Int) ((14 : Nat) : Int) j) (H z) true)).map (see sl6) = some (55, H z, true, [vB false, vP, vI ((10 : Nat) : Int), vI ((14 : Nat) : Int), vB (flt .f32 (z 14) (z 10))]) := by kernel_rfl
theorem le6_f_14_11 (z : Nat → Nat) (j : J) : (regionOf EE le6 (S 55 (lJ false ((11 : Nat) : Int) ((14 : Nat) : Int) j) (H z) true)).map (see sl6) = some (55, H z, true, [vB false, vP, vI ((11 : Nat) : Int), vI ((14 : Nat) : Int), vB (flt .f32 (z 14) (z 11))]) := by kernel_rfl
theorem le6_f_14_12 (z : Nat → Nat) (j : J) : (regionOf EE le6 (S 55 (lJ false ((12 : Nat) : Int) ((14 : Nat) : Int) j) (H z) true)).map (see sl6) = some (55, H z, true, [vB false, vP, vI ((12 : Nat) : Int), vI ((14 : Nat) : Int), vB (flt .f32 (z 14) (z 12))]) := by kernel_rfl
theorem le6_f_14_13 (z : Nat → Nat) (j : J) : (regionOf EE le6 (S 55 (lJ false ((13 : Nat) : Int) ((14 : Nat) : Int) j) (H z) true)).map (see sl6) = some (55, H z, true, [vB false, vP, vI ((13 : Nat) : Int), vI ((14 : Nat) : Int), vB (flt .f32 (z 14) (z 13))]) := by kernel_rfl
theorem le6_f_14_14 (z : Nat → Nat) (j : J) : (regionOf EE le6 (S 55 (lJ false ((14 : Nat) : Int) ((14 : Nat) : Int) j) (H z) true)).map (see sl6) = some (55, H z, true, [vB false, vP, vI ((14 : Nat) : Int), vI ((14 : Nat) : Int), vB (flt .f32 (z 14) (z 14))]) := by kernel_rfl
theorem le6_f_14_15 (z : Nat → Nat) (j : J) : (regionOf EE le6 (S 55 (lJ false ((15 : Nat) : Int) ((14 : Nat) : Int) j) (H z) true)).map (see sl6) = some (55, H z, true, [vB false, vP, vI ((15 : Nat) : Int), vI ((14 : Nat) : Int), vB (flt .f32 (z 14) (z 15))]) := by kernel_rfl
theorem le6_f_14 (z : Nat → Nat) (j : J) (a : Nat) (ha : a < 16) : (regionOf EE le6 (S 55 (lJ false ((a : Nat) : Int) ((14 : Nat) : Int) j) (H z) true)).map (see sl6) = some (55, H z, true, [vB false, vP, vI ((a : Nat) : Int), vI ((14 : Nat) : Int), vB (flt .f32 (z 14) (z a))]) := by
  match a, ha with
  | 0, _ => exact le6_f_14_0 z j
  | 1, _ => exact le6_f_14_1 z j
  | 2, _ => exact le6_f_14_2 z j
  | 3, _ => exact le6_f_14_3 z j
  | 4, _ => exact le6_f_14_4 z j
  | 5, _ => exact le6_f_14_5 z j
  | 6, _ => exact le6_f_14_6 z j
  | 7, _ => exact le6_f_14_7 z j
  | 8, _ => exact le6_f_14_8 z j
  | 9, _ => exact le6_f_14_9 z j
  | 10, _ => exact le6_f_14_10 z j
  | 11, _ => exact le6_f_14_11 z j
  | 12, _ => exact le6_f_14_12 z j
  | 13, _ => exact le6_f_14_13 z j
  | 14, _ => exact le6_f_14_14 z j
  | 15, _ => exact le6_f_14_15 z j
  | k + 16, h => exact absurd h (by omega)
theorem le6_f_15_0 (z : Nat → Nat) (j : J) : (regionOf EE le6 (S 55 (lJ false ((0 : Nat) : Int) ((15 : Nat) : Int) j) (H z) true)).map (see sl6) = some (55, H z, true, [vB false, vP, vI ((0 : Nat) : Int), vI ((15 : Nat) : Int), vB (flt .f32 (z 15) (z 0))]) := by kernel_rfl
theorem le6_f_15_1 (z : Nat → Nat) (j : J) : (regionOf EE le6 (S 55 (lJ false ((1 : Nat) : Int) ((15 : Nat) : Int) j) (H z) true)).map (see sl6) = some (55, H z, true, [vB false, vP, vI ((1 : Nat) : Int), vI ((15 : Nat) : Int), vB (flt .f32 (z 15) (z 1))]) := by kernel_rfl
theorem le6_f_15_2 (z : Nat → Nat) (j : J) : (regionOf EE le6 (S 55 (lJ false ((2 : Nat) : Int) ((15 : Nat) : Int) j) (H z) true)).map (see sl6) = some (55, H z, true, [vB false, vP, vI ((2 : Nat) : Int), vI ((15 : Nat) : Int), vB (flt .f32 (z 15) (z 2))]) := by kernel_rfl
theorem le6_f_15_3 (z : Nat → Nat) (j : J) : (regionOf EE le6 (S 55 (lJ false ((3 : Nat) : Int) ((15 : Nat) : Int) j) (H z) true)).map (see sl6) = some (55, H z, true, [vB false, vP, vI ((3 : Nat) : Int), vI ((15 : Nat) : Int), vB (flt .f32 (z 15) (z 3))]) := by kernel_rfl
theorem le6_f_15_4 (z : Nat → Nat) (j : J) : (regionOf EE le6 (S 55 (lJ false ((4 : Nat) : Int) ((15 : Nat) : Int) j) (H z) true)).map (see sl6) = some (55, H z, true, [vB false, vP, vI ((4 : Nat) : Int), vI ((15 : Nat) : Int), vB (flt .f32 (z 15) (z 4))]) := by kernel_rfl
theorem le6_f_15_5 (z : Nat → Nat) (j : J) : (regionOf EE le6 (S 55 (lJ false ((5 : Nat) : Int) ((15 : Nat) : Int) j) (H z) true)).map (see sl6) = some (55, H z, true, [vB false, vP, vI ((5 : Nat) : Int), vI ((15 : Nat) : Int), vB (flt .f32 (z 15) (z 5))]) := by kernel_rfl
theorem le6_f_15_6 (z : Nat → Nat) (j : J) : (regionOf EE le6 (S 55 (lJ false ((6 : Nat) : Int) ((15 : Nat) : Int) j) (H z) true)).map (see sl6) = some (55, H z, true, [vB false, vP, vI ((6 : Nat) : Int), vI ((15 : Nat) : Int), vB (flt .f32 (z 15) (z 6))]) := by kernel_rfl
theorem le6_f_15_7 (z : Nat → Nat) (j : J) : (regionOf EE le6 (S 55 (lJ false ((7 : Nat) : Int) ((15 : Nat) : Int) j) (H z) true)).map (see sl6) = some (55, H z, true, [vB false, vP, vI ((7 : Nat) : Int), vI ((15 : Nat) : Int), vB (flt .f32 (z 15) (z 7))]) := by kernel_rfl
theorem le6_f_15_8 (z : Nat → Nat) (j : J) : (regionOf EE le6 (S 55 (lJ false ((8 : Nat) : Int) ((15 : Nat) : Int) j) (H z) true)).map (see sl6) = some (55, H z, true, [vB false, vP, vI ((8 : Nat) : Int), vI ((15 : Nat) : Int), vB (flt .f32 (z 15) (z 8))]) := by kernel_rfl
theorem le6_f_15_9 (z : Nat → Nat) (j : J) : (regionOf EE le6 (S 55 (lJ false ((9 : Nat) : Int) ((15 : Nat) : Int) j) (H z) true)).map (see sl6) = some (55, H z, true, [vB false, vP, vI ((9 : Nat) : Int), vI ((15 : Nat) : Int), vB (flt .f32 (z 15) (z 9))]) := by kernel_rfl
theorem le6_f_15_10 (z : Nat → Nat) (j : J) : (regionOf EE le6 (S 55 (lJ false ((10 : Nat) : Int) ((15 : Nat) : Int) j) (H z) true)).map (see sl6) = some (55, H z, true, [vB false, vP, vI ((10 : Nat) : Int), vI ((15 : Nat) : Int), vB (flt .f32 (z 15) (z 10))]) := by kernel_rfl
theorem le6_f_15_11 (z : Nat → Nat) (j : J) : (regionOf EE le6 (S 55 (lJ false ((11 : Nat) : Int) ((15 : Nat) : Int) j) (H z) true)).map (see sl6) = some (55, H z, true, [vB false, vP, vI ((11 : Nat) : Int), vI ((15 : Nat) : Int), vB (flt .f32 (z 15) (z 11))]) := by kernel_rfl
theorem le6_f_15_12 (z : Nat → Nat) (j : J) : (regionOf EE le6 (S 55 (lJ false ((12 : Nat) : Int) ((15 : Nat) : Int) j) (H z) true)).map (see sl6) = some (55, H z, true, [vB false, vP, vI ((12 : Nat) : Int), vI ((15 : Nat) : Int), vB (flt .f32 (z 15) (z 12))]) := by kernel_rfl
theorem le6_f_15_13 (z : Nat → Nat) (j : J) : (regionOf EE le6 (S 55 (lJ false ((13 : Nat) : Int) ((15 : Nat) : Int) j) (H z) true)).map (see sl6) = some (55, H z, true, [vB false, vP, vI ((13 : Nat) : Int), vI ((15 : Nat) : Int), vB (flt .f32 (z 15) (z 13))]) := by kernel_rfl
theorem le6_f_15_14 (z : Nat → Nat) (j : J) : (regionOf EE le6 (S 55 (lJ false ((14 : Nat) : Int) ((15 : Nat) : Int) j) (H z) true)).map (see sl6) = some (55, H z, true, [vB false, vP, vI ((14 : Nat) : Int), vI ((15 : Nat) : Int), vB (flt .f32 (z 15) (z 14))]) := by kernel_rfl
theorem le6_f_15_15 (z : Nat → Nat) (j : J) : (regionOf EE le6 (S 55 (lJ false ((15 : Nat) : Int) ((15 : Nat) : Int) j) (H z) true)).map (see sl6) = some (55, H z, true, [vB false, vP, vI ((15 : Nat) : Int), vI ((15 : Nat) : Int), vB (flt .f32 (z 15) (z 15))]) := by kernel_rfl
theorem le6_f_15 (z : Nat → Nat) (j : J) (a : Nat) (ha : a < 16) : (regionOf EE le6 (S 55 (lJ false ((a : Nat) : Int) ((15 : Nat) : Int) j) (H z) true)).map (see sl6) = some (55, H z, true, [vB false, vP, vI ((a : Nat) : Int), vI ((15 : Nat) : Int), vB (flt .f32 (z 15) (z a))]) := by
  match a, ha with
  | 0, _ => exact le6_f_15_0 z j
  | 1, _ => exact le6_f_15_1 z j
  | 2, _ => exact le6_f_15_2 z j
  | 3, _ => exact le6_f_15_3 z j
  | 4, _ => exact le6_f_15_4 z j
  | 5, _ => exact le6_f_15_5 z j
  | 6, _ => exact le6_f_15_6 z j
  | 7, _ => exact le6_f_15_7 z j
  | 8, _ => exact le6_f_15_8 z j
  | 9, _ => exact le6_f_15_9 z j
  | 10, _ => exact le6_f_15_10 z j
  | 11, _ => exact le6_f_15_11 z j
  | 12, _ => exact le6_f_15_12 z j
  | 13, _ => exact le6_f_15_13 z j
  | 14, _ => exact le6_f_15_14 z j
  | 15, _ => exact le6_f_15_15 z j
  | k + 16, h => exact absurd h (by omega)
theorem le6_some (z : Nat → Nat) (g : Bool) (i a : Nat) (hi : i < 16) (ha : a < 16) (j : J) : ∃ k, (regionOf EE le6 (S 55 (lJ g (a : Int) (i : Int) j) (H z) true)).map (see sl6) = some (55, H z, k, [vB g, vP, vI a, vI i, vB (cmpE g (z i) (z a))]) ∧ k = true := by
  have e : ∀ x : Bool, (bif x then true else false) = x := fun x => by cases x <;> rfl
  cases g with
  | true =>
    refine ⟨_, ?_, fokG_true (fgt .f32 (z i) (z a))⟩
    show _ = some (55, H z, fokG (fgt .f32 (z i) (z a)), [vB true, vP, vI a, vI i, vB (fgt .f32 (z i) (z a))])
    rw [← e (fgt .f32 (z i) (z a))]
    conv => rhs; rw [e (fgt .f32 (z i) (z a))]
    match i, hi with
    | 0, _ => simpa only [e] using le6_t_0 z j a ha
    | 1, _ => simpa only [e] using le6_t_1 z j a ha
    | 2, _ => simpa only [e] using le6_t_2 z j a ha
    | 3, _ => simpa only [e] using le6_t_3 z j a ha
    | 4, _ => simpa only [e] using le6_t_4 z j a ha
    | 5, _ => simpa only [e] using le6_t_5 z j a ha
    | 6, _ => simpa only [e] using le6_t_6 z j a ha
    | 7, _ => simpa only [e] using le6_t_7 z j a ha
    | 8, _ => simpa only [e] using le6_t_8 z j a ha
    | 9, _ => simpa only [e] using le6_t_9 z j a ha
    | 10, _ => simpa only [e] using le6_t_10 z j a ha
    | 11, _ => simpa only [e] using le6_t_11 z j a ha
    | 12, _ => simpa only [e] using le6_t_12 z j a ha
    | 13, _ => simpa only [e] using le6_t_13 z j a ha
    | 14, _ => simpa only [e] using le6_t_14 z j a ha
    | 15, _ => simpa only [e] using le6_t_15 z j a ha
    | k + 16, h => exact absurd h (by omega)
  | false =>
    refine ⟨true, ?_, rfl⟩
    match i, hi with
    | 0, _ => exact le6_f_0 z j a ha
    | 1, _ => exact le6_f_1 z j a ha
    | 2, _ => exact le6_f_2 z j a ha
    | 3, _ => exact le6_f_3 z j a ha
    | 4, _ => exact le6_f_4 z j a ha
    | 5, _ => exact le6_f_5 z j a ha
    | 6, _ => exact le6_f_6 z j a ha
    | 7, _ => exact le6_f_7 z j a ha
    | 8, _ => exact le6_f_8 z j a ha
    | 9, _ => exact le6_f_9 z j a ha
    | 10, _ => exact le6_f_10 z j a ha
    | 11, _ => exact le6_f_11 z j a ha
    | 12, _ => exact le6_f_12 z j a ha
    | 13, _ => exact le6_f_13 z j a ha
    | 14, _ => exact le6_f_14 z j a ha
    | 15, _ => exact le6_f_15 z j a ha
    | k + 16, h => exact absurd h (by omega)
theorem le10_see_0 (z : Nat → Nat) (g : Bool) (i : Int) (j : J) : (regionOf EE le10 (S 55 (lJ g ((0 : Nat) : Int) i j) (H z) true)).map (see [4, 5]) = some (55, H z, true, [vF (z 0), vI ((0 : Nat) : Int)]) := by kernel_rfl
theorem le10_see_1 (z : Nat → Nat) (g : Bool) (i : Int) (j : J) : (regionOf EE le10 (S 55 (lJ g ((1 : Nat) : Int) i j) (H z) true)).map (see [4, 5]) = some (55, H z, true, [vF (z 1), vI ((1 : Nat) : Int)]) := by kernel_rfl
theorem le10_see_2 (z : Nat → Nat) (g : Bool) (i : Int) (j : J) : (regionOf EE le10 (S 55 (lJ g ((2 : Nat) : Int) i j) (H z) true)).map (see [4, 5]) = some (55, H z, true, [vF (z 2), vI ((2 : Nat) : Int)]) := by kernel_rfl
theorem le10_see_3 (z : Nat → Nat) (g : Bool) (i : Int) (j : J) : (regionOf EE le10 (S 55 (lJ g ((3 : Nat) : Int) i j) (H z) true)).map (see [4, 5]) = some (55, H z, true, [vF (z 3), vI ((3 : Nat) : Int)]) := by kernel_rfl
theorem le10_see_4 (z : Nat → Nat) (g : Bool) (i : Int) (j : J) : (regionOf EE le10 (S 55 (lJ g ((4 : Nat) : Int) i j) (H z) true)).map (see [4, 5]) = some (55, H z, true, [vF (z 4), vI ((4 : Nat) : Int)]) := by kernel_rfl
theorem le10_see_5 (z : Nat → Nat) (g : Bool) (i : Int) (j : J) : (regionOf EE le10 (S 55 (lJ g ((5 : Nat) : Int) i j) (H z) true)).map (see [4, 5]) = some (55, H z, true, [vF (z 5), vI ((5 : Nat) : Int)]) := by kernel_rfl
theorem le10_see_6 (z : Nat → Nat) (g : Bool) (i : Int) (j : J) : (regionOf EE le10 (S 55 (lJ g ((6 : Nat) : Int) i j) (H z) true)).map (see [4, 5]) = some (55, H z, true, [vF (z 6), vI ((6 : Nat) : Int)]) := by kernel_rfl
theorem le10_see_7 (z : Nat → Nat) (g : Bool) (i : Int) (j : J) : (regionOf EE le10 (S 55 (lJ g ((7 : Nat) : Int) i j) (H z) true)).map (see [4, 5]) = some (55, H z, true, [vF (z 7), vI ((7 : Nat) : Int)]) := by kernel_rfl
theorem le10_see_8 (z : Nat → Nat) (g : Bool) (i : Int) (j : J) : (regionOf EE le10 (S 55 (lJ g ((8 : Nat) : Int) i j) (H z) true)).map (see [4, 5]) = some (55, H z, true, [vF (z 8), vI ((8 : Nat) : Int)]) := by kernel_rfl
theorem le10_see_9 (z : Nat → Nat) (g : Bool) (i : Int) (j : J) : (regionOf EE le10 (S 55 (lJ g ((9 : Nat) : Int) i j) (H z) true)).map (see [4, 5]) = some (55, H z, true, [vF (z 9), vI ((9 : Nat) : Int)]) := by kernel_rfl
theorem le10_see_10 (z : Nat → Nat) (g : Bool) (i : Int) (j : J) : (regionOf EE le10 (S 55 (lJ g ((10 : Nat) : Int) i j) (H z) true)).map (see [4, 5]) = some (55, H z, true, [vF (z 10), vI ((10 : Nat) : Int)]) := by kernel_rfl
theorem le10_see_11 (z : Nat → Nat) (g : Bool) (i : Int) (j : J) : (regionOf EE le10 (S 55 (lJ g ((11 : Nat) : Int) i j) (H z) true)).map (see [4, 5]) = some (55, H z, true, [vF (z 11), vI ((11 : Nat) : Int)]) := by kernel_rfl
theorem le10_see_12 (z : Nat → Nat) (g : Bool) (i : Int) (j : J) : (regionOf EE le10 (S 55 (lJ g ((12 : Nat) : Int) i j) (H z) true)).map (see [4, 5]) = some (55, H z, true, [vF (z 12), vI ((12 : Nat) : Int)]) := by kernel_rfl
theorem le10_see_13 (z : Nat → Nat) (g : Bool) (i : Int) (j : J) : (regionOf EE le10 (S 55 (lJ g ((13 : Nat) : Int) i j) (H z) true)).map (see [4, 5]) = some (55, H z, true, [vF (z 13), vI ((13 : Nat) : Int)]) := by kernel_rfl
theorem le10_see_14 (z : Nat → Nat) (g : Bool) (i : Int) (j : J) : (regionOf EE le10 (S 55 (lJ g ((14 : Nat) : Int) i j) (H z) true)).map (see [4, 5]) = some (55, H z, true, [vF (z 14), vI ((14 : Nat) : Int)]) := by kernel_rfl
theorem le10_see_15 (z : Nat → Nat) (g : Bool) (i : Int) (j : J) : (regionOf EE le10 (S 55 (lJ g ((15 : Nat) : Int) i j) (H z) true)).map (see [4, 5]) = some (55, H z, true, [vF (z 15), vI ((15 : Nat) : Int)]) := by kernel_rfl
theorem le10_see (z : Nat → Nat) (g : Bool) (i : Int) (j : J) (a : Nat) (ha : a < 16) : (regionOf EE le10 (S 55 (lJ g ((a : Nat) : Int) i j) (H z) true)).map (see [4, 5]) = some (55, H z, true, [vF (z a), vI ((a : Nat) : Int)]) := by
  match a, ha with
  | 0, _ => exact le10_see_0 z g i j
  | 1, _ => exact le10_see_1 z g i j
  | 2, _ => exact le10_see_2 z g i j
  | 3, _ => exact le10_see_3 z g i j
  | 4, _ => exact le10_see_4 z g i j
  | 5, _ => exact le10_see_5 z g i j
  | 6, _ => exact le10_see_6 z g i j
  | 7, _ => exact le10_see_7 z g i j
  | 8, _ => exact le10_see_8 z g i j
  | 9, _ => exact le10_see_9 z g i j
  | 10, _ => exact le10_see_10 z g i j
  | 11, _ => exact le10_see_11 z g i j
  | 12, _ => exact le10_see_12 z g i j
  | 13, _ => exact le10_see_13 z g i j
  | 14, _ => exact le10_see_14 z g i j
  | 15, _ => exact le10_see_15 z g i j
  | k + 16, h => exact absurd h (by omega)

end
end En
end Go.Proofs.Ytigegnkifeljhaa
end
