/-
  What the exact laws of chapter 1 lean on, at this program: contracts of small functions ('laws.sameFloat' and 'laws.eqCurve' answer true for one and the same numbers, a NaN being as good as another; 'bitsOf' hands back a number's bits, one pattern for each NaN). No condition.
-/
import Derived.Test.YtjfbhjnkojnmcaaEv
import Derived.Test.YtjfbhjnkojnmcaaRows
import Derived.ProofKit
import Derived.OpenShut
import Derived.ChangeOld
import Derived.Below
import Derived.Carry
namespace Go.Proofs.Ytjfbhjnkojnmcaa
open Go.ChangeShapes Go.WideShapes Go.ChangeAt Go.RowKit Ev

theorem own : ownKnob Try.prog.godebug = none := by kernel_rfl
theorem laidOut : laidOutB Try.prog = true := by kernel_rfl
theorem mixed : Try.prog.follows .mixedOrders = true := by kernel_rfl

theorem of_map {o : Option (Value × Heap × Bool)} {v : Value} {k : Bool} (h : o.map (fun r => (r.1, r.2.2)) = some (v, k)) : ∃ h', o = some (v, h', k) := by
  cases o with
  | none => cases h
  | some r =>
    obtain ⟨v', h', k'⟩ := r
    simp only [Option.map_some, Option.some.injEq, Prod.mk.injEq] at h
    obtain ⟨rfl, rfl⟩ := h
    exact ⟨h', rfl⟩
theorem allP {x : Value} {l : List Value} (h : plainB x = true) (k : l.all plainB = true) : (x :: l).all plainB = true := by rw [List.all_cons, h, k]; rfl
theorem list16 {l : List Nat} (h : l.length = 16) : ∃ a0 a1 a2 a3 a4 a5 a6 a7 a8 a9 a10 a11 a12 a13 a14 a15, l = [a0, a1, a2, a3, a4, a5, a6, a7, a8, a9, a10, a11, a12, a13, a14, a15] := by
  match l, h with
  | [a0, a1, a2, a3, a4, a5, a6, a7, a8, a9, a10, a11, a12, a13, a14, a15], _ => exact ⟨_, _, _, _, _, _, _, _, _, _, _, _, _, _, _, _, rfl⟩
theorem list3 {l : List Nat} (h : l.length = 3) : ∃ a0 a1 a2, l = [a0, a1, a2] := by
  match l, h with
  | [a0, a1, a2], _ => exact ⟨_, _, _, rfl⟩

/-! ### math's bodyless functions -/
theorem isF32bits : IsExt Try.prog 100 Extern.MathFloatBits.float32bits := ⟨Try.f100, Try.func100, by kernel_rfl, by kernel_rfl, by kernel_rfl, by kernel_rfl⟩
theorem isF64bits : IsExt Try.prog 106 Extern.MathFloatBits.float64bits := ⟨Try.f106, Try.func106, by kernel_rfl, by kernel_rfl, by kernel_rfl, by kernel_rfl⟩
theorem isF64from : IsExt Try.prog 105 Extern.MathFloatBits.float64frombits := ⟨Try.f105, Try.func105, by kernel_rfl, by kernel_rfl, by kernel_rfl, by kernel_rfl⟩
def exts : List (Nat × Sig) := [
  (100, f32bitsO),
  (106, f64bitsO),
  (105, f64fromO)
  ]
theorem extsOk : ∀ p ∈ exts, ExtOne Try.prog p.1 p.2 :=
  all_cons (f32bits_one isF32bits) <|
  all_cons (f64bits_one isF64bits) <|
  all_cons (f64from_one isF64from) <|
  all_nil
abbrev ext : Orc := fun f => seek f exts
abbrev orcOf (l : List (Nat × Sig)) : Orc := fun f => seek f l

/-! ### sameFloat -/
def sfO : Sig
  | [.float .f64 x, .float .f64 y] => some (.bool true, Nat.beq x y)
  | _ => none
theorem sf_eval (x : Nat) (hx : cn .f64 x = x) : ∃ h', funD Try.prog ext (orcOf []) [43] 100 5 43 [.float .f64 x, .float .f64 x] [] = some (.bool true, h', true) := by
  cases hn : isN .f64 x with
  | true =>
    rw [cn_of_N hn] at hx
    subst hx
    exact of_map (by kernel_rfl)
  | false =>
    have h1 := fne_self hn
    have h2 := feq_self hn
    have h3 : isN .f64 0 = false := by decide +kernel
    have h4 : isN .f64 4607182418800017408 = false := by decide +kernel
    have h5 : Try.prog.underlying 4 = some .bool := Try.underlying4
    have hf : Try.prog.funcs[43]? = some Try.f43 := Try.func43
    rw [funD_one (d := 4) rfl rfl hf rfl]
    generalize funD Try.prog ext _ _ 100 4 = cl
    simp [Try.f43, codeK, startS, regionD_seq, hasNew, isNew, runD, stepD, opD, evl, putT, putW, mk, binD, sameK, fbin, guardD, pickV, canonB, boolD, h1, h2, h3, h4, h5, finK, resAll, resD, oneOr, undef]
theorem two_args {μ : Nat → Option Nat} {x y : Value} {cargs : List Value} (h : VRL μ [x, y] cargs) : ∃ a b, cargs = [a, b] ∧ VR μ x a ∧ VR μ y b := by
  match cargs, h with
  | [a, b], h => exact ⟨a, b, rfl, h.head, h.tail.head⟩
  | [], h => exact absurd h.1 (by simp)
  | [_], h => exact absurd h.1 (by simp)
  | _ :: _ :: _ :: _, h => exact absurd h.1 (by simp)
theorem sf_one : OrcOne Try.prog 43 sfO := by
  refine orc_one (us := [43]) (cf := 100) (d := 5) mixed (by kernel_rfl) extsOk (l0 := []) all_nil (by kernel_rfl) fun args v k he hk hx => ?_
  obtain ⟨μ, cargs, ha⟩ := hx
  unfold sfO at he
  split at he
  · rename_i x y
    simp only [Option.some.injEq, Prod.mk.injEq] at he
    obtain ⟨rfl, rfl⟩ := he
    have := Nat.eq_of_beq_eq_true hk
    subst this
    obtain ⟨a, b, rfl, h1, _⟩ := two_args ha
    exact ⟨rfl, rfl, sf_eval x (float_canon h1)⟩
  · cases he
def orc1 : List (Nat × Sig) := [(43, sfO)]
theorem orc1Ok : ∀ p ∈ orc1, OrcOne Try.prog p.1 p.2 := all_cons sf_one all_nil

/-! ### eqCurve, eqThree -/
/-- the sum from left to right -/
def sumF : List Nat → Nat
  | [] => 0
  | a :: l => l.foldl (fadd .f32) a
theorem eqF32_spec : ∀ {xs ys : List Value}, eqF32 xs ys = true → ∃ l, xs = fl .f32 l ∧ ys = fl .f32 l
  | [], [], _ => ⟨[], rfl, rfl⟩
  | x :: r, y :: s, h => by
    unfold eqF32 at h
    split at h
    · rename_i h1 h2; cases h1
    · rename_i a r' b s' h1 h2
      cases h1; cases h2
      simp only [Bool.and_eq_true] at h
      obtain ⟨l, rfl, rfl⟩ := eqF32_spec h.2
      have := Nat.eq_of_beq_eq_true h.1
      subst this
      exact ⟨a :: l, rfl, rfl⟩
    · cases h
  | [], _ :: _, h => by simp [eqF32] at h
  | _ :: _, [], h => by simp [eqF32] at h
theorem eqF32_refl : ∀ (l : List Nat), eqF32 (fl .f32 l) (fl .f32 l) = true
  | [] => rfl
  | a :: l => by
    show (Nat.beq a a && eqF32 (fl .f32 l) (fl .f32 l)) = true
    rw [Nat.beq_refl, eqF32_refl l]; rfl
theorem allSelf : ∀ (l : List Nat) (f : Nat → Nat) (acc : Bool), acc = true → l.foldl (fun acc x => Nat.beq (f x) (f x) && acc) acc = true
  | [], _, _, h => h
  | x :: l, f, acc, h => by
    rw [List.foldl_cons]
    exact allSelf l f _ (by rw [Nat.beq_refl, h]; rfl)
theorem flagC {l : List Nat} (h : l.length = 16) : ((Nat.beq (fl .f32 l).length 16 && eqF32 (fl .f32 l) (fl .f32 l)) && true) = true := by
  rw [eqF32_refl]
  simp [fl, h]
theorem flagT {l : List Nat} (h : l.length = 3) : ((Nat.beq (fl .f32 l).length 3 && eqF32 (fl .f32 l) (fl .f32 l)) && true) = true := by
  rw [eqF32_refl]
  simp [fl, h]
theorem eqN_spec {n : Nat} {args : List Value} {v : Value} {k : Bool} (he : eqN n args = some (v, k)) (hk : k = true) : ∃ l : List Nat, l.length = n ∧ args = [.agg (fl .f32 l).toArray, .agg (fl .f32 l).toArray] ∧ v = .bool true := by
  unfold eqN at he
  split at he
  · rename_i xs ys
    simp only [Option.some.injEq, Prod.mk.injEq] at he
    obtain ⟨rfl, rfl⟩ := he
    simp only [Bool.and_eq_true] at hk
    obtain ⟨l, h1, h2⟩ := eqF32_spec hk.2
    refine ⟨l, ?_, ?_, rfl⟩
    · have := Nat.eq_of_beq_eq_true hk.1
      rw [h1] at this
      simpa [fl] using this
    · have e1 : xs = (fl .f32 l).toArray := by rw [← h1]
      have e2 : ys = (fl .f32 l).toArray := by rw [← h2]
      rw [e1, e2]
  · cases he

theorem ec_eval (l : List Nat) (hl : l.length = 16) : ∃ h', funD Try.prog ext (orcOf orc1) [24] 100 5 24 [.agg (fl .f32 l).toArray, .agg (fl .f32 l).toArray] [] = some (.bool true, h', true) := by
  obtain ⟨a0, a1, a2, a3, a4, a5, a6, a7, a8, a9, a10, a11, a12, a13, a14, a15, rfl⟩ := list16 hl
  refine of_map ?_
  rw [show (some (Value.bool true, true) : Option (Value × Bool)) = some (.bool true, [a0, a1, a2, a3, a4, a5, a6, a7, a8, a9, a10, a11, a12, a13, a14, a15].foldl (fun acc x => Nat.beq (fcv .f32 .f64 x) (fcv .f32 .f64 x) && acc) true) by rw [allSelf _ (fcv .f32 .f64) true rfl]]
  kernel_rfl
theorem ec_one : OrcOne Try.prog 24 (eqN 16) := by
  refine orc_one (us := [24]) (cf := 100) (d := 5) mixed (by kernel_rfl) extsOk orc1Ok (by kernel_rfl) fun args v k he hk _ => ?_
  obtain ⟨l, hl, rfl, rfl⟩ := eqN_spec he hk
  exact ⟨allP (fl_plain _ _) (allP (fl_plain _ _) rfl), rfl, ec_eval l hl⟩
def orc2 : List (Nat × Sig) := [
  (24, eqN 16),
  (43, sfO)]
theorem orc2Ok : ∀ p ∈ orc2, OrcOne Try.prog p.1 p.2 :=
  all_cons ec_one <|
  orc1Ok

theorem isF32_fl : ∀ {xs : List Value}, rowF32 xs = true → ∃ l, xs = fl .f32 l
  | [], _ => ⟨[], rfl⟩
  | x :: r, h => by
    unfold rowF32 at h
    split at h
    · rename_i h1; cases h1
    · rename_i a r' h1
      cases h1
      obtain ⟨l, rfl⟩ := isF32_fl h
      exact ⟨a :: l, rfl⟩
    · cases h
theorem idN_spec {n : Nat} {args : List Value} {v : Value} {k : Bool} (he : idN n args = some (v, k)) (hk : k = true) : ∃ l : List Nat, l.length = n ∧ args = [.agg (fl .f32 l).toArray] ∧ v = .agg (fl .f32 l).toArray := by
  unfold idN at he
  split at he
  · rename_i xs
    simp only [Option.some.injEq, Prod.mk.injEq] at he
    obtain ⟨rfl, rfl⟩ := he
    simp only [Bool.and_eq_true] at hk
    obtain ⟨l, h1⟩ := isF32_fl hk.2
    have e1 : xs = (fl .f32 l).toArray := by rw [← h1]
    refine ⟨l, ?_, by rw [e1], by rw [e1]⟩
    have := Nat.eq_of_beq_eq_true hk.1
    rw [h1] at this
    simpa [fl] using this
  · cases he
theorem tc_eval (l : List Nat) (hl : l.length = 16) : ∃ h', funD Try.prog ext (orcOf []) [19] 100 5 19 [.agg (fl .f32 l).toArray] [] = some (.agg (fl .f32 l).toArray, h', true) := by
  obtain ⟨a0, a1, a2, a3, a4, a5, a6, a7, a8, a9, a10, a11, a12, a13, a14, a15, rfl⟩ := list16 hl
  refine of_map ?_
  kernel_rfl
theorem tc_one : OrcOne Try.prog 19 (idN 16) := by
  refine orc_one (us := [19]) (cf := 100) (d := 5) mixed (by kernel_rfl) extsOk (l0 := []) all_nil (by kernel_rfl) fun args v k he hk _ => ?_
  obtain ⟨l, hl, rfl, rfl⟩ := idN_spec he hk
  exact ⟨allP (fl_plain _ _) rfl, fl_plain _ _, tc_eval l hl⟩

/-! the program's arrays -/
set_option maxRecDepth 100000 in
theorem curve26 {w : World} {r : Reach} {b0 : Nat} {v : Value} (hv : Value.okWide Try.prog w r b0 23 v) : ∃ l : List Nat, v = .agg (fl .f32 l).toArray ∧ l.length = 16 :=
  open_floats Try.underlying23 Try.underlying22 (by kernel_rfl) (by kernel_rfl) hv
end Go.Proofs.Ytjfbhjnkojnmcaa
