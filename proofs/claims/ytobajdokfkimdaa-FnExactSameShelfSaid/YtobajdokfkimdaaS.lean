/-
  Contracts of 'bitsOf' and 'l01Same', at this program: the bits of a number, one pattern for each NaN; two numbers are the same if their bits are. No condition.
-/
import Derived.Test.YtobajdokfkimdaaC
namespace Go.Proofs.Ytobajdokfkimdaa
open Go.ChangeShapes Go.WideShapes Go.ChangeAt Go.RowKit Ev

theorem fne_isN {k : FloatKind} {a : Nat} (h : cn k a = a) : fne k a a = isN k a := by
  cases hn : isN k a with
  | false => exact fne_self hn
  | true =>
    rw [cn_of_N hn] at h
    subst h
    cases k <;> decide +kernel
def bitsO : Sig
  | [.float .f32 a] => some (.int .u32 a, true)
  | _ => none
theorem bits_eval (a : Nat) (ha : cn .f32 a = a) : ∃ h', funD Try.prog ext (orcOf []) [186, 76, 131] 100 5 186 [.float .f32 a] [] = some (.int .u32 a, h', true) := by
  refine of_funM (by kernel_rfl) (by kernel_rfl) ?_
  rw [show funM Try.prog ext (orcOf []) [186, 76, 131] 100 4 186 [.float .f32 a] = (bif fne .f64 (fcv .f32 .f64 a) (fcv .f32 .f64 a) then some (.int .u32 2143289344, [], true) else some (.int .u32 a, [], (!isN .f32 a) && true)) by kernel_rfl]
  have hc : cn .f64 (fcv .f32 .f64 a) = fcv .f32 .f64 a := by
    cases hn : isN .f32 a with
    | true => rw [fcv_N hn]; decide +kernel
    | false => exact cn_of_not (by rw [isN_widen, hn])
  rw [fne_isN hc, isN_widen]
  cases hn : isN .f32 a with
  | true => rw [cn_of_N hn] at ha; subst ha; rfl
  | false => rfl
theorem bits_one : OrcOne Try.prog 186 bitsO := by
  refine orc_one (us := [186, 76, 131]) (cf := 100) (d := 5) mixed (by kernel_rfl) extsOk (l0 := []) all_nil (by kernel_rfl) fun args v k he hk hx => ?_
  obtain ⟨μ, cargs, hx⟩ := hx
  unfold bitsO at he
  split at he
  · simp only [Option.some.injEq, Prod.mk.injEq] at he
    obtain ⟨rfl, rfl⟩ := he
    obtain ⟨y, rfl, hy⟩ := one_arg hx
    exact ⟨rfl, rfl, bits_eval _ (float_canon hy)⟩
  · cases he

def ib (a b : Nat) : Bool := decide ((a : Int) = (b : Int))
theorem ib_ne {a b : Nat} (h : a ≠ b) : ib a b = false := decide_eq_false fun e => h (Int.ofNat.inj e)
theorem ib_self (a : Nat) : ib a a = true := decide_eq_true rfl
def gG (c w : Bool) : Bool := (true && (c == w)) && true
def ok1 (c : Bool) : Bool := ((gG c false && gG c false) || !(true && (c == false))) && true
def ok2 (c : Bool) : Bool := (true && ((bif c then true else gG c false) && true)) && ok1 c
def ok3 (c : Bool) : Bool := ((gG c true && gG c true) || !(true && (c == true))) && ok2 c
def okT (c : Bool) : Bool := (true && ((bif c then gG c true else true) && true)) && ok3 c
theorem ok2_true (c : Bool) : ok2 c = true := by cases c <;> rfl
theorem okT_true (c : Bool) : okT c = true := by cases c <;> rfl
def sameO : Sig
  | [.float .f32 a, .float .f32 b] => some (.bool (ib a b), true)
  | _ => none
theorem same_eval (a b : Nat) (ha : cn .f32 a = a) (hb : cn .f32 b = b) : ∃ h', funD Try.prog ext (orcOf []) [170] 100 5 170 [.float .f32 a, .float .f32 b] [] = some (.bool (ib a b), h', true) := by
  refine of_funM (by kernel_rfl) (by kernel_rfl) ?_
  rw [show funM Try.prog ext (orcOf []) [170] 100 4 170 [.float .f32 a, .float .f32 b] = (bif (bif fne .f32 a a then true else fne .f32 b b) then some (.bool (bif fne .f32 a a then fne .f32 b b else false), [], okT (fne .f32 a a)) else some (.bool (ib a b), [], (!isN .f32 b) && ((!isN .f32 a) && ok2 (fne .f32 a a)))) by kernel_rfl]
  rw [okT_true, ok2_true, fne_isN ha, fne_isN hb]
  cases hn : isN .f32 a with
  | true =>
    rw [cn_of_N hn] at ha
    cases hm : isN .f32 b with
    | true =>
      rw [cn_of_N hm] at hb
      subst ha; subst hb
      rw [ib_self]; rfl
    | false =>
      rw [ib_ne (by intro e; rw [e, hm] at hn; cases hn)]; rfl
  | false =>
    cases hm : isN .f32 b with
    | true => rw [ib_ne (by intro e; rw [e, hm] at hn; cases hn)]; rfl
    | false => rfl
theorem same_one : OrcOne Try.prog 170 sameO := by
  refine orc_one (us := [170]) (cf := 100) (d := 5) mixed (by kernel_rfl) extsOk (l0 := []) all_nil (by kernel_rfl) fun args v k he hk hx => ?_
  obtain ⟨μ, cargs, hx⟩ := hx
  unfold sameO at he
  split at he
  · simp only [Option.some.injEq, Prod.mk.injEq] at he
    obtain ⟨rfl, rfl⟩ := he
    obtain ⟨y, z, rfl, hy, hz⟩ := two_args hx
    exact ⟨rfl, rfl, same_eval _ _ (float_canon hy) (float_canon hz)⟩
  · cases he
def orcS : List (Nat × Sig) := [(186, bitsO), (170, sameO)]
theorem orcSOk : ∀ p ∈ orcS, OrcOne Try.prog p.1 p.2 := all_cons bits_one (all_cons same_one all_nil)

/-- the flags of '.. && ..' over calls, as the evaluator lays them -/
def c1f (i : Bool) : Bool := gG i true || !(true && (i == true))
def c2f (i : Bool) : Bool := ((gG i true && (gG i true && true)) && true) || !(true && (i == true))
def pf (i : Bool) : Bool := true && ((bif i then gG i true else true) && true)
def F3 (i j : Bool) : Bool := pf j && (c2f j && (c1f j && (c1f j && (pf i && (c2f i && (c1f i && (c1f i && true)))))))
theorem F3_true (i j : Bool) : F3 i j = true := by cases i <;> cases j <;> rfl

/-! ### sameCurve -/
def eqFq : List Value → List Value → Bool
  | .float .f32 a :: r, .float .f32 b :: s => bif ib a b then eqFq r s else false
  | _, _ => true
def isF : List Value → Bool
  | [] => true
  | .float .f32 _ :: r => isF r
  | _ => false
theorem isF_spec : ∀ {xs : List Value}, isF xs = true → ∃ l, xs = fl .f32 l
  | [], _ => ⟨[], rfl⟩
  | x :: r, h => by
    unfold isF at h
    split at h
    · rename_i h1; cases h1
    · rename_i a r' h1
      cases h1
      obtain ⟨l, rfl⟩ := isF_spec h
      exact ⟨a :: l, rfl⟩
    · cases h
def treeS : List Nat → List Nat → Ans
  | a :: r, b :: s => bif !(ib a b) then some (.bool false, [], true) else treeS r s
  | _, _ => some (.bool true, [], true)
theorem treeS_eq : ∀ (l m : List Nat), treeS l m = some (.bool (eqFq (fl .f32 l) (fl .f32 m)), [], true)
  | [], _ => rfl
  | _ :: _, [] => rfl
  | a :: r, b :: s => by
    show (bif !(ib a b) then some (.bool false, [], true) else treeS r s) = some (Value.bool (bif ib a b then eqFq (fl .f32 r) (fl .f32 s) else false), ([] : Heap), true)
    rw [treeS_eq r s]
    cases ib a b <;> rfl
def ints (l : List Nat) : List Value := l.map fun a => .int .u32 (a : Nat)
theorem eqInts_eqFq : ∀ (l m : List Nat), eqInts (ints l) (ints m) = eqFq (fl .f32 l) (fl .f32 m)
  | [], _ => rfl
  | _ :: _, [] => rfl
  | a :: r, b :: s => by
    show (ib a b && eqInts (ints r) (ints s)) = (bif ib a b then eqFq (fl .f32 r) (fl .f32 s) else false)
    rw [eqInts_eqFq r s]
    cases ib a b <;> rfl
def scO : Sig
  | [.agg xs, .agg ys] => some (.bool (eqFq xs.toList ys.toList), (Nat.beq xs.toList.length 16 && isF xs.toList) && (Nat.beq ys.toList.length 16 && isF ys.toList))
  | _ => none
theorem row_spec {xs : Array Value} (h : (Nat.beq xs.toList.length 16 && isF xs.toList) = true) : ∃ l : List Nat, l.length = 16 ∧ xs = (fl .f32 l).toArray := by
  simp only [Bool.and_eq_true] at h
  obtain ⟨l, hl⟩ := isF_spec h.2
  refine ⟨l, ?_, by rw [← hl]⟩
  have := Nat.eq_of_beq_eq_true h.1
  rw [hl] at this
  simpa [fl] using this
theorem sc_eval (l m : List Nat) (hl : l.length = 16) (hm : m.length = 16) : ∃ h', funD Try.prog ext (orcOf orcS) [141] 200 5 141 [.agg (fl .f32 l).toArray, .agg (fl .f32 m).toArray] [] = some (.bool (eqFq (fl .f32 l) (fl .f32 m)), h', true) := by
  refine of_funM (by kernel_rfl) (by kernel_rfl) ?_
  rw [← treeS_eq]
  obtain ⟨a0, a1, a2, a3, a4, a5, a6, a7, a8, a9, a10, a11, a12, a13, a14, a15, rfl⟩ := list16 hl
  obtain ⟨b0, b1, b2, b3, b4, b5, b6, b7, b8, b9, b10, b11, b12, b13, b14, b15, rfl⟩ := list16 hm
  kernel_rfl
theorem sc_one : OrcOne Try.prog 141 scO := by
  refine orc_one (us := [141]) (cf := 200) (d := 5) mixed (by kernel_rfl) extsOk orcSOk (by kernel_rfl) fun args v k he hk hx => ?_
  unfold scO at he
  split at he
  · simp only [Option.some.injEq, Prod.mk.injEq] at he
    obtain ⟨rfl, rfl⟩ := he
    rw [Bool.and_eq_true] at hk
    obtain ⟨l, hl, rfl⟩ := row_spec hk.1
    obtain ⟨m, hm, rfl⟩ := row_spec hk.2
    exact ⟨allP (fl_plain _ _) (allP (fl_plain _ _) rfl), rfl, sc_eval l m hl hm⟩
  · cases he
def orcC : List (Nat × Sig) := (141, scO) :: orcS
theorem orcCOk : ∀ p ∈ orcC, OrcOne Try.prog p.1 p.2 := all_cons sc_one orcSOk
end Go.Proofs.Ytobajdokfkimdaa
