/-
  The gauge of samples: what the law's smaller functions answer. No condition.
-/
import Derived.Test.YtahmdfklahaapaaJc
set_option linter.unusedSectionVars false
set_option linter.unusedVariables false
noncomputable section
namespace Go.Proofs.Ytahmdfklahaapaa
namespace Gf
open Go Go.ChangeShapes Go.WideShapes Go.ChangeAt Go.RowKit Ev Mc
/-! ### sameFloat -/
def sfO : Sig
  | [.float .f64 x, .float .f64 y] => some (.bool true, Nat.beq x y)
  | _ => none
theorem sf_eval (x : Nat) (hx : cn .f64 x = x) : ∃ h', funD Try.prog ext (orcOf []) [28] 100 5 28 [.float .f64 x, .float .f64 x] [] = some (.bool true, h', true) := by
  cases hn : isN .f64 x with
  | true =>
    rw [cn_of_N hn] at hx
    subst hx
    exact of_map (by kernel_rfl)
  | false =>
    have h1 := fne_self hn
    have h2 := feq_self hn
    have h3 : isN .f64 0 = false := by decide +kernel
    have h4 : isN .f64 4607182418800017408 = false := by decide +kernel
    have h5 : Try.prog.underlying 4 = some .bool := Try.underlying4
    have hf : Try.prog.funcs[28]? = some Try.f28 := Try.func28
    rw [funD_one (d := 4) rfl rfl hf rfl]
    generalize funD Try.prog ext _ _ 100 4 = cl
    simp [Try.f28, codeK, startS, regionD_seq, hasNew, isNew, runD, stepD, opD, isStrA, evl, putT, putW, mk, binD, sameK, fbin, guardD, pickV, canonB, boolD, h1, h2, h3, h4, h5, finK, resAll, resD, oneOr, undef]
theorem two_args {μ : Mu} {x y : Value} {cargs : List Value} (h : VRL μ [x, y] cargs) : ∃ a b, cargs = [a, b] ∧ VR μ x a ∧ VR μ y b := by
  match cargs, h with
  | [a, b], h => exact ⟨a, b, rfl, h.head, h.tail.head⟩
  | [], h => exact absurd h.1 (by simp)
  | [_], h => exact absurd h.1 (by simp)
  | _ :: _ :: _ :: _, h => exact absurd h.1 (by simp)
theorem sf_one : OrcOne Try.prog 28 sfO := by
  refine orc_one (us := [28]) (cf := 100) (d := 5) mixed (by kernel_rfl) extsOk (l0 := []) all_nil (by kernel_rfl) fun args v k he hk hx => ?_
  obtain ⟨μ, cargs, ha⟩ := hx
  unfold sfO at he
  split at he
  · rename_i x y
    simp only [Option.some.injEq, Prod.mk.injEq] at he
    obtain ⟨rfl, rfl⟩ := he
    have := Nat.eq_of_beq_eq_true hk
    subst this
    obtain ⟨a, b, rfl, h1, _⟩ := two_args ha
    exact ⟨rfl, rfl, sf_eval x (float_canon h1)⟩
  · cases he
def orc1 : List (Nat × Sig) := [(28, sfO)]
theorem orc1Ok : ∀ p ∈ orc1, OrcOne Try.prog p.1 p.2 := all_cons sf_one all_nil

/-! ### eqCurve, eqThree -/
theorem eqF32_spec : ∀ {xs ys : List Value}, eqF32 xs ys = true → ∃ l, xs = fl .f32 l ∧ ys = fl .f32 l
  | [], [], _ => ⟨[], rfl, rfl⟩
  | x :: r, y :: s, h => by
    unfold eqF32 at h
    split at h
    · rename_i h1 h2; cases h1
    · rename_i a r' b s' h1 h2
      cases h1; cases h2
      simp only [Bool.and_eq_true] at h
      obtain ⟨l, rfl, rfl⟩ := eqF32_spec h.2
      have := Nat.eq_of_beq_eq_true h.1
      subst this
      exact ⟨a :: l, rfl, rfl⟩
    · cases h
  | [], _ :: _, h => by simp [eqF32] at h
  | _ :: _, [], h => by simp [eqF32] at h
theorem eqF32_refl : ∀ (l : List Nat), eqF32 (fl .f32 l) (fl .f32 l) = true
  | [] => rfl
  | a :: l => by
    show (Nat.beq a a && eqF32 (fl .f32 l) (fl .f32 l)) = true
    rw [Nat.beq_refl, eqF32_refl l]; rfl
theorem allSelf : ∀ (l : List Nat) (f : Nat → Nat) (acc : Bool), acc = true → l.foldl (fun acc x => Nat.beq (f x) (f x) && acc) acc = true
  | [], _, _, h => h
  | x :: l, f, acc, h => by
    rw [List.foldl_cons]
    exact allSelf l f _ (by rw [Nat.beq_refl, h]; rfl)
theorem flagC {l : List Nat} (h : l.length = 16) : ((Nat.beq (fl .f32 l).length 16 && eqF32 (fl .f32 l) (fl .f32 l)) && true) = true := by
  rw [eqF32_refl]
  simp [fl, h]
theorem eqN_spec {n : Nat} {args : List Value} {v : Value} {k : Bool} (he : eqN n args = some (v, k)) (hk : k = true) : ∃ l : List Nat, l.length = n ∧ args = [.agg (fl .f32 l).toArray, .agg (fl .f32 l).toArray] ∧ v = .bool true := by
  unfold eqN at he
  split at he
  · rename_i xs ys
    simp only [Option.some.injEq, Prod.mk.injEq] at he
    obtain ⟨rfl, rfl⟩ := he
    simp only [Bool.and_eq_true] at hk
    obtain ⟨l, h1, h2⟩ := eqF32_spec hk.2
    refine ⟨l, ?_, ?_, rfl⟩
    · have := Nat.eq_of_beq_eq_true hk.1
      rw [h1] at this
      simpa [fl] using this
    · have e1 : xs = (fl .f32 l).toArray := by rw [← h1]
      have e2 : ys = (fl .f32 l).toArray := by rw [← h2]
      rw [e1, e2]
  · cases he

theorem ec_eval (l : List Nat) (hl : l.length = 16) : ∃ h', funD Try.prog ext (orcOf orc1) [27] 100 5 27 [.agg (fl .f32 l).toArray, .agg (fl .f32 l).toArray] [] = some (.bool true, h', true) := by
  obtain ⟨a0, a1, a2, a3, a4, a5, a6, a7, a8, a9, a10, a11, a12, a13, a14, a15, rfl⟩ := list16 hl
  refine of_map ?_
  rw [show (some (Value.bool true, true) : Option (Value × Bool)) = some (.bool true, [a0, a1, a2, a3, a4, a5, a6, a7, a8, a9, a10, a11, a12, a13, a14, a15].foldl (fun acc x => Nat.beq (fcv .f32 .f64 x) (fcv .f32 .f64 x) && acc) true) by rw [allSelf _ (fcv .f32 .f64) true rfl]]
  kernel_rfl
theorem ec_one : OrcOne Try.prog 27 (eqN 16) := by
  refine orc_one (us := [27]) (cf := 100) (d := 5) mixed (by kernel_rfl) extsOk orc1Ok (by kernel_rfl) fun args v k he hk _ => ?_
  obtain ⟨l, hl, rfl, rfl⟩ := eqN_spec he hk
  exact ⟨allP (fl_plain _ _) (allP (fl_plain _ _) rfl), rfl, ec_eval l hl⟩
def orcG : List (Nat × Sig) := [(10, evO), (27, eqN 16), (28, sfO)]
theorem orcGOk : ∀ p ∈ orcG, OrcOne Try.prog p.1 p.2 := all_cons ev_one (all_cons ec_one orc1Ok)
def kQ (F : Nat → Int) : Bool := eqVs (q16 F) (q16 F)
theorem kQ_true (F : Nat → Int) : kQ F = true := eqVs_self (ck := cntK) (by kernel_rfl)
theorem kn_fl (f : Nat → Nat) : kn f = fl .f32 ((List.range 16).map f) := by
  unfold kn fl
  rw [List.map_map]; rfl
theorem kn_len (f : Nat → Nat) : (kn f).length = 16 := by kernel_rfl
theorem eg_eval (F0 F1 : Nat → Int) (f : Nat → Nat) : ∃ h', funD Try.prog ext (orcOf orcG) [15] 100 5 15 [.agg (gz F0 F1 f).toArray, .agg (gz F0 F1 f).toArray] [] = some (.bool true, h', true) := by
  refine of_map ?_
  have h : (funD Try.prog ext (orcOf orcG) [15] 100 5 15 [.agg (gz F0 F1 f).toArray, .agg (gz F0 F1 f).toArray] []).map (fun r => (r.1, r.2.2)) = some (.bool true, eqF32 (kn f) (kn f) && (kQ F1 && (kQ F0 && true))) := by kernel_rfl
  rw [h, kQ_true, kQ_true, kn_fl, eqF32_refl]; rfl
theorem tc_eval (f : Nat → Nat) : ∃ h', funD Try.prog ext (orcOf []) [13] 100 5 13 [.agg (kn f).toArray] [] = some (.agg (kn f).toArray, h', true) := of_map (by kernel_rfl)
theorem gz_bare (F0 F1 : Nat → Int) (f : Nat → Nat) : bareP (.agg (gz F0 F1 f).toArray) = true := by kernel_rfl
theorem gz_plain (F0 F1 : Nat → Int) (f : Nat → Nat) : plainB (.agg (gz F0 F1 f).toArray) = true := by kernel_rfl
theorem kn_bare (f : Nat → Nat) : bareP (.agg (kn f).toArray) = true := by kernel_rfl
theorem kn_plain (f : Nat → Nat) : plainB (.agg (kn f).toArray) = true := by kernel_rfl
def egO (kE : List Value → List Value → Bool) : Sig
  | [.agg xs, .agg ys] => some (.bool true, kE xs.toList ys.toList)
  | _ => none
def tcO (kT : List Value → Bool) : Sig
  | [.agg xs] => some (.agg xs, kT xs.toList)
  | _ => none
def kE (xs ys : List Value) : Bool := isB (∃ F0 F1 f, xs = gz F0 F1 f ∧ ys = gz F0 F1 f)
def kT (xs : List Value) : Bool := isB (∃ f, xs = kn f)
theorem eg_one {ι : Frn} : @OrcOne ι Try.prog 15 (egO kE) := by
  refine orc_any (?_ : @OrcOne noFrn Try.prog 15 (egO kE)) ?_
  · refine orc_one (us := [15]) (cf := 100) (d := 5) mixed (by kernel_rfl) extsOk orcGOk (by kernel_rfl) fun args v k he hk hx => ?_
    unfold egO at he
    split at he
    · rename_i xs ys
      simp only [Option.some.injEq, Prod.mk.injEq] at he
      obtain ⟨rfl, rfl⟩ := he
      obtain ⟨F0, F1, f, e1, e2⟩ := of_isB hk
      have e1 : xs = (gz F0 F1 f).toArray := by rw [← e1]
      have e2 : ys = (gz F0 F1 f).toArray := by rw [← e2]
      subst e1 e2
      exact ⟨allP (gz_plain _ _ _) (allP (gz_plain _ _ _) rfl), rfl, eg_eval F0 F1 f⟩
    · cases he
  · intro args v he
    unfold egO at he
    split at he
    · rename_i xs ys
      simp only [Option.some.injEq, Prod.mk.injEq] at he
      obtain ⟨rfl, hk⟩ := he
      obtain ⟨F0, F1, f, e1, e2⟩ := of_isB hk
      have e1 : xs = (gz F0 F1 f).toArray := by rw [← e1]
      have e2 : ys = (gz F0 F1 f).toArray := by rw [← e2]
      subst e1 e2
      refine ⟨?_, rfl⟩
      rw [List.all_cons, List.all_cons, gz_bare]; rfl
    · cases he
theorem tc_one {ι : Frn} : @OrcOne ι Try.prog 13 (tcO kT) := by
  refine orc_any (?_ : @OrcOne noFrn Try.prog 13 (tcO kT)) ?_
  · refine orc_one (us := [13]) (cf := 100) (d := 5) mixed (by kernel_rfl) extsOk (l0 := []) all_nil (by kernel_rfl) fun args v k he hk hx => ?_
    unfold tcO at he
    split at he
    · rename_i xs
      simp only [Option.some.injEq, Prod.mk.injEq] at he
      obtain ⟨rfl, rfl⟩ := he
      obtain ⟨f, e1⟩ := of_isB hk
      have e1 : xs = (kn f).toArray := by rw [← e1]
      subst e1
      exact ⟨allP (kn_plain _) rfl, kn_plain _, tc_eval f⟩
    · cases he
  · intro args v he
    unfold tcO at he
    split at he
    · rename_i xs
      simp only [Option.some.injEq, Prod.mk.injEq] at he
      obtain ⟨rfl, hk⟩ := he
      obtain ⟨f, e1⟩ := of_isB hk
      have e1 : xs = (kn f).toArray := by rw [← e1]
      subst e1
      refine ⟨?_, kn_bare _⟩
      rw [List.all_cons, kn_bare]; rfl
    · cases he
end Gf
end Go.Proofs.Ytahmdfklahaapaa
end
