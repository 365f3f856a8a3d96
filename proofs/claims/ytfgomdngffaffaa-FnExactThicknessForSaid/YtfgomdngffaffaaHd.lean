/-
  The thickness that hides enough: what the model and the program answer, over contracts. No condition.
-/
import Derived.Test.YtfgomdngffaffaaHc
set_option linter.unusedSectionVars false
set_option linter.unusedVariables false
noncomputable section
namespace Go.Proofs.Ytfgomdngffaffaa
namespace Hb
open Go Go.ChangeShapes Go.WideShapes Go.ChangeAt Go.RowKit Ev Sx

theorem stopR {E : Env} [ι : Frn] {n0 n : Nat} {a : Code} {s s' : St} (h : Leads E n0 a s .ret s') : LeadsL E n0 (n + 1) a s .ret s' := fun D μ0 B w0 _ x w hn hs hQ => by
  rw [rounds_succ]
  exact h D μ0 B w0 _ x w hn hs fun a' w' hs' => hQ a' w' hs'
variable (T : Told) (base : Nat) (k s : Nat → Nat) (q : Nat)
theorem m_stop (hE : @EnvOk (iT T base) (ET T base)) (j : J) : ∃ j', @Leads (iT T base) (ET T base) 0 mBody (S 51 (nJ q ((257 : Nat) : Int) j) (Hd k s) true) (.exit 0) (S 51 j' (Hd k s) true) := by
  letI : Frn := iT T base
  have l6 := Leads.reg (N := 0) (n0 := 0) hE mixed (show codeOk (q6 mC) = true by kernel_rfl) (m_r6 T base k s q 257 j) rfl
  rw [decide_eq_false (show ¬ ((257 : Nat) : Int) ≤ 256 by omega)] at l6
  have l6c := Leads.condF (E := ET T base) (n0 := 0) (a := .skip) (b := .exit 0) (m_x6 k s q 257 (up j 27 (vI (257 : Nat))) false) Leads.exit
  exact ⟨_, Leads.seqX (Leads.seq l6 l6c)⟩
theorem m_loop (hE : @EnvOk (iT T base) (ET T base)) (hK : ∀ n, 1 ≤ n → n ≤ 256 → T.kX (HX k s (tN n)) (row33 k s (tN n))) : ∀ (m n : Nat) (j : J), n + m = 257 → 1 ≤ n → St4 j →
    (∃ j' h', @LeadsL (iT T base) (ET T base) 0 (m + 1) mBody (S 51 (nJ q n j) (Hd k s) true) .ret (S 51 (resJ (ansL T k s q m n).1 (ansL T k s q m n).2 j') h' true)) ∨
    (ansL T k s q m n = (0, 6) ∧ ∃ j', @LeadsL (iT T base) (ET T base) 0 (m + 1) mBody (S 51 (nJ q n j) (Hd k s) true) (.exit 0) (S 51 j' (Hd k s) true))
  | 0, n, j, hn, h1, hj => by
    letI : Frn := iT T base
    have : n = 257 := by omega
    subst this
    obtain ⟨j', h⟩ := m_stop T base k s q hE j
    exact .inr ⟨rfl, j', LeadsL.stopX h⟩
  | m + 1, n, j, hn, h1, hj => by
    letI : Frn := iT T base
    obtain ⟨hs, hx⟩ := m_round T base k s q hE (n := n) (by omega) (hK n h1 (by omega)) hj
    rw [ansL]
    cases hr : rV T k s q n with
    | some p =>
      obtain ⟨j', h', h⟩ := hs p hr
      exact .inl ⟨j', h', stopR h⟩
    | none =>
      obtain ⟨j', hj', h⟩ := hx hr
      rw [Option.getD_none]
      rcases m_loop hE hK m (n + 1) j' (by omega) (by omega) hj' with ⟨j2, h2, h3⟩ | ⟨e, j2, h3⟩
      · exact .inl ⟨j2, h2, LeadsL.more h h3⟩
      · exact .inr ⟨e, j2, LeadsL.more h h3⟩
theorem b_self {j' : J} (h2 : j' 2 = vF q) (h3 : j' 3 = vP 0) (h4 : j' 4 = vP 1) : j' = bJ q j' := by
  unfold bJ
  rw [up_self h2, up_self h3, up_self h4]
theorem map1 {j j' : J} {sl : List Nat} (h : sl.map j = sl.map j') {i : Nat} (hi : i ∈ sl) : j i = j' i := List.map_inj_left.1 h i hi
theorem cov1 : ∀ m, m < 51 → m ∈ sl1 ∨ m ∈ [12, 13, 14, 15, 16, 17, 18] := by decide
theorem cov3 : ∀ m, m < 51 → m ∈ sl3 ∨ m ∈ [20, 21, 22, 23, 24, 25] := by decide
/-- the model -/
theorem m_leads (hE : @EnvOk (iT T base) (ET T base)) (hK : T.am (row16 k) = true → T.am (row16 s) = true → ∀ n, 1 ≤ n → n ≤ 256 → T.kX (HX k s (tN n)) (row33 k s (tN n))) :
    ∃ s' h', @Leads (iT T base) (ET T base) 0 mC (startS Try.f12 [.agg (row16 k).toArray, .agg (row16 s).toArray, .float .f32 q] []) .ret s' ∧ @finK (iT T base) Try.prog Try.f12 .ret s' = some (ansV (ansT T k s q).1 (ansT T k s q).2, h', true) := by
  letI : Frn := iT T base
  rw [m_start, m_shape]
  have l0 := Leads.reg (N := 0) (n0 := 0) hE mixed (show codeOk (q0 mC) = true by kernel_rfl) (m_r0 T base k s q) rfl
  have ja : St4 (up (up (up (up j0 0 (vA (row16 k))) 1 (vA (row16 s))) 6 (vF 0)) 7 (vI 0)) := st_up (st_up (st_up (st_up (fun m _ h => by cases h) fun _ => row16_low k) fun _ => row16_low s) fun _ => rfl) fun _ => rfl
  generalize up (up (up (up j0 0 (vA (row16 k))) 1 (vA (row16 s))) 6 (vF 0)) 7 (vI 0) = ja' at l0 ja
  obtain ⟨j1, h1, v1, x1⟩ := reg_seeS (m_s1 T base k s q ja') (FA_true _)
  have st1 : St4 j1 := st_see cov1 (st_up (st_up (st_up (st_up ja fun _ => rfl) fun _ => rfl) fun _ => rfl) fun _ => rfl) v1 x1
  have b1 : j1 = bJ q j1 := b_self q (map1 v1 (i := 2) (by decide)) (map1 v1 (i := 3) (by decide)) (map1 v1 (i := 4) (by decide))
  have c1 : j1 19 = vB (!(T.am (row16 k)) || !(T.am (row16 s))) := map1 v1 (i := 19) (by decide)
  have l1 := Leads.reg (N := 0) (n0 := 0) hE mixed (show codeOk (q1 mC) = true by kernel_rfl) h1 rfl
  have e1 : S 51 j1 (Hd k s) true = S 51 (bJ q (up j1 19 (vB (!(T.am (row16 k)) || !(T.am (row16 s)))))) (Hd k s) true := by rw [up_self c1, ← b1]
  rw [e1] at l1
  unfold ansT
  cases ha : (!(T.am (row16 k)) || !(T.am (row16 s))) with
  | true =>
    rw [cond_true]
    rw [ha] at l1
    have lc := Leads.condT (E := ET T base) (n0 := 0) (a := .seq (sa (ca (q1c mC))) .ret) (b := .skip) (m_x1 k s q j1 true) (Leads.seq (Leads.reg (N := 0) hE mixed (show codeOk (sa (ca (q1c mC))) = true by kernel_rfl) (m_r2 T base _ _) rfl) Leads.ret)
    exact ⟨_, _, Leads.seq l0 (Leads.seqR (Leads.seq l1 lc)), m_end T base _ _ _ _⟩
  | false =>
    rw [cond_false]
    rw [ha] at l1
    have hak : T.am (row16 k) = true ∧ T.am (row16 s) = true := by
      revert ha
      cases T.am (row16 k) <;> cases T.am (row16 s) <;> intro ha <;> first | exact ⟨rfl, rfl⟩ | cases ha
    have lc := Leads.condF (E := ET T base) (n0 := 0) (a := .seq (sa (ca (q1c mC))) .ret) (b := .skip) (m_x1 k s q j1 false) Leads.skip
    have jb : St4 (up j1 19 (vB false)) := st_up st1 fun _ => rfl
    generalize up j1 19 (vB false) = jb' at l1 lc jb
    obtain ⟨j3, h3, v3, x3⟩ := reg_seeS (m_s3 T base k s q jb') (FW_true _)
    have st3 : St4 j3 := st_see cov3 (st_up (st_up (st_up (st_up jb fun _ => rfl) fun _ => rfl) fun _ => rfl) fun _ => rfl) v3 x3
    have b3 : j3 = bJ q j3 := b_self q (map1 v3 (i := 2) (by decide)) (map1 v3 (i := 3) (by decide)) (map1 v3 (i := 4) (by decide))
    have c3 : j3 26 = vB (!(inW q)) := map1 v3 (i := 26) (by decide)
    have l3 := Leads.reg (N := 0) (n0 := 0) hE mixed (show codeOk (q3 mC) = true by kernel_rfl) h3 rfl
    have e3 : S 51 j3 (Hd k s) true = S 51 (bJ q (up j3 26 (vB (!(inW q))))) (Hd k s) true := by rw [up_self c3, ← b3]
    rw [e3] at l3
    cases hw : (!(inW q)) with
    | true =>
      rw [cond_true]
      rw [hw] at l3
      have lc3 := Leads.condT (E := ET T base) (n0 := 0) (a := .seq (sa (ca (q3c mC))) .ret) (b := .skip) (m_x3 k s q j3 true) (Leads.seq (Leads.reg (N := 0) hE mixed (show codeOk (sa (ca (q3c mC))) = true by kernel_rfl) (m_r4 T base _ _) rfl) Leads.ret)
      exact ⟨_, _, Leads.seq l0 (Leads.seq (Leads.seq l1 lc) (Leads.seqR (Leads.seq l3 lc3))), m_end T base _ _ _ _⟩
    | false =>
      rw [cond_false]
      rw [hw] at l3
      have lc3 := Leads.condF (E := ET T base) (n0 := 0) (a := .seq (sa (ca (q3c mC))) .ret) (b := .skip) (m_x3 k s q j3 false) Leads.skip
      have jd : St4 (up j3 26 (vB false)) := st_up st3 fun _ => rfl
      generalize up j3 26 (vB false) = jd' at l3 lc3 jd
      have l5 := Leads.reg (N := 0) (n0 := 0) hE mixed (show codeOk (q5 mC) = true by kernel_rfl) (m_r5 T base k s q jd') rfl
      rcases m_loop T base k s q hE (hK hak.1 hak.2) 256 1 jd' (by omega) (by omega) jd with ⟨j', h', h⟩ | ⟨e, j', h⟩
      · exact ⟨_, _, Leads.seq l0 (Leads.seq (Leads.seq l1 lc) (Leads.seq (Leads.seq l3 lc3) (Leads.seqR (Leads.seq l5 (Leads.blockR (Leads.loop h)))))), m_end T base _ _ _ _⟩
      · rw [e]
        have l16 := Leads.reg (N := 0) (n0 := 0) hE mixed (show codeOk (q16 mC) = true by kernel_rfl) (m_r16 T base j' (Hd k s)) rfl
        exact ⟨_, _, Leads.seq l0 (Leads.seq (Leads.seq l1 lc) (Leads.seq (Leads.seq l3 lc3) (Leads.seq (Leads.seq l5 (Leads.blockX (Leads.loop h))) (Leads.seq l16 Leads.ret)))), m_end T base _ _ _ _⟩
/-! ### the program -/
theorem p_eq (q t x : Nat) (n c : Int) (j : J) (h : Heap) : S 50 (p9J q n t x c j) h true = S 50 (nJ q n (up (up (up j 9 (vF t)) 10 (vF x)) 11 (vI c))) h true := by kernel_rfl
theorem p_round (hE : @EnvOk (iT T base) (ET T base)) {n : Nat} (hn : n ≤ 256) (j : J) :
    (∀ p, rV T k s q n = some p → ∃ j', @Leads (iT T base) (ET T base) 0 pBody (S 50 (nJ q n j) (Hd k s) true) .ret (S 50 (resJ p.1 p.2 j') (Hd k s) true)) ∧
    (rV T k s q n = none → ∃ j', @Leads (iT T base) (ET T base) 0 pBody (S 50 (nJ q n j) (Hd k s) true) .normal (S 50 (nJ q ((n + 1 : Nat) : Int) j') (Hd k s) true)) := by
  letI : Frn := iT T base
  have l6 := Leads.reg (N := 0) (n0 := 0) hE mixed (show codeOk (q6 pC) = true by kernel_rfl) (p_r6 T base k s q n j) rfl
  rw [decide_eq_true (show (n : Int) ≤ 256 by omega)] at l6
  have l6c := Leads.condT (E := ET T base) (n0 := 0) (a := .skip) (b := .exit 0) (p_x6 k s q n (up j 23 (vI n)) true) Leads.skip
  have e8 := p_r8 T base k s q n (up (up j 23 (vI n)) 24 (vB true))
  rw [FC_true] at e8
  have l8 := Leads.reg (N := 0) (n0 := 0) hE mixed (show codeOk (q8 pC) = true by kernel_rfl) e8 rfl
  generalize up (up (up (up (up j 23 (vI n)) 24 (vB true)) 27 (vI n)) 28 (vF (FloatKind.f32.nearest (n : Int)))) 29 (vF (tN n)) = ja at l8
  obtain ⟨j9, h9, v9⟩ := reg_see (p_r9 T base k s q (tN n) n ja) rfl
  have l9 := Leads.reg (N := 0) (n0 := 0) hE mixed (show codeOk (q9 pC) = true by kernel_rfl) h9 rfl
  have e9 : j9 = p9J q n (tN n) (T.cF (row33 k s (tN n))) (T.cI (row33 k s (tN n))) j9 := by
    simp only [List.map_cons, List.map_nil, List.cons.injEq] at v9
    obtain ⟨a2, a3, a4, a8, a9, a10, a11, _⟩ := v9
    unfold p9J yJ nJ bJ
    rw [up_self a2, up_self a3, up_self a4, up_self a8, up_self a9, up_self a10, up_self a11]
  rw [e9] at l9
  unfold rV
  generalize T.cF (row33 k s (tN n)) = x at l9 ⊢
  generalize T.cI (row33 k s (tN n)) = c at l9 ⊢
  have l10 := Leads.reg (N := 0) (n0 := 0) hE mixed (show codeOk p10 = true by kernel_rfl) (p_r10 T base k s q (tN n) n x c j9) rfl
  cases h3 : decide (c = 3) with
  | true =>
    rw [cond_true]
    refine ⟨fun p hp => ?_, fun h => by cases h⟩
    cases hp
    rw [h3] at l10
    have lc := Leads.condT (E := ET T base) (n0 := 0) (a := .seq (sa (ca p10c)) .ret) (b := .seq p12 (.cond (cx p12c) (.seq (sa (ca p12c)) .ret) (.seq p14 (.cond (cx p14c) (.seq (sa (ca p14c)) .ret) .skip)))) (p_x10 k s q (tN n) n x c (up (up j9 39 (vI c)) 40 (vB true)) true) (Leads.seq (Leads.reg (N := 0) hE mixed (show codeOk (sa (ca p10c)) = true by kernel_rfl) (p_r11 T base _ _) rfl) Leads.ret)
    exact ⟨_, Leads.seq (Leads.seq l6 l6c) (Leads.seqR (Leads.blockR (Leads.seq l8 (Leads.seq l9 (Leads.blockR (Leads.seq l10 lc))))))⟩
  | false =>
    rw [cond_false]
    rw [h3] at l10
    have l12 := Leads.reg (N := 0) (n0 := 0) hE mixed (show codeOk p12 = true by kernel_rfl) (p_r12 T base k s q (tN n) n x c (up (up (up j9 39 (vI c)) 40 (vB false)) 38 (vB false))) rfl
    cases h0 : decide (c = 0) with
    | false =>
      rw [Bool.not_false, cond_true]
      refine ⟨fun p hp => ?_, fun h => by cases h⟩
      cases hp
      rw [h0, Bool.not_false] at l12
      have lc2 := Leads.condT (E := ET T base) (n0 := 0) (a := .seq (sa (ca p12c)) .ret) (b := .seq p14 (.cond (cx p14c) (.seq (sa (ca p14c)) .ret) .skip)) (p_x12 k s q (tN n) n x c (up (up (up (up (up j9 39 (vI c)) 40 (vB false)) 38 (vB false)) 42 (vI c)) 43 (vB true)) true) (Leads.seq (Leads.reg (N := 0) hE mixed (show codeOk (sa (ca p12c)) = true by kernel_rfl) (p_r13 T base k s q (tN n) n x c _) rfl) Leads.ret)
      have lc := Leads.condF (E := ET T base) (n0 := 0) (a := .seq (sa (ca p10c)) .ret) (p_x10 k s q (tN n) n x c (up (up j9 39 (vI c)) 40 (vB false)) false) (Leads.seq l12 lc2)
      exact ⟨_, Leads.seq (Leads.seq l6 l6c) (Leads.seqR (Leads.blockR (Leads.seq l8 (Leads.seq l9 (Leads.blockR (Leads.seq l10 lc))))))⟩
    | true =>
      rw [Bool.not_true, cond_false]
      rw [h0, Bool.not_true] at l12
      have l14 := Leads.reg (N := 0) (n0 := 0) hE mixed (show codeOk p14 = true by kernel_rfl) (p_r14 T base k s q (tN n) n x c (up (up (up (up (up (up j9 39 (vI c)) 40 (vB false)) 38 (vB false)) 42 (vI c)) 43 (vB false)) 41 (vB false))) rfl
      cases hf : fle .f32 x q with
      | true =>
        rw [cond_true]
        refine ⟨fun p hp => ?_, fun h => by cases h⟩
        cases hp
        rw [hf] at l14
        have lc3 := Leads.condT (E := ET T base) (n0 := 0) (a := .seq (sa (ca p14c)) .ret) (b := .skip) (p_x14 k s q (tN n) n x c (up (up (up (up (up (up (up (up (up j9 39 (vI c)) 40 (vB false)) 38 (vB false)) 42 (vI c)) 43 (vB false)) 41 (vB false)) 46 (vF x)) 47 (vF q)) 48 (vB true)) true) (Leads.seq (Leads.reg (N := 0) hE mixed (show codeOk (sa (ca p14c)) = true by kernel_rfl) (p_r15 T base k s q (tN n) n x c _) rfl) Leads.ret)
        have lc2 := Leads.condF (E := ET T base) (n0 := 0) (a := .seq (sa (ca p12c)) .ret) (p_x12 k s q (tN n) n x c (up (up (up (up (up j9 39 (vI c)) 40 (vB false)) 38 (vB false)) 42 (vI c)) 43 (vB false)) false) (Leads.seq l14 lc3)
        have lc := Leads.condF (E := ET T base) (n0 := 0) (a := .seq (sa (ca p10c)) .ret) (p_x10 k s q (tN n) n x c (up (up j9 39 (vI c)) 40 (vB false)) false) (Leads.seq l12 lc2)
        exact ⟨_, Leads.seq (Leads.seq l6 l6c) (Leads.seqR (Leads.blockR (Leads.seq l8 (Leads.seq l9 (Leads.blockR (Leads.seq l10 lc))))))⟩
      | false =>
        rw [cond_false]
        refine ⟨fun p hp => (by cases hp), fun _ => ?_⟩
        rw [hf] at l14
        have lc3 := Leads.condF (E := ET T base) (n0 := 0) (a := .seq (sa (ca p14c)) .ret) (b := .skip) (p_x14 k s q (tN n) n x c (up (up (up (up (up (up (up (up (up j9 39 (vI c)) 40 (vB false)) 38 (vB false)) 42 (vI c)) 43 (vB false)) 41 (vB false)) 46 (vF x)) 47 (vF q)) 48 (vB false)) false) Leads.skip
        have lc2 := Leads.condF (E := ET T base) (n0 := 0) (a := .seq (sa (ca p12c)) .ret) (p_x12 k s q (tN n) n x c (up (up (up (up (up j9 39 (vI c)) 40 (vB false)) 38 (vB false)) 42 (vI c)) 43 (vB false)) false) (Leads.seq l14 lc3)
        have lc := Leads.condF (E := ET T base) (n0 := 0) (a := .seq (sa (ca p10c)) .ret) (p_x10 k s q (tN n) n x c (up (up j9 39 (vI c)) 40 (vB false)) false) (Leads.seq l12 lc2)
        have lr := Leads.block (id := 1) (Leads.seq l8 (Leads.seq l9 (Leads.block (id := 2) (Leads.seq l10 lc))))
        have e7 := fun jj => p_r7 T base k s q (tN n) n x c jj
        rw [wrap_in (by omega) (by omega)] at e7
        have l7 := fun jj => Leads.reg (N := 0) (n0 := 0) hE mixed (show codeOk (q7 pC) = true by kernel_rfl) (e7 jj) rfl
        have lt := Leads.seq (Leads.seq l6 l6c) (Leads.seq lr (l7 _))
        rw [p_eq] at lt
        exact ⟨_, lt⟩
theorem p_stop (hE : @EnvOk (iT T base) (ET T base)) (j : J) : ∃ j', @Leads (iT T base) (ET T base) 0 pBody (S 50 (nJ q ((257 : Nat) : Int) j) (Hd k s) true) (.exit 0) (S 50 j' (Hd k s) true) := by
  letI : Frn := iT T base
  have l6 := Leads.reg (N := 0) (n0 := 0) hE mixed (show codeOk (q6 pC) = true by kernel_rfl) (p_r6 T base k s q 257 j) rfl
  rw [decide_eq_false (show ¬ ((257 : Nat) : Int) ≤ 256 by omega)] at l6
  have l6c := Leads.condF (E := ET T base) (n0 := 0) (a := .skip) (b := .exit 0) (p_x6 k s q 257 (up j 23 (vI (257 : Nat))) false) Leads.exit
  exact ⟨_, Leads.seqX (Leads.seq l6 l6c)⟩
theorem p_loop (hE : @EnvOk (iT T base) (ET T base)) : ∀ (m n : Nat) (j : J), n + m = 257 → 1 ≤ n →
    (∃ j', @LeadsL (iT T base) (ET T base) 0 (m + 1) pBody (S 50 (nJ q n j) (Hd k s) true) .ret (S 50 (resJ (ansL T k s q m n).1 (ansL T k s q m n).2 j') (Hd k s) true)) ∨
    (ansL T k s q m n = (0, 6) ∧ ∃ j', @LeadsL (iT T base) (ET T base) 0 (m + 1) pBody (S 50 (nJ q n j) (Hd k s) true) (.exit 0) (S 50 j' (Hd k s) true))
  | 0, n, j, hn, h1 => by
    letI : Frn := iT T base
    have : n = 257 := by omega
    subst this
    obtain ⟨j', h⟩ := p_stop T base k s q hE j
    exact .inr ⟨rfl, j', LeadsL.stopX h⟩
  | m + 1, n, j, hn, h1 => by
    letI : Frn := iT T base
    obtain ⟨hs, hx⟩ := p_round T base k s q hE (n := n) (by omega) j
    rw [ansL]
    cases hr : rV T k s q n with
    | some p =>
      obtain ⟨j', h⟩ := hs p hr
      exact .inl ⟨j', stopR h⟩
    | none =>
      obtain ⟨j', h⟩ := hx hr
      rw [Option.getD_none]
      rcases p_loop hE m (n + 1) j' (by omega) (by omega) with ⟨j2, h3⟩ | ⟨e, j2, h3⟩
      · exact .inl ⟨j2, LeadsL.more h h3⟩
      · exact .inr ⟨e, j2, LeadsL.more h h3⟩
theorem p_leads (hE : @EnvOk (iT T base) (ET T base)) :
    ∃ s' h', @Leads (iT T base) (ET T base) 0 pC (startS Try.f14 [.agg (row16 k).toArray, .agg (row16 s).toArray, .float .f32 q] []) .ret s' ∧ @finK (iT T base) Try.prog Try.f14 .ret s' = some (ansV (ansT T k s q).1 (ansT T k s q).2, h', true) := by
  letI : Frn := iT T base
  rw [p_start, p_shape]
  have l0 := Leads.reg (N := 0) (n0 := 0) hE mixed (show codeOk (q0 pC) = true by kernel_rfl) (p_r0 T base k s q) rfl
  generalize up (up (up (up j0 0 (vA (row16 k))) 1 (vA (row16 s))) 6 (vF 0)) 7 (vI 0) = ja' at l0
  obtain ⟨j1, h1, v1⟩ := reg_see (p_r1 T base k s q ja') (FA_true _)
  simp only [List.map_cons, List.map_nil, List.cons.injEq] at v1
  obtain ⟨a2, a3, a4, c1, _⟩ := v1
  have b1 : j1 = bJ q j1 := b_self q a2 a3 a4
  have l1 := Leads.reg (N := 0) (n0 := 0) hE mixed (show codeOk (q1 pC) = true by kernel_rfl) h1 rfl
  have e1 : S 50 j1 (Hd k s) true = S 50 (bJ q (up j1 19 (vB (!(T.am (row16 k)) || !(T.am (row16 s)))))) (Hd k s) true := by rw [up_self c1, ← b1]
  rw [e1] at l1
  unfold ansT
  cases ha : (!(T.am (row16 k)) || !(T.am (row16 s))) with
  | true =>
    rw [cond_true]
    rw [ha] at l1
    have lc := Leads.condT (E := ET T base) (n0 := 0) (a := .seq (sa (ca (q1c pC))) .ret) (b := .skip) (p_x1 k s q j1 true) (Leads.seq (Leads.reg (N := 0) hE mixed (show codeOk (sa (ca (q1c pC))) = true by kernel_rfl) (p_r2 T base _ _) rfl) Leads.ret)
    exact ⟨_, _, Leads.seq l0 (Leads.seqR (Leads.seq l1 lc)), p_end T base _ _ _ _⟩
  | false =>
    rw [cond_false]
    rw [ha] at l1
    have lc := Leads.condF (E := ET T base) (n0 := 0) (a := .seq (sa (ca (q1c pC))) .ret) (b := .skip) (p_x1 k s q j1 false) Leads.skip
    generalize up j1 19 (vB false) = jb' at l1 lc
    obtain ⟨j3, h3, v3⟩ := reg_see (p_r3 T base k s q jb') rfl
    simp only [List.map_cons, List.map_nil, List.cons.injEq] at v3
    obtain ⟨b2, b3, b4, c3, _⟩ := v3
    have bb : j3 = bJ q j3 := b_self q b2 b3 b4
    have l3 := Leads.reg (N := 0) (n0 := 0) hE mixed (show codeOk (q3 pC) = true by kernel_rfl) h3 rfl
    have e3 : S 50 j3 (Hd k s) true = S 50 (bJ q (up j3 22 (vB (!(inW q))))) (Hd k s) true := by rw [up_self c3, ← bb]
    rw [e3] at l3
    cases hw : (!(inW q)) with
    | true =>
      rw [cond_true]
      rw [hw] at l3
      have lc3 := Leads.condT (E := ET T base) (n0 := 0) (a := .seq (sa (ca (q3c pC))) .ret) (b := .skip) (p_x3 k s q j3 true) (Leads.seq (Leads.reg (N := 0) hE mixed (show codeOk (sa (ca (q3c pC))) = true by kernel_rfl) (p_r4 T base _ _) rfl) Leads.ret)
      exact ⟨_, _, Leads.seq l0 (Leads.seq (Leads.seq l1 lc) (Leads.seqR (Leads.seq l3 lc3))), p_end T base _ _ _ _⟩
    | false =>
      rw [cond_false]
      rw [hw] at l3
      have lc3 := Leads.condF (E := ET T base) (n0 := 0) (a := .seq (sa (ca (q3c pC))) .ret) (b := .skip) (p_x3 k s q j3 false) Leads.skip
      generalize up j3 22 (vB false) = jd' at l3 lc3
      have l5 := Leads.reg (N := 0) (n0 := 0) hE mixed (show codeOk (q5 pC) = true by kernel_rfl) (p_r5 T base k s q jd') rfl
      rcases p_loop T base k s q hE 256 1 jd' (by omega) (by omega) with ⟨j', h⟩ | ⟨e, j', h⟩
      · exact ⟨_, _, Leads.seq l0 (Leads.seq (Leads.seq l1 lc) (Leads.seq (Leads.seq l3 lc3) (Leads.seqR (Leads.seq l5 (Leads.blockR (Leads.loop h)))))), p_end T base _ _ _ _⟩
      · rw [e]
        have l16 := Leads.reg (N := 0) (n0 := 0) hE mixed (show codeOk (q16 pC) = true by kernel_rfl) (p_r16 T base j' (Hd k s)) rfl
        exact ⟨_, _, Leads.seq l0 (Leads.seq (Leads.seq l1 lc) (Leads.seq (Leads.seq l3 lc3) (Leads.seq (Leads.seq l5 (Leads.blockX (Leads.loop h))) (Leads.seq l16 Leads.ret)))), p_end T base _ _ _ _⟩
end Hb
end Go.Proofs.Ytfgomdngffaffaa
end
