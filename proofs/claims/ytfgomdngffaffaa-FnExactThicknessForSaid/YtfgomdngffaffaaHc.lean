/-
  The thickness that hides enough: what the model and the program answer, over contracts. No condition.
-/
import Derived.Test.YtfgomdngffaffaaHb
set_option linter.unusedSectionVars false
set_option linter.unusedVariables false
noncomputable section
namespace Go.Proofs.Ytfgomdngffaffaa
namespace Hb
open Go Go.ChangeShapes Go.WideShapes Go.ChangeAt Go.RowKit Ev Sx

/-- no pointer into memory that is left out -/
def St4 (j : J) : Prop := ∀ m, m < 51 → (j m).2 = true → stayV 4 (j m).1 = true
theorem st_up {j : J} {i : Nat} {p : Value × Bool} (h : St4 j) (hp : p.2 = true → stayV 4 p.1 = true) : St4 (up j i p) := fun m hm => by
  unfold up
  cases hb : Nat.beq m i with
  | true => exact hp
  | false => exact h m hm
theorem cut_self {j : J} (h : St4 j) : ∀ m, m < 51 → okCut 4 (j m) (j m) := fun m hm => .inl ⟨rfl, h m hm⟩
theorem cut_up {j j' : J} {i : Nat} {p p' : Value × Bool} (h : ∀ m, m < 51 → okCut 4 (j m) (j' m)) (hp : okCut 4 p p') : ∀ m, m < 51 → okCut 4 (up j i p m) (up j' i p' m) := fun m hm => by
  unfold up
  cases hb : Nat.beq m i with
  | true => exact hp
  | false => exact h m hm
noncomputable def vJ : Value × Bool := (jnk, true)
theorem cut_st {p : Value × Bool} (hp : stayV 4 p.1 = true) : okCut 4 p p := .inl ⟨rfl, fun _ => hp⟩
theorem cut_dr {v : Value} (hp : dropB v = true) : okCut 4 (v, true) vJ := .inr ⟨rfl, rfl, hp⟩
theorem cutS {E : Env} [ι : Frn] {c : Code} {s : St} {e : Ex} {j j' : J} {h h' : Heap} (hl : Leads E 0 c s e (S 51 j h true)) (hh : lowH 4 (h.take 4) = true) (hp : h' = h.take 4) (ht : ∀ m, m < 51 → okCut 4 (j m) (j' m)) : Leads E 0 c s e (S 51 j' h' true) := by
  refine Leads.cut (n := 4) hl (Nat.zero_le 4) hh hp ?_ (fun i => ?_)
  · show ((List.range 51).map j').length = ((List.range 51).map j).length
    rw [List.length_map, List.length_map]
  · show okCut 4 (((List.range 51).map j).getD i (undef, false)) (((List.range 51).map j').getD i (undef, false))
    rw [List.getD_eq_getElem?_getD, List.getD_eq_getElem?_getD, List.getElem?_map, List.getElem?_map]
    by_cases hi : i < 51
    · rw [List.getElem?_range hi]; exact ht i hi
    · rw [List.getElem?_eq_none (by simp; omega)]
      exact .inl ⟨rfl, fun e => by cases e⟩
theorem up_self {j : J} {i : Nat} {p : Value × Bool} (h : j i = p) : up j i p = j := by
  funext m
  unfold up
  cases hb : Nat.beq m i with
  | true =>
    have := Nat.eq_of_beq_eq_true hb
    subst this
    exact h.symm
  | false => rfl
theorem S_of {s : St} {n : Nat} (h : s.tmps.length = n) : s = S n (fun m => s.tmps.getD m (undef, false)) s.heap s.ok := by
  have : s.tmps = (List.range n).map fun m => s.tmps.getD m (undef, false) := by
    refine List.ext_getElem? fun i => ?_
    rw [List.getElem?_map]
    by_cases hi : i < n
    · rw [List.getElem?_range hi, Option.map_some, List.getElem?_eq_getElem (by omega), List.getD_eq_getElem?_getD, List.getElem?_eq_getElem (by omega)]
      rfl
    · rw [List.getElem?_eq_none (by omega), List.getElem?_eq_none (by simp; omega)]; rfl
  cases s
  exact congrArg (fun t => St.mk t _ _) this
theorem reg_see [Frn] {E : Env} {c : Code} {s : St} {n : Nat} {h : Heap} {k : Bool} {sl : List Nat} {vs : List (Value × Bool)} (e : (regionOf E c s).map (see sl) = some (n, h, k, vs)) (hk : k = true) : ∃ j : J, regionOf E c s = some (S n j h true) ∧ sl.map j = vs := by
  obtain ⟨s', hs, e⟩ := Option.map_eq_some_iff.1 e
  unfold see at e
  simp only [Prod.mk.injEq] at e
  obtain ⟨e1, e2, e3, e4⟩ := e
  refine ⟨fun m => s'.tmps.getD m (undef, false), ?_, e4⟩
  exact hs.trans (congrArg some ((S_of e1).trans (by rw [e2, e3, hk])))
/-- named slots, and others that hold nothing of memory -/
def seeS (sl xs : List Nat) (s : St) : (Nat × Heap × Bool × List (Value × Bool)) × Bool := (see sl s, xs.all fun i => stayV 4 (s.tmps.getD i (undef, false)).1)
theorem reg_seeS [Frn] {E : Env} {c : Code} {s : St} {n : Nat} {h : Heap} {k : Bool} {sl xs : List Nat} {vs : List (Value × Bool)} (e : (regionOf E c s).map (seeS sl xs) = some ((n, h, k, vs), true)) (hk : k = true) : ∃ j : J, regionOf E c s = some (S n j h true) ∧ sl.map j = vs ∧ ∀ i ∈ xs, stayV 4 (j i).1 = true := by
  obtain ⟨s', hs, e⟩ := Option.map_eq_some_iff.1 e
  unfold seeS see at e
  simp only [Prod.mk.injEq] at e
  obtain ⟨⟨e1, e2, e3, e4⟩, e5⟩ := e
  refine ⟨fun m => s'.tmps.getD m (undef, false), ?_, e4, fun i hi => List.all_eq_true.1 e5 i hi⟩
  exact hs.trans (congrArg some ((S_of e1).trans (by rw [e2, e3, hk])))
theorem st_see {j j' : J} {sl xs : List Nat} (hc : ∀ m, m < 51 → m ∈ sl ∨ m ∈ xs) (hj : St4 j') (he : sl.map j = sl.map j') (hx : ∀ i ∈ xs, stayV 4 (j i).1 = true) : St4 j := fun m hm hp => by
  rcases hc m hm with h | h
  · have := List.map_inj_left.1 he m h
    rw [this] at hp ⊢
    exact hj m hm hp
  · exact hx m h
def sl1 : List Nat := (List.range 12) ++ (List.range 32).map (· + 19)
def sl3 : List Nat := (List.range 20) ++ (List.range 25).map (· + 26)
variable (T : Told) (base : Nat) (k s : Nat → Nat) (q : Nat)
theorem m_s1 (j : J) : (@regionOf (iT T base) (ET T base) (q1 mC) (S 51 (bJ q j) (Hd k s) true)).map (seeS sl1 [12, 13, 14, 15, 16, 17, 18]) = some ((51, Hd k s, FA (T.am (row16 k)), sl1.map (up (bJ q j) 19 (vB (!(T.am (row16 k)) || !(T.am (row16 s)))))), true) := by kernel_rfl
theorem m_s3 (j : J) : (@regionOf (iT T base) (ET T base) (q3 mC) (S 51 (bJ q j) (Hd k s) true)).map (seeS sl3 [20, 21, 22, 23, 24, 25]) = some ((51, Hd k s, FW (fge .f32 q 0), sl3.map (up (bJ q j) 26 (vB (!(inW q))))), true) := by kernel_rfl
/-- what a round answers -/
def rV (n : Nat) : Option (Nat × Int) := bif decide (T.cI (row33 k s (tN n)) = 3) then some (0, 6) else bif !(decide (T.cI (row33 k s (tN n)) = 0)) then some (0, T.cI (row33 k s (tN n))) else bif fle .f32 (T.cF (row33 k s (tN n))) q then some (tN n, 0) else none
def ansL : Nat → Nat → Nat × Int
  | 0, _ => (0, 6)
  | m + 1, n => (rV T k s q n).getD (ansL m (n + 1))
def ansT : Nat × Int := bif !(T.am (row16 k)) || !(T.am (row16 s)) then (0, 1) else bif !(inW q) then (0, 2) else ansL T k s q 256 1
theorem row16_low (k : Nat → Nat) : stayV 4 (.agg (row16 k).toArray) = true := by kernel_rfl
theorem row33_low (t : Nat) : stayV 4 (.agg (row33 k s t).toArray) = true := by kernel_rfl
theorem H4 (t : Nat) : lowH 4 ((HX k s t).take 4) = true := by kernel_rfl
def j8 (n : Nat) (j : J) : J := up (up (up (up (up (up j 31 (vA (row16 k))) 32 (vA (row16 s))) 33 (vI n)) 34 (vF (FloatKind.f32.nearest (n : Int)))) 35 (vF (tN n))) 36 (vA (row33 k s (tN n)))
def j9 (t x : Nat) (c : Int) (j : J) : J := up (up (up (up j 38 (ansV x c, true)) 37 (ansV x c, true)) 39 (vF x)) 40 (vI c)
theorem j8_st {n : Nat} {j : J} (h : St4 j) : St4 (j8 k s n j) := st_up (st_up (st_up (st_up (st_up (st_up h fun _ => row16_low k) fun _ => row16_low s) fun _ => rfl) fun _ => rfl) fun _ => rfl) fun _ => row33_low k s _
theorem j9_st {t x : Nat} {c : Int} {j : J} (h : St4 j) : St4 (j9 t x c j) := st_up (st_up (st_up (st_up h fun _ => rfl) fun _ => rfl) fun _ => rfl) fun _ => rfl
theorem m_cutE (q n t x : Nat) (c : Int) (j : J) (h : Heap) : S 51 (up (up (up (nJ q n j) 9 vJ) 10 (vF x)) 11 (vI c)) h true = S 51 (nJ q n (up (up (up j 9 vJ) 10 (vF x)) 11 (vI c))) h true := by kernel_rfl
theorem m_round (hE : @EnvOk (iT T base) (ET T base)) {n : Nat} (hn : n ≤ 256) (hK : T.kX (HX k s (tN n)) (row33 k s (tN n))) {j : J} (hj : St4 j) :
    (∀ p, rV T k s q n = some p → ∃ j' h', @Leads (iT T base) (ET T base) 0 mBody (S 51 (nJ q n j) (Hd k s) true) .ret (S 51 (resJ p.1 p.2 j') h' true)) ∧
    (rV T k s q n = none → ∃ j', St4 j' ∧ @Leads (iT T base) (ET T base) 0 mBody (S 51 (nJ q n j) (Hd k s) true) .normal (S 51 (nJ q ((n + 1 : Nat) : Int) j') (Hd k s) true)) := by
  letI : Frn := iT T base
  have hj1 : St4 (up (up j 27 (vI n)) 28 (vB true)) := st_up (st_up hj fun _ => rfl) fun _ => rfl
  have l6 := Leads.reg (N := 0) (n0 := 0) hE mixed (show codeOk (q6 mC) = true by kernel_rfl) (m_r6 T base k s q n j) rfl
  rw [decide_eq_true (show (n : Int) ≤ 256 by omega)] at l6
  have l6c := Leads.condT (E := ET T base) (n0 := 0) (a := .skip) (b := .exit 0) (m_x6 k s q n (up j 27 (vI n)) true) Leads.skip
  have e8 := m_r8 T base k s q n (up (up j 27 (vI n)) 28 (vB true))
  rw [FC_true] at e8
  have l8 := Leads.reg (N := 0) (n0 := 0) hE mixed (show codeOk (q8 mC) = true by kernel_rfl) e8 rfl
  have e9 := m_r9 T base k s q (tN n) n (j8 k s n (up (up j 27 (vI n)) 28 (vB true)))
  have hk : (isB (T.kX (HX k s (tN n)) (row33 k s (tN n))) && true) = true := by
    unfold isB
    rw [Bool.and_true]
    exact @decide_eq_true _ (Classical.propDecidable _) hK
  rw [hk] at e9
  have l9 := Leads.reg (N := 0) (n0 := 0) hE mixed (show codeOk (q9 mC) = true by kernel_rfl) e9 rfl
  have hj9 : St4 (j9 (tN n) (T.cF (row33 k s (tN n))) (T.cI (row33 k s (tN n))) (j8 k s n (up (up j 27 (vI n)) 28 (vB true)))) := j9_st (j8_st k s hj1)
  have l10 := Leads.reg (N := 0) (n0 := 0) hE mixed (show codeOk m10 = true by kernel_rfl) (m_r10 T base k s q (tN n) n (T.cF (row33 k s (tN n))) (T.cI (row33 k s (tN n))) (j9 (tN n) (T.cF (row33 k s (tN n))) (T.cI (row33 k s (tN n))) (j8 k s n (up (up j 27 (vI n)) 28 (vB true))))) rfl
  generalize hjj : j9 (tN n) (T.cF (row33 k s (tN n))) (T.cI (row33 k s (tN n))) (j8 k s n (up (up j 27 (vI n)) 28 (vB true))) = ja at hj9 l10
  have l9' : @Leads (iT T base) (ET T base) 0 (q9 mC) (S 51 (xJ q n (j8 k s n (up (up j 27 (vI n)) 28 (vB true)))) (HX k s (tN n)) true) .normal (S 51 (m9J q n (T.cF (row33 k s (tN n))) (T.cI (row33 k s (tN n))) ja) (HX k s (tN n)) true) := by
    rw [← hjj]; exact l9
  unfold rV
  generalize T.cF (row33 k s (tN n)) = x at l9' l10 ⊢
  generalize T.cI (row33 k s (tN n)) = c at l9' l10 ⊢
  cases h3 : decide (c = 3) with
  | true =>
    rw [cond_true]
    refine ⟨fun p hp => ?_, fun h => by cases h⟩
    cases hp
    rw [h3] at l10
    have lc := Leads.condT (E := ET T base) (n0 := 0) (a := .seq (sa (ca m10c)) .ret) (b := .skip) (m_x10 k s q (tN n) n x c (up ja 41 (vI c)) true) (Leads.seq (Leads.reg (N := 0) hE mixed (show codeOk (sa (ca m10c)) = true by kernel_rfl) (m_r11 T base _ _) rfl) Leads.ret)
    exact ⟨_, _, Leads.seq (Leads.seq l6 l6c) (Leads.seqR (Leads.blockR (Leads.seq l8 (Leads.seq l9' (Leads.seqR (Leads.seq l10 lc))))))⟩
  | false =>
    rw [cond_false]
    rw [h3] at l10
    have lc := Leads.condF (E := ET T base) (n0 := 0) (a := .seq (sa (ca m10c)) .ret) (b := .skip) (m_x10 k s q (tN n) n x c (up ja 41 (vI c)) false) Leads.skip
    have l12 := Leads.reg (N := 0) (n0 := 0) hE mixed (show codeOk m12 = true by kernel_rfl) (m_r12 T base k s q (tN n) n x c (up (up ja 41 (vI c)) 42 (vB false))) rfl
    have hjb : St4 (up (up ja 41 (vI c)) 42 (vB false)) := st_up (st_up hj9 fun _ => rfl) fun _ => rfl
    generalize up (up ja 41 (vI c)) 42 (vB false) = jb at lc l12 l10 hjb
    cases h0 : decide (c = 0) with
    | false =>
      rw [Bool.not_false, cond_true]
      refine ⟨fun p hp => ?_, fun h => by cases h⟩
      cases hp
      rw [h0, Bool.not_false] at l12
      have lc2 := Leads.condT (E := ET T base) (n0 := 0) (a := .seq (sa (ca m12c)) .ret) (b := .skip) (m_x12 k s q (tN n) n x c (up jb 43 (vI c)) true) (Leads.seq (Leads.reg (N := 0) hE mixed (show codeOk (sa (ca m12c)) = true by kernel_rfl) (m_r13 T base k s q (tN n) n x c _) rfl) Leads.ret)
      exact ⟨_, _, Leads.seq (Leads.seq l6 l6c) (Leads.seqR (Leads.blockR (Leads.seq l8 (Leads.seq l9' (Leads.seq (Leads.seq l10 lc) (Leads.seqR (Leads.seq l12 lc2)))))))⟩
    | true =>
      rw [Bool.not_true, cond_false]
      rw [h0, Bool.not_true] at l12
      have lc2 := Leads.condF (E := ET T base) (n0 := 0) (a := .seq (sa (ca m12c)) .ret) (b := .skip) (m_x12 k s q (tN n) n x c (up jb 43 (vI c)) false) Leads.skip
      have l14 := Leads.reg (N := 0) (n0 := 0) hE mixed (show codeOk m14 = true by kernel_rfl) (m_r14 T base k s q (tN n) n x c (up (up jb 43 (vI c)) 44 (vB false))) rfl
      have hjc : St4 (up (up jb 43 (vI c)) 44 (vB false)) := st_up (st_up hjb fun _ => rfl) fun _ => rfl
      generalize up (up jb 43 (vI c)) 44 (vB false) = jc at lc2 l12 l14 hjc
      cases hf : fle .f32 x q with
      | true =>
        rw [cond_true]
        refine ⟨fun p hp => ?_, fun h => by cases h⟩
        cases hp
        rw [hf] at l14
        have lc3 := Leads.condT (E := ET T base) (n0 := 0) (a := .seq (sa (ca m14c)) .ret) (b := .skip) (m_x14 k s q (tN n) n x c (up (up jc 46 (vF x)) 47 (vF q)) true) (Leads.seq (Leads.reg (N := 0) hE mixed (show codeOk (sa (ca m14c)) = true by kernel_rfl) (m_r15 T base k s q (tN n) n x c _) rfl) Leads.ret)
        exact ⟨_, _, Leads.seq (Leads.seq l6 l6c) (Leads.seqR (Leads.blockR (Leads.seq l8 (Leads.seq l9' (Leads.seq (Leads.seq l10 lc) (Leads.seq (Leads.seq l12 lc2) (Leads.seq l14 lc3)))))))⟩
      | false =>
        rw [cond_false]
        refine ⟨fun p hp => (by cases hp), fun _ => ?_⟩
        rw [hf] at l14
        have lc3 := Leads.condF (E := ET T base) (n0 := 0) (a := .seq (sa (ca m14c)) .ret) (b := .skip) (m_x14 k s q (tN n) n x c (up (up jc 46 (vF x)) 47 (vF q)) false) Leads.skip
        have hjd : St4 (up (up (up jc 46 (vF x)) 47 (vF q)) 48 (vB false)) := st_up (st_up (st_up hjc fun _ => rfl) fun _ => rfl) fun _ => rfl
        have e7 := m_r7 T base k s q (tN n) n x c (up (up (up jc 46 (vF x)) 47 (vF q)) 48 (vB false))
        rw [wrap_in (by omega) (by omega)] at e7
        generalize up (up (up jc 46 (vF x)) 47 (vF q)) 48 (vB false) = jd at lc3 l14 e7 hjd
        have l7 := Leads.reg (N := 0) (n0 := 0) hE mixed (show codeOk (q7 mC) = true by kernel_rfl) e7 rfl
        have hje : St4 (up (up jd 29 (vI n)) 30 (vI ((n : Int) + 1))) := st_up (st_up hjd fun _ => rfl) fun _ => rfl
        have lr := Leads.seq (Leads.seq l6 l6c) (Leads.seq (Leads.block (id := 1) (Leads.seq l8 (Leads.seq l9' (Leads.seq (Leads.seq l10 lc) (Leads.seq (Leads.seq l12 lc2) (Leads.seq l14 lc3)))))) l7)
        generalize up (up jd 29 (vI n)) 30 (vI ((n : Int) + 1)) = je at lr hje
        refine ⟨up (up (up je 9 vJ) 10 (vF x)) 11 (vI c), st_up (st_up (st_up hje fun _ => rfl) fun _ => rfl) fun _ => rfl, ?_⟩
        have hb : ∀ m, m < 51 → okCut 4 (nJ q ((n + 1 : Nat) : Int) je m) (nJ q ((n + 1 : Nat) : Int) je m) := cut_self (st_up (st_up (st_up (st_up hje fun _ => rfl) fun _ => rfl) fun _ => rfl) fun _ => rfl)
        have hfin := cutS (h' := Hd k s) lr (H4 k s _) rfl (cut_up (i := 11) (cut_up (i := 10) (cut_up (i := 9) hb (p := vP 10) (p' := vJ) (cut_dr rfl)) (p := vF x) (cut_st rfl)) (p := vI c) (cut_st rfl))
        rw [← m_cutE q (n + 1) (tN n) x c je]
        exact hfin
end Hb
end Go.Proofs.Ytfgomdngffaffaa
end
