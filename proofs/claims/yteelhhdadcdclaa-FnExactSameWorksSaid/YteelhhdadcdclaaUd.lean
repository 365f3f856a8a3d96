/-
  Sorks that are the same: where the two functions lead, over contracts. No condition.
-/
import Derived.Test.YteelhhdadcdclaaUc
set_option linter.unusedSectionVars false
set_option linter.unusedVariables false
noncomputable section
namespace Go.Proofs.Yteelhhdadcdclaa
namespace Zb
open Go Go.ChangeShapes Go.WideShapes Go.ChangeAt Go.RowKit Ev
theorem up_self {j : J} {i : Nat} {p : Value × Bool} (h : j i = p) : up j i p = j := by
  funext m
  unfold up
  cases hb : Nat.beq m i with
  | true =>
    have := Nat.eq_of_beq_eq_true hb
    subst this
    exact h.symm
  | false => rfl
theorem S_of {s : St} {n : Nat} (h : s.tmps.length = n) : s = S n (fun m => s.tmps.getD m (undef, false)) s.heap s.ok := by
  have : s.tmps = (List.range n).map fun m => s.tmps.getD m (undef, false) := by
    refine List.ext_getElem? fun i => ?_
    rw [List.getElem?_map]
    by_cases hi : i < n
    · rw [List.getElem?_range hi, Option.map_some, List.getElem?_eq_getElem (by omega), List.getD_eq_getElem?_getD, List.getElem?_eq_getElem (by omega)]
      rfl
    · rw [List.getElem?_eq_none (by omega), List.getElem?_eq_none (by simp; omega)]; rfl
  cases s
  exact congrArg (fun t => St.mk t _ _) this
theorem reg_see [Frn] {E : Env} {c : Code} {s : St} {n : Nat} {h : Heap} {k : Bool} {sl : List Nat} {vs : List (Value × Bool)} (e : (regionOf E c s).map (see sl) = some (n, h, k, vs)) (hk : k = true) : ∃ j : J, regionOf E c s = some (S n j h true) ∧ sl.map j = vs := by
  obtain ⟨s', hs, e⟩ := Option.map_eq_some_iff.1 e
  unfold see at e
  simp only [Prod.mk.injEq] at e
  obtain ⟨e1, e2, e3, e4⟩ := e
  refine ⟨fun m => s'.tmps.getD m (undef, false), ?_, e4⟩
  exact hs.trans (congrArg some ((S_of e1).trans (by rw [e2, e3, hk])))
theorem stopR {E : Env} [ι : Frn] {n0 n : Nat} {a : Code} {s s' : St} (h : Leads E n0 a s .ret s') : LeadsL E n0 (n + 1) a s .ret s' := fun D μ0 B w0 _ x w hn hs hQ => by
  rw [rounds_succ]
  exact h D μ0 B w0 _ x w hn hs fun a' w' hs' => hQ a' w' hs'
/-! ### leaving blocks out -/
def St0 (j : J) : Prop := ∀ m, (j m).2 = true → stayV 0 (j m).1 = true
theorem st_up {j : J} {i : Nat} {p : Value × Bool} (h : St0 j) (hp : p.2 = true → stayV 0 p.1 = true) : St0 (up j i p) := fun m => by
  unfold up
  cases hb : Nat.beq m i with
  | true => exact hp
  | false => exact h m
theorem cut_self {j : J} (h : St0 j) : ∀ m, okCut 0 (j m) (j m) := fun m => .inl ⟨rfl, h m⟩
theorem cut_up {j j' : J} {i : Nat} {p p' : Value × Bool} (h : ∀ m, okCut 0 (j m) (j' m)) (hp : okCut 0 p p') : ∀ m, okCut 0 (up j i p m) (up j' i p' m) := fun m => by
  unfold up
  cases hb : Nat.beq m i with
  | true => exact hp
  | false => exact h m
noncomputable def vJ : Value × Bool := (jnk, true)
theorem cut_st {p : Value × Bool} (hp : stayV 0 p.1 = true) : okCut 0 p p := .inl ⟨rfl, fun _ => hp⟩
theorem cut_dr {v : Value} (hp : dropB v = true) : okCut 0 (v, true) vJ := .inr ⟨rfl, rfl, hp⟩
theorem cutS {E : Env} [ι : Frn] {c : Code} {s : St} {e : Ex} {N : Nat} {j j' : J} {h : Heap} (hl : Leads E 0 c s e (S N j h true)) (ht : ∀ m, okCut 0 (j m) (j' m)) : Leads E 0 c s e (S N j' [] true) := by
  refine Leads.cut (n := 0) hl (Nat.le_refl 0) (by rw [List.take_zero]; rfl) (by rw [List.take_zero]; rfl) ?_ (fun i => ?_)
  · show ((List.range N).map j').length = ((List.range N).map j).length
    rw [List.length_map, List.length_map]
  · show okCut 0 (((List.range N).map j).getD i (undef, false)) (((List.range N).map j').getD i (undef, false))
    rw [List.getD_eq_getElem?_getD, List.getD_eq_getElem?_getD, List.getElem?_map, List.getElem?_map]
    by_cases hi : i < N
    · rw [List.getElem?_range hi]; exact ht i
    · rw [List.getElem?_eq_none (by simp; omega)]
      exact .inl ⟨rfl, fun e => by cases e⟩
theorem low_of {r : List Value} (h : shapeB batK r = true) : stayV 0 (.agg r.toArray) = true := by
  have h := shape_bare h
  show r.all (lowV 0) = true
  rw [List.all_eq_true] at h ⊢
  intro v hv
  have := h v hv
  cases v <;> first | rfl | cases this
theorem row_full {r : List Value} (h : r.length = 9) : setRow zP 0 r = r := by
  unfold setRow
  rw [List.take_zero, List.nil_append, List.drop_eq_nil_of_le (by rw [h]; decide), List.append_nil]
theorem q5_true {cs : List Value} {l i : Nat} (hb : rowsB batK l cs = true) (hi : i < l) : q5 (recAt 9 cs i) i l cs = true := by
  have hlen := rowsB_len hb
  have hre := rec_len (m := 9) hlen hi
  have h1 : (i + 1) * 9 ≤ l * 9 := Nat.mul_le_mul_right 9 hi
  unfold q5
  rw [hre, show (recAt 9 cs i).all scalarB = true from bare_scalar (shape_bare (rowsB_at hb hi)), hlen, ble_of (show i * 9 + 9 ≤ l * batK.length by show i * 9 + 9 ≤ l * 9; omega), inB_true hi]; rfl
def allP (P : Nat → Bool) : Nat → Nat → Bool
  | 0, _ => true
  | m + 1, i => P i && allP P m (i + 1)
theorem eJ_in (l c l2 c2 : Nat) (n i : Int) (j : J) (h : Heap) : S 32 (up (up (up (eJ l c l2 c2 n j) 8 vJ) 7 (vI i)) 9 vJ) h true = S 32 (eJ l c l2 c2 n (up (up (up j 8 vJ) 7 (vI i)) 9 vJ)) h true := by kernel_rfl
section
variable (ι : Frn) (T : Told) {l : Nat} {cs ds : List Value}
theorem e_round (hE : @EnvOk ι (@EZ T ι)) (hr0 : @Frn.row ι 0 = cs) (hr1 : @Frn.row ι 1 = ds) (hb : rowsB batK l cs = true) (hb2 : rowsB batK l ds = true) (hl : l ≤ 9223372036854775807) (c c2 i : Nat) (j : J) (hi : i < l) (hj : St0 j) :
    (T.sp (recAt 9 cs i) (recAt 9 ds i) = true → ∃ j', St0 j' ∧ @Leads ι (@EZ T ι) 0 eBody (S 32 (eJ l c l c2 i j) [] true) .normal (S 32 (eJ l c l c2 ((i + 1 : Nat) : Int) j') [] true)) ∧
    (T.sp (recAt 9 cs i) (recAt 9 ds i) = false → ∃ j' h', @Leads ι (@EZ T ι) 0 eBody (S 32 (eJ l c l c2 i j) [] true) .ret (S 32 (up j' 6 (vB false)) h' true)) := by
  letI : Frn := ι
  have s1 := rowsB_at hb hi
  have s2 := rowsB_at hb2 hi
  have hre : (recAt 9 cs i).length = 9 := rec_len (rowsB_len hb) hi
  have hre2 : (recAt 9 ds i).length = 9 := rec_len (rowsB_len hb2) hi
  have l4 := Leads.reg (N := 0) (n0 := 0) hE mixed (show codeOk e4 = true by kernel_rfl) (e_r4 ι T l c l c2 i j) rfl
  rw [decide_eq_true (show (i : Int) < (l : Int) by omega)] at l4
  have l4c := Leads.condT (E := @EZ T ι) (n0 := 0) (a := .skip) (b := .exit 0) (e_x4 l c l c2 i j true) Leads.skip
  have e5' := e_r5 ι T l c l c2 i (up j 18 (vB true))
  rw [hr0, row_full hre, q5_true hb hi] at e5'
  have l5 := Leads.reg (N := 0) (n0 := 0) hE mixed (show codeOk e5 = true by kernel_rfl) e5' rfl
  have hj1 : St0 (up (up (up (up j 18 (vB true)) 19 (vI i)) 20 (vR 0 (i * 9))) 21 (vA (recAt 9 cs i))) := st_up (st_up (st_up (st_up hj fun _ => rfl) fun _ => rfl) fun _ => rfl) fun _ => low_of s1
  generalize up (up (up (up j 18 (vB true)) 19 (vI i)) 20 (vR 0 (i * 9))) 21 (vA (recAt 9 cs i)) = j1 at l5 hj1
  have e6' := e_r6 ι T l c l c2 i j1 (recAt 9 cs i)
  rw [hr1, row_full hre2, q5_true hb2 hi] at e6'
  have l6 := Leads.reg (N := 0) (n0 := 0) hE mixed (show codeOk e6 = true by kernel_rfl) e6' rfl
  have hj2 : St0 (up (up (up (up j1 22 (vT 1 l c2)) 23 (vI i)) 24 (vR 1 (i * 9))) 25 (vA (recAt 9 ds i))) := st_up (st_up (st_up (st_up hj1 fun _ => rfl) fun _ => rfl) fun _ => rfl) fun _ => low_of s2
  generalize up (up (up (up j1 22 (vT 1 l c2)) 23 (vI i)) 24 (vR 1 (i * 9))) 25 (vA (recAt 9 ds i)) = j2 at l6 hj2
  have e7' := e_r7 ι T l c l c2 i j2 (recAt 9 cs i) (recAt 9 ds i)
  rw [List.take_of_length_le (show (recAt 9 cs i).length ≤ 9 by omega), List.take_of_length_le (show (recAt 9 ds i).length ≤ 9 by omega)] at e7'
  have hs1 : shapeB batK (recAt 9 cs i) = true := s1
  have hs2 : shapeB batK (recAt 9 ds i) = true := s2
  rw [hs1, hs2, hre, hre2] at e7'
  have l7 := Leads.reg (N := 0) (n0 := 0) hE mixed (show codeOk e7 = true by kernel_rfl) e7' rfl
  have hj3 : St0 (up (up (up (up j2 26 fV) 27 (vA (recAt 9 cs i))) 28 (vA (recAt 9 ds i))) 29 (vB (T.sp (recAt 9 cs i) (recAt 9 ds i)))) := st_up (st_up (st_up (st_up hj2 fun _ => rfl) fun _ => low_of s1) fun _ => low_of s2) fun _ => rfl
  generalize up (up (up (up j2 26 fV) 27 (vA (recAt 9 cs i))) 28 (vA (recAt 9 ds i))) 29 (vB (T.sp (recAt 9 cs i) (recAt 9 ds i))) = j3 at l7 hj3
  constructor
  · intro hp
    rw [hp] at l7
    have l7c := Leads.condF (E := @EZ T ι) (n0 := 0) (a := .seq (sa (ca e7c)) .ret) (b := .skip) (e_x7 l c l c2 i j3 (H6 (recAt 9 cs i) (recAt 9 ds i)) false) Leads.skip
    have hj4 : St0 (up j3 30 (vB false)) := st_up hj3 fun _ => rfl
    have e9' := e_r9 ι T l c l c2 i (up j3 30 (vB false)) (recAt 9 cs i) (recAt 9 ds i)
    rw [wrap_in (by omega) (by omega)] at e9'
    have l9 := Leads.reg (N := 0) (n0 := 0) hE mixed (show codeOk e9 = true by kernel_rfl) e9' rfl
    have lr := Leads.seq l4 (Leads.seq l4c (Leads.seq (Leads.block (id := 1) (Leads.seq l5 (Leads.seq l6 (Leads.seq l7 l7c)))) l9))
    have hj5 : St0 (up (up j3 30 (vB false)) 31 (vI ((i : Int) + 1))) := st_up hj4 fun _ => rfl
    generalize up (up j3 30 (vB false)) 31 (vI ((i : Int) + 1)) = j5 at lr hj5
    have hb : ∀ m, okCut 0 (eJ l c l c2 ((i + 1 : Nat) : Int) j5 m) (eJ l c l c2 ((i + 1 : Nat) : Int) j5 m) := cut_self (st_up (st_up (st_up (st_up (st_up (st_up hj5 fun _ => rfl) fun _ => rfl) fun _ => rfl) fun _ => rfl) fun _ => rfl) fun _ => rfl)
    have hfin := cutS lr (cut_up (i := 9) (cut_up (i := 7) (cut_up (i := 8) hb (p := vP 3) (p' := vJ) (cut_dr rfl)) (p := vI i) (cut_st rfl)) (p := vP 10) (p' := vJ) (cut_dr rfl))
    refine ⟨up (up (up j5 8 vJ) 7 (vI i)) 9 vJ, st_up (st_up (st_up hj5 fun _ => rfl) fun _ => rfl) fun _ => rfl, ?_⟩
    rw [← eJ_in l c l c2 ((i + 1 : Nat) : Int) i j5]
    exact hfin
  · intro hp
    rw [hp] at l7
    have l7c := Leads.condT (E := @EZ T ι) (n0 := 0) (a := .seq (sa (ca e7c)) .ret) (b := .skip) (e_x7 l c l c2 i j3 (H6 (recAt 9 cs i) (recAt 9 ds i)) true) (Leads.seq (Leads.reg (N := 0) hE mixed (show codeOk (sa (ca e7c)) = true by kernel_rfl) (e_r8 ι T _ _) rfl) Leads.ret)
    exact ⟨_, _, Leads.seq l4 (Leads.seq l4c (Leads.seqR (Leads.blockR (Leads.seq l5 (Leads.seq l6 (Leads.seq l7 l7c))))))⟩
theorem e_stop (hE : @EnvOk ι (@EZ T ι)) (c c2 : Nat) (j : J) : ∃ j', @Leads ι (@EZ T ι) 0 eBody (S 32 (eJ l c l c2 (l : Int) j) [] true) (.exit 0) (S 32 j' [] true) := by
  letI : Frn := ι
  have l4 := Leads.reg (N := 0) (n0 := 0) hE mixed (show codeOk e4 = true by kernel_rfl) (e_r4 ι T l c l c2 l j) rfl
  rw [decide_eq_false (show ¬ (l : Int) < (l : Int) by omega)] at l4
  have l4c := Leads.condF (E := @EZ T ι) (n0 := 0) (a := .skip) (b := .exit 0) (e_x4 l c l c2 l j false) Leads.exit
  exact ⟨_, Leads.seq l4 (Leads.seqX l4c)⟩
theorem e_loop (hE : @EnvOk ι (@EZ T ι)) (hr0 : @Frn.row ι 0 = cs) (hr1 : @Frn.row ι 1 = ds) (hb : rowsB batK l cs = true) (hb2 : rowsB batK l ds = true) (hl : l ≤ 9223372036854775807) (c c2 : Nat) : ∀ (m i : Nat) (j : J), i + m = l → St0 j →
    (allP (fun i => T.sp (recAt 9 cs i) (recAt 9 ds i)) m i = true ∧ ∃ j', @LeadsL ι (@EZ T ι) 0 (m + 1) eBody (S 32 (eJ l c l c2 i j) [] true) (.exit 0) (S 32 j' [] true)) ∨
    (allP (fun i => T.sp (recAt 9 cs i) (recAt 9 ds i)) m i = false ∧ ∃ j' h', @LeadsL ι (@EZ T ι) 0 (m + 1) eBody (S 32 (eJ l c l c2 i j) [] true) .ret (S 32 (up j' 6 (vB false)) h' true))
  | 0, i, j, h, hj => by
    letI : Frn := ι
    have hi : i = l := by omega
    subst hi
    obtain ⟨j', k⟩ := e_stop ι T (l := i) hE c c2 j
    exact .inl ⟨rfl, j', LeadsL.stopX k⟩
  | m + 1, i, j, h, hj => by
    letI : Frn := ι
    obtain ⟨ht, hf⟩ := e_round ι T hE hr0 hr1 hb hb2 hl c c2 i j (by omega) hj
    rw [allP]
    cases hk : T.sp (recAt 9 cs i) (recAt 9 ds i) with
    | false =>
      obtain ⟨j', h', k⟩ := hf hk
      exact .inr ⟨rfl, j', h', stopR k⟩
    | true =>
      obtain ⟨j', hj', k⟩ := ht hk
      rw [Bool.true_and]
      rcases e_loop hE hr0 hr1 hb hb2 hl c c2 m (i + 1) j' (by omega) hj' with ⟨e, j2, k2⟩ | ⟨e, j2, h2, k2⟩
      · exact .inl ⟨e, j2, LeadsL.more k k2⟩
      · exact .inr ⟨e, j2, h2, LeadsL.more k k2⟩
theorem e_leads {l2 : Nat} (hE : @EnvOk ι (@EZ T ι)) (hr0 : @Frn.row ι 0 = cs) (hr1 : @Frn.row ι 1 = ds) (hb : rowsB batK l cs = true) (hb2 : rowsB batK l2 ds = true) (hl : l ≤ 9223372036854775807) (c c2 : Nat) : ∃ s' h', @Leads ι (@EZ T ι) 0 eC (startS Try.f21 [tok 0 l c, tok 1 l2 c2, .func (.func 22) #[] #[]] []) .ret s' ∧
    @finK ι Try.prog Try.f21 .ret s' = some (.bool (decide (l = l2) && allP (fun i => T.sp (recAt 9 cs i) (recAt 9 ds i)) l 0), h', true) := by
  letI : Frn := ι
  rw [e_start, e_shape]
  have l0 := Leads.reg (N := 0) (n0 := 0) hE mixed (show codeOk e0 = true by kernel_rfl) (e_r0 ι T l c l2 c2 j0) rfl
  have l1 := Leads.reg (N := 0) (n0 := 0) hE mixed (show codeOk e1 = true by kernel_rfl) (e_r1 ι T l c l2 c2 (up j0 6 (vB false))) rfl
  have jn : St0 j0 := fun m e => by cases e
  by_cases h : l = l2
  · subst h
    rw [decide_eq_true (show (l : Int) = (l : Int) from rfl)] at l1
    have l1c := Leads.condF (E := @EZ T ι) (n0 := 0) (a := .seq (sa (ca e1c)) .ret) (b := .skip) (e_x1 l c l c2 (up (up (up (up (up j0 6 (vB false)) 10 (vT 0 l c)) 11 (vI l)) 12 (vT 1 l c2)) 13 (vI l)) false) Leads.skip
    have hj : St0 (up (up (up (up (up (up j0 6 (vB false)) 10 (vT 0 l c)) 11 (vI l)) 12 (vT 1 l c2)) 13 (vI l)) 14 (vB (!true))) := st_up (st_up (st_up (st_up (st_up (st_up jn fun _ => rfl) fun _ => rfl) fun _ => rfl) fun _ => rfl) fun _ => rfl) fun _ => rfl
    have l3 := Leads.reg (N := 0) (n0 := 0) hE mixed (show codeOk e3 = true by kernel_rfl) (e_r3 ι T l c l c2 (up (up (up (up (up (up j0 6 (vB false)) 10 (vT 0 l c)) 11 (vI l)) 12 (vT 1 l c2)) 13 (vI l)) 14 (vB (!true)))) rfl
    rw [decide_eq_true (show l = l from rfl), Bool.true_and]
    rcases e_loop ι T hE hr0 hr1 hb hb2 hl c c2 l 0 _ (by omega) hj with ⟨e, j', k⟩ | ⟨e, j', h', k⟩
    · rw [e]
      have l10 := Leads.reg (N := 0) (n0 := 0) hE mixed (show codeOk e10 = true by kernel_rfl) (e_r10 ι T j' []) rfl
      exact ⟨_, _, Leads.seq l0 (Leads.seq (Leads.seq l1 l1c) (Leads.seq (Leads.seq l3 (Leads.blockX (Leads.loop k))) (Leads.seq l10 Leads.ret))), e_end ι j' [] true⟩
    · rw [e]
      exact ⟨_, _, Leads.seq l0 (Leads.seq (Leads.seq l1 l1c) (Leads.seqR (Leads.seq l3 (Leads.blockR (Leads.loop k))))), e_end ι j' h' false⟩
  · rw [decide_eq_false (show ¬ (l : Int) = (l2 : Int) by omega)] at l1
    have l2' := Leads.reg (N := 0) (n0 := 0) hE mixed (show codeOk (sa (ca e1c)) = true by kernel_rfl) (e_r2 ι T (aJ l c l2 c2 (up (up (up (up (up (up j0 6 (vB false)) 10 (vT 0 l c)) 11 (vI l)) 12 (vT 1 l2 c2)) 13 (vI l2)) 14 (vB true))) []) rfl
    have l1c := Leads.condT (E := @EZ T ι) (n0 := 0) (a := .seq (sa (ca e1c)) .ret) (b := .skip) (e_x1 l c l2 c2 (up (up (up (up (up j0 6 (vB false)) 10 (vT 0 l c)) 11 (vI l)) 12 (vT 1 l2 c2)) 13 (vI l2)) true) (Leads.seq l2' Leads.ret)
    rw [decide_eq_false h, Bool.false_and]
    exact ⟨_, _, Leads.seq l0 (Leads.seqR (Leads.seq l1 l1c)), e_end ι _ [] false⟩
end
end Zb
end Go.Proofs.Yteelhhdadcdclaa
end
