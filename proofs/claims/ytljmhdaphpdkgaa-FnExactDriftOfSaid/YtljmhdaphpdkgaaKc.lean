/-
  Lists of samples: the program leads to the same; with it the given statement of FnExactValidSamples. No condition.
-/
import Derived.Test.YtljmhdaphpdkgaaKb
set_option linter.unusedSectionVars false
set_option linter.unusedVariables false
noncomputable section
namespace Go.Proofs.Ytljmhdaphpdkgaa
open Go Go.ChangeShapes Go.WideShapes Go.ChangeAt Go.RowKit Ev
namespace Sm
/-- no pointer into memory that is left out -/
def St0 (j : J) : Prop := ∀ m, (j m).2 = true → stayV 0 (j m).1 = true
theorem st_up {j : J} {i : Nat} {p : Value × Bool} (h : St0 j) (hp : p.2 = true → stayV 0 p.1 = true) : St0 (up j i p) := fun m => by
  unfold up
  cases hb : Nat.beq m i with
  | true => exact hp
  | false => exact h m
theorem cut_self {j : J} (h : St0 j) : ∀ m, okCut 0 (j m) (j m) := fun m => .inl ⟨rfl, h m⟩
theorem cut_up {j j' : J} {i : Nat} {p p' : Value × Bool} (h : ∀ m, okCut 0 (j m) (j' m)) (hp : okCut 0 p p') : ∀ m, okCut 0 (up j i p m) (up j' i p' m) := fun m => by
  unfold up
  cases hb : Nat.beq m i with
  | true => exact hp
  | false => exact h m
noncomputable def vJ : Value × Bool := (jnk, true)
theorem cut_st {p : Value × Bool} (hp : stayV 0 p.1 = true) : okCut 0 p p := .inl ⟨rfl, fun _ => hp⟩
theorem cut_dr {v : Value} (hp : dropB v = true) : okCut 0 (v, true) vJ := .inr ⟨rfl, rfl, hp⟩
theorem cutS {E : Env} [ι : Frn] {c : Code} {s : St} {e : Ex} {N : Nat} {j j' : J} {h : Heap} (hl : Leads E 0 c s e (S N j h true)) (ht : ∀ m, okCut 0 (j m) (j' m)) : Leads E 0 c s e (S N j' [] true) := by
  refine Leads.cut (n := 0) hl (Nat.le_refl 0) (by rw [List.take_zero]; rfl) (by rw [List.take_zero]; rfl) ?_ (fun i => ?_)
  · show ((List.range N).map j').length = ((List.range N).map j).length
    rw [List.length_map, List.length_map]
  · show okCut 0 (((List.range N).map j).getD i (undef, false)) (((List.range N).map j').getD i (undef, false))
    rw [List.getD_eq_getElem?_getD, List.getD_eq_getElem?_getD, List.getElem?_map, List.getElem?_map]
    by_cases hi : i < N
    · rw [List.getElem?_range hi]; exact ht i
    · rw [List.getElem?_eq_none (by simp; omega)]
      exact .inl ⟨rfl, fun e => by cases e⟩
theorem rec_low {cs : List Value} {l i : Nat} (hb : rowsB samK l cs = true) (hi : i < l) : stayV 0 (.agg (recAt 17 cs i).toArray) = true := by
  have h := shape_bare (rowsB_at hb hi)
  show (recAt 17 cs i).all (lowV 0) = true
  rw [List.all_eq_true] at h ⊢
  intro v hv
  have := h v hv
  cases v <;> first | rfl | cases this
theorem row_full {r : List Value} (h : r.length = 17) : setRow zP 0 r = r := by
  unfold setRow
  rw [List.take_zero, List.nil_append, List.drop_eq_nil_of_le (by rw [h]; decide), List.append_nil]
section
variable (ι : Frn) {l : Nat} {cs : List Value}
noncomputable def tuL (cs : List Value) (i : Nat) : Int := bif Nat.beq i 0 then 0 else tuN cs ((i - 1 : Nat) : Int)
theorem ok_same (cs : List Value) (i : Nat) : (inT (tuN cs i) && decide (tuL cs i ≤ tuN cs i)) = okI cs i := by
  unfold okI tuL
  match i with
  | 0 =>
    rw [show Nat.beq 0 0 = true from rfl, cond_true]
    cases h : inT (tuN cs ((0 : Nat) : Int)) with
    | false => rfl
    | true =>
      unfold inT at h
      rw [Bool.and_eq_true, decide_eq_true_eq] at h
      rw [decide_eq_true h.1]; rfl
  | i + 1 =>
    rw [show Nat.beq (i + 1) 0 = false from rfl, cond_false, decide_eq_true (show 0 < ((i + 1 : Nat) : Int) by omega), Bool.true_and, show i + 1 - 1 = i from rfl]
    congr 1
    by_cases h : tuN cs ((i + 1 : Nat) : Int) < tuN cs (i : Int)
    · rw [decide_eq_true h, decide_eq_false (by omega)]; rfl
    · rw [decide_eq_false h, decide_eq_true (by omega)]; rfl
theorem ok5 : codeOk pBody = true := by kernel_rfl
theorem EA_ok (base : Nat) (ts : Toks) : @EnvOk (frnOf base ts (fun _ => none)) (@EA (frnOf base ts (fun _ => none))) := @conE_ok (frnOf base ts (fun _ => none)) _ _ _ mixed (@noExt (frnOf base ts (fun _ => none)) _) (@orc_list (frnOf base ts (fun _ => none)) _ _ orcSaOk) (fun f g h => by cases h) (fun f g h => by cases h)
theorem p_end3 (c i : Nat) (z : Int) (j : J) (h : Heap) (b : Bool) : @finK ι Try.prog Try.f13 .ret (S 23 (pK l c z i (up j 2 (vB b))) h true) = some (.bool b, h, true) := by kernel_rfl
/-- what a round does up to its question -/
theorem p_head (hr : @Frn.row ι 0 = cs) (hb : rowsB samK l cs = true) (hl : l ≤ 64) (c i : Nat) (j : J) (hi : i < l) (hj : St0 j) :
    ∃ j1 j1' : J, (∀ m, okCut 0 (j1 m) (j1' m)) ∧ @Goes ι (@EA ι) 40 p5 (S 23 (pJ l c (tuL cs i) i j) [] true) .normal (S 23 (pJ l c (tuL cs i) i (up j 12 (vB true))) [] true) ∧
      @Goes ι (@EA ι) 40 p6 (S 23 (pJ l c (tuL cs i) i (up j 12 (vB true))) [] true) .normal (S 23 (pK l c (tuL cs i) i (up (up (up j 12 (vB true)) 13 (.pointer (some ⟨0, i * 17, some 0⟩), true)) 14 (.agg (recAt 17 cs i).toArray, true))) (pH (recAt 17 cs i)) true) ∧
      @Goes ι (@EA ι) 40 p7 (S 23 (pK l c (tuL cs i) i (up (up (up j 12 (vB true)) 13 (.pointer (some ⟨0, i * 17, some 0⟩), true)) 14 (.agg (recAt 17 cs i).toArray, true))) (pH (recAt 17 cs i)) true) .normal (S 23 (pK l c (tuL cs i) i (up j1 19 (vB (!(okI cs i))))) (pH (recAt 17 cs i)) true) := by
  letI : Frn := ι
  have hlen := rowsB_len hb
  have hre := rec_len (m := 17) hlen hi
  have h1 : (i + 1) * 17 ≤ l * 17 := Nat.mul_le_mul_right 17 hi
  have g5 := Goes.reg (N := 39) (p_r5 ι l c i (tuL cs i) j)
  rw [decide_eq_true (show (i : Int) < (l : Int) by omega)] at g5
  have e6 := p_r6 ι l c i (tuL cs i) (up j 12 (vB true))
  rw [hr, row_full hre] at e6
  have hk : ((Nat.beq (recAt 17 cs i).length 17 && (recAt 17 cs i).all scalarB && Nat.ble (0 + (recAt 17 cs i).length) 17) && (Nat.ble (i * 17 + 17) cs.length && (inB i l && true))) = true := by
    rw [hre, show (recAt 17 cs i).all scalarB = true from bare_scalar (shape_bare (rowsB_at hb hi)), hlen, ble_of (show i * 17 + 17 ≤ l * samK.length by show i * 17 + 17 ≤ l * 17; omega), inB_true hi]; rfl
  rw [hk] at e6
  have g6 := Goes.reg (N := 39) e6
  have e7 := p_r7 ι l c i (tuL cs i) (up (up (up j 12 (vB true)) 13 (.pointer (some ⟨0, i * 17, some 0⟩), true)) 14 (.agg (recAt 17 cs i).toArray, true)) (recAt 17 cs i)
  obtain ⟨r1, r2⟩ := tu_re hb hi
  rw [r1, r2, ok_same] at e7
  have g7 := Goes.reg (N := 39) e7
  refine ⟨_, ?_, ?_, g5, g6, g7⟩
  · exact up (up (up (up (up (up (up j 12 (vB true)) 13 (.pointer (some ⟨0, i * 17, some 0⟩), true)) 14 (.agg (recAt 17 cs i).toArray, true)) 15 (vI (tuL cs i))) 16 vJ) 17 (vI (tuN cs i))) 18 (vB (okI cs i))
  · exact cut_up (cut_up (cut_up (cut_up (cut_up (cut_up (cut_up (cut_self hj) (cut_st rfl)) (cut_st rfl)) (cut_st (rec_low hb hi))) (cut_st rfl)) (cut_dr rfl)) (cut_st rfl)) (cut_st rfl)
theorem p_round (hE : @EnvOk ι (@EA ι)) (hr : @Frn.row ι 0 = cs) (hb : rowsB samK l cs = true) (hl : l ≤ 64) (c i : Nat) (j : J) (hi : i < l) (hj : St0 j) (hk : okI cs i = true) :
    ∃ j' : J, St0 j' ∧ @Leads ι (@EA ι) 0 pBody (S 23 (pJ l c (tuL cs i) i j) [] true) .normal (S 23 (pJ l c (tuL cs (i + 1)) ((i + 1 : Nat) : Int) j') [] true) := by
  letI : Frn := ι
  obtain ⟨j1, j1', hc, g5, g6, g7⟩ := p_head ι hr hb hl c i j hi hj
  rw [hk] at g7
  have c5 := p_x5 l c i (tuL cs i) j true
  have g5c := Goes.condT (E := EA) (N := 20) (a := .skip) (b := .exit 0) c5 (Goes.skip (N := 19))
  have g7c := Goes.condF (E := EA) (N := 20) (a := .seq (sa (ca p7c)) .ret) (b := .skip) (p_x7 l c i (tuL cs i) j1 (recAt 17 cs i) false) (Goes.skip (N := 19))
  obtain ⟨r1, r2⟩ := tu_re hb hi
  have e9 := p_r9 ι l c i (tuL cs i) (up j1 19 (vB false)) (recAt 17 cs i)
  rw [r1, r2] at e9
  have g9 := Goes.reg (N := 20) e9
  have e10 := p_r10 ι l c i (tuN cs i) (up (up (up j1 19 (vB false)) 20 vP2) 21 (vI (tuN cs i))) (recAt 17 cs i)
  rw [wrap_in (by omega) (by omega)] at e10
  have g10 := Goes.reg (N := 20) e10
  have gb := Goes.seq (N := 90) (g5.more (by omega)) (Goes.seq (N := 85) (g5c.more (by omega)) (Goes.seq (N := 80) (Goes.block (id := 1) (N := 70) (Goes.seq (N := 60) (g6.more (by omega)) (Goes.seq (N := 55) (Goes.seq (N := 50) (g7.more (by omega)) (g7c.more (by omega)) |>.more (by omega)) (g9.more (by omega)) |>.more (by omega)) |>.more (by omega)) |>.more (by omega)) (g10.more (by omega)) |>.more (by omega)) |>.more (by omega))
  have hL := Leads.of (n0 := 0) hE mixed ok5 gb rfl
  have ht : tuL cs (i + 1) = tuN cs (i : Int) := rfl
  rw [ht]
  have hj' := cut_up (cut_up (cut_up (cut_up hc (p := vB false) (i := 19) (cut_st rfl)) (p := vP2) (p' := vJ) (i := 20) (cut_dr rfl)) (p := vI (tuN cs i)) (i := 21) (cut_st rfl)) (p := vI ((i : Int) + 1)) (i := 22) (cut_st rfl)
  have hfin := cutS (ι := ι) hL (cut_up (p' := vJ) (i := 5) (cut_up (cut_up (cut_up (cut_up hj' (p := vI (tuN cs i)) (i := 3) (cut_st rfl)) (p := (tok 0 l c, true)) (i := 9) (cut_st rfl)) (p := vI l) (i := 10) (cut_st rfl)) (p := vI ((i : Int) + 1)) (i := 11) (cut_st rfl)) (cut_dr rfl))
  refine ⟨up (up (up (up (up j1' 19 (vB false)) 20 vJ) 21 (vI (tuN cs i))) 22 (vI ((i : Int) + 1))) 5 vJ, ?_, ?_⟩
  · have hs : St0 j1' := fun m e => by
      rcases hc m with ⟨h1, h2⟩ | ⟨h1, h2, h3⟩
      · rw [h1] at e ⊢; exact h2 e
      · rw [h2]; rfl
    exact st_up (st_up (st_up (st_up (st_up hs fun _ => rfl) fun _ => rfl) fun _ => rfl) fun _ => rfl) fun _ => rfl
  · exact hfin
theorem p_bad (hE : @EnvOk ι (@EA ι)) (hr : @Frn.row ι 0 = cs) (hb : rowsB samK l cs = true) (hl : l ≤ 64) (c i : Nat) (j : J) (hi : i < l) (hj : St0 j) (hk : okI cs i = false) :
    ∃ j' : J, @Leads ι (@EA ι) 0 pBody (S 23 (pJ l c (tuL cs i) i j) [] true) .ret (S 23 (pK l c (tuL cs i) i (up j' 2 (vB false))) (pH (recAt 17 cs i)) true) := by
  letI : Frn := ι
  obtain ⟨j1, j1', hc, g5, g6, g7⟩ := p_head ι hr hb hl c i j hi hj
  rw [hk] at g7
  have c5 := p_x5 l c i (tuL cs i) j true
  have g5c := Goes.condT (E := EA) (N := 20) (a := .skip) (b := .exit 0) c5 (Goes.skip (N := 19))
  have g7c := Goes.condT (E := EA) (N := 20) (a := .seq (sa (ca p7c)) .ret) (b := .skip) (p_x7 l c i (tuL cs i) j1 (recAt 17 cs i) true) (Goes.seq (N := 19) (Goes.reg (N := 18) (p_r8 ι l c i (tuL cs i) (up j1 19 (vB true)) (recAt 17 cs i))) (Goes.ret (N := 18)))
  have gb := Goes.seq (N := 90) (g5.more (by omega)) (Goes.seq (N := 85) (g5c.more (by omega)) (Goes.seqR (b := p10) (N := 80) (Goes.blockR (id := 1) (N := 70) (Goes.seq (N := 60) (g6.more (by omega)) (Goes.seqR (b := p9) (N := 55) (Goes.seq (N := 50) (g7.more (by omega)) (g7c.more (by omega)) |>.more (by omega)) |>.more (by omega)) |>.more (by omega)) |>.more (by omega)) |>.more (by omega)) |>.more (by omega))
  exact ⟨_, Leads.of (n0 := 0) hE mixed ok5 gb rfl⟩
theorem p_stop (hE : @EnvOk ι (@EA ι)) (c : Nat) (z : Int) (j : J) : ∃ j' : J, @Leads ι (@EA ι) 0 pBody (S 23 (pJ l c z (l : Int) j) [] true) (.exit 0) (S 23 (pJ l c z (l : Int) j') [] true) := by
  letI : Frn := ι
  have g5 := Goes.reg (N := 39) (p_r5 ι l c l z j)
  rw [decide_eq_false (show ¬ (l : Int) < (l : Int) by omega)] at g5
  have g5c := Goes.condF (E := EA) (N := 20) (a := .skip) (b := .exit 0) (p_x5 l c l z j false) (Goes.exit (N := 19))
  have gb := Goes.seq (N := 90) (g5.more (by omega)) (Goes.seqX (b := .seq (.block 1 (.seq p6 (.seq (.seq p7 (.cond (cx p7c) (.seq (sa (ca p7c)) .ret) .skip)) p9))) p10) (N := 85) (g5c.more (by omega)) |>.more (by omega))
  exact ⟨_, Leads.of (n0 := 0) hE mixed ok5 gb rfl⟩
theorem p_loop (hE : @EnvOk ι (@EA ι)) (hr : @Frn.row ι 0 = cs) (hb : rowsB samK l cs = true) (hl : l ≤ 64) (c : Nat) : ∀ (n i : Nat) (j : J), i + n = l → St0 j →
    (allF cs n i = true ∧ ∃ j' : J, @LeadsL ι (@EA ι) 0 (n + 1) pBody (S 23 (pJ l c (tuL cs i) i j) [] true) (.exit 0) (S 23 (pJ l c (tuL cs l) (l : Int) j') [] true)) ∨
    (allF cs n i = false ∧ ∃ (k : Nat) (j' : J), @LeadsL ι (@EA ι) 0 (n + 1) pBody (S 23 (pJ l c (tuL cs i) i j) [] true) .ret (S 23 (pK l c (tuL cs k) k (up j' 2 (vB false))) (pH (recAt 17 cs k)) true))
  | 0, i, j, h, hj => by
    letI : Frn := ι
    have hi : i = l := by omega
    subst hi
    obtain ⟨j', k⟩ := p_stop ι (l := i) hE c (tuL cs i) j
    exact .inl ⟨rfl, j', LeadsL.stopX k⟩
  | n + 1, i, j, h, hj => by
    letI : Frn := ι
    rw [allF]
    cases hk : okI cs i with
    | false =>
      obtain ⟨j', k⟩ := p_bad ι hE hr hb hl c i j (by omega) hj hk
      refine .inr ⟨rfl, i, j', ?_⟩
      intro D μ0 B w0 Q x w hn hs hQ
      rw [rounds_succ]
      exact k D μ0 B w0 _ x w hn hs fun a' w' hs' => hQ a' w' hs'
    | true =>
      obtain ⟨j', hs, k⟩ := p_round ι hE hr hb hl c i j (by omega) hj hk
      rw [Bool.true_and]
      rcases p_loop hE hr hb hl c n (i + 1) j' (by omega) hs with ⟨e, j2, k2⟩ | ⟨e, k', j2, k2⟩
      · exact .inl ⟨e, j2, LeadsL.more k k2⟩
      · exact .inr ⟨e, k', j2, LeadsL.more k k2⟩
theorem p_leads (hE : @EnvOk ι (@EA ι)) (hr : @Frn.row ι 0 = cs) (hb : rowsB samK l cs = true) (hl : l ≤ 9223372036854775807) (c : Nat) : ∃ s' h', @Leads ι (@EA ι) 0 pC (startS Try.f13 [tok 0 l c] []) .ret s' ∧
    @finK ι Try.prog Try.f13 .ret s' = some (.bool (vS cs l), h', true) := by
  letI : Frn := ι
  rw [p_start, p_shape]
  have l0 := Leads.reg (N := 0) (n0 := 0) hE mixed (show codeOk p0 = true by kernel_rfl) (p_r0 ι l c j0) rfl
  have l1 := Leads.reg (N := 0) (n0 := 0) hE mixed (show codeOk p1 = true by kernel_rfl) (p_r1 ι l c (up j0 2 (vB false))) rfl
  have jn : St0 j0 := fun m e => by cases e
  unfold vS
  by_cases h : l ≤ 64
  · rw [decide_eq_false (show ¬ (64 : Int) < (l : Int) by omega)] at l1
    have l1c := Leads.condF (n0 := 0) (a := .seq (sa (ca p1c)) .ret) (b := .skip) (p_x1 l c (up (up (up j0 2 (vB false)) 6 (tok 0 l c, true)) 7 (vI l)) false) (Leads.skip (E := EA))
    have l3 := Leads.reg (N := 0) (n0 := 0) hE mixed (show codeOk p3 = true by kernel_rfl) (p_r3 ι l c (up (up (up (up j0 2 (vB false)) 6 (tok 0 l c, true)) 7 (vI l)) 8 (vB false))) rfl
    have l4 := Leads.reg (N := 0) (n0 := 0) hE mixed (show codeOk p4 = true by kernel_rfl) (p_r4 ι l c (up (up (up (up j0 2 (vB false)) 6 (tok 0 l c, true)) 7 (vI l)) 8 (vB false))) rfl
    have hj : St0 (up (up (up (up (up j0 2 (vB false)) 6 (tok 0 l c, true)) 7 (vI l)) 8 (vB false)) 0 (tok 0 l c, true)) := st_up (st_up (st_up (st_up (st_up jn fun _ => rfl) fun _ => rfl) fun _ => rfl) fun _ => rfl) fun _ => rfl
    rw [decide_eq_true (show (l : Int) ≤ 64 by omega), Bool.and_true]
    rcases p_loop ι hE hr hb h c l 0 _ (by omega) hj with ⟨e, j', k⟩ | ⟨e, k', j', k⟩
    · rw [e]
      have l11 := Leads.reg (N := 0) (n0 := 0) hE mixed (show codeOk p11 = true by kernel_rfl) (p_r11 ι l c l (tuL cs l) j') rfl
      exact ⟨_, _, Leads.seq l0 (Leads.seq (Leads.seq l1 l1c) (Leads.seq l3 (Leads.seq (Leads.seq l4 (Leads.blockX (Leads.loop k))) (Leads.seq l11 Leads.ret)))), p_end ι l c l (tuL cs l) j' true⟩
    · rw [e]
      exact ⟨_, _, Leads.seq l0 (Leads.seq (Leads.seq l1 l1c) (Leads.seq l3 (Leads.seqR (Leads.seq l4 (Leads.blockR (Leads.loop k)))))), p_end3 ι c k' (tuL cs k') j' _ false⟩
  · rw [decide_eq_true (show (64 : Int) < (l : Int) by omega)] at l1
    have l2 := Leads.reg (N := 0) (n0 := 0) hE mixed (show codeOk (sa (ca p1c)) = true by kernel_rfl) (p_r2 ι l c (up (up (up (up j0 2 (vB false)) 6 (tok 0 l c, true)) 7 (vI l)) 8 (vB true))) rfl
    have l1c := Leads.condT (n0 := 0) (a := .seq (sa (ca p1c)) .ret) (b := .skip) (p_x1 l c (up (up (up j0 2 (vB false)) 6 (tok 0 l c, true)) 7 (vI l)) true) (Leads.seq l2 (Leads.ret (E := EA)))
    rw [decide_eq_false (show ¬ (l : Int) ≤ 64 by omega), Bool.and_false]
    exact ⟨_, _, Leads.seq l0 (Leads.seqR (Leads.seq l1 l1c)), p_end2 ι _ false⟩
end
/-! ### both answer the same -/
theorem s_ans {l : Nat} {cs : List Value} (hb : rowsB samK l cs = true) (hl : l ≤ 9223372036854775807) : AnsF 24 l cs (.bool (vS cs l)) := fun w v hv => by
  obtain ⟨hv, _⟩ := hv
  obtain ⟨a, c, rfl, _⟩ := id hv
  let ι : Frn := frnOf w.heap.size [(.slice a l c, l, cs)] (fun _ => none)
  have hw : @FrnIn ι w := frn_in fun k v' l' cs' hk => by
    match k, hk with
    | 0, hk => cases hk; exact hv
  have ht : @VR ι Mu.nil (tok 0 l c) (.slice a l c) := tok_VR (ts := [(.slice a l c, l, cs)]) rfl hv
  obtain ⟨N, s', hg, hk⟩ := @m_goes ι l cs rfl hb hl c
  refine (@goes_call ι (@EA ι) (EA_ok _ _) mixed 24 Try.f24 mC Try.func24 m_body m_ok _ _ _ _ _ _ _ hg hk Mu.nil [.slice a l c] w w.heap.size (@VRL.cons ι _ _ _ _ _ ht (@VRL.nil ι _)) (@HeapR.start ι w hw) (Nat.le_refl _)).mono fun e w' hx => ?_
  obtain ⟨u, μ', rfl, _, hu, _, hbl⟩ := hx
  rw [@VR.bool_inv ι _ _ _ hu]
  exact ⟨rfl, hbl⟩
theorem i_ans {l : Nat} {cs : List Value} (hb : rowsB samK l cs = true) (hl : l ≤ 9223372036854775807) : AnsF 13 l cs (.bool (vS cs l)) := fun w v hv => by
  obtain ⟨hv, _⟩ := hv
  obtain ⟨a, c, rfl, _⟩ := id hv
  let ι : Frn := frnOf w.heap.size [(.slice a l c, l, cs)] (fun _ => none)
  have hw : @FrnIn ι w := frn_in fun k v' l' cs' hk => by
    match k, hk with
    | 0, hk => cases hk; exact hv
  have ht : @VR ι Mu.nil (tok 0 l c) (.slice a l c) := tok_VR (ts := [(.slice a l c, l, cs)]) rfl hv
  obtain ⟨s', h', hg, hk⟩ := @p_leads ι l cs (EA_ok _ _) rfl hb hl c
  refine (@leads_call ι (@EA ι) 13 Try.f13 pC Try.func13 p_body _ [] _ _ _ _ hg hk Mu.nil [.slice a l c] w w.heap.size (@VRL.cons ι _ _ _ _ _ ht (@VRL.nil ι _)) (@HeapR.start ι w hw) (Nat.le_refl _)).mono fun e w' hx => ?_
  obtain ⟨u, μ', rfl, _, hu, _, hbl⟩ := hx
  rw [@VR.bool_inv ι _ _ _ hu]
  exact ⟨rfl, hbl⟩
/-- the model's name for it -/
noncomputable def cV (b : Bool) (f : FuncId) : Option (List Value → Heap → Option (Value × List (List Value) × Bool)) :=
  bif Nat.beq f 24 then some fun args _ => match args with
    | [.slice (some ⟨0, 0, some 0⟩) _ _] => some (.bool b, [], true)
    | _ => none
  else none
noncomputable def wC : Code := (Try.f12.body.getD .skip)
theorem w_eval (base : Nat) (ts : Toks) (l c : Nat) (b : Bool) : @codeK (frnOf base ts (cV b)) (@EA (frnOf base ts (cV b))) 20 wC (startS Try.f12 [tok 0 l c] []) (@finK (frnOf base ts (cV b)) Try.prog Try.f12) = some (.bool b, [], true) := by kernel_rfl
theorem w_ans {l : Nat} {cs : List Value} (hb : rowsB samK l cs = true) (hl : l ≤ 9223372036854775807) : AnsF 12 l cs (.bool (vS cs l)) := fun w v hv => by
  obtain ⟨hv, hcap⟩ := hv
  obtain ⟨a, c, rfl, _⟩ := id hv
  let ι : Frn := frnOf w.heap.size [(.slice a l c, l, cs)] (cV (vS cs l))
  have hw : @FrnIn ι w := frn_in fun k v' l' cs' hk => by
    match k, hk with
    | 0, hk => cases hk; exact hv
  have ht : @VR ι Mu.nil (tok 0 l c) (.slice a l c) := tok_VR (ts := [(.slice a l c, l, cs)]) rfl hv
  have hcon : @ConOk ι Try.prog := fun f g hf => by
    have hf : cV (vS cs l) f = some g := hf
    unfold cV at hf
    cases h1 : Nat.beq f 24 with
    | true =>
      rw [h1, cond_true, Option.some.injEq] at hf
      have hfe := Nat.eq_of_beq_eq_true h1
      subst hf hfe
      refine ⟨by kernel_rfl, fun args h q rows he μ cargs w' B ha hh hB => ?_⟩
      dsimp only at he
      split at he
      · rename_i l' c'
        simp only [Option.some.injEq, Prod.mk.injEq] at he
        obtain ⟨rfl, rfl, _⟩ := he
        obtain ⟨y, ys, rfl, hy, h2⟩ := vrl_cons ha
        have : ys = [] := by
          match ys, h2 with
          | [], _ => rfl
          | _ :: _, h => exact absurd h.1 (by simp)
        subst this
        obtain ⟨r1, _, r3⟩ := tok_row (k := 0) hh hB rfl (rowsB_bare (by decide) hb) hy
        refine (s_ans hb hl w' y ⟨r1, fun a' l2 c2 e => hcap a' l2 c2 (r3 ▸ e)⟩).mono fun e w2 hx => ?_
        obtain ⟨rfl, hbl⟩ := hx
        refine ⟨_, μ, rfl, Sub.refl μ, @VR.bool ι μ _, ?_, hbl.mono hB⟩
        rw [List.map_nil, List.append_nil]
        exact @HeapR.keep ι _ _ _ _ _ hh hB hbl
      · cases he
    | false => rw [h1] at hf; cases hf
  have hst : @ConStab ι := fun f g hf args h u rows k nid row he hlt hn => by
    have hf : cV (vS cs l) f = some g := hf
    unfold cV at hf
    cases h1 : Nat.beq f 24 with
    | true =>
      rw [h1, cond_true, Option.some.injEq] at hf
      subst hf
      exact he
    | false => rw [h1] at hf; cases hf
  have hE : @EnvOk ι (@EA ι) := @conE_ok ι _ _ _ mixed (@noExt ι _) (@orc_list ι _ _ orcSaOk) hcon hst
  refine (@body_goes ι (@EA ι) hE mixed 12 Try.f12 wC Try.func12 (by kernel_rfl) (by kernel_rfl) _ _ _ _ _ (w_eval _ _ l c (vS cs l)) Mu.nil [.slice a l c] w w.heap.size (@VRL.cons ι _ _ _ _ _ ht (@VRL.nil ι _)) (@HeapR.start ι w hw) (Nat.le_refl _)).mono fun e w' hx => ?_
  obtain ⟨u, μ', rfl, _, hu, _, hbl⟩ := hx
  rw [@VR.bool_inv ι _ _ _ hu]
  exact ⟨rfl, hbl⟩
end Sm
end Go.Proofs.Ytljmhdaphpdkgaa
end
