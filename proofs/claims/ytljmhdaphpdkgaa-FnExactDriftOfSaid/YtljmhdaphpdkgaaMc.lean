/-
  Means of counts: where the program's loops lead. No condition.
-/
import Derived.Test.YtljmhdaphpdkgaaMb
set_option linter.unusedSectionVars false
set_option linter.unusedVariables false
noncomputable section
namespace Go.Proofs.Ytljmhdaphpdkgaa
namespace Mc
open Go Go.ChangeShapes Go.WideShapes Go.ChangeAt Go.RowKit Ev
open Sm (up_self St0 st_up cut_self cut_up cut_st cut_dr)
/-! ### a record's counts -/
theorem rec_get {cs : List Value} {i o : Nat} (ho : o < 17) : (recAt 17 cs i)[o]? = cs[i * 17 + o]? := by
  unfold recAt
  rw [List.getElem?_take_of_lt ho, List.getElem?_drop]
theorem rec_getD {cs : List Value} {i o : Nat} (ho : o < 17) : (recAt 17 cs i).getD o undef = cs.getD (i * 17 + o) undef := by
  rw [List.getD_eq_getElem?_getD, List.getD_eq_getElem?_getD, rec_get ho]
theorem wM_eq (w i : Nat) : wM (w : Int) i = i * 17 + wO (w : Int) := by
  unfold wM wO
  omega
theorem wO_lt {w : Nat} (hw : w < 16) : wO (w : Int) < 17 := by
  unfold wO
  rw [Int.toNat_natCast]
  omega
theorem xW_eq {cs : List Value} {w i : Nat} (hw : w < 16) : xW (recAt 17 cs i) (w : Int) = xM cs (w : Int) i := by
  unfold xW xM
  rw [rec_getD (wO_lt hw), wM_eq]
theorem fM_eq {cs : List Value} {w i : Nat} (hw : w < 16) : fM cs (w : Int) i = fW (recAt 17 cs i) (w : Int) := by
  unfold fW fM
  rw [rec_getD (wO_lt hw), rec_get (wO_lt hw), wM_eq]
theorem fW_row (z0 z1 z2 z3 z4 z5 z6 z7 z8 z9 z10 z11 z12 z13 z14 z15 z16 : Int) : ∀ (w : Nat), w < 16 → fW ([.int .i64 z0, .int .i16 z1, .int .i16 z2, .int .i16 z3, .int .i16 z4, .int .i16 z5, .int .i16 z6, .int .i16 z7, .int .i16 z8, .int .i16 z9, .int .i16 z10, .int .i16 z11, .int .i16 z12, .int .i16 z13, .int .i16 z14, .int .i16 z15, .int .i16 z16] : List Value) (w : Int) = true
  | 0, _ => by kernel_rfl
  | 1, _ => by kernel_rfl
  | 2, _ => by kernel_rfl
  | 3, _ => by kernel_rfl
  | 4, _ => by kernel_rfl
  | 5, _ => by kernel_rfl
  | 6, _ => by kernel_rfl
  | 7, _ => by kernel_rfl
  | 8, _ => by kernel_rfl
  | 9, _ => by kernel_rfl
  | 10, _ => by kernel_rfl
  | 11, _ => by kernel_rfl
  | 12, _ => by kernel_rfl
  | 13, _ => by kernel_rfl
  | 14, _ => by kernel_rfl
  | 15, _ => by kernel_rfl
  | n + 16, h => absurd h (by omega)
theorem fW_true {cs : List Value} {l i w : Nat} (hb : rowsB samK l cs = true) (hi : i < l) (hw : w < 16) : fW (recAt 17 cs i) (w : Int) = true := by
  obtain ⟨z0, z1, z2, z3, z4, z5, z6, z7, z8, z9, z10, z11, z12, z13, z14, z15, z16, e⟩ := sam_form (rowsB_at hb hi)
  have e : recAt 17 cs i = ([.int .i64 z0, .int .i16 z1, .int .i16 z2, .int .i16 z3, .int .i16 z4, .int .i16 z5, .int .i16 z6, .int .i16 z7, .int .i16 z8, .int .i16 z9, .int .i16 z10, .int .i16 z11, .int .i16 z12, .int .i16 z13, .int .i16 z14, .int .i16 z15, .int .i16 z16] : List Value) := e
  rw [e]
  exact fW_row z0 z1 z2 z3 z4 z5 z6 z7 z8 z9 z10 z11 z12 z13 z14 z15 z16 w hw
theorem rows_full {r : List Value} (h : r.length = 17) : setRow zS 0 r = r := by
  unfold setRow
  rw [List.take_zero, List.nil_append, List.drop_eq_nil_of_le (by rw [h]; decide), List.append_nil]
theorem q4_true {cs : List Value} {l i : Nat} (hb : rowsB samK l cs = true) (hi : i < l) : q4 (recAt 17 cs i) i l cs = true := by
  have hlen := rowsB_len hb
  have hre := rec_len (m := 17) hlen hi
  have h1 : (i + 1) * 17 ≤ l * 17 := Nat.mul_le_mul_right 17 hi
  unfold q4
  rw [hre, show (recAt 17 cs i).all scalarB = true from bare_scalar (shape_bare (rowsB_at hb hi)), hlen, ble_of (show i * 17 + 17 ≤ l * samK.length by show i * 17 + 17 ≤ l * 17; omega), inB_true hi]; rfl
/-- the counts of the first samples at a wavelength -/
def rowN (cs : List Value) (w n : Nat) : List Value := (List.range n).map fun k => .int .i16 (xM cs (w : Int) k)
theorem rowN_len {cs : List Value} {w n : Nat} : (rowN cs w n).length = n := by
  unfold rowN
  rw [List.length_map, List.length_range]
theorem rowN_succ {cs : List Value} {w n : Nat} : rowN cs w n ++ [.int .i16 (xM cs (w : Int) n)] = rowN cs w (n + 1) := by
  unfold rowN
  rw [List.range_succ, List.map_append]; rfl
theorem rowN_bare {cs : List Value} {w n : Nat} : (rowN cs w n).all bareC = true := by
  rw [List.all_eq_true]
  intro v hv
  unfold rowN at hv
  obtain ⟨k, _, rfl⟩ := List.mem_map.1 hv
  rfl
theorem kA_true {i : Nat} {q : List Value} (hq : q.length = i + 1) (hi : i < 1000) : kA i q = true := by
  unfold kA
  rw [hq, Nat.mul_one, show Nat.beq (i + 1) (i + 1) = true from Nat.beq_refl _, ble_of (show (i + 1 + 1) * 2 ≤ 140737488355328 by omega), ble_of (show i + 1 + 1 ≤ 9223372036854775807 by omega)]; rfl
section
variable (ι : Frn) {l : Nat} {cs : List Value}
/-- one row is left, under the number 0 -/
theorem moveS {E : Env} {c : Code} {s : St} {e : Ex} {N q : Nat} {j j' : J} {h : Heap} {row : List Value} (hl : @Leads ι E 0 c s e (S N j h true)) (hr : h.getD q none = some row) (hb : row.all bareC = true) (ht : ∀ m, okMove (fun _ => q) 1 (j m) (j' m)) : @Leads ι E 0 c s e (S N j' [some row] true) := by
  letI : Frn := ι
  refine Leads.move (r := fun _ => q) hl (fun b cs e => ?_) (fun b hb => ?_) (fun a b ha hb _ => ?_) ?_ (fun i => ?_)
  · have hb0 : b < 1 := lt_of_getD e
    have : b = 0 := by omega
    subst this
    have e : some row = some cs := e
    cases e
    exact ⟨hr, hb⟩
  · have hb : b < 1 := hb
    have : b = 0 := by omega
    subst this
    intro q; cases q
  · have ha : a < 1 := ha
    have hb : b < 1 := hb
    omega
  · show ((List.range N).map j').length = ((List.range N).map j).length
    rw [List.length_map, List.length_map]
  · show okMove _ 1 (((List.range N).map j).getD i (undef, false)) (((List.range N).map j').getD i (undef, false))
    rw [List.getD_eq_getElem?_getD, List.getD_eq_getElem?_getD, List.getElem?_map, List.getElem?_map]
    by_cases hi : i < N
    · rw [List.getElem?_range hi]; exact ht i
    · rw [List.getElem?_eq_none (by simp; omega)]
      exact .inl (.inl ⟨rfl, fun e => by cases e⟩)
theorem mv_self {r : Nat → Nat} {n : Nat} {j : J} (h : St0 j) : ∀ m, okMove r n (j m) (j m) := fun m => .inl (cut_self h m)
theorem mv_up {r : Nat → Nat} {n : Nat} {j j' : J} {i : Nat} {p p' : Value × Bool} (h : ∀ m, okMove r n (j m) (j' m)) (hp : okMove r n p p') : ∀ m, okMove r n (up j i p m) (up j' i p' m) := fun m => by
  unfold up
  cases hb : Nat.beq m i with
  | true => exact hp
  | false => exact h m
theorem mv_st {r : Nat → Nat} {n : Nat} {p : Value × Bool} (hp : stayV 0 p.1 = true) : okMove r n p p := .inl (cut_st hp)
theorem mv_dr {r : Nat → Nat} {n : Nat} {v : Value} (hp : dropB v = true) : okMove r n (v, true) vJ := .inl (cut_dr hp)
theorem mv_new {q l : Nat} : okMove (fun _ => q) 1 (vS q l) (vS 0 l) := .inr ⟨0, 0, l, l, Nat.lt_succ_self 0, rfl, rfl⟩
/-- the slots, once the blocks of a round are left out -/
def aZ (l c : Nat) (w : Int) (new : Value × Bool) (i i' : Int) (x : Int) (j : J) : J := up (up (up (up (up (up (up (up (up (up (up (up (up (up (up j 0 (vT 0 l c)) 1 (vI w)) 8 (vT 0 l c)) 9 (vI l)) 10 (vI i)) 7 vJ) 14 vJ) 15 (vI w)) 16 vJ) 17 vJ) 18 (vH x)) 19 vJ) 20 vJ) 5 new) 21 (vI i')
theorem aZ_in (l c : Nat) (w i i' x : Int) (new : Value × Bool) (j : J) (h : Heap) : S 23 (up (aZ l c w new i i' x j) 10 (vI i')) h true = S 23 (aJ l c w new i' (up (up (up (up (up (up (up (up (up j 7 vJ) 14 vJ) 15 (vI w)) 16 vJ) 17 vJ) 18 (vH x)) 19 vJ) 20 vJ) 21 (vI i'))) h true := by kernel_rfl
theorem a_move {c0 : Code} {s : St} {c n p bs q i : Nat} {w i' x : Int} {v5 : Value × Bool} {j : J} {h : Heap} {row : List Value} (hl : @Leads ι (@EP ι) 0 c0 s .normal (S 23 (up (up (aK l c w v5 (vS q n) i p bs x j) 21 (vI i')) 10 (vI i')) h true))
    (hv : okMove (fun _ => q) 1 v5 vJ) (hj : St0 j) (hr : h.getD q none = some row) (hb : row.all bareC = true) : ∃ j', St0 j' ∧ @Leads ι (@EP ι) 0 c0 s .normal (S 23 (aJ l c w (vS 0 n) i' j') [some row] true) := by
  refine ⟨up (up (up (up (up (up (up (up (up j 7 vJ) 14 vJ) 15 (vI w)) 16 vJ) 17 vJ) 18 (vH x)) 19 vJ) 20 vJ) 21 (vI i'), st_up (st_up (st_up (st_up (st_up (st_up (st_up (st_up (st_up hj fun _ => rfl) fun _ => rfl) fun _ => rfl) fun _ => rfl) fun _ => rfl) fun _ => rfl) fun _ => rfl) fun _ => rfl) fun _ => rfl, ?_⟩
  rw [← aZ_in]
  refine moveS ι hl hr hb ?_
  exact mv_up (mv_up (mv_up (mv_up (mv_up (mv_up (mv_up (mv_up (mv_up (mv_up (mv_up (mv_up (mv_up (mv_up (mv_up (mv_up (mv_self hj) (mv_st rfl)) (mv_st rfl)) (mv_st rfl)) (mv_st rfl)) (mv_st rfl)) (mv_dr rfl)) hv) (mv_st rfl)) (mv_dr rfl)) (mv_dr rfl)) (mv_st rfl)) (mv_dr rfl)) (mv_dr rfl)) mv_new) (mv_st rfl)) (mv_st rfl)
theorem inW {w : Nat} (hw : w < 16) : inB (w : Int) 16 = true := inB_true hw
theorem rec_low {i : Nat} (hb : rowsB samK l cs = true) (hi : i < l) : stayV 0 (vA (recAt 17 cs i)).1 = true := Sm.rec_low hb hi
theorem a_round0 (hE : @EnvOk ι (@EP ι)) (hr : @Frn.row ι 0 = cs) (hb : rowsB samK l cs = true) (c w : Nat) (hw : w < 16) (j : J) (h0 : 0 < l) (hj : St0 j) :
    ∃ j', St0 j' ∧ @Leads ι (@EP ι) 0 aBody (S 23 (aJ l c w vN ((0 : Nat) : Int) j) [] true) .normal (S 23 (aJ l c w (vS 0 1) ((1 : Nat) : Int) j') [some (rowN cs w 1)] true) := by
  letI : Frn := ι
  have l3 := Leads.reg (N := 0) (n0 := 0) hE mixed (show codeOk a3 = true by kernel_rfl) (a_r3 ι l c 0 w j [] vN) rfl
  rw [decide_eq_true (show (((0 : Nat) : Int)) < (l : Int) by omega)] at l3
  have l3c := Leads.condT (E := @EP ι) (n0 := 0) (a := .skip) (b := .exit 0) (a_x3 l c 0 w j [] true vN) Leads.skip
  have e4 := a_r4n ι l c 0 w (up j 11 (vB true)) vN
  rw [hr, rows_full (rec_len (m := 17) (rowsB_len hb) h0), q4_true hb h0] at e4
  have l4 := Leads.reg (N := 0) (n0 := 0) hE mixed (show codeOk a4 = true by kernel_rfl) e4 rfl
  have hj1 : St0 (up (up (up j 11 (vB true)) 12 (vR 0 (0 * 17))) 13 (vA (recAt 17 cs 0))) := st_up (st_up (st_up hj fun _ => rfl) fun _ => rfl) fun _ => rec_low hb h0
  generalize up (up (up j 11 (vB true)) 12 (vR 0 (0 * 17))) 13 (vA (recAt 17 cs 0)) = j1 at l4 hj1
  have e5 := a_r5n ι l c 0 w j1 (recAt 17 cs 0)
  rw [fW_true hb h0 hw, inW hw, xW_eq hw] at e5
  have l5 := Leads.reg (N := 0) (n0 := 0) hE mixed (show codeOk a5 = true by kernel_rfl) e5 rfl
  have e6 := a_r6 ι l c 0 w j1 [none, none, some (recAt 17 cs 0), none, none, none, none, none, none, some [.int .i16 (xM cs w 0)], none, none, some [.int .i16 (xM cs w 0)]] vN (vS 12 1) 2 9 (xM cs w 0)
  rw [wrap_in (by omega) (by omega), show (((0 : Nat) : Int) + 1) = ((1 : Nat) : Int) from rfl] at e6
  have l6 := Leads.reg (N := 0) (n0 := 0) hE mixed (show codeOk a6 = true by kernel_rfl) e6 rfl
  have lr := Leads.seq l3 (Leads.seq l3c (Leads.seq (Leads.block (id := 1) (Leads.seq l4 l5)) l6))
  exact a_move ι (q := 12) (row := rowN cs w 1) lr (mv_dr rfl) hj1 rfl rowN_bare
theorem a_roundS (hE : @EnvOk ι (@EP ι)) (hr : @Frn.row ι 0 = cs) (hb : rowsB samK l cs = true) (hl : l ≤ 64) (c w : Nat) (hw : w < 16) (i : Nat) (j : J) (hi : i + 1 < l) (hj : St0 j) :
    ∃ j', St0 j' ∧ @Leads ι (@EP ι) 0 aBody (S 23 (aJ l c w (vS 0 (i + 1)) ((i + 1 : Nat) : Int) j) [some (rowN cs w (i + 1))] true) .normal (S 23 (aJ l c w (vS 0 (i + 1 + 1)) ((i + 1 + 1 : Nat) : Int) j') [some (rowN cs w (i + 1 + 1))] true) := by
  letI : Frn := ι
  have l3 := Leads.reg (N := 0) (n0 := 0) hE mixed (show codeOk a3 = true by kernel_rfl) (a_r3 ι l c (i + 1) w j [some (rowN cs w (i + 1))] (vS 0 (i + 1))) rfl
  rw [decide_eq_true (show (((i + 1 : Nat) : Int)) < (l : Int) by omega)] at l3
  have l3c := Leads.condT (E := @EP ι) (n0 := 0) (a := .skip) (b := .exit 0) (a_x3 l c (i + 1) w j [some (rowN cs w (i + 1))] true (vS 0 (i + 1))) Leads.skip
  have e4 := a_r4s ι l c (i + 1) w (up j 11 (vB true)) (rowN cs w (i + 1)) (vS 0 (i + 1))
  rw [hr, rows_full (rec_len (m := 17) (rowsB_len hb) hi), q4_true hb hi] at e4
  have l4 := Leads.reg (N := 0) (n0 := 0) hE mixed (show codeOk a4 = true by kernel_rfl) e4 rfl
  have hj1 : St0 (up (up (up j 11 (vB true)) 12 (vR 0 ((i + 1) * 17))) 13 (vA (recAt 17 cs (i + 1)))) := st_up (st_up (st_up hj fun _ => rfl) fun _ => rfl) fun _ => rec_low hb hi
  generalize up (up (up j 11 (vB true)) 12 (vR 0 ((i + 1) * 17))) 13 (vA (recAt 17 cs (i + 1))) = j1 at l4 hj1
  have e5 := a_r5s ι l c i w j1 (recAt 17 cs (i + 1)) (rowN cs w (i + 1))
  rw [fW_true hb hi hw, inW hw, xW_eq hw, kA_true rowN_len (by omega), rowN_succ] at e5
  have l5 := Leads.reg (N := 0) (n0 := 0) hE mixed (show codeOk a5 = true by kernel_rfl) e5 rfl
  have e6 := a_r6 ι l c (i + 1) w j1 [some [], none, none, some (recAt 17 cs (i + 1)), none, none, none, none, none, none, some [.int .i16 (xM cs w (i + 1))], none, none, some (rowN cs w (i + 1 + 1))] (vS 0 (i + 1)) (vS 13 (i + 1 + 1)) 3 10 (xM cs w (i + 1))
  rw [wrap_in (by omega) (by omega), show (((i + 1 : Nat) : Int) + 1) = ((i + 1 + 1 : Nat) : Int) from rfl] at e6
  have l6 := Leads.reg (N := 0) (n0 := 0) hE mixed (show codeOk a6 = true by kernel_rfl) e6 rfl
  have lr := Leads.seq l3 (Leads.seq l3c (Leads.seq (Leads.block (id := 1) (Leads.seq l4 l5)) l6))
  exact a_move ι (q := 13) (row := rowN cs w (i + 1 + 1)) lr (mv_dr rfl) hj1 rfl rowN_bare
theorem a_stop (hE : @EnvOk ι (@EP ι)) (c w : Nat) (v5 : Value × Bool) (j : J) (h : Heap) : @Leads ι (@EP ι) 0 aBody (S 23 (aJ l c w v5 (l : Int) j) h true) (.exit 0) (S 23 (aJ l c w v5 (l : Int) (up j 11 (vB false))) h true) := by
  letI : Frn := ι
  have l3 := Leads.reg (N := 0) (n0 := 0) hE mixed (show codeOk a3 = true by kernel_rfl) (a_r3 ι l c l w j h v5) rfl
  rw [decide_eq_false (show ¬ (l : Int) < (l : Int) by omega)] at l3
  exact Leads.seq l3 (Leads.seqX (Leads.condF (E := @EP ι) (n0 := 0) (a := .skip) (b := .exit 0) (a_x3 l c l w j h false v5) Leads.exit))
theorem a_loop (hE : @EnvOk ι (@EP ι)) (hr : @Frn.row ι 0 = cs) (hb : rowsB samK l cs = true) (hl : l ≤ 64) (c w : Nat) (hw : w < 16) : ∀ (m i : Nat) (j : J), i + 1 + m = l → St0 j →
    ∃ j', @LeadsL ι (@EP ι) 0 (m + 1) aBody (S 23 (aJ l c w (vS 0 (i + 1)) ((i + 1 : Nat) : Int) j) [some (rowN cs w (i + 1))] true) (.exit 0) (S 23 (aJ l c w (vS 0 l) (l : Int) j') [some (rowN cs w l)] true)
  | 0, i, j, h, hj => by
    have hi : i + 1 = l := by omega
    rw [hi]
    exact ⟨_, LeadsL.stopX (a_stop ι hE c w (vS 0 l) j [some (rowN cs w l)])⟩
  | m + 1, i, j, h, hj => by
    obtain ⟨j1, hj1, k1⟩ := a_roundS ι hE hr hb hl c w hw i j (by omega) hj
    obtain ⟨j2, k2⟩ := a_loop hE hr hb hl c w hw m (i + 1) j1 (by omega) hj1
    exact ⟨j2, LeadsL.more k1 k2⟩
theorem a_leads (hE : @EnvOk ι (@EP ι)) (hr : @Frn.row ι 0 = cs) (hb : rowsB samK l cs = true) (hl : l ≤ 64) (h0 : 0 < l) (c w : Nat) (hw : w < 16) :
    ∃ s', @Leads ι (@EP ι) 0 aC (startS Try.f36 [tok 0 l c, .int .i64 w] []) .ret s' ∧ @finK ι Try.prog Try.f36 .ret s' = some (.slice (some ⟨0, 0, none⟩) l l, [some (rowN cs w l)], true) := by
  letI : Frn := ι
  rw [a_start, a_shape]
  have l0 := Leads.reg (N := 0) (n0 := 0) hE mixed (show codeOk a0 = true by kernel_rfl) (a_r0 ι l c w j0) rfl
  have l1 := Leads.reg (N := 0) (n0 := 0) hE mixed (show codeOk a1 = true by kernel_rfl) (a_r1 ι l c w (up j0 4 vN)) rfl
  have l2 := Leads.reg (N := 0) (n0 := 0) hE mixed (show codeOk a2 = true by kernel_rfl) (a_r2 ι l c w (up j0 4 vN)) rfl
  have hj0 : St0 (up j0 4 vN) := st_up (fun m e => by cases e) fun _ => rfl
  obtain ⟨j1, hj1, k1⟩ := a_round0 ι hE hr hb c w hw _ h0 hj0
  obtain ⟨m, rfl⟩ : ∃ m, l = m + 1 := ⟨l - 1, by omega⟩
  obtain ⟨j2, k2⟩ := a_loop ι hE hr hb hl c w hw m 0 j1 (by omega) hj1
  have l7 := Leads.reg (N := 0) (n0 := 0) hE mixed (show codeOk a7 = true by kernel_rfl) (a_r7' ι (m + 1) c w j2 [some (rowN cs w (m + 1))] (m + 1)) rfl
  exact ⟨_, Leads.seq l0 (Leads.seq l1 (Leads.seq (Leads.seq l2 (Leads.blockX (Leads.loop (LeadsL.more k1 k2)))) (Leads.seq l7 Leads.ret))), a_end ι _ _ _⟩
end
end Mc
end Go.Proofs.Ytljmhdaphpdkgaa
end
