/-
  Drift: the program's loop, round by round. No condition.
-/
import Derived.Test.YtljmhdaphpdkgaaIe
set_option linter.unusedSectionVars false
set_option linter.unusedVariables false
noncomputable section
namespace Go.Proofs.Ytljmhdaphpdkgaa
namespace Dr
open Go Go.ChangeShapes Go.WideShapes Go.ChangeAt Go.RowKit Ev Mc
def tS (cs : List Value) (i : Nat) : Int := Ev.intOf ((recAt 17 cs i).getD 0 undef)
def nS (cs : List Value) (i : Nat) (w : Nat) : Int := Ev.intOf ((recAt 17 cs i).getD (1 + w) undef)
theorem row_form {R : List Value} (h : shapeB samK R = true) : R = rowS (Ev.intOf (R.getD 0 undef)) fun w => Ev.intOf (R.getD (1 + w) undef) := by
  obtain ⟨z0, z1, z2, z3, z4, z5, z6, z7, z8, z9, z10, z11, z12, z13, z14, z15, z16, rfl⟩ := sam_form h
  kernel_rfl
theorem rec_row {l i : Nat} {cs : List Value} (hb : rowsB samK l cs = true) (hi : i < l) : recAt 17 cs i = rowS (tS cs i) (nS cs i) := row_form (rowsB_at hb hi)
def pR (z : Nat → Int) (cs : List Value) (m : Nat) : List Value := (List.range m).map fun k => fF (pv z (nS cs k) (tS cs k))
def sR (cs : List Value) (m : Nat) : List Value := (List.range m).map fun k => fF (sv (tS cs k))
theorem pR_len {z : Nat → Int} {cs : List Value} {m : Nat} : (pR z cs m).length = m := by unfold pR; rw [List.length_map, List.length_range]
theorem sR_len {cs : List Value} {m : Nat} : (sR cs m).length = m := by unfold sR; rw [List.length_map, List.length_range]
theorem pR_succ {z : Nat → Int} {cs : List Value} {m : Nat} : pR z cs m ++ [fF (pv z (nS cs m) (tS cs m))] = pR z cs (m + 1) := by
  unfold pR
  rw [List.range_succ, List.map_append]; rfl
theorem sR_succ {cs : List Value} {m : Nat} : sR cs m ++ [fF (sv (tS cs m))] = sR cs (m + 1) := by
  unfold sR
  rw [List.range_succ, List.map_append]; rfl
theorem fF_bare {f : Nat → Nat} {m : Nat} : ((List.range m).map fun k => fF (f k)).all bareC = true := by
  rw [List.all_eq_true]
  intro v hv
  obtain ⟨k, _, rfl⟩ := List.mem_map.1 hv
  rfl
/-! ### three blocks are left -/
def r3 (b1 b2 : Nat) : Nat → Nat := fun b => match b with | 0 => 0 | 1 => b1 | _ => b2
theorem m3_hp {h : Heap} {g p q : List Value} {b1 b2 : Nat} (h0 : h.getD 0 none = some g) (h1 : h.getD b1 none = some p) (h2 : h.getD b2 none = some q) (g0 : g.all bareC = true) (p0 : p.all bareC = true) (q0 : q.all bareC = true) :
    ∀ b cs, ([some g, some p, some q] : Heap).getD b none = some cs → h.getD (r3 b1 b2 b) none = some cs ∧ cs.all bareC = true := fun b cs e => by
  match b with
  | 0 => have e : some g = some cs := e; cases e; exact ⟨h0, g0⟩
  | 1 => have e : some p = some cs := e; cases e; exact ⟨h1, p0⟩
  | 2 => have e : some q = some cs := e; cases e; exact ⟨h2, q0⟩
  | b + 3 => cases e
theorem m3_ne {g p q : List Value} : ∀ b, b < ([some g, some p, some q] : Heap).length → ([some g, some p, some q] : Heap).getD b none ≠ none := fun b hb => by
  match b, hb with
  | 0, _ => intro e; cases e
  | 1, _ => intro e; cases e
  | 2, _ => intro e; cases e
  | b + 3, hb => exact absurd hb (by simp)
theorem m3_inj {g p q : List Value} {b1 b2 : Nat} (n1 : 0 ≠ b1) (n2 : 0 ≠ b2) (n3 : b1 ≠ b2) : ∀ a b, a < ([some g, some p, some q] : Heap).length → b < ([some g, some p, some q] : Heap).length → r3 b1 b2 a = r3 b1 b2 b → a = b := fun a b ha hb e => by
  match a, b, ha, hb with
  | 0, 0, _, _ => rfl
  | 1, 1, _, _ => rfl
  | 2, 2, _, _ => rfl
  | 0, 1, _, _ => exact absurd e n1
  | 0, 2, _, _ => exact absurd e n2
  | 1, 0, _, _ => exact absurd e.symm n1
  | 1, 2, _, _ => exact absurd e n3
  | 2, 0, _, _ => exact absurd e.symm n2
  | 2, 1, _, _ => exact absurd e.symm n3
  | a + 3, _, ha, _ => exact absurd ha (by simp)
  | _, b + 3, _, hb => exact absurd hb (by simp)
theorem u_mv {r : Nat → Nat} {n : Nat} : okMvP r n vU vU := .inl (.inl (.inl ⟨rfl, fun e => by cases e⟩))
theorem st_mv {r : Nat → Nat} {n : Nat} {p : Value × Bool} (hp : stayV 0 p.1 = true) : okMvP r n p p := .inl (mv_st hp)
theorem dr_mv {r : Nat → Nat} {n : Nat} {v : Value} (hp : dropB v = true) : okMvP r n (v, true) vJ := .inl (mv_dr hp)
theorem gA_st (z : Nat → Int) (f : Nat → Nat) : stayV 0 (gA z f).1 = true := by kernel_rfl
theorem whA_st (z : Nat → Int) : stayV 0 (whA z).1 = true := by kernel_rfl
theorem vA_st (t : Int) (n : Nat → Int) : stayV 0 (vA (rowS t n)).1 = true := by kernel_rfl
theorem d_mv (l c : Nat) (z : Nat → Int) (f : Nat → Nat) (i : Nat) (x : Value × Bool) (hx : okCut 0 x x) (p b1 b2 m : Nat) (t : Int) (n : Nat → Int) :
    okMvPs (r3 b1 b2) 3 (dlv2 l c z f i (vS b1 m) (vS b2 m) x (vP p) (rowS t n)) (dlv2 l c z f i (vS 1 m) (vS 2 m) x vJ (rowS t n)) :=
  ⟨dr_mv rfl, st_mv rfl, st_mv rfl, st_mv (vA_st t n), st_mv (gA_st z f), st_mv rfl, .inr ⟨0, 0, by decide, rfl, rfl⟩, u_mv, st_mv rfl, .inl (.inr ⟨1, 0, m, m, by decide, rfl, rfl⟩), .inl (.inr ⟨2, 0, m, m, by decide, rfl, rfl⟩), st_mv rfl, u_mv, st_mv (gA_st z f), .inr ⟨0, 16, by decide, rfl, rfl⟩,
    st_mv (whA_st z), st_mv rfl, st_mv rfl, st_mv rfl, st_mv rfl, .inl (.inl hx), u_mv, u_mv, u_mv, u_mv, u_mv, trivial⟩
section
variable (ι : Frn) {l : Nat} {cs : List Value} (z : Nat → Int) (f : Nat → Nat)
theorem d_round0 (hE : @EnvOk ι (@ED ι)) (hr : @Frn.row ι 0 = cs) (hb : rowsB samK l cs = true) (h0 : 0 < l) (c : Nat) (y : Value × Bool) (j : J) :
    ∃ (j' : J) (y' : Value × Bool), @Leads ι (@ED ι) 0 dB (D l c z f ((0 : Nat) : Int) vN vN vU y [some (Lg.gr z f), none] j) .normal (D l c z f ((1 : Nat) : Int) (vS 1 1) (vS 2 1) (vI ((1 : Nat) : Int)) y' [some (Lg.gr z f), some (pR z cs 1), some (sR cs 1)] j') := by
  letI : Frn := ι
  have l4 := Leads.reg (N := 0) (n0 := 0) hE mixed (show codeOk d4 = true by kernel_rfl) (d_r4 ι l c 0 z f vN vN vU y [some (Lg.gr z f), none] j) rfl
  rw [decide_eq_true (show (((0 : Nat) : Int)) < (l : Int) by omega)] at l4
  have l4c := Leads.condT (E := @ED ι) (n0 := 0) (a := .skip) (b := .exit 0) (d_x4 l c 0 z f vN vN vU [some (Lg.gr z f), none] j true) Leads.skip
  have e5 := d_r5n ι l c 0 z f vN vN vU j
  rw [hr, rows_full (rec_len (m := 17) (rowsB_len hb) h0), q4_true hb h0, rec_row hb h0] at e5
  have l5 := Leads.reg (N := 0) (n0 := 0) hE mixed (show codeOk d5 = true by kernel_rfl) e5 rfl
  have k := d_678n ι l c z (nS cs 0) f vU j (tS cs 0)
  rw [kC_true] at k
  obtain ⟨j1, l6⟩ := @cap_move ι _ _ _ _ _ _ _ _ _ hE mixed (show codeOk d678 = true by kernel_rfl) (by kernel_rfl) (by kernel_rfl) rfl k _ [some (Lg.gr z f), some (pR z cs 1), some (sR cs 1)] _ (d_mv l c z f 0 vU (.inl ⟨rfl, fun e => by cases e⟩) 4 13 20 1 (tS cs 0) (nS cs 0))
    (m3_hp rfl rfl rfl (Lg.gr_bare z f) fF_bare fF_bare) m3_ne (m3_inj (by decide) (by decide) (by decide))
  rw [D2_eq, D_of] at l6
  have e9 := d_r9 ι l c 0 z f (vS 1 1) (vS 2 1) vU (vB true) [some (Lg.gr z f), some (pR z cs 1), some (sR cs 1)] (up (up (up j1 9 vJ) 20 (vR 0 (0 * 17))) 21 (vA (rowS (tS cs 0) (nS cs 0))))
  rw [wrap_in (by omega) (by omega), show (((0 : Nat) : Int) + 1) = ((1 : Nat) : Int) from rfl] at e9
  have l9 := Leads.reg (N := 0) (n0 := 0) hE mixed (show codeOk d9 = true by kernel_rfl) e9 rfl
  have lP := Leads.seq (Leads.block (id := 1) (Leads.seq l5 l6)) l9
  rw [← dP_shape] at lP
  exact ⟨_, _, Leads.seq l4 (Leads.seq l4c lP)⟩
theorem d_roundS (hE : @EnvOk ι (@ED ι)) (hr : @Frn.row ι 0 = cs) (hb : rowsB samK l cs = true) (hl : l ≤ 64) (c i : Nat) (hi : i + 1 < l) (y : Value × Bool) (j : J) :
    ∃ (j' : J) (y' : Value × Bool), @Leads ι (@ED ι) 0 dB (D l c z f ((i + 1 : Nat) : Int) (vS 1 (i + 1)) (vS 2 (i + 1)) (vI ((i + 1 : Nat) : Int)) y [some (Lg.gr z f), some (pR z cs (i + 1)), some (sR cs (i + 1))] j) .normal
      (D l c z f ((i + 1 + 1 : Nat) : Int) (vS 1 (i + 1 + 1)) (vS 2 (i + 1 + 1)) (vI ((i + 1 + 1 : Nat) : Int)) y' [some (Lg.gr z f), some (pR z cs (i + 1 + 1)), some (sR cs (i + 1 + 1))] j') := by
  letI : Frn := ι
  have l4 := Leads.reg (N := 0) (n0 := 0) hE mixed (show codeOk d4 = true by kernel_rfl) (d_r4 ι l c (i + 1) z f (vS 1 (i + 1)) (vS 2 (i + 1)) (vI ((i + 1 : Nat) : Int)) y [some (Lg.gr z f), some (pR z cs (i + 1)), some (sR cs (i + 1))] j) rfl
  rw [decide_eq_true (show (((i + 1 : Nat) : Int)) < (l : Int) by omega)] at l4
  have l4c := Leads.condT (E := @ED ι) (n0 := 0) (a := .skip) (b := .exit 0) (d_x4 l c (i + 1) z f (vS 1 (i + 1)) (vS 2 (i + 1)) (vI ((i + 1 : Nat) : Int)) [some (Lg.gr z f), some (pR z cs (i + 1)), some (sR cs (i + 1))] j true) Leads.skip
  have e5 := d_r5s ι l c (i + 1) z f (vS 1 (i + 1)) (vS 2 (i + 1)) (vI ((i + 1 : Nat) : Int)) j (pR z cs (i + 1)) (sR cs (i + 1))
  rw [hr, rows_full (rec_len (m := 17) (rowsB_len hb) hi), q4_true hb hi, rec_row hb hi] at e5
  have l5 := Leads.reg (N := 0) (n0 := 0) hE mixed (show codeOk d5 = true by kernel_rfl) e5 rfl
  have k := d_678s ι l c i z (nS cs (i + 1)) f (vI ((i + 1 : Nat) : Int)) j (pR z cs (i + 1)) (sR cs (i + 1)) (tS cs (i + 1))
  rw [kC_true, kA4_true pR_len (by omega), kA4_true sR_len (by omega)] at k
  obtain ⟨j1, l6⟩ := @cap_move ι _ _ _ _ _ _ _ _ _ hE mixed (show codeOk d678 = true by kernel_rfl) (by kernel_rfl) (by kernel_rfl) rfl k _ [some (Lg.gr z f), some (pR z cs (i + 1 + 1)), some (sR cs (i + 1 + 1))] _ (d_mv l c z f (i + 1) (vI ((i + 1 : Nat) : Int)) (.inl ⟨rfl, fun _ => rfl⟩) 5 14 21 (i + 1 + 1) (tS cs (i + 1)) (nS cs (i + 1)))
    (m3_hp rfl (congrArg some pR_succ) (congrArg some sR_succ) (Lg.gr_bare z f) fF_bare fF_bare) m3_ne (m3_inj (by decide) (by decide) (by decide))
  rw [D2_eq, D_of] at l6
  have e9 := d_r9 ι l c (i + 1) z f (vS 1 (i + 1 + 1)) (vS 2 (i + 1 + 1)) (vI ((i + 1 : Nat) : Int)) (vB true) [some (Lg.gr z f), some (pR z cs (i + 1 + 1)), some (sR cs (i + 1 + 1))] (up (up (up j1 9 vJ) 20 (vR 0 ((i + 1) * 17))) 21 (vA (rowS (tS cs (i + 1)) (nS cs (i + 1)))))
  rw [wrap_in (by omega) (by omega), show (((i + 1 : Nat) : Int) + 1) = ((i + 1 + 1 : Nat) : Int) from rfl] at e9
  have l9 := Leads.reg (N := 0) (n0 := 0) hE mixed (show codeOk d9 = true by kernel_rfl) e9 rfl
  have lP := Leads.seq (Leads.block (id := 1) (Leads.seq l5 l6)) l9
  rw [← dP_shape] at lP
  exact ⟨_, _, Leads.seq l4 (Leads.seq l4c lP)⟩
theorem d_stop (hE : @EnvOk ι (@ED ι)) (c : Nat) (P Q x y : Value × Bool) (h : Heap) (j : J) : @Leads ι (@ED ι) 0 dB (D l c z f ((l : Nat) : Int) P Q x y h j) (.exit 0) (D l c z f ((l : Nat) : Int) P Q x (vB false) h j) := by
  letI : Frn := ι
  have l4 := Leads.reg (N := 0) (n0 := 0) hE mixed (show codeOk d4 = true by kernel_rfl) (d_r4 ι l c l z f P Q x y h j) rfl
  rw [decide_eq_false (show ¬ (l : Int) < (l : Int) by omega)] at l4
  exact Leads.seq l4 (Leads.seqX (Leads.condF (E := @ED ι) (n0 := 0) (a := .skip) (b := .exit 0) (d_x4 l c l z f P Q x h j false) Leads.exit))
theorem d_loop (hE : @EnvOk ι (@ED ι)) (hr : @Frn.row ι 0 = cs) (hb : rowsB samK l cs = true) (hl : l ≤ 64) (c : Nat) : ∀ (m i : Nat) (y : Value × Bool) (j : J), i + 1 + m = l →
    ∃ (j' : J) (y' x' : Value × Bool), @LeadsL ι (@ED ι) 0 (m + 1) dB (D l c z f ((i + 1 : Nat) : Int) (vS 1 (i + 1)) (vS 2 (i + 1)) (vI ((i + 1 : Nat) : Int)) y [some (Lg.gr z f), some (pR z cs (i + 1)), some (sR cs (i + 1))] j) (.exit 0)
      (D l c z f (l : Int) (vS 1 l) (vS 2 l) x' y' [some (Lg.gr z f), some (pR z cs l), some (sR cs l)] j')
  | 0, i, y, j, h => by
    have hi : i + 1 = l := by omega
    rw [hi]
    exact ⟨_, _, _, LeadsL.stopX (d_stop ι z f hE c _ _ _ _ _ _)⟩
  | m + 1, i, y, j, h => by
    obtain ⟨j1, y1, k1⟩ := d_roundS ι z f hE hr hb hl c i (by omega) y j
    obtain ⟨j2, y2, x2, k2⟩ := d_loop hE hr hb hl c m (i + 1) y1 j1 (by omega)
    exact ⟨j2, y2, x2, LeadsL.more k1 k2⟩
end
theorem d_leads (base : Nat) (ts : Toks) (sm : List Value → Nat → Nat) (kF : List Value → Nat → Nat → Bool) {l : Nat} {cs : List Value} (z : Nat → Int) (f : Nat → Nat) (hE : @EnvOk (frnOf base ts (conF sm kF)) (@ED (frnOf base ts (conF sm kF)))) (hr : @Frn.row (frnOf base ts (conF sm kF)) 0 = cs)
    (hb : rowsB samK l cs = true) (hl : l ≤ 64) (h0 : 0 < l) (c : Nat) (k1 : kF (pR z cs l) l l = true) (k2 : kF (sR cs l) l l = true) :
    ∃ s' h', @Leads (frnOf base ts (conF sm kF)) (@ED (frnOf base ts (conF sm kF))) 0 dC (startS Try.f30 [.agg (Lg.gr z f).toArray, tok 0 l c] []) .ret s' ∧
      @finK (frnOf base ts (conF sm kF)) Try.prog Try.f30 .ret s' = some (.float .f32 (fdiv .f32 (sm (pR z cs l) l) (sm (sR cs l) l)), h', true) := by
  let ι : Frn := frnOf base ts (conF sm kF)
  letI : Frn := ι
  rw [d_start, d_shape]
  have l0 := Leads.reg (N := 0) (n0 := 0) hE mixed (show codeOk d0 = true by kernel_rfl) (d_r0 ι l c z f) rfl
  have l1 := Leads.reg (N := 0) (n0 := 0) hE mixed (show codeOk d1 = true by kernel_rfl) (d_r1 ι l c z f) rfl
  have l2 := Leads.reg (N := 0) (n0 := 0) hE mixed (show codeOk d2 = true by kernel_rfl) (d_r2 ι l c z f) rfl
  have l3 := Leads.reg (N := 0) (n0 := 0) hE mixed (show codeOk d3 = true by kernel_rfl) (d_r3 ι l c z f) rfl
  obtain ⟨j1, y1, q1⟩ := d_round0 ι z f hE hr hb h0 c vU fun _ => vU
  obtain ⟨m, rfl⟩ : ∃ m, l = m + 1 := ⟨l - 1, by omega⟩
  obtain ⟨j2, y2, x2, q2⟩ := d_loop ι z f hE hr hb hl c m 0 y1 j1 (by omega)
  have e10 := d_r10 (m + 1) c z f x2 y2 j2 (pR z cs (m + 1)) (sR cs (m + 1)) base ts sm kF
  rw [k1, k2] at e10
  have l10 := Leads.reg (N := 0) (n0 := 0) hE mixed (show codeOk d10 = true by kernel_rfl) e10 rfl
  have lA := Leads.seq l0 (Leads.seq l1 (Leads.seq l2 (Leads.seq (Leads.seq l3 (Leads.blockX (Leads.loop (LeadsL.more q1 q2)))) (Leads.seq l10 Leads.ret))))
  obtain ⟨r, hr2, e⟩ := Option.map_eq_some_iff.1 (d_end ι (m + 1) c z f x2 y2 [some (Lg.gr z f), some (pR z cs (m + 1)), some (sR cs (m + 1))] j2 (sm (pR z cs (m + 1)) (m + 1)) (sm (sR cs (m + 1)) (m + 1)))
  obtain ⟨v, h', k⟩ := r
  simp only [Prod.mk.injEq] at e
  obtain ⟨rfl, rfl⟩ := e
  exact ⟨_, h', lA, hr2⟩
end Dr
end Go.Proofs.Ytljmhdaphpdkgaa
end
