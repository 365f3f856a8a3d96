/-
  Means of counts: where sums and the model's loops lead. No condition.
-/
import Derived.Test.YtljmhdaphpdkgaaMc
set_option linter.unusedSectionVars false
set_option linter.unusedVariables false
noncomputable section
namespace Go.Proofs.Ytljmhdaphpdkgaa
namespace Mc
open Go Go.ChangeShapes Go.WideShapes Go.ChangeAt Go.RowKit Ev
/-- the sum of the counts of the first samples at a wavelength -/
def suN (cs : List Value) (w : Nat) : Nat → Int
  | 0 => 0
  | k + 1 => IntKind.i64.wrap (suN cs w k + IntKind.i64.wrap (xM cs (w : Int) k))
theorem rowN_get {cs : List Value} {w n k : Nat} (h : k < n) : (rowN cs w n)[k]? = some (.int .i16 (xM cs (w : Int) k)) := by
  unfold rowN
  rw [List.getElem?_map, List.getElem?_range h]; rfl
theorem rowN_getD {cs : List Value} {w n k : Nat} (h : k < n) : (rowN cs w n).getD k undef = .int .i16 (xM cs (w : Int) k) := by
  rw [List.getD_eq_getElem?_getD, rowN_get h]; rfl
theorem fS_true {cs : List Value} {w n k : Nat} (h : k < n) : fS (rowN cs w n) k = true := by
  unfold fS
  rw [Nat.mul_one, rowN_get h, rowN_getD h]; rfl
theorem xS_eq {cs : List Value} {w n k : Nat} (h : k < n) : xS (rowN cs w n) k = xM cs (w : Int) k := by
  unfold xS
  rw [Nat.mul_one, rowN_getD h]; rfl
theorem kC_true (z : Int) : kC z = true := by
  have hn : isN .f32 (nr z) = false := write_cn .f32 (d := .number (z < 0) z.natAbs 0) rfl
  show (!isN .f32 (nr z) || Nat.beq (nr z) (qn .f32)) = true
  rw [hn]; rfl
def upTo (f : Nat → Int) (w : Nat) : Nat → Int := fun k => if k < w then f k else 0
theorem up_zero (f : Nat → Int) : z16 = q16 (upTo f 0) := by kernel_rfl
theorem up_full (f : Nat → Int) : q16 (upTo f 16) = q16 f := by kernel_rfl
theorem q16_len (f : Nat → Int) : (q16 f).length = 16 := by kernel_rfl
theorem up_step (f : Nat → Int) : ∀ (w : Nat), w < 16 → setRow (q16 (upTo f w)) (0 + ((w : Nat) : Int).toNat * 1) [.int .i16 (f w)] = q16 (upTo f (w + 1))
  | 0, _ => by kernel_rfl
  | 1, _ => by kernel_rfl
  | 2, _ => by kernel_rfl
  | 3, _ => by kernel_rfl
  | 4, _ => by kernel_rfl
  | 5, _ => by kernel_rfl
  | 6, _ => by kernel_rfl
  | 7, _ => by kernel_rfl
  | 8, _ => by kernel_rfl
  | 9, _ => by kernel_rfl
  | 10, _ => by kernel_rfl
  | 11, _ => by kernel_rfl
  | 12, _ => by kernel_rfl
  | 13, _ => by kernel_rfl
  | 14, _ => by kernel_rfl
  | 15, _ => by kernel_rfl
  | n + 16, h => absurd h (by omega)
section
variable (ι : Frn) {l : Nat} {cs : List Value}
/-! ### sumOver -/
theorem s_round (hE : @EnvOk ι (@EP ι)) {w : Nat} (hr : @Frn.row ι 0 = rowN cs w l) (hl : l ≤ 64) (c i : Nat) (j : J) (hi : i < l) :
    ∃ j', @Leads ι (@EP ι) 0 sBody (S 23 (sJ l c (suN cs w i) i j) [] true) .normal (S 23 (sJ l c (suN cs w (i + 1)) ((i + 1 : Nat) : Int) j') [] true) := by
  letI : Frn := ι
  have l3 := Leads.reg (N := 0) (n0 := 0) hE mixed (show codeOk s3 = true by kernel_rfl) (s_r3 ι l c i j (suN cs w i)) rfl
  rw [decide_eq_true (show ((i : Int)) < (l : Int) by omega)] at l3
  have l3c := Leads.condT (E := @EP ι) (n0 := 0) (a := .skip) (b := .exit 0) (s_x3 l c i j true (suN cs w i)) Leads.skip
  have e4 := s_r4 ι l c i (up j 11 (vB true)) (suN cs w i)
  rw [hr, fS_true hi, xS_eq hi, inB_true hi] at e4
  have l4 := Leads.reg (N := 0) (n0 := 0) hE mixed (show codeOk s4 = true by kernel_rfl) e4 rfl
  generalize up (up (up (up j 11 (vB true)) 12 (vI i)) 13 (vR 0 (i * 1))) 14 (vH (xM cs w i)) = j1 at l4
  have l5 := Leads.reg (N := 0) (n0 := 0) hE mixed (show codeOk s5 = true by kernel_rfl) (s_r5 ι l c i j1 (suN cs w i) (xM cs w i)) rfl
  generalize (up (up (up (up (up (up (up (up j1 6 (vI i)) 7 (vH (xM cs w i))) 15 (vI (suN cs w i))) 16 vF) 17 (vI i)) 18 (vH (xM cs w i))) 19 (vI (IntKind.i64.wrap (xM cs w i)))) 20 (vI (IntKind.i64.wrap (suN cs w i + IntKind.i64.wrap (xM cs w i))))) = j2 at l5
  have e6 := s_r6 ι l c i j2 (IntKind.i64.wrap (suN cs w i + IntKind.i64.wrap (xM cs w i)))
  rw [wrap_in (z := (i : Int) + 1) (by omega) (by omega), show ((i : Int) + 1) = ((i + 1 : Nat) : Int) from rfl] at e6
  have l6 := Leads.reg (N := 0) (n0 := 0) hE mixed (show codeOk s6 = true by kernel_rfl) e6 rfl
  exact ⟨_, Leads.seq l3 (Leads.seq l3c (Leads.seq (Leads.block (id := 1) (Leads.seq l4 l5)) l6))⟩
theorem s_stop (hE : @EnvOk ι (@EP ι)) (c : Nat) (z : Int) (j : J) : @Leads ι (@EP ι) 0 sBody (S 23 (sJ l c z (l : Int) j) [] true) (.exit 0) (S 23 (sJ l c z (l : Int) (up j 11 (vB false))) [] true) := by
  letI : Frn := ι
  have l3 := Leads.reg (N := 0) (n0 := 0) hE mixed (show codeOk s3 = true by kernel_rfl) (s_r3 ι l c l j z) rfl
  rw [decide_eq_false (show ¬ (l : Int) < (l : Int) by omega)] at l3
  exact Leads.seq l3 (Leads.seqX (Leads.condF (E := @EP ι) (n0 := 0) (a := .skip) (b := .exit 0) (s_x3 l c l j false z) Leads.exit))
theorem s_loop (hE : @EnvOk ι (@EP ι)) {w : Nat} (hr : @Frn.row ι 0 = rowN cs w l) (hl : l ≤ 64) (c : Nat) : ∀ (m i : Nat) (j : J), i + m = l →
    ∃ j', @LeadsL ι (@EP ι) 0 (m + 1) sBody (S 23 (sJ l c (suN cs w i) i j) [] true) (.exit 0) (S 23 (sJ l c (suN cs w l) (l : Int) j') [] true)
  | 0, i, j, h => by
    have hi : i = l := by omega
    rw [hi]
    exact ⟨_, LeadsL.stopX (s_stop ι hE c _ j)⟩
  | m + 1, i, j, h => by
    obtain ⟨j1, k1⟩ := s_round ι hE hr hl c i j (by omega)
    obtain ⟨j2, k2⟩ := s_loop hE hr hl c m (i + 1) j1 (by omega)
    exact ⟨j2, LeadsL.more k1 k2⟩
theorem s_leads (hE : @EnvOk ι (@EP ι)) {w : Nat} (hr : @Frn.row ι 0 = rowN cs w l) (hl : l ≤ 64) (c : Nat) :
    ∃ s', @Leads ι (@EP ι) 0 sC (startS Try.f35 [tok 0 l c, .func (.func 37) #[] #[]] []) .ret s' ∧ @finK ι Try.prog Try.f35 .ret s' = some (.int .i64 (suN cs w l), [], true) := by
  letI : Frn := ι
  rw [s_start, s_shape]
  have l0 := Leads.reg (N := 0) (n0 := 0) hE mixed (show codeOk s0 = true by kernel_rfl) (s_r0 ι l c j0) rfl
  have l1 := Leads.reg (N := 0) (n0 := 0) hE mixed (show codeOk s1 = true by kernel_rfl) (s_r1 ι l c (up j0 4 (vI 0))) rfl
  have l2 := Leads.reg (N := 0) (n0 := 0) hE mixed (show codeOk s2 = true by kernel_rfl) (s_r2 ι l c (up j0 4 (vI 0))) rfl
  obtain ⟨j2, k2⟩ := s_loop ι hE hr hl c l 0 (up j0 4 (vI 0)) (by omega)
  have l7 := Leads.reg (N := 0) (n0 := 0) hE mixed (show codeOk s7 = true by kernel_rfl) (s_r7 ι l c l j2 (suN cs w l)) rfl
  exact ⟨_, Leads.seq l0 (Leads.seq l1 (Leads.seq (Leads.seq l2 (Leads.blockX (Leads.loop k2))) (Leads.seq l7 Leads.ret))), s_end ι _ _⟩
/-! ### the model -/
theorem m_round (hE : @EnvOk ι (@EP ι)) {w : Nat} (hw : w < 16) (hr : @Frn.row ι 0 = cs) (hb : rowsB samK l cs = true) (hl : l ≤ 64) (c i : Nat) (j : J) (h : Heap) (hi : i < l) :
    ∃ j', @Leads ι (@EP ι) 0 mBodyK (S 38 (mJ2 l c w (suN cs w i) i j) h true) .normal (S 38 (mJ2 l c w (suN cs w (i + 1)) ((i + 1 : Nat) : Int) j') h true) := by
  letI : Frn := ι
  have l3 := Leads.reg (N := 0) (n0 := 0) hE mixed (show codeOk m7 = true by kernel_rfl) (m_r7 ι l c i w (suN cs w i) j h) rfl
  rw [decide_eq_true (show ((i : Int)) < (l : Int) by omega)] at l3
  have l3c := Leads.condT (E := @EP ι) (n0 := 0) (a := .skip) (b := .exit 2) (m_x7 l c i w (suN cs w i) (up (up (up j 12 (vI i)) 13 (vT 0 l c)) 14 (vI l)) h true) Leads.skip
  generalize up (up (up j 12 (vI i)) 13 (vT 0 l c)) 14 (vI l) = j1 at l3 l3c
  have e9 := m_r9 ι l c i w (suN cs w i) (up j1 15 (vB true)) h
  rw [hr, fM_eq hw, fW_true hb hi hw, inW hw, inB_true hi] at e9
  have l9 := Leads.reg (N := 0) (n0 := 0) hE mixed (show codeOk m9 = true by kernel_rfl) e9 rfl
  generalize (up (up (up (up (up (up (up (up (up (up (up j1 15 (vB true)) 18 (vI (suN cs w i))) 19 (vT 0 l c)) 20 (vI i)) 21 (vI w)) 22 (vR 0 (i * 17))) 23 (vR 0 (i * 17 + 1))) 24 (vR 0 (wM w i))) 25 (vH (xM cs w i))) 26 (vI (IntKind.i64.wrap (xM cs w i)))) 27 (vI (IntKind.i64.wrap (suN cs w i + IntKind.i64.wrap (xM cs w i))))) = j2 at l9
  have e8 := m_r8 ι l c i w (IntKind.i64.wrap (suN cs w i + IntKind.i64.wrap (xM cs w i))) j2 h
  rw [wrap_in (z := (i : Int) + 1) (by omega) (by omega), show ((i : Int) + 1) = ((i + 1 : Nat) : Int) from rfl] at e8
  have l8 := Leads.reg (N := 0) (n0 := 0) hE mixed (show codeOk m8 = true by kernel_rfl) e8 rfl
  exact ⟨_, Leads.seq (Leads.seq l3 l3c) (Leads.seq (Leads.block (id := 3) l9) l8)⟩
theorem m_stopK (hE : @EnvOk ι (@EP ι)) (w z : Int) (c : Nat) (j : J) (h : Heap) : ∃ j', @Leads ι (@EP ι) 0 mBodyK (S 38 (mJ2 l c w z (l : Int) j) h true) (.exit 2) (S 38 (mJ2 l c w z (l : Int) j') h true) := by
  letI : Frn := ι
  have l3 := Leads.reg (N := 0) (n0 := 0) hE mixed (show codeOk m7 = true by kernel_rfl) (m_r7 ι l c l w z j h) rfl
  rw [decide_eq_false (show ¬ (l : Int) < (l : Int) by omega)] at l3
  exact ⟨_, Leads.seqX (Leads.seq l3 (Leads.condF (E := @EP ι) (n0 := 0) (a := .skip) (b := .exit 2) (m_x7 l c l w z (up (up (up j 12 (vI l)) 13 (vT 0 l c)) 14 (vI l)) h false) Leads.exit))⟩
theorem m_loopK (hE : @EnvOk ι (@EP ι)) {w : Nat} (hw : w < 16) (hr : @Frn.row ι 0 = cs) (hb : rowsB samK l cs = true) (hl : l ≤ 64) (c : Nat) (h : Heap) : ∀ (m i : Nat) (j : J), i + m = l →
    ∃ j', @LeadsL ι (@EP ι) 0 (m + 1) mBodyK (S 38 (mJ2 l c w (suN cs w i) i j) h true) (.exit 2) (S 38 (mJ2 l c w (suN cs w l) (l : Int) j') h true)
  | 0, i, j, e => by
    have hi : i = l := by omega
    rw [hi]
    obtain ⟨j', k⟩ := m_stopK ι (l := l) hE w (suN cs w l) c j h
    exact ⟨j', LeadsL.stopX k⟩
  | m + 1, i, j, e => by
    obtain ⟨j1, k1⟩ := m_round ι hE hw hr hb hl c i j h (by omega)
    obtain ⟨j2, k2⟩ := m_loopK hE hw hr hb hl c h m (i + 1) j1 (by omega)
    exact ⟨j2, LeadsL.more k1 k2⟩
/-- the means -/
def meV (cs : List Value) (l : Nat) (w : Nat) : Int := mV (suN cs w l) l
theorem m_roundO (hE : @EnvOk ι (@EP ι)) {w : Nat} (hw : w < 16) (hr : @Frn.row ι 0 = cs) (hb : rowsB samK l cs = true) (hl : l ≤ 64) (c : Nat) (j : J) :
    ∃ j', @Leads ι (@EP ι) 0 mBody (S 38 (mJ l c w j) (Hm (q16 (upTo (meV cs l) w))) true) .normal (S 38 (mJ l c ((w + 1 : Nat) : Int) j') (Hm (q16 (upTo (meV cs l) (w + 1)))) true) := by
  letI : Frn := ι
  have l3 := Leads.reg (N := 0) (n0 := 0) hE mixed (show codeOk m3 = true by kernel_rfl) (m_r3 ι l c w j (Hm (q16 (upTo (meV cs l) w)))) rfl
  rw [decide_eq_true (show ((w : Int)) < 16 by omega)] at l3
  have l3c := Leads.condT (E := @EP ι) (n0 := 0) (a := .skip) (b := .exit 0) (m_x3 l c w (up j 8 (vI w)) (Hm (q16 (upTo (meV cs l) w))) true) Leads.skip
  have l5 := Leads.reg (N := 0) (n0 := 0) hE mixed (show codeOk m5 = true by kernel_rfl) (m_r5 ι l c w (up (up j 8 (vI w)) 9 (vB true)) (Hm (q16 (upTo (meV cs l) w)))) rfl
  have l6 := Leads.reg (N := 0) (n0 := 0) hE mixed (show codeOk m6 = true by kernel_rfl) (m_r6 ι l c w (up (up j 8 (vI w)) 9 (vB true)) (Hm (q16 (upTo (meV cs l) w)))) rfl
  obtain ⟨j2, k2⟩ := m_loopK ι hE hw hr hb hl c (Hm (q16 (upTo (meV cs l) w))) l 0 (up (up j 8 (vI w)) 9 (vB true)) (by omega)
  have e10 := m_r10 ι l c l w (suN cs w l) j2 (q16 (upTo (meV cs l) w))
  rw [q16_len, kC_true, kC_true, inW hw, ble_of (show 0 + ((w : Nat) : Int).toNat * 1 + 1 ≤ 16 by rw [Int.toNat_natCast]; omega), show setRow (q16 (upTo (meV cs l) w)) (0 + ((w : Nat) : Int).toNat * 1) [.int .i16 (mV (suN cs w l) l)] = q16 (upTo (meV cs l) (w + 1)) from up_step (meV cs l) w hw] at e10
  have l10 := Leads.reg (N := 0) (n0 := 0) hE mixed (show codeOk m10 = true by kernel_rfl) e10 rfl
  generalize (up (up (up (up (up (up (up (up (up j2 28 (vI w)) 29 (vI (suN cs w l))) 30 (vD (nr (suN cs w l)))) 31 (vT 0 l c)) 32 (vI l)) 33 (vD (nr (l : Int)))) 34 (vD (fdiv .f32 (nr (suN cs w l)) (nr (l : Int))))) 35 (vH (mV (suN cs w l) l))) 36 (vPo 2 (0 + ((w : Nat) : Int).toNat * 1))) = j3 at l10
  have e4 := m_r4 ι l c l w (suN cs w l) j3 (Hm (q16 (upTo (meV cs l) (w + 1))))
  rw [wrap_in (z := (w : Int) + 1) (by omega) (by omega), show ((w : Int) + 1) = ((w + 1 : Nat) : Int) from rfl] at e4
  have l4 := Leads.reg (N := 0) (n0 := 0) hE mixed (show codeOk m4 = true by kernel_rfl) e4 rfl
  exact ⟨_, Leads.seq (Leads.seq l3 l3c) (Leads.seq (Leads.block (id := 1) (Leads.seq l5 (Leads.seq (Leads.seq l6 (Leads.blockX (Leads.loop k2))) l10))) l4)⟩
theorem m_stop (hE : @EnvOk ι (@EP ι)) (c : Nat) (j : J) (h : Heap) : ∃ j', @Leads ι (@EP ι) 0 mBody (S 38 (mJ l c ((16 : Nat) : Int) j) h true) (.exit 0) (S 38 (mJ l c ((16 : Nat) : Int) j') h true) := by
  letI : Frn := ι
  have l3 := Leads.reg (N := 0) (n0 := 0) hE mixed (show codeOk m3 = true by kernel_rfl) (m_r3 ι l c ((16 : Nat) : Int) j h) rfl
  rw [decide_eq_false (show ¬ ((16 : Nat) : Int) < 16 by omega)] at l3
  exact ⟨_, Leads.seqX (Leads.seq l3 (Leads.condF (E := @EP ι) (n0 := 0) (a := .skip) (b := .exit 0) (m_x3 l c ((16 : Nat) : Int) (up j 8 (vI ((16 : Nat) : Int))) h false) Leads.exit))⟩
theorem m_loop (hE : @EnvOk ι (@EP ι)) (hr : @Frn.row ι 0 = cs) (hb : rowsB samK l cs = true) (hl : l ≤ 64) (c : Nat) : ∀ (m w : Nat) (j : J), w + m = 16 →
    ∃ j', @LeadsL ι (@EP ι) 0 (m + 1) mBody (S 38 (mJ l c w j) (Hm (q16 (upTo (meV cs l) w))) true) (.exit 0) (S 38 (mJ l c ((16 : Nat) : Int) j') (Hm (q16 (upTo (meV cs l) 16))) true)
  | 0, w, j, e => by
    have hi : w = 16 := by omega
    subst hi
    obtain ⟨j', k⟩ := m_stop ι (l := l) hE c j (Hm (q16 (upTo (meV cs l) 16)))
    exact ⟨j', LeadsL.stopX k⟩
  | m + 1, w, j, e => by
    obtain ⟨j1, k1⟩ := m_roundO ι hE (w := w) (by omega) hr hb hl c j
    obtain ⟨j2, k2⟩ := m_loop hE hr hb hl c m (w + 1) j1 (by omega)
    exact ⟨j2, LeadsL.more k1 k2⟩
theorem m_leads (hE : @EnvOk ι (@EP ι)) (hr : @Frn.row ι 0 = cs) (hb : rowsB samK l cs = true) (hl : l ≤ 64) (c : Nat) :
    ∃ s' h', @Leads ι (@EP ι) 0 mC (startS Try.f19 [tok 0 l c] []) .ret s' ∧ @finK ι Try.prog Try.f19 .ret s' = some (.agg (q16 (meV cs l)).toArray, h', true) := by
  letI : Frn := ι
  rw [m_start, m_shape]
  have l0 := Leads.reg (N := 0) (n0 := 0) hE mixed (show codeOk m0 = true by kernel_rfl) (m_r0 ι l c j0) rfl
  have l1 := Leads.reg (N := 0) (n0 := 0) hE mixed (show codeOk m1 = true by kernel_rfl) (m_r1 ι l c j0) rfl
  have l2 := Leads.reg (N := 0) (n0 := 0) hE mixed (show codeOk m2 = true by kernel_rfl) (m_r2 ι l c (up j0 7 (vA z16)) (Hm z16)) rfl
  rw [up_zero (meV cs l)] at l1 l2
  obtain ⟨j2, k2⟩ := m_loop ι hE hr hb hl c 16 0 (up j0 7 (vA (q16 (upTo (meV cs l) 0)))) rfl
  rw [up_full] at k2
  have e11 := m_r11 ι l c ((16 : Nat) : Int) j2 (q16 (meV cs l))
  rw [q_set, q_ok] at e11
  have l11 := Leads.reg (N := 0) (n0 := 0) hE mixed (show codeOk m11 = true by kernel_rfl) e11 rfl
  exact ⟨_, _, Leads.seq l0 (Leads.seq l1 (Leads.seq (Leads.seq l2 (Leads.blockX (Leads.loop k2))) (Leads.seq l11 Leads.ret))), m_end ι l c _ _ _ (meV cs l)⟩
end
end Mc
end Go.Proofs.Ytljmhdaphpdkgaa
end
