/-
  Works that are the same: batches, and where the model leads. No condition.
-/
import Derived.Test.YteelhhdadcdclaaUd
set_option linter.unusedSectionVars false
set_option linter.unusedVariables false
noncomputable section
namespace Go.Proofs.Yteelhhdadcdclaa
namespace Zb
open Go Go.ChangeShapes Go.WideShapes Go.ChangeAt Go.RowKit Ev
/-! ### one batch -/
def TT : Told := ⟨fun r r2 => (bq r r2).1⟩
def rowA (s : ByteArray) (d : Nat → Int) : List Value := .string s :: (List.range 8).map fun j => .int .i64 (d j)
theorem rec_form {r : List Value} (h : shapeB batK r = true) : ∃ s d, r = rowA s d := by
  obtain ⟨s, y0, rfl, h0⟩ := shape_s h
  obtain ⟨d0, y1, rfl, h1⟩ := shape_i h0
  obtain ⟨d1, y2, rfl, h2⟩ := shape_i h1
  obtain ⟨d2, y3, rfl, h3⟩ := shape_i h2
  obtain ⟨d3, y4, rfl, h4⟩ := shape_i h3
  obtain ⟨d4, y5, rfl, h5⟩ := shape_i h4
  obtain ⟨d5, y6, rfl, h6⟩ := shape_i h5
  obtain ⟨d6, y7, rfl, h7⟩ := shape_i h6
  obtain ⟨d7, y8, rfl, h8⟩ := shape_i h7
  have : y8 = [] := by
    cases y8 with
    | nil => rfl
    | cons y ys => cases h8
  subst this
  exact ⟨s, fun j => [d0, d1, d2, d3, d4, d5, d6, d7].getD j 0, rfl⟩
def dE (d e : Nat → Int) : Bool := (decide (d 0 = e 0) && (decide (d 1 = e 1) && (decide (d 2 = e 2) && (decide (d 3 = e 3) && (decide (d 4 = e 4) && (decide (d 5 = e 5) && (decide (d 6 = e 6) && (decide (d 7 = e 7) && true))))))))
theorem nE_eq (s t : ByteArray) : (s == t) = (s.toList == t.toList) := by
  rw [show (s == t) = (s.data == t.data) by cases s; cases t; rfl, Go.ByteArray.toList_eq, Go.ByteArray.toList_eq, Bool.eq_iff_iff, beq_iff_eq, beq_iff_eq]
  exact ⟨fun h => by rw [h], fun h => Array.ext' h⟩
theorem bq_row (s s2 : ByteArray) (d d2 : Nat → Int) : bq (rowA s d) (rowA s2 d2) = (((s == s2) && (dE d d2 && true)), true) := by kernel_rfl
def G5 (ne : Bool) : Bool := (((bif ne then (decide (ne = true) && true) else true) && true) && ((((decide (ne = true) && true) && (decide (ne = true) && true)) || (!decide (ne = true))) && ((((decide (ne = true) && true) && true) || (!decide (ne = true))) && ((((decide (ne = true) && true) && true) || (!decide (ne = true))) && true))))
theorem G5_true (ne : Bool) : G5 ne = true := by cases ne <;> rfl
theorem bat_eval (s s2 : ByteArray) (d d2 : Nat → Int) : (@funD noFrn Try.prog noOrc noOrc [22] 40 5 22 [.agg (rowA s d).toArray, .agg (rowA s2 d2).toArray] []).map (fun r => (r.1, r.2.2)) = some (.bool ((s.toList == s2.toList) && decide (true = dE d d2)), G5 (s.toList == s2.toList)) := by kernel_rfl
theorem bq_val (s s2 : ByteArray) (d d2 : Nat → Int) : ((s.toList == s2.toList) && decide (true = dE d d2)) = (bq (rowA s d) (rowA s2 d2)).1 := by
  rw [bq_row, nE_eq]
  cases s.toList == s2.toList <;> cases dE d d2 <;> rfl
theorem bare9 {xs : Array Value} (h : shapeB batK xs.toList = true) : bareP (.agg xs) = true := shape_bare h
theorem plain9 {xs : Array Value} (h : shapeB batK xs.toList = true) : plainB (.agg xs) = true := by
  have := shape_bare h
  show xs.toList.all flatB = true
  rw [List.all_eq_true] at this ⊢
  intro v hv
  have := this v hv
  cases v <;> first | rfl | cases this
theorem sp_bare : BareSig (spO TT) := fun args v he => by
  unfold spO at he
  split at he
  · rename_i xs ys
    simp only [Option.some.injEq, Prod.mk.injEq, Bool.and_eq_true] at he
    obtain ⟨rfl, h1, h2⟩ := he
    refine ⟨?_, rfl⟩
    rw [List.all_cons, List.all_cons, bare9 h1, bare9 h2]; rfl
  · cases he
theorem sp_one {ι : Frn} : @OrcOne ι Try.prog 22 (spO TT) := by
  refine orc_any (?_ : @OrcOne noFrn Try.prog 22 (spO TT)) sp_bare
  refine orc_one (us := [22]) (cf := 40) (d := 5) mixed (by kernel_rfl) (l0 := []) (lx := []) all_nil all_nil (by kernel_rfl) fun args v k he hk hx => ?_
  unfold spO at he
  split at he
  · rename_i xs ys
    simp only [Option.some.injEq, Prod.mk.injEq] at he
    obtain ⟨rfl, rfl⟩ := he
    rw [Bool.and_eq_true] at hk
    refine ⟨?_, rfl, ?_⟩
    · rw [List.all_cons, List.all_cons, plain9 hk.1, plain9 hk.2]; rfl
    · obtain ⟨s, d, e1⟩ := rec_form hk.1
      obtain ⟨s2, d2, e2⟩ := rec_form hk.2
      have e := bat_eval s s2 d d2
      rw [G5_true, bq_val] at e
      obtain ⟨r, hr, e⟩ := Option.map_eq_some_iff.1 e
      obtain ⟨u, h', g⟩ := r
      simp only [Prod.mk.injEq] at e
      obtain ⟨rfl, rfl⟩ := e
      have a1 : xs = (rowA s d).toArray := Array.ext' e1
      have a2 : ys = (rowA s2 d2).toArray := Array.ext' e2
      subst a1 a2
      exact ⟨h', hr⟩
  · cases he
theorem orcZOk {ι : Frn} : ∀ p ∈ orcZ TT, @OrcOne ι Try.prog p.1 p.2 := all_cons sp_one all_nil
theorem bq_true {cs ds : List Value} {l l2 i : Nat} (hb : rowsB batK l cs = true) (hb2 : rowsB batK l2 ds = true) (hi : i < l) (hi2 : i < l2) : (bq (recAt 9 cs i) (recAt 9 ds i)).2 = true := by
  obtain ⟨s, d, e1⟩ := rec_form (rowsB_at hb hi)
  obtain ⟨s2, d2, e2⟩ := rec_form (rowsB_at hb2 hi2)
  have e1 : recAt 9 cs i = rowA s d := e1
  have e2 : recAt 9 ds i = rowA s2 d2 := e2
  rw [e1, e2, bq_row]
def pE (cs ds : List Value) (i : Nat) : Bool := (bq (recAt 9 cs i) (recAt 9 ds i)).1
/-! ### the model -/
theorem b_self {j : J} (h0 : j 0 = vP 0) (h1 : j 1 = vP 1) : j = bJ j := by
  unfold bJ
  rw [up_self h0, up_self h1]
theorem m_self {j : J} {i : Int} (h0 : j 0 = vP 0) (h1 : j 1 = vP 1) (h5 : j 5 = vI i) : j = mJ i j := by
  unfold mJ
  rw [← b_self h0 h1, up_self h5]
section
variable (ι : Frn) (T : Told) {l : Nat} {cs ds : List Value} {t0 u0 : Int}
theorem m_round (hE : @EnvOk ι (@EZ T ι)) (hr0 : @Frn.row ι 0 = cs) (hr1 : @Frn.row ι 1 = ds) (hb : rowsB batK l cs = true) (hb2 : rowsB batK l ds = true) (hl : l ≤ 9223372036854775807) (c c2 i : Nat) (j : J) (hi : i < l) :
    (pE cs ds i = true → ∃ j', @Leads ι (@EZ T ι) 3 mBody (S 52 (mJ i j) (Hm l c l c2 (rooms t0) (rooms u0)) true) .normal (S 52 (mJ ((i + 1 : Nat) : Int) j') (Hm l c l c2 (rooms t0) (rooms u0)) true)) ∧
    (pE cs ds i = false → ∃ j', @Leads ι (@EZ T ι) 3 mBody (S 52 (mJ i j) (Hm l c l c2 (rooms t0) (rooms u0)) true) .ret (S 52 (up j' 4 (vB false)) (Hm l c l c2 (rooms t0) (rooms u0)) true)) := by
  letI : Frn := ι
  obtain ⟨j4, h4, v4⟩ := reg_see (m_r4 ι T l c l c2 i j t0 u0) rfl
  have l4 := Leads.reg (N := 0) (n0 := 3) hE mixed (show codeOk m4 = true by kernel_rfl) h4 rfl
  simp only [List.map_cons, List.map_nil, List.cons.injEq] at v4
  obtain ⟨a0, a1, a5, a34, _⟩ := v4
  rw [decide_eq_true (show (i : Int) < (l : Int) by omega)] at a34
  have e4 : j4 = mJ i (up j4 34 (vB true)) := by rw [up_self a34]; exact m_self a0 a1 a5
  rw [e4] at l4
  have l4c := Leads.condT (E := @EZ T ι) (n0 := 3) (a := .skip) (b := .exit 0) (m_x4 i j4 (Hm l c l c2 (rooms t0) (rooms u0)) true) Leads.skip
  have hlen : cs.length = l * 9 := rowsB_len hb
  have hlen2 : ds.length = l * 9 := rowsB_len hb2
  have h1 : (i + 1) * 9 ≤ l * 9 := Nat.mul_le_mul_right 9 hi
  have q := m_r8 ι T l c l c2 i (up j4 34 (vB true)) t0 u0
  rw [hr0, hr1] at q
  obtain ⟨j8, h8, v8⟩ := reg_see q (by rw [bq_true hb hb2 hi hi, ble_of (show i * 9 + 9 ≤ cs.length by omega), ble_of (show i * 9 + 9 ≤ ds.length by omega), inB_true hi]; rfl)
  have l8 := Leads.reg (N := 0) (n0 := 3) hE mixed (show codeOk m8 = true by kernel_rfl) h8 rfl
  simp only [List.map_cons, List.map_nil, List.cons.injEq] at v8
  obtain ⟨d0, d1, d5, d51, _⟩ := v8
  have d51 : j8 51 = vB (!(pE cs ds i)) := d51
  have e8 : j8 = mJ i (up j8 51 (vB (!(pE cs ds i)))) := by rw [up_self d51]; exact m_self d0 d1 d5
  rw [e8] at l8
  constructor
  · intro hp
    rw [hp] at l8
    have l8c := Leads.condF (E := @EZ T ι) (n0 := 3) (a := .seq (sa (ca m8c)) .ret) (b := .skip) (m_x8 i j8 (Hm l c l c2 (rooms t0) (rooms u0)) false) Leads.skip
    have q5' := m_r5 ι T i (up j8 51 (vB false)) (Hm l c l c2 (rooms t0) (rooms u0))
    rw [wrap_in (by omega) (by omega)] at q5'
    obtain ⟨j5, h5, v5⟩ := reg_see q5' rfl
    have l5 := Leads.reg (N := 0) (n0 := 3) hE mixed (show codeOk m5 = true by kernel_rfl) h5 rfl
    simp only [List.map_cons, List.map_nil, List.cons.injEq] at v5
    obtain ⟨k0, k1, k5, _⟩ := v5
    have e5 : j5 = mJ ((i + 1 : Nat) : Int) j5 := m_self k0 k1 k5
    rw [e5] at l5
    exact ⟨_, Leads.seq (Leads.seq l4 l4c) (Leads.seq (Leads.block (id := 1) (Leads.seq l8 l8c)) l5)⟩
  · intro hp
    rw [hp] at l8
    have l8c := Leads.condT (E := @EZ T ι) (n0 := 3) (a := .seq (sa (ca m8c)) .ret) (b := .skip) (m_x8 i j8 (Hm l c l c2 (rooms t0) (rooms u0)) true) (Leads.seq (Leads.reg (N := 0) hE mixed (show codeOk (sa (ca m8c)) = true by kernel_rfl) (m_r9 ι T _ _) rfl) Leads.ret)
    exact ⟨_, Leads.seq (Leads.seq l4 l4c) (Leads.seqR (Leads.blockR (Leads.seq l8 l8c)))⟩
theorem m_stop (hE : @EnvOk ι (@EZ T ι)) (c c2 : Nat) (j : J) : ∃ j', @Leads ι (@EZ T ι) 3 mBody (S 52 (mJ (l : Int) j) (Hm l c l c2 (rooms t0) (rooms u0)) true) (.exit 0) (S 52 j' (Hm l c l c2 (rooms t0) (rooms u0)) true) := by
  letI : Frn := ι
  obtain ⟨j4, h4, v4⟩ := reg_see (m_r4 ι T l c l c2 l j t0 u0) rfl
  have l4 := Leads.reg (N := 0) (n0 := 3) hE mixed (show codeOk m4 = true by kernel_rfl) h4 rfl
  simp only [List.map_cons, List.map_nil, List.cons.injEq] at v4
  obtain ⟨a0, a1, a5, a34, _⟩ := v4
  rw [decide_eq_false (show ¬ (l : Int) < (l : Int) by omega)] at a34
  have e4 : j4 = mJ l (up j4 34 (vB false)) := by rw [up_self a34]; exact m_self a0 a1 a5
  rw [e4] at l4
  have l4c := Leads.condF (E := @EZ T ι) (n0 := 3) (a := .skip) (b := .exit 0) (m_x4 l j4 (Hm l c l c2 (rooms t0) (rooms u0)) false) Leads.exit
  exact ⟨_, Leads.seqX (Leads.seq l4 l4c)⟩
theorem m_loop (hE : @EnvOk ι (@EZ T ι)) (hr0 : @Frn.row ι 0 = cs) (hr1 : @Frn.row ι 1 = ds) (hb : rowsB batK l cs = true) (hb2 : rowsB batK l ds = true) (hl : l ≤ 9223372036854775807) (c c2 : Nat) : ∀ (m i : Nat) (j : J), i + m = l →
    (allP (fun i => pE cs ds i) m i = true ∧ ∃ j', @LeadsL ι (@EZ T ι) 3 (m + 1) mBody (S 52 (mJ i j) (Hm l c l c2 (rooms t0) (rooms u0)) true) (.exit 0) (S 52 j' (Hm l c l c2 (rooms t0) (rooms u0)) true)) ∨
    (allP (fun i => pE cs ds i) m i = false ∧ ∃ j', @LeadsL ι (@EZ T ι) 3 (m + 1) mBody (S 52 (mJ i j) (Hm l c l c2 (rooms t0) (rooms u0)) true) .ret (S 52 (up j' 4 (vB false)) (Hm l c l c2 (rooms t0) (rooms u0)) true))
  | 0, i, j, h => by
    letI : Frn := ι
    have hi : i = l := by omega
    subst hi
    obtain ⟨j', k⟩ := m_stop ι T (l := i) (t0 := t0) (u0 := u0) hE c c2 j
    exact .inl ⟨rfl, j', LeadsL.stopX k⟩
  | m + 1, i, j, h => by
    letI : Frn := ι
    obtain ⟨ht, hf⟩ := m_round ι T (t0 := t0) (u0 := u0) hE hr0 hr1 hb hb2 hl c c2 i j (by omega)
    rw [allP]
    cases hk : pE cs ds i with
    | false =>
      obtain ⟨j', k⟩ := hf hk
      exact .inr ⟨rfl, j', stopR k⟩
    | true =>
      obtain ⟨j', k⟩ := ht hk
      rw [Bool.true_and]
      rcases m_loop hE hr0 hr1 hb hb2 hl c c2 m (i + 1) j' (by omega) with ⟨e, j2, k2⟩ | ⟨e, j2, k2⟩
      · exact .inl ⟨e, j2, LeadsL.more k k2⟩
      · exact .inr ⟨e, j2, LeadsL.more k k2⟩
theorem m_leads {l2 : Nat} (hE : @EnvOk ι (@EZ T ι)) (hr0 : @Frn.row ι 0 = cs) (hr1 : @Frn.row ι 1 = ds) (hb : rowsB batK l cs = true) (hb2 : rowsB batK l2 ds = true) (hl : l ≤ 9223372036854775807) (c c2 : Nat) (t0 u0 : Int) :
    ∃ s', @Leads ι (@EZ T ι) 3 mC (startS Try.f20 [.pointer (some ⟨0, 0, none⟩), .pointer (some ⟨1, 0, none⟩)] (Hm l c l2 c2 (rooms t0) (rooms u0))) .ret s' ∧
    @finK ι Try.prog Try.f20 .ret s' = some (.bool (decide (l = l2) && (decide (t0 = u0) && allP (fun i => pE cs ds i) l 0)), Hm l c l2 c2 (rooms t0) (rooms u0), true) := by
  letI : Frn := ι
  rw [m_start, m_shape]
  have l0 := Leads.reg (N := 0) (n0 := 3) hE mixed (show codeOk m0 = true by kernel_rfl) (m_r0 ι T j0 (Hm l c l2 c2 (rooms t0) (rooms u0))) rfl
  obtain ⟨j1, h1, v1⟩ := reg_see (m_r1 ι T l c l2 c2 (up j0 4 (vB false)) t0 u0) (F1_true _)
  have l1 := Leads.reg (N := 0) (n0 := 3) hE mixed (show codeOk m1 = true by kernel_rfl) h1 rfl
  simp only [List.map_cons, List.map_nil, List.cons.injEq] at v1
  obtain ⟨a0, a1, a27, _⟩ := v1
  have hv : ((!(decide (t0 = u0))) || (!(decide ((l : Int) = (l2 : Int))))) = !(decide (l = l2) && decide (t0 = u0)) := by
    rw [show decide ((l : Int) = (l2 : Int)) = decide (l = l2) from decide_eq_decide.2 Int.ofNat_inj]
    cases decide (l = l2) <;> cases decide (t0 = u0) <;> rfl
  rw [hv] at a27
  rw [← Bool.and_assoc]
  cases hc : (decide (l = l2) && decide (t0 = u0)) with
  | false =>
    rw [hc, Bool.not_false] at a27
    have e1 : j1 = bJ (up j1 27 (vB true)) := by rw [up_self a27]; exact b_self a0 a1
    rw [e1] at l1
    have l1c := Leads.condT (E := @EZ T ι) (n0 := 3) (a := .seq (sa (ca m1c)) .ret) (b := .skip) (m_x1 j1 (Hm l c l2 c2 (rooms t0) (rooms u0)) true) (Leads.seq (Leads.reg (N := 0) hE mixed (show codeOk (sa (ca m1c)) = true by kernel_rfl) (m_r2 ι T _ _) rfl) Leads.ret)
    rw [Bool.false_and]
    exact ⟨_, Leads.seq l0 (Leads.seqR (Leads.seq l1 l1c)), m_end ι _ _ false⟩
  | true =>
    rw [hc, Bool.not_true] at a27
    have e1 : j1 = bJ (up j1 27 (vB false)) := by rw [up_self a27]; exact b_self a0 a1
    rw [e1] at l1
    have l1c := Leads.condF (E := @EZ T ι) (n0 := 3) (a := .seq (sa (ca m1c)) .ret) (b := .skip) (m_x1 j1 (Hm l c l2 c2 (rooms t0) (rooms u0)) false) Leads.skip
    have l3 := Leads.reg (N := 0) (n0 := 3) hE mixed (show codeOk m3 = true by kernel_rfl) (m_r3 ι T (up j1 27 (vB false)) (Hm l c l2 c2 (rooms t0) (rooms u0))) rfl
    rw [Bool.and_eq_true, decide_eq_true_eq] at hc
    obtain ⟨rfl, _⟩ := hc
    rw [Bool.true_and]
    rcases m_loop ι T hE hr0 hr1 hb hb2 hl c c2 l 0 _ (by omega) with ⟨e, j', k⟩ | ⟨e, j', k⟩
    · rw [e]
      have l10 := Leads.reg (N := 0) (n0 := 3) hE mixed (show codeOk m10 = true by kernel_rfl) (m_r10 ι T j' (Hm l c l c2 (rooms t0) (rooms u0))) rfl
      exact ⟨_, Leads.seq l0 (Leads.seq (Leads.seq l1 l1c) (Leads.seq (Leads.seq l3 (Leads.blockX (Leads.loop k))) (Leads.seq l10 Leads.ret))), m_end ι j' _ true⟩
    · rw [e]
      exact ⟨_, Leads.seq l0 (Leads.seq (Leads.seq l1 l1c) (Leads.seqR (Leads.seq l3 (Leads.blockR (Leads.loop k))))), m_end ι j' _ false⟩
end
end Zb
end Go.Proofs.Yteelhhdadcdclaa
end
