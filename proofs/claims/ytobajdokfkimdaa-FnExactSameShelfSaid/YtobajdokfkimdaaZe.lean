/-
  Shelves that are the same: pigments, and where the model leads. No condition.
-/
import Derived.Test.YtobajdokfkimdaaZd
import Derived.Test.YtobajdokfkimdaaZa
set_option linter.unusedSectionVars false
set_option linter.unusedVariables false
noncomputable section
namespace Go.Proofs.Ytobajdokfkimdaa
namespace Zb
open Go Go.ChangeShapes Go.WideShapes Go.ChangeAt Go.RowKit Ev
open Za (r16 fN)
/-! ### one pigment -/
def pE (sc : List Value → List Value → Bool) (cs ds : List Value) (i : Nat) : Bool := (((nmE cs ds i && coE cs ds i) && sc (crv cs (i * 34 + 1)) (crv ds (i * 34 + 1))) && sc (crv cs (i * 34 + 17)) (crv ds (i * 34 + 17)))
def TT : Told := ⟨Za.scX, fun r r2 => pE Za.scX r r2 0⟩
def rowP (s : ByteArray) (k t : Nat → Nat) (z : Int) : List Value := .string s :: (r16 k ++ (r16 t ++ [.int .i64 z]))
theorem rec_form {r : List Value} (h : shapeB pigK r = true) : ∃ s k t z, r = rowP s k t z := by
  obtain ⟨s, ys, rfl, h1⟩ := shape_s h
  have h1 : shapeB (List.replicate 16 (.f .f32) ++ (List.replicate 16 (.f .f32) ++ [.i .i64])) ys = true := h1
  obtain ⟨l1, zs, rfl, e1, h2⟩ := shape_fl h1
  obtain ⟨l2, ws, rfl, e2, h3⟩ := shape_fl h2
  obtain ⟨z, us, rfl, h4⟩ := shape_i h3
  have : us = [] := by
    cases us with
    | nil => rfl
    | cons y ys => cases h4
  subst this
  have row : ∀ l : List Nat, l.length = 16 → fl .f32 l = r16 (fun j => l.getD j 0) := fun l hl => by
    refine List.ext_getElem? fun i => ?_
    unfold fl r16
    rw [List.getElem?_map, List.getElem?_map]
    by_cases hi : i < 16
    · rw [List.getElem?_range hi, List.getElem?_eq_getElem (by omega), Option.map_some, Option.map_some]
      show some (Value.float .f32 l[i]) = some (Value.float .f32 (l.getD i 0))
      rw [List.getD_eq_getElem?_getD, List.getElem?_eq_getElem (by omega), Option.getD_some]
    · rw [List.getElem?_eq_none (by omega), List.getElem?_eq_none (by simp; omega)]; rfl
  exact ⟨s, _, _, z, by rw [row l1 e1, row l2 e2]; rfl⟩
def G9 (ne ce sk : Bool) : Bool := (((bif ((ne && ce) && sk) then (decide (((ne && ce) && sk) = true) && true) else true) && true) && (((((decide (((ne && ce) && sk) = true) && true) && ((decide (((ne && ce) && sk) = true) && true) && true)) && true) || (!decide (((ne && ce) && sk) = true))) && ((((decide (((ne && ce) && sk) = true) && true) && true) || (!decide (((ne && ce) && sk) = true))) && ((((decide (((ne && ce) && sk) = true) && true) && true) || (!decide (((ne && ce) && sk) = true))) && (((bif (ne && ce) then (decide ((ne && ce) = true) && true) else true) && true) && (((((decide ((ne && ce) = true) && true) && ((decide ((ne && ce) = true) && true) && true)) && true) || (!decide ((ne && ce) = true))) && ((((decide ((ne && ce) = true) && true) && true) || (!decide ((ne && ce) = true))) && ((((decide ((ne && ce) = true) && true) && true) || (!decide ((ne && ce) = true))) && (((bif ne then (decide (ne = true) && true) else true) && true) && ((((decide (ne = true) && true) && (decide (ne = true) && true)) || (!decide (ne = true))) && ((((decide (ne = true) && true) && true) || (!decide (ne = true))) && ((((decide (ne = true) && true) && true) || (!decide (ne = true))) && true))))))))))))
theorem G9_true (ne ce sk : Bool) : G9 ne ce sk = true := by cases ne <;> cases ce <;> cases sk <;> rfl
theorem pig_eval (s s2 : ByteArray) (k t k2 t2 : Nat → Nat) (n n2 : Int) : (@funD noFrn Try.prog noOrc (fun f => seek f [(142, Za.scS)]) [105] 40 5 105 [.agg (rowP s k t n).toArray, .agg (rowP s2 k2 t2 n2).toArray] []).map (fun r => (r.1, r.2.2)) =
    some (.bool (pE Za.scX (rowP s k t n) (rowP s2 k2 t2 n2) 0), G9 (nmE (rowP s k t n) (rowP s2 k2 t2 n2) 0) (coE (rowP s k t n) (rowP s2 k2 t2 n2) 0) (Za.scX (crv (rowP s k t n) 1) (crv (rowP s2 k2 t2 n2) 1))) := by kernel_rfl
theorem bare34 {xs : Array Value} (h : shapeB pigK xs.toList = true) : bareP (.agg xs) = true := shape_bare h
theorem plain34 {xs : Array Value} (h : shapeB pigK xs.toList = true) : plainB (.agg xs) = true := by
  have := shape_bare h
  show xs.toList.all flatB = true
  rw [List.all_eq_true] at this ⊢
  intro v hv
  have := this v hv
  cases v <;> first | rfl | cases this
theorem sp_bare : BareSig (spO TT) := fun args v he => by
  unfold spO at he
  split at he
  · rename_i xs ys
    simp only [Option.some.injEq, Prod.mk.injEq, Bool.and_eq_true] at he
    obtain ⟨rfl, h1, h2⟩ := he
    refine ⟨?_, rfl⟩
    rw [List.all_cons, List.all_cons, bare34 h1, bare34 h2]; rfl
  · cases he
theorem sp_one {ι : Frn} : @OrcOne ι Try.prog 105 (spO TT) := by
  refine orc_any (?_ : @OrcOne noFrn Try.prog 105 (spO TT)) sp_bare
  refine orc_one (us := [105]) (cf := 40) (d := 5) mixed (by kernel_rfl) (l0 := [(142, Za.scS)]) (lx := []) all_nil (all_cons Za.scI_one all_nil) (by kernel_rfl) fun args v k he hk hx => ?_
  unfold spO at he
  split at he
  · rename_i xs ys
    simp only [Option.some.injEq, Prod.mk.injEq] at he
    obtain ⟨rfl, rfl⟩ := he
    rw [Bool.and_eq_true] at hk
    refine ⟨?_, rfl, ?_⟩
    · rw [List.all_cons, List.all_cons, plain34 hk.1, plain34 hk.2]; rfl
    · obtain ⟨s, k, t, n, e1⟩ := rec_form hk.1
      obtain ⟨s2, k2, t2, n2, e2⟩ := rec_form hk.2
      have e := pig_eval s s2 k t k2 t2 n n2
      rw [G9_true] at e
      obtain ⟨r, hr, e⟩ := Option.map_eq_some_iff.1 e
      obtain ⟨u, h', g⟩ := r
      simp only [Prod.mk.injEq] at e
      obtain ⟨rfl, rfl⟩ := e
      have a1 : xs = (rowP s k t n).toArray := Array.ext' e1
      have a2 : ys = (rowP s2 k2 t2 n2).toArray := Array.ext' e2
      subst a1 a2
      exact ⟨h', hr⟩
  · cases he
theorem orcZOk {ι : Frn} : ∀ p ∈ orcZ TT, @OrcOne ι Try.prog p.1 p.2 := all_cons Za.scM_one <| all_cons Za.scI_one <| all_cons sp_one all_nil
/-! ### a record among others -/
theorem crv_rec {cs : List Value} {i o : Nat} (ho : o + 16 ≤ 34) : crv (recAt 34 cs i) o = crv cs (i * 34 + o) := by
  unfold crv recAt
  rw [List.drop_take, List.take_take, List.drop_drop, Nat.min_eq_left (by omega)]
theorem get_rec {cs : List Value} {i o : Nat} (ho : o < 34) : (recAt 34 cs i)[o]? = cs[i * 34 + o]? := by
  unfold recAt
  rw [List.getElem?_take_of_lt ho, List.getElem?_drop]
theorem getD_rec {cs : List Value} {i o : Nat} (ho : o < 34) : (recAt 34 cs i).getD o undef = cs.getD (i * 34 + o) undef := by
  rw [List.getD_eq_getElem?_getD, List.getD_eq_getElem?_getD, get_rec ho]
theorem pE_rec (sc : List Value → List Value → Bool) (cs ds : List Value) (i : Nat) : pE sc (recAt 34 cs i) (recAt 34 ds i) 0 = pE sc cs ds i := by
  unfold pE nmE coE
  rw [show (0 * 34 + 1 : Nat) = 1 from rfl, show (0 * 34 + 17 : Nat) = 17 from rfl, show (0 * 34 + 0 : Nat) = 0 from rfl, show (0 * 34 + 33 : Nat) = 33 from rfl,
    crv_rec (by omega), crv_rec (by omega), crv_rec (by omega), crv_rec (by omega), getD_rec (by omega), getD_rec (by omega), getD_rec (by omega), getD_rec (by omega)]
theorem row_facts (s : ByteArray) (k t : Nat → Nat) (z : Int) : (((rowP s k t z)[33]?.isSome && isIn (rowP s k t z) 33) && (((rowP s k t z)[0]?.isSome && isTx (rowP s k t z) 0) && (c16 (crv (rowP s k t z) 1) && c16 (crv (rowP s k t z) 17)))) = true := by kernel_rfl
theorem rec_facts {cs : List Value} {l i : Nat} (hb : rowsB pigK l cs = true) (hi : i < l) :
    Nat.ble (i * 34 + 17 + 16) cs.length = true ∧ Nat.ble (i * 34 + 1 + 16) cs.length = true ∧ cs[i * 34 + 33]?.isSome = true ∧ isIn cs (i * 34 + 33) = true ∧ cs[i * 34 + 0]?.isSome = true ∧ isTx cs (i * 34 + 0) = true ∧ c16 (crv cs (i * 34 + 1)) = true ∧ c16 (crv cs (i * 34 + 17)) = true := by
  have h := rowsB_at hb hi
  obtain ⟨s, k, t, z, e⟩ := rec_form h
  have e : recAt 34 cs i = rowP s k t z := e
  have q := row_facts s k t z
  rw [← e] at q
  simp only [Bool.and_eq_true] at q
  obtain ⟨⟨q1, q2⟩, ⟨q3, q4⟩, q5, q6⟩ := q
  have hlen : cs.length = l * 34 := rowsB_len hb
  have h1 : (i + 1) * 34 ≤ l * 34 := Nat.mul_le_mul_right 34 hi
  refine ⟨ble_of (by omega), ble_of (by omega), ?_, ?_, ?_, ?_, ?_, ?_⟩
  · rw [← get_rec (by omega)]; exact q1
  · unfold isIn at q2 ⊢
    rw [← getD_rec (by omega)]; exact q2
  · rw [← get_rec (by omega)]; exact q3
  · unfold isTx at q4 ⊢
    rw [← getD_rec (by omega)]; exact q4
  · rw [← crv_rec (by omega)]; exact q5
  · rw [← crv_rec (by omega)]; exact q6
/-! ### the model -/
theorem b_self {j : J} (h0 : j 0 = vP 0) (h1 : j 1 = vP 1) : j = bJ j := by
  unfold bJ
  rw [up_self h0, up_self h1]
theorem m_self {j : J} {i : Int} (h0 : j 0 = vP 0) (h1 : j 1 = vP 1) (h5 : j 5 = vI i) : j = mJ i j := by
  unfold mJ
  rw [← b_self h0 h1, up_self h5]
section
variable (ι : Frn) (T : Told) {l : Nat} {cs ds ts us : List Value}
theorem m_round (hE : @EnvOk ι (@EZ T ι)) (hr0 : @Frn.row ι 0 = cs) (hr1 : @Frn.row ι 1 = ds) (hb : rowsB pigK l cs = true) (hb2 : rowsB pigK l ds = true) (hl : l ≤ 9223372036854775807) (c c2 i : Nat) (j : J) (hi : i < l) :
    (pE T.sc cs ds i = true → ∃ j', @Leads ι (@EZ T ι) 3 mBody (S 95 (mJ i j) (Hm l c l c2 ts us) true) .normal (S 95 (mJ ((i + 1 : Nat) : Int) j') (Hm l c l c2 ts us) true)) ∧
    (pE T.sc cs ds i = false → ∃ j', @Leads ι (@EZ T ι) 3 mBody (S 95 (mJ i j) (Hm l c l c2 ts us) true) .ret (S 95 (up j' 4 (vB false)) (Hm l c l c2 ts us) true)) := by
  letI : Frn := ι
  obtain ⟨j4, h4, v4⟩ := reg_see (m_r4 ι T l c l c2 i j ts us) rfl
  have l4 := Leads.reg (N := 0) (n0 := 3) hE mixed (show codeOk m4 = true by kernel_rfl) h4 rfl
  simp only [List.map_cons, List.map_nil, List.cons.injEq] at v4
  obtain ⟨a0, a1, a5, a36, _⟩ := v4
  rw [decide_eq_true (show (i : Int) < (l : Int) by omega)] at a36
  have e4 : j4 = mJ i (up j4 36 (vB true)) := by rw [up_self a36]; exact m_self a0 a1 a5
  rw [e4] at l4
  have l4c := Leads.condT (E := @EZ T ι) (n0 := 3) (a := .skip) (b := .exit 0) (m_x4 i j4 (Hm l c l c2 ts us) true) Leads.skip
  obtain ⟨j6, h6, v6⟩ := reg_see (m_r6 ι T l c l c2 i (up j4 36 (vB true)) ts us) (by rw [inB_true hi]; rfl)
  have l6 := Leads.reg (N := 0) (n0 := 3) hE mixed (show codeOk m6 = true by kernel_rfl) h6 rfl
  simp only [List.map_cons, List.map_nil, List.cons.injEq] at v6
  obtain ⟨b0, b1, b5, b6, _⟩ := v6
  have e6 : j6 = up (mJ i j6) 6 (vR 0 (i * 34)) := by rw [← m_self b0 b1 b5, up_self b6]
  rw [e6] at l6
  obtain ⟨j7, h7, v7⟩ := reg_see (m_r7 ι T l c l c2 i j6 ts us) (by rw [inB_true hi]; rfl)
  have l7 := Leads.reg (N := 0) (n0 := 3) hE mixed (show codeOk m7 = true by kernel_rfl) h7 rfl
  simp only [List.map_cons, List.map_nil, List.cons.injEq] at v7
  obtain ⟨c0, c1, c5, c6, c7, _⟩ := v7
  have e7 : j7 = mK i j7 := by
    unfold mK
    rw [← m_self c0 c1 c5, up_self c6, up_self c7]
  rw [e7] at l7
  obtain ⟨f1, f2, f3, f4, f5, f6, f7, f8⟩ := rec_facts hb hi
  obtain ⟨g1, g2, g3, g4, g5, g6, g7, g8⟩ := rec_facts hb2 hi
  have q := m_r8 ι T l c l c2 i j7 ts us
  rw [hr0, hr1] at q
  obtain ⟨j8, h8, v8⟩ := reg_see q (by rw [f1, f2, f3, f4, f5, f6, f7, f8, g1, g2, g3, g4, g5, g6, g7, g8]; exact F8_true _ _ _)
  have l8 := Leads.reg (N := 0) (n0 := 3) hE mixed (show codeOk m8 = true by kernel_rfl) h8 rfl
  simp only [List.map_cons, List.map_nil, List.cons.injEq] at v8
  obtain ⟨d0, d1, d5, d94, _⟩ := v8
  have hv : ((((!(nmE cs ds i)) || (!(coE cs ds i))) || (!(T.sc (crv cs (i * 34 + 1)) (crv ds (i * 34 + 1))))) || (!(T.sc (crv cs (i * 34 + 17)) (crv ds (i * 34 + 17))))) = !(pE T.sc cs ds i) := by
    unfold pE
    cases nmE cs ds i <;> cases coE cs ds i <;> cases T.sc (crv cs (i * 34 + 1)) (crv ds (i * 34 + 1)) <;> cases T.sc (crv cs (i * 34 + 17)) (crv ds (i * 34 + 17)) <;> rfl
  rw [hv] at d94
  have e8 : j8 = mJ i (up j8 94 (vB (!(pE T.sc cs ds i)))) := by rw [up_self d94]; exact m_self d0 d1 d5
  rw [e8] at l8
  constructor
  · intro hp
    rw [hp] at l8
    have l8c := Leads.condF (E := @EZ T ι) (n0 := 3) (a := .seq (sa (ca m8c)) .ret) (b := .skip) (m_x8 i j8 (Hm l c l c2 ts us) false) Leads.skip
    have q5' := m_r5 ι T i (up j8 94 (vB false)) (Hm l c l c2 ts us)
    rw [wrap_in (by omega) (by omega)] at q5'
    obtain ⟨j5, h5, v5⟩ := reg_see q5' rfl
    have l5 := Leads.reg (N := 0) (n0 := 3) hE mixed (show codeOk m5 = true by kernel_rfl) h5 rfl
    simp only [List.map_cons, List.map_nil, List.cons.injEq] at v5
    obtain ⟨k0, k1, k5, _⟩ := v5
    have e5 : j5 = mJ ((i + 1 : Nat) : Int) j5 := m_self k0 k1 k5
    rw [e5] at l5
    exact ⟨_, Leads.seq (Leads.seq l4 l4c) (Leads.seq (Leads.block (id := 1) (Leads.seq l6 (Leads.seq l7 (Leads.seq l8 l8c)))) l5)⟩
  · intro hp
    rw [hp] at l8
    have l8c := Leads.condT (E := @EZ T ι) (n0 := 3) (a := .seq (sa (ca m8c)) .ret) (b := .skip) (m_x8 i j8 (Hm l c l c2 ts us) true) (Leads.seq (Leads.reg (N := 0) hE mixed (show codeOk (sa (ca m8c)) = true by kernel_rfl) (m_r9 ι T _ _) rfl) Leads.ret)
    exact ⟨_, Leads.seq (Leads.seq l4 l4c) (Leads.seqR (Leads.blockR (Leads.seq l6 (Leads.seq l7 (Leads.seq l8 l8c)))))⟩
theorem m_stop (hE : @EnvOk ι (@EZ T ι)) (c c2 : Nat) (j : J) : ∃ j', @Leads ι (@EZ T ι) 3 mBody (S 95 (mJ (l : Int) j) (Hm l c l c2 ts us) true) (.exit 0) (S 95 j' (Hm l c l c2 ts us) true) := by
  letI : Frn := ι
  obtain ⟨j4, h4, v4⟩ := reg_see (m_r4 ι T l c l c2 l j ts us) rfl
  have l4 := Leads.reg (N := 0) (n0 := 3) hE mixed (show codeOk m4 = true by kernel_rfl) h4 rfl
  simp only [List.map_cons, List.map_nil, List.cons.injEq] at v4
  obtain ⟨a0, a1, a5, a36, _⟩ := v4
  rw [decide_eq_false (show ¬ (l : Int) < (l : Int) by omega)] at a36
  have e4 : j4 = mJ l (up j4 36 (vB false)) := by rw [up_self a36]; exact m_self a0 a1 a5
  rw [e4] at l4
  have l4c := Leads.condF (E := @EZ T ι) (n0 := 3) (a := .skip) (b := .exit 0) (m_x4 l j4 (Hm l c l c2 ts us) false) Leads.exit
  exact ⟨_, Leads.seqX (Leads.seq l4 l4c)⟩
theorem m_loop (hE : @EnvOk ι (@EZ T ι)) (hr0 : @Frn.row ι 0 = cs) (hr1 : @Frn.row ι 1 = ds) (hb : rowsB pigK l cs = true) (hb2 : rowsB pigK l ds = true) (hl : l ≤ 9223372036854775807) (c c2 : Nat) : ∀ (m i : Nat) (j : J), i + m = l →
    (allP (fun i => pE T.sc cs ds i) m i = true ∧ ∃ j', @LeadsL ι (@EZ T ι) 3 (m + 1) mBody (S 95 (mJ i j) (Hm l c l c2 ts us) true) (.exit 0) (S 95 j' (Hm l c l c2 ts us) true)) ∨
    (allP (fun i => pE T.sc cs ds i) m i = false ∧ ∃ j', @LeadsL ι (@EZ T ι) 3 (m + 1) mBody (S 95 (mJ i j) (Hm l c l c2 ts us) true) .ret (S 95 (up j' 4 (vB false)) (Hm l c l c2 ts us) true))
  | 0, i, j, h => by
    letI : Frn := ι
    have hi : i = l := by omega
    subst hi
    obtain ⟨j', k⟩ := m_stop ι T (l := i) (ts := ts) (us := us) hE c c2 j
    exact .inl ⟨rfl, j', LeadsL.stopX k⟩
  | m + 1, i, j, h => by
    letI : Frn := ι
    obtain ⟨ht, hf⟩ := m_round ι T (ts := ts) (us := us) hE hr0 hr1 hb hb2 hl c c2 i j (by omega)
    rw [allP]
    cases hk : pE T.sc cs ds i with
    | false =>
      obtain ⟨j', k⟩ := hf hk
      exact .inr ⟨rfl, j', stopR k⟩
    | true =>
      obtain ⟨j', k⟩ := ht hk
      rw [Bool.true_and]
      rcases m_loop hE hr0 hr1 hb hb2 hl c c2 m (i + 1) j' (by omega) with ⟨e, j2, k2⟩ | ⟨e, j2, k2⟩
      · exact .inl ⟨e, j2, LeadsL.more k k2⟩
      · exact .inr ⟨e, j2, LeadsL.more k k2⟩
theorem m_leads {l2 : Nat} (hE : @EnvOk ι (@EZ T ι)) (hr0 : @Frn.row ι 0 = cs) (hr1 : @Frn.row ι 1 = ds) (hb : rowsB pigK l cs = true) (hb2 : rowsB pigK l2 ds = true) (hl : l ≤ 9223372036854775807) (c c2 : Nat) (t0 t1 t2 t3 t4 t5 u0 u1 u2 u3 u4 u5 : Int) :
    ∃ s', @Leads ι (@EZ T ι) 3 mC (startS Try.f103 [.pointer (some ⟨0, 0, none⟩), .pointer (some ⟨1, 0, none⟩)] (Hm l c l2 c2 (tins t0 t1 t2 t3 t4 t5) (tins u0 u1 u2 u3 u4 u5))) .ret s' ∧
    @finK ι Try.prog Try.f103 .ret s' = some (.bool (decide (l = l2) && (tinE t0 t1 t2 t3 t4 t5 u0 u1 u2 u3 u4 u5 && allP (fun i => pE T.sc cs ds i) l 0)), Hm l c l2 c2 (tins t0 t1 t2 t3 t4 t5) (tins u0 u1 u2 u3 u4 u5), true) := by
  letI : Frn := ι
  rw [m_start, m_shape]
  have l0 := Leads.reg (N := 0) (n0 := 3) hE mixed (show codeOk m0 = true by kernel_rfl) (m_r0 ι T j0 (Hm l c l2 c2 (tins t0 t1 t2 t3 t4 t5) (tins u0 u1 u2 u3 u4 u5))) rfl
  obtain ⟨j1, h1, v1⟩ := reg_see (m_r1 ι T l c l2 c2 (up j0 4 (vB false)) t0 t1 t2 t3 t4 t5 u0 u1 u2 u3 u4 u5) (F1_true _)
  have l1 := Leads.reg (N := 0) (n0 := 3) hE mixed (show codeOk m1 = true by kernel_rfl) h1 rfl
  simp only [List.map_cons, List.map_nil, List.cons.injEq] at v1
  obtain ⟨a0, a1, a29, _⟩ := v1
  have hv : ((!(decide ((l : Int) = (l2 : Int)))) || (!(decide (true = tinE t0 t1 t2 t3 t4 t5 u0 u1 u2 u3 u4 u5)))) = !(decide (l = l2) && tinE t0 t1 t2 t3 t4 t5 u0 u1 u2 u3 u4 u5) := by
    rw [show decide ((l : Int) = (l2 : Int)) = decide (l = l2) from decide_eq_decide.2 Int.ofNat_inj]
    cases decide (l = l2) <;> cases tinE t0 t1 t2 t3 t4 t5 u0 u1 u2 u3 u4 u5 <;> rfl
  rw [hv] at a29
  rw [← Bool.and_assoc]
  cases hc : (decide (l = l2) && tinE t0 t1 t2 t3 t4 t5 u0 u1 u2 u3 u4 u5) with
  | false =>
    rw [hc, Bool.not_false] at a29
    have e1 : j1 = bJ (up j1 29 (vB true)) := by rw [up_self a29]; exact b_self a0 a1
    rw [e1] at l1
    have l1c := Leads.condT (E := @EZ T ι) (n0 := 3) (a := .seq (sa (ca m1c)) .ret) (b := .skip) (m_x1 j1 (Hm l c l2 c2 (tins t0 t1 t2 t3 t4 t5) (tins u0 u1 u2 u3 u4 u5)) true) (Leads.seq (Leads.reg (N := 0) hE mixed (show codeOk (sa (ca m1c)) = true by kernel_rfl) (m_r2 ι T _ _) rfl) Leads.ret)
    rw [Bool.false_and]
    exact ⟨_, Leads.seq l0 (Leads.seqR (Leads.seq l1 l1c)), m_end ι _ _ false⟩
  | true =>
    rw [hc, Bool.not_true] at a29
    have e1 : j1 = bJ (up j1 29 (vB false)) := by rw [up_self a29]; exact b_self a0 a1
    rw [e1] at l1
    have l1c := Leads.condF (E := @EZ T ι) (n0 := 3) (a := .seq (sa (ca m1c)) .ret) (b := .skip) (m_x1 j1 (Hm l c l2 c2 (tins t0 t1 t2 t3 t4 t5) (tins u0 u1 u2 u3 u4 u5)) false) Leads.skip
    have l3 := Leads.reg (N := 0) (n0 := 3) hE mixed (show codeOk m3 = true by kernel_rfl) (m_r3 ι T (up j1 29 (vB false)) (Hm l c l2 c2 (tins t0 t1 t2 t3 t4 t5) (tins u0 u1 u2 u3 u4 u5))) rfl
    rw [Bool.and_eq_true, decide_eq_true_eq] at hc
    obtain ⟨rfl, _⟩ := hc
    rw [Bool.true_and]
    rcases m_loop ι T hE hr0 hr1 hb hb2 hl c c2 l 0 _ (by omega) with ⟨e, j', k⟩ | ⟨e, j', k⟩
    · rw [e]
      have l10 := Leads.reg (N := 0) (n0 := 3) hE mixed (show codeOk m10 = true by kernel_rfl) (m_r10 ι T j' (Hm l c l c2 (tins t0 t1 t2 t3 t4 t5) (tins u0 u1 u2 u3 u4 u5))) rfl
      exact ⟨_, Leads.seq l0 (Leads.seq (Leads.seq l1 l1c) (Leads.seq (Leads.seq l3 (Leads.blockX (Leads.loop k))) (Leads.seq l10 Leads.ret))), m_end ι j' _ true⟩
    · rw [e]
      exact ⟨_, Leads.seq l0 (Leads.seq (Leads.seq l1 l1c) (Leads.seqR (Leads.seq l3 (Leads.blockR (Leads.loop k))))), m_end ι j' _ false⟩
end
end Zb
end Go.Proofs.Ytobajdokfkimdaa
end
