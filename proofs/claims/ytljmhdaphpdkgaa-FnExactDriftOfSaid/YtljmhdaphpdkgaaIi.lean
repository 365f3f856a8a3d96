/-
  Drift: where the model leads. No condition.
-/
import Derived.Test.YtljmhdaphpdkgaaIh
set_option linter.unusedSectionVars false
set_option linter.unusedVariables false
noncomputable section
namespace Go.Proofs.Ytljmhdaphpdkgaa
namespace Dr
open Go Go.ChangeShapes Go.WideShapes Go.ChangeAt Go.RowKit Ev Mc
theorem codeL_cap [ι : Frn] {E : Env} {n M : Nat} {sl rest : List Nat} {r : Value × Heap × Bool} : ∀ (l : List Code) (s : St), codeL E n l s (capP M sl rest) = some r →
    ∃ s', capP M sl rest .normal s' = some r ∧ ∀ {c : Code} {N : Nat} {e2 : Ex} {s2 : St}, Goes E N c s' e2 s2 → Goes E (n + N + l.length) (seqs c l) s e2 s2
  | [], s, h => ⟨s, h, fun g => g.more (by simp)⟩
  | c :: q, s, h => by
    rw [codeL] at h
    obtain ⟨e1, s1, h1, g1⟩ := codeK_out n c s _ h
    cases e1 with
    | normal =>
      obtain ⟨s', hT, k⟩ := codeL_cap q s1 h1
      exact ⟨s', hT, fun {c N e2 s2} g => (Goes.seq (g1.more (show n ≤ n + N + q.length by omega)) (k g)).more (by rw [List.length_cons]; omega)⟩
    | exit id => cases h1
    | ret => cases h1
theorem cap_end {N : Nat} {sl rest : List Nat} {vs : List (Value × Bool)} {h : Heap} {s' : St} (hs : sl.all (Nat.blt · N) = true) (h1 : capP N sl rest .normal s' = some (.tuple (vs.map encP).toArray, h, true)) : ∃ j : J, s' = S N (ups (sl.zip vs) j) h true := by
  have h1 : (bif Nat.beq s'.tmps.length N then some (Value.tuple (sl.map fun i => encP (s'.tmps.getD i (undef, false))).toArray, s'.heap, (rest.all fun i => cutB (s'.tmps.getD i (undef, false))) && s'.ok) else none) = some (.tuple (vs.map encP).toArray, h, true) := h1
  cases hb : Nat.beq s'.tmps.length N with
  | false => rw [hb] at h1; cases h1
  | true =>
    rw [hb, cond_true] at h1
    simp only [Option.some.injEq, Prod.mk.injEq, Value.tuple.injEq, Array.mk.injEq, Bool.and_eq_true] at h1
    obtain ⟨q1, rfl, q3, q4⟩ := h1
    have hN := Nat.eq_of_beq_eq_true hb
    have : (sl.map fun i => s'.tmps.getD i (undef, false)) = vs := enc_inj (by rw [List.map_map]; exact q1)
    refine ⟨fun m => s'.tmps.getD m (undef, false), ?_⟩
    rw [ups_self (N := N) (fun i hi => by
      have := List.all_eq_true.1 hs i hi
      rwa [Nat.blt_eq] at this) (by
      rw [← this]
      refine List.map_congr_left fun i _ => ?_
      by_cases hi : i < N
      · rw [if_pos hi]
      · rw [if_neg hi, List.getD_eq_getElem?_getD, List.getElem?_eq_none (by omega)]; rfl)]
    exact St_eta s' N hb q4
/-! ### the sums, as the model has them -/
def pM (cs : List Value) (z : Nat → Int) (k : Nat) : Nat := fmul .f32 (nr (tM cs k)) (yM (whI z) z (nM cs k))
def sM (cs : List Value) (k : Nat) : Nat := fmul .f32 (nr (tM cs k)) (nr (tM cs k))
def accF (p : Nat → Nat) : Nat → Nat
  | 0 => p 0
  | k + 1 => fadd .f32 (accF p k) (p (k + 1))
section
variable (ι : Frn) {l : Nat} {cs : List Value} (z : Nat → Int) (f : Nat → Nat)
theorem gC_true (hb : rowsB samK l cs = true) {k : Nat} (hk : k < l) : ∀ {m : Nat}, m ≤ 16 → gC cs k l m = true
  | 0, _ => rfl
  | w + 1, hw => by
    rw [gC, gC_true hb hk (show w ≤ 16 by omega), inB_true hk]
    have h := fW_true hb hk (w := w) (by omega)
    rw [← fM_eq (show w < 16 by omega)] at h
    unfold fM at h
    rw [show wM (w : Int) k = k * 17 + 1 + w by unfold wM; rw [Int.toNat_natCast]; omega] at h
    unfold cM
    rw [h]; rfl
theorem cT_true (hb : rowsB samK l cs = true) {k : Nat} (hk : k < l) : cT cs k = true := by
  obtain ⟨_, h⟩ : True ∧ cT cs k = true := by
    refine ⟨trivial, ?_⟩
    have hs : shapeB samK (recAt 17 cs k) = true := rowsB_at hb hk
    have hlen : cs.length = l * 17 := rowsB_len hb
    obtain ⟨z0, z1, z2, z3, z4, z5, z6, z7, z8, z9, z10, z11, z12, z13, z14, z15, z16, e⟩ := sam_form hs
    have h0 : (recAt 17 cs k)[0]? = some (.int .i64 z0) := by rw [e]; rfl
    unfold recAt at h0
    rw [List.getElem?_take_of_lt (by decide), List.getElem?_drop] at h0
    unfold cT
    rw [h0, List.getD_eq_getElem?_getD, h0]; rfl
  exact h
theorem gM_true (hb : rowsB samK l cs = true) {k : Nat} (hk : k < l) (wv : Int) : gM cs z wv k l = true := by
  unfold gM
  rw [kC_true, kC_true, kC_true, cT_true hb hk, inB_true hk, gC_true hb hk (Nat.le_refl 16)]; rfl
theorem m_head (hr : @Frn.row ι 0 = cs) (c : Nat) (xy xx k : Nat) (wv : Int) (j : J) : ∃ j', @Goes ι (@ES ι) 60 m13 (W l c wv xy xx k (Hg z f) j) .normal (S 112 (ups ((46 :: wsl).zip (vB (decide ((k : Int) < (l : Int))) :: wlv l c wv xy xx k)) j') (Hg z f) true) := by
  letI : Frn := ι
  obtain ⟨j', _, g⟩ := @cap_goes' ι _ _ _ _ _ _ _ _ _ (by kernel_rfl) (m_r13 ι l c z f xy xx wv j k)
  exact ⟨j', g⟩
theorem m_x (b : Bool) (lv : List (Value × Bool)) (j : J) (h : Heap) : evl (S 112 (ups ((46 :: wsl).zip (vB b :: lv)) j) h true).tmps (cx m13c) = vB b := by
  cases b <;> rfl
theorem W_of (l c : Nat) (wv : Int) (xy xx : Nat) (k : Int) (h : Heap) (j : J) (b : Bool) : S 112 (ups ((46 :: wsl).zip (vB b :: wlv l c wv xy xx k)) j) h true = W l c wv xy xx k h (up j 46 (vB b)) := by kernel_rfl
theorem m_round (hr : @Frn.row ι 0 = cs) (hb : rowsB samK l cs = true) (hl : l ≤ 64) (c i : Nat) (hi : i + 1 < l) (j : J) :
    ∃ j', @Goes ι (@ES ι) 70 mB (W l c (whI z) (accF (pM cs z) i) (accF (sM cs) i) ((i + 1 : Nat) : Int) (Hg z f) j) .normal (W l c (whI z) (accF (pM cs z) (i + 1)) (accF (sM cs) (i + 1)) ((i + 1 + 1 : Nat) : Int) (Hg z f) j') := by
  letI : Frn := ι
  obtain ⟨j1, g1⟩ := m_head ι z f hr c (accF (pM cs z) i) (accF (sM cs) i) (i + 1) (whI z) j
  rw [decide_eq_true (show (((i + 1 : Nat) : Int)) < (l : Int) by omega)] at g1
  have gc := Goes.condT (E := @ES ι) (N := 20) (a := .skip) (b := .exit 2) (m_x true (wlv l c (whI z) (accF (pM cs z) i) (accF (sM cs) i) ((i + 1 : Nat) : Int)) j1 (Hg z f)) (Goes.skip (N := 19))
  rw [W_of] at g1 gc
  have k := m_pS ι l c i z f (accF (pM cs z) i) (accF (sM cs) i) (whI z) (up j1 46 (vB true))
  rw [hr, gM_true z hb hi, wrap_in (by omega) (by omega), show (((i + 1 : Nat) : Int) + 1) = ((i + 1 + 1 : Nat) : Int) from rfl] at k
  obtain ⟨j2, _, g2⟩ := @cap_goes' ι _ _ _ _ _ _ _ _ _ (by kernel_rfl) k
  exact ⟨j2, (Goes.seq (N := 65) (Goes.seq (N := 62) (g1.more (by omega)) (gc.more (by omega)) |>.more (by omega)) (g2.more (by omega))).more (by omega)⟩
theorem m_round0 (hr : @Frn.row ι 0 = cs) (hb : rowsB samK l cs = true) (h0 : 0 < l) (c : Nat) (j : J) :
    ∃ j', @Goes ι (@ES ι) 70 mB (W l c (whI z) 0 0 ((0 : Nat) : Int) (Hg z f) j) .normal (W l c (whI z) (accF (pM cs z) 0) (accF (sM cs) 0) ((1 : Nat) : Int) (Hg z f) j') := by
  letI : Frn := ι
  obtain ⟨j1, g1⟩ := m_head ι z f hr c 0 0 0 (whI z) j
  rw [decide_eq_true (show (((0 : Nat) : Int)) < (l : Int) by omega)] at g1
  have gc := Goes.condT (E := @ES ι) (N := 20) (a := .skip) (b := .exit 2) (m_x true (wlv l c (whI z) 0 0 ((0 : Nat) : Int)) j1 (Hg z f)) (Goes.skip (N := 19))
  rw [W_of] at g1 gc
  have k := m_p0 ι l c z f 0 0 (whI z) (up j1 46 (vB true))
  rw [hr, gM_true z hb h0] at k
  obtain ⟨j2, _, g2⟩ := @cap_goes' ι _ _ _ _ _ _ _ _ _ (by kernel_rfl) k
  exact ⟨j2, (Goes.seq (N := 65) (Goes.seq (N := 62) (g1.more (by omega)) (gc.more (by omega)) |>.more (by omega)) (g2.more (by omega))).more (by omega)⟩
theorem m_stop (hr : @Frn.row ι 0 = cs) (c : Nat) (xy xx : Nat) (j : J) : ∃ j', @Goes ι (@ES ι) 70 mB (W l c (whI z) xy xx ((l : Nat) : Int) (Hg z f) j) (.exit 2) (W l c (whI z) xy xx ((l : Nat) : Int) (Hg z f) j') := by
  letI : Frn := ι
  obtain ⟨j1, g1⟩ := m_head ι z f hr c xy xx l (whI z) j
  rw [decide_eq_false (show ¬ (l : Int) < (l : Int) by omega)] at g1
  have gc := Goes.condF (E := @ES ι) (N := 20) (a := .skip) (b := .exit 2) (m_x false (wlv l c (whI z) xy xx ((l : Nat) : Int)) j1 (Hg z f)) (Goes.exit (N := 19))
  rw [W_of] at g1 gc
  exact ⟨_, (Goes.seqX (N := 65) (Goes.seq (N := 62) (g1.more (by omega)) (gc.more (by omega)) |>.more (by omega))).more (by omega)⟩
theorem m_loop (hr : @Frn.row ι 0 = cs) (hb : rowsB samK l cs = true) (hl : l ≤ 64) (c : Nat) : ∀ (m i : Nat) (j : J), i + 1 + m = l →
    ∃ j', @Goes ι (@ES ι) (72 + m) (.loop mB) (W l c (whI z) (accF (pM cs z) i) (accF (sM cs) i) ((i + 1 : Nat) : Int) (Hg z f) j) (.exit 2) (W l c (whI z) (accF (pM cs z) (l - 1)) (accF (sM cs) (l - 1)) (l : Int) (Hg z f) j')
  | 0, i, j, h => by
    letI : Frn := ι
    have hi : i + 1 = l := by omega
    have h2 : l - 1 = i := by omega
    rw [hi, h2]
    obtain ⟨j', g⟩ := m_stop ι z f (l := l) hr c (accF (pM cs z) i) (accF (sM cs) i) j
    exact ⟨j', (Goes.loopX (N := 71) (g.more (by omega))).more (by omega)⟩
  | m + 1, i, j, h => by
    letI : Frn := ι
    obtain ⟨j1, g1⟩ := m_round ι z f hr hb hl c i (by omega) j
    obtain ⟨j2, g2⟩ := m_loop hr hb hl c m (i + 1) j1 (by omega)
    exact ⟨j2, (Goes.loop (N := 72 + m) (g1.more (by omega)) g2).more (by omega)⟩
end
/-- what the model answers, the sums being known -/
def ansV (xy xx : Nat) : Nat × Int := bif feq .f32 xx 0 then (0, 4) else bif !(fge .f32 (fdiv .f32 xy xx) loF && fle .f32 (fdiv .f32 xy xx) hiF) then (0, 4) else (fdiv .f32 xy xx, 0)
theorem m_goes (base : Nat) (v : Value) {m : Nat} {cs : List Value} (c : Nat) (kG : List Value → Bool) (z : Nat → Int) (f : Nat → Nat) (hb : rowsB samK (m + 1) cs = true) (hl : m + 1 ≤ 64) (hG : kG (Lg.gr z f) = true) :
    ∃ N e s' h', @Goes (frnOf base [(v, m + 1, cs)] (conS true true kG)) (@ES (frnOf base [(v, m + 1, cs)] (conS true true kG))) N mC (startS Try.f14 [.agg (Lg.gr z f).toArray, tok 0 (m + 1) c] []) e s' ∧
      @finK (frnOf base [(v, m + 1, cs)] (conS true true kG)) Try.prog Try.f14 e s' = some (ansD (ansV (accF (pM cs z) m) (accF (sM cs) m)).1 (ansV (accF (pM cs z) m) (accF (sM cs) m)).2, h', true) := by
  let ι : Frn := frnOf base [(v, m + 1, cs)] (conS true true kG)
  letI : Frn := ι
  have kp := m_pre base v c m cs kG z f
  rw [hG] at kp
  obtain ⟨s1, h1, hpre⟩ := codeL_cap _ _ kp
  obtain ⟨j1, rfl⟩ := cap_end (by kernel_rfl) h1
  obtain ⟨j2, _, g12⟩ := @cap_goes' ι _ _ _ _ _ _ _ _ _ (by kernel_rfl) (m_r12 ι (m + 1) c z f (whI z) j1)
  obtain ⟨j3, g3⟩ := m_round0 ι z f (l := m + 1) (cs := cs) rfl hb (by omega) c j2
  obtain ⟨j4, g4⟩ := m_loop ι z f (l := m + 1) (cs := cs) rfl hb hl c m 0 j3 (by omega)
  rw [show m + 1 - 1 = m by omega] at g4
  have gl := Goes.blockX (Goes.loop (N := 72 + m) (g3.more (by omega)) g4)
  have hfin := m_fin ι (m + 1) c z f (accF (pM cs z) m) (accF (sM cs) m) (whI z) j4
  rw [kD_true] at hfin
  have hfin2 : (@codeK ι (@ES ι) 60 mE (W (m + 1) c (whI z) (accF (pM cs z) m) (accF (sM cs) m) ((m + 1 : Nat) : Int) (Hg z f) j4) (@finK ι Try.prog Try.f14)).map eraseH = some (ansD (ansV (accF (pM cs z) m) (accF (sM cs) m)).1 (ansV (accF (pM cs z) m) (accF (sM cs) m)).2, [], true) := by
    rw [@codeK_map ι]
    refine hfin.trans ?_
    unfold ansV
    cases feq .f32 (accF (sM cs) m) 0 with
    | true => rfl
    | false =>
      cases (!(fge .f32 (fdiv .f32 (accF (pM cs z) m) (accF (sM cs) m)) loF && fle .f32 (fdiv .f32 (accF (pM cs z) m) (accF (sM cs) m)) hiF)) <;> rfl
  obtain ⟨r, hr, hr2⟩ := Option.map_eq_some_iff.1 hfin2
  obtain ⟨y, H, k⟩ := r
  simp only [eraseH, Prod.mk.injEq] at hr2
  obtain ⟨rfl, _, rfl⟩ := hr2
  obtain ⟨e, s', q1, q2⟩ := codeK_out _ _ _ _ hr
  have gA := Goes.seq (N := 200 + m) (Goes.seq (N := 190 + m) (g12.more (by omega)) (gl.more (by omega)) |>.more (by omega)) (q2.more (by omega))
  have gF := hpre gA
  rw [← m_shape] at gF
  exact ⟨_, e, s', H, gF, q1⟩
end Dr
end Go.Proofs.Ytljmhdaphpdkgaa
end
