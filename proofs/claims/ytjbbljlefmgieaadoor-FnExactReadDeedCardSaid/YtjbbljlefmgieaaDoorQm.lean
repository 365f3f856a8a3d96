/-
  Deeds read by the program are deeds read by the model: plain lists. No condition but those of the walks.
-/
import Derived.Test.YtjbbljlefmgieaaDoorQi
noncomputable section
namespace Go.Proofs.YtjbbljlefmgieaaDoor
namespace Tx
open Go Go.RowKit
theorem cut_form (c : UInt8) : ∀ l : List UInt8, (c ∉ l ∧ Lib.index l [c] = -1) ∨ ∃ A B, l = A ++ c :: B ∧ c ∉ A ∧ Lib.index l [c] = (A.length : Nat)
  | [] => .inl ⟨by simp, by simp [Lib.index]⟩
  | x :: r => by
    by_cases h : x = c
    · subst h
      refine .inr ⟨[], r, rfl, by simp, ?_⟩
      rw [Lib.index]
      simp [List.isPrefixOf]
    · have hix : Lib.index (x :: r) [c] = if Lib.index r [c] == -1 then -1 else Lib.index r [c] + 1 := by
        have hp : ([c] : List UInt8).isPrefixOf (x :: r) = false := by simp [List.isPrefixOf, Ne.symm h]
        rw [Lib.index, hp]
        simp
      rcases cut_form c r with ⟨h1, h2⟩ | ⟨A, B, h1, h2, h3⟩
      · refine .inl ⟨?_, ?_⟩
        · simp only [List.mem_cons, not_or]
          exact ⟨fun e => h e.symm, h1⟩
        · rw [hix, h2]
          rfl
      · refine .inr ⟨x :: A, B, by rw [h1]; rfl, ?_, ?_⟩
        · simp only [List.mem_cons, not_or]
          exact ⟨fun e => h e.symm, h2⟩
        · rw [hix, h3, if_neg (by intro e; have := beq_iff_eq.1 e; omega)]
          simp
def cX (l : List UInt8) : List UInt8 := (Lib.cut l [32]).1
def cY (l : List UInt8) : List UInt8 := (Lib.cut l [32]).2.1
theorem cut_cases (l : List UInt8) : (pieces 32 l = [l] ∧ cX l = l ∧ cY l = []) ∨ ∃ B, l = cX l ++ 32 :: B ∧ 32 ∉ cX l ∧ cY l = B ∧ pieces 32 l = cX l :: pieces 32 B := by
  rcases cut_form 32 l with ⟨h1, h2⟩ | ⟨A, B, h1, h2, h3⟩
  · refine .inl ⟨pieces_none h1, ?_, ?_⟩ <;>
    · simp [cX, cY, Lib.cut, h2]
  · have e1 : cX l = A := by
      unfold cX Lib.cut
      rw [h3, if_pos (by omega), Int.toNat_natCast]
      rw [h1]
      simp
    have e2 : cY l = B := by
      unfold cY Lib.cut
      rw [h3, if_pos (by omega), Int.toNat_natCast]
      rw [h1]
      simp
    refine .inr ⟨B, by rw [e1]; exact h1, by rw [e1]; exact h2, e2, ?_⟩
    rw [e1]
    conv => lhs; rw [h1]
    exact pieces_at _ h2
theorem idx_none {p : List UInt8} (h1 : p ≠ W1) (h2 : p ≠ W2) (h3 : p ≠ W3) (h4 : p ≠ W4) (h5 : p ≠ W5) (h6 : p ≠ W6) : Lib.idxOfS zsW (bS p) < 1 := by
  have e : ∀ {q : List UInt8}, p ≠ q → ¬ bS q = bS p := fun hq e => hq (congrArg bL e).symm
  have n1 : ¬ (⟨#[97, 115, 107]⟩ : ByteArray) = bS p := e h1
  have n2 : ¬ (⟨#[100, 101, 108, 105, 118, 101, 114]⟩ : ByteArray) = bS p := e h2
  have n3 : ¬ (⟨#[99, 111, 112, 121]⟩ : ByteArray) = bS p := e h3
  have n4 : ¬ (⟨#[100, 114, 111, 112]⟩ : ByteArray) = bS p := e h4
  have n5 : ¬ (⟨#[115, 97, 118, 101]⟩ : ByteArray) = bS p := e h5
  have n6 : ¬ (⟨#[99, 114, 97, 115, 104]⟩ : ByteArray) = bS p := e h6
  unfold Lib.idxOfS zsW
  simp only [Lib.idxFromS, n1, n2, n3, n4, n5, n6, if_false]
  split <;> simp
theorem idx_word (k : Int) (h1 : 1 ≤ k) (h2 : k ≤ 6) : Lib.idxOfS zsW (bS (wd k)) = k ∧ kd (wd k) = k ∧ (32 : UInt8) ∉ wd k := by
  rcases (show k = 1 ∨ k = 2 ∨ k = 3 ∨ k = 4 ∨ k = 5 ∨ k = 6 by omega) with rfl | rfl | rfl | rfl | rfl | rfl <;> exact ⟨by decide +kernel, by decide +kernel, by decide +kernel⟩
theorem kd_word {p : List UInt8} (h : 1 ≤ kd p) : kd p ≤ 6 ∧ p = wd (kd p) := by
  rcases kd_cases p with rfl | rfl | rfl | rfl | rfl | rfl | ⟨h0, _⟩
  · exact ⟨by decide +kernel, by decide +kernel⟩
  · exact ⟨by decide +kernel, by decide +kernel⟩
  · exact ⟨by decide +kernel, by decide +kernel⟩
  · exact ⟨by decide +kernel, by decide +kernel⟩
  · exact ⟨by decide +kernel, by decide +kernel⟩
  · exact ⟨by decide +kernel, by decide +kernel⟩
  · omega
theorem idx_range (p : List UInt8) (h : 1 ≤ Lib.idxOfS zsW (bS p)) : Lib.idxOfS zsW (bS p) ≤ 6 ∧ p = wd (Lib.idxOfS zsW (bS p)) := by
  rcases kd_cases p with rfl | rfl | rfl | rfl | rfl | rfl | ⟨_, h1, h2, h3, h4, h5, h6⟩
  · exact ⟨by decide +kernel, by decide +kernel⟩
  · exact ⟨by decide +kernel, by decide +kernel⟩
  · exact ⟨by decide +kernel, by decide +kernel⟩
  · exact ⟨by decide +kernel, by decide +kernel⟩
  · exact ⟨by decide +kernel, by decide +kernel⟩
  · exact ⟨by decide +kernel, by decide +kernel⟩
  · have := idx_none h1 h2 h3 h4 h5 h6
    omega
def kX (l : List UInt8) : Int := Lib.idxOfS zsW (bS (cX l))
def nX (l : List UInt8) : Int := piB 64 (cY l)
/-- what the model takes the program takes -/
theorem model_prog (l : List UInt8) : wV l = wE ∨ (vB (kX l) (nX l) = true ∧ dtX (kX l) (nX l) = l) := by
  unfold wV
  split
  · rename_i h
    refine .inr ?_
    obtain ⟨h1, h2, h3, h4⟩ := h
    rcases cut_cases l with ⟨c1, _, _⟩ | ⟨B, c1, c2, c3, c4⟩
    · rw [c1] at h3
      cases h3
    · rw [c4] at h3
      match hB : pieces 32 B, h3 with
      | [q], _ =>
        have e0 : pc0 l = cX l := by rw [pc0, c4]; rfl
        have e1 : pc1 l = B := by rw [pc1, c4, hB, pieces_one hB]; rfl
        rw [e1] at h4
        rw [e0] at h1 h2
        have hk := kd_word h1
        have ok := okA_true h4
        have hn : nX l = valL B := by
          rw [nX, c3]
          exact pi_can (by decide) ok.1 (Nat.lt_of_le_of_lt ok.2 (by decide))
        have hkx : kX l = kd (cX l) := by
          rw [kX]
          conv => lhs; rw [hk.2]
          exact (idx_word _ h1 hk.1).1
        rw [hn, hkx]
        have hv : vB (kd (cX l)) (valL B) = true := by
          unfold vB
          rw [decide_eq_true h1, decide_eq_true hk.1, decide_eq_true (show (0 : Int) ≤ valL B by omega), decide_eq_true (show (valL B : Int) ≤ 999 by omega), decide_eq_true (show kd (cX l) ≠ 5 by omega), decide_eq_true (show kd (cX l) ≠ 6 by omega)]
          simp
        refine ⟨hv, ?_⟩
        rw [dtX, if_pos hv, if_pos h2, ← hk.2, Int.toNat_natCast, dec_can ok.1]
        exact c1.symm
  · split
    · rename_i h
      refine .inr ?_
      obtain ⟨h1, h3⟩ := h
      rcases cut_cases l with ⟨c1, c2, c3⟩ | ⟨B, c1, c2, c3, c4⟩
      · have e0 : pc0 l = l := by rw [pc0, c1]; rfl
        rw [e0] at h1
        have hk := kd_word (p := l) (by omega)
        have hn : nX l = 0 := by rw [nX, c3]; rfl
        have hkx : kX l = kd l := by
          rw [kX, c2]
          conv => lhs; rw [hk.2]
          exact (idx_word _ (by omega) hk.1).1
        rw [hn, hkx]
        have hv : vB (kd l) 0 = true := by
          unfold vB
          rw [decide_eq_true (show 1 ≤ kd l by omega), decide_eq_true hk.1]
          simp
        refine ⟨hv, ?_⟩
        rw [dtX, if_pos hv, if_neg (by omega)]
        exact hk.2.symm
      · rw [c4] at h3
        simp [pieces] at h3
    · exact .inl rfl
/-- what the program takes the model takes -/
theorem prog_model (l : List UInt8) (hv : vB (kX l) (nX l) = true) (hd : dtX (kX l) (nX l) = l) : wV l = wK (kX l) (nX l) := by
  have q := vB_true hv
  have hw := idx_word (kX l) q.1 q.2.1
  rw [dtX, if_pos hv] at hd
  by_cases h4 : kX l ≤ 4
  · rw [if_pos h4] at hd
    have hp : pieces 32 l = [wd (kX l), Lib.decDigits (nX l).toNat] := by
      conv => lhs; rw [← hd]
      rw [pieces_at _ hw.2.2, pieces_none (dec_no _ 32 rfl)]
    have e0 : pc0 l = wd (kX l) := by rw [pc0, hp]; rfl
    have e1 : pc1 l = Lib.decDigits (nX l).toNat := by rw [pc1, hp]; rfl
    have ho : okA (Lib.decDigits (nX l).toNat) = true := by
      unfold okA
      rw [can_dec _ (by omega), (dec_facts _).2.1, Bool.true_and, decide_eq_true (by omega)]
    rw [wV, e0, e1, hp, hw.2.1, if_pos ⟨q.1, h4, rfl, ho⟩, (dec_facts _).2.1, Int.toNat_of_nonneg q.2.2.1]
  · rw [if_neg h4] at hd
    have hp : pieces 32 l = [wd (kX l)] := by
      conv => lhs; rw [← hd]
      exact pieces_none hw.2.2
    have e0 : pc0 l = wd (kX l) := by rw [pc0, hp]; rfl
    have h0 : nX l = 0 := by omega
    rw [wV, e0, hp, hw.2.1, if_neg (fun h => h4 h.2.1), if_pos ⟨by omega, rfl⟩, h0]
theorem toList_inj {a b : ByteArray} (h : a.toList = b.toList) : a = b := by
  rw [ByteArray.toList_eq, ByteArray.toList_eq] at h
  exact ByteArray.ext (Array.ext' h)
theorem pim_calls {p : List UInt8} (hl : p.length ≤ 1048576) (w : World) (h : EnvOk w) : Calls Tryd.prog 22 #[.string (bS p), .int .i64 10, .int .i64 64] w (PiM (piB 64 p) w) :=
  (pi64_calls (bS p) hl w h).mono fun e w' ⟨ev, he, hb⟩ => ⟨ev, by rw [he, bL_bS], hb⟩
theorem cut_calls (s : ByteArray) (hs : s.size ≤ 1048576) (w : World) (h : EnvOk w) : Calls Tryd.prog 21 #[.string s, .string ⟨#[32]⟩] w (CuQ (bS (cX (bL s))) (bS (cY (bL s))) w) := by
  obtain ⟨_, ⟨m, hm⟩, _⟩ := h
  exact (Tryd.strings_Cut s ⟨#[32]⟩ m w (by omega) hm).mono fun e w' ⟨he, n, hw⟩ => ⟨_, n, he, hw⟩
theorem cY_le (l : List UInt8) : (cY l).length ≤ l.length := by
  rcases cut_cases l with ⟨_, _, c3⟩ | ⟨B, c1, _, c3, _⟩
  · rw [c3]; simp
  · rw [c3]
    conv => rhs; rw [c1]
    simp
    omega
theorem wi_calls (s : ByteArray) (hs : s.size ≤ 1048576) (w : World) (he : EnvOk w) : Calls Tryd.prog 7 #[.string s] w (WdQ s w) := by
  have HC := Lib.hid (cut_calls s hs)
  have HP := Lib.hid (fun w h => pim_calls (p := cY (bL s)) (Nat.le_trans (cY_le _) hs) w h)
  have HK : Hid (Lib.idxOfS zsW (bS (cX (bL s))) = kX (bL s)) := Lib.hid rfl
  have HV := vd_calls (kX (bL s)) (nX (bL s))
  have HT := Lib.hid (fun w h => dtx_calls (kX (bL s)) (nX (bL s)) w h)
  cases hv : vB (kX (bL s)) (nX (bL s)) with
  | false =>
    rw [hv] at HV
    have hr : wV (bL s) = wE := (model_prog (bL s)).resolve_right fun q => by rw [hv] at q; cases q.1
    exact yv s _ _ _ _ w he HC HP HK (Lib.hid HV) (Lib.hid hr)
  | true =>
    rw [hv] at HV
    by_cases hd : dtX (kX (bL s)) (nX (bL s)) = bL s
    · exact yk s _ _ _ _ _ w he HC HP HK (Lib.hid HV) HT (by rw [hd, bS_bL]) (Lib.hid (prog_model _ hv hd))
    · have hr : wV (bL s) = wE := (model_prog (bL s)).resolve_right fun q => hd q.2
      exact yn s _ _ _ _ _ w he HC HP HK (Lib.hid HV) HT (by
        rw [Bool.not_eq_true', beq_eq_false_iff_ne]
        exact fun e => hd (congrArg bL (toList_inj e))) (Lib.hid hr)
end Tx
end Go.Proofs.YtjbbljlefmgieaaDoor
end
