/-
  The model's number of a text. No condition but that the text has at most 2^20 bytes.
-/
import Derived.Test.YtjbbljlefmgieaaDoorSp
noncomputable section
namespace Go.Proofs.YtjbbljlefmgieaaDoor
namespace Tx
open Go Go.RowKit
/-- the number of a text, or 0 -/
def numV (l : List UInt8) : Int := if canB l = true then (valL l : Int) else 0
theorem val_le : ∀ (l : List UInt8), l.all dig = true → l.length ≤ 9 → valL l < 1000000000 := fun l hd hl => by
  have : ∀ (k : Nat) (l : List UInt8), l.length ≤ k → l.all dig = true → valL l < 10 ^ k := by
    intro k
    induction k with
    | zero =>
      intro l hl _
      have h0 : l = [] := List.eq_nil_of_length_eq_zero (by omega)
      rw [h0]
      decide
    | succ k ih =>
      intro l hl hd
      rcases List.eq_nil_or_concat l with rfl | ⟨A, c, hx⟩
      · exact Nat.pow_pos (by omega)
      · rw [hx] at hl hd ⊢
        simp only [List.concat_eq_append] at hl hd ⊢
        rw [List.all_append] at hd
        have hc : dig c = true := by simpa using (Bool.and_eq_true_iff.1 hd).2
        have hn := dig_nat hc
        have := ih A (by simpa using hl) (Bool.and_eq_true_iff.1 hd).1
        rw [valL_snoc, Nat.pow_succ]
        omega
  have := this 9 l hl hd
  simpa using this
theorem take_snoc (s : ByteArray) (k : Nat) (h : k < s.size) : (bL s).take (k + 1) = (bL s).take k ++ [s[k]] := by
  rw [List.take_succ_eq_append_getElem (by simpa [bL] using h)]; rfl
theorem can_no (l : List UInt8) (k : Nat) (h : k < l.length) (hd : dig l[k] = false) : canB l = false := by
  cases hc : canB l with
  | false => rfl
  | true =>
    have p := can_parts hc
    have := List.all_eq_true.1 p.2.2.2 l[k] (List.getElem_mem h)
    rw [hd] at this
    cases this
def NumR (s : ByteArray) (n i : Value) : Prop := ∃ k : Nat, k ≤ s.size ∧ i = .int .i64 k ∧ n = .int .i64 (valL ((bL s).take k)) ∧ ((bL s).take k).all dig = true
def NumQ (s : ByteArray) (w : World) (e : Ending) (w' : World) : Prop := e = .returned (.tuple #[.int .i64 (numV (bL s)), .bool (canB (bL s))]) ∧ w' = w
theorem numq_no {s : ByteArray} {w : World} (h : canB (bL s) = false) : NumQ s w (.returned (.tuple #[.int .i64 0, .bool false])) w := by
  unfold NumQ numV
  rw [h]
  exact ⟨rfl, rfl⟩
theorem numq_yes {s : ByteArray} {w : World} (h : canB (bL s) = true) : NumQ s w (.returned (.tuple #[.int .i64 (valL (bL s)), .bool true])) w := by
  unfold NumQ numV
  rw [h]
  exact ⟨rfl, rfl⟩
set_option maxHeartbeats 1000000 in
set_option maxRecDepth 100000 in
theorem num_calls (s : ByteArray) (hs : s.size ≤ 1048576) (w : World) : Calls Tryd.prog 19 #[.string s] w (NumQ s w) := by
  by_cases h0 : s.size < 1
  · have hn : canB (bL s) = false := by
      unfold canB
      rw [bL_len, decide_eq_false (by omega)]
      rfl
    have HN := Lib.hid hn
    clear hn
    have h0' : (s.size : Int) < 1 := by omega
    go_enter Tryd.func19, Tryd.ntmps19
    go_wp2
    go_ret2
    exact numq_no HN.out
  by_cases h9 : 9 < s.size
  · have hn : canB (bL s) = false := by
      unfold canB
      rw [bL_len, decide_eq_false (show ¬ s.size ≤ 9 by omega), Bool.and_false]
      rfl
    have HN := Lib.hid hn
    clear hn
    have h0' : ¬ (s.size : Int) < 1 := by omega
    have h9' : (9 : Int) < s.size := by omega
    go_enter Tryd.func19, Tryd.ntmps19
    go_wp2
    go_ret2
    exact numq_no HN.out
  have h0' : ¬ (s.size : Int) < 1 := by omega
  have h9' : ¬ (9 : Int) < s.size := by omega
  have hp : 0 < s.size := by omega
  by_cases hz : s[0] = 48 ∧ 1 < s.size
  · have hn : canB (bL s) = false := by
      cases hc : canB (bL s) with
      | false => rfl
      | true =>
        have p := can_parts hc
        exfalso
        refine p.2.2.1 (by rw [bL_len]; exact hz.2) ?_
        rw [List.head?_eq_getElem?, List.getElem?_eq_getElem (by rw [bL_len]; exact hp)]
        exact congrArg some hz.1
    have HN := Lib.hid hn
    clear hn
    have hz1 : ((s[0].toNat : Int) == 48) = true := by rw [hz.1]; rfl
    have hz2 : (1 : Int) < s.size := by omega
    clear hz
    go_enter Tryd.func19, Tryd.ntmps19
    go_wp2
    go_ret2
    exact numq_no HN.out
  · have hhead : 1 < s.size → (bL s).head? ≠ some 48 := fun h1 h2 => by
      rw [List.head?_eq_getElem?, List.getElem?_eq_getElem (by rw [bL_len]; exact hp)] at h2
      exact hz ⟨Option.some.inj h2, h1⟩
    have HH := Lib.hid hhead
    clear hhead
    have hq : ((s[0].toNat : Int) == 48) = true ∧ ¬ (1 : Int) < s.size ∨ ((s[0].toNat : Int) == 48) = false := by
      by_cases e : s[0] = 48
      · refine .inl ⟨by rw [e]; rfl, fun h => hz ⟨e, by omega⟩⟩
      · refine .inr (beq_eq_false_iff_ne.2 fun h => e (UInt8.toNat_inj.1 ?_))
        have : (48 : UInt8).toNat = 48 := rfl
        rw [this]
        exact_mod_cast h
    clear hz
    rcases hq with ⟨q1, q2⟩ | q1
    all_goals
      go_enter Tryd.func19, Tryd.ntmps19
      go_wp2
      go_loop [4, 5] (NumR s) (fun _ i => s.size - (intOf i).toNat)
      case atStart => exact ⟨0, Nat.zero_le _, rfl, rfl, rfl⟩
      case round =>
        obtain ⟨k, hk, rfl, rfl, hd⟩ := hrel
        have hl : ((bL s).take k).length ≤ 9 := Nat.le_trans (List.length_take_le _ _) (by omega)
        have hv := val_le _ hd hl
        have HD := Lib.hid hd
        clear hd
        by_cases hlt : k < s.size
        · have hsn := valL_snoc ((bL s).take k) s[k]
          have hts := take_snoc s k hlt
          have HS := Lib.hid hsn
          have HT := Lib.hid hts
          clear hsn hts
          have hby : s[k].toNat < 256 := s[k].toNat_lt
          generalize hgv : valL ((bL s).take k) = n at *
          have HG := Lib.hid hgv
          clear hgv
          by_cases hdg : dig s[k] = true
          · have hdn := dig_nat hdg
            have d1 : ¬ (s[k].toNat : Int) < 48 := by omega
            have d2 : ¬ (57 : Int) < s[k].toNat := by omega
            have HDG := Lib.hid hdg
            clear hdg
            go_wp2
            go_round
            case rel =>
              refine ⟨k + 1, hlt, by go_num, ?_, ?_⟩
              · rw [HT.out, HS.out]
                exact congrArg (Value.int .i64) (by omega)
              · rw [HT.out, List.all_append, HD.out]
                simp [HDG.out]
            case measure => simp [intOf]; omega
          · have hnn : canB (bL s) = false := can_no (bL s) k hlt ((Bool.not_eq_true _).mp hdg : dig s[k] = false)
            have HN := Lib.hid hnn
            have hdn : (s[k].toNat : Int) < 48 ∨ ¬ (s[k].toNat : Int) < 48 ∧ (57 : Int) < s[k].toNat := by
              have : ¬ (48 ≤ s[k].toNat ∧ s[k].toNat ≤ 57) := fun h => hdg (by simp [dig, h])
              omega
            clear hnn hdg
            rcases hdn with d1 | ⟨d1, d2⟩
            all_goals
              go_wp2
              go_ret2
              exact numq_no HN.out
        · have hke : k = s.size := by omega
          have hy : canB (bL s) = true := by
            have hd := HD.out
            rw [hke, List.take_of_length_le (by rw [bL_len]; exact Nat.le_refl _)] at hd
            unfold canB
            rw [hd, bL_len, decide_eq_true (show 1 ≤ s.size by omega), decide_eq_true (show s.size ≤ 9 by omega)]
            by_cases h1 : 1 < s.size
            · simp [HH.out h1]
            · simp [h1]
          have HY := Lib.hid hy
          have HK := Lib.hid hke
          clear hy hke
          go_wp2
          go_ret2
          rw [HK.out, List.take_of_length_le (by rw [bL_len]; exact Nat.le_refl _)]
          exact numq_yes HY.out
end Tx
end Go.Proofs.YtjbbljlefmgieaaDoor
end
