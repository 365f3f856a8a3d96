/-
  A number read from its text, by the model. No condition but that the text has at most 2^20 bytes.
-/
import Derived.Test.YtbidagapkcmfnaaDoorMh
import Derived.Test.YtbidagapkcmfnaaDoorHf
import Derived.Lib.Hide
noncomputable section
namespace Go.Proofs.YtbidagapkcmfnaaDoor
namespace Tx
open Go Go.RowKit
theorem ffb_run (a : Nat) (W : World) : (callFunc 17 #[.int .u32 a]).run Tryd.prog W = .ok (.value (.float .f32 a)) W := by
  rw [run_callFunc_extern (e := Extern.MathFloatBits.float32frombits) Tryd.func17 (by kernel_rfl) (by kernel_rfl) (by kernel_rfl) (by kernel_rfl)]
  rfl
/-- is it a number's text, and which number -/
def okN (l : List UInt8) : Bool := canH l && decide (nB (hvL l) = hvL l)
def nuN (l : List UInt8) : Nat := hvL l
theorem take_snoc (s : ByteArray) (k : Nat) (h : k < s.size) : s.data.toList.take (k + 1) = s.data.toList.take k ++ [s[k]] := by
  rw [List.take_succ_eq_append_getElem (by simpa using h)]; rfl
def RdR (s : ByteArray) (n i : Value) : Prop := ∃ k : Nat, k ≤ 8 ∧ i = .int .i64 k ∧ n = .int .u32 (hvL (s.data.toList.take k)) ∧ (s.data.toList.take k).all lowD = true
/-- spec.l01Read's answer: some number, and whether it counts -/
def RdQ (s : ByteArray) (w : World) (e : Ending) (w' : World) : Prop := ∃ a : Nat, e = .returned (.tuple #[.float .f32 a, .bool (okN s.data.toList)]) ∧ (okN s.data.toList = true → a = nuN s.data.toList) ∧ Below w.heap.size w w'
theorem rd_no {s : ByteArray} {w : World} (h : canH s.data.toList = false) : RdQ s w (.returned (.tuple #[.float .f32 0, .bool false])) w := by
  have : okN s.data.toList = false := by unfold okN; rw [h]; rfl
  unfold RdQ
  rw [this]
  exact ⟨0, rfl, (fun h => nomatch h), Below.refl _ _⟩
theorem can_no (l : List UInt8) (k : Nat) (h : k < l.length) (hd : lowD l[k] = false) : canH l = false := by
  cases hc : canH l with
  | false => rfl
  | true =>
    have p := can_parts hc
    have := List.all_eq_true.1 p.2 l[k] (List.getElem_mem h)
    rw [hd] at this
    cases this
set_option maxHeartbeats 1000000 in
set_option maxRecDepth 100000 in
theorem rd_calls (s : ByteArray) (w : World) : Calls Tryd.prog 15 #[.string s] w (RdQ s w) := by
  have hF := ffb_run
  by_cases h8 : s.size = 8
  · have HS := Lib.hid h8
    go_enter Tryd.func15, Tryd.ntmps15
    go_wp2
    go_loop [4, 5] (RdR s) (fun _ i => 8 - (intOf i).toNat)
    case atStart => exact ⟨0, Nat.zero_le _, rfl, rfl, rfl⟩
    case round =>
      obtain ⟨k, hk, rfl, rfl, hd⟩ := hrel
      have hl8 : s.data.toList.length = 8 := by simpa using h8
      have hll : (s.data.toList.take k).length ≤ k := List.length_take_le _ _
      have hv := hv_lt k _ hll hd
      have HD := Lib.hid hd
      clear hd
      by_cases hlt : k < 8
      · have hks : k < s.size := by omega
        have hv7 : hvL (s.data.toList.take k) < 268435456 := Nat.lt_of_lt_of_le hv (by
          have : 16 ^ k ≤ 16 ^ 7 := Nat.pow_le_pow_right (by decide) (by omega)
          simpa using this)
        have hsn := hvL_snoc (s.data.toList.take k) s[k]
        have hts := take_snoc s k hks
        have HS := Lib.hid hsn
        have HT := Lib.hid hts
        have hcn : lowD s[k] = false → canH s.data.toList = false := fun h => can_no s.data.toList k (by omega) h
        clear hsn hts hv hll
        have hby : s[k].toNat < 256 := s[k].toNat_lt
        have hdef : lowD s[k] = ((decide (48 ≤ s[k].toNat) && decide (s[k].toNat ≤ 57)) || (decide (97 ≤ s[k].toNat) && decide (s[k].toNat ≤ 102))) := rfl
        have hdg : dgV s[k] = if s[k].toNat ≤ 57 then s[k].toNat - 48 else s[k].toNat - 87 := rfl
        generalize hgv : hvL (s.data.toList.take k) = n at *
        have HG := Lib.hid hgv
        clear hgv
        have hcase : (48 ≤ s[k].toNat ∧ s[k].toNat ≤ 57) ∨ (97 ≤ s[k].toNat ∧ s[k].toNat ≤ 102) ∨ (s[k].toNat < 48 ∨ 57 < s[k].toNat) ∧ (s[k].toNat < 97 ∨ 102 < s[k].toNat) := by omega
        rcases hcase with ⟨c1, c2⟩ | ⟨c1, c2⟩ | ⟨c1, c2⟩
        · have hlow : lowD s[k] = true := by rw [hdef, decide_eq_true c1, decide_eq_true c2]; rfl
          rw [if_pos c2] at hdg
          have HL := Lib.hid hlow
          have HV := Lib.hid hdg
          have d1 : (48 : Int) ≤ s[k].toNat := by omega
          have d2 : (s[k].toNat : Int) ≤ 57 := by omega
          clear hlow hdef hcn hdg
          go_wp2
          go_round
          case rel =>
            refine ⟨k + 1, hlt, by go_num, ?_, ?_⟩
            · rw [HT.out, HS.out, HV.out]
              exact congrArg (Value.int .u32) (by omega)
            · rw [HT.out, List.all_append, HD.out]
              simp [HL.out]
          case measure => simp [intOf]; omega
        · have hlow : lowD s[k] = true := by rw [hdef, decide_eq_true c1, decide_eq_true c2]; simp
          rw [if_neg (by omega)] at hdg
          have HL := Lib.hid hlow
          have HV := Lib.hid hdg
          have d0 : (48 : Int) ≤ s[k].toNat := by omega
          have d00 : ¬ (s[k].toNat : Int) ≤ 57 := by omega
          have d1 : (97 : Int) ≤ s[k].toNat := by omega
          have d2 : (s[k].toNat : Int) ≤ 102 := by omega
          clear hlow hdef hcn hdg
          go_wp2
          go_round
          case rel =>
            refine ⟨k + 1, hlt, by go_num, ?_, ?_⟩
            · rw [HT.out, HS.out, HV.out]
              exact congrArg (Value.int .u32) (by omega)
            · rw [HT.out, List.all_append, HD.out]
              simp [HL.out]
          case measure => simp [intOf]; omega
        · have hlow : lowD s[k] = false := by
            rw [hdef]
            rcases c1 with c1 | c1 <;> rcases c2 with c2 | c2 <;> simp <;> omega
          have HN := Lib.hid (hcn hlow)
          have hdn : (¬ (48 : Int) ≤ s[k].toNat ∨ (48 : Int) ≤ s[k].toNat ∧ ¬ (s[k].toNat : Int) ≤ 57) := by omega
          have hen : (¬ (97 : Int) ≤ s[k].toNat ∨ (97 : Int) ≤ s[k].toNat ∧ ¬ (s[k].toNat : Int) ≤ 102) := by omega
          clear hlow hdef hcn hdg
          rcases hdn with d1 | ⟨d1, d2⟩ <;> rcases hen with f1 | ⟨f1, f2⟩
          all_goals
            first
            | omega
            | (go_wp2
               go_ret2
               exact rd_no HN.out)
      · have hke : k = 8 := by omega
        have hft : s.data.toList.take k = s.data.toList := List.take_of_length_le (by omega)
        have hy : canH s.data.toList = true := by
          have hd := HD.out
          rw [hft] at hd
          unfold canH
          rw [hd, hl8]
          rfl
        rw [hft] at hv ⊢
        have hok : okN s.data.toList = decide (nB (hvL s.data.toList) = hvL s.data.toList) := by unfold okN; rw [hy]; rfl
        have hvb := hv_can hy
        clear hy HD hft hv hl8 hll
        have HV : Hid (hvL s.data.toList = hvL s.data.toList) := Lib.hid rfl
        revert HV
        generalize hgn : hvL s.data.toList = n at hvb hok ⊢
        intro _
        have HV := Lib.hid hgn
        clear hgn
        have hnb : ∀ W, Calls Tryd.prog 24 #[.float .f32 n] W fun e w' => e = .returned (.int .u32 (nB n)) ∧ Below W.heap.size W w' := fun W => sbits_calls n W
        generalize nB n = m at hnb hok
        by_cases hm : m = n
        · subst hm
          rw [decide_eq_true rfl] at hok
          have HO := Lib.hid hok
          clear hok
          go_wp2_with (go_at_call 24; refine (hnb _).mono ?_; rintro e w' ⟨rfl, hb⟩)
          go_ret2
          exact ⟨m, by rw [HO.out]; rfl, (fun _ => HV.out.symm), hb⟩
        · rw [decide_eq_false hm] at hok
          have HO := Lib.hid hok
          have hmb : ((m : Int) == (n : Int)) = false := by
            rw [beq_eq_false_iff_ne]
            omega
          clear hm hok
          go_wp2_with (go_at_call 24; refine (hnb _).mono ?_; rintro e w' ⟨rfl, hb⟩)
          go_ret2
          exact ⟨n, by rw [HO.out, ← hmb]; rfl, (fun h => by rw [HO.out] at h; cases h), hb⟩
  · have hc : canH s.data.toList = false := by
      unfold canH
      rw [show s.data.toList.length = s.size by simp, decide_eq_false h8]
      rfl
    have HC := Lib.hid hc
    have h8' : ¬ (s.size : Int) = 8 := by omega
    clear hc
    go_enter Tryd.func15, Tryd.ntmps15
    go_wp2
    go_ret2
    exact rd_no HC.out
end Tx
end Go.Proofs.YtbidagapkcmfnaaDoor
end
