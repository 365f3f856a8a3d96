/-
  The model's cut of a text at a byte. No condition but that the text has at most 2^20 bytes.
-/
import Derived.Test.YtbidagapkcmfnaaDoorRp
import Derived.Test.YtbidagapkcmfnaaDoorSa
import Derived.Lib.Hide
import Derived.Deep.AppendLies
import Derived.OwnWalk
noncomputable section
namespace Go.Proofs.YtbidagapkcmfnaaDoor
namespace Tx
open Go Go.RowKit
def bS (l : List UInt8) : ByteArray := ⟨l.toArray⟩
theorem bS_bL (s : ByteArray) : bS (bL s) = s := rfl
theorem bL_bS (l : List UInt8) : bL (bS l) = l := rfl
/-- the pieces that lie in the slice's cells -/
def pcs (c : UInt8) (s : ByteArray) : List Value := (pieces c (bL s)).map fun l => Value.string (bS l)
/-- where the cut stands: D has been cut off, the next piece begins at m and goes on to k at least -/
def SpR (s : ByteArray) (c : UInt8) (w : World) (v f i : Value) (wr : World) : Prop :=
  ∃ k m : Nat, ∃ D : List (List UInt8), k ≤ s.size ∧ m ≤ k ∧ i = .int .i64 k ∧ f = .int .i64 m ∧ D.length ≤ k ∧ wr.ownsRow w.heap.size 9 1 v D.length (D.map fun l => Value.string (bS l)) ∧
    pieces c (bL s) = D ++ pieces c ((bL s).drop m) ∧ c ∉ ((bL s).drop m).take (k - m) ∧ Below w.heap.size w wr
def SpQ (s : ByteArray) (c : UInt8) (w : World) (e : Ending) (w' : World) : Prop :=
  ∃ v, e = .returned v ∧ w'.ownsRow w.heap.size 9 1 v (pieces c (bL s)).length (pcs c s) ∧ Below w.heap.size w w'
theorem Tryd.infoS : (Tryd.prog.info? 9).map (fun i => (i.zero, i.size, i.bytes)) = some (some (.string ByteArray.empty), 1, 16) := by kernel_rfl
theorem take_more (l : List UInt8) (m k : Nat) (hk : k < l.length) (hm : m ≤ k) : (l.drop m).take (k + 1 - m) = (l.drop m).take (k - m) ++ [l[k]] := by
  rw [show k + 1 - m = (k - m) + 1 by omega, List.take_succ_eq_append_getElem (by simp; omega)]
  congr 2
  simp only [List.getElem_drop]
  congr 1
  omega
theorem cut_at (l : List UInt8) (c : UInt8) (m k : Nat) (hk : k < l.length) (hm : m ≤ k) (hn : c ∉ (l.drop m).take (k - m)) (hc : l[k] = c) : pieces c (l.drop m) = (l.drop m).take (k - m) :: pieces c (l.drop (k + 1)) := by
  have e : l.drop m = (l.drop m).take (k - m) ++ c :: l.drop (k + 1) := by
    conv => lhs; rw [← List.take_append_drop (k - m) (l.drop m)]
    rw [List.drop_drop, show m + (k - m) = k by omega, List.drop_eq_getElem_cons hk, hc]
  conv => lhs; rw [e]
  exact pieces_at _ hn
theorem cut_end (l : List UInt8) (c : UInt8) (m : Nat) (hn : c ∉ (l.drop m).take (l.length - m)) : pieces c (l.drop m) = [l.drop m] := by
  rw [List.take_of_length_le (by simp)] at hn
  exact pieces_none hn
theorem extract_bS (s : ByteArray) (m k : Nat) : s.extract m k = bS (((bL s).drop m).take (k - m)) := by
  apply ByteArray.ext
  apply Array.ext'
  simp [bS, bL, ByteArray.data_extract, List.extract_eq_take_drop]
theorem one_new (w : World) (v : Value) (T : TypeId) : ∀ j u, [v][j]? = some u → (w.alloc (.cells #[v] T)).cell? ((⟨w.heap.size, 0, none⟩ : Addr).add j) = some u := by
  intro j u hj
  match j, hj with
  | 0, hj =>
    simp at hj
    subst hj
    simp [Addr.add]
theorem one_cell (s : ByteArray) : ∀ u ∈ [Value.string s], u.oneCell' = true := by
  intro u hu
  simp at hu
  subst hu
  rfl
set_option maxHeartbeats 1000000 in
set_option maxRecDepth 100000 in
theorem split_calls (s : ByteArray) (c : UInt8) (hs : s.size ≤ 1048576) (w : World) : Calls Tryd.prog 21 #[.string s, .int .u8 c.toNat] w (SpQ s c w) := by
  obtain ⟨i0, hi, hz0, hz1, hz2⟩ := info_parts Tryd.infoS
  go_enter Tryd.func21, Tryd.ntmps21
  go_wp2
  go_loopw [5, 6, 7] (SpR s c w) (fun _ _ i _ => s.size - (intOf i).toNat)
  case atStart =>
    refine ⟨0, 0, [], Nat.zero_le _, Nat.le_refl _, rfl, rfl, Nat.le_refl _, ⟨rfl, .inr ⟨w.heap.size, 0, #[], rfl, Nat.le_refl _, ?_, Nat.le_refl _, Nat.zero_le _, rfl, rfl⟩⟩, rfl, by simp, bA (Below.refl _ _) _⟩
    exact heap_alloc_new w _
  case round =>
    obtain ⟨k, m, D, hk, hm, rfl, rfl, hD, hown, hp, hn, hb⟩ := hrel
    have h63 : D.length + 1 ≤ maxLen := by unfold maxLen; omega
    by_cases hlt : k < s.size
    · have hx := extract_bS s m k
      have HX := Lib.hid hx
      clear hx
      go_wp2_with (at_builtin; refine wpList_append_own _ rfl (.tmp 20) (.tmp 25) 50 rfl w.heap.size 9 i0 _ 1 16 Tryd.underlying50 hi hz0 hz1 hz2 rfl (by decide) _ D.length _ rfl (hown.alloc _) ⟨wr.heap.size, 0, none⟩ 1 1 [.string (s.extract m k)] rfl rfl (one_new wr _ _) (one_cell _) h63 (by omega) (Nat.le_trans hb.size (by simp)) ?_; intro v' w1 hown' hgrow _)
      · have hc : (s[k].toNat : Int) == (c.toNat : Int) := by assumption
        have hc2 : (bL s)[k]'(by rw [bL_len]; exact hlt) = c := UInt8.toNat_inj.1 (by have := beq_iff_eq.1 hc; exact_mod_cast this)
        have e1 := cut_at (bL s) c m k hlt hm hn hc2
        go_roundw
        case rel =>
          refine ⟨k + 1, k + 1, D ++ [((bL s).drop m).take (k - m)], hlt, Nat.le_refl _, by go_num, by go_num, by simp; exact hD, ?_, ?_, by simp, ?_⟩
          · rw [HX.out] at hown'
            simpa using hown'
          · rw [hp, e1, List.append_assoc]
            rfl
          · exact (hb.alloc hb.size _).grown hgrow (by simp; have := hb.size; omega) (fun j hj => (hown.lt j hj).1)
        case measure => simp [intOf]; omega
      · have hc : ((s[k].toNat : Int) == (c.toNat : Int)) = false := by assumption
        have hc2 : ¬ (bL s)[k]'(by rw [bL_len]; exact hlt) = c := fun e => by
          have : s[k] = c := e
          rw [this] at hc
          simp at hc
        go_roundw
        case rel =>
          refine ⟨k + 1, m, D, hlt, by omega, by go_num, rfl, by omega, hown, hp, ?_, hb⟩
          rw [take_more (bL s) m k hlt hm]
          simp only [List.mem_append, List.mem_cons, List.not_mem_nil, or_false, not_or]
          exact ⟨hn, fun e => hc2 e.symm⟩
        case measure => simp [intOf]; omega
    · have hke : k = s.size := by omega
      have HK := Lib.hid hke
      clear hke
      have hx := extract_bS s m s.size
      have HX := Lib.hid hx
      clear hx
      go_wp2_with (at_builtin; refine wpList_append_own _ rfl (.tmp 29) (.tmp 33) 50 rfl w.heap.size 9 i0 _ 1 16 Tryd.underlying50 hi hz0 hz1 hz2 rfl (by decide) _ D.length _ rfl (hown.alloc _) ⟨wr.heap.size, 0, none⟩ 1 1 [.string (s.extract m s.size)] rfl rfl (one_new wr _ _) (one_cell _) h63 (by omega) (Nat.le_trans hb.size (by simp)) ?_; intro v' w1 hown' hgrow _)
      go_ret
      rw [HK.out] at hn
      have e1 := cut_end (bL s) c m hn
      refine ⟨v', rfl, ?_, (hb.alloc hb.size _).grown hgrow (by simp; have := hb.size; omega) (fun j hj => (hown.lt j hj).1)⟩
      rw [HX.out, show s.size - m = (bL s).length - m from rfl, List.take_of_length_le (by simp)] at hown'
      unfold pcs
      rw [hp, e1]
      simpa using hown'
end Tx
end Go.Proofs.YtbidagapkcmfnaaDoor
end
