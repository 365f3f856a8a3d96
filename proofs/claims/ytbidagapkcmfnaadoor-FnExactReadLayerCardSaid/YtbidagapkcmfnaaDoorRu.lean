/-
  Curves read from their texts, by the program. No condition but that the text has at most 2^20 bytes and what some package-level variables hold.
-/
import Derived.Test.YtbidagapkcmfnaaDoorRt
noncomputable section
namespace Go.Proofs.YtbidagapkcmfnaaDoor
namespace Tx
open Go Go.RowKit
theorem piece_le (c : UInt8) : ∀ (l : List UInt8), ∀ A ∈ pieces c l, A.length ≤ l.length
  | [], A, h => by simp [pieces_nil] at h; simp [h]
  | x :: r, A, h => by
    have ih := piece_le c r
    by_cases hx : x = c
    · subst hx
      rw [pieces_eq] at h
      rcases List.mem_cons.1 h with rfl | h
      · simp
      · have := ih A h
        simp
        omega
    · rw [pieces_ne hx] at h
      rcases List.mem_cons.1 h with rfl | h
      · have := ih (cut1 c r).1 (by simp [pieces])
        simp
        exact this
      · have := ih A (by simp [pieces, h])
        simp
        omega
/-- the loop: k words have been read -/
def IpR (s : ByteArray) (w : World) (b g : Nat) (vi : Value) (wr : World) : Prop :=
  ∃ k : Nat, k ≤ 16 ∧ vi = .int .i64 k ∧ Out (zP s) b k wr ∧ Row (pieces 32 (bL s)) g wr ∧ ((pieces 32 (bL s)).take k).all okN = true ∧ wr.there w.heap.size 0 16 ∧ Below w.heap.size w wr
theorem row_set {ps : List (List UInt8)} {g b k : Nat} {wr : World} {v : Value} (hg : g ≠ b) (h : Row ps g wr) : Row ps g (wr.setCell ⟨b, k, none⟩ v) :=
  ⟨by rw [World.size_setCell]; exact h.1, fun j hj => (World.cell?_setCell_other _ _ _ _ (by intro h; cases h; exact hg rfl)).trans (h.2 j hj)⟩
theorem ip_set {s : ByteArray} {w wr : World} {b g k : Nat} (hk : k < 16) (hbw : w.heap.size < b) (hg : g ≠ b) (h1 : Out (zP s) b k wr) (h2 : Row (pieces 32 (bL s)) g wr) (ha : ((pieces 32 (bL s)).take (k + 1)).all okN = true) (h3 : wr.there w.heap.size 0 16) (h4 : Below w.heap.size w wr) :
    IpR s w b g (.int .i64 ((k + 1 : Nat) : Int)) (wr.setCell ⟨b, k, none⟩ (.float .f32 (zP s k))) :=
  ⟨k + 1, hk, rfl, out_set hk h1, row_set hg h2, ha, World.there_setCells h3 b k [.float .f32 (zP s k)], h4.setCell (Nat.le_of_lt hbw) _⟩
set_option maxHeartbeats 4000000 in
set_option maxRecDepth 100000 in
theorem ric_len (s : ByteArray) (hs : s.size ≤ 1048576) (w : World) (hE : EnvOk w) (hk : okC s = false) (hlen : (pieces 32 (bL s)).length ≠ 16) : Calls Tryd.prog 10 #[.string s] w (CuQ s w) := by
  unfold CuQ
  rw [coC_no hk, zC_no hk]
  unfold cvV
  have hli : ((pieces 32 (bL s)).length : Int) ≠ 16 := by omega
  clear hk
  go_enter Tryd.func10, Tryd.ntmps10
  refine wp_seq_k (fun K hK => ?_)
  have HR := Lib.hid hK
  clear hK
  go_wp2_with fail
  refine HR.out _ _ ?_
  clear HR K
  have hT0 : (w.alloc (.cells #[.float .f32 0, .float .f32 0, .float .f32 0, .float .f32 0, .float .f32 0, .float .f32 0, .float .f32 0, .float .f32 0, .float .f32 0, .float .f32 0, .float .f32 0, .float .f32 0, .float .f32 0, .float .f32 0, .float .f32 0, .float .f32 0] 29)).there w.heap.size 0 16 := there_new w 29 #[.float .f32 0, .float .f32 0, .float .f32 0, .float .f32 0, .float .f32 0, .float .f32 0, .float .f32 0, .float .f32 0, .float .f32 0, .float .f32 0, .float .f32 0, .float .f32 0, .float .f32 0, .float .f32 0, .float .f32 0, .float .f32 0]
  have hb0 : Below w.heap.size w (w.alloc (.cells #[.float .f32 0, .float .f32 0, .float .f32 0, .float .f32 0, .float .f32 0, .float .f32 0, .float .f32 0, .float .f32 0, .float .f32 0, .float .f32 0, .float .f32 0, .float .f32 0, .float .f32 0, .float .f32 0, .float .f32 0, .float .f32 0] 29)) := bA (Below.refl _ _) _
  have hl0 : w.heap.size < (w.alloc (.cells #[.float .f32 0, .float .f32 0, .float .f32 0, .float .f32 0, .float .f32 0, .float .f32 0, .float .f32 0, .float .f32 0, .float .f32 0, .float .f32 0, .float .f32 0, .float .f32 0, .float .f32 0, .float .f32 0, .float .f32 0, .float .f32 0] 29)).heap.size := by simp
  have hE0 := env_below hE hb0
  have HE := Lib.hid hE
  clear hE
  generalize w.alloc (.cells #[.float .f32 0, .float .f32 0, .float .f32 0, .float .f32 0, .float .f32 0, .float .f32 0, .float .f32 0, .float .f32 0, .float .f32 0, .float .f32 0, .float .f32 0, .float .f32 0, .float .f32 0, .float .f32 0, .float .f32 0, .float .f32 0] 29) = W0 at *
  refine wp_seq_k (fun K hK => ?_)
  have HR := Lib.hid hK
  clear hK
  go_wp2_with (go_at_call 20; refine (lsplit_calls s 32 hs _ hE0).mono ?_; rintro e W1 ⟨g, cap, rfl, hr, hb1⟩)
  refine HR.out _ _ ?_
  clear HR K
  have hT1 := there_below hl0 hT0 hb1
  have hB1 := hb0.trans (hb1.mono hb0.size)
  have hE1 := env_below hE0 hb1
  have hl1 : w.heap.size < W1.heap.size := Nat.lt_of_lt_of_le hl0 hb1.size
  clear hb0 hT0 hb1 hE0
  refine wp_seq_k (fun K hK => ?_)
  have HR := Lib.hid hK
  clear hK
  go_wp2_with fail
  refine HR.out _ _ ?_
  clear HR K
  have hO : Out (zP s) W1.heap.size 0 (W1.alloc (.cells #[.float .f32 0, .float .f32 0, .float .f32 0, .float .f32 0, .float .f32 0, .float .f32 0, .float .f32 0, .float .f32 0, .float .f32 0, .float .f32 0, .float .f32 0, .float .f32 0, .float .f32 0, .float .f32 0, .float .f32 0, .float .f32 0] 29)) := out_new
  have hb2 : Below W1.heap.size W1 (W1.alloc (.cells #[.float .f32 0, .float .f32 0, .float .f32 0, .float .f32 0, .float .f32 0, .float .f32 0, .float .f32 0, .float .f32 0, .float .f32 0, .float .f32 0, .float .f32 0, .float .f32 0, .float .f32 0, .float .f32 0, .float .f32 0, .float .f32 0] 29)) := bA (Below.refl _ _) _
  have hT2 := there_below hl1 hT1 hb2
  have hE2 := env_below hE1 hb2
  have hB2 := hB1.trans (hb2.mono hB1.size)
  have hgb : g ≠ W1.heap.size := Nat.ne_of_lt hr.1
  have hr2 := row_below hb2 hr
  generalize W1.alloc (.cells #[.float .f32 0, .float .f32 0, .float .f32 0, .float .f32 0, .float .f32 0, .float .f32 0, .float .f32 0, .float .f32 0, .float .f32 0, .float .f32 0, .float .f32 0, .float .f32 0, .float .f32 0, .float .f32 0, .float .f32 0, .float .f32 0] 29) = W2 at *
  clear hr hT1 hE1 hB1 hb2
  generalize W1.heap.size = b at *
  refine wp_seq_k (fun KX hKX => ?_)
  have HX := Lib.hid hKX
  clear hKX
  refine wp_seq_k (fun K hK => ?_)
  have HR := Lib.hid hK
  clear hK
  go_wp2_with fail
  refine HR.out _ _ ?_
  clear HR K
  refine wp_cond_true (congrArg Value.bool (bne_iff_ne.2 hli)) ?_
  refine wp_seq_k (fun K hK => ?_)
  have HR := Lib.hid hK
  clear hK
  refine wp_region_lit ?_
  refine wpList_plain (by rfl) fun K1 hK1 => ?_
  have HK := Lib.hid hK1
  clear hK1
  go_wp2_with fail
  refine HK.out _ _ ?_
  clear HK K1
  refine wpList_store_mid (by rfl) 29 (Operand.tmp 2) (Operand.tmp 15) (by rfl) (w.heap.size) 0 (zL zero).toArray (by rfl) (by rfl) hT2 (by kernel_rfl) (all_oneCell_toArray (one_z zero)) ?_
  go_wp2_with fail
  refine HR.out _ _ ?_
  clear HR K
  have R := World.rangeAt_setCells_same W2 w.heap.size 0 (zL zero) hT2
  have B := below_setCells (b := w.heap.size) (Nat.le_refl _) (zL zero) 0 W2 hB2
  have L := run_loadVar_mid (P := Tryd.prog) _ w.heap.size 0 29 (zL zero) _ R Tryd.underlying29 rfl (by kernel_rfl)
  go_wp2_with fail
  exact bodyPost_ret (v := .tuple #[.agg (zL zero).toArray, .int .i64 5]) (by simp [results, Tryd.results10, L, asAddr]) rfl ⟨rfl, B⟩
set_option maxHeartbeats 4000000 in
set_option maxRecDepth 100000 in
theorem ric_16 (s : ByteArray) (hs : s.size ≤ 1048576) (w : World) (hE : EnvOk w) (hlen : (pieces 32 (bL s)).length = 16) : Calls Tryd.prog 10 #[.string s] w (CuQ s w) := by
  have hst : ∀ (a : Addr) (x : Nat) (W : World), (store a (.float .f32 x)).run Tryd.prog W = stored Tryd.prog W a (.float .f32 x) _ := fun a x W => run_store Tryd.prog W a (.float .f32 x) _ rfl
  go_enter Tryd.func10, Tryd.ntmps10
  refine wp_seq_k (fun K hK => ?_)
  have HR := Lib.hid hK
  clear hK
  go_wp2_with fail
  refine HR.out _ _ ?_
  clear HR K
  have hT0 : (w.alloc (.cells #[.float .f32 0, .float .f32 0, .float .f32 0, .float .f32 0, .float .f32 0, .float .f32 0, .float .f32 0, .float .f32 0, .float .f32 0, .float .f32 0, .float .f32 0, .float .f32 0, .float .f32 0, .float .f32 0, .float .f32 0, .float .f32 0] 29)).there w.heap.size 0 16 := there_new w 29 #[.float .f32 0, .float .f32 0, .float .f32 0, .float .f32 0, .float .f32 0, .float .f32 0, .float .f32 0, .float .f32 0, .float .f32 0, .float .f32 0, .float .f32 0, .float .f32 0, .float .f32 0, .float .f32 0, .float .f32 0, .float .f32 0]
  have hb0 : Below w.heap.size w (w.alloc (.cells #[.float .f32 0, .float .f32 0, .float .f32 0, .float .f32 0, .float .f32 0, .float .f32 0, .float .f32 0, .float .f32 0, .float .f32 0, .float .f32 0, .float .f32 0, .float .f32 0, .float .f32 0, .float .f32 0, .float .f32 0, .float .f32 0] 29)) := bA (Below.refl _ _) _
  have hl0 : w.heap.size < (w.alloc (.cells #[.float .f32 0, .float .f32 0, .float .f32 0, .float .f32 0, .float .f32 0, .float .f32 0, .float .f32 0, .float .f32 0, .float .f32 0, .float .f32 0, .float .f32 0, .float .f32 0, .float .f32 0, .float .f32 0, .float .f32 0, .float .f32 0] 29)).heap.size := by simp
  have hE0 := env_below hE hb0
  have HE := Lib.hid hE
  clear hE
  generalize w.alloc (.cells #[.float .f32 0, .float .f32 0, .float .f32 0, .float .f32 0, .float .f32 0, .float .f32 0, .float .f32 0, .float .f32 0, .float .f32 0, .float .f32 0, .float .f32 0, .float .f32 0, .float .f32 0, .float .f32 0, .float .f32 0, .float .f32 0] 29) = W0 at *
  refine wp_seq_k (fun K hK => ?_)
  have HR := Lib.hid hK
  clear hK
  go_wp2_with (go_at_call 20; refine (lsplit_calls s 32 hs _ hE0).mono ?_; rintro e W1 ⟨g, cap, rfl, hr, hb1⟩)
  refine HR.out _ _ ?_
  clear HR K
  have hT1 := there_below hl0 hT0 hb1
  have hB1 := hb0.trans (hb1.mono hb0.size)
  have hE1 := env_below hE0 hb1
  have hl1 : w.heap.size < W1.heap.size := Nat.lt_of_lt_of_le hl0 hb1.size
  clear hb0 hT0 hb1 hE0
  refine wp_seq_k (fun K hK => ?_)
  have HR := Lib.hid hK
  clear hK
  go_wp2_with fail
  refine HR.out _ _ ?_
  clear HR K
  have hO : Out (zP s) W1.heap.size 0 (W1.alloc (.cells #[.float .f32 0, .float .f32 0, .float .f32 0, .float .f32 0, .float .f32 0, .float .f32 0, .float .f32 0, .float .f32 0, .float .f32 0, .float .f32 0, .float .f32 0, .float .f32 0, .float .f32 0, .float .f32 0, .float .f32 0, .float .f32 0] 29)) := out_new
  have hb2 : Below W1.heap.size W1 (W1.alloc (.cells #[.float .f32 0, .float .f32 0, .float .f32 0, .float .f32 0, .float .f32 0, .float .f32 0, .float .f32 0, .float .f32 0, .float .f32 0, .float .f32 0, .float .f32 0, .float .f32 0, .float .f32 0, .float .f32 0, .float .f32 0, .float .f32 0] 29)) := bA (Below.refl _ _) _
  have hT2 := there_below hl1 hT1 hb2
  have hE2 := env_below hE1 hb2
  have hB2 := hB1.trans (hb2.mono hB1.size)
  have hgb : g ≠ W1.heap.size := Nat.ne_of_lt hr.1
  have hr2 := row_below hb2 hr
  generalize W1.alloc (.cells #[.float .f32 0, .float .f32 0, .float .f32 0, .float .f32 0, .float .f32 0, .float .f32 0, .float .f32 0, .float .f32 0, .float .f32 0, .float .f32 0, .float .f32 0, .float .f32 0, .float .f32 0, .float .f32 0, .float .f32 0, .float .f32 0] 29) = W2 at *
  clear hr hT1 hE1 hB1 hb2
  generalize W1.heap.size = b at *
  refine wp_seq_k (fun KX hKX => ?_)
  have HX := Lib.hid hKX
  clear hKX
  refine wp_seq_k (fun K hK => ?_)
  have HR := Lib.hid hK
  clear hK
  go_wp2_with fail
  refine HR.out _ _ ?_
  clear HR K
  refine wp_cond_false (by rfl) ?_
  go_wp2_with fail
  refine HX.out _ _ ?_
  clear HX
  go_wp2
  go_loopw [18] (IpR s w b g) (fun vi _ => 16 - (intOf vi).toNat)
  case atStart => exact ⟨0, Nat.zero_le _, rfl, hO, hr2, rfl, hT2, hB2⟩
  case round =>
    obtain ⟨k, hk, rfl, hO, hr2, hd, hT2, hB2⟩ := hrel
    by_cases hlt : k < 16
    · have hkl : k < (pieces 32 (bL s)).length := by omega
      have c := hr2.2 k hkl
      have hpl := piece_le 32 (bL s) _ (List.getElem_mem hkl)
      rw [bL_len] at hpl
      have hri := fun W h => ri_calls (bS (pieces 32 (bL s))[k]) (by show (pieces 32 (bL s))[k].length ≤ _; omega) W h
      unfold RnQ at hri
      have hzk : zP s k = nuN (pieces 32 (bL s))[k] := by unfold zP; rw [piece_get hkl]
      have e : (bS (pieces 32 (bL s))[k]).data.toList = (pieces 32 (bL s))[k] := rfl
      cases hok : okN (pieces 32 (bL s))[k] with
      | false =>
        have hn := rn_no (s := bS (pieces 32 (bL s))[k]) (by rw [e]; exact hok)
        rw [hn.1, hn.2] at hri
        have HK := Lib.hid (show okC s = false by unfold okC; rw [all_no hkl hok, Bool.and_false])
        have hO1 := hO.1
        clear hok hn e hzk hpl hd hO
        generalize bS (pieces 32 (bL s))[k] = t at c hri
        go_wp2_with (first
          | (go_at_call 7; refine (hri _ (env_below HE.out hB2)).mono ?_; rintro e W3 ⟨rfl, hb3⟩; have hT3 := there_below (Nat.lt_trans hl1 hO1) hT2 hb3; have hB3 := hB2.trans (hb3.mono hB2.size))
          | (refine wpList_store_mid (by rfl) 29 (Operand.tmp 2) (Operand.tmp 30) (by rfl) w.heap.size 0 (zL zero).toArray (by rfl) (by rfl) hT3 (by kernel_rfl) (all_oneCell_toArray (one_z zero)) ?_))
        have R := World.rangeAt_setCells_same W3 w.heap.size 0 (zL zero) hT3
        have B := below_setCells (b := w.heap.size) (Nat.le_refl _) (zL zero) 0 W3 hB3
        have L := run_loadVar_mid (P := Tryd.prog) _ w.heap.size 0 29 (zL zero) _ R Tryd.underlying29 rfl (by kernel_rfl)
        exact bodyPost_ret (v := .tuple #[.agg (zL zero).toArray, .int .i64 5]) (by simp [results, Tryd.results10, L, asAddr]) rfl ⟨by rw [zC_no HK.out, coC_no HK.out]; rfl, B⟩
      | true =>
        have hn := rn_yes (s := bS (pieces 32 (bL s))[k]) (by rw [e]; exact hok)
        rw [hn.1, hn.2, e, ← hzk] at hri
        have ha := all_take hkl hd hok
        clear hok hn e hzk hpl hd
        generalize bS (pieces 32 (bL s))[k] = t at c hri
        have hl2 := Nat.lt_trans hl1 hO.1
        have HC := Lib.hid (And.intro hO (And.intro hr2 (And.intro hT2 hB2)))
        have HA := Lib.hid ha
        clear hO hr2 hT2 hB2 ha
        generalize hzg : zP s k = x at hri
        have HZ := Lib.hid hzg
        clear hzg
        go_wp2_with (go_at_call 7; refine (hri _ (env_below HE.out HC.out.2.2.2)).mono ?_; rintro e W3 ⟨rfl, hb3⟩; have hO3 := out_below hb3 HC.out.1; have n := hO3.2.2 k hlt; have q := hO3.2.1 k hlt; have HS := Lib.hid (ip_set hlt hl1 hgb hO3 (row_below hb3 HC.out.2.1) HA.out (there_below hl2 HC.out.2.2.1 hb3) (HC.out.2.2.2.trans (hb3.mono HC.out.2.2.2.size))); clear hO3)
        go_roundw
        case rel =>
          rw [← HZ.out]
          exact HS.out
        case measure => simp [intOf]; omega
    · have hke : k = 16 := by omega
      have hy : okC s = true := by
        unfold okC
        rw [hke, ← hlen, List.take_length] at hd
        rw [hd, hlen]
        rfl
      have hR := out_range hke hO
      have HY := Lib.hid hy
      clear hO hr2 hd hy
      rename_i hKL
      have HX := Lib.hid hKL
      clear hKL
      go_wp2_with fail
      refine HX.out _ _ ?_
      clear HX
      refine wp_seq_k (fun K hK => ?_)
      have HR := Lib.hid hK
      clear hK
      refine wp_region_lit ?_
      refine wpList_load_mid (by rfl) 29 (Operand.tmp 5) (by rfl) (b) 0 (by rfl) (zL (zP s)) _ hR Tryd.underlying29 rfl (by kernel_rfl) ?_
      refine wpList_store_mid (by rfl) 29 (Operand.tmp 2) (Operand.tmp 36) (by rfl) (w.heap.size) 0 (zL (zP s)).toArray (by rfl) (by rfl) hT2 (by kernel_rfl) (all_oneCell_toArray (one_z (zP s))) ?_
      go_wp2_with fail
      refine HR.out _ _ ?_
      clear HR K
      have R := World.rangeAt_setCells_same wr w.heap.size 0 (zL (zP s)) hT2
      have B := below_setCells (b := w.heap.size) (Nat.le_refl _) (zL (zP s)) 0 wr hB2
      have L := run_loadVar_mid (P := Tryd.prog) _ w.heap.size 0 29 (zL (zP s)) _ R Tryd.underlying29 rfl (by kernel_rfl)
      go_wp2_with fail
      exact bodyPost_ret (v := .tuple #[.agg (zL (zP s)).toArray, .int .i64 0]) (by simp [results, Tryd.results10, L, asAddr]) rfl ⟨by rw [zC_yes HY.out, coC_yes HY.out]; rfl, B⟩
theorem ric_calls (s : ByteArray) (hs : s.size ≤ 1048576) (w : World) (hE : EnvOk w) : Calls Tryd.prog 10 #[.string s] w (CuQ s w) := by
  by_cases h : (pieces 32 (bL s)).length = 16
  · exact ric_16 s hs w hE h
  · exact ric_len s hs w hE (by unfold okC; rw [decide_eq_false h]; rfl) h
end Tx
end Go.Proofs.YtbidagapkcmfnaaDoor
end
