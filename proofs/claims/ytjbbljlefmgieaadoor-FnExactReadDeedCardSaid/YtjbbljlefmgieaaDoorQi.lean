/-
  Deeds read from their text, by the program. No condition but that the text has at most 2^20 bytes and what some package-level variables hold.
-/
import Derived.Test.YtjbbljlefmgieaaDoorQa
import Derived.Deep.QuietTactic
import Derived.BigQuiet
noncomputable section
namespace Go.Proofs.YtjbbljlefmgieaaDoor
namespace Tx
open Go Go.RowKit
/-- is a deed valid -/
def vB (k a : Int) : Bool := decide (1 ≤ k) && (decide (k ≤ 6) && (decide (0 ≤ a) && (decide (a ≤ 999) && (decide (a = 0) || (decide (k ≠ 5) && decide (k ≠ 6))))))
theorem vd_b (k a : Int) (w : World) (h : k < 1 ∨ 1 ≤ k ∧ 6 < k ∨ 1 ≤ k ∧ k ≤ 6 ∧ a < 0 ∨ 1 ≤ k ∧ k ≤ 6 ∧ 0 ≤ a ∧ 999 < a) : Calls Tryd.prog 25 #[.agg #[.int .i64 k, .int .i64 a]] w fun e w' => e = .returned (.bool false) ∧ Below w.heap.size w w' := by
  rcases h with h | ⟨h1, h⟩ | ⟨h1, h2, h⟩ | ⟨h1, h2, h3, h⟩ <;>
  · go_enter Tryd.func25, Tryd.ntmps25
    go_wp2
    all_goals go_ret
    all_goals refine ⟨rfl, ?_⟩
    all_goals repeat (first | exact Below.refl _ _ | apply Below.drew | apply bA)
theorem vB_false {k a : Int} (h : vB k a = false) : (k < 1 ∨ 1 ≤ k ∧ 6 < k ∨ 1 ≤ k ∧ k ≤ 6 ∧ a < 0 ∨ 1 ≤ k ∧ k ≤ 6 ∧ 0 ≤ a ∧ 999 < a) ∨ ((k = 5 ∨ k = 6) ∧ 0 ≤ a ∧ a ≤ 999 ∧ a ≠ 0) := by
  have : ¬ (1 ≤ k ∧ k ≤ 6 ∧ 0 ≤ a ∧ a ≤ 999 ∧ (a = 0 ∨ k ≠ 5 ∧ k ≠ 6)) := fun q => by
    have : vB k a = true := by simp [vB, q.1, q.2.1, q.2.2.1, q.2.2.2.1]; simpa using q.2.2.2.2
    rw [h] at this
    cases this
  omega
theorem vB_true {k a : Int} (h : vB k a = true) : 1 ≤ k ∧ k ≤ 6 ∧ 0 ≤ a ∧ a ≤ 999 ∧ (a = 0 ∨ k ≠ 5 ∧ k ≠ 6) := by
  simpa [vB] using h
theorem vd_calls (k a : Int) (w : World) : Calls Tryd.prog 25 #[.agg #[.int .i64 k, .int .i64 a]] w fun e w' => e = .returned (.bool (vB k a)) ∧ Below w.heap.size w w' := by
  cases h : vB k a with
  | true =>
    exact (vd_true k a w (vB_true h)).mono fun e w' ⟨he, hw⟩ => ⟨he, by rw [hw]; exact bA (Below.refl _ _) _⟩
  | false =>
    rcases vB_false h with h | ⟨h1, h2, h3, h4⟩
    · exact vd_b k a w h
    · exact vdf k a w h1 h2 h3 h4
def wd (k : Int) : List UInt8 := if k = 1 then W1 else if k = 2 then W2 else if k = 3 then W3 else if k = 4 then W4 else if k = 5 then W5 else W6
/-- the text of a deed -/
def dtX (k a : Int) : List UInt8 := if vB k a = true then (if k ≤ 4 then wd k ++ 32 :: Lib.decDigits a.toNat else wd k) else []
theorem bS_line (l : List UInt8) (n : Nat) : (bS l ++ (sp ++ decB n)) = bS (l ++ 32 :: Lib.decDigits n) := by
  apply ByteArray.ext
  apply Array.ext'
  simp [bS, sp, decB]
theorem dtx_calls (k a : Int) (w : World) (ht : TabOk w) : Calls Tryd.prog 26 #[.agg #[.int .i64 k, .int .i64 a]] w fun e w' => e = .returned (.string (bS (dtX k a))) ∧ Below w.heap.size w w' := by
  cases h : vB k a with
  | false =>
    rw [show dtX k a = [] by rw [dtX, if_neg (by rw [h]; decide)]]
    rcases vB_false h with (h | ⟨h1, h⟩ | ⟨h1, h2, h⟩ | ⟨h1, h2, h3, h⟩) | ⟨h1, h2, h3, h4⟩
    · exact impl_b1 k a w h
    · exact impl_b2 k a w h1 h
    · exact impl_b3 k a w h1 h2 h
    · exact impl_b4 k a w h1 h2 h3 h
    · exact impl_b5 k a w h1 h2 h3 h4
  | true =>
    have q := vB_true h
    rcases (show k = 1 ∨ k = 2 ∨ k = 3 ∨ k = 4 ∨ k = 5 ∨ k = 6 by omega) with rfl | rfl | rfl | rfl | rfl | rfl
    · rw [show dtX 1 a = W1 ++ 32 :: Lib.decDigits a.toNat by rw [dtX, if_pos h]; rfl, ← bS_line]
      exact impl_1 a w q.2.2.1 q.2.2.2.1 ht
    · rw [show dtX 2 a = W2 ++ 32 :: Lib.decDigits a.toNat by rw [dtX, if_pos h]; rfl, ← bS_line]
      exact impl_2 a w q.2.2.1 q.2.2.2.1 ht
    · rw [show dtX 3 a = W3 ++ 32 :: Lib.decDigits a.toNat by rw [dtX, if_pos h]; rfl, ← bS_line]
      exact impl_3 a w q.2.2.1 q.2.2.2.1 ht
    · rw [show dtX 4 a = W4 ++ 32 :: Lib.decDigits a.toNat by rw [dtX, if_pos h]; rfl, ← bS_line]
      exact impl_4 a w q.2.2.1 q.2.2.2.1 ht
    · obtain rfl : a = 0 := by omega
      rw [show dtX 5 0 = W5 by rw [dtX, if_pos h]; rfl]
      exact impl_5 w ht
    · obtain rfl : a = 0 := by omega
      rw [show dtX 6 0 = W6 by rw [dtX, if_pos h]; rfl]
      exact impl_6 w ht
theorem below_dN {B : Nat} {a w : World} (h : Below B a w) (k : Nat) : Below B a (w.drewN k) := ⟨h.os, h.tape, h.output, h.size, h.block⟩
def PiM (n : Int) (w : World) (e : Ending) (w' : World) : Prop := ∃ ev, e = .returned (.tuple #[.int .i64 n, ev]) ∧ Below w.heap.size w w'
def CuQ (X Y : ByteArray) (w : World) (e : Ending) (w' : World) : Prop := ∃ b n, e = .returned (.tuple #[.string X, .string Y, .bool b]) ∧ w' = w.drewN n
def zsW : List ByteArray := [⟨#[]⟩, ⟨#[97, 115, 107]⟩, ⟨#[100, 101, 108, 105, 118, 101, 114]⟩, ⟨#[99, 111, 112, 121]⟩, ⟨#[100, 114, 111, 112]⟩, ⟨#[115, 97, 118, 101]⟩, ⟨#[99, 114, 97, 115, 104]⟩]
theorem idx_calls {x : ByteArray} {K : Int} (hK : Lib.idxOfS zsW x = K) (b : Nat) (w : World) (h : w.heap[b]? = some (.cells wordsA 9 (0, 0))) : Calls Tryd.prog 23 #[.slice (some ⟨b, 0, none⟩) 7 7, .string x] w fun e w' => e = .returned (.int .i64 K) ∧ w' = w := by
  have := Tryd.slices_Index_string b 0 7 7 zsW x w (by decide) (by decide) (fun j hj => by
    rw [Nat.zero_add, cell_of_row w b j wordsA 9 (0, 0) h]
    match j, hj with
    | 0, _ | 1, _ | 2, _ | 3, _ | 4, _ | 5, _ | 6, _ => rfl
    | k + 7, h => exact absurd h (by simp [zsW]))
  exact this.mono fun e w' ⟨he, hw⟩ => ⟨by rw [he, List.take_of_length_le (by decide), hK], hw⟩
set_option maxHeartbeats 4000000 in
set_option maxRecDepth 100000 in
theorem yv (s X Y : ByteArray) (K n : Int) (w : World) (he : EnvOk w) (HC : Hid (∀ w, EnvOk w → Calls Tryd.prog 21 #[.string s, .string ⟨#[32]⟩] w (CuQ X Y w))) (HP : Hid (∀ w, EnvOk w → Calls Tryd.prog 22 #[.string Y, .int .i64 10, .int .i64 64] w (PiM n w))) (HK : Hid (Lib.idxOfS zsW X = K))
    (HV : Hid (∀ w, Calls Tryd.prog 25 #[.agg #[.int .i64 K, .int .i64 n]] w fun e w' => e = .returned (.bool false) ∧ Below w.heap.size w w')) (HR : Hid (wV (bL s) = .tuple #[.agg #[.int .i64 0, .int .i64 0], .int .i64 5])) : Calls Tryd.prog 7 #[.string s] w (WdQ s w) := by
  have he1 : EnvOk (w.alloc (.cells #[.int .i64 0, .int .i64 0] 23)) := env_below he (bA (Below.refl _ _) _)
  go_enter Tryd.func7, Tryd.ntmps7
  go_wp2_with (first | (go_at_call 21; refine (HC.out _ he1).mono ?_; rintro e w1 ⟨b, m, rfl, hw⟩; subst hw) | (go_at_call 22; refine (HP.out _ (env_below he (below_dN (bA (Below.refl _ _) _) _))).mono ?_; rintro e w2 ⟨ev, rfl, hb⟩; have q0 : w2.cell? ⟨w.heap.size, 0, none⟩ = some (.int .i64 0) := (hb.cell (p := ⟨w.heap.size, 0, none⟩) (by first | (simp; done) | (simp; omega))).trans (by simp); have f0 : w2.frozen? ⟨w.heap.size, 0, none⟩ = false := (hb.frozen (p := ⟨w.heap.size, 0, none⟩) (by first | (simp; done) | (simp; omega))).trans (World.frozen?_alloc_at _ _ _ _ rfl); have q1 : w2.cell? ⟨w.heap.size, 1, none⟩ = some (.int .i64 0) := (hb.cell (p := ⟨w.heap.size, 1, none⟩) (by first | (simp; done) | (simp; omega))).trans (by simp); have f1 : w2.frozen? ⟨w.heap.size, 1, none⟩ = false := (hb.frozen (p := ⟨w.heap.size, 1, none⟩) (by first | (simp; done) | (simp; omega))).trans (World.frozen?_alloc_at _ _ _ _ rfl); have hW : Below w.heap.size w w2 := Below.trans (below_dN (bA (Below.refl _ _) _) _) (hb.mono (by first | (simp; done) | (simp; omega))); have hsz : w.heap.size < w2.heap.size := Nat.lt_of_lt_of_le (by simp) hb.size; clear hb) | (go_at_call 24; refine (words_calls _).mono ?_; rintro e w3 ⟨rfl, hw⟩; subst hw) | (go_at_call 23; refine (idx_calls HK.out _ _ (by first | exact heap_alloc_new _ _ | exact (Below.heap_alloc _ _ _ (by simp)).trans (heap_alloc_new _ _))).mono ?_; rintro e w3 ⟨rfl, hw⟩; subst hw) | (go_at_call 25; refine (HV.out _).mono ?_; rintro e w4 ⟨rfl, hb4⟩; have b4 : Below w2.heap.size w2 w4 := Below.trans (bA (bA (Below.refl _ _) _) _) (hb4.mono (by first | (simp; done) | (simp; omega))); have q0' : w4.cell? ⟨w.heap.size, 0, none⟩ = some (.int .i64 0) := (b4.cell (p := ⟨w.heap.size, 0, none⟩) hsz).trans q0; have f0' : w4.frozen? ⟨w.heap.size, 0, none⟩ = false := (b4.frozen (p := ⟨w.heap.size, 0, none⟩) hsz).trans f0; have q1' : w4.cell? ⟨w.heap.size, 1, none⟩ = some (.int .i64 0) := (b4.cell (p := ⟨w.heap.size, 1, none⟩) hsz).trans q1; have f1' : w4.frozen? ⟨w.heap.size, 1, none⟩ = false := (b4.frozen (p := ⟨w.heap.size, 1, none⟩) hsz).trans f1; have e0 : w4.cell? ⟨w2.heap.size + 1, 0, none⟩ = some (.int .i64 K) := (hb4.cell (p := ⟨w2.heap.size + 1, 0, none⟩) (by first | (simp; done) | (simp; omega))).trans (by simp); have e1 : w4.cell? ⟨w2.heap.size + 1, 1, none⟩ = some (.int .i64 n) := (hb4.cell (p := ⟨w2.heap.size + 1, 1, none⟩) (by first | (simp; done) | (simp; omega))).trans (by simp); have hs4 : w.heap.size < w4.heap.size := Nat.lt_of_lt_of_le hsz b4.size; have hd4 : w2.heap.size + 1 < w4.heap.size := Nat.lt_of_lt_of_le (by simp) hb4.size; have hW4 : Below w.heap.size w w4 := hW.trans (b4.mono hW.size); clear hb4 b4 hW q0 q1 f0 f1))
  exact bodyPost_ret (v := .tuple #[.agg #[.int .i64 0, .int .i64 0], .int .i64 5]) (by simp [results, Tryd.results7, go_sem, q0', q1']) rfl ⟨congrArg Ending.returned HR.out.symm, by repeat (first | (with_reducible exact hW4) | (with_reducible apply below_dN) | (with_reducible refine Below.setCell ?_ (by first | exact Nat.le_refl _ | exact Nat.le_of_lt (by assumption)) _) | (with_reducible refine Below.alloc ?_ (by exact Nat.le_of_lt (by assumption)) _))⟩
set_option maxHeartbeats 4000000 in
set_option maxRecDepth 100000 in
theorem yn (s X Y T : ByteArray) (K n : Int) (w : World) (he : EnvOk w) (HC : Hid (∀ w, EnvOk w → Calls Tryd.prog 21 #[.string s, .string ⟨#[32]⟩] w (CuQ X Y w))) (HP : Hid (∀ w, EnvOk w → Calls Tryd.prog 22 #[.string Y, .int .i64 10, .int .i64 64] w (PiM n w))) (HK : Hid (Lib.idxOfS zsW X = K))
    (HV : Hid (∀ w, Calls Tryd.prog 25 #[.agg #[.int .i64 K, .int .i64 n]] w fun e w' => e = .returned (.bool true) ∧ Below w.heap.size w w')) (HT : Hid (∀ w, TabOk w → Calls Tryd.prog 26 #[.agg #[.int .i64 K, .int .i64 n]] w fun e w' => e = .returned (.string T) ∧ Below w.heap.size w w')) (hq : (!T.toList == s.toList) = true) (HR : Hid (wV (bL s) = .tuple #[.agg #[.int .i64 0, .int .i64 0], .int .i64 5])) : Calls Tryd.prog 7 #[.string s] w (WdQ s w) := by
  have he1 : EnvOk (w.alloc (.cells #[.int .i64 0, .int .i64 0] 23)) := env_below he (bA (Below.refl _ _) _)
  go_enter Tryd.func7, Tryd.ntmps7
  go_wp2_with (first | (go_at_call 21; refine (HC.out _ he1).mono ?_; rintro e w1 ⟨b, m, rfl, hw⟩; subst hw) | (go_at_call 22; refine (HP.out _ (env_below he (below_dN (bA (Below.refl _ _) _) _))).mono ?_; rintro e w2 ⟨ev, rfl, hb⟩; have q0 : w2.cell? ⟨w.heap.size, 0, none⟩ = some (.int .i64 0) := (hb.cell (p := ⟨w.heap.size, 0, none⟩) (by first | (simp; done) | (simp; omega))).trans (by simp); have f0 : w2.frozen? ⟨w.heap.size, 0, none⟩ = false := (hb.frozen (p := ⟨w.heap.size, 0, none⟩) (by first | (simp; done) | (simp; omega))).trans (World.frozen?_alloc_at _ _ _ _ rfl); have q1 : w2.cell? ⟨w.heap.size, 1, none⟩ = some (.int .i64 0) := (hb.cell (p := ⟨w.heap.size, 1, none⟩) (by first | (simp; done) | (simp; omega))).trans (by simp); have f1 : w2.frozen? ⟨w.heap.size, 1, none⟩ = false := (hb.frozen (p := ⟨w.heap.size, 1, none⟩) (by first | (simp; done) | (simp; omega))).trans (World.frozen?_alloc_at _ _ _ _ rfl); have hW : Below w.heap.size w w2 := Below.trans (below_dN (bA (Below.refl _ _) _) _) (hb.mono (by first | (simp; done) | (simp; omega))); have hsz : w.heap.size < w2.heap.size := Nat.lt_of_lt_of_le (by simp) hb.size; clear hb) | (go_at_call 24; refine (words_calls _).mono ?_; rintro e w3 ⟨rfl, hw⟩; subst hw) | (go_at_call 23; refine (idx_calls HK.out _ _ (by first | exact heap_alloc_new _ _ | exact (Below.heap_alloc _ _ _ (by simp)).trans (heap_alloc_new _ _))).mono ?_; rintro e w3 ⟨rfl, hw⟩; subst hw) | (go_at_call 25; refine (HV.out _).mono ?_; rintro e w4 ⟨rfl, hb4⟩; have b4 : Below w2.heap.size w2 w4 := Below.trans (bA (bA (Below.refl _ _) _) _) (hb4.mono (by first | (simp; done) | (simp; omega))); have q0' : w4.cell? ⟨w.heap.size, 0, none⟩ = some (.int .i64 0) := (b4.cell (p := ⟨w.heap.size, 0, none⟩) hsz).trans q0; have f0' : w4.frozen? ⟨w.heap.size, 0, none⟩ = false := (b4.frozen (p := ⟨w.heap.size, 0, none⟩) hsz).trans f0; have q1' : w4.cell? ⟨w.heap.size, 1, none⟩ = some (.int .i64 0) := (b4.cell (p := ⟨w.heap.size, 1, none⟩) hsz).trans q1; have f1' : w4.frozen? ⟨w.heap.size, 1, none⟩ = false := (b4.frozen (p := ⟨w.heap.size, 1, none⟩) hsz).trans f1; have e0 : w4.cell? ⟨w2.heap.size + 1, 0, none⟩ = some (.int .i64 K) := (hb4.cell (p := ⟨w2.heap.size + 1, 0, none⟩) (by first | (simp; done) | (simp; omega))).trans (by simp); have e1 : w4.cell? ⟨w2.heap.size + 1, 1, none⟩ = some (.int .i64 n) := (hb4.cell (p := ⟨w2.heap.size + 1, 1, none⟩) (by first | (simp; done) | (simp; omega))).trans (by simp); have hs4 : w.heap.size < w4.heap.size := Nat.lt_of_lt_of_le hsz b4.size; have hd4 : w2.heap.size + 1 < w4.heap.size := Nat.lt_of_lt_of_le (by simp) hb4.size; have hW4 : Below w.heap.size w w4 := hW.trans (b4.mono hW.size); clear hb4 b4 hW q0 q1 f0 f1) | (go_at_call 26; refine (HT.out _ (env_below he hW4).1).mono ?_; rintro e w5 ⟨rfl, hb5⟩; have q0 : w5.cell? ⟨w.heap.size, 0, none⟩ = some (.int .i64 0) := (hb5.cell (p := ⟨w.heap.size, 0, none⟩) hs4).trans q0'; have f0 : w5.frozen? ⟨w.heap.size, 0, none⟩ = false := (hb5.frozen (p := ⟨w.heap.size, 0, none⟩) hs4).trans f0'; have q1 : w5.cell? ⟨w.heap.size, 1, none⟩ = some (.int .i64 0) := (hb5.cell (p := ⟨w.heap.size, 1, none⟩) hs4).trans q1'; have f1 : w5.frozen? ⟨w.heap.size, 1, none⟩ = false := (hb5.frozen (p := ⟨w.heap.size, 1, none⟩) hs4).trans f1'; have d0 : w5.cell? ⟨w2.heap.size + 1, 0, none⟩ = some (.int .i64 K) := (hb5.cell (p := ⟨w2.heap.size + 1, 0, none⟩) hd4).trans e0; have d1 : w5.cell? ⟨w2.heap.size + 1, 1, none⟩ = some (.int .i64 n) := (hb5.cell (p := ⟨w2.heap.size + 1, 1, none⟩) hd4).trans e1; have hs5 : w.heap.size < w5.heap.size := Nat.lt_of_lt_of_le hs4 hb5.size; have hW5 : Below w.heap.size w w5 := hW4.trans (hb5.mono hW4.size); clear hb5 e0 e1))
  exact bodyPost_ret (v := .tuple #[.agg #[.int .i64 0, .int .i64 0], .int .i64 5]) (by simp [results, Tryd.results7, go_sem, q0, q1]) rfl ⟨congrArg Ending.returned HR.out.symm, by repeat (first | (with_reducible exact hW5) | (with_reducible apply below_dN) | (with_reducible refine Below.setCell ?_ (by first | exact Nat.le_refl _ | exact Nat.le_of_lt (by assumption)) _) | (with_reducible refine Below.alloc ?_ (by exact Nat.le_of_lt (by assumption)) _))⟩
set_option maxHeartbeats 4000000 in
set_option maxRecDepth 100000 in
theorem yk (s X Y T : ByteArray) (K n : Int) (w : World) (he : EnvOk w) (HC : Hid (∀ w, EnvOk w → Calls Tryd.prog 21 #[.string s, .string ⟨#[32]⟩] w (CuQ X Y w))) (HP : Hid (∀ w, EnvOk w → Calls Tryd.prog 22 #[.string Y, .int .i64 10, .int .i64 64] w (PiM n w))) (HK : Hid (Lib.idxOfS zsW X = K))
    (HV : Hid (∀ w, Calls Tryd.prog 25 #[.agg #[.int .i64 K, .int .i64 n]] w fun e w' => e = .returned (.bool true) ∧ Below w.heap.size w w')) (HT : Hid (∀ w, TabOk w → Calls Tryd.prog 26 #[.agg #[.int .i64 K, .int .i64 n]] w fun e w' => e = .returned (.string T) ∧ Below w.heap.size w w')) (hq : s = T) (HR : Hid (wV (bL s) = .tuple #[.agg #[.int .i64 K, .int .i64 n], .int .i64 0])) : Calls Tryd.prog 7 #[.string s] w (WdQ s w) := by
  have he1 : EnvOk (w.alloc (.cells #[.int .i64 0, .int .i64 0] 23)) := env_below he (bA (Below.refl _ _) _)
  go_enter Tryd.func7, Tryd.ntmps7
  subst hq
  go_wp2_with (first | (go_at_call 21; refine (HC.out _ he1).mono ?_; rintro e w1 ⟨b, m, rfl, hw⟩; subst hw) | (go_at_call 22; refine (HP.out _ (env_below he (below_dN (bA (Below.refl _ _) _) _))).mono ?_; rintro e w2 ⟨ev, rfl, hb⟩; have q0 : w2.cell? ⟨w.heap.size, 0, none⟩ = some (.int .i64 0) := (hb.cell (p := ⟨w.heap.size, 0, none⟩) (by first | (simp; done) | (simp; omega))).trans (by simp); have f0 : w2.frozen? ⟨w.heap.size, 0, none⟩ = false := (hb.frozen (p := ⟨w.heap.size, 0, none⟩) (by first | (simp; done) | (simp; omega))).trans (World.frozen?_alloc_at _ _ _ _ rfl); have q1 : w2.cell? ⟨w.heap.size, 1, none⟩ = some (.int .i64 0) := (hb.cell (p := ⟨w.heap.size, 1, none⟩) (by first | (simp; done) | (simp; omega))).trans (by simp); have f1 : w2.frozen? ⟨w.heap.size, 1, none⟩ = false := (hb.frozen (p := ⟨w.heap.size, 1, none⟩) (by first | (simp; done) | (simp; omega))).trans (World.frozen?_alloc_at _ _ _ _ rfl); have hW : Below w.heap.size w w2 := Below.trans (below_dN (bA (Below.refl _ _) _) _) (hb.mono (by first | (simp; done) | (simp; omega))); have hsz : w.heap.size < w2.heap.size := Nat.lt_of_lt_of_le (by simp) hb.size; clear hb) | (go_at_call 24; refine (words_calls _).mono ?_; rintro e w3 ⟨rfl, hw⟩; subst hw) | (go_at_call 23; refine (idx_calls HK.out _ _ (by first | exact heap_alloc_new _ _ | exact (Below.heap_alloc _ _ _ (by simp)).trans (heap_alloc_new _ _))).mono ?_; rintro e w3 ⟨rfl, hw⟩; subst hw) | (go_at_call 25; refine (HV.out _).mono ?_; rintro e w4 ⟨rfl, hb4⟩; have b4 : Below w2.heap.size w2 w4 := Below.trans (bA (bA (Below.refl _ _) _) _) (hb4.mono (by first | (simp; done) | (simp; omega))); have q0' : w4.cell? ⟨w.heap.size, 0, none⟩ = some (.int .i64 0) := (b4.cell (p := ⟨w.heap.size, 0, none⟩) hsz).trans q0; have f0' : w4.frozen? ⟨w.heap.size, 0, none⟩ = false := (b4.frozen (p := ⟨w.heap.size, 0, none⟩) hsz).trans f0; have q1' : w4.cell? ⟨w.heap.size, 1, none⟩ = some (.int .i64 0) := (b4.cell (p := ⟨w.heap.size, 1, none⟩) hsz).trans q1; have f1' : w4.frozen? ⟨w.heap.size, 1, none⟩ = false := (b4.frozen (p := ⟨w.heap.size, 1, none⟩) hsz).trans f1; have e0 : w4.cell? ⟨w2.heap.size + 1, 0, none⟩ = some (.int .i64 K) := (hb4.cell (p := ⟨w2.heap.size + 1, 0, none⟩) (by first | (simp; done) | (simp; omega))).trans (by simp); have e1 : w4.cell? ⟨w2.heap.size + 1, 1, none⟩ = some (.int .i64 n) := (hb4.cell (p := ⟨w2.heap.size + 1, 1, none⟩) (by first | (simp; done) | (simp; omega))).trans (by simp); have hs4 : w.heap.size < w4.heap.size := Nat.lt_of_lt_of_le hsz b4.size; have hd4 : w2.heap.size + 1 < w4.heap.size := Nat.lt_of_lt_of_le (by simp) hb4.size; have hW4 : Below w.heap.size w w4 := hW.trans (b4.mono hW.size); clear hb4 b4 hW q0 q1 f0 f1) | (go_at_call 26; refine (HT.out _ (env_below he hW4).1).mono ?_; rintro e w5 ⟨rfl, hb5⟩; have q0 : w5.cell? ⟨w.heap.size, 0, none⟩ = some (.int .i64 0) := (hb5.cell (p := ⟨w.heap.size, 0, none⟩) hs4).trans q0'; have f0 : w5.frozen? ⟨w.heap.size, 0, none⟩ = false := (hb5.frozen (p := ⟨w.heap.size, 0, none⟩) hs4).trans f0'; have q1 : w5.cell? ⟨w.heap.size, 1, none⟩ = some (.int .i64 0) := (hb5.cell (p := ⟨w.heap.size, 1, none⟩) hs4).trans q1'; have f1 : w5.frozen? ⟨w.heap.size, 1, none⟩ = false := (hb5.frozen (p := ⟨w.heap.size, 1, none⟩) hs4).trans f1'; have d0 : w5.cell? ⟨w2.heap.size + 1, 0, none⟩ = some (.int .i64 K) := (hb5.cell (p := ⟨w2.heap.size + 1, 0, none⟩) hd4).trans e0; have d1 : w5.cell? ⟨w2.heap.size + 1, 1, none⟩ = some (.int .i64 n) := (hb5.cell (p := ⟨w2.heap.size + 1, 1, none⟩) hd4).trans e1; have hs5 : w.heap.size < w5.heap.size := Nat.lt_of_lt_of_le hs4 hb5.size; have hW5 : Below w.heap.size w w5 := hW4.trans (hb5.mono hW4.size); clear hb5 e0 e1))
  exact bodyPost_ret (v := .tuple #[.agg #[.int .i64 K, .int .i64 n], .int .i64 0]) (by simp [results, Tryd.results7, go_sem, q0, q1]) rfl ⟨congrArg Ending.returned HR.out.symm, by repeat (first | (with_reducible exact hW5) | (with_reducible apply below_dN) | (with_reducible refine Below.setCell ?_ (by first | exact Nat.le_refl _ | exact Nat.le_of_lt (by assumption)) _) | (with_reducible refine Below.alloc ?_ (by exact Nat.le_of_lt (by assumption)) _))⟩
end Tx
end Go.Proofs.YtjbbljlefmgieaaDoor
end
