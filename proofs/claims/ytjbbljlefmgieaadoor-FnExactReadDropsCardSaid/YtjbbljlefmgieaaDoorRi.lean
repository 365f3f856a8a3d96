/-
  Drops read from their text, by the program. No condition but that the text has at most 2^20 bytes and what some package-level variables hold.
-/
import Derived.Test.YtjbbljlefmgieaaDoorMb
import Derived.Test.YtjbbljlefmgieaaDoorPi
import Derived.Test.YtjbbljlefmgieaaDoorUc
noncomputable section
namespace Go.Proofs.YtjbbljlefmgieaaDoor
namespace Tx
open Go Go.RowKit
theorem bS_six (x0 x1 x2 x3 x4 x5 : Nat) : (((((((((decB x0 ++ ⟨#[45]⟩) ++ decB x1) ++ ⟨#[45]⟩) ++ decB x2) ++ ⟨#[45]⟩) ++ decB x3) ++ ⟨#[45]⟩) ++ decB x4) ++ ⟨#[45]⟩) ++ decB x5 = bS (jn6 45 (Lib.decDigits x0) (Lib.decDigits x1) (Lib.decDigits x2) (Lib.decDigits x3) (Lib.decDigits x4) (Lib.decDigits x5)) := by
  apply ByteArray.ext
  apply Array.ext'
  simp [decB, bS, jn6]
theorem in_no {d : Int} (h : d < 0 ∨ 1000 < d) : inD d = false := by
  unfold inD
  rcases h with h | h
  · rw [decide_eq_false (show ¬ 0 ≤ d by omega)]
    rfl
  · rw [decide_eq_false (show ¬ d ≤ 1000 by omega), Bool.and_false]
theorem in_yes {d : Int} (h0 : 0 ≤ d) (h1 : d ≤ 1000) : inD d = true := by
  unfold inD
  rw [decide_eq_true h0, decide_eq_true h1]
  rfl
theorem dt_calls (d0 d1 d2 d3 d4 d5 : Int) (w : World) (ht : TabOk w) : Calls Tryd.prog 28 #[.agg #[.int .i16 d0, .int .i16 d1, .int .i16 d2, .int .i16 d3, .int .i16 d4, .int .i16 d5]] w fun e w' => e = .returned (.string (bS (dtL d0 d1 d2 d3 d4 d5))) ∧ Below w.heap.size w w' := by
  by_cases a0 : d0 < 0
  · have e0 : dtL d0 d1 d2 d3 d4 d5 = [] := by
      unfold dtL
      rw [in_no (d := d0) (by omega)]
      simp
    rw [e0]
    exact im_0l d0 d1 d2 d3 d4 d5 w  a0
  by_cases b0 : 1000 < d0
  · have e0 : dtL d0 d1 d2 d3 d4 d5 = [] := by
      unfold dtL
      rw [in_no (d := d0) (by omega)]
      simp
    rw [e0]
    exact im_0h d0 d1 d2 d3 d4 d5 w  (by omega) b0
  by_cases a1 : d1 < 0
  · have e0 : dtL d0 d1 d2 d3 d4 d5 = [] := by
      unfold dtL
      rw [in_no (d := d1) (by omega), in_yes (d := d0) (by omega) (by omega)]
      simp
    rw [e0]
    exact im_1l d0 d1 d2 d3 d4 d5 w (by omega) (by omega) a1
  by_cases b1 : 1000 < d1
  · have e0 : dtL d0 d1 d2 d3 d4 d5 = [] := by
      unfold dtL
      rw [in_no (d := d1) (by omega), in_yes (d := d0) (by omega) (by omega)]
      simp
    rw [e0]
    exact im_1h d0 d1 d2 d3 d4 d5 w (by omega) (by omega) (by omega) b1
  by_cases a2 : d2 < 0
  · have e0 : dtL d0 d1 d2 d3 d4 d5 = [] := by
      unfold dtL
      rw [in_no (d := d2) (by omega), in_yes (d := d0) (by omega) (by omega), in_yes (d := d1) (by omega) (by omega)]
      simp
    rw [e0]
    exact im_2l d0 d1 d2 d3 d4 d5 w (by omega) (by omega) (by omega) (by omega) a2
  by_cases b2 : 1000 < d2
  · have e0 : dtL d0 d1 d2 d3 d4 d5 = [] := by
      unfold dtL
      rw [in_no (d := d2) (by omega), in_yes (d := d0) (by omega) (by omega), in_yes (d := d1) (by omega) (by omega)]
      simp
    rw [e0]
    exact im_2h d0 d1 d2 d3 d4 d5 w (by omega) (by omega) (by omega) (by omega) (by omega) b2
  by_cases a3 : d3 < 0
  · have e0 : dtL d0 d1 d2 d3 d4 d5 = [] := by
      unfold dtL
      rw [in_no (d := d3) (by omega), in_yes (d := d0) (by omega) (by omega), in_yes (d := d1) (by omega) (by omega), in_yes (d := d2) (by omega) (by omega)]
      simp
    rw [e0]
    exact im_3l d0 d1 d2 d3 d4 d5 w (by omega) (by omega) (by omega) (by omega) (by omega) (by omega) a3
  by_cases b3 : 1000 < d3
  · have e0 : dtL d0 d1 d2 d3 d4 d5 = [] := by
      unfold dtL
      rw [in_no (d := d3) (by omega), in_yes (d := d0) (by omega) (by omega), in_yes (d := d1) (by omega) (by omega), in_yes (d := d2) (by omega) (by omega)]
      simp
    rw [e0]
    exact im_3h d0 d1 d2 d3 d4 d5 w (by omega) (by omega) (by omega) (by omega) (by omega) (by omega) (by omega) b3
  by_cases a4 : d4 < 0
  · have e0 : dtL d0 d1 d2 d3 d4 d5 = [] := by
      unfold dtL
      rw [in_no (d := d4) (by omega), in_yes (d := d0) (by omega) (by omega), in_yes (d := d1) (by omega) (by omega), in_yes (d := d2) (by omega) (by omega), in_yes (d := d3) (by omega) (by omega)]
      simp
    rw [e0]
    exact im_4l d0 d1 d2 d3 d4 d5 w (by omega) (by omega) (by omega) (by omega) (by omega) (by omega) (by omega) (by omega) a4
  by_cases b4 : 1000 < d4
  · have e0 : dtL d0 d1 d2 d3 d4 d5 = [] := by
      unfold dtL
      rw [in_no (d := d4) (by omega), in_yes (d := d0) (by omega) (by omega), in_yes (d := d1) (by omega) (by omega), in_yes (d := d2) (by omega) (by omega), in_yes (d := d3) (by omega) (by omega)]
      simp
    rw [e0]
    exact im_4h d0 d1 d2 d3 d4 d5 w (by omega) (by omega) (by omega) (by omega) (by omega) (by omega) (by omega) (by omega) (by omega) b4
  by_cases a5 : d5 < 0
  · have e0 : dtL d0 d1 d2 d3 d4 d5 = [] := by
      unfold dtL
      rw [in_no (d := d5) (by omega), in_yes (d := d0) (by omega) (by omega), in_yes (d := d1) (by omega) (by omega), in_yes (d := d2) (by omega) (by omega), in_yes (d := d3) (by omega) (by omega), in_yes (d := d4) (by omega) (by omega)]
      simp
    rw [e0]
    exact im_5l d0 d1 d2 d3 d4 d5 w (by omega) (by omega) (by omega) (by omega) (by omega) (by omega) (by omega) (by omega) (by omega) (by omega) a5
  by_cases b5 : 1000 < d5
  · have e0 : dtL d0 d1 d2 d3 d4 d5 = [] := by
      unfold dtL
      rw [in_no (d := d5) (by omega), in_yes (d := d0) (by omega) (by omega), in_yes (d := d1) (by omega) (by omega), in_yes (d := d2) (by omega) (by omega), in_yes (d := d3) (by omega) (by omega), in_yes (d := d4) (by omega) (by omega)]
      simp
    rw [e0]
    exact im_5h d0 d1 d2 d3 d4 d5 w (by omega) (by omega) (by omega) (by omega) (by omega) (by omega) (by omega) (by omega) (by omega) (by omega) (by omega) b5
  have e0 : dtL d0 d1 d2 d3 d4 d5 = jn6 45 (Lib.decDigits d0.toNat) (Lib.decDigits d1.toNat) (Lib.decDigits d2.toNat) (Lib.decDigits d3.toNat) (Lib.decDigits d4.toNat) (Lib.decDigits d5.toNat) := by
    unfold dtL
    rw [in_yes (d := d0) (by omega) (by omega), in_yes (d := d1) (by omega) (by omega), in_yes (d := d2) (by omega) (by omega), in_yes (d := d3) (by omega) (by omega), in_yes (d := d4) (by omega) (by omega), in_yes (d := d5) (by omega) (by omega)]
    rfl
  rw [e0, ← bS_six]
  exact im_ok d0 d1 d2 d3 d4 d5 w (by omega) (by omega) (by omega) (by omega) (by omega) (by omega) (by omega) (by omega) (by omega) (by omega) (by omega) (by omega) ht
/-- what the program's reading of six pieces knows: the pieces, the result's cells, the drops so far -/
def Di (w : World) (g : Nat) (p : Nat → List UInt8) (v : Nat → Value) (W : World) : Prop :=
  (∀ j, j < 6 → W.cell? ⟨g, j, none⟩ = some (.string (bS (p j)))) ∧ (∀ j, j < 6 → W.cell? ⟨w.heap.size, j, none⟩ = some (.int .i16 0)) ∧ (∀ j, j < 6 → W.frozen? ⟨w.heap.size, j, none⟩ = false) ∧
    (∀ j, j < 6 → W.cell? ⟨w.heap.size + 1, j, none⟩ = some (v j)) ∧ (∀ j, j < 6 → W.frozen? ⟨w.heap.size + 1, j, none⟩ = false) ∧ w.heap.size + 2 ≤ g ∧ g < W.heap.size ∧ Below w.heap.size w W
theorem di_below {w : World} {g : Nat} {p : Nat → List UInt8} {v : Nat → Value} {W W' : World} (h : Di w g p v W) (hb : Below W.heap.size W W') : Di w g p v W' := by
  obtain ⟨h1, h2, h3, h4, h5, h6, h7, h8⟩ := h
  exact ⟨fun j hj => (hb.cell (p := ⟨g, j, none⟩) h7).trans (h1 j hj), fun j hj => (hb.cell (p := ⟨w.heap.size, j, none⟩) (show w.heap.size < _ by omega)).trans (h2 j hj), fun j hj => (hb.frozen (p := ⟨w.heap.size, j, none⟩) (show w.heap.size < _ by omega)).trans (h3 j hj),
    fun j hj => (hb.cell (p := ⟨w.heap.size + 1, j, none⟩) (show w.heap.size + 1 < _ by omega)).trans (h4 j hj), fun j hj => (hb.frozen (p := ⟨w.heap.size + 1, j, none⟩) (show w.heap.size + 1 < _ by omega)).trans (h5 j hj), h6, Nat.lt_of_lt_of_le h7 hb.size, h8.trans (hb.mono h8.size)⟩
theorem di_set {w : World} {g : Nat} {p : Nat → List UInt8} {v : Nat → Value} {W : World} (h : Di w g p v W) (k : Nat) (x : Value) : Di w g p (fun j => if j = k then x else v j) (W.setCell ⟨w.heap.size + 1, k, none⟩ x) := by
  obtain ⟨h1, h2, h3, h4, h5, h6, h7, h8⟩ := h
  refine ⟨fun j hj => ?_, fun j hj => ?_, fun j hj => ?_, fun j hj => ?_, fun j hj => ?_, h6, by simpa using h7, h8.setCell (Nat.le_succ _) _⟩
  · rw [World.cell?_setCell_other _ _ _ _ (by first | (simp; done) | (simp; omega))]
    exact h1 j hj
  · rw [World.cell?_setCell_other _ _ _ _ (by first | (simp; done) | (simp; omega))]
    exact h2 j hj
  · rw [World.frozen?_setCell]
    exact h3 j hj
  · by_cases e : j = k
    · subst e
      show _ = some (if j = j then x else v j)
      rw [if_pos rfl, World.cell?_setCell_same _ _ _ (h4 j hj)]
    · show _ = some (if j = k then x else v j)
      rw [if_neg e, World.cell?_setCell_other _ _ _ _ (fun q => e (congrArg Addr.off q).symm)]
      exact h4 j hj
  · rw [World.frozen?_setCell]
    exact h5 j hj
/-- the pieces of strings.SplitN where there are six -/
theorem sn_six (s : ByteArray) (hs : s.size ≤ 1048576) {p : Nat → List UInt8} (hp : pieces 45 (bL s) = [p 0, p 1, p 2, p 3, p 4, p 5]) (w : World) (h : EnvOk w) : Calls Tryd.prog 27 #[.string s, .string ⟨#[45]⟩, .int .i64 7] w fun e w' =>
    ∃ g cap, e = .returned (.slice (some ⟨g, 0, none⟩) 6 cap) ∧ w.heap.size ≤ g ∧ g < w'.heap.size ∧ 6 ≤ cap ∧ (∀ j, j < 6 → w'.cell? ⟨g, j, none⟩ = some (.string (bS (p j)))) ∧ Below w.heap.size w w' :=
  (splitn_calls s 45 7 (by decide) (by decide) hs w h).mono fun e w' ⟨PP, ⟨g, cap, he, h1, h2, h3, h4, h5⟩, hA, _⟩ => by
    obtain rfl := hA (by rw [hp]; show 6 < 7; decide)
    rw [hp] at he h3 h4
    refine ⟨g, cap, he, h1, h2, h3, fun j hj => h4 j _ ?_, h5⟩
    match j, hj with
    | 0, _ | 1, _ | 2, _ | 3, _ | 4, _ | 5, _ => rfl
    | k + 6, h => exact absurd h (by omega)
def SnN (w : World) (e : Ending) (w' : World) : Prop := ∃ g N cap, e = .returned (.slice (some ⟨g, 0, none⟩) N cap) ∧ ((N : Int) != 6) = true ∧ Below w.heap.size w w'
theorem sn_no (s : ByteArray) (hs : s.size ≤ 1048576) (hp : (pieces 45 (bL s)).length ≠ 6) (w : World) (h : EnvOk w) : Calls Tryd.prog 27 #[.string s, .string ⟨#[45]⟩, .int .i64 7] w (SnN w) :=
  (splitn_calls s 45 7 (by decide) (by decide) hs w h).mono fun e w' ⟨PP, ⟨g, cap, he, h1, h2, h3, h4, h5⟩, hA, hB⟩ => by
    refine ⟨g, _, cap, he, bne_iff_ne.2 fun q => ?_, h5⟩
    have q : PP.length = 6 := by exact_mod_cast q
    by_cases h7 : (pieces 45 (bL s)).length < 7
    · rw [hA h7] at q
      exact hp q
    · have := hB (by omega)
      omega
def PiN (n : Int) (w : World) (e : Ending) (w' : World) : Prop := ∃ ev, e = .returned (.tuple #[.int .i64 n, ev]) ∧ Below w.heap.size w w'
theorem pin_calls {p : List UInt8} {n : Int} (hn : piB 16 p = n) (hl : p.length ≤ 1048576) (w : World) (h : EnvOk w) : Calls Tryd.prog 22 #[.string (bS p), .int .i64 10, .int .i64 16] w (PiN n w) :=
  (pi16_calls (bS p) hl w h).mono fun e w' ⟨ev, he, hb⟩ => ⟨ev, by rw [he, bL_bS, hn], hb⟩
theorem di_new {w w1 : World} {g : Nat} {p : Nat → List UInt8} {T : TypeId} (hb : Below (w.heap.size + 1 + 1) ((w.alloc (.cells #[.int .i16 0, .int .i16 0, .int .i16 0, .int .i16 0, .int .i16 0, .int .i16 0] T)).alloc (.cells #[.int .i16 0, .int .i16 0, .int .i16 0, .int .i16 0, .int .i16 0, .int .i16 0] T)) w1) (h1 : w.heap.size + 1 + 1 ≤ g) (h2 : g < w1.heap.size) (hc : ∀ j, j < 6 → w1.cell? ⟨g, j, none⟩ = some (.string (bS (p j)))) : Di w g p (fun _ => .int .i16 0) w1 := by
  have z : ∀ j, j < 6 → (#[.int .i16 0, .int .i16 0, .int .i16 0, .int .i16 0, .int .i16 0, .int .i16 0] : Array Value)[j]? = some (.int .i16 0) := fun j hj => by
    match j, hj with
    | 0, _ | 1, _ | 2, _ | 3, _ | 4, _ | 5, _ => rfl
    | k + 6, h => exact absurd h (by omega)
  have hb' : Below ((w.alloc (.cells #[.int .i16 0, .int .i16 0, .int .i16 0, .int .i16 0, .int .i16 0, .int .i16 0] T)).alloc (.cells #[.int .i16 0, .int .i16 0, .int .i16 0, .int .i16 0, .int .i16 0, .int .i16 0] T)).heap.size ((w.alloc (.cells #[.int .i16 0, .int .i16 0, .int .i16 0, .int .i16 0, .int .i16 0, .int .i16 0] T)).alloc (.cells #[.int .i16 0, .int .i16 0, .int .i16 0, .int .i16 0, .int .i16 0, .int .i16 0] T)) w1 := by simpa using hb
  refine ⟨hc, fun j hj => ?_, fun j hj => ?_, fun j hj => ?_, fun j hj => ?_, h1, h2, Below.trans (bA (bA (Below.refl _ _) _) _) (hb'.mono (by first | (simp; done) | (simp; omega)))⟩
  · rw [hb'.cell (by first | (simp; done) | (simp; omega)), World.cell?_alloc_past _ _ _ (by first | (simp; done) | (simp; omega)), World.cell?_alloc_at (hn := rfl)]
    exact z j hj
  · rw [hb'.frozen (by first | (simp; done) | (simp; omega)), World.frozen?_alloc_past _ _ _ (by first | (simp; done) | (simp; omega))]
    exact World.frozen?_alloc_at _ _ _ _ rfl
  · rw [hb'.cell (by first | (simp; done) | (simp; omega)), World.cell?_alloc_at (hn := by simp)]
    exact z j hj
  · rw [hb'.frozen (by first | (simp; done) | (simp; omega))]
    exact World.frozen?_alloc_at _ _ _ _ (by first | (simp; done) | (simp; omega))
set_option maxHeartbeats 4000000 in
set_option maxRecDepth 100000 in
theorem ri_len (s : ByteArray) (hs : s.size ≤ 1048576) (w : World) (he : EnvOk w) (h : (pieces 45 (bL s)).length ≠ 6) : Calls Tryd.prog 10 #[.string s] w (RdQ s w) := by
  have hr := rd_len h
  have HR := Lib.hid hr
  clear hr
  have HS := Lib.hid (sn_no s hs h)
  clear h
  have he1 : EnvOk ((w.alloc (.cells #[.int .i16 0, .int .i16 0, .int .i16 0, .int .i16 0, .int .i16 0, .int .i16 0] 30)).alloc (.cells #[.int .i16 0, .int .i16 0, .int .i16 0, .int .i16 0, .int .i16 0, .int .i16 0] 30)) := env_below he (bA (bA (Below.refl _ _) _) _)
  go_enter Tryd.func10, Tryd.ntmps10
  go_wp2_with (go_at_call 27; refine (HS.out _ he1).mono ?_; rintro e w1 ⟨g, N, cap, rfl, hN, hb⟩; have q0 : w1.cell? ⟨w.heap.size, 0, none⟩ = some (.int .i16 0) := (hb.cell (p := ⟨w.heap.size, 0, none⟩) (by first | (simp; done) | (simp; omega))).trans (by simp); have f0 : w1.frozen? ⟨w.heap.size, 0, none⟩ = false := (hb.frozen (p := ⟨w.heap.size, 0, none⟩) (by first | (simp; done) | (simp; omega))).trans ((World.frozen?_alloc_past _ _ _ (by simp)).trans (World.frozen?_alloc_at _ _ _ _ rfl)); have q1 : w1.cell? ⟨w.heap.size, 1, none⟩ = some (.int .i16 0) := (hb.cell (p := ⟨w.heap.size, 1, none⟩) (by first | (simp; done) | (simp; omega))).trans (by simp); have f1 : w1.frozen? ⟨w.heap.size, 1, none⟩ = false := (hb.frozen (p := ⟨w.heap.size, 1, none⟩) (by first | (simp; done) | (simp; omega))).trans ((World.frozen?_alloc_past _ _ _ (by simp)).trans (World.frozen?_alloc_at _ _ _ _ rfl)); have q2 : w1.cell? ⟨w.heap.size, 2, none⟩ = some (.int .i16 0) := (hb.cell (p := ⟨w.heap.size, 2, none⟩) (by first | (simp; done) | (simp; omega))).trans (by simp); have f2 : w1.frozen? ⟨w.heap.size, 2, none⟩ = false := (hb.frozen (p := ⟨w.heap.size, 2, none⟩) (by first | (simp; done) | (simp; omega))).trans ((World.frozen?_alloc_past _ _ _ (by simp)).trans (World.frozen?_alloc_at _ _ _ _ rfl)); have q3 : w1.cell? ⟨w.heap.size, 3, none⟩ = some (.int .i16 0) := (hb.cell (p := ⟨w.heap.size, 3, none⟩) (by first | (simp; done) | (simp; omega))).trans (by simp); have f3 : w1.frozen? ⟨w.heap.size, 3, none⟩ = false := (hb.frozen (p := ⟨w.heap.size, 3, none⟩) (by first | (simp; done) | (simp; omega))).trans ((World.frozen?_alloc_past _ _ _ (by simp)).trans (World.frozen?_alloc_at _ _ _ _ rfl)); have q4 : w1.cell? ⟨w.heap.size, 4, none⟩ = some (.int .i16 0) := (hb.cell (p := ⟨w.heap.size, 4, none⟩) (by first | (simp; done) | (simp; omega))).trans (by simp); have f4 : w1.frozen? ⟨w.heap.size, 4, none⟩ = false := (hb.frozen (p := ⟨w.heap.size, 4, none⟩) (by first | (simp; done) | (simp; omega))).trans ((World.frozen?_alloc_past _ _ _ (by simp)).trans (World.frozen?_alloc_at _ _ _ _ rfl)); have q5 : w1.cell? ⟨w.heap.size, 5, none⟩ = some (.int .i16 0) := (hb.cell (p := ⟨w.heap.size, 5, none⟩) (by first | (simp; done) | (simp; omega))).trans (by simp); have f5 : w1.frozen? ⟨w.heap.size, 5, none⟩ = false := (hb.frozen (p := ⟨w.heap.size, 5, none⟩) (by first | (simp; done) | (simp; omega))).trans ((World.frozen?_alloc_past _ _ _ (by simp)).trans (World.frozen?_alloc_at _ _ _ _ rfl)); have hW : Below w.heap.size w w1 := Below.trans (bA (bA (Below.refl _ _) _) _) (hb.mono (by first | (simp; done) | (simp; omega))); clear hb)
  exact bodyPost_ret (v := .tuple #[.agg #[.int .i16 0, .int .i16 0, .int .i16 0, .int .i16 0, .int .i16 0, .int .i16 0], .int .i64 5]) (by simp [results, Tryd.results10, go_sem, q0, q1, q2, q3, q4, q5]) rfl ⟨congrArg Ending.returned HR.out.symm, by repeat (first | (with_reducible exact hW) | (with_reducible refine Below.setCell ?_ (by first | exact Nat.le_refl _ | exact Nat.le_of_lt (by assumption)) _))⟩

set_option maxHeartbeats 4000000 in
set_option maxRecDepth 100000 in
theorem ri_no (s : ByteArray) (hs : s.size ≤ 1048576) (w : World) (he : EnvOk w) (p : Nat → List UInt8) (hp : pieces 45 (bL s) = [p 0, p 1, p 2, p 3, p 4, p 5]) (n0 n1 n2 n3 n4 n5 : Int) (a0 : -32768 ≤ n0) (b0 : n0 ≤ 32767) (a1 : -32768 ≤ n1) (b1 : n1 ≤ 32767) (a2 : -32768 ≤ n2) (b2 : n2 ≤ 32767) (a3 : -32768 ≤ n3) (b3 : n3 ≤ 32767) (a4 : -32768 ≤ n4) (b4 : n4 ≤ 32767) (a5 : -32768 ≤ n5) (b5 : n5 ≤ 32767) (H0 : ∀ W, EnvOk W → Calls Tryd.prog 22 #[.string (bS (p 0)), .int .i64 10, .int .i64 16] W (PiN n0 W)) (H1 : ∀ W, EnvOk W → Calls Tryd.prog 22 #[.string (bS (p 1)), .int .i64 10, .int .i64 16] W (PiN n1 W)) (H2 : ∀ W, EnvOk W → Calls Tryd.prog 22 #[.string (bS (p 2)), .int .i64 10, .int .i64 16] W (PiN n2 W)) (H3 : ∀ W, EnvOk W → Calls Tryd.prog 22 #[.string (bS (p 3)), .int .i64 10, .int .i64 16] W (PiN n3 W)) (H4 : ∀ W, EnvOk W → Calls Tryd.prog 22 #[.string (bS (p 4)), .int .i64 10, .int .i64 16] W (PiN n4 W)) (H5 : ∀ W, EnvOk W → Calls Tryd.prog 22 #[.string (bS (p 5)), .int .i64 10, .int .i64 16] W (PiN n5 W))
    (T : ByteArray) (hT : ∀ W, TabOk W → Calls Tryd.prog 28 #[.agg #[.int .i16 n0, .int .i16 n1, .int .i16 n2, .int .i16 n3, .int .i16 n4, .int .i16 n5]] W fun e w' => e = .returned (.string T) ∧ Below W.heap.size W w') (hq : (!T.toList == s.toList) = true) (HR : Hid (rdV (bL s) = .tuple #[.agg #[.int .i16 0, .int .i16 0, .int .i16 0, .int .i16 0, .int .i16 0, .int .i16 0], .int .i64 5])) : Calls Tryd.prog 10 #[.string s] w (RdQ s w) := by
  have HS := Lib.hid (sn_six s hs hp)
  clear hp
  have he1 : EnvOk ((w.alloc (.cells #[.int .i16 0, .int .i16 0, .int .i16 0, .int .i16 0, .int .i16 0, .int .i16 0] 30)).alloc (.cells #[.int .i16 0, .int .i16 0, .int .i16 0, .int .i16 0, .int .i16 0, .int .i16 0] 30)) := env_below he (bA (bA (Below.refl _ _) _) _)
  go_enter Tryd.func10, Tryd.ntmps10
  go_wp2_with (go_at_call 27; refine (HS.out _ he1).mono ?_; rintro e w1 ⟨g, cap, rfl, h1, h2, hcap, hc, hb⟩; have hD0 := di_new (by simpa using hb) (by simpa using h1) h2 hc; have hgn : ¬ g = w.heap.size + 1 := (by simp at h1; omega); clear hb h1 hc; have c0 : w1.cell? ⟨g, 0, none⟩ = some (.string (bS (p 0))) := hD0.1 0 (by decide); have c1 : w1.cell? ⟨g, 1, none⟩ = some (.string (bS (p 1))) := hD0.1 1 (by decide); have c2 : w1.cell? ⟨g, 2, none⟩ = some (.string (bS (p 2))) := hD0.1 2 (by decide); have c3 : w1.cell? ⟨g, 3, none⟩ = some (.string (bS (p 3))) := hD0.1 3 (by decide); have c4 : w1.cell? ⟨g, 4, none⟩ = some (.string (bS (p 4))) := hD0.1 4 (by decide); have c5 : w1.cell? ⟨g, 5, none⟩ = some (.string (bS (p 5))) := hD0.1 5 (by decide); have e0 : w1.cell? ⟨w.heap.size + 1, 0, none⟩ = some (.int .i16 0) := hD0.2.2.2.1 0 (by decide); have e1 : w1.cell? ⟨w.heap.size + 1, 1, none⟩ = some (.int .i16 0) := hD0.2.2.2.1 1 (by decide); have e2 : w1.cell? ⟨w.heap.size + 1, 2, none⟩ = some (.int .i16 0) := hD0.2.2.2.1 2 (by decide); have e3 : w1.cell? ⟨w.heap.size + 1, 3, none⟩ = some (.int .i16 0) := hD0.2.2.2.1 3 (by decide); have e4 : w1.cell? ⟨w.heap.size + 1, 4, none⟩ = some (.int .i16 0) := hD0.2.2.2.1 4 (by decide); have e5 : w1.cell? ⟨w.heap.size + 1, 5, none⟩ = some (.int .i16 0) := hD0.2.2.2.1 5 (by decide); have k0 : w1.frozen? ⟨w.heap.size + 1, 0, none⟩ = false := hD0.2.2.2.2.1 0 (by decide); have k1 : w1.frozen? ⟨w.heap.size + 1, 1, none⟩ = false := hD0.2.2.2.2.1 1 (by decide); have k2 : w1.frozen? ⟨w.heap.size + 1, 2, none⟩ = false := hD0.2.2.2.2.1 2 (by decide); have k3 : w1.frozen? ⟨w.heap.size + 1, 3, none⟩ = false := hD0.2.2.2.2.1 3 (by decide); have k4 : w1.frozen? ⟨w.heap.size + 1, 4, none⟩ = false := hD0.2.2.2.2.1 4 (by decide); have k5 : w1.frozen? ⟨w.heap.size + 1, 5, none⟩ = false := hD0.2.2.2.2.1 5 (by decide))
  refine wp_loop_rounds 7 ?_
  rw [rounds_succ]
  go_wp2_with (go_at_call 22; have hX := hD0; refine (H0 _ (env_below he hX.2.2.2.2.2.2.2)).mono ?_; rintro e w2 ⟨ev0, rfl, hb⟩; have hD1 := di_below hX hb; clear hb hX; clear c0 c1 c2 c3 c4 c5 e0 e1 e2 e3 e4 e5 k0 k1 k2 k3 k4 k5; have c1 : w2.cell? ⟨g, 1, none⟩ = some (.string (bS (p 1))) := hD1.1 1 (by decide); have c2 : w2.cell? ⟨g, 2, none⟩ = some (.string (bS (p 2))) := hD1.1 2 (by decide); have c3 : w2.cell? ⟨g, 3, none⟩ = some (.string (bS (p 3))) := hD1.1 3 (by decide); have c4 : w2.cell? ⟨g, 4, none⟩ = some (.string (bS (p 4))) := hD1.1 4 (by decide); have c5 : w2.cell? ⟨g, 5, none⟩ = some (.string (bS (p 5))) := hD1.1 5 (by decide); have e0 : w2.cell? ⟨w.heap.size + 1, 0, none⟩ = some (.int .i16 0) := hD1.2.2.2.1 0 (by decide); have e1 : w2.cell? ⟨w.heap.size + 1, 1, none⟩ = some (.int .i16 0) := hD1.2.2.2.1 1 (by decide); have e2 : w2.cell? ⟨w.heap.size + 1, 2, none⟩ = some (.int .i16 0) := hD1.2.2.2.1 2 (by decide); have e3 : w2.cell? ⟨w.heap.size + 1, 3, none⟩ = some (.int .i16 0) := hD1.2.2.2.1 3 (by decide); have e4 : w2.cell? ⟨w.heap.size + 1, 4, none⟩ = some (.int .i16 0) := hD1.2.2.2.1 4 (by decide); have e5 : w2.cell? ⟨w.heap.size + 1, 5, none⟩ = some (.int .i16 0) := hD1.2.2.2.1 5 (by decide); have k0 : w2.frozen? ⟨w.heap.size + 1, 0, none⟩ = false := hD1.2.2.2.2.1 0 (by decide); have k1 : w2.frozen? ⟨w.heap.size + 1, 1, none⟩ = false := hD1.2.2.2.2.1 1 (by decide); have k2 : w2.frozen? ⟨w.heap.size + 1, 2, none⟩ = false := hD1.2.2.2.2.1 2 (by decide); have k3 : w2.frozen? ⟨w.heap.size + 1, 3, none⟩ = false := hD1.2.2.2.2.1 3 (by decide); have k4 : w2.frozen? ⟨w.heap.size + 1, 4, none⟩ = false := hD1.2.2.2.2.1 4 (by decide); have k5 : w2.frozen? ⟨w.heap.size + 1, 5, none⟩ = false := hD1.2.2.2.2.1 5 (by decide))
  rw [rounds_succ]
  go_wp2_with (go_at_call 22; have hX := (di_set hD1 0 (.int .i16 n0)); refine (H1 _ (env_below he hX.2.2.2.2.2.2.2)).mono ?_; rintro e w3 ⟨ev1, rfl, hb⟩; have hD2 := di_below hX hb; clear hb hX; clear c1 c2 c3 c4 c5 e0 e1 e2 e3 e4 e5 k0 k1 k2 k3 k4 k5; have c2 : w3.cell? ⟨g, 2, none⟩ = some (.string (bS (p 2))) := hD2.1 2 (by decide); have c3 : w3.cell? ⟨g, 3, none⟩ = some (.string (bS (p 3))) := hD2.1 3 (by decide); have c4 : w3.cell? ⟨g, 4, none⟩ = some (.string (bS (p 4))) := hD2.1 4 (by decide); have c5 : w3.cell? ⟨g, 5, none⟩ = some (.string (bS (p 5))) := hD2.1 5 (by decide); have e0 : w3.cell? ⟨w.heap.size + 1, 0, none⟩ = some (.int .i16 n0) := hD2.2.2.2.1 0 (by decide); have e1 : w3.cell? ⟨w.heap.size + 1, 1, none⟩ = some (.int .i16 0) := hD2.2.2.2.1 1 (by decide); have e2 : w3.cell? ⟨w.heap.size + 1, 2, none⟩ = some (.int .i16 0) := hD2.2.2.2.1 2 (by decide); have e3 : w3.cell? ⟨w.heap.size + 1, 3, none⟩ = some (.int .i16 0) := hD2.2.2.2.1 3 (by decide); have e4 : w3.cell? ⟨w.heap.size + 1, 4, none⟩ = some (.int .i16 0) := hD2.2.2.2.1 4 (by decide); have e5 : w3.cell? ⟨w.heap.size + 1, 5, none⟩ = some (.int .i16 0) := hD2.2.2.2.1 5 (by decide); have k0 : w3.frozen? ⟨w.heap.size + 1, 0, none⟩ = false := hD2.2.2.2.2.1 0 (by decide); have k1 : w3.frozen? ⟨w.heap.size + 1, 1, none⟩ = false := hD2.2.2.2.2.1 1 (by decide); have k2 : w3.frozen? ⟨w.heap.size + 1, 2, none⟩ = false := hD2.2.2.2.2.1 2 (by decide); have k3 : w3.frozen? ⟨w.heap.size + 1, 3, none⟩ = false := hD2.2.2.2.2.1 3 (by decide); have k4 : w3.frozen? ⟨w.heap.size + 1, 4, none⟩ = false := hD2.2.2.2.2.1 4 (by decide); have k5 : w3.frozen? ⟨w.heap.size + 1, 5, none⟩ = false := hD2.2.2.2.2.1 5 (by decide))
  rw [rounds_succ]
  go_wp2_with (go_at_call 22; have hX := (di_set hD2 1 (.int .i16 n1)); refine (H2 _ (env_below he hX.2.2.2.2.2.2.2)).mono ?_; rintro e w4 ⟨ev2, rfl, hb⟩; have hD3 := di_below hX hb; clear hb hX; clear c2 c3 c4 c5 e0 e1 e2 e3 e4 e5 k0 k1 k2 k3 k4 k5; have c3 : w4.cell? ⟨g, 3, none⟩ = some (.string (bS (p 3))) := hD3.1 3 (by decide); have c4 : w4.cell? ⟨g, 4, none⟩ = some (.string (bS (p 4))) := hD3.1 4 (by decide); have c5 : w4.cell? ⟨g, 5, none⟩ = some (.string (bS (p 5))) := hD3.1 5 (by decide); have e0 : w4.cell? ⟨w.heap.size + 1, 0, none⟩ = some (.int .i16 n0) := hD3.2.2.2.1 0 (by decide); have e1 : w4.cell? ⟨w.heap.size + 1, 1, none⟩ = some (.int .i16 n1) := hD3.2.2.2.1 1 (by decide); have e2 : w4.cell? ⟨w.heap.size + 1, 2, none⟩ = some (.int .i16 0) := hD3.2.2.2.1 2 (by decide); have e3 : w4.cell? ⟨w.heap.size + 1, 3, none⟩ = some (.int .i16 0) := hD3.2.2.2.1 3 (by decide); have e4 : w4.cell? ⟨w.heap.size + 1, 4, none⟩ = some (.int .i16 0) := hD3.2.2.2.1 4 (by decide); have e5 : w4.cell? ⟨w.heap.size + 1, 5, none⟩ = some (.int .i16 0) := hD3.2.2.2.1 5 (by decide); have k0 : w4.frozen? ⟨w.heap.size + 1, 0, none⟩ = false := hD3.2.2.2.2.1 0 (by decide); have k1 : w4.frozen? ⟨w.heap.size + 1, 1, none⟩ = false := hD3.2.2.2.2.1 1 (by decide); have k2 : w4.frozen? ⟨w.heap.size + 1, 2, none⟩ = false := hD3.2.2.2.2.1 2 (by decide); have k3 : w4.frozen? ⟨w.heap.size + 1, 3, none⟩ = false := hD3.2.2.2.2.1 3 (by decide); have k4 : w4.frozen? ⟨w.heap.size + 1, 4, none⟩ = false := hD3.2.2.2.2.1 4 (by decide); have k5 : w4.frozen? ⟨w.heap.size + 1, 5, none⟩ = false := hD3.2.2.2.2.1 5 (by decide))
  rw [rounds_succ]
  go_wp2_with (go_at_call 22; have hX := (di_set hD3 2 (.int .i16 n2)); refine (H3 _ (env_below he hX.2.2.2.2.2.2.2)).mono ?_; rintro e w5 ⟨ev3, rfl, hb⟩; have hD4 := di_below hX hb; clear hb hX; clear c3 c4 c5 e0 e1 e2 e3 e4 e5 k0 k1 k2 k3 k4 k5; have c4 : w5.cell? ⟨g, 4, none⟩ = some (.string (bS (p 4))) := hD4.1 4 (by decide); have c5 : w5.cell? ⟨g, 5, none⟩ = some (.string (bS (p 5))) := hD4.1 5 (by decide); have e0 : w5.cell? ⟨w.heap.size + 1, 0, none⟩ = some (.int .i16 n0) := hD4.2.2.2.1 0 (by decide); have e1 : w5.cell? ⟨w.heap.size + 1, 1, none⟩ = some (.int .i16 n1) := hD4.2.2.2.1 1 (by decide); have e2 : w5.cell? ⟨w.heap.size + 1, 2, none⟩ = some (.int .i16 n2) := hD4.2.2.2.1 2 (by decide); have e3 : w5.cell? ⟨w.heap.size + 1, 3, none⟩ = some (.int .i16 0) := hD4.2.2.2.1 3 (by decide); have e4 : w5.cell? ⟨w.heap.size + 1, 4, none⟩ = some (.int .i16 0) := hD4.2.2.2.1 4 (by decide); have e5 : w5.cell? ⟨w.heap.size + 1, 5, none⟩ = some (.int .i16 0) := hD4.2.2.2.1 5 (by decide); have k0 : w5.frozen? ⟨w.heap.size + 1, 0, none⟩ = false := hD4.2.2.2.2.1 0 (by decide); have k1 : w5.frozen? ⟨w.heap.size + 1, 1, none⟩ = false := hD4.2.2.2.2.1 1 (by decide); have k2 : w5.frozen? ⟨w.heap.size + 1, 2, none⟩ = false := hD4.2.2.2.2.1 2 (by decide); have k3 : w5.frozen? ⟨w.heap.size + 1, 3, none⟩ = false := hD4.2.2.2.2.1 3 (by decide); have k4 : w5.frozen? ⟨w.heap.size + 1, 4, none⟩ = false := hD4.2.2.2.2.1 4 (by decide); have k5 : w5.frozen? ⟨w.heap.size + 1, 5, none⟩ = false := hD4.2.2.2.2.1 5 (by decide))
  rw [rounds_succ]
  go_wp2_with (go_at_call 22; have hX := (di_set hD4 3 (.int .i16 n3)); refine (H4 _ (env_below he hX.2.2.2.2.2.2.2)).mono ?_; rintro e w6 ⟨ev4, rfl, hb⟩; have hD5 := di_below hX hb; clear hb hX; clear c4 c5 e0 e1 e2 e3 e4 e5 k0 k1 k2 k3 k4 k5; have c5 : w6.cell? ⟨g, 5, none⟩ = some (.string (bS (p 5))) := hD5.1 5 (by decide); have e0 : w6.cell? ⟨w.heap.size + 1, 0, none⟩ = some (.int .i16 n0) := hD5.2.2.2.1 0 (by decide); have e1 : w6.cell? ⟨w.heap.size + 1, 1, none⟩ = some (.int .i16 n1) := hD5.2.2.2.1 1 (by decide); have e2 : w6.cell? ⟨w.heap.size + 1, 2, none⟩ = some (.int .i16 n2) := hD5.2.2.2.1 2 (by decide); have e3 : w6.cell? ⟨w.heap.size + 1, 3, none⟩ = some (.int .i16 n3) := hD5.2.2.2.1 3 (by decide); have e4 : w6.cell? ⟨w.heap.size + 1, 4, none⟩ = some (.int .i16 0) := hD5.2.2.2.1 4 (by decide); have e5 : w6.cell? ⟨w.heap.size + 1, 5, none⟩ = some (.int .i16 0) := hD5.2.2.2.1 5 (by decide); have k0 : w6.frozen? ⟨w.heap.size + 1, 0, none⟩ = false := hD5.2.2.2.2.1 0 (by decide); have k1 : w6.frozen? ⟨w.heap.size + 1, 1, none⟩ = false := hD5.2.2.2.2.1 1 (by decide); have k2 : w6.frozen? ⟨w.heap.size + 1, 2, none⟩ = false := hD5.2.2.2.2.1 2 (by decide); have k3 : w6.frozen? ⟨w.heap.size + 1, 3, none⟩ = false := hD5.2.2.2.2.1 3 (by decide); have k4 : w6.frozen? ⟨w.heap.size + 1, 4, none⟩ = false := hD5.2.2.2.2.1 4 (by decide); have k5 : w6.frozen? ⟨w.heap.size + 1, 5, none⟩ = false := hD5.2.2.2.2.1 5 (by decide))
  rw [rounds_succ]
  go_wp2_with (go_at_call 22; have hX := (di_set hD5 4 (.int .i16 n4)); refine (H5 _ (env_below he hX.2.2.2.2.2.2.2)).mono ?_; rintro e w7 ⟨ev5, rfl, hb⟩; have hD6 := di_below hX hb; clear hb hX; clear c5 e0 e1 e2 e3 e4 e5 k0 k1 k2 k3 k4 k5; have e0 : w7.cell? ⟨w.heap.size + 1, 0, none⟩ = some (.int .i16 n0) := hD6.2.2.2.1 0 (by decide); have e1 : w7.cell? ⟨w.heap.size + 1, 1, none⟩ = some (.int .i16 n1) := hD6.2.2.2.1 1 (by decide); have e2 : w7.cell? ⟨w.heap.size + 1, 2, none⟩ = some (.int .i16 n2) := hD6.2.2.2.1 2 (by decide); have e3 : w7.cell? ⟨w.heap.size + 1, 3, none⟩ = some (.int .i16 n3) := hD6.2.2.2.1 3 (by decide); have e4 : w7.cell? ⟨w.heap.size + 1, 4, none⟩ = some (.int .i16 n4) := hD6.2.2.2.1 4 (by decide); have e5 : w7.cell? ⟨w.heap.size + 1, 5, none⟩ = some (.int .i16 0) := hD6.2.2.2.1 5 (by decide); have k0 : w7.frozen? ⟨w.heap.size + 1, 0, none⟩ = false := hD6.2.2.2.2.1 0 (by decide); have k1 : w7.frozen? ⟨w.heap.size + 1, 1, none⟩ = false := hD6.2.2.2.2.1 1 (by decide); have k2 : w7.frozen? ⟨w.heap.size + 1, 2, none⟩ = false := hD6.2.2.2.2.1 2 (by decide); have k3 : w7.frozen? ⟨w.heap.size + 1, 3, none⟩ = false := hD6.2.2.2.2.1 3 (by decide); have k4 : w7.frozen? ⟨w.heap.size + 1, 4, none⟩ = false := hD6.2.2.2.2.1 4 (by decide); have k5 : w7.frozen? ⟨w.heap.size + 1, 5, none⟩ = false := hD6.2.2.2.2.1 5 (by decide))
  rw [rounds_succ]
  go_wp2_with (go_at_call 28; have hX := di_set hD6 5 (.int .i16 n5); refine (hT _ (tab_below he.1 hX.2.2.2.2.2.2.2)).mono ?_; rintro e w8 ⟨rfl, hb⟩; have hD7 := di_below hX hb; clear hb hX e0 e1 e2 e3 e4 e5; have q0 : w8.cell? ⟨w.heap.size, 0, none⟩ = some (.int .i16 0) := hD7.2.1 0 (by decide); have f0 : w8.frozen? ⟨w.heap.size, 0, none⟩ = false := hD7.2.2.1 0 (by decide); have e0 : w8.cell? ⟨w.heap.size + 1, 0, none⟩ = some (.int .i16 n0) := hD7.2.2.2.1 0 (by decide); have q1 : w8.cell? ⟨w.heap.size, 1, none⟩ = some (.int .i16 0) := hD7.2.1 1 (by decide); have f1 : w8.frozen? ⟨w.heap.size, 1, none⟩ = false := hD7.2.2.1 1 (by decide); have e1 : w8.cell? ⟨w.heap.size + 1, 1, none⟩ = some (.int .i16 n1) := hD7.2.2.2.1 1 (by decide); have q2 : w8.cell? ⟨w.heap.size, 2, none⟩ = some (.int .i16 0) := hD7.2.1 2 (by decide); have f2 : w8.frozen? ⟨w.heap.size, 2, none⟩ = false := hD7.2.2.1 2 (by decide); have e2 : w8.cell? ⟨w.heap.size + 1, 2, none⟩ = some (.int .i16 n2) := hD7.2.2.2.1 2 (by decide); have q3 : w8.cell? ⟨w.heap.size, 3, none⟩ = some (.int .i16 0) := hD7.2.1 3 (by decide); have f3 : w8.frozen? ⟨w.heap.size, 3, none⟩ = false := hD7.2.2.1 3 (by decide); have e3 : w8.cell? ⟨w.heap.size + 1, 3, none⟩ = some (.int .i16 n3) := hD7.2.2.2.1 3 (by decide); have q4 : w8.cell? ⟨w.heap.size, 4, none⟩ = some (.int .i16 0) := hD7.2.1 4 (by decide); have f4 : w8.frozen? ⟨w.heap.size, 4, none⟩ = false := hD7.2.2.1 4 (by decide); have e4 : w8.cell? ⟨w.heap.size + 1, 4, none⟩ = some (.int .i16 n4) := hD7.2.2.2.1 4 (by decide); have q5 : w8.cell? ⟨w.heap.size, 5, none⟩ = some (.int .i16 0) := hD7.2.1 5 (by decide); have f5 : w8.frozen? ⟨w.heap.size, 5, none⟩ = false := hD7.2.2.1 5 (by decide); have e5 : w8.cell? ⟨w.heap.size + 1, 5, none⟩ = some (.int .i16 n5) := hD7.2.2.2.1 5 (by decide); have hW := hD7.2.2.2.2.2.2.2)
  exact bodyPost_ret (v := .tuple #[.agg #[.int .i16 0, .int .i16 0, .int .i16 0, .int .i16 0, .int .i16 0, .int .i16 0], .int .i64 5]) (by simp [results, Tryd.results10, go_sem, q0, q1, q2, q3, q4, q5]) rfl ⟨congrArg Ending.returned HR.out.symm, by repeat (first | (with_reducible exact hW) | (with_reducible refine Below.setCell ?_ (by first | exact Nat.le_refl _ | exact Nat.le_of_lt (by assumption)) _))⟩
set_option maxHeartbeats 4000000 in
set_option maxRecDepth 100000 in
theorem ri_ok (s : ByteArray) (hs : s.size ≤ 1048576) (w : World) (he : EnvOk w) (p : Nat → List UInt8) (hp : pieces 45 (bL s) = [p 0, p 1, p 2, p 3, p 4, p 5]) (n0 n1 n2 n3 n4 n5 : Int) (a0 : -32768 ≤ n0) (b0 : n0 ≤ 32767) (a1 : -32768 ≤ n1) (b1 : n1 ≤ 32767) (a2 : -32768 ≤ n2) (b2 : n2 ≤ 32767) (a3 : -32768 ≤ n3) (b3 : n3 ≤ 32767) (a4 : -32768 ≤ n4) (b4 : n4 ≤ 32767) (a5 : -32768 ≤ n5) (b5 : n5 ≤ 32767) (H0 : ∀ W, EnvOk W → Calls Tryd.prog 22 #[.string (bS (p 0)), .int .i64 10, .int .i64 16] W (PiN n0 W)) (H1 : ∀ W, EnvOk W → Calls Tryd.prog 22 #[.string (bS (p 1)), .int .i64 10, .int .i64 16] W (PiN n1 W)) (H2 : ∀ W, EnvOk W → Calls Tryd.prog 22 #[.string (bS (p 2)), .int .i64 10, .int .i64 16] W (PiN n2 W)) (H3 : ∀ W, EnvOk W → Calls Tryd.prog 22 #[.string (bS (p 3)), .int .i64 10, .int .i64 16] W (PiN n3 W)) (H4 : ∀ W, EnvOk W → Calls Tryd.prog 22 #[.string (bS (p 4)), .int .i64 10, .int .i64 16] W (PiN n4 W)) (H5 : ∀ W, EnvOk W → Calls Tryd.prog 22 #[.string (bS (p 5)), .int .i64 10, .int .i64 16] W (PiN n5 W))
    (T : ByteArray) (hT : ∀ W, TabOk W → Calls Tryd.prog 28 #[.agg #[.int .i16 n0, .int .i16 n1, .int .i16 n2, .int .i16 n3, .int .i16 n4, .int .i16 n5]] W fun e w' => e = .returned (.string T) ∧ Below W.heap.size W w') (hq : s = T) (HR : Hid (rdV (bL s) = .tuple #[.agg #[.int .i16 n0, .int .i16 n1, .int .i16 n2, .int .i16 n3, .int .i16 n4, .int .i16 n5], .int .i64 0])) : Calls Tryd.prog 10 #[.string s] w (RdQ s w) := by
  subst hq
  have HS := Lib.hid (sn_six s hs hp)
  clear hp
  have he1 : EnvOk ((w.alloc (.cells #[.int .i16 0, .int .i16 0, .int .i16 0, .int .i16 0, .int .i16 0, .int .i16 0] 30)).alloc (.cells #[.int .i16 0, .int .i16 0, .int .i16 0, .int .i16 0, .int .i16 0, .int .i16 0] 30)) := env_below he (bA (bA (Below.refl _ _) _) _)
  go_enter Tryd.func10, Tryd.ntmps10
  go_wp2_with (go_at_call 27; refine (HS.out _ he1).mono ?_; rintro e w1 ⟨g, cap, rfl, h1, h2, hcap, hc, hb⟩; have hD0 := di_new (by simpa using hb) (by simpa using h1) h2 hc; have hgn : ¬ g = w.heap.size + 1 := (by simp at h1; omega); clear hb h1 hc; have c0 : w1.cell? ⟨g, 0, none⟩ = some (.string (bS (p 0))) := hD0.1 0 (by decide); have c1 : w1.cell? ⟨g, 1, none⟩ = some (.string (bS (p 1))) := hD0.1 1 (by decide); have c2 : w1.cell? ⟨g, 2, none⟩ = some (.string (bS (p 2))) := hD0.1 2 (by decide); have c3 : w1.cell? ⟨g, 3, none⟩ = some (.string (bS (p 3))) := hD0.1 3 (by decide); have c4 : w1.cell? ⟨g, 4, none⟩ = some (.string (bS (p 4))) := hD0.1 4 (by decide); have c5 : w1.cell? ⟨g, 5, none⟩ = some (.string (bS (p 5))) := hD0.1 5 (by decide); have e0 : w1.cell? ⟨w.heap.size + 1, 0, none⟩ = some (.int .i16 0) := hD0.2.2.2.1 0 (by decide); have e1 : w1.cell? ⟨w.heap.size + 1, 1, none⟩ = some (.int .i16 0) := hD0.2.2.2.1 1 (by decide); have e2 : w1.cell? ⟨w.heap.size + 1, 2, none⟩ = some (.int .i16 0) := hD0.2.2.2.1 2 (by decide); have e3 : w1.cell? ⟨w.heap.size + 1, 3, none⟩ = some (.int .i16 0) := hD0.2.2.2.1 3 (by decide); have e4 : w1.cell? ⟨w.heap.size + 1, 4, none⟩ = some (.int .i16 0) := hD0.2.2.2.1 4 (by decide); have e5 : w1.cell? ⟨w.heap.size + 1, 5, none⟩ = some (.int .i16 0) := hD0.2.2.2.1 5 (by decide); have k0 : w1.frozen? ⟨w.heap.size + 1, 0, none⟩ = false := hD0.2.2.2.2.1 0 (by decide); have k1 : w1.frozen? ⟨w.heap.size + 1, 1, none⟩ = false := hD0.2.2.2.2.1 1 (by decide); have k2 : w1.frozen? ⟨w.heap.size + 1, 2, none⟩ = false := hD0.2.2.2.2.1 2 (by decide); have k3 : w1.frozen? ⟨w.heap.size + 1, 3, none⟩ = false := hD0.2.2.2.2.1 3 (by decide); have k4 : w1.frozen? ⟨w.heap.size + 1, 4, none⟩ = false := hD0.2.2.2.2.1 4 (by decide); have k5 : w1.frozen? ⟨w.heap.size + 1, 5, none⟩ = false := hD0.2.2.2.2.1 5 (by decide))
  refine wp_loop_rounds 7 ?_
  rw [rounds_succ]
  go_wp2_with (go_at_call 22; have hX := hD0; refine (H0 _ (env_below he hX.2.2.2.2.2.2.2)).mono ?_; rintro e w2 ⟨ev0, rfl, hb⟩; have hD1 := di_below hX hb; clear hb hX; clear c0 c1 c2 c3 c4 c5 e0 e1 e2 e3 e4 e5 k0 k1 k2 k3 k4 k5; have c1 : w2.cell? ⟨g, 1, none⟩ = some (.string (bS (p 1))) := hD1.1 1 (by decide); have c2 : w2.cell? ⟨g, 2, none⟩ = some (.string (bS (p 2))) := hD1.1 2 (by decide); have c3 : w2.cell? ⟨g, 3, none⟩ = some (.string (bS (p 3))) := hD1.1 3 (by decide); have c4 : w2.cell? ⟨g, 4, none⟩ = some (.string (bS (p 4))) := hD1.1 4 (by decide); have c5 : w2.cell? ⟨g, 5, none⟩ = some (.string (bS (p 5))) := hD1.1 5 (by decide); have e0 : w2.cell? ⟨w.heap.size + 1, 0, none⟩ = some (.int .i16 0) := hD1.2.2.2.1 0 (by decide); have e1 : w2.cell? ⟨w.heap.size + 1, 1, none⟩ = some (.int .i16 0) := hD1.2.2.2.1 1 (by decide); have e2 : w2.cell? ⟨w.heap.size + 1, 2, none⟩ = some (.int .i16 0) := hD1.2.2.2.1 2 (by decide); have e3 : w2.cell? ⟨w.heap.size + 1, 3, none⟩ = some (.int .i16 0) := hD1.2.2.2.1 3 (by decide); have e4 : w2.cell? ⟨w.heap.size + 1, 4, none⟩ = some (.int .i16 0) := hD1.2.2.2.1 4 (by decide); have e5 : w2.cell? ⟨w.heap.size + 1, 5, none⟩ = some (.int .i16 0) := hD1.2.2.2.1 5 (by decide); have k0 : w2.frozen? ⟨w.heap.size + 1, 0, none⟩ = false := hD1.2.2.2.2.1 0 (by decide); have k1 : w2.frozen? ⟨w.heap.size + 1, 1, none⟩ = false := hD1.2.2.2.2.1 1 (by decide); have k2 : w2.frozen? ⟨w.heap.size + 1, 2, none⟩ = false := hD1.2.2.2.2.1 2 (by decide); have k3 : w2.frozen? ⟨w.heap.size + 1, 3, none⟩ = false := hD1.2.2.2.2.1 3 (by decide); have k4 : w2.frozen? ⟨w.heap.size + 1, 4, none⟩ = false := hD1.2.2.2.2.1 4 (by decide); have k5 : w2.frozen? ⟨w.heap.size + 1, 5, none⟩ = false := hD1.2.2.2.2.1 5 (by decide))
  rw [rounds_succ]
  go_wp2_with (go_at_call 22; have hX := (di_set hD1 0 (.int .i16 n0)); refine (H1 _ (env_below he hX.2.2.2.2.2.2.2)).mono ?_; rintro e w3 ⟨ev1, rfl, hb⟩; have hD2 := di_below hX hb; clear hb hX; clear c1 c2 c3 c4 c5 e0 e1 e2 e3 e4 e5 k0 k1 k2 k3 k4 k5; have c2 : w3.cell? ⟨g, 2, none⟩ = some (.string (bS (p 2))) := hD2.1 2 (by decide); have c3 : w3.cell? ⟨g, 3, none⟩ = some (.string (bS (p 3))) := hD2.1 3 (by decide); have c4 : w3.cell? ⟨g, 4, none⟩ = some (.string (bS (p 4))) := hD2.1 4 (by decide); have c5 : w3.cell? ⟨g, 5, none⟩ = some (.string (bS (p 5))) := hD2.1 5 (by decide); have e0 : w3.cell? ⟨w.heap.size + 1, 0, none⟩ = some (.int .i16 n0) := hD2.2.2.2.1 0 (by decide); have e1 : w3.cell? ⟨w.heap.size + 1, 1, none⟩ = some (.int .i16 0) := hD2.2.2.2.1 1 (by decide); have e2 : w3.cell? ⟨w.heap.size + 1, 2, none⟩ = some (.int .i16 0) := hD2.2.2.2.1 2 (by decide); have e3 : w3.cell? ⟨w.heap.size + 1, 3, none⟩ = some (.int .i16 0) := hD2.2.2.2.1 3 (by decide); have e4 : w3.cell? ⟨w.heap.size + 1, 4, none⟩ = some (.int .i16 0) := hD2.2.2.2.1 4 (by decide); have e5 : w3.cell? ⟨w.heap.size + 1, 5, none⟩ = some (.int .i16 0) := hD2.2.2.2.1 5 (by decide); have k0 : w3.frozen? ⟨w.heap.size + 1, 0, none⟩ = false := hD2.2.2.2.2.1 0 (by decide); have k1 : w3.frozen? ⟨w.heap.size + 1, 1, none⟩ = false := hD2.2.2.2.2.1 1 (by decide); have k2 : w3.frozen? ⟨w.heap.size + 1, 2, none⟩ = false := hD2.2.2.2.2.1 2 (by decide); have k3 : w3.frozen? ⟨w.heap.size + 1, 3, none⟩ = false := hD2.2.2.2.2.1 3 (by decide); have k4 : w3.frozen? ⟨w.heap.size + 1, 4, none⟩ = false := hD2.2.2.2.2.1 4 (by decide); have k5 : w3.frozen? ⟨w.heap.size + 1, 5, none⟩ = false := hD2.2.2.2.2.1 5 (by decide))
  rw [rounds_succ]
  go_wp2_with (go_at_call 22; have hX := (di_set hD2 1 (.int .i16 n1)); refine (H2 _ (env_below he hX.2.2.2.2.2.2.2)).mono ?_; rintro e w4 ⟨ev2, rfl, hb⟩; have hD3 := di_below hX hb; clear hb hX; clear c2 c3 c4 c5 e0 e1 e2 e3 e4 e5 k0 k1 k2 k3 k4 k5; have c3 : w4.cell? ⟨g, 3, none⟩ = some (.string (bS (p 3))) := hD3.1 3 (by decide); have c4 : w4.cell? ⟨g, 4, none⟩ = some (.string (bS (p 4))) := hD3.1 4 (by decide); have c5 : w4.cell? ⟨g, 5, none⟩ = some (.string (bS (p 5))) := hD3.1 5 (by decide); have e0 : w4.cell? ⟨w.heap.size + 1, 0, none⟩ = some (.int .i16 n0) := hD3.2.2.2.1 0 (by decide); have e1 : w4.cell? ⟨w.heap.size + 1, 1, none⟩ = some (.int .i16 n1) := hD3.2.2.2.1 1 (by decide); have e2 : w4.cell? ⟨w.heap.size + 1, 2, none⟩ = some (.int .i16 0) := hD3.2.2.2.1 2 (by decide); have e3 : w4.cell? ⟨w.heap.size + 1, 3, none⟩ = some (.int .i16 0) := hD3.2.2.2.1 3 (by decide); have e4 : w4.cell? ⟨w.heap.size + 1, 4, none⟩ = some (.int .i16 0) := hD3.2.2.2.1 4 (by decide); have e5 : w4.cell? ⟨w.heap.size + 1, 5, none⟩ = some (.int .i16 0) := hD3.2.2.2.1 5 (by decide); have k0 : w4.frozen? ⟨w.heap.size + 1, 0, none⟩ = false := hD3.2.2.2.2.1 0 (by decide); have k1 : w4.frozen? ⟨w.heap.size + 1, 1, none⟩ = false := hD3.2.2.2.2.1 1 (by decide); have k2 : w4.frozen? ⟨w.heap.size + 1, 2, none⟩ = false := hD3.2.2.2.2.1 2 (by decide); have k3 : w4.frozen? ⟨w.heap.size + 1, 3, none⟩ = false := hD3.2.2.2.2.1 3 (by decide); have k4 : w4.frozen? ⟨w.heap.size + 1, 4, none⟩ = false := hD3.2.2.2.2.1 4 (by decide); have k5 : w4.frozen? ⟨w.heap.size + 1, 5, none⟩ = false := hD3.2.2.2.2.1 5 (by decide))
  rw [rounds_succ]
  go_wp2_with (go_at_call 22; have hX := (di_set hD3 2 (.int .i16 n2)); refine (H3 _ (env_below he hX.2.2.2.2.2.2.2)).mono ?_; rintro e w5 ⟨ev3, rfl, hb⟩; have hD4 := di_below hX hb; clear hb hX; clear c3 c4 c5 e0 e1 e2 e3 e4 e5 k0 k1 k2 k3 k4 k5; have c4 : w5.cell? ⟨g, 4, none⟩ = some (.string (bS (p 4))) := hD4.1 4 (by decide); have c5 : w5.cell? ⟨g, 5, none⟩ = some (.string (bS (p 5))) := hD4.1 5 (by decide); have e0 : w5.cell? ⟨w.heap.size + 1, 0, none⟩ = some (.int .i16 n0) := hD4.2.2.2.1 0 (by decide); have e1 : w5.cell? ⟨w.heap.size + 1, 1, none⟩ = some (.int .i16 n1) := hD4.2.2.2.1 1 (by decide); have e2 : w5.cell? ⟨w.heap.size + 1, 2, none⟩ = some (.int .i16 n2) := hD4.2.2.2.1 2 (by decide); have e3 : w5.cell? ⟨w.heap.size + 1, 3, none⟩ = some (.int .i16 0) := hD4.2.2.2.1 3 (by decide); have e4 : w5.cell? ⟨w.heap.size + 1, 4, none⟩ = some (.int .i16 0) := hD4.2.2.2.1 4 (by decide); have e5 : w5.cell? ⟨w.heap.size + 1, 5, none⟩ = some (.int .i16 0) := hD4.2.2.2.1 5 (by decide); have k0 : w5.frozen? ⟨w.heap.size + 1, 0, none⟩ = false := hD4.2.2.2.2.1 0 (by decide); have k1 : w5.frozen? ⟨w.heap.size + 1, 1, none⟩ = false := hD4.2.2.2.2.1 1 (by decide); have k2 : w5.frozen? ⟨w.heap.size + 1, 2, none⟩ = false := hD4.2.2.2.2.1 2 (by decide); have k3 : w5.frozen? ⟨w.heap.size + 1, 3, none⟩ = false := hD4.2.2.2.2.1 3 (by decide); have k4 : w5.frozen? ⟨w.heap.size + 1, 4, none⟩ = false := hD4.2.2.2.2.1 4 (by decide); have k5 : w5.frozen? ⟨w.heap.size + 1, 5, none⟩ = false := hD4.2.2.2.2.1 5 (by decide))
  rw [rounds_succ]
  go_wp2_with (go_at_call 22; have hX := (di_set hD4 3 (.int .i16 n3)); refine (H4 _ (env_below he hX.2.2.2.2.2.2.2)).mono ?_; rintro e w6 ⟨ev4, rfl, hb⟩; have hD5 := di_below hX hb; clear hb hX; clear c4 c5 e0 e1 e2 e3 e4 e5 k0 k1 k2 k3 k4 k5; have c5 : w6.cell? ⟨g, 5, none⟩ = some (.string (bS (p 5))) := hD5.1 5 (by decide); have e0 : w6.cell? ⟨w.heap.size + 1, 0, none⟩ = some (.int .i16 n0) := hD5.2.2.2.1 0 (by decide); have e1 : w6.cell? ⟨w.heap.size + 1, 1, none⟩ = some (.int .i16 n1) := hD5.2.2.2.1 1 (by decide); have e2 : w6.cell? ⟨w.heap.size + 1, 2, none⟩ = some (.int .i16 n2) := hD5.2.2.2.1 2 (by decide); have e3 : w6.cell? ⟨w.heap.size + 1, 3, none⟩ = some (.int .i16 n3) := hD5.2.2.2.1 3 (by decide); have e4 : w6.cell? ⟨w.heap.size + 1, 4, none⟩ = some (.int .i16 0) := hD5.2.2.2.1 4 (by decide); have e5 : w6.cell? ⟨w.heap.size + 1, 5, none⟩ = some (.int .i16 0) := hD5.2.2.2.1 5 (by decide); have k0 : w6.frozen? ⟨w.heap.size + 1, 0, none⟩ = false := hD5.2.2.2.2.1 0 (by decide); have k1 : w6.frozen? ⟨w.heap.size + 1, 1, none⟩ = false := hD5.2.2.2.2.1 1 (by decide); have k2 : w6.frozen? ⟨w.heap.size + 1, 2, none⟩ = false := hD5.2.2.2.2.1 2 (by decide); have k3 : w6.frozen? ⟨w.heap.size + 1, 3, none⟩ = false := hD5.2.2.2.2.1 3 (by decide); have k4 : w6.frozen? ⟨w.heap.size + 1, 4, none⟩ = false := hD5.2.2.2.2.1 4 (by decide); have k5 : w6.frozen? ⟨w.heap.size + 1, 5, none⟩ = false := hD5.2.2.2.2.1 5 (by decide))
  rw [rounds_succ]
  go_wp2_with (go_at_call 22; have hX := (di_set hD5 4 (.int .i16 n4)); refine (H5 _ (env_below he hX.2.2.2.2.2.2.2)).mono ?_; rintro e w7 ⟨ev5, rfl, hb⟩; have hD6 := di_below hX hb; clear hb hX; clear c5 e0 e1 e2 e3 e4 e5 k0 k1 k2 k3 k4 k5; have e0 : w7.cell? ⟨w.heap.size + 1, 0, none⟩ = some (.int .i16 n0) := hD6.2.2.2.1 0 (by decide); have e1 : w7.cell? ⟨w.heap.size + 1, 1, none⟩ = some (.int .i16 n1) := hD6.2.2.2.1 1 (by decide); have e2 : w7.cell? ⟨w.heap.size + 1, 2, none⟩ = some (.int .i16 n2) := hD6.2.2.2.1 2 (by decide); have e3 : w7.cell? ⟨w.heap.size + 1, 3, none⟩ = some (.int .i16 n3) := hD6.2.2.2.1 3 (by decide); have e4 : w7.cell? ⟨w.heap.size + 1, 4, none⟩ = some (.int .i16 n4) := hD6.2.2.2.1 4 (by decide); have e5 : w7.cell? ⟨w.heap.size + 1, 5, none⟩ = some (.int .i16 0) := hD6.2.2.2.1 5 (by decide); have k0 : w7.frozen? ⟨w.heap.size + 1, 0, none⟩ = false := hD6.2.2.2.2.1 0 (by decide); have k1 : w7.frozen? ⟨w.heap.size + 1, 1, none⟩ = false := hD6.2.2.2.2.1 1 (by decide); have k2 : w7.frozen? ⟨w.heap.size + 1, 2, none⟩ = false := hD6.2.2.2.2.1 2 (by decide); have k3 : w7.frozen? ⟨w.heap.size + 1, 3, none⟩ = false := hD6.2.2.2.2.1 3 (by decide); have k4 : w7.frozen? ⟨w.heap.size + 1, 4, none⟩ = false := hD6.2.2.2.2.1 4 (by decide); have k5 : w7.frozen? ⟨w.heap.size + 1, 5, none⟩ = false := hD6.2.2.2.2.1 5 (by decide))
  rw [rounds_succ]
  go_wp2_with (go_at_call 28; have hX := di_set hD6 5 (.int .i16 n5); refine (hT _ (tab_below he.1 hX.2.2.2.2.2.2.2)).mono ?_; rintro e w8 ⟨rfl, hb⟩; have hD7 := di_below hX hb; clear hb hX e0 e1 e2 e3 e4 e5; have q0 : w8.cell? ⟨w.heap.size, 0, none⟩ = some (.int .i16 0) := hD7.2.1 0 (by decide); have f0 : w8.frozen? ⟨w.heap.size, 0, none⟩ = false := hD7.2.2.1 0 (by decide); have e0 : w8.cell? ⟨w.heap.size + 1, 0, none⟩ = some (.int .i16 n0) := hD7.2.2.2.1 0 (by decide); have q1 : w8.cell? ⟨w.heap.size, 1, none⟩ = some (.int .i16 0) := hD7.2.1 1 (by decide); have f1 : w8.frozen? ⟨w.heap.size, 1, none⟩ = false := hD7.2.2.1 1 (by decide); have e1 : w8.cell? ⟨w.heap.size + 1, 1, none⟩ = some (.int .i16 n1) := hD7.2.2.2.1 1 (by decide); have q2 : w8.cell? ⟨w.heap.size, 2, none⟩ = some (.int .i16 0) := hD7.2.1 2 (by decide); have f2 : w8.frozen? ⟨w.heap.size, 2, none⟩ = false := hD7.2.2.1 2 (by decide); have e2 : w8.cell? ⟨w.heap.size + 1, 2, none⟩ = some (.int .i16 n2) := hD7.2.2.2.1 2 (by decide); have q3 : w8.cell? ⟨w.heap.size, 3, none⟩ = some (.int .i16 0) := hD7.2.1 3 (by decide); have f3 : w8.frozen? ⟨w.heap.size, 3, none⟩ = false := hD7.2.2.1 3 (by decide); have e3 : w8.cell? ⟨w.heap.size + 1, 3, none⟩ = some (.int .i16 n3) := hD7.2.2.2.1 3 (by decide); have q4 : w8.cell? ⟨w.heap.size, 4, none⟩ = some (.int .i16 0) := hD7.2.1 4 (by decide); have f4 : w8.frozen? ⟨w.heap.size, 4, none⟩ = false := hD7.2.2.1 4 (by decide); have e4 : w8.cell? ⟨w.heap.size + 1, 4, none⟩ = some (.int .i16 n4) := hD7.2.2.2.1 4 (by decide); have q5 : w8.cell? ⟨w.heap.size, 5, none⟩ = some (.int .i16 0) := hD7.2.1 5 (by decide); have f5 : w8.frozen? ⟨w.heap.size, 5, none⟩ = false := hD7.2.2.1 5 (by decide); have e5 : w8.cell? ⟨w.heap.size + 1, 5, none⟩ = some (.int .i16 n5) := hD7.2.2.2.1 5 (by decide); have hW := hD7.2.2.2.2.2.2.2)
  exact bodyPost_ret (v := .tuple #[.agg #[.int .i16 n0, .int .i16 n1, .int .i16 n2, .int .i16 n3, .int .i16 n4, .int .i16 n5], .int .i64 0]) (by simp [results, Tryd.results10, go_sem, q0, q1, q2, q3, q4, q5]) rfl ⟨congrArg Ending.returned HR.out.symm, by repeat (first | (with_reducible exact hW) | (with_reducible refine Below.setCell ?_ (by first | exact Nat.le_refl _ | exact Nat.le_of_lt (by assumption)) _))⟩
theorem toList_inj {a b : ByteArray} (h : a.toList = b.toList) : a = b := by
  rw [ByteArray.toList_eq, ByteArray.toList_eq] at h
  exact ByteArray.ext (Array.ext' h)
theorem ri_calls (s : ByteArray) (hs : s.size ≤ 1048576) (w : World) (he : EnvOk w) : Calls Tryd.prog 10 #[.string s] w (RdQ s w) := by
  by_cases h6 : (pieces 45 (bL s)).length = 6
  · obtain ⟨p0, p1, p2, p3, p4, p5, hp⟩ := list6 _ h6
    have L : ∀ p ∈ pieces 45 (bL s), p.length ≤ 1048576 := fun p h => Nat.le_trans (piece_le 45 (bL s) p h) hs
    rw [hp] at L
    have B := fun p => pi_bound 16 p
    have hP : pieces 45 (bL s) = [([p0, p1, p2, p3, p4, p5].getD 0 []), ([p0, p1, p2, p3, p4, p5].getD 1 []), ([p0, p1, p2, p3, p4, p5].getD 2 []), ([p0, p1, p2, p3, p4, p5].getD 3 []), ([p0, p1, p2, p3, p4, p5].getD 4 []), ([p0, p1, p2, p3, p4, p5].getD 5 [])] := hp
    have dc := fun W hW => dt_calls (piB 16 p0) (piB 16 p1) (piB 16 p2) (piB 16 p3) (piB 16 p4) (piB 16 p5) W hW
    by_cases hq : bS (dtL (piB 16 p0) (piB 16 p1) (piB 16 p2) (piB 16 p3) (piB 16 p4) (piB 16 p5)) = s
    · have hd : dtL (piB 16 p0) (piB 16 p1) (piB 16 p2) (piB 16 p3) (piB 16 p4) (piB 16 p5) = bL s := congrArg bL hq
      obtain ⟨k0, k1, k2, k3, k4, k5⟩ := dt_back hp hd
      have hr := rd_ok hp k0 k1 k2 k3 k4 k5
      rw [← pi_ok k0, ← pi_ok k1, ← pi_ok k2, ← pi_ok k3, ← pi_ok k4, ← pi_ok k5] at hr
      exact ri_ok s hs w he (fun i => [p0, p1, p2, p3, p4, p5].getD i []) hP _ _ _ _ _ _ (B p0).1 (B p0).2 (B p1).1 (B p1).2 (B p2).1 (B p2).2 (B p3).1 (B p3).2 (B p4).1 (B p4).2 (B p5).1 (B p5).2 (fun W hW => pin_calls rfl (L p0 (by simp)) W hW) (fun W hW => pin_calls rfl (L p1 (by simp)) W hW) (fun W hW => pin_calls rfl (L p2 (by simp)) W hW) (fun W hW => pin_calls rfl (L p3 (by simp)) W hW) (fun W hW => pin_calls rfl (L p4 (by simp)) W hW) (fun W hW => pin_calls rfl (L p5 (by simp)) W hW) _ dc hq.symm (Lib.hid hr)
    · have hr : rdV (bL s) = .tuple #[.agg #[.int .i16 0, .int .i16 0, .int .i16 0, .int .i16 0, .int .i16 0, .int .i16 0], .int .i64 5] := by
        cases h0 : okD p0 with
        | false => exact rd_bad (p := p0) (by simp [hp]) h0
        | true =>
        cases h1 : okD p1 with
        | false => exact rd_bad (p := p1) (by simp [hp]) h1
        | true =>
        cases h2 : okD p2 with
        | false => exact rd_bad (p := p2) (by simp [hp]) h2
        | true =>
        cases h3 : okD p3 with
        | false => exact rd_bad (p := p3) (by simp [hp]) h3
        | true =>
        cases h4 : okD p4 with
        | false => exact rd_bad (p := p4) (by simp [hp]) h4
        | true =>
        cases h5 : okD p5 with
        | false => exact rd_bad (p := p5) (by simp [hp]) h5
        | true =>
        exfalso
        refine hq ?_
        rw [pi_ok h0, pi_ok h1, pi_ok h2, pi_ok h3, pi_ok h4, pi_ok h5, dt_yes hp h0 h1 h2 h3 h4 h5, bS_bL]
      exact ri_no s hs w he (fun i => [p0, p1, p2, p3, p4, p5].getD i []) hP _ _ _ _ _ _ (B p0).1 (B p0).2 (B p1).1 (B p1).2 (B p2).1 (B p2).2 (B p3).1 (B p3).2 (B p4).1 (B p4).2 (B p5).1 (B p5).2 (fun W hW => pin_calls rfl (L p0 (by simp)) W hW) (fun W hW => pin_calls rfl (L p1 (by simp)) W hW) (fun W hW => pin_calls rfl (L p2 (by simp)) W hW) (fun W hW => pin_calls rfl (L p3 (by simp)) W hW) (fun W hW => pin_calls rfl (L p4 (by simp)) W hW) (fun W hW => pin_calls rfl (L p5 (by simp)) W hW) _ dc (by
        rw [Bool.not_eq_true', beq_eq_false_iff_ne]
        exact fun e => hq (toList_inj e)) (Lib.hid hr)
  · exact ri_len s hs w he h6
theorem rs_calls (s : ByteArray) (hs : s.size ≤ 1048576) (w : World) : Calls Tryd.prog 9 #[.string s] w (RdQ s w) := by
  by_cases h6 : (pieces 45 (bL s)).length = 6
  · obtain ⟨p0, p1, p2, p3, p4, p5, hp⟩ := list6 _ h6
    cases h0 : okD p0 with
    | false => exact rs_0 s hs w p0 p1 p2 p3 p4 p5 hp  h0
    | true =>
    cases h1 : okD p1 with
    | false => exact rs_1 s hs w p0 p1 p2 p3 p4 p5 hp h0 h1
    | true =>
    cases h2 : okD p2 with
    | false => exact rs_2 s hs w p0 p1 p2 p3 p4 p5 hp h0 h1 h2
    | true =>
    cases h3 : okD p3 with
    | false => exact rs_3 s hs w p0 p1 p2 p3 p4 p5 hp h0 h1 h2 h3
    | true =>
    cases h4 : okD p4 with
    | false => exact rs_4 s hs w p0 p1 p2 p3 p4 p5 hp h0 h1 h2 h3 h4
    | true =>
    cases h5 : okD p5 with
    | false => exact rs_5 s hs w p0 p1 p2 p3 p4 p5 hp h0 h1 h2 h3 h4 h5
    | true =>
    exact rs_ok s hs w p0 p1 p2 p3 p4 p5 hp h0 h1 h2 h3 h4 h5
  · exact rs_len s hs w h6
end Tx
end Go.Proofs.YtjbbljlefmgieaaDoor
end
