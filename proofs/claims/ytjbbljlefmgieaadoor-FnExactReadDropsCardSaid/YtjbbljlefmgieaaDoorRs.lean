/-
  Drops read from their text, by the model. No condition but that the text has at most 2^20 bytes.
-/
import Derived.Test.YtjbbljlefmgieaaDoorNu
import Derived.Deep.MidRow
noncomputable section
namespace Go.Proofs.YtjbbljlefmgieaaDoor
namespace Tx
open Go Go.RowKit
/-- a number of drops -/
def okD (l : List UInt8) : Bool := canB l && decide (valL l ≤ 1000)
/-- the drops of a text, with a code -/
def rdV (l : List UInt8) : Value := if (pieces 45 l).length = 6 ∧ (pieces 45 l).all okD = true then .tuple #[.agg ((pieces 45 l).map fun p => Value.int .i16 (valL p)).toArray, .int .i64 0] else .tuple #[.agg #[.int .i16 0, .int .i16 0, .int .i16 0, .int .i16 0, .int .i16 0, .int .i16 0], .int .i64 5]
def RdQ (s : ByteArray) (w : World) (e : Ending) (w' : World) : Prop := e = .returned (rdV (bL s)) ∧ Below w.heap.size w w'
theorem rd_len {s : ByteArray} (h : (pieces 45 (bL s)).length ≠ 6) : rdV (bL s) = .tuple #[.agg #[.int .i16 0, .int .i16 0, .int .i16 0, .int .i16 0, .int .i16 0, .int .i16 0], .int .i64 5] := if_neg fun q => h q.1
theorem rd_bad {s : ByteArray} {p : List UInt8} (hp : p ∈ pieces 45 (bL s)) (h : okD p = false) : rdV (bL s) = .tuple #[.agg #[.int .i16 0, .int .i16 0, .int .i16 0, .int .i16 0, .int .i16 0, .int .i16 0], .int .i64 5] :=
  if_neg fun q => by have := List.all_eq_true.1 q.2 p hp; rw [h] at this; cases this
theorem rd_ok {s : ByteArray} {p0 p1 p2 p3 p4 p5 : List UInt8} (hp : pieces 45 (bL s) = [p0, p1, p2, p3, p4, p5]) (h0 : okD p0 = true) (h1 : okD p1 = true) (h2 : okD p2 = true) (h3 : okD p3 = true) (h4 : okD p4 = true) (h5 : okD p5 = true) : rdV (bL s) = .tuple #[.agg #[.int .i16 (valL p0), .int .i16 (valL p1), .int .i16 (valL p2), .int .i16 (valL p3), .int .i16 (valL p4), .int .i16 (valL p5)], .int .i64 0] := by
  unfold rdV
  rw [hp, if_pos ⟨rfl, by simp [h0, h1, h2, h3, h4, h5]⟩]
  rfl
theorem list6 {α : Type} (l : List α) (h : l.length = 6) : ∃ a b c d e f, l = [a, b, c, d, e, f] := by
  match l, h with
  | [a, b, c, d, e, f], _ => exact ⟨a, b, c, d, e, f, rfl⟩
theorem piece_le (c : UInt8) : ∀ (l : List UInt8), ∀ A ∈ pieces c l, A.length ≤ l.length
  | [], A, h => by simp [pieces_nil] at h; simp [h]
  | x :: r, A, h => by
    have ih := piece_le c r
    by_cases hx : x = c
    · subst hx
      rw [pieces_eq] at h
      rcases List.mem_cons.1 h with rfl | h
      · simp
      · have := ih A h
        simp
        omega
    · rw [pieces_ne hx] at h
      rcases List.mem_cons.1 h with rfl | h
      · have := ih (cut1 c r).1 (by simp [pieces])
        simp
        exact this
      · have := ih A (by simp [pieces, h])
        simp
        omega
theorem pieces_pos (c : UInt8) (l : List UInt8) : 0 < (pieces c l).length := by simp [pieces]
/-- the model's cut: where its pieces lie -/
def SpA (s : ByteArray) (c : UInt8) (w : World) (e : Ending) (w' : World) : Prop :=
  ∃ g cap, e = .returned (.slice (some ⟨g, 0, none⟩) (pieces c (bL s)).length cap) ∧ w.heap.size ≤ g ∧ g < w'.heap.size ∧ (∀ j u, (pcs c s)[j]? = some u → w'.cell? ⟨g, j, none⟩ = some u) ∧ Below w.heap.size w w'
theorem split_at (s : ByteArray) (c : UInt8) (hs : s.size ≤ 1048576) (w : World) : Calls Tryd.prog 17 #[.string s, .int .u8 c.toNat] w (SpA s c w) :=
  (split_calls s c hs w).mono fun e w' ⟨v, he, hown, hb⟩ => by
    obtain ⟨g, cap, rfl, h1, h2⟩ := hown.form (pieces_pos c (bL s))
    refine ⟨g, cap, he, h1, h2, fun j u hu => ?_, hb⟩
    have := hown.cells (g := g) rfl j u hu
    simpa [Addr.add_mid] using this
theorem bA' {B : Nat} {a w : World} (h : Below B a w) (hB : B ≤ w.heap.size) (o : Obj) : Below B a (w.alloc o) := h.alloc hB o
theorem num_ok {p : List UInt8} (n : Nat) (h : okD p = true) (hn : valL p = n) (hl : p.length ≤ 1048576) (w : World) : Calls Tryd.prog 19 #[.string (bS p)] w fun e w' => e = .returned (.tuple #[.int .i64 n, .bool true]) ∧ w' = w :=
  (num_calls (bS p) hl w).mono fun e w' ⟨he, hw⟩ => by
    refine ⟨?_, hw⟩
    have hc : canB p = true := (Bool.and_eq_true_iff.1 h).1
    rw [he, bL_bS, numV, if_pos hc, hc, hn]
theorem num_no {p : List UInt8} (h : canB p = false) (hl : p.length ≤ 1048576) (w : World) : Calls Tryd.prog 19 #[.string (bS p)] w fun e w' => e = .returned (.tuple #[.int .i64 0, .bool false]) ∧ w' = w :=
  (num_calls (bS p) hl w).mono fun e w' ⟨he, hw⟩ => by
    refine ⟨?_, hw⟩
    rw [he, bL_bS, numV, h]
    rfl
theorem num_big {p : List UInt8} (n : Nat) (h : canB p = true) (hn : valL p = n) (hl : p.length ≤ 1048576) (w : World) : Calls Tryd.prog 19 #[.string (bS p)] w fun e w' => e = .returned (.tuple #[.int .i64 n, .bool true]) ∧ w' = w :=
  (num_calls (bS p) hl w).mono fun e w' ⟨he, hw⟩ => by
    refine ⟨?_, hw⟩
    rw [he, bL_bS, numV, if_pos h, h, hn]
theorem okD_parts {p : List UInt8} (h : okD p = false) : canB p = false ∨ canB p = true ∧ 1000 < valL p := by
  unfold okD at h
  cases hc : canB p with
  | false => exact .inl rfl
  | true =>
    rw [hc, Bool.true_and, decide_eq_false_iff_not] at h
    exact .inr ⟨rfl, by omega⟩
/-- the model's cut where it has six pieces -/
def Sp6 (p0 p1 p2 p3 p4 p5 : List UInt8) (w : World) (e : Ending) (w' : World) : Prop :=
  ∃ g cap, e = .returned (.slice (some ⟨g, 0, none⟩) 6 cap) ∧ w.heap.size ≤ g ∧ g < w'.heap.size ∧ w'.cell? ⟨g, 0, none⟩ = some (.string (bS p0)) ∧ w'.cell? ⟨g, 1, none⟩ = some (.string (bS p1)) ∧ w'.cell? ⟨g, 2, none⟩ = some (.string (bS p2)) ∧ w'.cell? ⟨g, 3, none⟩ = some (.string (bS p3)) ∧ w'.cell? ⟨g, 4, none⟩ = some (.string (bS p4)) ∧ w'.cell? ⟨g, 5, none⟩ = some (.string (bS p5)) ∧ Below w.heap.size w w'
theorem split6 {p0 p1 p2 p3 p4 p5 : List UInt8} (s : ByteArray) (hs : s.size ≤ 1048576) (hp : pieces 45 (bL s) = [p0, p1, p2, p3, p4, p5]) (w : World) : Calls Tryd.prog 17 #[.string s, .int .u8 45] w (Sp6 p0 p1 p2 p3 p4 p5 w) :=
  (split_at s 45 hs w).mono fun e w' ⟨g, cap, he, h1, h2, hc, hb⟩ => by
    unfold pcs at hc
    rw [hp] at he hc
    exact ⟨g, cap, he, h1, h2, hc 0 _ rfl, hc 1 _ rfl, hc 2 _ rfl, hc 3 _ rfl, hc 4 _ rfl, hc 5 _ rfl, hb⟩
set_option maxHeartbeats 4000000 in
set_option maxRecDepth 100000 in
theorem rs_len (s : ByteArray) (hs : s.size ≤ 1048576) (w : World) (h : (pieces 45 (bL s)).length ≠ 6) : Calls Tryd.prog 9 #[.string s] w (RdQ s w) := by
  have hr := rd_len h
  have HR := Lib.hid hr
  clear hr
  have hne : (((pieces 45 (bL s)).length : Int) != 6) = true := bne_iff_ne.2 fun e => h (by exact_mod_cast e)
  clear h
  go_enter Tryd.func9, Tryd.ntmps9
  go_wp2_with (go_at_call 17; refine (split_at s 45 hs _).mono ?_; rintro e w1 ⟨g, cap, rfl, hg1, hg2, hcs, hb⟩; have hsz : w.heap.size < w1.heap.size := Nat.lt_of_lt_of_le (by simp) hb.size; have q0 : w1.cell? ⟨w.heap.size, 0, none⟩ = some (.int .i16 0) := (hb.cell (p := ⟨w.heap.size, 0, none⟩) (by first | assumption | simp)).trans (by first | assumption | simp); have f0 : w1.frozen? ⟨w.heap.size, 0, none⟩ = false := (hb.frozen (p := ⟨w.heap.size, 0, none⟩) (by first | assumption | simp)).trans (World.frozen?_alloc_at _ _ _ _ rfl); have q1 : w1.cell? ⟨w.heap.size, 1, none⟩ = some (.int .i16 0) := (hb.cell (p := ⟨w.heap.size, 1, none⟩) (by first | assumption | simp)).trans (by first | assumption | simp); have f1 : w1.frozen? ⟨w.heap.size, 1, none⟩ = false := (hb.frozen (p := ⟨w.heap.size, 1, none⟩) (by first | assumption | simp)).trans (World.frozen?_alloc_at _ _ _ _ rfl); have q2 : w1.cell? ⟨w.heap.size, 2, none⟩ = some (.int .i16 0) := (hb.cell (p := ⟨w.heap.size, 2, none⟩) (by first | assumption | simp)).trans (by first | assumption | simp); have f2 : w1.frozen? ⟨w.heap.size, 2, none⟩ = false := (hb.frozen (p := ⟨w.heap.size, 2, none⟩) (by first | assumption | simp)).trans (World.frozen?_alloc_at _ _ _ _ rfl); have q3 : w1.cell? ⟨w.heap.size, 3, none⟩ = some (.int .i16 0) := (hb.cell (p := ⟨w.heap.size, 3, none⟩) (by first | assumption | simp)).trans (by first | assumption | simp); have f3 : w1.frozen? ⟨w.heap.size, 3, none⟩ = false := (hb.frozen (p := ⟨w.heap.size, 3, none⟩) (by first | assumption | simp)).trans (World.frozen?_alloc_at _ _ _ _ rfl); have q4 : w1.cell? ⟨w.heap.size, 4, none⟩ = some (.int .i16 0) := (hb.cell (p := ⟨w.heap.size, 4, none⟩) (by first | assumption | simp)).trans (by first | assumption | simp); have f4 : w1.frozen? ⟨w.heap.size, 4, none⟩ = false := (hb.frozen (p := ⟨w.heap.size, 4, none⟩) (by first | assumption | simp)).trans (World.frozen?_alloc_at _ _ _ _ rfl); have q5 : w1.cell? ⟨w.heap.size, 5, none⟩ = some (.int .i16 0) := (hb.cell (p := ⟨w.heap.size, 5, none⟩) (by first | assumption | simp)).trans (by first | assumption | simp); have f5 : w1.frozen? ⟨w.heap.size, 5, none⟩ = false := (hb.frozen (p := ⟨w.heap.size, 5, none⟩) (by first | assumption | simp)).trans (World.frozen?_alloc_at _ _ _ _ rfl); have hW : Below w.heap.size w w1 := Below.trans (bA (Below.refl _ _) _) (hb.mono (by simp)); clear hb hg1)
  exact bodyPost_ret (v := .tuple #[.agg #[.int .i16 0, .int .i16 0, .int .i16 0, .int .i16 0, .int .i16 0, .int .i16 0], .int .i64 5]) (by simp [results, Tryd.results9, go_sem, q0, q1, q2, q3, q4, q5]) rfl ⟨congrArg Ending.returned HR.out.symm, by repeat (first | (with_reducible exact hW) | (with_reducible refine Below.setCell ?_ (by first | exact Nat.le_refl _ | exact Nat.le_of_lt (by assumption)) _) | (with_reducible refine bA' ?_ (by first | exact Nat.le_of_lt (by assumption) | (simp; omega)) _))⟩
set_option maxHeartbeats 4000000 in
set_option maxRecDepth 100000 in
theorem rs_ok (s : ByteArray) (hs : s.size ≤ 1048576) (w : World) (p0 p1 p2 p3 p4 p5 : List UInt8) (hp : pieces 45 (bL s) = [p0, p1, p2, p3, p4, p5]) (h0 : okD p0 = true) (h1 : okD p1 = true) (h2 : okD p2 = true) (h3 : okD p3 = true) (h4 : okD p4 = true) (h5 : okD p5 = true) : Calls Tryd.prog 9 #[.string s] w (RdQ s w) := by
  have hr := rd_ok hp h0 h1 h2 h3 h4 h5
  have l0 : p0.length ≤ 1048576 := Nat.le_trans (piece_le 45 (bL s) p0 (by simp [hp])) hs
  have l1 : p1.length ≤ 1048576 := Nat.le_trans (piece_le 45 (bL s) p1 (by simp [hp])) hs
  have l2 : p2.length ≤ 1048576 := Nat.le_trans (piece_le 45 (bL s) p2 (by simp [hp])) hs
  have l3 : p3.length ≤ 1048576 := Nat.le_trans (piece_le 45 (bL s) p3 (by simp [hp])) hs
  have l4 : p4.length ≤ 1048576 := Nat.le_trans (piece_le 45 (bL s) p4 (by simp [hp])) hs
  have l5 : p5.length ≤ 1048576 := Nat.le_trans (piece_le 45 (bL s) p5 (by simp [hp])) hs
  have k0 : valL p0 ≤ 1000 := of_decide_eq_true (Bool.and_eq_true_iff.1 h0).2
  generalize v0 : valL p0 = n0 at *
  have H0 := fun W => num_ok n0 h0 v0 l0 W
  clear h0 v0 l0
  have k1 : valL p1 ≤ 1000 := of_decide_eq_true (Bool.and_eq_true_iff.1 h1).2
  generalize v1 : valL p1 = n1 at *
  have H1 := fun W => num_ok n1 h1 v1 l1 W
  clear h1 v1 l1
  have k2 : valL p2 ≤ 1000 := of_decide_eq_true (Bool.and_eq_true_iff.1 h2).2
  generalize v2 : valL p2 = n2 at *
  have H2 := fun W => num_ok n2 h2 v2 l2 W
  clear h2 v2 l2
  have k3 : valL p3 ≤ 1000 := of_decide_eq_true (Bool.and_eq_true_iff.1 h3).2
  generalize v3 : valL p3 = n3 at *
  have H3 := fun W => num_ok n3 h3 v3 l3 W
  clear h3 v3 l3
  have k4 : valL p4 ≤ 1000 := of_decide_eq_true (Bool.and_eq_true_iff.1 h4).2
  generalize v4 : valL p4 = n4 at *
  have H4 := fun W => num_ok n4 h4 v4 l4 W
  clear h4 v4 l4
  have k5 : valL p5 ≤ 1000 := of_decide_eq_true (Bool.and_eq_true_iff.1 h5).2
  generalize v5 : valL p5 = n5 at *
  have H5 := fun W => num_ok n5 h5 v5 l5 W
  clear h5 v5 l5
  have HR := Lib.hid hr
  have HP := Lib.hid hp
  clear hr hp
  go_enter Tryd.func9, Tryd.ntmps9
  go_wp2_with (go_at_call 17; refine (split6 s hs HP.out _).mono ?_; rintro e w1 ⟨g, cap, rfl, hg1, hg2, c0, c1, c2, c3, c4, c5, hb⟩; have hsz : w.heap.size < w1.heap.size := Nat.lt_of_lt_of_le (by simp) hb.size; have q0 : w1.cell? ⟨w.heap.size, 0, none⟩ = some (.int .i16 0) := (hb.cell (p := ⟨w.heap.size, 0, none⟩) (by first | assumption | simp)).trans (by first | assumption | simp); have f0 : w1.frozen? ⟨w.heap.size, 0, none⟩ = false := (hb.frozen (p := ⟨w.heap.size, 0, none⟩) (by first | assumption | simp)).trans (World.frozen?_alloc_at _ _ _ _ rfl); have q1 : w1.cell? ⟨w.heap.size, 1, none⟩ = some (.int .i16 0) := (hb.cell (p := ⟨w.heap.size, 1, none⟩) (by first | assumption | simp)).trans (by first | assumption | simp); have f1 : w1.frozen? ⟨w.heap.size, 1, none⟩ = false := (hb.frozen (p := ⟨w.heap.size, 1, none⟩) (by first | assumption | simp)).trans (World.frozen?_alloc_at _ _ _ _ rfl); have q2 : w1.cell? ⟨w.heap.size, 2, none⟩ = some (.int .i16 0) := (hb.cell (p := ⟨w.heap.size, 2, none⟩) (by first | assumption | simp)).trans (by first | assumption | simp); have f2 : w1.frozen? ⟨w.heap.size, 2, none⟩ = false := (hb.frozen (p := ⟨w.heap.size, 2, none⟩) (by first | assumption | simp)).trans (World.frozen?_alloc_at _ _ _ _ rfl); have q3 : w1.cell? ⟨w.heap.size, 3, none⟩ = some (.int .i16 0) := (hb.cell (p := ⟨w.heap.size, 3, none⟩) (by first | assumption | simp)).trans (by first | assumption | simp); have f3 : w1.frozen? ⟨w.heap.size, 3, none⟩ = false := (hb.frozen (p := ⟨w.heap.size, 3, none⟩) (by first | assumption | simp)).trans (World.frozen?_alloc_at _ _ _ _ rfl); have q4 : w1.cell? ⟨w.heap.size, 4, none⟩ = some (.int .i16 0) := (hb.cell (p := ⟨w.heap.size, 4, none⟩) (by first | assumption | simp)).trans (by first | assumption | simp); have f4 : w1.frozen? ⟨w.heap.size, 4, none⟩ = false := (hb.frozen (p := ⟨w.heap.size, 4, none⟩) (by first | assumption | simp)).trans (World.frozen?_alloc_at _ _ _ _ rfl); have q5 : w1.cell? ⟨w.heap.size, 5, none⟩ = some (.int .i16 0) := (hb.cell (p := ⟨w.heap.size, 5, none⟩) (by first | assumption | simp)).trans (by first | assumption | simp); have f5 : w1.frozen? ⟨w.heap.size, 5, none⟩ = false := (hb.frozen (p := ⟨w.heap.size, 5, none⟩) (by first | assumption | simp)).trans (World.frozen?_alloc_at _ _ _ _ rfl); have hW : Below w.heap.size w w1 := Below.trans (bA (Below.refl _ _) _) (hb.mono (by simp)); have hgn : ¬ g = w1.heap.size := (by omega); have hgm : ¬ g = w.heap.size := (by simp at hg1; omega); clear hb hg1)
  refine wp_loop_rounds 7 ?_
  rw [rounds_succ]
  go_wp2_with (go_at_call 19; refine (H0 _).mono ?_; rintro e w2 ⟨rfl, hw⟩; subst hw)
  rw [rounds_succ]
  go_wp2_with (go_at_call 19; refine (H1 _).mono ?_; rintro e w2 ⟨rfl, hw⟩; subst hw)
  rw [rounds_succ]
  go_wp2_with (go_at_call 19; refine (H2 _).mono ?_; rintro e w2 ⟨rfl, hw⟩; subst hw)
  rw [rounds_succ]
  go_wp2_with (go_at_call 19; refine (H3 _).mono ?_; rintro e w2 ⟨rfl, hw⟩; subst hw)
  rw [rounds_succ]
  go_wp2_with (go_at_call 19; refine (H4 _).mono ?_; rintro e w2 ⟨rfl, hw⟩; subst hw)
  rw [rounds_succ]
  go_wp2_with (go_at_call 19; refine (H5 _).mono ?_; rintro e w2 ⟨rfl, hw⟩; subst hw)
  rw [rounds_succ]
  go_wp2
  exact bodyPost_ret (v := .tuple #[.agg #[.int .i16 n0, .int .i16 n1, .int .i16 n2, .int .i16 n3, .int .i16 n4, .int .i16 n5], .int .i64 0]) (by simp [results, Tryd.results9, go_sem, q0, q1, q2, q3, q4, q5, World.cell?_alloc_lt, hsz]) rfl ⟨congrArg Ending.returned HR.out.symm, by repeat (first | (with_reducible exact hW) | (with_reducible refine Below.setCell ?_ (by first | exact Nat.le_refl _ | exact Nat.le_of_lt (by assumption)) _) | (with_reducible refine bA' ?_ (by first | exact Nat.le_of_lt (by assumption) | (simp; omega)) _))⟩
set_option maxHeartbeats 4000000 in
set_option maxRecDepth 100000 in
theorem rs_0 (s : ByteArray) (hs : s.size ≤ 1048576) (w : World) (p0 p1 p2 p3 p4 p5 : List UInt8) (hp : pieces 45 (bL s) = [p0, p1, p2, p3, p4, p5])  (hx : okD p0 = false) : Calls Tryd.prog 9 #[.string s] w (RdQ s w) := by
  have hr := rd_bad (s := s) (p := p0) (by simp [hp]) hx
  have l0 : p0.length ≤ 1048576 := Nat.le_trans (piece_le 45 (bL s) p0 (by simp [hp])) hs
  have HR := Lib.hid hr
  have HP := Lib.hid hp
  clear hr hp
  rcases okD_parts hx with hx | ⟨hx, hy⟩
  · have Hx := fun W => num_no hx l0 W
    clear hx l0
    go_enter Tryd.func9, Tryd.ntmps9
    go_wp2_with (go_at_call 17; refine (split6 s hs HP.out _).mono ?_; rintro e w1 ⟨g, cap, rfl, hg1, hg2, c0, c1, c2, c3, c4, c5, hb⟩; have hsz : w.heap.size < w1.heap.size := Nat.lt_of_lt_of_le (by simp) hb.size; have q0 : w1.cell? ⟨w.heap.size, 0, none⟩ = some (.int .i16 0) := (hb.cell (p := ⟨w.heap.size, 0, none⟩) (by first | assumption | simp)).trans (by first | assumption | simp); have f0 : w1.frozen? ⟨w.heap.size, 0, none⟩ = false := (hb.frozen (p := ⟨w.heap.size, 0, none⟩) (by first | assumption | simp)).trans (World.frozen?_alloc_at _ _ _ _ rfl); have q1 : w1.cell? ⟨w.heap.size, 1, none⟩ = some (.int .i16 0) := (hb.cell (p := ⟨w.heap.size, 1, none⟩) (by first | assumption | simp)).trans (by first | assumption | simp); have f1 : w1.frozen? ⟨w.heap.size, 1, none⟩ = false := (hb.frozen (p := ⟨w.heap.size, 1, none⟩) (by first | assumption | simp)).trans (World.frozen?_alloc_at _ _ _ _ rfl); have q2 : w1.cell? ⟨w.heap.size, 2, none⟩ = some (.int .i16 0) := (hb.cell (p := ⟨w.heap.size, 2, none⟩) (by first | assumption | simp)).trans (by first | assumption | simp); have f2 : w1.frozen? ⟨w.heap.size, 2, none⟩ = false := (hb.frozen (p := ⟨w.heap.size, 2, none⟩) (by first | assumption | simp)).trans (World.frozen?_alloc_at _ _ _ _ rfl); have q3 : w1.cell? ⟨w.heap.size, 3, none⟩ = some (.int .i16 0) := (hb.cell (p := ⟨w.heap.size, 3, none⟩) (by first | assumption | simp)).trans (by first | assumption | simp); have f3 : w1.frozen? ⟨w.heap.size, 3, none⟩ = false := (hb.frozen (p := ⟨w.heap.size, 3, none⟩) (by first | assumption | simp)).trans (World.frozen?_alloc_at _ _ _ _ rfl); have q4 : w1.cell? ⟨w.heap.size, 4, none⟩ = some (.int .i16 0) := (hb.cell (p := ⟨w.heap.size, 4, none⟩) (by first | assumption | simp)).trans (by first | assumption | simp); have f4 : w1.frozen? ⟨w.heap.size, 4, none⟩ = false := (hb.frozen (p := ⟨w.heap.size, 4, none⟩) (by first | assumption | simp)).trans (World.frozen?_alloc_at _ _ _ _ rfl); have q5 : w1.cell? ⟨w.heap.size, 5, none⟩ = some (.int .i16 0) := (hb.cell (p := ⟨w.heap.size, 5, none⟩) (by first | assumption | simp)).trans (by first | assumption | simp); have f5 : w1.frozen? ⟨w.heap.size, 5, none⟩ = false := (hb.frozen (p := ⟨w.heap.size, 5, none⟩) (by first | assumption | simp)).trans (World.frozen?_alloc_at _ _ _ _ rfl); have hW : Below w.heap.size w w1 := Below.trans (bA (Below.refl _ _) _) (hb.mono (by simp)); have hgn : ¬ g = w1.heap.size := (by omega); have hgm : ¬ g = w.heap.size := (by simp at hg1; omega); clear hb hg1)
    refine wp_loop_rounds 7 ?_
    rw [rounds_succ]
    go_wp2_with (go_at_call 19; refine (Hx _).mono ?_; rintro e w2 ⟨rfl, hw⟩; subst hw)
    exact bodyPost_ret (v := .tuple #[.agg #[.int .i16 0, .int .i16 0, .int .i16 0, .int .i16 0, .int .i16 0, .int .i16 0], .int .i64 5]) (by simp [results, Tryd.results9, go_sem, q0, q1, q2, q3, q4, q5, World.cell?_alloc_lt, hsz]) rfl ⟨congrArg Ending.returned HR.out.symm, by repeat (first | (with_reducible exact hW) | (with_reducible refine Below.setCell ?_ (by first | exact Nat.le_refl _ | exact Nat.le_of_lt (by assumption)) _) | (with_reducible refine bA' ?_ (by first | exact Nat.le_of_lt (by assumption) | (simp; omega)) _))⟩
  · generalize vx : valL p0 = nx at *
    have Hx := fun W => num_big nx hx vx l0 W
    clear hx vx l0
    go_enter Tryd.func9, Tryd.ntmps9
    go_wp2_with (go_at_call 17; refine (split6 s hs HP.out _).mono ?_; rintro e w1 ⟨g, cap, rfl, hg1, hg2, c0, c1, c2, c3, c4, c5, hb⟩; have hsz : w.heap.size < w1.heap.size := Nat.lt_of_lt_of_le (by simp) hb.size; have q0 : w1.cell? ⟨w.heap.size, 0, none⟩ = some (.int .i16 0) := (hb.cell (p := ⟨w.heap.size, 0, none⟩) (by first | assumption | simp)).trans (by first | assumption | simp); have f0 : w1.frozen? ⟨w.heap.size, 0, none⟩ = false := (hb.frozen (p := ⟨w.heap.size, 0, none⟩) (by first | assumption | simp)).trans (World.frozen?_alloc_at _ _ _ _ rfl); have q1 : w1.cell? ⟨w.heap.size, 1, none⟩ = some (.int .i16 0) := (hb.cell (p := ⟨w.heap.size, 1, none⟩) (by first | assumption | simp)).trans (by first | assumption | simp); have f1 : w1.frozen? ⟨w.heap.size, 1, none⟩ = false := (hb.frozen (p := ⟨w.heap.size, 1, none⟩) (by first | assumption | simp)).trans (World.frozen?_alloc_at _ _ _ _ rfl); have q2 : w1.cell? ⟨w.heap.size, 2, none⟩ = some (.int .i16 0) := (hb.cell (p := ⟨w.heap.size, 2, none⟩) (by first | assumption | simp)).trans (by first | assumption | simp); have f2 : w1.frozen? ⟨w.heap.size, 2, none⟩ = false := (hb.frozen (p := ⟨w.heap.size, 2, none⟩) (by first | assumption | simp)).trans (World.frozen?_alloc_at _ _ _ _ rfl); have q3 : w1.cell? ⟨w.heap.size, 3, none⟩ = some (.int .i16 0) := (hb.cell (p := ⟨w.heap.size, 3, none⟩) (by first | assumption | simp)).trans (by first | assumption | simp); have f3 : w1.frozen? ⟨w.heap.size, 3, none⟩ = false := (hb.frozen (p := ⟨w.heap.size, 3, none⟩) (by first | assumption | simp)).trans (World.frozen?_alloc_at _ _ _ _ rfl); have q4 : w1.cell? ⟨w.heap.size, 4, none⟩ = some (.int .i16 0) := (hb.cell (p := ⟨w.heap.size, 4, none⟩) (by first | assumption | simp)).trans (by first | assumption | simp); have f4 : w1.frozen? ⟨w.heap.size, 4, none⟩ = false := (hb.frozen (p := ⟨w.heap.size, 4, none⟩) (by first | assumption | simp)).trans (World.frozen?_alloc_at _ _ _ _ rfl); have q5 : w1.cell? ⟨w.heap.size, 5, none⟩ = some (.int .i16 0) := (hb.cell (p := ⟨w.heap.size, 5, none⟩) (by first | assumption | simp)).trans (by first | assumption | simp); have f5 : w1.frozen? ⟨w.heap.size, 5, none⟩ = false := (hb.frozen (p := ⟨w.heap.size, 5, none⟩) (by first | assumption | simp)).trans (World.frozen?_alloc_at _ _ _ _ rfl); have hW : Below w.heap.size w w1 := Below.trans (bA (Below.refl _ _) _) (hb.mono (by simp)); have hgn : ¬ g = w1.heap.size := (by omega); have hgm : ¬ g = w.heap.size := (by simp at hg1; omega); clear hb hg1)
    refine wp_loop_rounds 7 ?_
    rw [rounds_succ]
    go_wp2_with (go_at_call 19; refine (Hx _).mono ?_; rintro e w2 ⟨rfl, hw⟩; subst hw)
    exact bodyPost_ret (v := .tuple #[.agg #[.int .i16 0, .int .i16 0, .int .i16 0, .int .i16 0, .int .i16 0, .int .i16 0], .int .i64 5]) (by simp [results, Tryd.results9, go_sem, q0, q1, q2, q3, q4, q5, World.cell?_alloc_lt, hsz]) rfl ⟨congrArg Ending.returned HR.out.symm, by repeat (first | (with_reducible exact hW) | (with_reducible refine Below.setCell ?_ (by first | exact Nat.le_refl _ | exact Nat.le_of_lt (by assumption)) _) | (with_reducible refine bA' ?_ (by first | exact Nat.le_of_lt (by assumption) | (simp; omega)) _))⟩
set_option maxHeartbeats 4000000 in
set_option maxRecDepth 100000 in
theorem rs_1 (s : ByteArray) (hs : s.size ≤ 1048576) (w : World) (p0 p1 p2 p3 p4 p5 : List UInt8) (hp : pieces 45 (bL s) = [p0, p1, p2, p3, p4, p5]) (h0 : okD p0 = true) (hx : okD p1 = false) : Calls Tryd.prog 9 #[.string s] w (RdQ s w) := by
  have hr := rd_bad (s := s) (p := p1) (by simp [hp]) hx
  have l0 : p0.length ≤ 1048576 := Nat.le_trans (piece_le 45 (bL s) p0 (by simp [hp])) hs
  have l1 : p1.length ≤ 1048576 := Nat.le_trans (piece_le 45 (bL s) p1 (by simp [hp])) hs
  have k0 : valL p0 ≤ 1000 := of_decide_eq_true (Bool.and_eq_true_iff.1 h0).2
  generalize v0 : valL p0 = n0 at *
  have H0 := fun W => num_ok n0 h0 v0 l0 W
  clear h0 v0 l0
  have HR := Lib.hid hr
  have HP := Lib.hid hp
  clear hr hp
  rcases okD_parts hx with hx | ⟨hx, hy⟩
  · have Hx := fun W => num_no hx l1 W
    clear hx l1
    go_enter Tryd.func9, Tryd.ntmps9
    go_wp2_with (go_at_call 17; refine (split6 s hs HP.out _).mono ?_; rintro e w1 ⟨g, cap, rfl, hg1, hg2, c0, c1, c2, c3, c4, c5, hb⟩; have hsz : w.heap.size < w1.heap.size := Nat.lt_of_lt_of_le (by simp) hb.size; have q0 : w1.cell? ⟨w.heap.size, 0, none⟩ = some (.int .i16 0) := (hb.cell (p := ⟨w.heap.size, 0, none⟩) (by first | assumption | simp)).trans (by first | assumption | simp); have f0 : w1.frozen? ⟨w.heap.size, 0, none⟩ = false := (hb.frozen (p := ⟨w.heap.size, 0, none⟩) (by first | assumption | simp)).trans (World.frozen?_alloc_at _ _ _ _ rfl); have q1 : w1.cell? ⟨w.heap.size, 1, none⟩ = some (.int .i16 0) := (hb.cell (p := ⟨w.heap.size, 1, none⟩) (by first | assumption | simp)).trans (by first | assumption | simp); have f1 : w1.frozen? ⟨w.heap.size, 1, none⟩ = false := (hb.frozen (p := ⟨w.heap.size, 1, none⟩) (by first | assumption | simp)).trans (World.frozen?_alloc_at _ _ _ _ rfl); have q2 : w1.cell? ⟨w.heap.size, 2, none⟩ = some (.int .i16 0) := (hb.cell (p := ⟨w.heap.size, 2, none⟩) (by first | assumption | simp)).trans (by first | assumption | simp); have f2 : w1.frozen? ⟨w.heap.size, 2, none⟩ = false := (hb.frozen (p := ⟨w.heap.size, 2, none⟩) (by first | assumption | simp)).trans (World.frozen?_alloc_at _ _ _ _ rfl); have q3 : w1.cell? ⟨w.heap.size, 3, none⟩ = some (.int .i16 0) := (hb.cell (p := ⟨w.heap.size, 3, none⟩) (by first | assumption | simp)).trans (by first | assumption | simp); have f3 : w1.frozen? ⟨w.heap.size, 3, none⟩ = false := (hb.frozen (p := ⟨w.heap.size, 3, none⟩) (by first | assumption | simp)).trans (World.frozen?_alloc_at _ _ _ _ rfl); have q4 : w1.cell? ⟨w.heap.size, 4, none⟩ = some (.int .i16 0) := (hb.cell (p := ⟨w.heap.size, 4, none⟩) (by first | assumption | simp)).trans (by first | assumption | simp); have f4 : w1.frozen? ⟨w.heap.size, 4, none⟩ = false := (hb.frozen (p := ⟨w.heap.size, 4, none⟩) (by first | assumption | simp)).trans (World.frozen?_alloc_at _ _ _ _ rfl); have q5 : w1.cell? ⟨w.heap.size, 5, none⟩ = some (.int .i16 0) := (hb.cell (p := ⟨w.heap.size, 5, none⟩) (by first | assumption | simp)).trans (by first | assumption | simp); have f5 : w1.frozen? ⟨w.heap.size, 5, none⟩ = false := (hb.frozen (p := ⟨w.heap.size, 5, none⟩) (by first | assumption | simp)).trans (World.frozen?_alloc_at _ _ _ _ rfl); have hW : Below w.heap.size w w1 := Below.trans (bA (Below.refl _ _) _) (hb.mono (by simp)); have hgn : ¬ g = w1.heap.size := (by omega); have hgm : ¬ g = w.heap.size := (by simp at hg1; omega); clear hb hg1)
    refine wp_loop_rounds 7 ?_
    rw [rounds_succ]
    go_wp2_with (go_at_call 19; refine (H0 _).mono ?_; rintro e w2 ⟨rfl, hw⟩; subst hw)
    rw [rounds_succ]
    go_wp2_with (go_at_call 19; refine (Hx _).mono ?_; rintro e w2 ⟨rfl, hw⟩; subst hw)
    exact bodyPost_ret (v := .tuple #[.agg #[.int .i16 0, .int .i16 0, .int .i16 0, .int .i16 0, .int .i16 0, .int .i16 0], .int .i64 5]) (by simp [results, Tryd.results9, go_sem, q0, q1, q2, q3, q4, q5, World.cell?_alloc_lt, hsz]) rfl ⟨congrArg Ending.returned HR.out.symm, by repeat (first | (with_reducible exact hW) | (with_reducible refine Below.setCell ?_ (by first | exact Nat.le_refl _ | exact Nat.le_of_lt (by assumption)) _) | (with_reducible refine bA' ?_ (by first | exact Nat.le_of_lt (by assumption) | (simp; omega)) _))⟩
  · generalize vx : valL p1 = nx at *
    have Hx := fun W => num_big nx hx vx l1 W
    clear hx vx l1
    go_enter Tryd.func9, Tryd.ntmps9
    go_wp2_with (go_at_call 17; refine (split6 s hs HP.out _).mono ?_; rintro e w1 ⟨g, cap, rfl, hg1, hg2, c0, c1, c2, c3, c4, c5, hb⟩; have hsz : w.heap.size < w1.heap.size := Nat.lt_of_lt_of_le (by simp) hb.size; have q0 : w1.cell? ⟨w.heap.size, 0, none⟩ = some (.int .i16 0) := (hb.cell (p := ⟨w.heap.size, 0, none⟩) (by first | assumption | simp)).trans (by first | assumption | simp); have f0 : w1.frozen? ⟨w.heap.size, 0, none⟩ = false := (hb.frozen (p := ⟨w.heap.size, 0, none⟩) (by first | assumption | simp)).trans (World.frozen?_alloc_at _ _ _ _ rfl); have q1 : w1.cell? ⟨w.heap.size, 1, none⟩ = some (.int .i16 0) := (hb.cell (p := ⟨w.heap.size, 1, none⟩) (by first | assumption | simp)).trans (by first | assumption | simp); have f1 : w1.frozen? ⟨w.heap.size, 1, none⟩ = false := (hb.frozen (p := ⟨w.heap.size, 1, none⟩) (by first | assumption | simp)).trans (World.frozen?_alloc_at _ _ _ _ rfl); have q2 : w1.cell? ⟨w.heap.size, 2, none⟩ = some (.int .i16 0) := (hb.cell (p := ⟨w.heap.size, 2, none⟩) (by first | assumption | simp)).trans (by first | assumption | simp); have f2 : w1.frozen? ⟨w.heap.size, 2, none⟩ = false := (hb.frozen (p := ⟨w.heap.size, 2, none⟩) (by first | assumption | simp)).trans (World.frozen?_alloc_at _ _ _ _ rfl); have q3 : w1.cell? ⟨w.heap.size, 3, none⟩ = some (.int .i16 0) := (hb.cell (p := ⟨w.heap.size, 3, none⟩) (by first | assumption | simp)).trans (by first | assumption | simp); have f3 : w1.frozen? ⟨w.heap.size, 3, none⟩ = false := (hb.frozen (p := ⟨w.heap.size, 3, none⟩) (by first | assumption | simp)).trans (World.frozen?_alloc_at _ _ _ _ rfl); have q4 : w1.cell? ⟨w.heap.size, 4, none⟩ = some (.int .i16 0) := (hb.cell (p := ⟨w.heap.size, 4, none⟩) (by first | assumption | simp)).trans (by first | assumption | simp); have f4 : w1.frozen? ⟨w.heap.size, 4, none⟩ = false := (hb.frozen (p := ⟨w.heap.size, 4, none⟩) (by first | assumption | simp)).trans (World.frozen?_alloc_at _ _ _ _ rfl); have q5 : w1.cell? ⟨w.heap.size, 5, none⟩ = some (.int .i16 0) := (hb.cell (p := ⟨w.heap.size, 5, none⟩) (by first | assumption | simp)).trans (by first | assumption | simp); have f5 : w1.frozen? ⟨w.heap.size, 5, none⟩ = false := (hb.frozen (p := ⟨w.heap.size, 5, none⟩) (by first | assumption | simp)).trans (World.frozen?_alloc_at _ _ _ _ rfl); have hW : Below w.heap.size w w1 := Below.trans (bA (Below.refl _ _) _) (hb.mono (by simp)); have hgn : ¬ g = w1.heap.size := (by omega); have hgm : ¬ g = w.heap.size := (by simp at hg1; omega); clear hb hg1)
    refine wp_loop_rounds 7 ?_
    rw [rounds_succ]
    go_wp2_with (go_at_call 19; refine (H0 _).mono ?_; rintro e w2 ⟨rfl, hw⟩; subst hw)
    rw [rounds_succ]
    go_wp2_with (go_at_call 19; refine (Hx _).mono ?_; rintro e w2 ⟨rfl, hw⟩; subst hw)
    exact bodyPost_ret (v := .tuple #[.agg #[.int .i16 0, .int .i16 0, .int .i16 0, .int .i16 0, .int .i16 0, .int .i16 0], .int .i64 5]) (by simp [results, Tryd.results9, go_sem, q0, q1, q2, q3, q4, q5, World.cell?_alloc_lt, hsz]) rfl ⟨congrArg Ending.returned HR.out.symm, by repeat (first | (with_reducible exact hW) | (with_reducible refine Below.setCell ?_ (by first | exact Nat.le_refl _ | exact Nat.le_of_lt (by assumption)) _) | (with_reducible refine bA' ?_ (by first | exact Nat.le_of_lt (by assumption) | (simp; omega)) _))⟩
set_option maxHeartbeats 4000000 in
set_option maxRecDepth 100000 in
theorem rs_2 (s : ByteArray) (hs : s.size ≤ 1048576) (w : World) (p0 p1 p2 p3 p4 p5 : List UInt8) (hp : pieces 45 (bL s) = [p0, p1, p2, p3, p4, p5]) (h0 : okD p0 = true) (h1 : okD p1 = true) (hx : okD p2 = false) : Calls Tryd.prog 9 #[.string s] w (RdQ s w) := by
  have hr := rd_bad (s := s) (p := p2) (by simp [hp]) hx
  have l0 : p0.length ≤ 1048576 := Nat.le_trans (piece_le 45 (bL s) p0 (by simp [hp])) hs
  have l1 : p1.length ≤ 1048576 := Nat.le_trans (piece_le 45 (bL s) p1 (by simp [hp])) hs
  have l2 : p2.length ≤ 1048576 := Nat.le_trans (piece_le 45 (bL s) p2 (by simp [hp])) hs
  have k0 : valL p0 ≤ 1000 := of_decide_eq_true (Bool.and_eq_true_iff.1 h0).2
  generalize v0 : valL p0 = n0 at *
  have H0 := fun W => num_ok n0 h0 v0 l0 W
  clear h0 v0 l0
  have k1 : valL p1 ≤ 1000 := of_decide_eq_true (Bool.and_eq_true_iff.1 h1).2
  generalize v1 : valL p1 = n1 at *
  have H1 := fun W => num_ok n1 h1 v1 l1 W
  clear h1 v1 l1
  have HR := Lib.hid hr
  have HP := Lib.hid hp
  clear hr hp
  rcases okD_parts hx with hx | ⟨hx, hy⟩
  · have Hx := fun W => num_no hx l2 W
    clear hx l2
    go_enter Tryd.func9, Tryd.ntmps9
    go_wp2_with (go_at_call 17; refine (split6 s hs HP.out _).mono ?_; rintro e w1 ⟨g, cap, rfl, hg1, hg2, c0, c1, c2, c3, c4, c5, hb⟩; have hsz : w.heap.size < w1.heap.size := Nat.lt_of_lt_of_le (by simp) hb.size; have q0 : w1.cell? ⟨w.heap.size, 0, none⟩ = some (.int .i16 0) := (hb.cell (p := ⟨w.heap.size, 0, none⟩) (by first | assumption | simp)).trans (by first | assumption | simp); have f0 : w1.frozen? ⟨w.heap.size, 0, none⟩ = false := (hb.frozen (p := ⟨w.heap.size, 0, none⟩) (by first | assumption | simp)).trans (World.frozen?_alloc_at _ _ _ _ rfl); have q1 : w1.cell? ⟨w.heap.size, 1, none⟩ = some (.int .i16 0) := (hb.cell (p := ⟨w.heap.size, 1, none⟩) (by first | assumption | simp)).trans (by first | assumption | simp); have f1 : w1.frozen? ⟨w.heap.size, 1, none⟩ = false := (hb.frozen (p := ⟨w.heap.size, 1, none⟩) (by first | assumption | simp)).trans (World.frozen?_alloc_at _ _ _ _ rfl); have q2 : w1.cell? ⟨w.heap.size, 2, none⟩ = some (.int .i16 0) := (hb.cell (p := ⟨w.heap.size, 2, none⟩) (by first | assumption | simp)).trans (by first | assumption | simp); have f2 : w1.frozen? ⟨w.heap.size, 2, none⟩ = false := (hb.frozen (p := ⟨w.heap.size, 2, none⟩) (by first | assumption | simp)).trans (World.frozen?_alloc_at _ _ _ _ rfl); have q3 : w1.cell? ⟨w.heap.size, 3, none⟩ = some (.int .i16 0) := (hb.cell (p := ⟨w.heap.size, 3, none⟩) (by first | assumption | simp)).trans (by first | assumption | simp); have f3 : w1.frozen? ⟨w.heap.size, 3, none⟩ = false := (hb.frozen (p := ⟨w.heap.size, 3, none⟩) (by first | assumption | simp)).trans (World.frozen?_alloc_at _ _ _ _ rfl); have q4 : w1.cell? ⟨w.heap.size, 4, none⟩ = some (.int .i16 0) := (hb.cell (p := ⟨w.heap.size, 4, none⟩) (by first | assumption | simp)).trans (by first | assumption | simp); have f4 : w1.frozen? ⟨w.heap.size, 4, none⟩ = false := (hb.frozen (p := ⟨w.heap.size, 4, none⟩) (by first | assumption | simp)).trans (World.frozen?_alloc_at _ _ _ _ rfl); have q5 : w1.cell? ⟨w.heap.size, 5, none⟩ = some (.int .i16 0) := (hb.cell (p := ⟨w.heap.size, 5, none⟩) (by first | assumption | simp)).trans (by first | assumption | simp); have f5 : w1.frozen? ⟨w.heap.size, 5, none⟩ = false := (hb.frozen (p := ⟨w.heap.size, 5, none⟩) (by first | assumption | simp)).trans (World.frozen?_alloc_at _ _ _ _ rfl); have hW : Below w.heap.size w w1 := Below.trans (bA (Below.refl _ _) _) (hb.mono (by simp)); have hgn : ¬ g = w1.heap.size := (by omega); have hgm : ¬ g = w.heap.size := (by simp at hg1; omega); clear hb hg1)
    refine wp_loop_rounds 7 ?_
    rw [rounds_succ]
    go_wp2_with (go_at_call 19; refine (H0 _).mono ?_; rintro e w2 ⟨rfl, hw⟩; subst hw)
    rw [rounds_succ]
    go_wp2_with (go_at_call 19; refine (H1 _).mono ?_; rintro e w2 ⟨rfl, hw⟩; subst hw)
    rw [rounds_succ]
    go_wp2_with (go_at_call 19; refine (Hx _).mono ?_; rintro e w2 ⟨rfl, hw⟩; subst hw)
    exact bodyPost_ret (v := .tuple #[.agg #[.int .i16 0, .int .i16 0, .int .i16 0, .int .i16 0, .int .i16 0, .int .i16 0], .int .i64 5]) (by simp [results, Tryd.results9, go_sem, q0, q1, q2, q3, q4, q5, World.cell?_alloc_lt, hsz]) rfl ⟨congrArg Ending.returned HR.out.symm, by repeat (first | (with_reducible exact hW) | (with_reducible refine Below.setCell ?_ (by first | exact Nat.le_refl _ | exact Nat.le_of_lt (by assumption)) _) | (with_reducible refine bA' ?_ (by first | exact Nat.le_of_lt (by assumption) | (simp; omega)) _))⟩
  · generalize vx : valL p2 = nx at *
    have Hx := fun W => num_big nx hx vx l2 W
    clear hx vx l2
    go_enter Tryd.func9, Tryd.ntmps9
    go_wp2_with (go_at_call 17; refine (split6 s hs HP.out _).mono ?_; rintro e w1 ⟨g, cap, rfl, hg1, hg2, c0, c1, c2, c3, c4, c5, hb⟩; have hsz : w.heap.size < w1.heap.size := Nat.lt_of_lt_of_le (by simp) hb.size; have q0 : w1.cell? ⟨w.heap.size, 0, none⟩ = some (.int .i16 0) := (hb.cell (p := ⟨w.heap.size, 0, none⟩) (by first | assumption | simp)).trans (by first | assumption | simp); have f0 : w1.frozen? ⟨w.heap.size, 0, none⟩ = false := (hb.frozen (p := ⟨w.heap.size, 0, none⟩) (by first | assumption | simp)).trans (World.frozen?_alloc_at _ _ _ _ rfl); have q1 : w1.cell? ⟨w.heap.size, 1, none⟩ = some (.int .i16 0) := (hb.cell (p := ⟨w.heap.size, 1, none⟩) (by first | assumption | simp)).trans (by first | assumption | simp); have f1 : w1.frozen? ⟨w.heap.size, 1, none⟩ = false := (hb.frozen (p := ⟨w.heap.size, 1, none⟩) (by first | assumption | simp)).trans (World.frozen?_alloc_at _ _ _ _ rfl); have q2 : w1.cell? ⟨w.heap.size, 2, none⟩ = some (.int .i16 0) := (hb.cell (p := ⟨w.heap.size, 2, none⟩) (by first | assumption | simp)).trans (by first | assumption | simp); have f2 : w1.frozen? ⟨w.heap.size, 2, none⟩ = false := (hb.frozen (p := ⟨w.heap.size, 2, none⟩) (by first | assumption | simp)).trans (World.frozen?_alloc_at _ _ _ _ rfl); have q3 : w1.cell? ⟨w.heap.size, 3, none⟩ = some (.int .i16 0) := (hb.cell (p := ⟨w.heap.size, 3, none⟩) (by first | assumption | simp)).trans (by first | assumption | simp); have f3 : w1.frozen? ⟨w.heap.size, 3, none⟩ = false := (hb.frozen (p := ⟨w.heap.size, 3, none⟩) (by first | assumption | simp)).trans (World.frozen?_alloc_at _ _ _ _ rfl); have q4 : w1.cell? ⟨w.heap.size, 4, none⟩ = some (.int .i16 0) := (hb.cell (p := ⟨w.heap.size, 4, none⟩) (by first | assumption | simp)).trans (by first | assumption | simp); have f4 : w1.frozen? ⟨w.heap.size, 4, none⟩ = false := (hb.frozen (p := ⟨w.heap.size, 4, none⟩) (by first | assumption | simp)).trans (World.frozen?_alloc_at _ _ _ _ rfl); have q5 : w1.cell? ⟨w.heap.size, 5, none⟩ = some (.int .i16 0) := (hb.cell (p := ⟨w.heap.size, 5, none⟩) (by first | assumption | simp)).trans (by first | assumption | simp); have f5 : w1.frozen? ⟨w.heap.size, 5, none⟩ = false := (hb.frozen (p := ⟨w.heap.size, 5, none⟩) (by first | assumption | simp)).trans (World.frozen?_alloc_at _ _ _ _ rfl); have hW : Below w.heap.size w w1 := Below.trans (bA (Below.refl _ _) _) (hb.mono (by simp)); have hgn : ¬ g = w1.heap.size := (by omega); have hgm : ¬ g = w.heap.size := (by simp at hg1; omega); clear hb hg1)
    refine wp_loop_rounds 7 ?_
    rw [rounds_succ]
    go_wp2_with (go_at_call 19; refine (H0 _).mono ?_; rintro e w2 ⟨rfl, hw⟩; subst hw)
    rw [rounds_succ]
    go_wp2_with (go_at_call 19; refine (H1 _).mono ?_; rintro e w2 ⟨rfl, hw⟩; subst hw)
    rw [rounds_succ]
    go_wp2_with (go_at_call 19; refine (Hx _).mono ?_; rintro e w2 ⟨rfl, hw⟩; subst hw)
    exact bodyPost_ret (v := .tuple #[.agg #[.int .i16 0, .int .i16 0, .int .i16 0, .int .i16 0, .int .i16 0, .int .i16 0], .int .i64 5]) (by simp [results, Tryd.results9, go_sem, q0, q1, q2, q3, q4, q5, World.cell?_alloc_lt, hsz]) rfl ⟨congrArg Ending.returned HR.out.symm, by repeat (first | (with_reducible exact hW) | (with_reducible refine Below.setCell ?_ (by first | exact Nat.le_refl _ | exact Nat.le_of_lt (by assumption)) _) | (with_reducible refine bA' ?_ (by first | exact Nat.le_of_lt (by assumption) | (simp; omega)) _))⟩
set_option maxHeartbeats 4000000 in
set_option maxRecDepth 100000 in
theorem rs_3 (s : ByteArray) (hs : s.size ≤ 1048576) (w : World) (p0 p1 p2 p3 p4 p5 : List UInt8) (hp : pieces 45 (bL s) = [p0, p1, p2, p3, p4, p5]) (h0 : okD p0 = true) (h1 : okD p1 = true) (h2 : okD p2 = true) (hx : okD p3 = false) : Calls Tryd.prog 9 #[.string s] w (RdQ s w) := by
  have hr := rd_bad (s := s) (p := p3) (by simp [hp]) hx
  have l0 : p0.length ≤ 1048576 := Nat.le_trans (piece_le 45 (bL s) p0 (by simp [hp])) hs
  have l1 : p1.length ≤ 1048576 := Nat.le_trans (piece_le 45 (bL s) p1 (by simp [hp])) hs
  have l2 : p2.length ≤ 1048576 := Nat.le_trans (piece_le 45 (bL s) p2 (by simp [hp])) hs
  have l3 : p3.length ≤ 1048576 := Nat.le_trans (piece_le 45 (bL s) p3 (by simp [hp])) hs
  have k0 : valL p0 ≤ 1000 := of_decide_eq_true (Bool.and_eq_true_iff.1 h0).2
  generalize v0 : valL p0 = n0 at *
  have H0 := fun W => num_ok n0 h0 v0 l0 W
  clear h0 v0 l0
  have k1 : valL p1 ≤ 1000 := of_decide_eq_true (Bool.and_eq_true_iff.1 h1).2
  generalize v1 : valL p1 = n1 at *
  have H1 := fun W => num_ok n1 h1 v1 l1 W
  clear h1 v1 l1
  have k2 : valL p2 ≤ 1000 := of_decide_eq_true (Bool.and_eq_true_iff.1 h2).2
  generalize v2 : valL p2 = n2 at *
  have H2 := fun W => num_ok n2 h2 v2 l2 W
  clear h2 v2 l2
  have HR := Lib.hid hr
  have HP := Lib.hid hp
  clear hr hp
  rcases okD_parts hx with hx | ⟨hx, hy⟩
  · have Hx := fun W => num_no hx l3 W
    clear hx l3
    go_enter Tryd.func9, Tryd.ntmps9
    go_wp2_with (go_at_call 17; refine (split6 s hs HP.out _).mono ?_; rintro e w1 ⟨g, cap, rfl, hg1, hg2, c0, c1, c2, c3, c4, c5, hb⟩; have hsz : w.heap.size < w1.heap.size := Nat.lt_of_lt_of_le (by simp) hb.size; have q0 : w1.cell? ⟨w.heap.size, 0, none⟩ = some (.int .i16 0) := (hb.cell (p := ⟨w.heap.size, 0, none⟩) (by first | assumption | simp)).trans (by first | assumption | simp); have f0 : w1.frozen? ⟨w.heap.size, 0, none⟩ = false := (hb.frozen (p := ⟨w.heap.size, 0, none⟩) (by first | assumption | simp)).trans (World.frozen?_alloc_at _ _ _ _ rfl); have q1 : w1.cell? ⟨w.heap.size, 1, none⟩ = some (.int .i16 0) := (hb.cell (p := ⟨w.heap.size, 1, none⟩) (by first | assumption | simp)).trans (by first | assumption | simp); have f1 : w1.frozen? ⟨w.heap.size, 1, none⟩ = false := (hb.frozen (p := ⟨w.heap.size, 1, none⟩) (by first | assumption | simp)).trans (World.frozen?_alloc_at _ _ _ _ rfl); have q2 : w1.cell? ⟨w.heap.size, 2, none⟩ = some (.int .i16 0) := (hb.cell (p := ⟨w.heap.size, 2, none⟩) (by first | assumption | simp)).trans (by first | assumption | simp); have f2 : w1.frozen? ⟨w.heap.size, 2, none⟩ = false := (hb.frozen (p := ⟨w.heap.size, 2, none⟩) (by first | assumption | simp)).trans (World.frozen?_alloc_at _ _ _ _ rfl); have q3 : w1.cell? ⟨w.heap.size, 3, none⟩ = some (.int .i16 0) := (hb.cell (p := ⟨w.heap.size, 3, none⟩) (by first | assumption | simp)).trans (by first | assumption | simp); have f3 : w1.frozen? ⟨w.heap.size, 3, none⟩ = false := (hb.frozen (p := ⟨w.heap.size, 3, none⟩) (by first | assumption | simp)).trans (World.frozen?_alloc_at _ _ _ _ rfl); have q4 : w1.cell? ⟨w.heap.size, 4, none⟩ = some (.int .i16 0) := (hb.cell (p := ⟨w.heap.size, 4, none⟩) (by first | assumption | simp)).trans (by first | assumption | simp); have f4 : w1.frozen? ⟨w.heap.size, 4, none⟩ = false := (hb.frozen (p := ⟨w.heap.size, 4, none⟩) (by first | assumption | simp)).trans (World.frozen?_alloc_at _ _ _ _ rfl); have q5 : w1.cell? ⟨w.heap.size, 5, none⟩ = some (.int .i16 0) := (hb.cell (p := ⟨w.heap.size, 5, none⟩) (by first | assumption | simp)).trans (by first | assumption | simp); have f5 : w1.frozen? ⟨w.heap.size, 5, none⟩ = false := (hb.frozen (p := ⟨w.heap.size, 5, none⟩) (by first | assumption | simp)).trans (World.frozen?_alloc_at _ _ _ _ rfl); have hW : Below w.heap.size w w1 := Below.trans (bA (Below.refl _ _) _) (hb.mono (by simp)); have hgn : ¬ g = w1.heap.size := (by omega); have hgm : ¬ g = w.heap.size := (by simp at hg1; omega); clear hb hg1)
    refine wp_loop_rounds 7 ?_
    rw [rounds_succ]
    go_wp2_with (go_at_call 19; refine (H0 _).mono ?_; rintro e w2 ⟨rfl, hw⟩; subst hw)
    rw [rounds_succ]
    go_wp2_with (go_at_call 19; refine (H1 _).mono ?_; rintro e w2 ⟨rfl, hw⟩; subst hw)
    rw [rounds_succ]
    go_wp2_with (go_at_call 19; refine (H2 _).mono ?_; rintro e w2 ⟨rfl, hw⟩; subst hw)
    rw [rounds_succ]
    go_wp2_with (go_at_call 19; refine (Hx _).mono ?_; rintro e w2 ⟨rfl, hw⟩; subst hw)
    exact bodyPost_ret (v := .tuple #[.agg #[.int .i16 0, .int .i16 0, .int .i16 0, .int .i16 0, .int .i16 0, .int .i16 0], .int .i64 5]) (by simp [results, Tryd.results9, go_sem, q0, q1, q2, q3, q4, q5, World.cell?_alloc_lt, hsz]) rfl ⟨congrArg Ending.returned HR.out.symm, by repeat (first | (with_reducible exact hW) | (with_reducible refine Below.setCell ?_ (by first | exact Nat.le_refl _ | exact Nat.le_of_lt (by assumption)) _) | (with_reducible refine bA' ?_ (by first | exact Nat.le_of_lt (by assumption) | (simp; omega)) _))⟩
  · generalize vx : valL p3 = nx at *
    have Hx := fun W => num_big nx hx vx l3 W
    clear hx vx l3
    go_enter Tryd.func9, Tryd.ntmps9
    go_wp2_with (go_at_call 17; refine (split6 s hs HP.out _).mono ?_; rintro e w1 ⟨g, cap, rfl, hg1, hg2, c0, c1, c2, c3, c4, c5, hb⟩; have hsz : w.heap.size < w1.heap.size := Nat.lt_of_lt_of_le (by simp) hb.size; have q0 : w1.cell? ⟨w.heap.size, 0, none⟩ = some (.int .i16 0) := (hb.cell (p := ⟨w.heap.size, 0, none⟩) (by first | assumption | simp)).trans (by first | assumption | simp); have f0 : w1.frozen? ⟨w.heap.size, 0, none⟩ = false := (hb.frozen (p := ⟨w.heap.size, 0, none⟩) (by first | assumption | simp)).trans (World.frozen?_alloc_at _ _ _ _ rfl); have q1 : w1.cell? ⟨w.heap.size, 1, none⟩ = some (.int .i16 0) := (hb.cell (p := ⟨w.heap.size, 1, none⟩) (by first | assumption | simp)).trans (by first | assumption | simp); have f1 : w1.frozen? ⟨w.heap.size, 1, none⟩ = false := (hb.frozen (p := ⟨w.heap.size, 1, none⟩) (by first | assumption | simp)).trans (World.frozen?_alloc_at _ _ _ _ rfl); have q2 : w1.cell? ⟨w.heap.size, 2, none⟩ = some (.int .i16 0) := (hb.cell (p := ⟨w.heap.size, 2, none⟩) (by first | assumption | simp)).trans (by first | assumption | simp); have f2 : w1.frozen? ⟨w.heap.size, 2, none⟩ = false := (hb.frozen (p := ⟨w.heap.size, 2, none⟩) (by first | assumption | simp)).trans (World.frozen?_alloc_at _ _ _ _ rfl); have q3 : w1.cell? ⟨w.heap.size, 3, none⟩ = some (.int .i16 0) := (hb.cell (p := ⟨w.heap.size, 3, none⟩) (by first | assumption | simp)).trans (by first | assumption | simp); have f3 : w1.frozen? ⟨w.heap.size, 3, none⟩ = false := (hb.frozen (p := ⟨w.heap.size, 3, none⟩) (by first | assumption | simp)).trans (World.frozen?_alloc_at _ _ _ _ rfl); have q4 : w1.cell? ⟨w.heap.size, 4, none⟩ = some (.int .i16 0) := (hb.cell (p := ⟨w.heap.size, 4, none⟩) (by first | assumption | simp)).trans (by first | assumption | simp); have f4 : w1.frozen? ⟨w.heap.size, 4, none⟩ = false := (hb.frozen (p := ⟨w.heap.size, 4, none⟩) (by first | assumption | simp)).trans (World.frozen?_alloc_at _ _ _ _ rfl); have q5 : w1.cell? ⟨w.heap.size, 5, none⟩ = some (.int .i16 0) := (hb.cell (p := ⟨w.heap.size, 5, none⟩) (by first | assumption | simp)).trans (by first | assumption | simp); have f5 : w1.frozen? ⟨w.heap.size, 5, none⟩ = false := (hb.frozen (p := ⟨w.heap.size, 5, none⟩) (by first | assumption | simp)).trans (World.frozen?_alloc_at _ _ _ _ rfl); have hW : Below w.heap.size w w1 := Below.trans (bA (Below.refl _ _) _) (hb.mono (by simp)); have hgn : ¬ g = w1.heap.size := (by omega); have hgm : ¬ g = w.heap.size := (by simp at hg1; omega); clear hb hg1)
    refine wp_loop_rounds 7 ?_
    rw [rounds_succ]
    go_wp2_with (go_at_call 19; refine (H0 _).mono ?_; rintro e w2 ⟨rfl, hw⟩; subst hw)
    rw [rounds_succ]
    go_wp2_with (go_at_call 19; refine (H1 _).mono ?_; rintro e w2 ⟨rfl, hw⟩; subst hw)
    rw [rounds_succ]
    go_wp2_with (go_at_call 19; refine (H2 _).mono ?_; rintro e w2 ⟨rfl, hw⟩; subst hw)
    rw [rounds_succ]
    go_wp2_with (go_at_call 19; refine (Hx _).mono ?_; rintro e w2 ⟨rfl, hw⟩; subst hw)
    exact bodyPost_ret (v := .tuple #[.agg #[.int .i16 0, .int .i16 0, .int .i16 0, .int .i16 0, .int .i16 0, .int .i16 0], .int .i64 5]) (by simp [results, Tryd.results9, go_sem, q0, q1, q2, q3, q4, q5, World.cell?_alloc_lt, hsz]) rfl ⟨congrArg Ending.returned HR.out.symm, by repeat (first | (with_reducible exact hW) | (with_reducible refine Below.setCell ?_ (by first | exact Nat.le_refl _ | exact Nat.le_of_lt (by assumption)) _) | (with_reducible refine bA' ?_ (by first | exact Nat.le_of_lt (by assumption) | (simp; omega)) _))⟩
set_option maxHeartbeats 4000000 in
set_option maxRecDepth 100000 in
theorem rs_4 (s : ByteArray) (hs : s.size ≤ 1048576) (w : World) (p0 p1 p2 p3 p4 p5 : List UInt8) (hp : pieces 45 (bL s) = [p0, p1, p2, p3, p4, p5]) (h0 : okD p0 = true) (h1 : okD p1 = true) (h2 : okD p2 = true) (h3 : okD p3 = true) (hx : okD p4 = false) : Calls Tryd.prog 9 #[.string s] w (RdQ s w) := by
  have hr := rd_bad (s := s) (p := p4) (by simp [hp]) hx
  have l0 : p0.length ≤ 1048576 := Nat.le_trans (piece_le 45 (bL s) p0 (by simp [hp])) hs
  have l1 : p1.length ≤ 1048576 := Nat.le_trans (piece_le 45 (bL s) p1 (by simp [hp])) hs
  have l2 : p2.length ≤ 1048576 := Nat.le_trans (piece_le 45 (bL s) p2 (by simp [hp])) hs
  have l3 : p3.length ≤ 1048576 := Nat.le_trans (piece_le 45 (bL s) p3 (by simp [hp])) hs
  have l4 : p4.length ≤ 1048576 := Nat.le_trans (piece_le 45 (bL s) p4 (by simp [hp])) hs
  have k0 : valL p0 ≤ 1000 := of_decide_eq_true (Bool.and_eq_true_iff.1 h0).2
  generalize v0 : valL p0 = n0 at *
  have H0 := fun W => num_ok n0 h0 v0 l0 W
  clear h0 v0 l0
  have k1 : valL p1 ≤ 1000 := of_decide_eq_true (Bool.and_eq_true_iff.1 h1).2
  generalize v1 : valL p1 = n1 at *
  have H1 := fun W => num_ok n1 h1 v1 l1 W
  clear h1 v1 l1
  have k2 : valL p2 ≤ 1000 := of_decide_eq_true (Bool.and_eq_true_iff.1 h2).2
  generalize v2 : valL p2 = n2 at *
  have H2 := fun W => num_ok n2 h2 v2 l2 W
  clear h2 v2 l2
  have k3 : valL p3 ≤ 1000 := of_decide_eq_true (Bool.and_eq_true_iff.1 h3).2
  generalize v3 : valL p3 = n3 at *
  have H3 := fun W => num_ok n3 h3 v3 l3 W
  clear h3 v3 l3
  have HR := Lib.hid hr
  have HP := Lib.hid hp
  clear hr hp
  rcases okD_parts hx with hx | ⟨hx, hy⟩
  · have Hx := fun W => num_no hx l4 W
    clear hx l4
    go_enter Tryd.func9, Tryd.ntmps9
    go_wp2_with (go_at_call 17; refine (split6 s hs HP.out _).mono ?_; rintro e w1 ⟨g, cap, rfl, hg1, hg2, c0, c1, c2, c3, c4, c5, hb⟩; have hsz : w.heap.size < w1.heap.size := Nat.lt_of_lt_of_le (by simp) hb.size; have q0 : w1.cell? ⟨w.heap.size, 0, none⟩ = some (.int .i16 0) := (hb.cell (p := ⟨w.heap.size, 0, none⟩) (by first | assumption | simp)).trans (by first | assumption | simp); have f0 : w1.frozen? ⟨w.heap.size, 0, none⟩ = false := (hb.frozen (p := ⟨w.heap.size, 0, none⟩) (by first | assumption | simp)).trans (World.frozen?_alloc_at _ _ _ _ rfl); have q1 : w1.cell? ⟨w.heap.size, 1, none⟩ = some (.int .i16 0) := (hb.cell (p := ⟨w.heap.size, 1, none⟩) (by first | assumption | simp)).trans (by first | assumption | simp); have f1 : w1.frozen? ⟨w.heap.size, 1, none⟩ = false := (hb.frozen (p := ⟨w.heap.size, 1, none⟩) (by first | assumption | simp)).trans (World.frozen?_alloc_at _ _ _ _ rfl); have q2 : w1.cell? ⟨w.heap.size, 2, none⟩ = some (.int .i16 0) := (hb.cell (p := ⟨w.heap.size, 2, none⟩) (by first | assumption | simp)).trans (by first | assumption | simp); have f2 : w1.frozen? ⟨w.heap.size, 2, none⟩ = false := (hb.frozen (p := ⟨w.heap.size, 2, none⟩) (by first | assumption | simp)).trans (World.frozen?_alloc_at _ _ _ _ rfl); have q3 : w1.cell? ⟨w.heap.size, 3, none⟩ = some (.int .i16 0) := (hb.cell (p := ⟨w.heap.size, 3, none⟩) (by first | assumption | simp)).trans (by first | assumption | simp); have f3 : w1.frozen? ⟨w.heap.size, 3, none⟩ = false := (hb.frozen (p := ⟨w.heap.size, 3, none⟩) (by first | assumption | simp)).trans (World.frozen?_alloc_at _ _ _ _ rfl); have q4 : w1.cell? ⟨w.heap.size, 4, none⟩ = some (.int .i16 0) := (hb.cell (p := ⟨w.heap.size, 4, none⟩) (by first | assumption | simp)).trans (by first | assumption | simp); have f4 : w1.frozen? ⟨w.heap.size, 4, none⟩ = false := (hb.frozen (p := ⟨w.heap.size, 4, none⟩) (by first | assumption | simp)).trans (World.frozen?_alloc_at _ _ _ _ rfl); have q5 : w1.cell? ⟨w.heap.size, 5, none⟩ = some (.int .i16 0) := (hb.cell (p := ⟨w.heap.size, 5, none⟩) (by first | assumption | simp)).trans (by first | assumption | simp); have f5 : w1.frozen? ⟨w.heap.size, 5, none⟩ = false := (hb.frozen (p := ⟨w.heap.size, 5, none⟩) (by first | assumption | simp)).trans (World.frozen?_alloc_at _ _ _ _ rfl); have hW : Below w.heap.size w w1 := Below.trans (bA (Below.refl _ _) _) (hb.mono (by simp)); have hgn : ¬ g = w1.heap.size := (by omega); have hgm : ¬ g = w.heap.size := (by simp at hg1; omega); clear hb hg1)
    refine wp_loop_rounds 7 ?_
    rw [rounds_succ]
    go_wp2_with (go_at_call 19; refine (H0 _).mono ?_; rintro e w2 ⟨rfl, hw⟩; subst hw)
    rw [rounds_succ]
    go_wp2_with (go_at_call 19; refine (H1 _).mono ?_; rintro e w2 ⟨rfl, hw⟩; subst hw)
    rw [rounds_succ]
    go_wp2_with (go_at_call 19; refine (H2 _).mono ?_; rintro e w2 ⟨rfl, hw⟩; subst hw)
    rw [rounds_succ]
    go_wp2_with (go_at_call 19; refine (H3 _).mono ?_; rintro e w2 ⟨rfl, hw⟩; subst hw)
    rw [rounds_succ]
    go_wp2_with (go_at_call 19; refine (Hx _).mono ?_; rintro e w2 ⟨rfl, hw⟩; subst hw)
    exact bodyPost_ret (v := .tuple #[.agg #[.int .i16 0, .int .i16 0, .int .i16 0, .int .i16 0, .int .i16 0, .int .i16 0], .int .i64 5]) (by simp [results, Tryd.results9, go_sem, q0, q1, q2, q3, q4, q5, World.cell?_alloc_lt, hsz]) rfl ⟨congrArg Ending.returned HR.out.symm, by repeat (first | (with_reducible exact hW) | (with_reducible refine Below.setCell ?_ (by first | exact Nat.le_refl _ | exact Nat.le_of_lt (by assumption)) _) | (with_reducible refine bA' ?_ (by first | exact Nat.le_of_lt (by assumption) | (simp; omega)) _))⟩
  · generalize vx : valL p4 = nx at *
    have Hx := fun W => num_big nx hx vx l4 W
    clear hx vx l4
    go_enter Tryd.func9, Tryd.ntmps9
    go_wp2_with (go_at_call 17; refine (split6 s hs HP.out _).mono ?_; rintro e w1 ⟨g, cap, rfl, hg1, hg2, c0, c1, c2, c3, c4, c5, hb⟩; have hsz : w.heap.size < w1.heap.size := Nat.lt_of_lt_of_le (by simp) hb.size; have q0 : w1.cell? ⟨w.heap.size, 0, none⟩ = some (.int .i16 0) := (hb.cell (p := ⟨w.heap.size, 0, none⟩) (by first | assumption | simp)).trans (by first | assumption | simp); have f0 : w1.frozen? ⟨w.heap.size, 0, none⟩ = false := (hb.frozen (p := ⟨w.heap.size, 0, none⟩) (by first | assumption | simp)).trans (World.frozen?_alloc_at _ _ _ _ rfl); have q1 : w1.cell? ⟨w.heap.size, 1, none⟩ = some (.int .i16 0) := (hb.cell (p := ⟨w.heap.size, 1, none⟩) (by first | assumption | simp)).trans (by first | assumption | simp); have f1 : w1.frozen? ⟨w.heap.size, 1, none⟩ = false := (hb.frozen (p := ⟨w.heap.size, 1, none⟩) (by first | assumption | simp)).trans (World.frozen?_alloc_at _ _ _ _ rfl); have q2 : w1.cell? ⟨w.heap.size, 2, none⟩ = some (.int .i16 0) := (hb.cell (p := ⟨w.heap.size, 2, none⟩) (by first | assumption | simp)).trans (by first | assumption | simp); have f2 : w1.frozen? ⟨w.heap.size, 2, none⟩ = false := (hb.frozen (p := ⟨w.heap.size, 2, none⟩) (by first | assumption | simp)).trans (World.frozen?_alloc_at _ _ _ _ rfl); have q3 : w1.cell? ⟨w.heap.size, 3, none⟩ = some (.int .i16 0) := (hb.cell (p := ⟨w.heap.size, 3, none⟩) (by first | assumption | simp)).trans (by first | assumption | simp); have f3 : w1.frozen? ⟨w.heap.size, 3, none⟩ = false := (hb.frozen (p := ⟨w.heap.size, 3, none⟩) (by first | assumption | simp)).trans (World.frozen?_alloc_at _ _ _ _ rfl); have q4 : w1.cell? ⟨w.heap.size, 4, none⟩ = some (.int .i16 0) := (hb.cell (p := ⟨w.heap.size, 4, none⟩) (by first | assumption | simp)).trans (by first | assumption | simp); have f4 : w1.frozen? ⟨w.heap.size, 4, none⟩ = false := (hb.frozen (p := ⟨w.heap.size, 4, none⟩) (by first | assumption | simp)).trans (World.frozen?_alloc_at _ _ _ _ rfl); have q5 : w1.cell? ⟨w.heap.size, 5, none⟩ = some (.int .i16 0) := (hb.cell (p := ⟨w.heap.size, 5, none⟩) (by first | assumption | simp)).trans (by first | assumption | simp); have f5 : w1.frozen? ⟨w.heap.size, 5, none⟩ = false := (hb.frozen (p := ⟨w.heap.size, 5, none⟩) (by first | assumption | simp)).trans (World.frozen?_alloc_at _ _ _ _ rfl); have hW : Below w.heap.size w w1 := Below.trans (bA (Below.refl _ _) _) (hb.mono (by simp)); have hgn : ¬ g = w1.heap.size := (by omega); have hgm : ¬ g = w.heap.size := (by simp at hg1; omega); clear hb hg1)
    refine wp_loop_rounds 7 ?_
    rw [rounds_succ]
    go_wp2_with (go_at_call 19; refine (H0 _).mono ?_; rintro e w2 ⟨rfl, hw⟩; subst hw)
    rw [rounds_succ]
    go_wp2_with (go_at_call 19; refine (H1 _).mono ?_; rintro e w2 ⟨rfl, hw⟩; subst hw)
    rw [rounds_succ]
    go_wp2_with (go_at_call 19; refine (H2 _).mono ?_; rintro e w2 ⟨rfl, hw⟩; subst hw)
    rw [rounds_succ]
    go_wp2_with (go_at_call 19; refine (H3 _).mono ?_; rintro e w2 ⟨rfl, hw⟩; subst hw)
    rw [rounds_succ]
    go_wp2_with (go_at_call 19; refine (Hx _).mono ?_; rintro e w2 ⟨rfl, hw⟩; subst hw)
    exact bodyPost_ret (v := .tuple #[.agg #[.int .i16 0, .int .i16 0, .int .i16 0, .int .i16 0, .int .i16 0, .int .i16 0], .int .i64 5]) (by simp [results, Tryd.results9, go_sem, q0, q1, q2, q3, q4, q5, World.cell?_alloc_lt, hsz]) rfl ⟨congrArg Ending.returned HR.out.symm, by repeat (first | (with_reducible exact hW) | (with_reducible refine Below.setCell ?_ (by first | exact Nat.le_refl _ | exact Nat.le_of_lt (by assumption)) _) | (with_reducible refine bA' ?_ (by first | exact Nat.le_of_lt (by assumption) | (simp; omega)) _))⟩
set_option maxHeartbeats 4000000 in
set_option maxRecDepth 100000 in
theorem rs_5 (s : ByteArray) (hs : s.size ≤ 1048576) (w : World) (p0 p1 p2 p3 p4 p5 : List UInt8) (hp : pieces 45 (bL s) = [p0, p1, p2, p3, p4, p5]) (h0 : okD p0 = true) (h1 : okD p1 = true) (h2 : okD p2 = true) (h3 : okD p3 = true) (h4 : okD p4 = true) (hx : okD p5 = false) : Calls Tryd.prog 9 #[.string s] w (RdQ s w) := by
  have hr := rd_bad (s := s) (p := p5) (by simp [hp]) hx
  have l0 : p0.length ≤ 1048576 := Nat.le_trans (piece_le 45 (bL s) p0 (by simp [hp])) hs
  have l1 : p1.length ≤ 1048576 := Nat.le_trans (piece_le 45 (bL s) p1 (by simp [hp])) hs
  have l2 : p2.length ≤ 1048576 := Nat.le_trans (piece_le 45 (bL s) p2 (by simp [hp])) hs
  have l3 : p3.length ≤ 1048576 := Nat.le_trans (piece_le 45 (bL s) p3 (by simp [hp])) hs
  have l4 : p4.length ≤ 1048576 := Nat.le_trans (piece_le 45 (bL s) p4 (by simp [hp])) hs
  have l5 : p5.length ≤ 1048576 := Nat.le_trans (piece_le 45 (bL s) p5 (by simp [hp])) hs
  have k0 : valL p0 ≤ 1000 := of_decide_eq_true (Bool.and_eq_true_iff.1 h0).2
  generalize v0 : valL p0 = n0 at *
  have H0 := fun W => num_ok n0 h0 v0 l0 W
  clear h0 v0 l0
  have k1 : valL p1 ≤ 1000 := of_decide_eq_true (Bool.and_eq_true_iff.1 h1).2
  generalize v1 : valL p1 = n1 at *
  have H1 := fun W => num_ok n1 h1 v1 l1 W
  clear h1 v1 l1
  have k2 : valL p2 ≤ 1000 := of_decide_eq_true (Bool.and_eq_true_iff.1 h2).2
  generalize v2 : valL p2 = n2 at *
  have H2 := fun W => num_ok n2 h2 v2 l2 W
  clear h2 v2 l2
  have k3 : valL p3 ≤ 1000 := of_decide_eq_true (Bool.and_eq_true_iff.1 h3).2
  generalize v3 : valL p3 = n3 at *
  have H3 := fun W => num_ok n3 h3 v3 l3 W
  clear h3 v3 l3
  have k4 : valL p4 ≤ 1000 := of_decide_eq_true (Bool.and_eq_true_iff.1 h4).2
  generalize v4 : valL p4 = n4 at *
  have H4 := fun W => num_ok n4 h4 v4 l4 W
  clear h4 v4 l4
  have HR := Lib.hid hr
  have HP := Lib.hid hp
  clear hr hp
  rcases okD_parts hx with hx | ⟨hx, hy⟩
  · have Hx := fun W => num_no hx l5 W
    clear hx l5
    go_enter Tryd.func9, Tryd.ntmps9
    go_wp2_with (go_at_call 17; refine (split6 s hs HP.out _).mono ?_; rintro e w1 ⟨g, cap, rfl, hg1, hg2, c0, c1, c2, c3, c4, c5, hb⟩; have hsz : w.heap.size < w1.heap.size := Nat.lt_of_lt_of_le (by simp) hb.size; have q0 : w1.cell? ⟨w.heap.size, 0, none⟩ = some (.int .i16 0) := (hb.cell (p := ⟨w.heap.size, 0, none⟩) (by first | assumption | simp)).trans (by first | assumption | simp); have f0 : w1.frozen? ⟨w.heap.size, 0, none⟩ = false := (hb.frozen (p := ⟨w.heap.size, 0, none⟩) (by first | assumption | simp)).trans (World.frozen?_alloc_at _ _ _ _ rfl); have q1 : w1.cell? ⟨w.heap.size, 1, none⟩ = some (.int .i16 0) := (hb.cell (p := ⟨w.heap.size, 1, none⟩) (by first | assumption | simp)).trans (by first | assumption | simp); have f1 : w1.frozen? ⟨w.heap.size, 1, none⟩ = false := (hb.frozen (p := ⟨w.heap.size, 1, none⟩) (by first | assumption | simp)).trans (World.frozen?_alloc_at _ _ _ _ rfl); have q2 : w1.cell? ⟨w.heap.size, 2, none⟩ = some (.int .i16 0) := (hb.cell (p := ⟨w.heap.size, 2, none⟩) (by first | assumption | simp)).trans (by first | assumption | simp); have f2 : w1.frozen? ⟨w.heap.size, 2, none⟩ = false := (hb.frozen (p := ⟨w.heap.size, 2, none⟩) (by first | assumption | simp)).trans (World.frozen?_alloc_at _ _ _ _ rfl); have q3 : w1.cell? ⟨w.heap.size, 3, none⟩ = some (.int .i16 0) := (hb.cell (p := ⟨w.heap.size, 3, none⟩) (by first | assumption | simp)).trans (by first | assumption | simp); have f3 : w1.frozen? ⟨w.heap.size, 3, none⟩ = false := (hb.frozen (p := ⟨w.heap.size, 3, none⟩) (by first | assumption | simp)).trans (World.frozen?_alloc_at _ _ _ _ rfl); have q4 : w1.cell? ⟨w.heap.size, 4, none⟩ = some (.int .i16 0) := (hb.cell (p := ⟨w.heap.size, 4, none⟩) (by first | assumption | simp)).trans (by first | assumption | simp); have f4 : w1.frozen? ⟨w.heap.size, 4, none⟩ = false := (hb.frozen (p := ⟨w.heap.size, 4, none⟩) (by first | assumption | simp)).trans (World.frozen?_alloc_at _ _ _ _ rfl); have q5 : w1.cell? ⟨w.heap.size, 5, none⟩ = some (.int .i16 0) := (hb.cell (p := ⟨w.heap.size, 5, none⟩) (by first | assumption | simp)).trans (by first | assumption | simp); have f5 : w1.frozen? ⟨w.heap.size, 5, none⟩ = false := (hb.frozen (p := ⟨w.heap.size, 5, none⟩) (by first | assumption | simp)).trans (World.frozen?_alloc_at _ _ _ _ rfl); have hW : Below w.heap.size w w1 := Below.trans (bA (Below.refl _ _) _) (hb.mono (by simp)); have hgn : ¬ g = w1.heap.size := (by omega); have hgm : ¬ g = w.heap.size := (by simp at hg1; omega); clear hb hg1)
    refine wp_loop_rounds 7 ?_
    rw [rounds_succ]
    go_wp2_with (go_at_call 19; refine (H0 _).mono ?_; rintro e w2 ⟨rfl, hw⟩; subst hw)
    rw [rounds_succ]
    go_wp2_with (go_at_call 19; refine (H1 _).mono ?_; rintro e w2 ⟨rfl, hw⟩; subst hw)
    rw [rounds_succ]
    go_wp2_with (go_at_call 19; refine (H2 _).mono ?_; rintro e w2 ⟨rfl, hw⟩; subst hw)
    rw [rounds_succ]
    go_wp2_with (go_at_call 19; refine (H3 _).mono ?_; rintro e w2 ⟨rfl, hw⟩; subst hw)
    rw [rounds_succ]
    go_wp2_with (go_at_call 19; refine (H4 _).mono ?_; rintro e w2 ⟨rfl, hw⟩; subst hw)
    rw [rounds_succ]
    go_wp2_with (go_at_call 19; refine (Hx _).mono ?_; rintro e w2 ⟨rfl, hw⟩; subst hw)
    exact bodyPost_ret (v := .tuple #[.agg #[.int .i16 0, .int .i16 0, .int .i16 0, .int .i16 0, .int .i16 0, .int .i16 0], .int .i64 5]) (by simp [results, Tryd.results9, go_sem, q0, q1, q2, q3, q4, q5, World.cell?_alloc_lt, hsz]) rfl ⟨congrArg Ending.returned HR.out.symm, by repeat (first | (with_reducible exact hW) | (with_reducible refine Below.setCell ?_ (by first | exact Nat.le_refl _ | exact Nat.le_of_lt (by assumption)) _) | (with_reducible refine bA' ?_ (by first | exact Nat.le_of_lt (by assumption) | (simp; omega)) _))⟩
  · generalize vx : valL p5 = nx at *
    have Hx := fun W => num_big nx hx vx l5 W
    clear hx vx l5
    go_enter Tryd.func9, Tryd.ntmps9
    go_wp2_with (go_at_call 17; refine (split6 s hs HP.out _).mono ?_; rintro e w1 ⟨g, cap, rfl, hg1, hg2, c0, c1, c2, c3, c4, c5, hb⟩; have hsz : w.heap.size < w1.heap.size := Nat.lt_of_lt_of_le (by simp) hb.size; have q0 : w1.cell? ⟨w.heap.size, 0, none⟩ = some (.int .i16 0) := (hb.cell (p := ⟨w.heap.size, 0, none⟩) (by first | assumption | simp)).trans (by first | assumption | simp); have f0 : w1.frozen? ⟨w.heap.size, 0, none⟩ = false := (hb.frozen (p := ⟨w.heap.size, 0, none⟩) (by first | assumption | simp)).trans (World.frozen?_alloc_at _ _ _ _ rfl); have q1 : w1.cell? ⟨w.heap.size, 1, none⟩ = some (.int .i16 0) := (hb.cell (p := ⟨w.heap.size, 1, none⟩) (by first | assumption | simp)).trans (by first | assumption | simp); have f1 : w1.frozen? ⟨w.heap.size, 1, none⟩ = false := (hb.frozen (p := ⟨w.heap.size, 1, none⟩) (by first | assumption | simp)).trans (World.frozen?_alloc_at _ _ _ _ rfl); have q2 : w1.cell? ⟨w.heap.size, 2, none⟩ = some (.int .i16 0) := (hb.cell (p := ⟨w.heap.size, 2, none⟩) (by first | assumption | simp)).trans (by first | assumption | simp); have f2 : w1.frozen? ⟨w.heap.size, 2, none⟩ = false := (hb.frozen (p := ⟨w.heap.size, 2, none⟩) (by first | assumption | simp)).trans (World.frozen?_alloc_at _ _ _ _ rfl); have q3 : w1.cell? ⟨w.heap.size, 3, none⟩ = some (.int .i16 0) := (hb.cell (p := ⟨w.heap.size, 3, none⟩) (by first | assumption | simp)).trans (by first | assumption | simp); have f3 : w1.frozen? ⟨w.heap.size, 3, none⟩ = false := (hb.frozen (p := ⟨w.heap.size, 3, none⟩) (by first | assumption | simp)).trans (World.frozen?_alloc_at _ _ _ _ rfl); have q4 : w1.cell? ⟨w.heap.size, 4, none⟩ = some (.int .i16 0) := (hb.cell (p := ⟨w.heap.size, 4, none⟩) (by first | assumption | simp)).trans (by first | assumption | simp); have f4 : w1.frozen? ⟨w.heap.size, 4, none⟩ = false := (hb.frozen (p := ⟨w.heap.size, 4, none⟩) (by first | assumption | simp)).trans (World.frozen?_alloc_at _ _ _ _ rfl); have q5 : w1.cell? ⟨w.heap.size, 5, none⟩ = some (.int .i16 0) := (hb.cell (p := ⟨w.heap.size, 5, none⟩) (by first | assumption | simp)).trans (by first | assumption | simp); have f5 : w1.frozen? ⟨w.heap.size, 5, none⟩ = false := (hb.frozen (p := ⟨w.heap.size, 5, none⟩) (by first | assumption | simp)).trans (World.frozen?_alloc_at _ _ _ _ rfl); have hW : Below w.heap.size w w1 := Below.trans (bA (Below.refl _ _) _) (hb.mono (by simp)); have hgn : ¬ g = w1.heap.size := (by omega); have hgm : ¬ g = w.heap.size := (by simp at hg1; omega); clear hb hg1)
    refine wp_loop_rounds 7 ?_
    rw [rounds_succ]
    go_wp2_with (go_at_call 19; refine (H0 _).mono ?_; rintro e w2 ⟨rfl, hw⟩; subst hw)
    rw [rounds_succ]
    go_wp2_with (go_at_call 19; refine (H1 _).mono ?_; rintro e w2 ⟨rfl, hw⟩; subst hw)
    rw [rounds_succ]
    go_wp2_with (go_at_call 19; refine (H2 _).mono ?_; rintro e w2 ⟨rfl, hw⟩; subst hw)
    rw [rounds_succ]
    go_wp2_with (go_at_call 19; refine (H3 _).mono ?_; rintro e w2 ⟨rfl, hw⟩; subst hw)
    rw [rounds_succ]
    go_wp2_with (go_at_call 19; refine (H4 _).mono ?_; rintro e w2 ⟨rfl, hw⟩; subst hw)
    rw [rounds_succ]
    go_wp2_with (go_at_call 19; refine (Hx _).mono ?_; rintro e w2 ⟨rfl, hw⟩; subst hw)
    exact bodyPost_ret (v := .tuple #[.agg #[.int .i16 0, .int .i16 0, .int .i16 0, .int .i16 0, .int .i16 0, .int .i16 0], .int .i64 5]) (by simp [results, Tryd.results9, go_sem, q0, q1, q2, q3, q4, q5, World.cell?_alloc_lt, hsz]) rfl ⟨congrArg Ending.returned HR.out.symm, by repeat (first | (with_reducible exact hW) | (with_reducible refine Below.setCell ?_ (by first | exact Nat.le_refl _ | exact Nat.le_of_lt (by assumption)) _) | (with_reducible refine bA' ?_ (by first | exact Nat.le_of_lt (by assumption) | (simp; omega)) _))⟩
end Tx
end Go.Proofs.YtjbbljlefmgieaaDoor
end
