/-
  Numbers read from pieces, by the model. No condition but that a piece has at most 2^20 bytes.
-/
import Derived.Test.YtbidagapkcmfnaaDoorSp
import Derived.Test.YtbidagapkcmfnaaDoorRn
noncomputable section
namespace Go.Proofs.YtbidagapkcmfnaaDoor
namespace Tx
open Go Go.RowKit
/-- the pieces lie in a block -/
def Row (ps : List (List UInt8)) (g : Nat) (w : World) : Prop := g < w.heap.size ∧ ∀ j (h : j < ps.length), w.cell? ⟨g, j, none⟩ = some (.string (bS ps[j]))
theorem row_below {ps : List (List UInt8)} {g : Nat} {w w' : World} (hb : Below w.heap.size w w') (h : Row ps g w) : Row ps g w' :=
  ⟨Nat.lt_of_lt_of_le h.1 hb.size, fun j hj => (hb.cell (p := ⟨g, j, none⟩) h.1).trans (h.2 j hj)⟩
def fl (p : List UInt8) : Value := .float .f32 (nuN p)
theorem Tryd.infoF : (Tryd.prog.info? 22).map (fun i => (i.zero, i.size, i.bytes)) = some (some (.float .f32 0), 1, 4) := by kernel_rfl
def NmR (ps : List (List UInt8)) (w : World) (v i : Value) (wr : World) : Prop :=
  ∃ k : Nat, k ≤ ps.length ∧ i = .int .i64 k ∧ wr.ownsRow w.heap.size 22 1 v k ((ps.take k).map fl) ∧ (ps.take k).all okN = true ∧ Below w.heap.size w wr
def NmQ (ps : List (List UInt8)) (w : World) (e : Ending) (w' : World) : Prop :=
  ∃ v, e = .returned (.tuple #[v, .bool (ps.all okN)]) ∧ (ps.all okN = true → w'.ownsRow w.heap.size 22 1 v ps.length (ps.map fl)) ∧ Below w.heap.size w w'
theorem own_below {wr w1 : World} {base : Nat} {e : TypeId} {size : Nat} {v : Value} {n : Nat} {xs : List Value} (h : wr.ownsRow base e size v n xs) (hb : Below wr.heap.size wr w1) : w1.ownsRow base e size v n xs := by
  refine ⟨h.1, ?_⟩
  rcases h.2 with h | ⟨g, cap, cur, hv, hg, hc, r⟩
  · exact .inl h
  · have hlt : g < wr.heap.size := by
      rcases Nat.lt_or_ge g wr.heap.size with h1 | h1
      · exact h1
      · simp [Array.getElem?_eq_none h1] at hc
    exact .inr ⟨g, cap, cur, hv, hg, (hb.block g hlt).trans hc, r⟩
theorem nmq_no {ps : List (List UInt8)} {w w' : World} {v : Value} (h : ps.all okN = false) (hb : Below w.heap.size w w') : NmQ ps w (.returned (.tuple #[v, .bool false])) w' :=
  ⟨v, by rw [h], fun h1 => absurd (h1.symm.trans h) (by decide), hb⟩
theorem nmq_yes {ps : List (List UInt8)} {w w' : World} {v : Value} (h : ps.all okN = true) (ho : w'.ownsRow w.heap.size 22 1 v ps.length (ps.map fl)) (hb : Below w.heap.size w w') : NmQ ps w (.returned (.tuple #[v, .bool true])) w' :=
  ⟨v, by rw [h], fun _ => ho, hb⟩
theorem one_float (a : Nat) : ∀ u ∈ [Value.float .f32 a], u.oneCell' = true := by
  intro u hu
  simp at hu
  subst hu
  rfl
theorem all_take {ps : List (List UInt8)} {k : Nat} (h : k < ps.length) (hd : (ps.take k).all okN = true) (h1 : okN ps[k] = true) : (ps.take (k + 1)).all okN = true := by
  rw [List.take_succ_eq_append_getElem h, List.all_append, hd]
  simp [h1]
theorem all_no {ps : List (List UInt8)} {k : Nat} (h : k < ps.length) (h1 : okN ps[k] = false) : ps.all okN = false := by
  cases hc : ps.all okN with
  | false => rfl
  | true =>
    have := List.all_eq_true.1 hc ps[k] (List.getElem_mem h)
    rw [h1] at this
    cases this
set_option maxHeartbeats 1000000 in
set_option maxRecDepth 100000 in
theorem nm_calls (ps : List (List UInt8)) (g cap : Nat) (hps : ps.length ≤ 1048577) (w : World) (hr : Row ps g w) : Calls Tryd.prog 30 #[.slice (some ⟨g, 0, none⟩) ps.length cap] w (NmQ ps w) := by
  obtain ⟨i0, hi, hz0, hz1, hz2⟩ := info_parts Tryd.infoF
  go_enter Tryd.func30, Tryd.ntmps30
  go_wp2
  go_loopw [4, 5] (NmR ps w) (fun _ i _ => ps.length - (intOf i).toNat)
  case atStart =>
    refine ⟨0, Nat.zero_le _, rfl, ⟨rfl, .inr ⟨w.heap.size, 0, #[], rfl, Nat.le_refl _, ?_, Nat.le_refl _, Nat.zero_le _, rfl, rfl⟩⟩, rfl, bA (Below.refl _ _) _⟩
    exact heap_alloc_new w _
  case round =>
    obtain ⟨k, hk, rfl, hown, hd, hb⟩ := hrel
    have h63 : k + 1 ≤ maxLen := by unfold maxLen; omega
    have HD := Lib.hid hd
    clear hd
    by_cases hlt : k < ps.length
    · have hc := (row_below hb hr).2 k hlt
      have hrd := rd_calls (bS ps[k])
      unfold RdQ at hrd
      have e : (bS ps[k]).data.toList = ps[k] := rfl
      rw [e] at hrd
      clear e
      have hfl : fl ps[k] = .float .f32 (nuN ps[k]) := rfl
      have HF := Lib.hid hfl
      clear hfl
      cases hok : okN ps[k] with
      | false =>
        rw [hok] at hrd
        have HN := Lib.hid (all_no hlt hok)
        clear hok
        generalize bS ps[k] = s at hc hrd
        go_wp2_with (go_at_call 15; refine (hrd _).mono ?_; rintro e w1 ⟨a, rfl, _, hb1⟩)
        go_ret2
        exact nmq_no HN.out (bA (hb.trans (hb1.mono hb.size)) _)
      | true =>
        rw [hok] at hrd
        have HY := Lib.hid (all_take hlt HD.out hok)
        have hrd2 : ∀ W, Calls Tryd.prog 15 #[.string (bS ps[k])] W fun e w' => e = .returned (.tuple #[.float .f32 (nuN ps[k]), .bool true]) ∧ Below W.heap.size W w' := fun W => (hrd W).mono fun e w' ⟨a, h1, h2, h3⟩ => ⟨by rw [h1, h2 rfl], h3⟩
        clear hok hrd
        generalize bS ps[k] = s at hc hrd2
        generalize nuN ps[k] = a at hrd2 HF
        go_wp2_with (first
          | (go_at_call 15; refine (hrd2 _).mono ?_; rintro e w1 ⟨rfl, hb1⟩; have hown1 := own_below hown hb1; have hbw := hb.trans (hb1.mono hb.size))
          | (at_builtin; refine wpList_append_own _ rfl (.tmp 26) (.tmp 28) 60 rfl w.heap.size 22 i0 _ 1 4 Tryd.underlying60 hi hz0 hz1 hz2 rfl (by decide) _ k _ rfl (hown1.alloc _) ⟨w1.heap.size, 0, none⟩ 1 1 [.float .f32 a] rfl rfl (one_new w1 _ _) (one_float _) h63 (by omega) (Nat.le_trans hbw.size (by simp)) ?_; intro v' w2 hown' hgrow _))
        go_roundw
        case rel =>
          refine ⟨k + 1, hlt, by go_num, ?_, HY.out, ?_⟩
          · rw [List.take_succ_eq_append_getElem hlt, List.map_append]
            simp only [List.map_cons, List.map_nil]
            rw [HF.out]
            exact hown'
          · exact (hbw.alloc hbw.size _).grown hgrow (by simp; have := hbw.size; omega) (fun j hj => (hown1.lt j hj).1)
        case measure => simp [intOf]; omega
    · have hke : k = ps.length := by omega
      have HK := Lib.hid hke
      clear hke
      go_wp2
      go_ret2
      have hy : ps.all okN = true := by
        have := HD.out
        rwa [HK.out, List.take_length] at this
      rw [HK.out, List.take_length] at hown
      exact nmq_yes hy hown hb
end Tx
end Go.Proofs.YtbidagapkcmfnaaDoor
end
