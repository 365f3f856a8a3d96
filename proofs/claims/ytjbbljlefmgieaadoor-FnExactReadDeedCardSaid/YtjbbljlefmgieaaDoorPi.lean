/-
  Numbers and pieces by the library. No condition but that the text has at most 2^20 bytes and that some package-level variables hold what their types ask.
-/
import Derived.Test.YtjbbljlefmgieaaDoorTb
import Derived.Test.YtjbbljlefmgieaaDoorSp
import Derived.Lib.AtoiErrMem
noncomputable section
namespace Go.Proofs.YtjbbljlefmgieaaDoor
namespace Tx
open Go Go.RowKit
/-- what package-level variables hold: the table of powers; a number; two errors -/
def EnvOk (w : World) : Prop := TabOk w ∧ (∃ m, w.cell? ⟨0, 0, none⟩ = some (.int .i64 m)) ∧ (∃ ev, w.cell? ⟨1, 0, none⟩ = some ev ∧ (ev = .nilIface ∨ ∃ te pe, ev = .iface te pe)) ∧ ∃ ev, w.cell? ⟨2, 0, none⟩ = some ev ∧ (ev = .nilIface ∨ ∃ te pe, ev = .iface te pe)
theorem cell_below {w w' : World} {p : Addr} {v : Value} (h : w.cell? p = some v) (hb : Below w.heap.size w w') : w'.cell? p = some v := (hb.cell (Lib.lt_of_cell h)).trans h
theorem env_below {w w' : World} (h : EnvOk w) (hb : Below w.heap.size w w') : EnvOk w' := by
  obtain ⟨ht, ⟨m, hm⟩, ⟨e1, h1, k1⟩, ⟨e2, h2, k2⟩⟩ := h
  exact ⟨tab_below ht hb, ⟨m, cell_below hm hb⟩, ⟨e1, cell_below h1 hb, k1⟩, ⟨e2, cell_below h2 hb, k2⟩⟩
/-- a number by strconv.ParseInt -/
def PiQ (B : Nat) (s : ByteArray) (w : World) (e : Ending) (w' : World) : Prop := ∃ ev, e = .returned (.tuple #[.int .i64 (piB B (bL s)), ev]) ∧ Below w.heap.size w w'
theorem pi16_calls (s : ByteArray) (hs : s.size ≤ 1048576) (w : World) (h : EnvOk w) : Calls Tryd.prog 22 #[.string s, .int .i64 10, .int .i64 16] w (PiQ 16 s w) := by
  obtain ⟨ht, ⟨m, hm⟩, ⟨e1, h1, k1⟩, ⟨e2, h2, k2⟩⟩ := h
  cases hq : Lib.parseIntB 16 s.data.toList with
  | ok v =>
    have hpi : piB 16 (bL s) = v := by rw [piB, bL, hq]
    refine (Tryd.strconv_ParseInt_10_at16_ok s (by omega) v hq w).mono fun e w' ⟨he, hw⟩ => ?_
    unfold PiQ
    rw [hpi]
    refine ⟨_, he, ?_⟩
    rcases hw with rfl | ⟨t, rfl⟩
    · exact Below.refl _ _
    · exact Lib.bytesWorld_below _ _ _
  | range =>
    have hpi : piB 16 (bL s) = Lib.intSat 16 s.data.toList := by rw [piB, bL, hq]
    refine (Tryd.strconv_ParseInt_10_at16_range s (by omega) hq e2 w h2 k2).mono fun e w' ⟨N, he, _, _, hw⟩ => ?_
    unfold PiQ
    rw [hpi]
    exact ⟨_, he, hw⟩
  | _ =>
    have hpi : piB 16 (bL s) = 0 := by rw [piB, bL, hq]
    refine (Tryd.strconv_ParseInt_10_at16_syntax s (by omega) hq e1 w h1 k1).mono fun e w' ⟨N, he, _, _, hw⟩ => ?_
    unfold PiQ
    rw [hpi]
    exact ⟨_, he, hw⟩
theorem pi64_calls (s : ByteArray) (hs : s.size ≤ 1048576) (w : World) (h : EnvOk w) : Calls Tryd.prog 22 #[.string s, .int .i64 10, .int .i64 64] w (PiQ 64 s w) := by
  obtain ⟨ht, ⟨m, hm⟩, ⟨e1, h1, k1⟩, ⟨e2, h2, k2⟩⟩ := h
  cases hq : Lib.parseIntB 64 s.data.toList with
  | ok v =>
    have hpi : piB 64 (bL s) = v := by rw [piB, bL, hq]
    refine (Tryd.strconv_ParseInt_10_at64_ok s (by omega) v hq w).mono fun e w' ⟨he, hw⟩ => ?_
    unfold PiQ
    rw [hpi]
    refine ⟨_, he, ?_⟩
    rcases hw with rfl | ⟨t, rfl⟩
    · exact Below.refl _ _
    · exact Lib.bytesWorld_below _ _ _
  | range =>
    have hpi : piB 64 (bL s) = Lib.intSat 64 s.data.toList := by rw [piB, bL, hq]
    refine (Tryd.strconv_ParseInt_10_at64_range s (by omega) hq e2 w h2 k2).mono fun e w' ⟨N, he, _, _, hw⟩ => ?_
    unfold PiQ
    rw [hpi]
    exact ⟨_, he, hw⟩
  | _ =>
    have hpi : piB 64 (bL s) = 0 := by rw [piB, bL, hq]
    refine (Tryd.strconv_ParseInt_10_at64_syntax s (by omega) hq e1 w h1 k1).mono fun e w' ⟨N, he, _, _, hw⟩ => ?_
    unfold PiQ
    rw [hpi]
    exact ⟨_, he, hw⟩
theorem map_bL (L : List ByteArray) (M : List (List UInt8)) (h : L.map (·.data.toList) = M) : L = M.map bS := by
  subst h
  rw [List.map_map]
  conv => lhs; rw [← List.map_id L]
  rfl
/-- strings.SplitN(s, "-", 7) where there are six pieces -/
def SnQ (PP : List (List UInt8)) (w : World) (e : Ending) (w' : World) : Prop :=
  ∃ g cap, e = .returned (.slice (some ⟨g, 0, none⟩) PP.length cap) ∧ w.heap.size ≤ g ∧ g < w'.heap.size ∧ PP.length ≤ cap ∧ (∀ j u, (PP.map fun l => Value.string (bS l))[j]? = some u → w'.cell? ⟨g, j, none⟩ = some u) ∧ Below w.heap.size w w'
theorem splitn_calls (s : ByteArray) (c : UInt8) (n : Nat) (hn : 1 ≤ n) (hn2 : n ≤ 1000) (hs : s.size ≤ 1048576) (w : World) (h : EnvOk w) : Calls Tryd.prog 27 #[.string s, .string ⟨#[c]⟩, .int .i64 n] w fun e w' => ∃ PP, SnQ PP w e w' ∧ ((pieces c (bL s)).length < n → PP = pieces c (bL s)) ∧ (n ≤ (pieces c (bL s)).length → PP.length = n) := by
  obtain ⟨ht, ⟨m, hm⟩, _⟩ := h
  refine (Tryd.strings_SplitN s ⟨#[c]⟩ n m w (by omega) hm (show 1 ≤ 1 from Nat.le_refl _) hn (by omega)).mono fun e w' ⟨he, hw⟩ => ?_
  have hd := Lib.splitB_data ⟨#[c]⟩ 0 (min n (s.size + 1) - 1) s
  have hd : Lib.splitB ⟨#[c]⟩ 0 (min n (s.size + 1) - 1) s = (Lib.splitK [c] 0 (min n (s.size + 1) - 1) (bL s)).map bS := map_bL _ _ hd
  have hl := pieces_len c (bL s)
  have hcl : (bL s).count c ≤ s.size := by rw [← bL_len]; exact List.count_le_length
  have hle : (Lib.splitB ⟨#[c]⟩ 0 (min n (s.size + 1) - 1) s).length ≤ min n (s.size + 1) := by have := Lib.splitB_length_le ⟨#[c]⟩ 0 (min n (s.size + 1) - 1) s; omega
  refine ⟨Lib.splitK [c] 0 (min n (s.size + 1) - 1) (bL s), ⟨w.heap.size, min n (s.size + 1), ?_, Nat.le_refl _, ?_, ?_, fun j u hu => ?_, ?_⟩, fun h1 => ?_, fun h1 => ?_⟩
  · rw [he, hd, List.length_map]
  · rw [hw]; simp
  · rw [hd, List.length_map] at hle; exact hle
  · rw [hw, World.cell?_alloc_at (hn := rfl), Lib.cellsOf, hd]
    rw [List.getElem?_toArray, List.getElem?_append_left (by
      have := (List.getElem?_eq_some_iff.1 hu).1
      simpa using this)]
    rw [List.map_map]
    exact hu
  · rw [hw]; exact bA (Below.refl _ _) _
  · exact split_pieces c (bL s) _ (by omega)
  · by_cases h2 : min n (s.size + 1) - 1 < (bL s).count c
    · rw [split_few c _ _ h2]
      omega
    · rw [split_pieces c (bL s) _ (by omega), hl]
      omega
end Tx
end Go.Proofs.YtjbbljlefmgieaaDoor
end
