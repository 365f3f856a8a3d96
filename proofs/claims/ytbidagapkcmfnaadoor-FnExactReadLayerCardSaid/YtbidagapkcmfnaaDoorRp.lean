/-
  A number read from its text. No condition but that the text has at most 2^20 bytes and what some package-level variables hold.
-/
import Derived.Test.YtbidagapkcmfnaaDoorPu
noncomputable section
namespace Go.Proofs.YtbidagapkcmfnaaDoor
namespace Tx
open Go Go.RowKit
def EnvOk (w : World) : Prop := TabOk w ∧ (∃ m, w.cell? ⟨4, 0, none⟩ = some (.int .i64 m)) ∧ (∃ ev, w.cell? ⟨1, 0, none⟩ = some ev ∧ (ev = .nilIface ∨ ∃ te pe, ev = .iface te pe)) ∧ ∃ ev, w.cell? ⟨2, 0, none⟩ = some ev ∧ (ev = .nilIface ∨ ∃ te pe, ev = .iface te pe)
theorem cell_below {w w' : World} {p : Addr} {v : Value} (h : w.cell? p = some v) (hb : Below w.heap.size w w') : w'.cell? p = some v := (hb.cell (Lib.lt_of_cell h)).trans h
theorem env_below {w w' : World} (h : EnvOk w) (hb : Below w.heap.size w w') : EnvOk w' := by
  obtain ⟨ht, ⟨m, hm⟩, ⟨e1, h1, k1⟩, ⟨e2, h2, k2⟩⟩ := h
  exact ⟨tab_below ht hb, ⟨m, cell_below hm hb⟩, ⟨e1, cell_below h1 hb, k1⟩, ⟨e2, cell_below h2 hb, k2⟩⟩
def bL (s : ByteArray) : List UInt8 := s.data.toList
theorem bL_len (s : ByteArray) : (bL s).length = s.size := by simp [bL]
def PuQ (t : ByteArray) (w : World) (e : Ending) (w' : World) : Prop := ∃ (n : Nat) (ev : Value), e = .returned (.tuple #[.int .u64 n, ev]) ∧ n < 4294967296 ∧ Below w.heap.size w w' ∧ ((ev = .nilIface ∧ (canH (bL t) = true → n = hvL (bL t))) ∨ ((∃ te pe, ev = .iface te pe) ∧ canH (bL t) = false))
theorem hxM_lt : ∀ (l : List UInt8) (acc : Nat), acc < 4294967296 → (hxM acc l).2 < 4294967296
  | [], acc, h => h
  | c :: r, acc, h => by
    rw [hxM]
    split
    · split
      · decide
      · exact hxM_lt r _ (by omega)
    · decide
set_option maxHeartbeats 1000000 in
set_option maxRecDepth 100000 in
theorem pu_calls (t : ByteArray) (hs : t.size ≤ 1048576) (w : World) (h : EnvOk w) : Calls Tryd.prog 16 #[.string t, .int .i64 16, .int .i64 32] w (PuQ t w) := by
  obtain ⟨_, _, ⟨e1, h1, k1⟩, ⟨e2, h2, k2⟩⟩ := h
  by_cases h0 : t.size = 0
  · have hc : canH (bL t) = false := by
      unfold canH
      rw [bL_len, h0]
      rfl
    have HC := Lib.hid hc
    clear hc
    have hemp : t.toList.isEmpty = true := by
      rw [← decide_eq_emptyBytes]
      refine decide_eq_true ?_
      exact ByteArray.ext (Array.eq_empty_of_size_eq_zero h0)
    have hi : ∀ W, Calls Tryd.prog 25 #[.string t, .int .i64 16, .int .i64 32] W fun e w' => e = .returned (.tuple #[.int .u64 0, .iface 68 (.int .i64 2)]) ∧ w' = W := fun W => by
      go_enter Tryd.func25, Tryd.ntmps25
      go_wp2
      go_ret2
      exact ⟨rfl, rfl⟩
    go_enter Tryd.func16, Tryd.ntmps16
    go_wp2_with (first | (go_at_call 25; refine (hi _).mono ?_; rintro e w' ⟨rfl, hw⟩; subst hw) | (go_at_call 26; refine (Tryd.strconv_toError_syntax _ _ _ _ e1 _ (by omega) h1 k1).mono ?_; rintro e w' ⟨N, rfl, _, _, hb⟩))
    go_ret2
    exact ⟨0, _, rfl, by decide, hb, .inr ⟨⟨_, _, rfl⟩, HC.out⟩⟩
  · have hi := pu_inner t h0 hs w
    have hbw : Below w.heap.size w (Lib.bytesWorld w 5 t) := Lib.bytesWorld_below _ _ _
    have hlt := hxM_lt t.data.toList 0 (by decide)
    have hcan : canH t.data.toList = true → hxM 0 t.data.toList = (0, hvL t.data.toList) := fun h => hx_can h
    unfold endV at hi
    obtain ⟨W1, hW1⟩ : ∃ W1, W1 = Lib.bytesWorld w 5 t := ⟨_, rfl⟩
    rw [← hW1] at hi hbw
    clear hW1
    have h1 := cell_below h1 hbw
    have h2 := cell_below h2 hbw
    generalize hM : hxM 0 t.data.toList = M at hi hlt hcan
    obtain ⟨p, n⟩ := M
    clear hM
    by_cases hp0 : p = 0
    · subst hp0
      rw [if_pos rfl] at hi
      have HC : Hid (canH (bL t) = true → n = hvL (bL t)) := Lib.hid fun hc => congrArg Prod.snd (hcan hc)
      have HL := Lib.hid hlt
      clear hlt hcan
      go_enter Tryd.func16, Tryd.ntmps16
      go_wp2_with (go_at_call 25; refine hi.mono ?_; rintro e w' ⟨rfl, hw⟩; subst hw)
      go_ret2
      exact ⟨n, _, rfl, HL.out, hbw, .inl ⟨rfl, HC.out⟩⟩
    · have hc : canH (bL t) = false := by
        cases hq : canH (bL t) with
        | false => rfl
        | true => exact absurd (congrArg Prod.fst (hcan hq)) hp0
      have HC := Lib.hid hc
      have HL := Lib.hid hlt
      clear hc hlt hcan
      rw [if_neg hp0] at hi
      by_cases hp1 : p = 1
      · rw [if_pos hp1] at hi
        clear hp0 hp1
        go_enter Tryd.func16, Tryd.ntmps16
        go_wp2_with (first | (go_at_call 25; refine hi.mono ?_; rintro e w' ⟨rfl, hw⟩; subst hw) | (go_at_call 26; refine (Tryd.strconv_toError_syntax _ _ _ _ e1 _ (by omega) h1 k1).mono ?_; rintro e w' ⟨N, rfl, _, _, hb⟩))
        go_ret2
        exact ⟨n, _, rfl, HL.out, hbw.trans (hb.mono hbw.size), .inr ⟨⟨_, _, rfl⟩, HC.out⟩⟩
      · rw [if_neg hp1] at hi
        clear hp0 hp1
        go_enter Tryd.func16, Tryd.ntmps16
        go_wp2_with (first | (go_at_call 25; refine hi.mono ?_; rintro e w' ⟨rfl, hw⟩; subst hw) | (go_at_call 26; refine (Tryd.strconv_toError_range _ _ _ _ e2 _ (by omega) h2 k2).mono ?_; rintro e w' ⟨N, rfl, _, _, hb⟩))
        go_ret2
        exact ⟨n, _, rfl, HL.out, hbw.trans (hb.mono hbw.size), .inr ⟨⟨_, _, rfl⟩, HC.out⟩⟩
end Tx
end Go.Proofs.YtbidagapkcmfnaaDoor
end
