/-
  Numbers by strconv.ParseUint, sixteen digits. No condition but that the text has at most 2^20 bytes and what some package-level variables hold.
-/
import Derived.Test.YtbidagapkcmfnaaDoorMh
import Derived.Test.YtbidagapkcmfnaaDoorHe
import Derived.Test.YtbidagapkcmfnaaDoorShl
import Derived.Lib.Hide
import Derived.Lib.ConvBytes
import Derived.Lib.AtoiAllMem
import Derived.Lib.AtoiErrMem
import Derived.Laws.Strings3
import Derived.Laws.Closers25
import Derived.Laws.Closers25b
import Derived.WalkKit
import Derived.BigCall
import Derived.BigGuard
noncomputable section
namespace Go.Proofs.YtbidagapkcmfnaaDoor
namespace Tx
open Go Go.RowKit
def endV (p : Nat × Nat) : Value := .tuple #[.int .u64 p.2, if p.1 = 0 then .nilIface else .iface 68 (.int .i64 (if p.1 = 1 then 2 else 1))]
set_option maxHeartbeats 8000000 in
set_option maxRecDepth 100000 in
theorem pu_inner (t : ByteArray) (hne : t.size ≠ 0) (hs : t.size ≤ 1048576) (w : World) :
    Calls Tryd.prog 25 #[.string t, .int .i64 16, .int .i64 32] w fun e w' => e = .returned (endV (hxM 0 t.data.toList)) ∧ w' = Lib.bytesWorld w 5 t := by
  have hemp : t.toList.isEmpty = false := by
    rw [← decide_eq_emptyBytes]
    exact decide_eq_false (fun h => hne (by rw [h]; rfl))
  have hcv := Lib.run_convert_string_bytes (P := Tryd.prog) w 9 71 5 t (u := .string) Tryd.underlying9 Tryd.underlying71 Tryd.underlying5
  have hB : ∀ j, j < t.size → (Lib.bytesWorld w 5 t).cell? ⟨w.heap.size, j, none⟩ = some (.int .u8 (t.data.toList.getD j 0).toNat) := fun j hj => Lib.bytesWorld_cell w 5 t j hj
  obtain ⟨W1, hW1⟩ : ∃ W1, W1 = Lib.bytesWorld w 5 t := ⟨_, rfl⟩
  rw [← hW1] at hcv hB ⊢
  clear hW1
  obtain ⟨bs, hL⟩ : ∃ bs, bs = t.data.toList := ⟨_, rfl⟩
  have hLn : bs.length = t.size := by rw [hL, Lib.size_eq]
  rw [← hL] at hB ⊢
  clear hL
  go_enter Tryd.func25, Tryd.ntmps25
  go_wp2
  go_loop [12, 13, 101] (fun vu vn vi => ∃ (k acc : Nat) (a : Int), vu = .bool false ∧ vn = .int .u64 a ∧ vi = .int .i64 k ∧ k ≤ t.size ∧ Hid (a = (acc : Int) ∧ acc ≤ 4294967295 ∧ hxM 0 bs = hxM acc (bs.drop k)))
    (fun _ _ vi => t.size - (intOf vi).toNat)
  case atStart => exact ⟨0, 0, 0, rfl, rfl, rfl, by omega, Lib.hid ⟨rfl, by omega, rfl⟩⟩
  case round =>
    obtain ⟨k, acc, a, rfl, rfl, rfl, hk, hh⟩ := hrel
    obtain ⟨ha, hacc, hdec⟩ := hh.out
    clear hh
    have a0 : 0 ≤ a := by omega
    have a1 : a ≤ 4294967295 := by omega
    by_cases hkn : k < t.size
    · have hc := hB k hkn
      have hdrop : bs.drop k = bs[k]'(by omega) :: bs.drop (k + 1) := List.drop_eq_getElem_cons (by omega)
      have hget : bs.getD k 0 = bs[k]'(by omega) := by simp [List.getD, List.getElem?_eq_getElem (show k < bs.length by omega)]
      rw [hdrop] at hdec
      rw [hget] at hc
      generalize bs[k]'(by omega) = c at hc hdec
      have hc256 : c.toNat < 256 := c.toNat_lt
      clear hB hdrop hget
      have hlw : ∀ W, Calls Tryd.prog 37 #[.int .u8 c.toNat] W fun e w' => e = .returned (.int .u8 (lo c)) ∧ w' = W := fun W => Tryd.internal_strconv_lower c.toNat W
      have hv0 : 0 ≤ lo c := bits_lo_u8 .or (c.toNat : Int) 32
      have hv1 : lo c ≤ 255 := by have := bits_hi_u8 .or (c.toNat : Int) 32; unfold lo; omega
      have hdef : hxD c = if 48 ≤ c.toNat ∧ c.toNat ≤ 57 then c.toNat - 48 else if 97 ≤ lo c ∧ lo c ≤ 122 then (lo c).toNat - 87 else 99 := rfl
      have h95 : c.toNat = 95 → lo c = 127 := fun e => by unfold lo; rw [e]; decide +kernel
      generalize lo c = L at hlw hv0 hv1 hdef h95
      by_cases hdig : 48 ≤ c.toNat ∧ c.toNat ≤ 57
      · obtain ⟨hd0, hd1⟩ := hdig
        rw [if_pos ⟨hd0, hd1⟩] at hdef
        by_cases hov : 4294967295 < acc * 16 + (c.toNat - 48)
        · have hF : hxM acc (c :: bs.drop (k + 1)) = (2, 4294967295) := by rw [hxM, hdef, if_pos (by omega), if_pos hov]
          rw [hF] at hdec
          have HD := Lib.hid hdec
          have icut : a < 1152921504606846976 := by omega
          have iov : 4294967295 < a * 16 + ((c.toNat : Int) - 48) := by omega
          clear hacc hF hov ha hdec hdef hlw hv0 hv1 h95
          go_wp2
          go_ret2
          exact ⟨by rw [HD.out]; rfl, rfl⟩
        · have hF : hxM acc (c :: bs.drop (k + 1)) = hxM (acc * 16 + (c.toNat - 48)) (bs.drop (k + 1)) := by rw [hxM, hdef, if_pos (by omega), if_neg hov]
          have HN : Hid (a * 16 + ((c.toNat : Int) - 48) = ((acc * 16 + (c.toNat - 48) : Nat) : Int) ∧ acc * 16 + (c.toNat - 48) ≤ 4294967295 ∧ hxM 0 bs = hxM (acc * 16 + (c.toNat - 48)) (bs.drop (k + 1))) := Lib.hid ⟨by omega, by omega, hdec.trans hF⟩
          have icut : a < 1152921504606846976 := by omega
          have iov : a * 16 + ((c.toNat : Int) - 48) ≤ 4294967295 := by omega
          clear hacc hF hov hdec ha hdef hlw hv0 hv1 h95
          go_wp2
          go_round
          case rel => exact ⟨k + 1, acc * 16 + (c.toNat - 48), a * 16 + ((c.toNat : Int) - 48), rfl, rfl, by go_num, hkn, HN⟩
          case measure => simp [intOf]; omega
      · rw [if_neg hdig] at hdef
        by_cases hlet : 97 ≤ L ∧ L ≤ 122
        · obtain ⟨hl0, hl1⟩ := hlet
          rw [if_pos ⟨hl0, hl1⟩] at hdef
          have hn95 : ¬ (c.toNat : Int) = 95 := fun e => by
            have := h95 (by omega)
            omega
          have hnd : (c.toNat : Int) < 48 ∨ ¬ (c.toNat : Int) < 48 ∧ (57 : Int) < c.toNat := by omega
          clear h95 hdig
          by_cases hbig : 16 ≤ L.toNat - 87
          · have hF : hxM acc (c :: bs.drop (k + 1)) = (1, 0) := by rw [hxM, hdef, if_neg (by omega)]
            rw [hF] at hdec
            have HD := Lib.hid hdec
            have ibig : 16 ≤ L - 87 := by omega
            clear hacc hF ha hdec hdef hbig
            rcases hnd with d1 | ⟨d1, d2⟩
            all_goals
              go_wp2_with (go_at_call 37; refine (hlw _).mono ?_; rintro e w' ⟨rfl, hw⟩; subst hw)
              go_ret2
              exact ⟨by rw [HD.out]; rfl, rfl⟩
          · by_cases hov : 4294967295 < acc * 16 + (L.toNat - 87)
            · have hF : hxM acc (c :: bs.drop (k + 1)) = (2, 4294967295) := by rw [hxM, hdef, if_pos (by omega), if_pos hov]
              rw [hF] at hdec
              have HD := Lib.hid hdec
              have icut : a < 1152921504606846976 := by omega
              have ibig : L - 87 < 16 := by omega
              have iov : 4294967295 < a * 16 + (L - 87) := by omega
              clear hacc hF hov ha hdec hdef hbig
              rcases hnd with d1 | ⟨d1, d2⟩
              all_goals
                go_wp2_with (go_at_call 37; refine (hlw _).mono ?_; rintro e w' ⟨rfl, hw⟩; subst hw)
                go_ret2
                exact ⟨by rw [HD.out]; rfl, rfl⟩
            · have hF : hxM acc (c :: bs.drop (k + 1)) = hxM (acc * 16 + (L.toNat - 87)) (bs.drop (k + 1)) := by rw [hxM, hdef, if_pos (by omega), if_neg hov]
              have HN : Hid (a * 16 + (L - 87) = ((acc * 16 + (L.toNat - 87) : Nat) : Int) ∧ acc * 16 + (L.toNat - 87) ≤ 4294967295 ∧ hxM 0 bs = hxM (acc * 16 + (L.toNat - 87)) (bs.drop (k + 1))) := Lib.hid ⟨by omega, by omega, hdec.trans hF⟩
              have icut : a < 1152921504606846976 := by omega
              have ibig : L - 87 < 16 := by omega
              have iov : a * 16 + (L - 87) ≤ 4294967295 := by omega
              clear hacc hF hov hdec ha hdef hbig
              rcases hnd with d1 | ⟨d1, d2⟩
              all_goals
                go_wp2_with (go_at_call 37; refine (hlw _).mono ?_; rintro e w' ⟨rfl, hw⟩; subst hw)
                go_round
                case rel => exact ⟨k + 1, acc * 16 + (L.toNat - 87), a * 16 + (L - 87), rfl, by go_num, by go_num, hkn, HN⟩
                case measure => simp [intOf]; omega
        · rw [if_neg hlet] at hdef
          have hF : hxM acc (c :: bs.drop (k + 1)) = (1, 0) := by rw [hxM, hdef, if_neg (by omega)]
          rw [hF] at hdec
          have HD := Lib.hid hdec
          have hl95 : ∀ W, Calls Tryd.prog 37 #[.int .u8 95] W fun e w' => e = .returned (.int .u8 127) ∧ w' = W := fun W => by
            have := Tryd.internal_strconv_lower 95 W
            rwa [show bits .or .u8 95 32 = 127 by decide +kernel] at this
          have hnd : (c.toNat : Int) < 48 ∨ ¬ (c.toNat : Int) < 48 ∧ (57 : Int) < c.toNat := by omega
          have hnl : L < 97 ∨ ¬ L < 97 ∧ 122 < L := by omega
          clear hacc hF ha hdec hdef h95 hdig hlet
          rcases hnd with d1 | ⟨d1, d2⟩ <;> rcases hnl with e1 | ⟨e1, e2⟩
          all_goals
            go_wp2_with (first | (go_at_call 37; refine (hlw _).mono ?_; rintro e w' ⟨rfl, hw⟩; subst hw) | (go_at_call 37; refine (hl95 _).mono ?_; rintro e w' ⟨rfl, hw⟩; subst hw))
            all_goals go_ret2
            all_goals exact ⟨by rw [HD.out]; rfl, rfl⟩
    · have hkk : k = t.size := by omega
      have hF : hxM acc (bs.drop k) = (0, acc) := by rw [List.drop_eq_nil_of_le (by omega)]; rfl
      rw [hF] at hdec
      have HD := Lib.hid hdec
      subst ha
      subst hkk
      clear hacc hF hdec
      go_wp2
      go_ret2
      exact ⟨by rw [HD.out]; rfl, rfl⟩
end Tx
end Go.Proofs.YtbidagapkcmfnaaDoor
end
