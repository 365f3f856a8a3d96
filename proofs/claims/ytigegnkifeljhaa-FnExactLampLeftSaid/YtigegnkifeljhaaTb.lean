/-
  Sixteen times a share, made whole: between 0 and 16. No condition; nothing of one program stands here.
-/
import Derived.Test.YtigegnkifeljhaaCn
namespace Sx
open Go Ev Ieee

def oneW : Nat := 1065353216
def w16 : Nat := 1098907648
theorem word_false (r : Nat) : single.word false r = r := by
  unfold Format.word
  simp
theorem le_one {r : Nat} (hr : r < single.infRung) (h : single.order r oneW ≠ some .gt) : r ≤ oneW := by
  rcases Nat.lt_or_ge oneW r with hl | hl
  · exfalso
    apply h
    have ho := order_sv single (g := false) (h := false) hr (show oneW < single.infRung by decide +kernel)
    rw [word_false, word_false] at ho
    rw [ho]
    have h1 : valW single (oneW + 1) ≤ valW single r := valW_mono single hl
    have h2 : valW single oneW < valW single (oneW + 1) := by decide +kernel
    have : compare (sv single false r) (sv single false oneW) = .gt := by
      rw [Int.compare_eq_gt]
      show (valW single oneW : Int) < (valW single r : Int)
      exact_mod_cast Nat.lt_of_lt_of_le h2 h1
    rw [this]
  · exact hl
theorem share_bits {a : Nat} (h0 : fge .f32 a 0 = true) (h1 : fle .f32 a oneW = true) : single.read a = single.read (single.word true 0) ∨ ∃ r, r ≤ oneW ∧ single.read a = single.read r := by
  have hf : finB a = true := between_fin (c := 0) (d := oneW) (by decide +kernel) (by decide +kernel) h0 h1
  rcases read_parts a with ⟨g, r, hr, e⟩ | ⟨g, y, e⟩
  · have hlt : r < single.infRung := by
      rcases Nat.lt_or_eq_of_le hr with h | h
      · exact h
      · subst h
        unfold finB at hf
        rw [e] at hf
        cases g
        · exact absurd hf (by decide +kernel)
        · exact absurd hf (by decide +kernel)
    cases g with
    | false =>
      rw [word_false] at e
      refine .inr ⟨r, le_one hlt ?_, e⟩
      intro ho
      have ha : single.order a oneW = some .gt := by
        rw [← ho]; unfold Format.order; rw [e]
      have h1 : (single.order a oneW == some .lt || single.order a oneW == some .eq) = true := h1
      rw [ha] at h1
      cases h1
    | true =>
      left
      have hz : r = 0 := by
        rcases Nat.eq_zero_or_pos r with h | h
        · exact h
        · exfalso
          have ho := order_sv single (g := true) (h := false) hlt (show 0 < single.infRung by decide +kernel)
          rw [word_false] at ho
          have hv := valW_pos single h
          have hz : valW single 0 = 0 := by decide +kernel
          have hc : compare (sv single true r) (sv single false 0) = .lt := by
            rw [Int.compare_eq_lt]
            show -(valW single r : Int) < (valW single 0 : Int)
            rw [hz]; omega
          rw [hc] at ho
          have ha : single.order a 0 = some .lt := by
            rw [← ho]; unfold Format.order; rw [e]
          have h0 : (single.order a 0 == some .gt || single.order a 0 == some .eq) = true := h0
          rw [ha] at h0
          cases h0
      rw [e, hz]
  · unfold finB at hf
    rw [e] at hf
    cases hf
theorem times16 {a : Nat} (h0 : fge .f32 a 0 = true) (h1 : fle .f32 a oneW = true) : isN .f32 (fmul .f32 a w16) = false ∧ flt .f32 (fmul .f32 a w16) loW = false ∧ fgt .f32 (fmul .f32 a w16) hiW = false := by
  rcases share_bits h0 h1 with e | ⟨r, hr, e⟩
  · rw [mul_read e]
    decide +kernel
  · rw [mul_read e]
    have hb : fmul .f32 r w16 ≤ fmul .f32 oneW w16 := mul_mono .f32 (show oneW < single.infRung by decide +kernel) (show w16 < single.infRung by decide +kernel) hr (Nat.le_refl _)
    have hx : fmul .f32 oneW w16 = w16 := by decide +kernel
    rw [hx] at hb
    generalize fmul .f32 r w16 = b at hb
    have hlt : b < single.infRung := Nat.lt_of_le_of_lt hb (by decide +kernel)
    have hn : isN .f32 b = false := by
      have := bits_fin hlt
      unfold finB at this
      unfold isN
      rw [show FloatKind.f32.format.read b = single.read b from rfl]
      cases hr : single.read b <;> rw [hr] at this <;> first | rfl | cases this
    have o1 := order_sv single (g := false) (h := true) hlt (show (loW - 2147483648) < single.infRung by decide +kernel)
    have o2 := order_sv single (g := false) (h := false) hlt (show hiW < single.infRung by decide +kernel)
    rw [word_false, show single.word true (loW - 2147483648) = loW by decide +kernel] at o1
    rw [word_false, word_false] at o2
    have c1 : compare (sv single false b) (sv single true (loW - 2147483648)) = .gt := by
      rw [Int.compare_eq_gt]
      show -(valW single (loW - 2147483648) : Int) < (valW single b : Int)
      have : 0 < valW single (loW - 2147483648) := by decide +kernel
      omega
    have c2 : compare (sv single false b) (sv single false hiW) = .lt := by
      rw [Int.compare_eq_lt]
      show (valW single b : Int) < (valW single hiW : Int)
      have := valW_mono single hb
      have : valW single w16 < valW single hiW := by decide +kernel
      omega
    rw [c1] at o1
    rw [c2] at o2
    refine ⟨hn, ?_, ?_⟩
    · show (single.order b loW == some .lt) = false
      rw [o1]; rfl
    · show (single.order b hiW == some .gt) = false
      rw [o2]; rfl
theorem whole16 {a : Nat} (h0 : fge .f32 a 0 = true) (h1 : fle .f32 a oneW = true) : ftoiOk .f64 .i64 (rteF (fcv .f32 .f64 (fmul .f32 w16 a))) = true := by
  obtain ⟨hn, hl, hh⟩ := times16 h0 h1
  rw [mul_comm32 w16 a]
  have h := ((ends_ok' hn).mid hl hh).2.2
  unfold ftoiOk at h ⊢
  split at h
  · rename_i n hd
    rw [Bool.and_eq_true, decide_eq_true_eq, decide_eq_true_eq] at h
    have h1 : (-32768 : Int) ≤ n := h.1
    have h2 : n ≤ (32767 : Int) := h.2
    show (decide (IntKind.i64.min ≤ n) && decide (n ≤ IntKind.i64.max)) = true
    rw [Bool.and_eq_true, decide_eq_true_eq, decide_eq_true_eq]
    have m1 : IntKind.i64.min = -9223372036854775808 := by decide +kernel
    have m2 : IntKind.i64.max = 9223372036854775807 := by decide +kernel
    rw [m1, m2]
    omega
  · cases h
end Sx
