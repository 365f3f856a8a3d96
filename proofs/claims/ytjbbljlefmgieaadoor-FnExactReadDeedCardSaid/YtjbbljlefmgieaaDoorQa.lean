/-
  Deeds and their words: plain lists; the model's cut where it is looked at. No condition but that the text has at most 2^20 bytes.
-/
import Derived.Test.YtjbbljlefmgieaaDoorNu
import Derived.Test.YtjbbljlefmgieaaDoorPi
import Derived.Test.YtjbbljlefmgieaaDoorTc2
import Derived.Test.YtjbbljlefmgieaaDoorTe
import Derived.Deep.MidRow
noncomputable section
namespace Go.Proofs.YtjbbljlefmgieaaDoor
namespace Tx
open Go Go.RowKit
theorem piece_le (c : UInt8) : ∀ (l : List UInt8), ∀ A ∈ pieces c l, A.length ≤ l.length
  | [], A, h => by simp [pieces_nil] at h; simp [h]
  | x :: r, A, h => by
    have ih := piece_le c r
    by_cases hx : x = c
    · subst hx
      rw [pieces_eq] at h
      rcases List.mem_cons.1 h with rfl | h
      · simp
      · have := ih A h
        simp
        omega
    · rw [pieces_ne hx] at h
      rcases List.mem_cons.1 h with rfl | h
      · have := ih (cut1 c r).1 (by simp [pieces])
        simp
        exact this
      · have := ih A (by simp [pieces, h])
        simp
        omega
theorem pieces_pos (c : UInt8) (l : List UInt8) : 0 < (pieces c l).length := by simp [pieces]
/-- the model's cut: where its pieces lie -/
def SpA (s : ByteArray) (c : UInt8) (w : World) (e : Ending) (w' : World) : Prop :=
  ∃ g cap, e = .returned (.slice (some ⟨g, 0, none⟩) (pieces c (bL s)).length cap) ∧ w.heap.size ≤ g ∧ g < w'.heap.size ∧ (∀ j u, (pcs c s)[j]? = some u → w'.cell? ⟨g, j, none⟩ = some u) ∧ Below w.heap.size w w'
theorem split_at (s : ByteArray) (c : UInt8) (hs : s.size ≤ 1048576) (w : World) : Calls Tryd.prog 17 #[.string s, .int .u8 c.toNat] w (SpA s c w) :=
  (split_calls s c hs w).mono fun e w' ⟨v, he, hown, hb⟩ => by
    obtain ⟨g, cap, rfl, h1, h2⟩ := hown.form (pieces_pos c (bL s))
    refine ⟨g, cap, he, h1, h2, fun j u hu => ?_, hb⟩
    have := hown.cells (g := g) rfl j u hu
    simpa [Addr.add_mid] using this
theorem bA' {B : Nat} {a w : World} (h : Below B a w) (hB : B ≤ w.heap.size) (o : Obj) : Below B a (w.alloc o) := h.alloc hB o
theorem pieces_one {c : UInt8} : ∀ {l A : List UInt8}, pieces c l = [A] → l = A
  | [], A, h => by simp only [pieces_nil, List.cons.injEq] at h; exact h.1
  | x :: r, A, h => by
    by_cases hx : x = c
    · subst hx
      rw [pieces_eq] at h
      simp [pieces] at h
    · rw [pieces_ne hx] at h
      simp only [List.cons.injEq] at h
      have := pieces_one (c := c) (l := r) (A := (cut1 c r).1) (by simp [pieces, h.2])
      rw [← h.1, ← this]
theorem pieces_more {c : UInt8} : ∀ {l A B : List UInt8} {P : List (List UInt8)}, pieces c l = A :: B :: P → ∃ l', l = A ++ c :: l' ∧ pieces c l' = B :: P
  | [], A, B, P, h => by simp [pieces_nil] at h
  | x :: r, A, B, P, h => by
    by_cases hx : x = c
    · subst hx
      rw [pieces_eq] at h
      simp only [List.cons.injEq] at h
      exact ⟨r, by rw [← h.1]; rfl, h.2⟩
    · rw [pieces_ne hx] at h
      simp only [List.cons.injEq] at h
      obtain ⟨l', e, hl⟩ := pieces_more (c := c) (l := r) (A := (cut1 c r).1) (B := B) (P := P) (by simp [pieces, h.2])
      refine ⟨l', ?_, hl⟩
      rw [← h.1]
      conv => lhs; rw [e]
      rfl
theorem dec_no (n : Nat) (c : UInt8) (h : dig c = false) : c ∉ Lib.decDigits n := fun hc => by
  have := List.all_eq_true.1 (dec_facts n).1 c hc
  rw [h] at this
  cases this
def W1 : List UInt8 := [97, 115, 107]
def W2 : List UInt8 := [100, 101, 108, 105, 118, 101, 114]
def W3 : List UInt8 := [99, 111, 112, 121]
def W4 : List UInt8 := [100, 114, 111, 112]
def W5 : List UInt8 := [115, 97, 118, 101]
def W6 : List UInt8 := [99, 114, 97, 115, 104]
/-- the kind of a word, 0 if there is none -/
def kd (p : List UInt8) : Int := if p = W1 then 1 else if p = W2 then 2 else if p = W3 then 3 else if p = W4 then 4 else if p = W5 then 5 else if p = W6 then 6 else 0
def wE : Value := .tuple #[.agg #[.int .i64 0, .int .i64 0], .int .i64 5]
def wK (k a : Int) : Value := .tuple #[.agg #[.int .i64 k, .int .i64 a], .int .i64 0]
def pc0 (l : List UInt8) : List UInt8 := (pieces 32 l).getD 0 []
def pc1 (l : List UInt8) : List UInt8 := (pieces 32 l).getD 1 []
/-- is the second piece the number of a deed -/
def okA (p : List UInt8) : Bool := canB p && decide (valL p ≤ 999)
/-- the deed of a text, with a code -/
def wV (l : List UInt8) : Value :=
  if 1 ≤ kd (pc0 l) ∧ kd (pc0 l) ≤ 4 ∧ (pieces 32 l).length = 2 ∧ okA (pc1 l) = true then wK (kd (pc0 l)) (valL (pc1 l))
  else if 5 ≤ kd (pc0 l) ∧ (pieces 32 l).length = 1 then wK (kd (pc0 l)) 0 else wE
def WdQ (s : ByteArray) (w : World) (e : Ending) (w' : World) : Prop := e = .returned (wV (bL s)) ∧ Below w.heap.size w w'
theorem kd_cases (p : List UInt8) : p = W1 ∨ p = W2 ∨ p = W3 ∨ p = W4 ∨ p = W5 ∨ p = W6 ∨ (kd p = 0 ∧ p ≠ W1 ∧ p ≠ W2 ∧ p ≠ W3 ∧ p ≠ W4 ∧ p ≠ W5 ∧ p ≠ W6) := by
  unfold kd
  by_cases h1 : p = W1; · exact .inl h1
  by_cases h2 : p = W2; · exact .inr (.inl h2)
  by_cases h3 : p = W3; · exact .inr (.inr (.inl h3))
  by_cases h4 : p = W4; · exact .inr (.inr (.inr (.inl h4)))
  by_cases h5 : p = W5; · exact .inr (.inr (.inr (.inr (.inl h5))))
  by_cases h6 : p = W6; · exact .inr (.inr (.inr (.inr (.inr (.inl h6)))))
  simp [h1, h2, h3, h4, h5, h6]
theorem okA_parts {p : List UInt8} (h : okA p = false) : canB p = false ∨ canB p = true ∧ 999 < valL p := by
  unfold okA at h
  cases hc : canB p with
  | false => exact .inl rfl
  | true =>
    rw [hc, Bool.true_and, decide_eq_false_iff_not] at h
    exact .inr ⟨rfl, by omega⟩
theorem okA_true {p : List UInt8} (h : okA p = true) : canB p = true ∧ valL p ≤ 999 := by
  have := Bool.and_eq_true_iff.1 h
  exact ⟨this.1, of_decide_eq_true this.2⟩
theorem num_yes {p : List UInt8} (n : Nat) (h : canB p = true) (hn : valL p = n) (hl : p.length ≤ 1048576) (w : World) : Calls Tryd.prog 19 #[.string (bS p)] w fun e w' => e = .returned (.tuple #[.int .i64 n, .bool true]) ∧ w' = w :=
  (num_calls (bS p) hl w).mono fun e w' ⟨he, hw⟩ => by
    refine ⟨?_, hw⟩
    rw [he, bL_bS, numV, if_pos h, h, hn]
theorem num_no {p : List UInt8} (h : canB p = false) (hl : p.length ≤ 1048576) (w : World) : Calls Tryd.prog 19 #[.string (bS p)] w fun e w' => e = .returned (.tuple #[.int .i64 0, .bool false]) ∧ w' = w :=
  (num_calls (bS p) hl w).mono fun e w' ⟨he, hw⟩ => by
    refine ⟨?_, hw⟩
    rw [he, bL_bS, numV, h]
    rfl
/-- the model's cut: its first two pieces -/
def Sp2 (s : ByteArray) (w : World) (e : Ending) (w' : World) : Prop :=
  ∃ g cap, e = .returned (.slice (some ⟨g, 0, none⟩) (pieces 32 (bL s)).length cap) ∧ w.heap.size ≤ g ∧ g < w'.heap.size ∧ w'.cell? ⟨g, 0, none⟩ = some (.string (bS (pc0 (bL s)))) ∧ ((pieces 32 (bL s)).length = 2 → w'.cell? ⟨g, 1, none⟩ = some (.string (bS (pc1 (bL s))))) ∧ Below w.heap.size w w'
theorem split2 (s : ByteArray) (hs : s.size ≤ 1048576) (w : World) : Calls Tryd.prog 17 #[.string s, .int .u8 32] w (Sp2 s w) :=
  (split_at s 32 hs w).mono fun e w' ⟨g, cap, he, h1, h2, hc, hb⟩ => by
    refine ⟨g, cap, he, h1, h2, ?_, fun h => ?_, hb⟩
    · refine hc 0 _ ?_
      unfold pcs pc0
      rw [List.getElem?_map, List.getElem?_eq_getElem (pieces_pos 32 (bL s))]
      simp [List.getD, List.getElem?_eq_getElem (pieces_pos 32 (bL s))]
    · refine hc 1 _ ?_
      have h1 : 1 < (pieces 32 (bL s)).length := by omega
      unfold pcs pc1
      rw [List.getElem?_map, List.getElem?_eq_getElem h1]
      simp [List.getD, List.getElem?_eq_getElem h1]
end Tx
end Go.Proofs.YtjbbljlefmgieaaDoor
end
