/-
  Texts cut at a byte: plain lists. No condition.
-/
import Derived.Lib.SplitLaws
import Derived.Lib.ParseIntB
import Derived.Lib.ItoaMem
noncomputable section
namespace Go.Proofs.YtbidagapkcmfnaaDoor
namespace Tx
open Go.Lib
def cut1 (c : UInt8) : List UInt8 → List UInt8 × List (List UInt8)
  | [] => ([], [])
  | x :: r => if x = c then ([], (cut1 c r).1 :: (cut1 c r).2) else (x :: (cut1 c r).1, (cut1 c r).2)
/-- a text cut at a byte -/
def pieces (c : UInt8) (l : List UInt8) : List (List UInt8) := (cut1 c l).1 :: (cut1 c l).2
theorem pieces_nil (c : UInt8) : pieces c [] = [[]] := rfl
theorem pieces_eq (c : UInt8) (r : List UInt8) : pieces c (c :: r) = [] :: pieces c r := by
  simp [pieces, cut1]
theorem pieces_ne {c x : UInt8} (h : x ≠ c) (r : List UInt8) : pieces c (x :: r) = (x :: (cut1 c r).1) :: (cut1 c r).2 := by
  simp [pieces, cut1, h]
theorem pieces_none {c : UInt8} : ∀ {A : List UInt8}, c ∉ A → pieces c A = [A]
  | [], _ => rfl
  | x :: r, h => by
    have h1 : x ≠ c := fun e => h (by simp [e])
    have h2 : c ∉ r := fun e => h (by simp [e])
    have ih := pieces_none h2
    simp only [pieces, List.cons.injEq] at ih
    rw [pieces_ne h1, ih.1, ih.2]
theorem pieces_at {c : UInt8} : ∀ {A : List UInt8} (B : List UInt8), c ∉ A → pieces c (A ++ c :: B) = A :: pieces c B
  | [], B, _ => pieces_eq c B
  | x :: r, B, h => by
    have h1 : x ≠ c := fun e => h (by simp [e])
    have h2 : c ∉ r := fun e => h (by simp [e])
    have ih := pieces_at (A := r) B h2
    simp only [pieces, List.cons.injEq] at ih
    rw [List.cons_append, pieces_ne h1, ih.1, ih.2]
    rfl
theorem pieces_len (c : UInt8) : ∀ l, (pieces c l).length = l.count c + 1
  | [] => rfl
  | x :: r => by
    have ih := pieces_len c r
    by_cases h : x = c
    · subst h
      rw [pieces_eq, List.length_cons, ih, List.count_cons_self]
    · rw [pieces_ne h, List.count_cons_of_ne h]
      simpa [pieces] using ih
theorem pieces_no (c : UInt8) : ∀ (l : List UInt8), ∀ A ∈ pieces c l, c ∉ A
  | [] => by simp [pieces_nil]
  | x :: r => by
    have ih := pieces_no c r
    by_cases h : x = c
    · subst h
      rw [pieces_eq]
      intro A hA
      rcases List.mem_cons.1 hA with rfl | hA
      · simp
      · exact ih A hA
    · rw [pieces_ne h]
      intro A hA
      rcases List.mem_cons.1 hA with rfl | hA
      · have := ih (cut1 c r).1 (by simp [pieces])
        simp [this, Ne.symm h]
      · exact ih A (by simp [pieces, hA])
/-- what the cut at all instances gives, and a cut at some of them -/
theorem split_pieces (c : UInt8) : ∀ (l : List UInt8) (k : Nat), l.count c ≤ k → splitK [c] 0 k l = pieces c l
  | [], k, _ => by cases k <;> simp [splitK, pieces_nil, index]
  | x :: r, k, hk => by
    by_cases h : x = c
    · subst h
      rw [List.count_cons_self] at hk
      obtain ⟨k, rfl⟩ : ∃ m, k = m + 1 := ⟨k - 1, by omega⟩
      have hix : index (x :: r) [x] = 0 := by rw [index]; simp [List.isPrefixOf]
      rw [splitK, hix, if_neg (by decide), pieces_eq]
      simp only [Int.toNat_zero, Nat.add_zero, List.take_zero, List.length_cons, List.length_nil, Nat.zero_add, List.drop_succ_cons, List.drop_zero]
      rw [split_pieces x r k (by omega)]
    · rw [List.count_cons_of_ne h] at hk
      have hix : index (x :: r) [c] = if index r [c] == -1 then -1 else index r [c] + 1 := by
        have hp : ([c] : List UInt8).isPrefixOf (x :: r) = false := by simp [List.isPrefixOf, Ne.symm h]
        rw [index, hp]
        simp
      have ih := split_pieces c r k hk
      rw [pieces_ne h]
      cases k with
      | zero =>
        have h2 : splitK [c] 0 0 r = [r] := rfl
        rw [h2] at ih
        simp only [pieces, List.cons.injEq] at ih
        rw [← ih.1, ← ih.2]
        rfl
      | succ k =>
        by_cases hm : index r [c] = -1
        · rw [splitK, if_pos (by rw [hm]; rfl)] at ih
          rw [splitK, if_pos (by rw [hix, hm]; rfl)]
          simp only [pieces, List.cons.injEq] at ih
          rw [← ih.1, ← ih.2]
        · have hge := index_ge r [c]
          obtain ⟨j, hj⟩ : ∃ j : Nat, index r [c] = j := ⟨(index r [c]).toNat, by omega⟩
          have hb : (((j : Nat) : Int) == -1) = false := by
            rw [beq_eq_false_iff_ne]; omega
          rw [hj, hb] at hix
          simp only [Bool.false_eq_true, if_false] at hix
          rw [splitK, hj, if_neg (by simp [hb])] at ih
          rw [splitK, hix, if_neg (by intro e; have := beq_iff_eq.1 e; omega)]
          have e1 : (((j : Nat) : Int) + 1).toNat = j + 1 := by omega
          have e2 : (((j : Nat) : Int)).toNat = j := by omega
          rw [e1]
          rw [e2] at ih
          simp only [Nat.add_zero, List.length_cons, List.length_nil, Nat.zero_add] at ih ⊢
          simp only [pieces, List.cons.injEq] at ih
          rw [List.take_succ_cons, List.drop_succ_cons, ih.1, ih.2]
theorem split_few (c : UInt8) : ∀ (k : Nat) (l : List UInt8), k < l.count c → (splitK [c] 0 k l).length = k + 1
  | 0, _, _ => rfl
  | k + 1, l, h => by
    have hs := index_spec l [c]
    rcases hs with ⟨hm, hn⟩ | ⟨i, hi, _, ho, _⟩
    · exfalso
      have := count_miss hm
      rw [count_one] at this
      omega
    · have hc := count_hit (by simp) hi
      rw [count_one, count_one] at hc
      rw [splitK, hi, if_neg (by intro e; have := beq_iff_eq.1 e; omega), List.length_cons]
      rw [Int.toNat_natCast]
      rw [split_few c k _ (by omega)]
end Tx
end Go.Proofs.YtbidagapkcmfnaaDoor
end
