/-
  Texts cut at a byte, and the decimals in them: plain lists. No condition.
-/
import Derived.Lib.SplitLaws
import Derived.Lib.ParseIntB
import Derived.Lib.ItoaMem
noncomputable section
namespace Go.Proofs.YtjbbljlefmgieaaDoor
namespace Tx
open Go.Lib
def cut1 (c : UInt8) : List UInt8 → List UInt8 × List (List UInt8)
  | [] => ([], [])
  | x :: r => if x = c then ([], (cut1 c r).1 :: (cut1 c r).2) else (x :: (cut1 c r).1, (cut1 c r).2)
/-- a text cut at a byte -/
def pieces (c : UInt8) (l : List UInt8) : List (List UInt8) := (cut1 c l).1 :: (cut1 c l).2
theorem pieces_nil (c : UInt8) : pieces c [] = [[]] := rfl
theorem pieces_eq (c : UInt8) (r : List UInt8) : pieces c (c :: r) = [] :: pieces c r := by
  simp [pieces, cut1]
theorem pieces_ne {c x : UInt8} (h : x ≠ c) (r : List UInt8) : pieces c (x :: r) = (x :: (cut1 c r).1) :: (cut1 c r).2 := by
  simp [pieces, cut1, h]
theorem pieces_none {c : UInt8} : ∀ {A : List UInt8}, c ∉ A → pieces c A = [A]
  | [], _ => rfl
  | x :: r, h => by
    have h1 : x ≠ c := fun e => h (by simp [e])
    have h2 : c ∉ r := fun e => h (by simp [e])
    have ih := pieces_none h2
    simp only [pieces, List.cons.injEq] at ih
    rw [pieces_ne h1, ih.1, ih.2]
theorem pieces_at {c : UInt8} : ∀ {A : List UInt8} (B : List UInt8), c ∉ A → pieces c (A ++ c :: B) = A :: pieces c B
  | [], B, _ => pieces_eq c B
  | x :: r, B, h => by
    have h1 : x ≠ c := fun e => h (by simp [e])
    have h2 : c ∉ r := fun e => h (by simp [e])
    have ih := pieces_at (A := r) B h2
    simp only [pieces, List.cons.injEq] at ih
    rw [List.cons_append, pieces_ne h1, ih.1, ih.2]
    rfl
theorem pieces_len (c : UInt8) : ∀ l, (pieces c l).length = l.count c + 1
  | [] => rfl
  | x :: r => by
    have ih := pieces_len c r
    by_cases h : x = c
    · subst h
      rw [pieces_eq, List.length_cons, ih, List.count_cons_self]
    · rw [pieces_ne h, List.count_cons_of_ne h]
      simpa [pieces] using ih
theorem pieces_no (c : UInt8) : ∀ (l : List UInt8), ∀ A ∈ pieces c l, c ∉ A
  | [] => by simp [pieces_nil]
  | x :: r => by
    have ih := pieces_no c r
    by_cases h : x = c
    · subst h
      rw [pieces_eq]
      intro A hA
      rcases List.mem_cons.1 hA with rfl | hA
      · simp
      · exact ih A hA
    · rw [pieces_ne h]
      intro A hA
      rcases List.mem_cons.1 hA with rfl | hA
      · have := ih (cut1 c r).1 (by simp [pieces])
        simp [this, Ne.symm h]
      · exact ih A (by simp [pieces, hA])
/-- what the cut at all instances gives, and a cut at some of them -/
theorem split_pieces (c : UInt8) : ∀ (l : List UInt8) (k : Nat), l.count c ≤ k → splitK [c] 0 k l = pieces c l
  | [], k, _ => by cases k <;> simp [splitK, pieces_nil, index]
  | x :: r, k, hk => by
    by_cases h : x = c
    · subst h
      rw [List.count_cons_self] at hk
      obtain ⟨k, rfl⟩ : ∃ m, k = m + 1 := ⟨k - 1, by omega⟩
      have hix : index (x :: r) [x] = 0 := by rw [index]; simp [List.isPrefixOf]
      rw [splitK, hix, if_neg (by decide), pieces_eq]
      simp only [Int.toNat_zero, Nat.add_zero, List.take_zero, List.length_cons, List.length_nil, Nat.zero_add, List.drop_succ_cons, List.drop_zero]
      rw [split_pieces x r k (by omega)]
    · rw [List.count_cons_of_ne h] at hk
      have hix : index (x :: r) [c] = if index r [c] == -1 then -1 else index r [c] + 1 := by
        have hp : ([c] : List UInt8).isPrefixOf (x :: r) = false := by simp [List.isPrefixOf, Ne.symm h]
        rw [index, hp]
        simp
      have ih := split_pieces c r k hk
      rw [pieces_ne h]
      cases k with
      | zero =>
        have h2 : splitK [c] 0 0 r = [r] := rfl
        rw [h2] at ih
        simp only [pieces, List.cons.injEq] at ih
        rw [← ih.1, ← ih.2]
        rfl
      | succ k =>
        by_cases hm : index r [c] = -1
        · rw [splitK, if_pos (by rw [hm]; rfl)] at ih
          rw [splitK, if_pos (by rw [hix, hm]; rfl)]
          simp only [pieces, List.cons.injEq] at ih
          rw [← ih.1, ← ih.2]
        · have hge := index_ge r [c]
          obtain ⟨j, hj⟩ : ∃ j : Nat, index r [c] = j := ⟨(index r [c]).toNat, by omega⟩
          have hb : (((j : Nat) : Int) == -1) = false := by
            rw [beq_eq_false_iff_ne]; omega
          rw [hj, hb] at hix
          simp only [Bool.false_eq_true, if_false] at hix
          rw [splitK, hj, if_neg (by simp [hb])] at ih
          rw [splitK, hix, if_neg (by intro e; have := beq_iff_eq.1 e; omega)]
          have e1 : (((j : Nat) : Int) + 1).toNat = j + 1 := by omega
          have e2 : (((j : Nat) : Int)).toNat = j := by omega
          rw [e1]
          rw [e2] at ih
          simp only [Nat.add_zero, List.length_cons, List.length_nil, Nat.zero_add] at ih ⊢
          simp only [pieces, List.cons.injEq] at ih
          rw [List.take_succ_cons, List.drop_succ_cons, ih.1, ih.2]
theorem split_few (c : UInt8) : ∀ (k : Nat) (l : List UInt8), k < l.count c → (splitK [c] 0 k l).length = k + 1
  | 0, _, _ => rfl
  | k + 1, l, h => by
    have hs := index_spec l [c]
    rcases hs with ⟨hm, hn⟩ | ⟨i, hi, _, ho, _⟩
    · exfalso
      have := count_miss hm
      rw [count_one] at this
      omega
    · have hc := count_hit (by simp) hi
      rw [count_one, count_one] at hc
      rw [splitK, hi, if_neg (by intro e; have := beq_iff_eq.1 e; omega), List.length_cons]
      rw [Int.toNat_natCast]
      rw [split_few c k _ (by omega)]
/-! decimals -/
def dig (c : UInt8) : Bool := decide (48 ≤ c.toNat) && decide (c.toNat ≤ 57)
def valF (n : Nat) (c : UInt8) : Nat := n * 10 + (c.toNat - 48)
def valL (l : List UInt8) : Nat := l.foldl valF 0
/-- a number of one to nine digits, as it is written -/
def canB (l : List UInt8) : Bool := decide (1 ≤ l.length) && decide (l.length ≤ 9) && !(decide (l.head? = some 48) && decide (1 < l.length)) && l.all dig
theorem valL_snoc (l : List UInt8) (c : UInt8) : valL (l ++ [c]) = valL l * 10 + (c.toNat - 48) := by simp [valL, valF]
theorem foldl_ge : ∀ (l : List UInt8) (n : Nat), n ≤ l.foldl valF n
  | [], n => Nat.le_refl _
  | c :: r, n => by
    have := foldl_ge r (valF n c)
    simp only [List.foldl_cons]
    unfold valF at this ⊢
    omega
theorem dig_of (d : Nat) (h : d < 10) : dig (UInt8.ofNat (48 + d)) = true ∧ (UInt8.ofNat (48 + d)).toNat = 48 + d := by
  have : (UInt8.ofNat (48 + d)).toNat = 48 + d := by rw [UInt8.toNat_ofNat']; omega
  refine ⟨?_, this⟩
  unfold dig
  rw [this]
  simp
  omega
theorem dec_facts (n : Nat) : (decDigits n).all dig = true ∧ valL (decDigits n) = n ∧ 1 ≤ (decDigits n).length ∧ (10 ≤ n → (decDigits n).head? ≠ some 48) ∧ (n ≠ 0 → (decDigits n).head? ≠ some 48) := by
  induction n using Nat.strongRecOn with
  | ind n ih =>
    by_cases h : n < 10
    · rw [decDigits_one h]
      have := dig_of n h
      generalize UInt8.ofNat (48 + n) = c at *
      refine ⟨by simp [this.1], by simp [valL, valF, this.2], by simp, fun h1 => by omega, fun h1 => ?_⟩
      intro e
      simp only [List.head?_cons, Option.some.injEq] at e
      have h2 := congrArg UInt8.toNat e
      rw [this.2] at h2
      have : (48 : UInt8).toNat = 48 := rfl
      omega
    · have ih := ih (n / 10) (by omega)
      have d := dig_of (n % 10) (by omega)
      rw [decDigits, dif_neg h]
      generalize UInt8.ofNat (48 + n % 10) = c at *
      refine ⟨?_, ?_, by simp, fun _ => ?_, fun _ => ?_⟩
      · rw [List.all_append, ih.1]
        simp [d.1]
      · rw [valL_snoc, ih.2.1, d.2]
        omega
      all_goals
        have := ih.2.2.2.2 (by omega)
        rw [List.head?_append]
        revert this
        cases hh : (decDigits (n / 10)).head? with
        | none =>
          have h3 := ih.2.2.1
          rw [List.head?_eq_none_iff] at hh
          rw [hh] at h3
          simp at h3
        | some x => intro h4; simpa using h4
theorem dec_len : ∀ (k n : Nat), n < 10 ^ (k + 1) → (decDigits n).length ≤ k + 1
  | 0, n, h => by rw [decDigits_one (by simpa using h)]; simp
  | k + 1, n, h => by
    by_cases h1 : n < 10
    · rw [decDigits_one h1]; simp
    · rw [decDigits, dif_neg h1, List.length_append]
      have := dec_len k (n / 10) (by rw [Nat.pow_succ] at h; omega)
      simp
      omega
theorem can_dec (n : Nat) (h : n < 1000000000) : canB (decDigits n) = true := by
  have f := dec_facts n
  have l := dec_len 8 n (by simpa using h)
  unfold canB
  rw [f.1]
  by_cases h1 : 1 < (decDigits n).length
  · have h2 : 10 ≤ n := by
      rcases Nat.lt_or_ge n 10 with h3 | h3
      · rw [decDigits_one h3] at h1; simp at h1
      · exact h3
    have := f.2.2.2.1 h2
    simp [f.2.2.1, l, this]
  · simp [f.2.2.1, l, h1]
theorem can_parts {l : List UInt8} (h : canB l = true) : 1 ≤ l.length ∧ l.length ≤ 9 ∧ (1 < l.length → l.head? ≠ some 48) ∧ l.all dig = true := by
  unfold canB at h
  simp only [Bool.and_eq_true, decide_eq_true_eq, Bool.not_eq_true'] at h
  refine ⟨h.1.1.1, h.1.1.2, fun h1 h2 => ?_, h.2⟩
  have := h.1.2
  simp [h1, h2] at this
theorem dig_nat {c : UInt8} (h : dig c = true) : 48 ≤ c.toNat ∧ c.toNat ≤ 57 := by simpa [dig] using h
theorem dec_val : ∀ (k : Nat) (l : List UInt8), l.length = k + 1 → l.all dig = true → (1 < l.length → l.head? ≠ some 48) → decDigits (valL l) = l ∧ (l.head? ≠ some 48 → 1 ≤ valL l)
  | 0, l, hl, hd, _ => by
    match l, hl with
    | [c], _ =>
      have hc : dig c = true := by simpa using hd
      have hn := dig_nat hc
      have hv : valL [c] = c.toNat - 48 := by simp [valL, valF]
      rw [hv, decDigits_one (by omega)]
      have e : UInt8.ofNat (48 + (c.toNat - 48)) = c := by
        apply UInt8.toNat_inj.1
        rw [UInt8.toNat_ofNat']
        omega
      refine ⟨by rw [e], fun h => ?_⟩
      have : c.toNat ≠ 48 := fun e => h (by
        simp only [List.head?_cons, Option.some.injEq]
        exact UInt8.toNat_inj.1 e)
      omega
  | k + 1, l, hl, hd, hz => by
    obtain ⟨A, c, rfl⟩ : ∃ A c, l = A ++ [c] := by
      rcases List.eq_nil_or_concat l with rfl | ⟨A, c, h⟩
      · simp at hl
      · exact ⟨A, c, by simpa using h⟩
    rw [List.length_append] at hl
    have hA : A.length = k + 1 := by simpa using hl
    rw [List.all_append] at hd
    have hd1 : A.all dig = true := (Bool.and_eq_true_iff.1 hd).1
    have hc : dig c = true := by simpa using (Bool.and_eq_true_iff.1 hd).2
    have hn := dig_nat hc
    have hne : A ≠ [] := by rintro rfl; simp at hA
    have hh : (A ++ [c]).head? = A.head? := by
      cases A with
      | nil => exact absurd rfl hne
      | cons a r => rfl
    rw [hh] at hz ⊢
    have hz := hz (by simp [hA])
    have ih := dec_val k A hA hd1 (fun _ => hz)
    have hv := ih.2 hz
    rw [valL_snoc]
    refine ⟨?_, fun _ => by omega⟩
    rw [decDigits, dif_neg (by omega)]
    have e1 : (valL A * 10 + (c.toNat - 48)) / 10 = valL A := by omega
    have e2 : (valL A * 10 + (c.toNat - 48)) % 10 = c.toNat - 48 := by omega
    rw [e1, e2, ih.1]
    have e : UInt8.ofNat (48 + (c.toNat - 48)) = c := by
      apply UInt8.toNat_inj.1
      rw [UInt8.toNat_ofNat']
      omega
    rw [e]
theorem dec_can {l : List UInt8} (h : canB l = true) : decDigits (valL l) = l := by
  have p := can_parts h
  exact (dec_val (l.length - 1) l (by omega) p.2.2.2 p.2.2.1).1
theorem val_lt {l : List UInt8} (h : canB l = true) : valL l < 1000000000 := by
  have p := can_parts h
  have : ∀ (k : Nat) (l : List UInt8), l.length ≤ k → l.all dig = true → valL l < 10 ^ k := by
    intro k
    induction k with
    | zero =>
      intro l hl _
      have h0 : l = [] := List.eq_nil_of_length_eq_zero (by omega)
      rw [h0]
      decide
    | succ k ih =>
      intro l hl hd
      rcases List.eq_nil_or_concat l with rfl | ⟨A, c, hx⟩
      · exact Nat.pow_pos (by omega)
      · rw [hx] at hl hd ⊢
        simp only [List.concat_eq_append] at hl hd ⊢
        rw [List.all_append] at hd
        have hc : dig c = true := by simpa using (Bool.and_eq_true_iff.1 hd).2
        have hn := dig_nat hc
        have := ih A (by simpa using hl) (Bool.and_eq_true_iff.1 hd).1
        rw [valL_snoc, Nat.pow_succ]
        omega
  have := this 9 l p.2.1 p.2.2.2
  simpa using this
theorem parseM (M : Nat) (hM : M < 18446744073709551616) : ∀ (l : List UInt8) (acc : Nat), l.all dig = true → l.foldl valF acc ≤ M → l.foldl valF acc < 1844674407370955162 → parseUintM M acc l = .ok (l.foldl valF acc)
  | [], acc, _, _, _ => rfl
  | c :: r, acc, hd, h1, h2 => by
    rw [List.all_cons, Bool.and_eq_true_iff] at hd
    have hn := dig_nat hd.1
    have hg := foldl_ge r (valF acc c)
    simp only [List.foldl_cons] at h1 h2 ⊢
    have hv : valF acc c = acc * 10 + (c.toNat - 48) := rfl
    rw [parseUintM, if_pos hn, if_neg (by omega), if_neg (by omega)]
    exact parseM M hM r (valF acc c) hd.2 h1 h2
/-- what strconv.ParseInt gives besides its error -/
def piB (B : Nat) (l : List UInt8) : Int := match parseIntB B l with
  | .ok v => v
  | .syntax => 0
  | .range => intSat B l
theorem pi_can {B : Nat} (hB : 1 ≤ B ∧ B ≤ 64) {l : List UInt8} (h : canB l = true) (hv : valL l < 2 ^ (B - 1)) : piB B l = valL l := by
  have p := can_parts h
  have hl := val_lt h
  match l, p with
  | c :: r, p =>
    have hc := dig_nat (List.all_cons ▸ p.2.2.2 |> Bool.and_eq_true_iff.1).1
    have hp : 2 ^ B = 2 * 2 ^ (B - 1) := by
      conv => lhs; rw [show B = (B - 1) + 1 by omega, Nat.pow_succ]
      omega
    have hp2 : 2 ^ B ≤ 2 ^ 64 := Nat.pow_le_pow_right (by omega) hB.2
    have hq := parseM (2 ^ B - 1) (by omega) (c :: r) 0 p.2.2.2 (show valL (c :: r) ≤ _ by omega) (show valL (c :: r) < _ by omega)
    unfold piB parseIntB
    simp only [show ¬ (c.toNat = 43 ∨ c.toNat = 45) by omega, if_false, parseUintB, if_neg (List.cons_ne_nil c r), hq]
    have hn : ¬ c.toNat = 45 := by omega
    simp only [hn, not_false_eq_true, true_and, false_and, if_false]
    rw [show List.foldl valF 0 (c :: r) = valL (c :: r) from rfl, if_neg (by omega)]
theorem pi_bound (B : Nat) (l : List UInt8) : -(2 ^ (B - 1) : Nat) ≤ piB B l ∧ piB B l ≤ ((2 ^ (B - 1) - 1 : Nat) : Int) := by
  have hp : 1 ≤ 2 ^ (B - 1) := Nat.pow_pos (by omega)
  unfold piB
  cases hq : parseIntB B l with
  | range =>
    simp only [intSat]
    split <;> omega
  | ok v =>
    simp only
    unfold parseIntB at hq
    cases l with
    | nil => simp at hq
    | cons c r =>
      simp only at hq
      revert hq
      cases parseUintB B (if c.toNat = 43 ∨ c.toNat = 45 then r else c :: r) with
      | range => intro h; cases h
      | ok u =>
        simp only
        by_cases hn : c.toNat = 45
        · simp only [hn, not_true_eq_false, false_and, true_and, if_false, if_true]
          split
          · intro h; cases h
          · intro h
            injection h with h
            omega
        · simp only [hn, not_false_eq_true, true_and, false_and, if_false]
          split
          · intro h; cases h
          · intro h
            injection h with h
            omega
      | _ => intro h; cases h
  | _ => simp only; omega
end Tx
end Go.Proofs.YtjbbljlefmgieaaDoor
end
