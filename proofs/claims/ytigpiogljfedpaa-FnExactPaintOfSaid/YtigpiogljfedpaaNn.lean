/-
  Names, as the program tells them (over the library's own contract of strings.ContainsFunc): the same as the model. No condition.
-/
import Derived.Test.YtigpiogljfedpaaNm
import Derived.Test.YtigpiogljfedpaaSi
import Derived.Lib.TrimUEq
import Derived.ProofKit
set_option linter.unusedSectionVars false
noncomputable section
namespace Go.Proofs.Ytigpiogljfedpaa
open Go Go.ChangeShapes Go.WideShapes Go.ChangeAt Go.RowKit Ev Go.Shelf

def lay_ren : Go.Shelf.Ren := ⟨fun | 17 => 143 | 15 => 163 | 20 => 176 | n => n, fun | 9 => 9 | 23 => 131 | 4 => 4 | 3 => 3 | 0 => 0 | 21 => 21 | n => n, fun | n => n⟩
theorem lay17 : Go.Proofs.LaysGw.n17 Try.prog lay_ren := {
  mixed := by kernel_rfl
  f15 := Try.func163.trans (congrArg some (by kernel_rfl))
  f17 := Try.func143.trans (congrArg some (by kernel_rfl))
  f20 := Try.func176.trans (congrArg some (by kernel_rfl))
  t0 := Try.underlying0
  a0 := Try.isAgg0
  z0 := Try.sizeOf0
  v0 := Try.zeroValue0
  i0 := by kernel_rfl
  t3 := Try.underlying3
  a3 := Try.isAgg3
  z3 := Try.sizeOf3
  v3 := Try.zeroValue3
  i3 := by kernel_rfl
  t4 := Try.underlying4
  a4 := Try.isAgg4
  z4 := Try.sizeOf4
  v4 := Try.zeroValue4
  i4 := by kernel_rfl
  t9 := Try.underlying9
  a9 := Try.isAgg9
  z9 := Try.sizeOf9
  v9 := Try.zeroValue9
  i9 := by kernel_rfl
  t21 := Try.underlying21
  a21 := Try.isAgg21
  z21 := Try.sizeOf21
  v21 := Try.zeroValue21
  i21 := by kernel_rfl
  t23 := Try.underlying131
  a23 := Try.isAgg131
  z23 := Try.sizeOf131
  v23 := Try.zeroValue131
  i23 := by kernel_rfl }
/-- no small letter -/
def otherR (r : Nat) : Bool := decide (r < 97) || decide (122 < r)
set_option maxHeartbeats 1000000 in
theorem other_pays (w : World) : PredAt Try.prog 142 #[] encR otherR w := fun W r _ => by
  unfold FnGives otherR
  by_cases h1 : r < 97 <;> by_cases h2 : 122 < r
  all_goals
    have z1 : (r : Int) < 97 ↔ r < 97 := by omega
    have z2 : (122 : Int) < (r : Int) ↔ 122 < r := by omega
    have z3 : (r : Int) > 122 ↔ 122 < r := by omega
    go_enter Try.func142, Try.ntmps142
    go_wp2
    all_goals first | (exfalso; omega) | (go_ret; exact ⟨by simp [h1, h2], 0, rfl⟩)
/-- some rune is no small letter -/
def hasOther (s : ByteArray) : Bool := decide (0 ≤ Lib.idxFunc otherR true s)
theorem contains_calls (s : ByteArray) (w : World) : Calls Try.prog 143 #[.string s, .func (.func 142) #[] #[]] w fun e w' => e = .returned (.bool (hasOther s)) ∧ Below w.heap.size w w' :=
  Any.strings_ContainsFunc lay17 142 #[] (enters_of Try.func142 (by kernel_rfl) rfl) otherR s w (other_pays w)
def cfO : Sig
  | [.string s, .func (.func g) fs cs] => some (.bool (hasOther s), Nat.beq g 142 && (fs.toList.isEmpty && cs.toList.isEmpty))
  | _ => none
theorem cf_one {ι : Frn} : @OrcOne ι Try.prog 143 cfO := by
  refine ⟨by kernel_rfl, fun args v k he hk μ cargs w ha hw => ?_⟩
  unfold cfO at he
  split at he
  · rename_i s g fs cs
    simp only [Option.some.injEq, Prod.mk.injEq] at he
    obtain ⟨rfl, rfl⟩ := he
    simp only [Bool.and_eq_true] at hk
    obtain ⟨h1, h2, h3⟩ := hk
    obtain ⟨y, ys, rfl, hy, h2'⟩ := @vrl_cons ι _ _ _ _ ha
    obtain ⟨z, zs, rfl, hz, h3'⟩ := @vrl_cons ι _ _ _ _ h2'
    have : zs = [] := by
      match zs, h3' with
      | [], _ => rfl
      | _ :: _, h => exact absurd h.1 (by simp)
    subst this
    rw [@VR.string_inv ι _ _ _ hy]
    obtain ⟨f', c', rfl, q1, q2⟩ := @VR.func_inv ι _ _ _ _ _ hz
    have e1 : f' = #[] := by
      have h2 : fs.toList = [] := List.isEmpty_iff.1 h2
      have := q1.1
      rw [h2] at this
      exact Array.ext' (List.length_eq_zero_iff.1 this.symm)
    have e2 : c' = #[] := by
      have h3 : cs.toList = [] := List.isEmpty_iff.1 h3
      have := q2.1
      rw [h3] at this
      exact Array.ext' (List.length_eq_zero_iff.1 this.symm)
    have e3 := Nat.eq_of_beq_eq_true h1
    subst e1 e2 e3
    refine (contains_calls s w).mono fun e w' hx => ?_
    obtain ⟨rfl, hb⟩ := hx
    exact ⟨_, rfl, @VR.bool ι _ _, hb⟩
  · cases he

/-! ### the two agree -/
theorem decodeN_big (n b0 b1 b2 b3 : Nat) (h : ¬ b0 < 128) : 128 ≤ (Lib.decodeN n b0 b1 b2 b3).1 := by
  unfold Lib.decodeN
  rw [if_neg h]
  repeat' split
  all_goals first | (show 128 ≤ 65533; decide) | (simp only; omega)
theorem other_byte (s : ByteArray) (pos : Nat) : otherR (Utf8.decode s pos).1 = !lowB (s.data.toList.getD pos 0) ∧ (otherR (Utf8.decode s pos).1 = false → (Utf8.decode s pos).2 = 1) := by
  rw [Lib.decode_N]
  generalize hb : s.data.toList.getD pos 0 = b
  by_cases h : b.toNat < 128
  · rw [Lib.decodeN_ascii _ _ _ _ _ h]
    refine ⟨?_, fun _ => rfl⟩
    unfold otherR lowB
    by_cases a : 97 ≤ b.toNat <;> by_cases c : b.toNat ≤ 122
    · rw [decide_eq_false (show ¬ b.toNat < 97 by omega), decide_eq_false (show ¬ 122 < b.toNat by omega), decide_eq_true a, decide_eq_true c]; rfl
    · rw [decide_eq_false (show ¬ b.toNat < 97 by omega), decide_eq_true (show 122 < b.toNat by omega), decide_eq_true a, decide_eq_false c]; rfl
    · rw [decide_eq_true (show b.toNat < 97 by omega), decide_eq_false a]; rfl
    · rw [decide_eq_true (show b.toNat < 97 by omega), decide_eq_false a]; rfl
  · have hg := decodeN_big (s.data.toList.length - pos) b.toNat (s.data.toList.getD (pos + 1) 0).toNat (s.data.toList.getD (pos + 2) 0).toNat (s.data.toList.getD (pos + 3) 0).toNat h
    generalize (Lib.decodeN (s.data.toList.length - pos) b.toNat (s.data.toList.getD (pos + 1) 0).toNat (s.data.toList.getD (pos + 2) 0).toNat (s.data.toList.getD (pos + 3) 0).toNat) = d at hg
    have e1 : otherR d.1 = true := by
      unfold otherR
      rw [decide_eq_true (show 122 < d.1 by omega), Bool.or_true]
    rw [e1]
    refine ⟨?_, fun h => by cases h⟩
    unfold lowB
    rw [decide_eq_false (show ¬ b.toNat ≤ 122 by omega), Bool.and_false]; rfl
theorem idx_low (s : ByteArray) : ∀ (f pos : Nat), s.size ≤ pos + f → decide (0 ≤ Lib.idxFuncFrom otherR true s f pos) = !((s.data.toList.drop pos).all lowB)
  | 0, pos, h => by
    have hl : s.data.toList.length = s.size := Array.length_toList
    rw [List.drop_of_length_le (by omega)]; rfl
  | f + 1, pos, h => by
    have hl : s.data.toList.length = s.size := Array.length_toList
    unfold Lib.idxFuncFrom
    by_cases hp : pos < s.size
    · rw [if_pos hp]
      have hi : pos < s.data.toList.length := by omega
      obtain ⟨h1, h2⟩ := other_byte s pos
      have hg : s.data.toList.getD pos 0 = s.data.toList[pos] := by rw [List.getD_eq_getElem?_getD, List.getElem?_eq_getElem hi, Option.getD_some]
      rw [hg] at h1
      rw [List.drop_eq_getElem_cons hi, List.all_cons]
      cases ho : otherR (Utf8.decode s pos).1 with
      | true =>
        rw [if_pos rfl]
        rw [ho] at h1
        have : lowB s.data.toList[pos] = false := by
          cases hb : lowB s.data.toList[pos] with
          | false => rfl
          | true => rw [hb] at h1; cases h1
        rw [this, decide_eq_true (by omega)]; rfl
      | false =>
        rw [if_neg (by decide), h2 ho, idx_low s f (pos + 1) (by omega)]
        rw [ho] at h1
        have : lowB s.data.toList[pos] = true := by
          cases hb : lowB s.data.toList[pos] with
          | true => rfl
          | false => rw [hb] at h1; cases h1
        rw [this, Bool.true_and]
    · rw [if_neg hp, List.drop_of_length_le (by omega)]; rfl
theorem other_low (s : ByteArray) : hasOther s = !(s.data.toList.all lowB) := by
  unfold hasOther Lib.idxFunc
  rw [idx_low s s.size 0 (by omega), List.drop_zero]

/-! ### isName -/
def iF (A B : Bool) : Bool :=
  ((bif (bif A then B else false) then nmE1 (bif A then B else false) else true) && true) && ((nmE1 (bif A then B else false) || !((bif A then B else false) == true)) && ((((nmE1 (bif A then B else false) && (nmE1 (bif A then B else false) && true)) && true) || !((bif A then B else false) == true)) && nmEF A))
theorem iF_true (A B : Bool) : iF A B = true := by cases A <;> cases B <;> rfl
theorem is_eval (s : ByteArray) : (funD Try.prog (fun f => seek f []) (fun f => seek f [(143, cfO)]) [110] 60 5 110 [.string s] []).map (fun r => (r.1, r.2.2)) =
    some (.bool (bif (bif decide ((s.size : Int) ≥ 1) then decide ((s.size : Int) ≤ 12) else false) then !(hasOther s) else false), iF (decide ((s.size : Int) ≥ 1)) (decide ((s.size : Int) ≤ 12))) := by kernel_rfl
theorem name_all (s : ByteArray) : (bif (bif decide ((s.size : Int) ≥ 1) then decide ((s.size : Int) ≤ 12) else false) then !(hasOther s) else false) = nameV s := by
  rw [other_low, Bool.not_not]
  unfold nameV
  by_cases a : 1 ≤ s.size <;> by_cases b : s.size ≤ 12
  · rw [decide_eq_true (show (s.size : Int) ≥ 1 by omega), decide_eq_true (show (s.size : Int) ≤ 12 by omega), decide_eq_true a, decide_eq_true b]
    cases s.data.toList.all lowB <;> rfl
  · rw [decide_eq_true (show (s.size : Int) ≥ 1 by omega), decide_eq_false (show ¬ (s.size : Int) ≤ 12 by omega), decide_eq_true a, decide_eq_false b]
    cases s.data.toList.all lowB <;> rfl
  · rw [decide_eq_false (show ¬ (s.size : Int) ≥ 1 by omega), decide_eq_false a]
    cases s.data.toList.all lowB <;> rfl
  · rw [decide_eq_false (show ¬ (s.size : Int) ≥ 1 by omega), decide_eq_false a]
    cases s.data.toList.all lowB <;> rfl
theorem is_one {ι : Frn} : @OrcOne ι Try.prog 110 nameO := by
  refine orc_any (?_ : @OrcOne noFrn Try.prog 110 nameO) fun args v he => ?_
  · refine orc_one (us := [110]) (cf := 60) (d := 5) mixed (by kernel_rfl) (l0 := [(143, cfO)]) (lx := []) all_nil (all_cons cf_one all_nil) (by kernel_rfl) fun args v k he hk hx => ?_
    unfold nameO at he
    split at he
    · rename_i s
      simp only [Option.some.injEq, Prod.mk.injEq] at he
      obtain ⟨rfl, rfl⟩ := he
      refine ⟨rfl, rfl, ?_⟩
      have h := is_eval s
      rw [iF_true, name_all] at h
      exact of_map h
    · cases he
  · unfold nameO at he
    split at he
    · simp only [Option.some.injEq, Prod.mk.injEq] at he
      obtain ⟨rfl, _⟩ := he
      exact ⟨rfl, rfl⟩
    · cases he
end Go.Proofs.Ytigpiogljfedpaa
end
