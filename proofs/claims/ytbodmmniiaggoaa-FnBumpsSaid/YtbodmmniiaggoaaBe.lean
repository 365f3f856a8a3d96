/-
  FnBumps: the first loop comes to its end, where the bump is as it should be. No condition.
-/
import Derived.Test.YtbodmmniiaggoaaBb
set_option linter.unusedSectionVars false
set_option linter.unusedVariables false
noncomputable section
namespace Go.Proofs.Ytbodmmniiaggoaa
open Go Go.ChangeShapes Go.WideShapes Go.ChangeAt Go.RowKit Ev

theorem up_self {j : J} {i : Nat} {p : Value × Bool} (h : j i = p) : up j i p = j := by
  funext m
  unfold up
  cases hb : Nat.beq m i with
  | true => rw [cond_true, Nat.eq_of_beq_eq_true hb, h]
  | false => rfl
theorem S_of {s : St} {n : Nat} (h : s.tmps.length = n) : s = S n (fun m => s.tmps.getD m (undef, false)) s.heap s.ok := by
  unfold S
  have : s.tmps = (List.range n).map fun m => s.tmps.getD m (undef, false) := by
    refine List.ext_getElem? fun i => ?_
    rw [List.getElem?_map]
    by_cases hi : i < n
    · rw [List.getElem?_range hi, Option.map_some, List.getElem?_eq_getElem (by omega), List.getD_eq_getElem?_getD, List.getElem?_eq_getElem (by omega)]
      rfl
    · rw [List.getElem?_eq_none (by omega), List.getElem?_eq_none (by simp; omega)]; rfl
  rw [← this]
theorem reg_see [Frn] {E : Env} {c : Code} {s : St} {n : Nat} {h : Heap} {k : Bool} {sl : List Nat} {vs : List (Value × Bool)} (e : (regionOf E c s).map (see sl) = some (n, h, k, vs)) (hk : k = true) : ∃ j : J, regionOf E c s = some (S n j h true) ∧ sl.map j = vs := by
  obtain ⟨s', hs, e⟩ := Option.map_eq_some_iff.1 e
  unfold see at e
  simp only [Prod.mk.injEq] at e
  obtain ⟨e1, e2, e3, e4⟩ := e
  refine ⟨fun m => s'.tmps.getD m (undef, false), ?_, e4⟩
  exact hs.trans (congrArg some ((S_of e1).trans (by rw [e2, e3, hk])))
theorem row_get {b : Nat → Nat} {k : Nat} (hk : k < 16) : (rowB b)[0 + (k : Int).toNat * 1]? = some (.float .f32 (b k)) := by
  unfold rowB
  rw [Int.toNat_natCast, Nat.mul_one, Nat.zero_add, List.getElem?_map, List.getElem?_range hk]; rfl
theorem cell_N {b : Nat → Nat} {k : Nat} (hk : k < 16) : cellN b (k : Int) = b k := by
  unfold cellN
  rw [List.getD_eq_getElem?_getD, row_get hk]; rfl
theorem cell_B {b : Nat → Nat} {k : Nat} (hk : k < 16) : cellB b (k : Int) = true := by
  unfold cellB
  rw [List.getD_eq_getElem?_getD, row_get hk]; rfl
noncomputable def bodyC : Code := .seq (.seq R10 (.cond (cx Cx10) .skip (.exit 0))) (.seq (.block 1 (.seq (.seq R12 (.cond (cx Cx12) (ca Cx12) .skip)) (.seq R14 (.cond (cx Cx14) (ca Cx14) .skip)))) R11)
section
variable (ι : Frn) (l c : Nat) (x : Nat → Option (List Value)) (b : Nat → Nat)
theorem round {p i : Nat} (hp : p < 16) (h1 : 1 ≤ i) (hi : i < 16) (hu : upOk p i b = true) (hs : symOk p i b = true) (j : J) :
    ∃ j', @Goes ι (@EL ι) 60 bodyC (S 206 (loopJ p i l c j) (heapB b x) true) .normal (S 206 (loopJ p ((i + 1 : Nat) : Int) l c j') (heapB b x) true) := by
  letI : Frn := ι
  have g10 := Goes.reg (N := 20) (r10 ι l c x b j (p : Int) (i : Int))
  have c10 := (x10 l c x b (up j 63 (vI i)) (p : Int) (i : Int) (decide ((i : Int) < 16))).trans (show vB (decide ((i : Int) < 16)) = vB true by rw [decide_eq_true (by omega)])
  have g10c := Goes.condT (E := EL) (N := 20) (a := .skip) (b := .exit 0) c10 (Goes.skip (N := 19))
  generalize (up (up j 63 (vI i)) 64 (vB (decide ((i : Int) < 16)))) = ja at g10 g10c
  -- the first condition
  have q12 := r12 ι l c x b ja (p : Int) (i : Int)
  have w1 : IntKind.i64.wrap ((i : Int) - 1) = ((i - 1 : Nat) : Int) := by rw [wrap_in (by omega) (by omega)]; omega
  have hu' : (((decide ((i : Int) ≤ p) && flt .f32 (b i) (b (i - 1))) || (decide ((p : Int) < i) && fgt .f32 (b i) (b (i - 1)))) || fle .f32 (b i) 0) = false := by
    unfold upOk at hu
    cases hq : (((decide ((i : Int) ≤ p) && flt .f32 (b i) (b (i - 1))) || (decide ((p : Int) < i) && fgt .f32 (b i) (b (i - 1)))) || fle .f32 (b i) 0) with
    | false => rfl
    | true => rw [hq] at hu; cases hu
  rw [w1, cell_N hi, cell_N (show i - 1 < 16 by omega), cell_B hi, cell_B (show i - 1 < 16 by omega), inB_true (show i < 16 from hi), inB_true (show i - 1 < 16 by omega), F12_true, hu'] at q12
  obtain ⟨j2, e12, v12⟩ := reg_see q12 rfl
  simp only [List.map_cons, List.map_nil, List.cons.injEq, and_true] at v12
  have hj2 : loopJ p i l c (up j2 100 (vB false)) = j2 := by
    unfold loopJ baseJ
    rw [up_self v12.2.2.2.2, up_self v12.1, up_self v12.2.1, up_self (p := (.pointer (some ⟨7, 0, none⟩), true)) v12.2.2.1, up_self v12.2.2.2.1]
  rw [← hj2] at e12
  have g12 := Goes.reg (N := 20) e12
  have g12c := Goes.condF (E := EL) (N := 20) (a := ca Cx12) (b := .skip) (x12 l c x b j2 (p : Int) (i : Int) false) (Goes.skip (N := 19))
  -- the second one
  have q14 := r14 ι l c x b (up j2 100 (vB false)) (p : Int) (i : Int)
  have w2 : IntKind.i64.wrap ((p : Int) - i) = (p : Int) - i := wrap_in (by omega) (by omega)
  have w3 : IntKind.i64.wrap ((p : Int) + i) = ((p + i : Nat) : Int) := by rw [wrap_in (by omega) (by omega)]; omega
  have hval : ∃ j3, regionOf EL R14 (S 206 (loopJ p i l c (up j2 100 (vB false))) (heapB b x) true) = some (S 206 (loopJ p i l c (up j3 123 (vB false))) (heapB b x) true) := by
    rw [w2, w3] at q14
    have fin : ∀ {k : Bool} {v : Bool}, (regionOf EL R14 (S 206 (loopJ p i l c (up j2 100 (vB false))) (heapB b x) true)).map (see [0, 5, 7, 11, 123]) = some (206, heapB b x, k, [(tok 0 l c, true), vI p, vP7, vI i, vB v]) → k = true → v = false → ∃ j3, regionOf EL R14 (S 206 (loopJ p i l c (up j2 100 (vB false))) (heapB b x) true) = some (S 206 (loopJ p i l c (up j3 123 (vB false))) (heapB b x) true) := fun {k v} e hk hv => by
      obtain ⟨j3, e14, v14⟩ := reg_see e hk
      subst hv
      simp only [List.map_cons, List.map_nil, List.cons.injEq, and_true] at v14
      refine ⟨j3, ?_⟩
      have hj3 : loopJ p i l c (up j3 123 (vB false)) = j3 := by
        unfold loopJ baseJ
        rw [up_self v14.2.2.2.2, up_self v14.1, up_self v14.2.1, up_self (p := (.pointer (some ⟨7, 0, none⟩), true)) v14.2.2.1, up_self v14.2.2.2.1]
      rw [hj3]; exact e14
    by_cases hE : i ≤ p ∧ p + i < 16
    · have w4 : (p : Int) - i = ((p - i : Nat) : Int) := by omega
      rw [w4] at q14
      refine fin q14 (F14_true _ _ _ _ _ _ ?_) ?_
      · rw [inB_true (show p - i < 16 by omega), inB_true (show p + i < 16 from hE.2), cell_B (show p - i < 16 by omega), cell_B hE.2]
        cases (decide (0 ≤ ((p - i : Nat) : Int)) && decide (((p + i : Nat) : Int) < 16)) <;> rfl
      · rw [cell_N (show p - i < 16 by omega), cell_N hE.2]
        unfold symOk at hs
        rw [ble_of hE.1, show Nat.blt (p + i) 16 = true by rw [Nat.blt_eq]; exact hE.2] at hs
        have hs : (!(fne .f32 (b (p - i)) (b (p + i)))) = true := hs
        cases hq : fne .f32 (b (p - i)) (b (p + i)) with
        | false => rw [Bool.and_false]
        | true => rw [hq] at hs; cases hs
    · have hf : (decide (0 ≤ (p : Int) - i) && decide (((p + i : Nat) : Int) < 16)) = false := by
        cases hq : (decide (0 ≤ (p : Int) - i) && decide (((p + i : Nat) : Int) < 16)) with
        | false => rfl
        | true =>
          rw [Bool.and_eq_true, decide_eq_true_eq, decide_eq_true_eq] at hq
          exact absurd ⟨by omega, by omega⟩ hE
      refine fin q14 (F14_true _ _ _ _ _ _ ?_) ?_
      · rw [hf]; rfl
      · rw [hf]; rfl
  obtain ⟨j3, e14⟩ := hval
  have g14 := Goes.reg (N := 20) e14
  have g14c := Goes.condF (E := EL) (N := 20) (a := ca Cx14) (b := .skip) (x14 l c x b j3 (p : Int) (i : Int) false) (Goes.skip (N := 19))
  have e11 := r11 ι l c x b (up j3 123 (vB false)) (p : Int) i
  rw [wrap_in (by omega) (by omega)] at e11
  have g11 := Goes.reg (N := 20) e11
  exact ⟨_, (Goes.seq (N := 40) (Goes.seq (N := 30) (g10.more (by omega)) (g10c.more (by omega)) |>.more (by omega)) (Goes.seq (N := 39) (Goes.block (N := 35) (Goes.seq (N := 30) (Goes.seq (N := 25) (g12.more (by omega)) (g12c.more (by omega)) |>.more (by omega)) (Goes.seq (N := 25) (g14.more (by omega)) (g14c.more (by omega)) |>.more (by omega)) |>.more (by omega)) |>.more (by omega)) (g11.more (by omega)))).more (by omega)⟩
theorem stop {p : Nat} (j : J) : ∃ j', @Goes ι (@EL ι) 60 bodyC (S 206 (loopJ p ((16 : Nat) : Int) l c j) (heapB b x) true) (.exit 0) (S 206 (loopJ p ((16 : Nat) : Int) l c j') (heapB b x) true) := by
  letI : Frn := ι
  have g10 := Goes.reg (N := 20) (r10 ι l c x b j (p : Int) ((16 : Nat) : Int))
  have c10 := (x10 l c x b (up j 63 (vI ((16 : Nat) : Int))) (p : Int) ((16 : Nat) : Int) (decide (((16 : Nat) : Int) < 16))).trans (show vB (decide (((16 : Nat) : Int) < 16)) = vB false by rw [decide_eq_false (by omega)])
  have g10c := Goes.condF (E := EL) (N := 20) (a := .skip) (b := .exit 0) c10 (Goes.exit (N := 19))
  exact ⟨_, (Goes.seqX (N := 30) (Goes.seq (N := 25) (g10.more (by omega)) (g10c.more (by omega)) |>.more (by omega))).more (by omega)⟩
theorem loop1 {p : Nat} (hp : p < 16) (h : chk p b = true) (j : J) : ∃ N j', @Goes ι (@EL ι) N pc8 (S 206 (baseJ p l c j) (heapB b x) true) .normal (S 206 (loopJ p ((16 : Nat) : Int) l c j') (heapB b x) true) := by
  letI : Frn := ι
  have hc : ∀ k, k < 15 → upOk p (k + 1) b = true ∧ symOk p (k + 1) b = true := fun k hk => by
    have := List.all_eq_true.1 h k (List.mem_range.2 hk)
    rwa [Bool.and_eq_true] at this
  obtain ⟨j', hl⟩ := Goes.upto (l := 15) (N := 60) (id := 0) (E := EL) (a := bodyC) (T := fun (i : Nat) (j : J) => S 206 (loopJ p ((i + 1 : Nat) : Int) l c j) (heapB b x) true)
    (fun i j hi => round ι l c x b hp (by omega) (by omega) (hc i hi).1 (hc i hi).2 j) (fun j => stop ι l c x b j) 15 0 j (by omega)
  have g9 := Goes.reg (N := 20) (r9 ι l c x b j (p : Int))
  refine ⟨201, j', ?_⟩
  rw [pc8_shape]
  exact Goes.seq (N := 200) (g9.more (by omega)) ((Goes.blockX hl).more (by omega))
end
end Go.Proofs.Ytbodmmniiaggoaa
end
