/-
  FnBumps: the second loop comes to its end, where observers and lights are as they should be. No condition.
-/
import Derived.Test.YtbodmmniiaggoaaBe
set_option linter.unusedSectionVars false
set_option linter.unusedVariables false
noncomputable section
namespace Go.Proofs.Ytbodmmniiaggoaa
open Go Go.ChangeShapes Go.WideShapes Go.ChangeAt Go.RowKit Ev

def F26 (z0 z1 z2 n3 d cm cw cd c2 c1 c0 nm nd ni : Bool) : Bool := ((((((z0 || z1) || z2) || n3) || (decide ((((z0 || z1) || z2) || n3) = false) && true)) && true) && ((((decide ((((z0 || z1) || z2) || n3) = false) && true) && ((bif d then (((decide ((((z0 || z1) || z2) || n3) = false) && true) && decide (d = true)) && true) else true) && true)) || (!decide ((((z0 || z1) || z2) || n3) = false))) && ((((((decide ((((z0 || z1) || z2) || n3) = false) && true) && decide (d = true)) && true) && (((decide ((((z0 || z1) || z2) || n3) = false) && true) && decide (d = true)) && true)) || (!((decide ((((z0 || z1) || z2) || n3) = false) && true) && decide (d = true)))) && ((((((decide ((((z0 || z1) || z2) || n3) = false) && true) && decide (d = true)) && true) && cm) || (!((decide ((((z0 || z1) || z2) || n3) = false) && true) && decide (d = true)))) && ((((((decide ((((z0 || z1) || z2) || n3) = false) && true) && decide (d = true)) && true) && nm) || (!((decide ((((z0 || z1) || z2) || n3) = false) && true) && decide (d = true)))) && ((((((decide ((((z0 || z1) || z2) || n3) = false) && true) && decide (d = true)) && true) && true) || (!((decide ((((z0 || z1) || z2) || n3) = false) && true) && decide (d = true)))) && ((((((decide ((((z0 || z1) || z2) || n3) = false) && true) && decide (d = true)) && true) && cw) || (!((decide ((((z0 || z1) || z2) || n3) = false) && true) && decide (d = true)))) && ((((((decide ((((z0 || z1) || z2) || n3) = false) && true) && decide (d = true)) && true) && ni) || (!((decide ((((z0 || z1) || z2) || n3) = false) && true) && decide (d = true)))) && (((decide ((((z0 || z1) || z2) || n3) = false) && true) || (!decide ((((z0 || z1) || z2) || n3) = false))) && ((((decide ((((z0 || z1) || z2) || n3) = false) && true) && true) || (!decide ((((z0 || z1) || z2) || n3) = false))) && (((((z0 || z1) || z2) || (decide (((z0 || z1) || z2) = false) && true)) && true) && ((((decide (((z0 || z1) || z2) = false) && true) && (decide (((z0 || z1) || z2) = false) && true)) || (!decide (((z0 || z1) || z2) = false))) && ((((decide (((z0 || z1) || z2) = false) && true) && cd) || (!decide (((z0 || z1) || z2) = false))) && ((((decide (((z0 || z1) || z2) = false) && true) && nd) || (!decide (((z0 || z1) || z2) = false))) && (((decide (((z0 || z1) || z2) = false) && true) || (!decide (((z0 || z1) || z2) = false))) && ((((decide (((z0 || z1) || z2) = false) && true) && cw) || (!decide (((z0 || z1) || z2) = false))) && ((((decide (((z0 || z1) || z2) = false) && true) && ni) || (!decide (((z0 || z1) || z2) = false))) && ((((z0 || z1) || (decide ((z0 || z1) = false) && true)) && true) && ((((decide ((z0 || z1) = false) && true) && true) || (!decide ((z0 || z1) = false))) && ((((decide ((z0 || z1) = false) && true) && c2) || (!decide ((z0 || z1) = false))) && (((((decide ((z0 || z1) = false) && true) && (decide ((z0 || z1) = false) && true)) && ni) || (!decide ((z0 || z1) = false))) && (((z0 || (decide (z0 = false) && true)) && true) && ((((decide (z0 = false) && true) && true) || (!decide (z0 = false))) && ((((decide (z0 = false) && true) && c1) || (!decide (z0 = false))) && (((((decide (z0 = false) && true) && (decide (z0 = false) && true)) && ni) || (!decide (z0 = false))) && (c0 && (ni && true)))))))))))))))))))))))))))
theorem F26_true (z0 z1 z2 n3 d cm nm : Bool) (h : (!d || (cm && nm)) = true) : F26 z0 z1 z2 n3 d cm true true true true true nm true true = true := by
  revert h
  cases z0 <;> cases z1 <;> cases z2 <;> cases n3 <;> cases d <;> cases cm <;> cases nm <;> decide
noncomputable def eyeN (e : Nat → Nat) (k i : Int) : Nat := numOf ((rowE e).getD (0 + k.toNat * 16 + i.toNat * 1) undef)
noncomputable def eyeB (e : Nat → Nat) (k i : Int) : Bool := (rowE e)[0 + k.toNat * 16 + i.toNat * 1]?.isSome && isNumB .f32 ((rowE e).getD (0 + k.toNat * 16 + i.toNat * 1) undef)
section
variable (ι : Frn) (x : Nat → Option (List Value)) (e w d : Nat → Nat) (j : J)
theorem r26 (i : Int) : (@regionOf ι (@EL ι) R26 (S 206 (loopK i j) (heapC e w d x) true)).map (see [12, 15, 17, 19, 205]) = some (206, heapC e w d x,
    F26 (fle .f32 (eyeN e 0 i) 0) (fle .f32 (eyeN e 1 i) 0) (fle .f32 (eyeN e 2 i) 0) (fne .f32 (cellN w i) (cellN d (IntKind.i64.wrap (15 - i)))) (decide (0 < i)) (cellB w (IntKind.i64.wrap (i - 1))) (cellB w i) (cellB d (IntKind.i64.wrap (15 - i))) (eyeB e 2 i) (eyeB e 1 i) (eyeB e 0 i) (inB (IntKind.i64.wrap (i - 1)) 16) (inB (IntKind.i64.wrap (15 - i)) 16) (inB i 16),
    [vP 21, vP 31, vP 40, vI i, vB ((((fle .f32 (eyeN e 0 i) 0 || fle .f32 (eyeN e 1 i) 0) || fle .f32 (eyeN e 2 i) 0) || fne .f32 (cellN w i) (cellN d (IntKind.i64.wrap (15 - i)))) || (decide (0 < i) && fle .f32 (cellN w i) (cellN w (IntKind.i64.wrap (i - 1)))))]) := by kernel_rfl
theorem r23 : @regionOf ι (@EL ι) R23 (S 206 (baseK j) (heapC e w d x) true) = some (S 206 (loopK ((0 : Nat) : Int) j) (heapC e w d x) true) := by kernel_rfl
theorem r24 (i : Nat) : @regionOf ι (@EL ι) R24 (S 206 (loopK i j) (heapC e w d x) true) = some (S 206 (loopK i (up (up j 159 (vI i)) 160 (vB (decide ((i : Int) < 16))))) (heapC e w d x) true) := by kernel_rfl
theorem r25 (i : Nat) : @regionOf ι (@EL ι) R25 (S 206 (loopK i j) (heapC e w d x) true) = some (S 206 (loopK (IntKind.i64.wrap ((i : Int) + 1)) (up (up j 161 (vI i)) 162 (vI (IntKind.i64.wrap ((i : Int) + 1))))) (heapC e w d x) true) := by kernel_rfl
theorem x24 (i : Int) (t : Bool) : evl (S 206 (loopK i (up j 160 (vB t))) (heapC e w d x) true).tmps (cx Cx24) = vB t := by kernel_rfl
theorem x26 (i : Int) (t : Bool) : evl (S 206 (loopK i (up j 205 (vB t))) (heapC e w d x) true).tmps (cx Cx26) = vB t := by kernel_rfl
theorem end_r : codeK (@EL ι) 20 end9 (S 206 (loopK 16 j) (heapC e w d x) true) (fun e s => (@finK ι Try.prog Try.f3 e s).map fun r => (r.1, [], r.2.2)) = some (.bool true, [], true) := by kernel_rfl
end
/-- what the law asks of observers and lights -/
noncomputable def litOk (i : Nat) (e w d : Nat → Nat) : Bool := !((((fle .f32 (e i) 0 || fle .f32 (e (16 + i)) 0) || fle .f32 (e (32 + i)) 0) || fne .f32 (w i) (d (15 - i))) || (bif Nat.blt 0 i then fle .f32 (w i) (w (i - 1)) else false))
noncomputable def chk2 (e w d : Nat → Nat) : Bool := (List.range 16).all fun i => litOk i e w d
theorem eye_get {e : Nat → Nat} {k i : Nat} (hk : k < 3) (hi : i < 16) : (rowE e)[0 + (k : Int).toNat * 16 + (i : Int).toNat * 1]? = some (.float .f32 (e (k * 16 + i))) := by
  unfold rowE
  rw [Int.toNat_natCast, Int.toNat_natCast, Nat.mul_one, Nat.zero_add, List.getElem?_map, List.getElem?_range (by omega)]; rfl
theorem eye_N {e : Nat → Nat} {k i : Nat} (hk : k < 3) (hi : i < 16) : eyeN e (k : Int) (i : Int) = e (k * 16 + i) := by
  unfold eyeN
  rw [List.getD_eq_getElem?_getD, eye_get hk hi]; rfl
theorem eye_B {e : Nat → Nat} {k i : Nat} (hk : k < 3) (hi : i < 16) : eyeB e (k : Int) (i : Int) = true := by
  unfold eyeB
  rw [List.getD_eq_getElem?_getD, eye_get hk hi]; rfl
theorem not_t {b : Bool} (h : (!b) = true) : b = false := by cases b <;> first | rfl | cases h
noncomputable def bodyD : Code := .seq (.seq R24 (.cond (cx Cx24) .skip (.exit 2))) (.seq (.block 3 (.seq R26 (.cond (cx Cx26) (ca Cx26) .skip))) R25)
section
variable (ι : Frn) (x : Nat → Option (List Value)) (e w d : Nat → Nat)
theorem round2 {i : Nat} (hi : i < 16) (hu : litOk i e w d = true) (j : J) :
    ∃ j', @Goes ι (@EL ι) 60 bodyD (S 206 (loopK i j) (heapC e w d x) true) .normal (S 206 (loopK ((i + 1 : Nat) : Int) j') (heapC e w d x) true) := by
  letI : Frn := ι
  have g10 := Goes.reg (N := 20) (r24 ι x e w d j i)
  have c10 := (x24 x e w d (up j 159 (vI i)) (i : Int) (decide ((i : Int) < 16))).trans (show vB (decide ((i : Int) < 16)) = vB true by rw [decide_eq_true (by omega)])
  have g10c := Goes.condT (E := EL) (N := 20) (a := .skip) (b := .exit 2) c10 (Goes.skip (N := 19))
  generalize (up (up j 159 (vI i)) 160 (vB (decide ((i : Int) < 16)))) = ja at g10 g10c
  have q := r26 ι x e w d ja (i : Int)
  have w2 : IntKind.i64.wrap (15 - (i : Int)) = ((15 - i : Nat) : Int) := by rw [wrap_in (by omega) (by omega)]; omega
  have e0 : eyeN e 0 (i : Int) = e i := by have := eye_N (e := e) (k := 0) (by omega) hi; rw [Nat.zero_mul, Nat.zero_add] at this; exact this
  have e1 : eyeN e 1 (i : Int) = e (16 + i) := by have := eye_N (e := e) (k := 1) (by omega) hi; rw [Nat.one_mul] at this; exact this
  have e2 : eyeN e 2 (i : Int) = e (32 + i) := eye_N (e := e) (k := 2) (by omega) hi
  have b0 : eyeB e 0 (i : Int) = true := eye_B (e := e) (k := 0) (by omega) hi
  have b1 : eyeB e 1 (i : Int) = true := eye_B (e := e) (k := 1) (by omega) hi
  have b2 : eyeB e 2 (i : Int) = true := eye_B (e := e) (k := 2) (by omega) hi
  rw [w2, e0, e1, e2, b0, b1, b2, cell_N hi, cell_N (show 15 - i < 16 by omega), cell_B hi, cell_B (show 15 - i < 16 by omega), inB_true (show i < 16 from hi), inB_true (show 15 - i < 16 by omega)] at q
  have fin : ∃ j2, regionOf EL R26 (S 206 (loopK i ja) (heapC e w d x) true) = some (S 206 (loopK i (up j2 205 (vB false))) (heapC e w d x) true) := by
    have fin : ∀ {k v : Bool}, (regionOf EL R26 (S 206 (loopK i ja) (heapC e w d x) true)).map (see [12, 15, 17, 19, 205]) = some (206, heapC e w d x, k, [vP 21, vP 31, vP 40, vI i, vB v]) → k = true → v = false → ∃ j2, regionOf EL R26 (S 206 (loopK i ja) (heapC e w d x) true) = some (S 206 (loopK i (up j2 205 (vB false))) (heapC e w d x) true) := fun {k v} q hk hv => by
      obtain ⟨j2, e12, v12⟩ := reg_see q hk
      subst hv
      simp only [List.map_cons, List.map_nil, List.cons.injEq, and_true] at v12
      refine ⟨j2, ?_⟩
      have hj : loopK i (up j2 205 (vB false)) = j2 := by
        unfold loopK baseK
        rw [up_self v12.2.2.2.2, up_self v12.1, up_self v12.2.1, up_self v12.2.2.1, up_self v12.2.2.2.1]
      rw [hj]; exact e12
    unfold litOk at hu
    by_cases h0 : 0 < i
    · have w1 : IntKind.i64.wrap ((i : Int) - 1) = ((i - 1 : Nat) : Int) := by rw [wrap_in (by omega) (by omega)]; omega
      rw [w1, cell_N (show i - 1 < 16 by omega), cell_B (show i - 1 < 16 by omega), inB_true (show i - 1 < 16 by omega), decide_eq_true (show (0 : Int) < (i : Int) by omega)] at q
      rw [show Nat.blt 0 i = true by rw [Nat.blt_eq]; exact h0, cond_true] at hu
      refine fin q (F26_true _ _ _ _ _ _ _ rfl) ?_
      rw [Bool.true_and]
      exact not_t hu
    · rw [decide_eq_false (show ¬ (0 : Int) < (i : Int) by omega)] at q
      rw [show Nat.blt 0 i = false by
        cases h : Nat.blt 0 i with
        | false => rfl
        | true => rw [Nat.blt_eq] at h; exact absurd h h0, cond_false] at hu
      refine fin q (F26_true _ _ _ _ _ _ _ rfl) ?_
      rw [Bool.false_and]
      exact not_t hu
  obtain ⟨j2, e26⟩ := fin
  have g26 := Goes.reg (N := 20) e26
  have g26c := Goes.condF (E := EL) (N := 20) (a := ca Cx26) (b := .skip) (x26 x e w d j2 (i : Int) false) (Goes.skip (N := 19))
  have e25 := r25 ι x e w d (up j2 205 (vB false)) i
  rw [wrap_in (by omega) (by omega)] at e25
  have g25 := Goes.reg (N := 20) e25
  exact ⟨_, (Goes.seq (N := 40) (Goes.seq (N := 30) (g10.more (by omega)) (g10c.more (by omega)) |>.more (by omega)) (Goes.seq (N := 39) (Goes.block (N := 35) (Goes.seq (N := 30) (g26.more (by omega)) (g26c.more (by omega)) |>.more (by omega)) |>.more (by omega)) (g25.more (by omega)))).more (by omega)⟩
theorem stop2 (j : J) : ∃ j', @Goes ι (@EL ι) 60 bodyD (S 206 (loopK ((16 : Nat) : Int) j) (heapC e w d x) true) (.exit 2) (S 206 (loopK ((16 : Nat) : Int) j') (heapC e w d x) true) := by
  letI : Frn := ι
  have g10 := Goes.reg (N := 20) (r24 ι x e w d j 16)
  have c10 := (x24 x e w d (up j 159 (vI ((16 : Nat) : Int))) ((16 : Nat) : Int) (decide (((16 : Nat) : Int) < 16))).trans (show vB (decide (((16 : Nat) : Int) < 16)) = vB false by rw [decide_eq_false (by omega)])
  have g10c := Goes.condF (E := EL) (N := 20) (a := .skip) (b := .exit 2) c10 (Goes.exit (N := 19))
  exact ⟨_, (Goes.seqX (N := 30) (Goes.seq (N := 25) (g10.more (by omega)) (g10c.more (by omega)) |>.more (by omega))).more (by omega)⟩
theorem loop2 (h : chk2 e w d = true) (j : J) : ∃ N j', @Goes ι (@EL ι) N pc9 (S 206 (baseK j) (heapC e w d x) true) .normal (S 206 (loopK ((16 : Nat) : Int) j') (heapC e w d x) true) := by
  letI : Frn := ι
  have hc : ∀ k, k < 16 → litOk k e w d = true := fun k hk => List.all_eq_true.1 h k (List.mem_range.2 hk)
  obtain ⟨j', hl⟩ := Goes.upto (l := 16) (N := 60) (id := 2) (E := EL) (a := bodyD) (T := fun (i : Nat) (j : J) => S 206 (loopK i j) (heapC e w d x) true)
    (fun i j hi => round2 ι x e w d hi (hc i hi) j) (fun j => stop2 ι x e w d j) 16 0 j (by omega)
  have g9 := Goes.reg (N := 20) (r23 ι x e w d j)
  refine ⟨201, j', ?_⟩
  rw [pc9_shape]
  exact Goes.seq (N := 200) (g9.more (by omega)) ((Goes.blockX hl).more (by omega))
end
/-! ### what the pieces ahead of it leave -/
noncomputable def isFs : Nat → List Value → Bool
  | 0, [] => true
  | n + 1, .float .f32 _ :: r => isFs n r
  | _, _ => false
noncomputable def numR (r : List Value) (k : Nat) : Nat := numOf (r.getD k undef)
theorem isFs_at : ∀ {n : Nat} {r : List Value}, isFs n r = true → r.length = n ∧ ∀ k, k < n → ∃ b, r[k]? = some (.float .f32 b)
  | 0, [], _ => ⟨rfl, fun k hk => absurd hk (by omega)⟩
  | n + 1, [], h => by cases h
  | 0, _ :: _, h => by cases h
  | n + 1, v :: r, h => by
    cases v with
    | float k b =>
      cases k with
      | f32 =>
        obtain ⟨h1, h2⟩ := isFs_at (n := n) (r := r) h
        refine ⟨by rw [List.length_cons, h1], fun k hk => ?_⟩
        match k with
        | 0 => exact ⟨b, rfl⟩
        | k + 1 => exact h2 k (by omega)
      | f64 => cases h
    | _ => cases h
theorem isFs_form {n : Nat} {r : List Value} (h : isFs n r = true) : r = (List.range n).map fun k => .float .f32 (numR r k) := by
  obtain ⟨h1, h2⟩ := isFs_at h
  refine List.ext_getElem? fun k => ?_
  rw [List.getElem?_map]
  by_cases hk : k < n
  · obtain ⟨b, hb⟩ := h2 k hk
    rw [List.getElem?_range hk, hb]
    unfold numR
    rw [Option.map_some, List.getD_eq_getElem?_getD, hb]; rfl
  · rw [List.getElem?_eq_none (by omega), List.getElem?_eq_none (by simp; omega)]; rfl
noncomputable def rowAt (h : Heap) (b : Nat) : List Value := match h.getD b none with
  | some r => r
  | none => []
noncomputable def mid2 (s : St) : Bool := Nat.beq s.tmps.length 206 && (Nat.beq s.heap.length 43 && (s.ok && (isPtr 21 (s.tmps.getD 12 (undef, false)) && (isPtr 31 (s.tmps.getD 15 (undef, false)) && (isPtr 40 (s.tmps.getD 17 (undef, false)) &&
  (isFs 48 (rowAt s.heap 21) && (isFs 16 (rowAt s.heap 31) && (isFs 16 (rowAt s.heap 40) && chk2 (numR (rowAt s.heap 21)) (numR (rowAt s.heap 31)) (numR (rowAt s.heap 40))))))))))
noncomputable def run2 (base : Nat) (ts : Toks) (p w q l c : Nat) (j : J) (x : Nat → Option (List Value)) : Ans :=
  @codeL (iB base ts p w q) (@EL (iB base ts p w q)) 300 half6 (S 206 (up j 0 (tok 0 l c, true)) ((List.range 20).map x) true) (testK mid2)
end Go.Proofs.Ytbodmmniiaggoaa
end
