/-
  Bytes that came in: what the laws' own functions 'a2Long' and 'a2At' answer to them. No condition.
-/
import Derived.Test.YtbodmmniiaggoaaCb
import Derived.Test.YtbodmmniiaggoaaEt
set_option linter.unusedSectionVars false
noncomputable section
namespace Go.Proofs.Ytbodmmniiaggoaa
open Go Go.ChangeShapes Go.WideShapes Go.ChangeAt Go.RowKit Ev

abbrev J := Nat → Value × Bool
noncomputable def up (j : J) (i : Nat) (p : Value × Bool) : J := fun m => bif Nat.beq m i then p else j m
noncomputable def S (n : Nat) (j : J) (h : Heap) (ok : Bool) : St := ⟨(List.range n).map j, h, ok⟩
noncomputable def vI (z : Int) : Value × Bool := (.int .i64 z, true)
noncomputable def vB (b : Bool) : Value × Bool := (.bool b, true)
noncomputable def tok (k l c : Nat) : Value := .slice (some ⟨k, 0, some 0⟩) l c
noncomputable def j0 : J := fun _ => (undef, false)
section
variable [Frn]
noncomputable abbrev EB : Env := conE Try.prog noOrc noOrc
noncomputable def atC : Code := (Try.f5.body.getD .skip)
noncomputable def loC : Code := (Try.f4.body.getD .skip)
theorem at_body : Try.f5.body = some atC := by kernel_rfl
theorem lo_body : Try.f4.body = some loC := by kernel_rfl
theorem at_start (k l c : Nat) (i n : Int) : startS Try.f5 [tok k l c, .int .i64 i, .int .i64 n] [] = S 22 (up (up (up j0 0 (tok k l c, true)) 1 (vI i)) 2 (vI n)) [] true := by kernel_rfl
noncomputable def at0 : Code := sa atC
noncomputable def at1 : Code := sa (sa (sb atC))
noncomputable def atX : Code := sb (sa (sb atC))
noncomputable def at3 : Code := sb (sb atC)
theorem at_shape : atC = .seq at0 (.seq (.seq at1 (.cond (cx atX) (ca atX) .skip)) at3) := by kernel_rfl
noncomputable def atJ (k l c i : Nat) (j : J) : J := up (up (up j 0 (tok k l c, true)) 1 (vI i)) 2 (vI 16)
theorem at_r0 (k l c i : Nat) : regionOf EB at0 (S 22 (atJ k l c i j0) [] true) = some (S 22 (atJ k l c i (up j0 6 (vI 0))) [] true) := by kernel_rfl
def atD (d : Bool) : Bool := decide (d = false) && true
theorem at_r1 (k l c i : Nat) (j : J) : regionOf EB at1 (S 22 (atJ k l c i j) [] true) =
    some (S 22 (atJ k l c i (up (up (up (up (up (up (up (up j 7 (vI i)) 8 (tok k l c, true)) 9 (vI l)) 10 (vB (decide ((l : Int) ≤ i)))) 11 (vB (decide ((l : Int) ≤ i)))) 12 (.int .i64 16, atD (decide ((l : Int) ≤ i)))) 13 (.bool false, atD (decide ((l : Int) ≤ i)))) 14 (vB (decide ((l : Int) ≤ i) || false)))) []
      (((decide ((l : Int) ≤ i) || atD (decide ((l : Int) ≤ i))) && true) && (((atD (decide ((l : Int) ≤ i)) && true) || (!decide (decide ((l : Int) ≤ i) = false))) && true))) := by kernel_rfl
theorem at_x (k l c i : Nat) (j : J) (b : Bool) : evl (S 22 (atJ k l c i (up j 14 (vB b))) [] true).tmps (cx atX) = vB b := by kernel_rfl
theorem at_r2 (k l c i : Nat) (j : J) : regionOf EB (sa (ca atX)) (S 22 (atJ k l c i j) [] true) = some (S 22 (atJ k l c i (up j 6 (vI 0))) [] true) := by kernel_rfl
theorem at_e2 (k l c i : Nat) (j : J) : finK Try.prog Try.f5 .ret (S 22 (atJ k l c i (up j 6 (vI 0))) [] true) = some (.int .i64 0, [], true) := by kernel_rfl
theorem at_s2 : ca atX = .seq (sa (ca atX)) .ret := by kernel_rfl
/-- a byte, modulo 16 -/
noncomputable def byV (cs : List Value) (i : Nat) : Int := Int.tmod (IntKind.i64.wrap (Ev.intOf (cs.getD (i * 1) undef))) 16
theorem at_r3 (k l c i : Nat) (j : J) : codeK EB 20 at3 (S 22 (atJ k l c i j) [] true) (finK Try.prog Try.f5) =
    some (.int .i64 (byV (Frn.row k) i), [], (((Frn.row k)[i * 1]?.isSome && isIntB .u8 ((Frn.row k).getD (i * 1) undef)) && (inB i l && true))) := by kernel_rfl
theorem lo_r (l c l' c' : Nat) : codeK EB 20 loC (startS Try.f4 [tok 0 l c, tok 1 l' c'] []) (finK Try.prog Try.f4) =
    some (.bool (decide (3000 < (l : Int)) || decide (3000 < (l' : Int))), [], (((decide (3000 < (l : Int)) || atD (decide (3000 < (l : Int)))) && true) && (((atD (decide (3000 < (l : Int))) && true) || (!decide (decide (3000 < (l : Int)) = false))) && ((atD (decide (3000 < (l : Int))) || (!decide (decide (3000 < (l : Int)) = false))) && true)))) := by kernel_rfl
noncomputable def atV (cs : List Value) (l i : Nat) : Int := if l ≤ i then 0 else byV cs i
def byK : List CK := [.i .u8]
theorem by_cell {cs : List Value} {l i : Nat} (hb : rowsB byK l cs = true) (hi : i < l) : ∃ z : Int, cs[i * 1]? = some (.int .u8 z) := by
  have h := rowsB_at hb hi
  obtain ⟨z, ys, e, h2⟩ := shape_i h
  refine ⟨z, ?_⟩
  have e : (cs.drop (i * 1)).take 1 = .int .u8 z :: ys := e
  have : ((cs.drop (i * 1)).take 1)[0]? = some (.int .u8 z) := by rw [e]; rfl
  rw [List.getElem?_take_of_lt (by omega), List.getElem?_drop] at this
  exact this
theorem at_goes {cs : List Value} {k l : Nat} (hr : Frn.row k = cs) (hb : rowsB byK l cs = true) (c i : Nat) : ∃ N e s', Goes EB N atC (startS Try.f5 [tok k l c, .int .i64 i, .int .i64 16] []) e s' ∧
    finK Try.prog Try.f5 e s' = some (.int .i64 (atV cs l i), [], true) := by
  have h0 : startS Try.f5 [tok k l c, .int .i64 i, .int .i64 16] [] = S 22 (atJ k l c i j0) [] true := at_start k l c i 16
  rw [h0, at_shape]
  have g0 := Goes.reg (N := 20) (at_r0 k l c i)
  have r1 := at_r1 k l c i (up j0 6 (vI 0))
  unfold atV
  by_cases hi : l ≤ i
  · rw [decide_eq_true (show (l : Int) ≤ i by omega)] at r1
    have g1 := Goes.reg (N := 20) r1
    have hx := at_x k l c i (up (up (up (up (up (up (up (up j0 6 (vI 0)) 7 (vI i)) 8 (tok k l c, true)) 9 (vI l)) 10 (vB true)) 11 (vB true)) 12 (.int .i64 16, atD true)) 13 (.bool false, atD true)) true
    have g2 := Goes.seq (N := 21) (Goes.reg (N := 20) (at_r2 k l c i (up (up (up (up (up (up (up (up (up j0 6 (vI 0)) 7 (vI i)) 8 (tok k l c, true)) 9 (vI l)) 10 (vB true)) 11 (vB true)) 12 (.int .i64 16, atD true)) 13 (.bool false, atD true)) 14 (vB true)))) (Goes.ret (N := 20))
    rw [← at_s2] at g2
    rw [if_pos hi]
    exact ⟨_, _, _, Goes.seq (N := 60) (g0.more (by omega)) (Goes.seqR (N := 59) (Goes.seq (N := 58) (g1.more (by omega)) ((Goes.condT (b := .skip) hx g2).more (by omega)))), at_e2 k l c i _⟩
  · obtain ⟨z, hz⟩ := by_cell hb (show i < l by omega)
    rw [decide_eq_false (show ¬ (l : Int) ≤ i by omega)] at r1
    have g1 := Goes.reg (N := 20) r1
    have hx := at_x k l c i (up (up (up (up (up (up (up (up j0 6 (vI 0)) 7 (vI i)) 8 (tok k l c, true)) 9 (vI l)) 10 (vB false)) 11 (vB false)) 12 (.int .i64 16, atD false)) 13 (.bool false, atD false)) false
    have h3 := at_r3 k l c i (up (up (up (up (up (up (up (up (up j0 6 (vI 0)) 7 (vI i)) 8 (tok k l c, true)) 9 (vI l)) 10 (vB false)) 11 (vB false)) 12 (.int .i64 16, atD false)) 13 (.bool false, atD false)) 14 (vB (false || false)))
    have hk : (((Frn.row k)[i * 1]?.isSome && isIntB .u8 ((Frn.row k).getD (i * 1) undef)) && (inB i l && true)) = true := by
      rw [hr, List.getD_eq_getElem?_getD, hz, inB_true (show i < l by omega)]; rfl
    rw [hk, hr] at h3
    obtain ⟨e, s', h1, h2⟩ := codeK_out _ _ _ _ h3
    rw [if_neg hi]
    exact ⟨_, _, _, Goes.seq (N := 60) (g0.more (by omega)) (Goes.seq (N := 59) (Goes.seq (N := 58) (g1.more (by omega)) ((Goes.condF (a := ca atX) hx (Goes.skip (N := 20))).more (by omega))) (h2.more (by omega))), h1⟩
end
/-! ### Calls -/
theorem vrl_cons {ι : Frn} {μ : Nat → Option Nat} {x : Value} {xs ys : List Value} (h : @VRL ι μ (x :: xs) ys) : ∃ y zs, ys = y :: zs ∧ @VR ι μ x y ∧ @VRL ι μ xs zs := by
  match ys, h with
  | [], h => exact absurd h.1 (by simp)
  | y :: zs, h => exact ⟨y, zs, rfl, @VRL.head ι _ _ _ _ _ h, @VRL.tail ι _ _ _ _ _ h⟩
theorem vrl_none {ι : Frn} {μ : Nat → Option Nat} {ys : List Value} (h : @VRL ι μ [] ys) : ys = [] := by
  match ys, h with
  | [], _ => rfl
  | _ :: _, h => exact absurd h.1 (by simp)
theorem at_calls {w : World} {v : Value} {l : Nat} {cs : List Value} (hv : RowIn w v l cs) (hb : rowsB byK l cs = true) (i : Nat) :
    Calls Try.prog 5 #[v, .int .i64 i, .int .i64 16] w fun e w' => e = .returned (.int .i64 (atV cs l i)) ∧ Below w.heap.size w w' := by
  obtain ⟨a, c, rfl, _⟩ := id hv
  let ι : Frn := frnOf w.heap.size [(.slice a l c, l, cs)] (fun _ => none)
  have hw : @FrnIn ι w := frn_in fun k v' l' cs' hk => by
    match k, hk with
    | 0, hk => cases hk; exact hv
  have ht : @VR ι (fun _ => none) (tok 0 l c) (.slice a l c) := tok_VR (ts := [(.slice a l c, l, cs)]) rfl hv
  obtain ⟨N, e, s', hg, hk⟩ := @at_goes ι cs 0 l rfl hb c i
  have hE : @EnvOk ι (@EB ι) := @conE_ok ι _ _ _ mixed (@noExt ι _) (fun f g e => by cases e) (fun f g h => by cases h) (fun f g h => by cases h)
  refine (@goes_call ι (@EB ι) hE mixed 5 Try.f5 atC Try.func5 at_body (by kernel_rfl) _ _ _ _ _ _ _ hg hk (fun _ => none) [.slice a l c, .int .i64 i, .int .i64 16] w w.heap.size
    (@VRL.cons ι _ _ _ _ _ ht (@VRL.cons ι _ _ _ _ _ (@VR.int ι _ .i64 i) (@VRL.cons ι _ _ _ _ _ (@VR.int ι _ .i64 16) (@VRL.nil ι _)))) (@HeapR.start ι w hw) (Nat.le_refl _)).mono fun e w' hx => ?_
  obtain ⟨u, μ', rfl, _, hu, _, hbl⟩ := hx
  rw [@VR.int_inv ι _ _ _ _ hu]
  exact ⟨rfl, hbl⟩
theorem lo_calls {w : World} {v v' : Value} {l l' : Nat} {cs cs' : List Value} (hv : RowIn w v l cs) (hv' : RowIn w v' l' cs') :
    Calls Try.prog 4 #[v, v'] w fun e w' => e = .returned (.bool (decide (3000 < (l : Int)) || decide (3000 < (l' : Int)))) ∧ Below w.heap.size w w' := by
  obtain ⟨a, c, rfl, _⟩ := id hv
  obtain ⟨a', c', rfl, _⟩ := id hv'
  let ι : Frn := frnOf w.heap.size [(.slice a l c, l, cs), (.slice a' l' c', l', cs')] (fun _ => none)
  have hw : @FrnIn ι w := frn_in fun k v1 l1 cs1 hk => by
    match k, hk with
    | 0, hk => cases hk; exact hv
    | 1, hk => cases hk; exact hv'
  have ht : @VR ι (fun _ => none) (tok 0 l c) (.slice a l c) := tok_VR (ts := [(.slice a l c, l, cs), (.slice a' l' c', l', cs')]) (k := 0) rfl hv
  have ht' : @VR ι (fun _ => none) (tok 1 l' c') (.slice a' l' c') := tok_VR (ts := [(.slice a l c, l, cs), (.slice a' l' c', l', cs')]) (k := 1) rfl hv'
  have hr := @lo_r ι l c l' c'
  have hk : (((decide (3000 < (l : Int)) || atD (decide (3000 < (l : Int)))) && true) && (((atD (decide (3000 < (l : Int))) && true) || (!decide (decide (3000 < (l : Int)) = false))) && ((atD (decide (3000 < (l : Int))) || (!decide (decide (3000 < (l : Int)) = false))) && true))) = true := by
    cases decide (3000 < (l : Int)) <;> rfl
  rw [hk] at hr
  have hE : @EnvOk ι (@EB ι) := @conE_ok ι _ _ _ mixed (@noExt ι _) (fun f g e => by cases e) (fun f g h => by cases h) (fun f g h => by cases h)
  refine (@body_goes ι (@EB ι) hE mixed 4 Try.f4 loC Try.func4 lo_body (by kernel_rfl) _ _ _ _ _ hr (fun _ => none) [.slice a l c, .slice a' l' c'] w w.heap.size
    (@VRL.cons ι _ _ _ _ _ ht (@VRL.cons ι _ _ _ _ _ ht' (@VRL.nil ι _))) (@HeapR.start ι w hw) (Nat.le_refl _)).mono fun e w' hx => ?_
  obtain ⟨u, μ', rfl, _, hu, _, hbl⟩ := hx
  rw [@VR.bool_inv ι _ _ _ hu]
  exact ⟨rfl, hbl⟩
end Go.Proofs.Ytbodmmniiaggoaa
end
