/-
  The ends of curves, told by a name alone in runs. No condition.
-/
import Derived.Test.YtfgomdngffaffaaEm
import Derived.Test.YtfgomdngffaffaaW
import Derived.Test.YtfgomdngffaffaaSy
set_option linter.unusedSectionVars false
set_option linter.unusedVariables false
noncomputable section
namespace Go.Proofs.Ytfgomdngffaffaa
open Go Go.ChangeShapes Go.WideShapes Go.ChangeAt Go.RowKit Ev Sx

def fltN : Value → Nat
  | .float _ b => b
  | _ => 0
def zE (cs : List Value) (i : Nat) : Nat := fltN (cs.getD i undef)
def endF (g : Bool) (cs : List Value) : Nat := En.ansF (zE cs) (endAt g (zE cs) 16)
def endI (g : Bool) (cs : List Value) : Int := En.ansI (endAt g (zE cs) 16)
def endV (g : Bool) (cs : List Value) : Value := .tuple #[.float .f32 (endF g cs), .int .i64 (endI g cs)]
def rowOk (cs : List Value) : Bool := fitL (List.replicate 16 (.f .f32)) cs
theorem fit_flt : ∀ {n : Nat} {cs : List Value}, fitL (List.replicate n (.f .f32)) cs = true → cs.length = n ∧ ∀ v ∈ cs, ∃ b, v = .float .f32 b
  | 0, [], _ => ⟨rfl, fun v h => by cases h⟩
  | 0, _ :: _, h => by cases h
  | n + 1, [], h => by cases h
  | n + 1, v :: r, h => by
    have h : (fitV (.f .f32) v && fitL (List.replicate n (.f .f32)) r) = true := h
    rw [Bool.and_eq_true] at h
    obtain ⟨h1, h2⟩ := fit_flt h.2
    refine ⟨by rw [List.length_cons, h1], fun u hu => ?_⟩
    rcases List.mem_cons.1 hu with rfl | hu
    · cases u with
      | float k b =>
        have h0 : sameK .f32 k = true := h.1
        have := Ev.sameK_eq h0
        subst this
        exact ⟨b, rfl⟩
      | _ => cases h.1
    · exact h2 u hu
theorem row_z {cs : List Value} (h : rowOk cs = true) : cs = En.zrow (zE cs) := by
  obtain ⟨h1, h2⟩ := fit_flt h
  refine List.ext_getElem? fun i => ?_
  unfold En.zrow
  rw [List.getElem?_map]
  by_cases hi : i < 16
  · obtain ⟨b, hb⟩ := h2 cs[i] (List.getElem_mem _)
    rw [List.getElem?_range hi, List.getElem?_eq_getElem (by omega), Option.map_some, hb]
    unfold zE
    rw [List.getD_eq_getElem?_getD, List.getElem?_eq_getElem (by omega), Option.getD_some, hb]
    rfl
  · rw [List.getElem?_eq_none (by omega), List.getElem?_eq_none (by simp; omega)]; rfl
theorem arr_z {cs : Array Value} (h : rowOk cs.toList = true) : cs = (En.zrow (zE cs.toList)).toArray := Array.ext' (row_z h)
/-! ### contracts -/
def endS : Sig
  | [.agg cs, .bool g] => some (endV g cs.toList, rowOk cs.toList)
  | _ => none
def eoS : Sig
  | [.agg cs, .func (.func f) a b] => bif Nat.beq f 36 then some (endV false cs.toList, rowOk cs.toList && (a.toList.isEmpty && b.toList.isEmpty)) else
    bif Nat.beq f 37 then some (endV true cs.toList, rowOk cs.toList && (a.toList.isEmpty && b.toList.isEmpty)) else none
  | _ => none
theorem EE_ok : @EnvOk noFrn (@En.EE noFrn) := @conE_ok noFrn _ _ _ mixed (@noExt noFrn _) (@orc_list noFrn _ _ En.orcEdOk) noCon (fun f g h => by cases h)
theorem end_one {ι : Frn} : @OrcOne ι Try.prog 34 endS := by
  refine ⟨by kernel_rfl, fun args v k he hk μ cargs w ha hw => ?_⟩
  unfold endS at he
  split at he
  · rename_i cs g
    simp only [Option.some.injEq, Prod.mk.injEq] at he
    obtain ⟨rfl, rfl⟩ := he
    have hcs := arr_z hk
    obtain ⟨N, s', hg, h', hf⟩ := @En.le_goes noFrn (zE cs.toList) g
    rw [← hcs] at hg
    have hb : [Value.agg cs, Value.bool g].all bareP = true := by rw [hcs]; rfl
    refine (@goes_call noFrn (@En.EE noFrn) EE_ok mixed 34 Try.f34 En.leC Try.func34 (by kernel_rfl) (by kernel_rfl) _ _ _ _ _ _ _ hg hf (fun _ => none) cargs w w.heap.size (bareP_VRL ha hb) (@HeapR.start noFrn w (noIn w)) (Nat.le_refl _)).mono fun e w' hx => ?_
    obtain ⟨u, μ', rfl, _, hu, _, hbl⟩ := hx
    exact ⟨u, rfl, bareP_VR hu rfl, hbl⟩
  · cases he
theorem vcons {ι : Frn} {μ : Nat → Option Nat} {x : Value} {xs ys : List Value} (h : @VRL ι μ (x :: xs) ys) : ∃ y zs, ys = y :: zs ∧ @VR ι μ x y ∧ @VRL ι μ xs zs := by
  match ys, h with
  | [], h => exact absurd h.1 (by simp)
  | y :: zs, h => exact ⟨y, zs, rfl, @VRL.head ι _ _ _ _ _ h, @VRL.tail ι _ _ _ _ _ h⟩
theorem no_arr {a : Array Value} (h : a.toList.isEmpty = true) : a = #[] := Array.ext' (List.isEmpty_iff.1 h)
theorem eo_call {ι : Frn} {cs : Array Value} {g : Bool} (hk : rowOk cs.toList = true) {μ : Nat → Option Nat} {cargs : List Value} {w : World} (ha : @VRL ι μ [.agg cs, .func (.func (En.cl g)) #[] #[]] cargs) :
    Calls Try.prog 35 cargs.toArray w fun e w' => ∃ v', e = .returned v' ∧ @VR ι μ (endV g cs.toList) v' ∧ Below w.heap.size w w' := by
  have hcs := arr_z hk
  obtain ⟨N, s', hg, h', hf⟩ := @En.eo_goes noFrn (zE cs.toList) g
  rw [← hcs] at hg
  obtain ⟨y, ys, rfl, hy, h2⟩ := @vcons ι _ _ _ _ ha
  obtain ⟨y2, zs, rfl, hy2, h3⟩ := @vcons ι _ _ _ _ h2
  have : zs = [] := by
    match zs, h3 with
    | [], _ => rfl
    | _ :: _, h => exact absurd h.1 (by simp)
  subst this
  obtain ⟨f', c', rfl, q1, q2⟩ := @VR.func_inv ι _ _ _ _ _ hy2
  have e1 : f' = #[] := Array.ext' (List.length_eq_zero_iff.1 q1.1.symm)
  have e2 : c' = #[] := Array.ext' (List.length_eq_zero_iff.1 q2.1.symm)
  subst e1 e2
  have hb : bareP (.agg cs) = true := by rw [hcs]; rfl
  have hv : @VRL noFrn (fun _ => none) [.agg cs, .func (.func (En.cl g)) #[] #[]] [y, .func (.func (En.cl g)) #[] #[]] :=
    @VRL.cons noFrn _ _ _ _ _ (bareP_VR hy hb) (@VRL.cons noFrn _ _ _ _ _ (@VR.func noFrn _ _ _ _ _ _ rfl (fun i x y h => by simp at h) rfl (fun i x y h => by simp at h)) (@VRL.nil noFrn _))
  refine (@goes_call noFrn (@En.EE noFrn) EE_ok mixed 35 Try.f35 En.eoC Try.func35 (by kernel_rfl) (by kernel_rfl) _ _ _ _ _ _ _ hg hf (fun _ => none) _ w w.heap.size hv (@HeapR.start noFrn w (noIn w)) (Nat.le_refl _)).mono fun e w' hx => ?_
  obtain ⟨u, μ', rfl, _, hu, _, hbl⟩ := hx
  exact ⟨u, rfl, bareP_VR hu rfl, hbl⟩
theorem eo_one {ι : Frn} : @OrcOne ι Try.prog 35 eoS := by
  refine ⟨by kernel_rfl, fun args v k he hk μ cargs w ha hw => ?_⟩
  unfold eoS at he
  split at he
  · rename_i cs f a b
    cases h1 : Nat.beq f 36 with
    | true =>
      rw [h1, cond_true] at he
      simp only [Option.some.injEq, Prod.mk.injEq] at he
      obtain ⟨rfl, rfl⟩ := he
      simp only [Bool.and_eq_true] at hk
      have e := Nat.eq_of_beq_eq_true h1
      subst e
      rw [no_arr hk.2.1, no_arr hk.2.2] at ha
      exact eo_call (g := false) hk.1 ha
    | false =>
      rw [h1, cond_false] at he
      cases h2 : Nat.beq f 37 with
      | true =>
        rw [h2, cond_true] at he
        simp only [Option.some.injEq, Prod.mk.injEq] at he
        obtain ⟨rfl, rfl⟩ := he
        simp only [Bool.and_eq_true] at hk
        have e := Nat.eq_of_beq_eq_true h2
        subst e
        rw [no_arr hk.2.1, no_arr hk.2.2] at ha
        exact eo_call (g := true) hk.1 ha
      | false => rw [h2] at he; cases he
  · cases he
def psE : List Par := [.agg (List.replicate 16 (.f .f32))]
def qsE : List Par := [.one (.f .f32), .one (.n .i64)]
def endG (g : Bool) : List Value → List Value
  | [.agg cs] => [.float .f32 (endF g cs.toList), .int .i64 (endI g cs.toList)]
  | _ => []
theorem psE_form {args : List Value} (h : fitA psE args = true) : ∃ cs : Array Value, args = [.agg cs] ∧ rowOk cs.toList = true := by
  match args, h with
  | [v], h =>
    have h : (fitP (.agg (List.replicate 16 (.f .f32))) v && true) = true := h
    rw [Bool.and_true] at h
    cases v with
    | agg cs => exact ⟨cs, rfl, h⟩
    | _ => cases h
  | [], h => cases h
  | v :: _ :: _, h =>
    have h : (fitP (.agg (List.replicate 16 (.f .f32))) v && false) = true := h
    rw [Bool.and_false] at h
    cases h
theorem endG_fit (g : Bool) (args : List Value) (h : fitA psE args = true) : fitA qsE (endG g args) = true := by
  obtain ⟨cs, rfl, _⟩ := psE_form h
  rfl
theorem end_bare (g : Bool) : BareSig (sigT psE (endG g)) := fun args v he => by
  unfold sigT at he
  cases hf : fitA psE args with
  | false => rw [hf] at he; cases he
  | true =>
    rw [hf, cond_true, Option.some.injEq, Prod.mk.injEq] at he
    obtain ⟨cs, rfl, hr⟩ := psE_form hf
    obtain ⟨rfl, _⟩ := he
    refine ⟨?_, rfl⟩
    rw [arr_z hr]; rfl
theorem geI_eval (z : Nat → Nat) : (@funD noFrn Try.prog (fun f => seek f []) (fun f => seek f [(35, eoS)]) [18] 60 5 18 [.agg (En.zrow z).toArray] []).map (fun r => (r.1, r.2.2)) = some (endV true (En.zrow z), true) := by kernel_rfl
theorem sig_one {f : Nat} {l0 : List (Nat × Sig)} {g : Bool} (hf : [f].all (funcOk Try.prog) = true) (h0 : ∀ p ∈ l0, @OrcOne noFrn Try.prog p.1 p.2) (hb : hasBody Try.prog f = true)
    (he : ∀ z, (@funD noFrn Try.prog (fun f => seek f []) (fun f => seek f l0) [f] 60 5 f [.agg (En.zrow z).toArray] []).map (fun r => (r.1, r.2.2)) = some (endV g (En.zrow z), true)) {ι : Frn} : @OrcOne ι Try.prog f (sigT psE (endG g)) := by
  refine orc_any ?_ (end_bare g)
  refine orc_one (us := [f]) (cf := 60) (d := 5) mixed hf (lx := []) all_nil (l0 := l0) h0 hb fun args v k hs hk hx => ?_
  unfold sigT at hs
  cases hfit : fitA psE args with
  | false => rw [hfit] at hs; cases hs
  | true =>
    rw [hfit, cond_true, Option.some.injEq, Prod.mk.injEq] at hs
    obtain ⟨cs, rfl, hr⟩ := psE_form hfit
    obtain ⟨rfl, _⟩ := hs
    have e := he (zE cs.toList)
    rw [← arr_z hr, ← row_z hr] at e
    refine ⟨?_, rfl, En.of_mapB e⟩
    rw [arr_z hr]; rfl
theorem geI_one {ι : Frn} : @OrcOne ι Try.prog 18 (sigT psE (endG true)) := sig_one (f := 18) (l0 := [(35, eoS)]) (g := true) (by kernel_rfl) (all_cons eo_one all_nil) (by kernel_rfl) geI_eval
/-! ### and in runs -/
def UE (op : Nat) (z : Vl) : Vl := if 144 ≤ op ∧ op < 146 then valT psE qsE (endG false) (op - 144) z else if 146 ≤ op ∧ op < 148 then valT psE qsE (endG true) (op - 146) z else .i 0
theorem UE_t {k : Nat} (hk : k < 2) (z : Vl) : UE (146 + k) z = valT psE qsE (endG true) k z := by
  unfold UE
  rw [if_neg (by omega), if_pos ⟨by omega, by omega⟩, Nat.add_sub_cancel_left]
theorem sig_end {g : Bool} {v u : Value} (h : sigT psE (endG g) [v] = some (u, true)) : endS [v, .bool g] = some (u, true) := by
  unfold sigT at h
  cases hf : fitA psE [v] with
  | false => rw [hf] at h; cases h
  | true =>
    rw [hf, cond_true, Option.some.injEq, Prod.mk.injEq] at h
    obtain ⟨cs, e, hr⟩ := psE_form hf
    have e : v = .agg cs := by injection e
    subst e
    obtain ⟨rfl, _⟩ := h
    show some (endV g cs.toList, rowOk cs.toList) = _
    rw [hr]; rfl
end Go.Proofs.Ytfgomdngffaffaa
end
