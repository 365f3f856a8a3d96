/-
  When a lamp gives a share: program and model answer the same, told by a name alone in runs. No condition.
-/
import Derived.Test.YtigegnkifeljhaaLj
set_option linter.unusedSectionVars false
set_option linter.unusedVariables false
noncomputable section
namespace Go.Proofs.Ytigegnkifeljhaa
namespace Lg
open Go Go.ChangeShapes Go.WideShapes Go.ChangeAt Go.RowKit Ev Sx

theorem m_goes (base : Nat) (z : Nat → Int) (f : Nat → Nat) (s : Nat) : ∃ N s' h', GO base N mC (startS Try.f25 [.agg (gr z f).toArray, .float .f32 s] []) .ret s' ∧
    @finK (iG base) Try.prog Try.f25 .ret s' = some (ansV (ansT (gr z f) s), h', true) := by
  letI : Frn := iG base
  rw [m_shape, m_start]
  have g0 := Goes.reg (N := 40) (m_r0 base z f s)
  generalize (up (up (up j0 0 (vG z f)) 4 (vI 0)) 5 (vI 0)) = ja at g0
  have g1 := Goes.reg (N := 40) (m_r1 base z f s ja)
  unfold ansT
  cases hk : okC (gr z f) with
  | false =>
    rw [hk] at g1
    have gc := Goes.condT (E := EG base) (N := 40) (a := .seq m2 .ret) (b := .skip) (m_c1 z f s (up ja 7 (vB false)) true) (Goes.seq (N := 39) (Goes.reg (N := 38) (m_r2 base z f _)) (Goes.ret (N := 38)))
    exact ⟨_, _, _, Goes.seq (N := 50) (g0.more (by omega)) (Goes.seqR (N := 49) (Goes.seq (N := 48) (g1.more (by omega)) (gc.more (by omega)))), m_end base 0 1 _ _⟩
  | true =>
    rw [hk] at g1
    have gc := Goes.condF (E := EG base) (N := 40) (a := .seq m2 .ret) (b := .skip) (m_c1 z f s (up ja 7 (vB true)) false) (Goes.skip (N := 39))
    have g1 : Goes (EG base) 41 m1 (S 25 (bJ s ja) (HG z f) true) .normal (S 25 (bJ s (up (up ja 7 (vB true)) 8 (vB false))) (HG z f) true) := g1
    generalize (up (up ja 7 (vB true)) 8 (vB false)) = jb at g1 gc
    obtain ⟨j3, r3, e3⟩ := reg_see (m_r3 base z f s jb) (by cases fge .f32 s 0 <;> rfl)
    simp only [List.map_cons, List.map_nil, List.cons.injEq, and_true] at e3
    have hj : bJ s (up j3 15 (vB (!Tl.shB s))) = j3 := by
      unfold bJ
      rw [up_self e3.2.2, up_self e3.1, up_self e3.2.1]
    rw [← hj] at r3
    have g3 := Goes.reg (N := 40) r3
    cases hs : Tl.shB s with
    | false =>
      rw [hs] at g3
      have g3c := Goes.condT (E := EG base) (N := 40) (a := .seq m4 .ret) (b := .skip) (m_c3 z f s j3 true) (Goes.seq (N := 39) (Goes.reg (N := 38) (m_r4 base z f _)) (Goes.ret (N := 38)))
      exact ⟨_, _, _, Goes.seq (N := 50) (g0.more (by omega)) (Goes.seq (N := 49) (Goes.seq (N := 48) (g1.more (by omega)) (gc.more (by omega))) (Goes.seqR (N := 48) (Goes.seq (N := 47) (g3.more (by omega)) (g3c.more (by omega))))), m_end base 0 2 _ _⟩
    | true =>
      rw [hs] at g3
      have g3c := Goes.condF (E := EG base) (N := 40) (a := .seq m4 .ret) (b := .skip) (m_c3 z f s j3 false) (Goes.skip (N := 39))
      have g3 : Goes (EG base) 41 m3 (S 25 (bJ s jb) (HG z f) true) .normal (S 25 (bJ s (up j3 15 (vB false))) (HG z f) true) := g3
      have g5 := Goes.reg (N := 40) (m_r5 base z f s (up j3 15 (vB false)))
      rw [cond_true, cond_true, show lastT = 100001 from rfl]
      rcases m_loop base z f s 100001 0 (up j3 15 (vB false)) (by omega) with ⟨t, j', e, k⟩ | ⟨e, j', k⟩
      · rw [e]
        exact ⟨_, _, _, Goes.seq (N := 100050) (g0.more (by omega)) (Goes.seq (N := 100049) (Goes.seq (N := 100048) (g1.more (by omega)) (gc.more (by omega))) (Goes.seq (N := 100048) (Goes.seq (N := 100047) (g3.more (by omega)) (g3c.more (by omega))) (Goes.seqR (N := 100047) (Goes.seq (N := 100046) (g5.more (by omega)) ((Goes.blockR (id := 0) k).more (by omega)))))), m_end base t 0 _ _⟩
      · rw [e]
        exact ⟨_, _, _, Goes.seq (N := 100050) (g0.more (by omega)) (Goes.seq (N := 100049) (Goes.seq (N := 100048) (g1.more (by omega)) (gc.more (by omega))) (Goes.seq (N := 100048) (Goes.seq (N := 100047) (g3.more (by omega)) (g3c.more (by omega))) (Goes.seq (N := 100047) (Goes.seq (N := 100046) (g5.more (by omega)) ((Goes.blockX (id := 0) k).more (by omega))) (Goes.seq (N := 100046) ((Goes.reg (N := 40) (m_r10 base z f j')).more (by omega)) (Goes.ret (N := 100045)))))), m_end base 0 6 _ _⟩
theorem p_goes (base : Nat) (z : Nat → Int) (f : Nat → Nat) (s : Nat) : ∃ N s' h', GO base N pC (startS Try.f27 [.agg (gr z f).toArray, .float .f32 s] []) .ret s' ∧
    @finK (iG base) Try.prog Try.f27 .ret s' = some (ansV (ansT (gr z f) s), h', true) := by
  letI : Frn := iG base
  rw [p_shape, p_start]
  have g0 := Goes.reg (N := 40) (p_r0 base z f s)
  generalize (up (up (up j0 0 (vG z f)) 4 (vI 0)) 5 (vI 0)) = ja at g0
  have g1 := Goes.reg (N := 40) (p_r1 base z f s ja)
  unfold ansT
  cases hk : okC (gr z f) with
  | false =>
    rw [hk] at g1
    have gc := Goes.condT (E := EG base) (N := 40) (a := .seq p2 .ret) (b := .skip) (p_c1 z f s (up (up ja 7 (vG z f)) 8 (vB false)) true) (Goes.seq (N := 39) (Goes.reg (N := 38) (p_r2 base z f _)) (Goes.ret (N := 38)))
    exact ⟨_, _, _, Goes.seq (N := 50) (g0.more (by omega)) (Goes.seqR (N := 49) (Goes.seq (N := 48) (g1.more (by omega)) (gc.more (by omega)))), p_end base 0 1 _ _⟩
  | true =>
    rw [hk] at g1
    have gc := Goes.condF (E := EG base) (N := 40) (a := .seq p2 .ret) (b := .skip) (p_c1 z f s (up (up ja 7 (vG z f)) 8 (vB true)) false) (Goes.skip (N := 39))
    have g1 : Goes (EG base) 41 p1 (S 23 (bJ s ja) (HG z f) true) .normal (S 23 (bJ s (up (up (up ja 7 (vG z f)) 8 (vB true)) 9 (vB false))) (HG z f) true) := g1
    generalize (up (up (up ja 7 (vG z f)) 8 (vB true)) 9 (vB false)) = jb at g1 gc
    have g3 := Goes.reg (N := 40) (p_r3 base z f s jb)
    cases hs : Tl.shB s with
    | false =>
      rw [hs] at g3
      have g3c := Goes.condT (E := EG base) (N := 40) (a := .seq p4 .ret) (b := .skip) (p_c3 z f s (up (up jb 10 (vF s)) 11 (vB false)) true) (Goes.seq (N := 39) (Goes.reg (N := 38) (p_r4 base z f _)) (Goes.ret (N := 38)))
      exact ⟨_, _, _, Goes.seq (N := 50) (g0.more (by omega)) (Goes.seq (N := 49) (Goes.seq (N := 48) (g1.more (by omega)) (gc.more (by omega))) (Goes.seqR (N := 48) (Goes.seq (N := 47) (g3.more (by omega)) (g3c.more (by omega))))), p_end base 0 2 _ _⟩
    | true =>
      rw [hs] at g3
      have g3c := Goes.condF (E := EG base) (N := 40) (a := .seq p4 .ret) (b := .skip) (p_c3 z f s (up (up jb 10 (vF s)) 11 (vB true)) false) (Goes.skip (N := 39))
      have g3 : Goes (EG base) 41 p3 (S 23 (bJ s jb) (HG z f) true) .normal (S 23 (bJ s (up (up (up jb 10 (vF s)) 11 (vB true)) 12 (vB false))) (HG z f) true) := g3
      generalize (up (up (up jb 10 (vF s)) 11 (vB true)) 12 (vB false)) = jc at g3 g3c
      have g5 := Goes.reg (N := 40) (p_r5 base z f s jc)
      rw [cond_true, cond_true, show lastT = 100001 from rfl]
      rcases p_loop base z f s 100001 0 jc (by omega) with ⟨t, j', e, k⟩ | ⟨e, j', k⟩
      · rw [e]
        exact ⟨_, _, _, Goes.seq (N := 100050) (g0.more (by omega)) (Goes.seq (N := 100049) (Goes.seq (N := 100048) (g1.more (by omega)) (gc.more (by omega))) (Goes.seq (N := 100048) (Goes.seq (N := 100047) (g3.more (by omega)) (g3c.more (by omega))) (Goes.seqR (N := 100047) (Goes.seq (N := 100046) (g5.more (by omega)) ((Goes.blockR (id := 0) k).more (by omega)))))), p_end base t 0 _ _⟩
      · rw [e]
        exact ⟨_, _, _, Goes.seq (N := 100050) (g0.more (by omega)) (Goes.seq (N := 100049) (Goes.seq (N := 100048) (g1.more (by omega)) (gc.more (by omega))) (Goes.seq (N := 100048) (Goes.seq (N := 100047) (g3.more (by omega)) (g3c.more (by omega))) (Goes.seq (N := 100047) (Goes.seq (N := 100046) (g5.more (by omega)) ((Goes.blockX (id := 0) k).more (by omega))) (Goes.seq (N := 100046) ((Goes.reg (N := 40) (p_r11 base z f j')).more (by omega)) (Goes.ret (N := 100045)))))), p_end base 0 6 _ _⟩
/-! ### named -/
def psL : List Par := [.agg (List.replicate 32 (Ty.n .i16) ++ List.replicate 17 (Ty.f .f32)), .one (.f .f32)]
def qsL : List Par := [.one (.n .i64), .one (.n .i64)]
def lampL : List Value → List Value
  | [.agg cs, .float .f32 s] => [.int .i64 (ansT cs.toList s).1, .int .i64 (ansT cs.toList s).2]
  | _ => []
theorem psL_form {args : List Value} (h : fitA psL args = true) : ∃ (cs : Array Value) (s : Nat), args = [.agg cs, .float .f32 s] ∧ isG cs.toList = true := by
  match args, h with
  | [v, u], h =>
    have h : (fitP (.agg (List.replicate 32 (Ty.n .i16) ++ List.replicate 17 (Ty.f .f32))) v && (fitV (.f .f32) u && true)) = true := h
    rw [Bool.and_eq_true, Bool.and_eq_true] at h
    cases v with
    | agg cs =>
      cases u with
      | float k b =>
        have h0 : sameK .f32 k = true := h.2.1
        have := Ev.sameK_eq h0
        subst this
        exact ⟨cs, b, rfl, h.1⟩
      | _ => cases h.2.1
    | _ => cases h.1
  | [], h => cases h
  | [_], h => exact absurd h (by simp [psL, fitA])
  | _ :: _ :: _ :: _, h => exact absurd h (by simp [psL, fitA])
theorem lampL_fit (args : List Value) (h : fitA psL args = true) : fitA qsL (lampL args) = true := by
  obtain ⟨cs, s, rfl, _⟩ := psL_form h
  rfl
theorem lamp_sig {fn : Nat} {C : Code} {F : Func} (hf : Try.prog.funcs[fn]? = some F) (hbd : F.body = some C) (hok : codeOk C = true) (hb : hasBody Try.prog fn = true)
    (hg : ∀ base z f s, ∃ N s' h', GO base N C (startS F [.agg (gr z f).toArray, .float .f32 s] []) .ret s' ∧ @finK (iG base) Try.prog F .ret s' = some (ansV (ansT (gr z f) s), h', true)) {ι : Frn} : @OrcOne ι Try.prog fn (sigT psL lampL) := by
  refine ⟨hb, fun args v k he hk μ cargs w ha hw => ?_⟩
  unfold sigT at he
  cases hfit : fitA psL args with
  | false => rw [hfit] at he; cases he
  | true =>
    rw [hfit, cond_true, Option.some.injEq, Prod.mk.injEq] at he
    obtain ⟨cs, s, rfl, hG⟩ := psL_form hfit
    obtain ⟨rfl, _⟩ := he
    obtain ⟨N, s', h', g, hf'⟩ := hg w.heap.size (zN cs.toList) (fN cs.toList) s
    rw [← gr_of hG] at hf'
    rw [← arr_of hG] at g
    have hbare : [Value.agg cs, Value.float .f32 s].all bareP = true := by
      have hb : bareP (.agg cs) = true := isG_bare hG
      rw [List.all_cons, hb]; rfl
    refine (@goes_call (iG w.heap.size) (EG w.heap.size) (EG_ok _) mixed fn F C hf hbd hok _ _ _ _ _ _ _ g hf' (fun _ => none) cargs w w.heap.size (bareP_VRL ha hbare) (@HeapR.start (iG w.heap.size) w (frn_in fun k v l cs hk => by simp at hk)) (Nat.le_refl _)).mono fun e w' hx => ?_
    obtain ⟨u, μ', rfl, _, hu, _, hbl⟩ := hx
    exact ⟨u, rfl, bareP_VR hu rfl, hbl⟩
theorem lM_one {ι : Frn} : @OrcOne ι Try.prog 25 (sigT psL lampL) := lamp_sig Try.func25 (by kernel_rfl) (by kernel_rfl) (by kernel_rfl) m_goes
theorem lI_one {ι : Frn} : @OrcOne ι Try.prog 27 (sigT psL lampL) := lamp_sig Try.func27 (by kernel_rfl) (by kernel_rfl) (by kernel_rfl) p_goes
def orcLL : List (Nat × Sig) := (25, sigT psL lampL) :: (27, sigT psL lampL) :: orcW
theorem orcLLOk : ∀ p ∈ orcLL, OrcOne Try.prog p.1 p.2 := all_cons lM_one <| all_cons lI_one orcWOk
def UL (op : Nat) (z : Vl) : Vl := if 144 ≤ op ∧ op < 146 then valT psL qsL lampL (op - 144) z else .i 0
theorem UL_at {k : Nat} (hk : k < 2) (z : Vl) : UL (144 + k) z = valT psL qsL lampL k z := by
  unfold UL
  rw [if_pos ⟨by omega, by omega⟩, Nat.add_sub_cancel_left]
theorem lampSy_ok {F : Tab} {ρ : Nat → Int} (hB : Base F ρ UL) : SymOk F ρ UL (sigT psL lampL) (uT 144 psL qsL) :=
  uT_ok hB (fun k hk => op_any (by omega)) (fun k hk z => UL_at hk z) lampL_fit
def symLL : List (Nat × SymF) := (25, uT 144 psL qsL) :: (27, uT 144 psL qsL) :: symW
theorem symLLR (F : Tab) (ρ : Nat → Int) (hB : Base F ρ UL) : ListR F ρ UL symLL (fun f => seek f orcLL) := ListR.cons (lampSy_ok hB) <| ListR.cons (lampSy_ok hB) <| symWR F ρ hB
end Lg
end Go.Proofs.Ytigegnkifeljhaa
end
