/-
  Sizes of works, from any number on. No condition.
-/
import Derived.Test.YteelhhdadcdclaaWi
set_option linter.unusedSectionVars false
set_option linter.unusedVariables false
noncomputable section
namespace Go.Proofs.Yteelhhdadcdclaa
open Go Go.ChangeShapes Go.WideShapes Go.ChangeAt Go.RowKit Ev
def szShQ (z0 : Int) (l : Nat) (cs : List Value) : Int := bif decide (szAll l cs z0 < 0) then -1 else szAll l cs z0
section
variable [Frn] {cs : List Value} {l : Nat}
theorem sz_goesQ (z0 : Int) (hz : 0 ≤ z0 ∧ z0 ≤ 1048576) (hr : Frn.row 0 = cs) (hb : rowsB batK l cs = true) (hl : l ≤ 9223372036854775807) (c : Nat) :
    ∃ N j' z, Goes EZ N szC (startS Try.f12 [tok 0 l c, .int .i64 z0] []) .ret (S 27 (up j' 4 (vI z)) [] true) ∧ z = szAll l cs z0 := by
  have g0 := Goes.reg (N := l + 24) (sz_r0 l c z0)
  have g1 := Goes.reg (N := l + 24) (sz_r1 l c z0 (up j0 4 (vI 0)))
  generalize hy : IntKind.i64.wrap (z0 - (l : Int)) = y at g1
  generalize (up (up (up (up (up j0 4 (vI 0)) 6 (vI z0)) 7 (tok 0 l c, true)) 8 (vI l)) 9 (vI y)) = j1 at g1
  have g2 := Goes.reg (N := l + 24) (sz_r2 l c y j1)
  have hyl : y = z0 - (l : Int) := by rw [← hy, wrap_in (by omega) (by omega)]
  by_cases hn : y < 0
  · have hc := (sz_c2 l c y (decide (y < 0)) (up j1 10 (vI y))).trans (show vB (decide (y < 0)) = vB true by rw [decide_eq_true hn])
    have g2c := Goes.condT (E := EZ) (N := l + 24) (a := .seq sz3 .ret) (b := .skip) hc (Goes.seq (Goes.reg (N := l + 22) (sz_r3 _)) (Goes.ret (N := l + 22)))
    refine ⟨l + 40, up (up (up (up j1 10 (vI y)) 11 (vB (decide (y < 0)))) 0 (tok 0 l c, true)) 1 (vI y), -1, ?_, by unfold szAll; rw [hy, if_pos hn]⟩
    rw [shapeZ, sz_start]
    exact Goes.seq (N := l + 39) (g0.more (by omega)) (Goes.seq (N := l + 38) (g1.more (by omega)) (Goes.seqR (N := l + 37) (Goes.seq (N := l + 36) (g2.more (by omega)) (g2c.more (by omega)))))
  · have hc := (sz_c2 l c y (decide (y < 0)) (up j1 10 (vI y))).trans (show vB (decide (y < 0)) = vB false by rw [decide_eq_false hn])
    have g2c := Goes.condF (E := EZ) (N := l + 24) (a := .seq sz3 .ret) (b := .skip) hc (Goes.skip (N := l + 23))
    have g4 := Goes.reg (N := l + 24) (sz_r4 l c y (up (up j1 10 (vI y)) 11 (vB (decide (y < 0)))))
    have hA : szAll l cs z0 = szGo cs l 0 y := by unfold szAll; rw [hy, if_neg hn]
    rcases sz_loop hr hb (show l ≤ 1048576 by omega) c l 0 y (up (up j1 10 (vI y)) 11 (vB (decide (y < 0)))) (by omega) with ⟨h1, j', k⟩ | ⟨j', k⟩
    · have gL := Goes.blockR (id := 0) k
      rw [← shapeZL] at gL
      refine ⟨l + 40, j', -1, ?_, by rw [hA, h1]⟩
      rw [shapeZ, sz_start]
      exact Goes.seq (N := l + 39) (g0.more (by omega)) (Goes.seq (N := l + 38) (g1.more (by omega)) (Goes.seq (N := l + 37) (Goes.seq (N := l + 36) (g2.more (by omega)) (g2c.more (by omega))) (Goes.seqR (N := l + 36) (Goes.seq (N := l + 35) (g4.more (by omega)) (gL.more (by omega))))))
    · have gL := Goes.blockX k
      rw [← shapeZL] at gL
      have gE := Goes.reg (N := l + 24) (sz_rE l c l (szGo cs l 0 y) j')
      refine ⟨l + 40, up (szJ l c l (szGo cs l 0 y) j') 26 (vI (szGo cs l 0 y)), szGo cs l 0 y, ?_, hA.symm⟩
      rw [shapeZ, sz_start]
      exact Goes.seq (N := l + 39) (g0.more (by omega)) (Goes.seq (N := l + 38) (g1.more (by omega)) (Goes.seq (N := l + 37) (Goes.seq (N := l + 36) (g2.more (by omega)) (g2c.more (by omega))) (Goes.seq (N := l + 36) (Goes.seq (N := l + 35) (g4.more (by omega)) (gL.more (by omega))) (Goes.seq (N := l + 35) (gE.more (by omega)) Goes.ret))))
end
theorem szS_callsQ (z0 : Int) (hz : 0 ≤ z0 ∧ z0 ≤ 1048576) {w : World} {v : Value} {l : Nat} {cs : List Value} (hv : RowIn w v l cs) (hb : rowsB batK l cs = true) (hl : l ≤ 9223372036854775807) :
    Calls Try.prog 12 #[v, .int .i64 z0] w fun e w' => e = .returned (.int .i64 (szAll l cs z0)) ∧ Below w.heap.size w w' := by
  obtain ⟨a, c, rfl, _⟩ := id hv
  let ι : Frn := frnOf w.heap.size [(.slice a l c, l, cs)] (fun _ => none)
  have hw : @FrnIn ι w := frn_in fun k v' l' cs' hk => by
    match k, hk with
    | 0, hk => cases hk; exact hv
  have ht : @VR ι (fun _ => none) (tok 0 l c) (.slice a l c) := tok_VR (ts := [(.slice a l c, l, cs)]) rfl hv
  obtain ⟨N, j', z, hg, rfl⟩ := @sz_goesQ ι cs l z0 hz rfl hb hl c
  have hE : @EnvOk ι (@EZ ι) := @conE_ok ι _ _ _ mixed (@noExt ι _) (@orc_list ι _ _ orcSzOk) (fun f g h => by cases h) (fun f g h => by cases h)
  refine (@goes_call ι (@EZ ι) hE mixed 12 Try.f12 szC Try.func12 rfl (by kernel_rfl) _ _ _ _ _ _ _ hg (@sz_end ι (szAll l cs z0) j') (fun _ => none) [.slice a l c, .int .i64 z0] w w.heap.size (@VRL.cons ι _ _ _ _ _ ht (@VRL.cons ι _ _ _ _ _ (@VR.int ι _ _ _) (@VRL.nil ι _))) (@HeapR.start ι w hw) (Nat.le_refl _)).mono fun e w' hx => ?_
  obtain ⟨u, μ', rfl, _, hu, hh, hbl⟩ := hx
  rw [@VR.int_inv ι _ _ _ _ hu]
  exact ⟨rfl, hbl⟩
def conSzQ (z0 : Int) (l : Nat) (cs : List Value) (f : FuncId) : Option (List Value → Heap → Option (Value × List (List Value) × Bool)) :=
  bif Nat.beq f 12 then some fun args _ => match args with
    | [.slice (some ⟨0, 0, some 0⟩) _ _, .int .i64 left] => some (.int .i64 (szAll l cs z0), [], decide (left = z0))
    | _ => none
  else none
theorem conSzQ_ok (z0 : Int) (hz : 0 ≤ z0 ∧ z0 ≤ 1048576) {base : Nat} {v : Value} {l : Nat} {cs : List Value} (hb : rowsB batK l cs = true) (hl : l ≤ 9223372036854775807) : @ConOk (frnOf base [(v, l, cs)] (conSzQ z0 l cs)) Try.prog := fun f g hf => by
  have hf : conSzQ z0 l cs f = some g := hf
  unfold conSzQ at hf
  cases hn : Nat.beq f 12 with
  | false => rw [hn] at hf; cases hf
  | true =>
    rw [hn, cond_true, Option.some.injEq] at hf
    subst hf
    have hfe := Nat.eq_of_beq_eq_true hn
    subst hfe
    refine ⟨by kernel_rfl, fun args h q rows he μ cargs w B ha hh hB => ?_⟩
    dsimp only at he
    split at he
    · rename_i l1 c1 left
      simp only [Option.some.injEq, Prod.mk.injEq, decide_eq_true_eq] at he
      obtain ⟨rfl, rfl, rfl⟩ := he
      obtain ⟨y, ys, rfl, hy, h2⟩ := vrl_cons ha
      obtain ⟨y', ys, rfl, hy', h3⟩ := vrl_cons h2
      have : ys = [] := by
        match ys, h3 with
        | [], _ => rfl
        | _ :: _, h => exact absurd h.1 (by simp)
      subst this
      rw [@VR.int_inv (frnOf base [(v, l, cs)] (conSzQ _ l cs)) _ _ _ _ hy']
      obtain ⟨r1, _, _⟩ := tok_row (k := 0) hh hB rfl (rowsB_bare (by decide) hb) hy
      refine (szS_callsQ _ hz r1 hb hl).mono fun e w' hx => ?_
      obtain ⟨rfl, hbl⟩ := hx
      refine ⟨_, μ, rfl, Sub.refl μ, @VR.int (frnOf base [(v, l, cs)] (conSzQ _ l cs)) μ _ _, ?_, hbl.mono hB⟩
      rw [List.map_nil, List.append_nil]
      exact @HeapR.keep (frnOf base [(v, l, cs)] (conSzQ _ l cs)) _ _ _ _ _ hh hB hbl
    · cases he
theorem conSzQ_stab (z0 : Int) {base : Nat} {ts : Toks} {l : Nat} {cs : List Value} : @ConStab (frnOf base ts (conSzQ z0 l cs)) := fun f g hf args h u rows k nid row he hn hfr => by
  have hf : conSzQ z0 l cs f = some g := hf
  unfold conSzQ at hf
  cases hq : Nat.beq f 12 with
  | false => rw [hq] at hf; cases hf
  | true =>
    rw [hq, cond_true, Option.some.injEq] at hf
    subst hf
    exact he
theorem szSh_evalQ (z0 : Int) (base : Nat) (v : Value) (l c : Nat) (cs : List Value) (t0 : Int) :
    @codeK (frnOf base [(v, l, cs)] (conSzQ z0 l cs)) (@ETz (frnOf base [(v, l, cs)] (conSzQ z0 l cs))) 60 zshC (startS Try.f5 [works (tok 0 l c) (rooms t0), .int .i64 z0] []) (fun e s => (@finK (frnOf base [(v, l, cs)] (conSzQ z0 l cs)) Try.prog Try.f5 e s).map eraseH) =
      bif decide (szAll l cs z0 < 0) then some (.int .i64 (-1), [], decide (z0 = z0) && true) else some (.int .i64 (szAll l cs z0), [], decide (z0 = z0) && true) := by kernel_rfl
theorem szSh_callsQ (z0 : Int) (hz : 0 ≤ z0 ∧ z0 ≤ 1048576) {w : World} {v : Value} {l : Nat} {cs : List Value} (hv : RowIn w v l cs) (hb : rowsB batK l cs = true) (hl : l ≤ 9223372036854775807) (t0 : Int) :
    Calls Try.prog 5 #[works v (rooms t0), .int .i64 z0] w fun e w' => e = .returned (.int .i64 (szShQ z0 l cs)) ∧ Below w.heap.size w w' := by
  obtain ⟨a, c, rfl, _⟩ := id hv
  let ι : Frn := frnOf w.heap.size [(.slice a l c, l, cs)] (conSzQ z0 l cs)
  have hw : @FrnIn ι w := frn_in fun k v' l' cs' hk => by
    match k, hk with
    | 0, hk => cases hk; exact hv
  have ht : @VR ι (fun _ => none) (tok 0 l c) (.slice a l c) := tok_VR (ts := [(.slice a l c, l, cs)]) rfl hv
  have hE : @EnvOk ι (@ETz ι) := @conE_ok ι _ _ _ mixed (@noExt ι _) (@orc_list ι _ _ noneROk) (conSzQ_ok z0 hz hb hl) (conSzQ_stab z0)
  have he : (@codeK ι (@ETz ι) 60 zshC (startS Try.f5 [works (tok 0 l c) (rooms t0), .int .i64 z0] []) (@finK ι Try.prog Try.f5)).map eraseH = some (.int .i64 (szShQ z0 l cs), [], true) := by
    rw [@codeK_map ι]
    refine (szSh_evalQ z0 w.heap.size (.slice a l c) l c cs t0).trans ?_
    unfold szShQ
    rw [decide_eq_true (show z0 = z0 from rfl)]
    cases decide (szAll l cs z0 < 0) <;> rfl
  obtain ⟨r, hr, hr2⟩ := Option.map_eq_some_iff.1 he
  obtain ⟨x, H, k⟩ := r
  simp only [eraseH, Prod.mk.injEq] at hr2
  obtain ⟨rfl, _, rfl⟩ := hr2
  refine (con_calls ι hE mixed Try.func5 zsh_body zsh_ok hr hw (@VRL.cons ι _ _ _ _ _ (works_vr ht) (@VRL.cons ι _ _ _ _ _ (@VR.int ι _ _ _) (@VRL.nil ι _)))).mono fun e w' hx => ?_
  obtain ⟨y, μ', rfl, hy, hh, hbl⟩ := hx
  rw [@VR.int_inv ι _ _ _ _ hy]
  exact ⟨rfl, hbl⟩

end Go.Proofs.Yteelhhdadcdclaa
end
