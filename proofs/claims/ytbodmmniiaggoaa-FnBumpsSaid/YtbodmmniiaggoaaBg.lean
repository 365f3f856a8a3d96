/-
  FnBumps: at all bytes the law returns true, and the bytes read afterwards as before. No condition.
-/
import Derived.Test.YtbodmmniiaggoaaBr0
import Derived.Test.YtbodmmniiaggoaaBr1
import Derived.Test.YtbodmmniiaggoaaBr2
import Derived.Test.YtbodmmniiaggoaaBr3
import Derived.Test.YtbodmmniiaggoaaBq
import Derived.Test.YtbodmmniiaggoaaBk
import Derived.Test.YtbodmmniiaggoaaRows
set_option linter.unusedSectionVars false
set_option linter.unusedVariables false
noncomputable section
namespace Go.Proofs.Ytbodmmniiaggoaa
open Go Go.ChangeShapes Go.WideShapes Go.ChangeAt Go.RowKit Go.Deep Ev

/-! ### what the bytes draw -/
theorem by_lt {cs : List Value} {l : Nat} (hb : rowsB byK l cs = true) (hw : cs.all wfC = true) (i : Nat) : ∃ p : Nat, p < 16 ∧ atV cs l i = (p : Int) := by
  unfold atV
  by_cases hi : l ≤ i
  · rw [if_pos hi]; exact ⟨0, by omega, rfl⟩
  · rw [if_neg hi]
    obtain ⟨z, hz⟩ := by_cell hb (show i < l by omega)
    have h := List.all_eq_true.1 hw _ (List.mem_of_getElem? hz)
    have hr : 0 ≤ z ∧ z ≤ 255 := by
      have h : (Lit.int .u8 z).wf = true := h
      simp [Lit.wf, IntKind.min, IntKind.max, IntKind.bits, IntKind.signed] at h
      omega
    unfold byV
    rw [List.getD_eq_getElem?_getD, hz]
    show ∃ p : Nat, p < 16 ∧ Int.tmod (IntKind.i64.wrap z) 16 = (p : Int)
    rw [wrap_in (by omega) (by omega)]
    refine ⟨(z % 16).toNat, by omega, ?_⟩
    rw [Int.tmod_eq_emod_of_nonneg hr.1]
    omega
/-! ### contracts -/
theorem keep_vr {ι : Frn} {μ : Nat → Option Nat} {h : Heap} {w : World} {B : Nat} (hh : @HeapR ι μ h w B) (hB : B ≤ w.heap.size) {f : FuncId} {cargs : List Value} {V : Value} (hv : ∀ μ, @VR ι μ V V)
    (hc : Calls Try.prog f cargs.toArray w fun e w' => e = .returned V ∧ Below w.heap.size w w') :
    Calls Try.prog f cargs.toArray w fun e w' => ∃ v' μ', e = .returned v' ∧ Sub μ μ' ∧ @VR ι μ' V v' ∧ @HeapR ι μ' (h ++ ([] : List (List Value)).map some) w' B ∧ Below B w w' := by
  refine hc.mono fun e w' hx => ?_
  obtain ⟨rfl, hbl⟩ := hx
  refine ⟨_, μ, rfl, Sub.refl μ, hv μ, ?_, hbl.mono hB⟩
  rw [List.map_nil, List.append_nil]
  exact @HeapR.keep ι _ _ _ _ _ hh hB hbl
section
variable {W : World} {v v' : Value} {l l' : Nat} {cs cs' : List Value}
abbrev tsB (v v' : Value) (l l' : Nat) (cs cs' : List Value) : Toks := [(v, l, cs), (v', l', cs')]
theorem conB_ok {p w q : Nat} (hb : rowsB byK l cs = true) (hb' : rowsB byK l' cs' = true) (hl : l ≤ 3000) (hl' : l' ≤ 3000) (hp : atV cs l 0 = (p : Int)) (hw : atV cs' l' 0 = (w : Int)) (hq : atV cs l 1 = (q : Int)) (base : Nat) :
    @ConOk (iB base (tsB v v' l l' cs cs') p w q) Try.prog := fun f g hf => by
  have hf : conB p w q f = some g := hf
  unfold conB at hf
  cases h1 : Nat.beq f 4 with
  | true =>
    rw [h1, cond_true, Option.some.injEq] at hf
    have hfe := Nat.eq_of_beq_eq_true h1
    subst hf hfe
    refine ⟨by kernel_rfl, fun args h u rows he μ cargs w' B ha hh hB => ?_⟩
    unfold aLong at he
    split at he
    · simp only [Option.some.injEq, Prod.mk.injEq] at he
      obtain ⟨rfl, rfl, _⟩ := he
      obtain ⟨y, ys, rfl, hy, h2⟩ := vrl_cons ha
      obtain ⟨y', ys, rfl, hy', h3⟩ := vrl_cons h2
      rw [vrl_none h3]
      obtain ⟨r1, _, _⟩ := tok_row (k := 0) hh hB rfl (rowsB_bare (by decide) hb) hy
      obtain ⟨r1', _, _⟩ := tok_row (k := 1) hh hB rfl (rowsB_bare (by decide) hb') hy'
      have hc := lo_calls r1 r1'
      rw [decide_eq_false (show ¬ (3000 : Int) < (l : Int) by omega), decide_eq_false (show ¬ (3000 : Int) < (l' : Int) by omega)] at hc
      exact keep_vr hh hB (fun μ => @VR.bool (iB base (tsB v v' l l' cs cs') p w q) μ false) hc
    · cases he
  | false =>
  rw [h1, cond_false] at hf
  cases h2 : Nat.beq f 5 with
  | true =>
    rw [h2, cond_true, Option.some.injEq] at hf
    have hfe := Nat.eq_of_beq_eq_true h2
    subst hf hfe
    refine ⟨by kernel_rfl, fun args h u rows he μ cargs w' B ha hh hB => ?_⟩
    unfold aAt at he
    split at he
    · rename_i k l2 c2 i n
      cases hn : Nat.beq n 16 with
      | false => rw [hn, cond_false] at he; cases he
      | true =>
        have hn := Nat.eq_of_beq_eq_true hn
        subst hn
        rw [show Nat.beq 16 16 = true from rfl, cond_true] at he
        obtain ⟨y, ys, rfl, hy, h2⟩ := vrl_cons ha
        obtain ⟨y1, ys, rfl, hy1, h3⟩ := vrl_cons h2
        obtain ⟨y2, ys, rfl, hy2, h4⟩ := vrl_cons h3
        rw [vrl_none h4, @VR.int_inv (iB base (tsB v v' l l' cs cs') p w q) _ _ _ _ hy1, @VR.int_inv (iB base (tsB v v' l l' cs cs') p w q) _ _ _ _ hy2]
        cases hk : Nat.beq k 0 with
        | true =>
          have hk := Nat.eq_of_beq_eq_true hk
          subst hk
          rw [show Nat.beq 0 0 = true from rfl, cond_true] at he
          obtain ⟨r1, _, _⟩ := tok_row (k := 0) hh hB rfl (rowsB_bare (by decide) hb) hy
          have hc := at_calls r1 hb i
          cases hi : Nat.beq i 0 with
          | true =>
            have hi := Nat.eq_of_beq_eq_true hi
            subst hi
            simp only [show Nat.beq 0 0 = true from rfl, cond_true, Option.some.injEq, Prod.mk.injEq] at he
            obtain ⟨rfl, rfl, _⟩ := he
            rw [hp] at hc
            exact keep_vr hh hB (fun μ => @VR.int (iB base (tsB v v' l l' cs cs') p w q) μ .i64 p) hc
          | false =>
            rw [hi, cond_false] at he
            cases hi2 : Nat.beq i 1 with
            | true =>
              have hi2 := Nat.eq_of_beq_eq_true hi2
              subst hi2
              simp only [show Nat.beq 1 1 = true from rfl, cond_true, Option.some.injEq, Prod.mk.injEq] at he
              obtain ⟨rfl, rfl, _⟩ := he
              rw [hq] at hc
              exact keep_vr hh hB (fun μ => @VR.int (iB base (tsB v v' l l' cs cs') p w q) μ .i64 q) hc
            | false => rw [hi2, cond_false] at he; cases he
        | false =>
          rw [hk, cond_false] at he
          cases hk2 : Nat.beq k 1 with
          | false => rw [hk2, cond_false] at he; cases he
          | true =>
            have hk2 := Nat.eq_of_beq_eq_true hk2
            subst hk2
            rw [show Nat.beq 1 1 = true from rfl, cond_true] at he
            obtain ⟨r1, _, _⟩ := tok_row (k := 1) hh hB rfl (rowsB_bare (by decide) hb') hy
            have hc := at_calls r1 hb' i
            cases hi : Nat.beq i 0 with
            | true =>
              have hi := Nat.eq_of_beq_eq_true hi
              subst hi
              simp only [show Nat.beq 0 0 = true from rfl, cond_true, Option.some.injEq, Prod.mk.injEq] at he
              obtain ⟨rfl, rfl, _⟩ := he
              rw [hw] at hc
              exact keep_vr hh hB (fun μ => @VR.int (iB base (tsB v v' l l' cs cs') p w q) μ .i64 w) hc
            | false => rw [hi, cond_false] at he; cases he
    · cases he
  | false => rw [h2, cond_false] at hf; cases hf
end
theorem EL_ok {ι : Frn} (hc : @ConOk ι Try.prog) : @EnvOk ι (@EL ι) :=
  @fun_goes ι Try.prog ext (orcOf orcBq) usB 400 mixed usB_ok (@ext_list ι _ _ extsOk) (@orc_list ι _ _ orcBqOk) hc 20
/-! ### too many bytes -/
noncomputable def conT (f : FuncId) : Option ConF := bif Nat.beq f 4 then some fun args _ => match args with
    | [.slice (some ⟨0, 0, some 0⟩) _ _, .slice (some ⟨1, 0, some 0⟩) _ _] => some (.bool true, [], true)
    | _ => none
  else none
theorem long_eval (base : Nat) (ts : Toks) (l c l' c' : Nat) : @codeK (frnOf base ts conT) (@EL (frnOf base ts conT)) 60 lawC (startS Try.f3 [tok 0 l c, tok 1 l' c'] []) (@finK (frnOf base ts conT) Try.prog Try.f3) = some (.bool true, [], true) := by kernel_rfl
theorem long_calls {W : World} {v v' : Value} {l l' : Nat} {cs cs' : List Value} (hv : RowIn W v l cs) (hv' : RowIn W v' l' cs') (hb : rowsB byK l cs = true) (hb' : rowsB byK l' cs' = true) (hl : 3000 < l ∨ 3000 < l') :
    Calls Try.prog 3 #[v, v'] W fun e w' => e = .returned (.bool true) ∧ Below W.heap.size W w' := by
  obtain ⟨a, c, rfl, _⟩ := id hv
  obtain ⟨a', c', rfl, _⟩ := id hv'
  let ts : Toks := tsB (.slice a l c) (.slice a' l' c') l l' cs cs'
  let ι : Frn := frnOf W.heap.size ts conT
  have hw : @FrnIn ι W := frn_in fun k v1 l1 cs1 hk => by
    match k, hk with
    | 0, hk => cases hk; exact hv
    | 1, hk => cases hk; exact hv'
  have ht : @VR ι (fun _ => none) (tok 0 l c) (.slice a l c) := tok_VR (ts := ts) (k := 0) rfl hv
  have ht' : @VR ι (fun _ => none) (tok 1 l' c') (.slice a' l' c') := tok_VR (ts := ts) (k := 1) rfl hv'
  have hcon : @ConOk ι Try.prog := fun f g hf => by
    have hf : conT f = some g := hf
    unfold conT at hf
    cases h1 : Nat.beq f 4 with
    | true =>
      rw [h1, cond_true, Option.some.injEq] at hf
      have hfe := Nat.eq_of_beq_eq_true h1
      subst hf hfe
      refine ⟨by kernel_rfl, fun args h u rows he μ cargs w' B ha hh hB => ?_⟩
      dsimp only at he
      split at he
      · simp only [Option.some.injEq, Prod.mk.injEq] at he
        obtain ⟨rfl, rfl, _⟩ := he
        obtain ⟨y, ys, rfl, hy, h2⟩ := vrl_cons ha
        obtain ⟨y', ys, rfl, hy', h3⟩ := vrl_cons h2
        rw [vrl_none h3]
        obtain ⟨r1, _, _⟩ := tok_row (k := 0) hh hB rfl (rowsB_bare (by decide) hb) hy
        obtain ⟨r1', _, _⟩ := tok_row (k := 1) hh hB rfl (rowsB_bare (by decide) hb') hy'
        have hc := lo_calls r1 r1'
        have ht : (decide ((3000 : Int) < (l : Int)) || decide ((3000 : Int) < (l' : Int))) = true := by
          rw [Bool.or_eq_true, decide_eq_true_eq, decide_eq_true_eq]; omega
        rw [ht] at hc
        exact keep_vr hh hB (fun μ => @VR.bool ι μ true) hc
      · cases he
    | false => rw [h1, cond_false] at hf; cases hf
  refine (@body_goes ι (@EL ι) (EL_ok hcon) mixed 3 Try.f3 lawC Try.func3 law_body law_ok _ _ _ _ _ (long_eval _ _ l c l' c') (fun _ => none) [.slice a l c, .slice a' l' c'] W W.heap.size
    (@VRL.cons ι _ _ _ _ _ ht (@VRL.cons ι _ _ _ _ _ ht' (@VRL.nil ι _))) (@HeapR.start ι W hw) (Nat.le_refl _)).mono fun e w' hx => ?_
  obtain ⟨u, μ', rfl, _, hu, _, hbl⟩ := hx
  rw [@VR.bool_inv ι _ _ _ hu]
  exact ⟨rfl, hbl⟩
/-! ### both halves put together -/
theorem case1_of {base : Nat} {ts : Toks} {q l c l' c' p w : Nat} (hp : p < 16) (hw : w < 16) : case1 base ts q l c l' c' p w = true := by
  have key : ∀ {p : Nat}, ((List.range 16).all fun w => case1 base ts q l c l' c' p w) = true → case1 base ts q l c l' c' p w = true := fun h => List.all_eq_true.1 h w (List.mem_range.2 hw)
  match p, hp with
  | 0, _ => exact key (c1_0 base ts q l c l' c')
  | 1, _ => exact key (c1_1 base ts q l c l' c')
  | 2, _ => exact key (c1_2 base ts q l c l' c')
  | 3, _ => exact key (c1_3 base ts q l c l' c')
  | 4, _ => exact key (c1_4 base ts q l c l' c')
  | 5, _ => exact key (c1_5 base ts q l c l' c')
  | 6, _ => exact key (c1_6 base ts q l c l' c')
  | 7, _ => exact key (c1_7 base ts q l c l' c')
  | 8, _ => exact key (c1_8 base ts q l c l' c')
  | 9, _ => exact key (c1_9 base ts q l c l' c')
  | 10, _ => exact key (c1_10 base ts q l c l' c')
  | 11, _ => exact key (c1_11 base ts q l c l' c')
  | 12, _ => exact key (c1_12 base ts q l c l' c')
  | 13, _ => exact key (c1_13 base ts q l c l' c')
  | 14, _ => exact key (c1_14 base ts q l c l' c')
  | 15, _ => exact key (c1_15 base ts q l c l' c')
  | n + 16, h => exact absurd h (by omega)
theorem run2_of {base : Nat} {ts : Toks} {p w q l c : Nat} {j : J} {x : Nat → Option (List Value)} (hq : q < 16) : ansB (run2 base ts p w q l c j x) = true := by
  match q, hq with
  | 0, _ => exact c2_0 base ts p w l c j x
  | 1, _ => exact c2_1 base ts p w l c j x
  | 2, _ => exact c2_2 base ts p w l c j x
  | 3, _ => exact c2_3 base ts p w l c j x
  | 4, _ => exact c2_4 base ts p w l c j x
  | 5, _ => exact c2_5 base ts p w l c j x
  | 6, _ => exact c2_6 base ts p w l c j x
  | 7, _ => exact c2_7 base ts p w l c j x
  | 8, _ => exact c2_8 base ts p w l c j x
  | 9, _ => exact c2_9 base ts p w l c j x
  | 10, _ => exact c2_10 base ts p w l c j x
  | 11, _ => exact c2_11 base ts p w l c j x
  | 12, _ => exact c2_12 base ts p w l c j x
  | 13, _ => exact c2_13 base ts p w l c j x
  | 14, _ => exact c2_14 base ts p w l c j x
  | 15, _ => exact c2_15 base ts p w l c j x
  | n + 16, h => exact absurd h (by omega)
theorem isTok_form {k : Nat} {u : Value × Bool} (h : isTok k u = true) : ∃ l c, u = (tok k l c, true) := by
  unfold isTok at h
  split at h
  · have := Nat.eq_of_beq_eq_true h
    subst this
    exact ⟨_, _, rfl⟩
  · cases h
theorem isVal_form {z : Int} {u : Value × Bool} (h : isVal z u = true) : u = vI z := by
  unfold isVal at h
  split at h
  · rw [of_decide_eq_true h]; rfl
  · cases h
theorem isPtr_form {b : Nat} {u : Value × Bool} (h : isPtr b u = true) : u = (.pointer (some ⟨b, 0, none⟩), true) := by
  unfold isPtr at h
  split at h
  · rw [Nat.eq_of_beq_eq_true h]
  · cases h
theorem eqRow_form : ∀ {bs : List Nat} {r : List Value}, eqRow bs r = true → r = bs.map fun b => .float .f32 b
  | [], [], _ => rfl
  | [], _ :: _, h => by cases h
  | _ :: _, [], h => by cases h
  | a :: bs, v :: r, h => by
    cases v with
    | float k b =>
      cases k with
      | f32 =>
        have h : (Nat.beq a b && eqRow bs r) = true := h
        rw [Bool.and_eq_true] at h
        rw [List.map_cons, eqRow_form h.2, Nat.eq_of_beq_eq_true h.1]
      | f64 => cases h
    | _ => cases h
theorem heap_map {h : Heap} {n : Nat} (hl : h.length = n) : h = (List.range n).map fun m => h.getD m none := by
  refine List.ext_getElem? fun i => ?_
  rw [List.getElem?_map]
  by_cases hi : i < n
  · rw [List.getElem?_range hi, Option.map_some, List.getD_eq_getElem?_getD, List.getElem?_eq_getElem (by omega)]
    rfl
  · rw [List.getElem?_eq_none (by omega), List.getElem?_eq_none (by simp; omega)]; rfl
theorem mid_form {p : Nat} {bs : List Nat} {s : St} (hbs : bs.length = 16) (h : mid p bs s = true) : ∃ (l c : Nat) (j : J) (x : Nat → Option (List Value)), s = S 206 (baseJ p l c j) (heapB (fun k => bs.getD k 0) x) true := by
  unfold mid at h
  simp only [Bool.and_eq_true] at h
  obtain ⟨h1, h2, h3, h4, h5, h6, h7⟩ := h
  obtain ⟨l, c, e4⟩ := isTok_form h4
  have e5 := isVal_form h5
  have e6 := isPtr_form h6
  refine ⟨l, c, fun m => s.tmps.getD m (undef, false), fun m => s.heap.getD m none, (S_of (Nat.eq_of_beq_eq_true h1)).trans ?_⟩
  have hj : baseJ p l c (fun m => s.tmps.getD m (undef, false)) = fun m => s.tmps.getD m (undef, false) := by
    unfold baseJ
    rw [up_self (j := fun m => s.tmps.getD m (undef, false)) (i := 0) e4, up_self (j := fun m => s.tmps.getD m (undef, false)) (i := 5) e5, up_self (j := fun m => s.tmps.getD m (undef, false)) (i := 7) e6]
  have hh : s.heap = heapB (fun k => bs.getD k 0) (fun m => s.heap.getD m none) := by
    refine (heap_map (Nat.eq_of_beq_eq_true h2)).trans ?_
    unfold heapB
    refine List.map_congr_left fun m hm => ?_
    cases hb : Nat.beq m 7 with
    | false => rfl
    | true =>
      rw [Nat.eq_of_beq_eq_true hb, cond_true]
      unfold isRow at h7
      split at h7
      · rename_i r hr
        rw [hr, eqRow_form h7]
        refine congrArg some ?_
        unfold rowB
        refine List.ext_getElem? fun i => ?_
        rw [List.getElem?_map, List.getElem?_map]
        by_cases hi : i < 16
        · rw [List.getElem?_range hi, Option.map_some]
          show _ = some (Value.float .f32 (bs.getD i 0))
          rw [List.getD_eq_getElem?_getD, List.getElem?_eq_getElem (by omega)]; rfl
        · rw [List.getElem?_eq_none (by omega), List.getElem?_eq_none (by simp; omega)]; rfl
      · cases h7
  rw [hj, ← hh, h3]
theorem rowAt_form {h : Heap} {b n : Nat} (hf : isFs (n + 1) (rowAt h b) = true) : h.getD b none = some ((List.range (n + 1)).map fun k => .float .f32 (numR (rowAt h b) k)) := by
  have e := isFs_form hf
  revert hf e
  unfold rowAt
  cases h.getD b none with
  | none => intro hf; cases hf
  | some r => intro _ e; exact congrArg some e
theorem mid2_form {s : St} (h : mid2 s = true) : ∃ (e w d : Nat → Nat) (j : J) (x : Nat → Option (List Value)), s = S 206 (baseK j) (heapC e w d x) true ∧ chk2 e w d = true := by
  unfold mid2 at h
  simp only [Bool.and_eq_true] at h
  obtain ⟨h1, h2, h3, h4, h5, h6, h7, h8, h9, h10⟩ := h
  have e4 := isPtr_form h4
  have e5 := isPtr_form h5
  have e6 := isPtr_form h6
  have r1 := rowAt_form (n := 47) h7
  have r2 := rowAt_form (n := 15) h8
  have r3 := rowAt_form (n := 15) h9
  refine ⟨numR (rowAt s.heap 21), numR (rowAt s.heap 31), numR (rowAt s.heap 40), fun m => s.tmps.getD m (undef, false), fun m => s.heap.getD m none, (S_of (Nat.eq_of_beq_eq_true h1)).trans ?_, h10⟩
  have hj : baseK (fun m => s.tmps.getD m (undef, false)) = fun m => s.tmps.getD m (undef, false) := by
    unfold baseK vP
    rw [up_self (j := fun m => s.tmps.getD m (undef, false)) (i := 12) e4, up_self (j := fun m => s.tmps.getD m (undef, false)) (i := 15) e5, up_self (j := fun m => s.tmps.getD m (undef, false)) (i := 17) e6]
  have hh : s.heap = heapC (numR (rowAt s.heap 21)) (numR (rowAt s.heap 31)) (numR (rowAt s.heap 40)) (fun m => s.heap.getD m none) := by
    refine (heap_map (Nat.eq_of_beq_eq_true h2)).trans ?_
    unfold heapC
    refine List.map_congr_left fun m hm => ?_
    cases hb : Nat.beq m 21 with
    | true => rw [Nat.eq_of_beq_eq_true hb, cond_true]; exact r1
    | false =>
      cases hb2 : Nat.beq m 31 with
      | true => rw [Nat.eq_of_beq_eq_true hb2, cond_false, cond_true]; exact r2
      | false =>
        cases hb3 : Nat.beq m 40 with
        | true => rw [Nat.eq_of_beq_eq_true hb3, cond_false, cond_false, cond_true]; exact r3
        | false => rfl
  rw [hj, ← hh, h3]
theorem short_goes (base : Nat) (ts : Toks) {p w q : Nat} (hp : p < 16) (hw : w < 16) (hq : q < 16) (l c l' c' : Nat) : ∃ N e s' h', @Goes (iB base ts p w q) (@EL (iB base ts p w q)) N lawC (startS Try.f3 [tok 0 l c, tok 1 l' c'] []) e s' ∧
    @finK (iB base ts p w q) Try.prog Try.f3 e s' = some (.bool true, h', true) := by
  letI : Frn := iB base ts p w q
  have h1 := case1_of (base := base) (ts := ts) (q := q) (l := l) (c := c) (l' := l') (c' := c') hp hw
  unfold case1 at h1
  rw [Bool.and_eq_true] at h1
  obtain ⟨s1, hT, k1⟩ := codeL_out _ _ (ansB_of h1.1)
  obtain ⟨l1, c1, j1, x1, rfl⟩ := mid_form rfl hT
  obtain ⟨N2, j2, g2⟩ := loop1 (iB base ts p w q) l1 c1 x1 (fun k => (bumpN (fP p) (fW w)).getD k 0) hp h1.2 j1
  have h3 := run2_of (base := base) (ts := ts) (p := p) (w := w) (l := l1) (c := c1) (j := loopJ p ((16 : Nat) : Int) l1 c1 j2) (x := fun m => bif Nat.beq m 7 then some (rowB (fun k => (bumpN (fP p) (fW w)).getD k 0)) else x1 m) hq
  unfold run2 at h3
  have e0 : up (loopJ p ((16 : Nat) : Int) l1 c1 j2) 0 (tok 0 l1 c1, true) = loopJ p ((16 : Nat) : Int) l1 c1 j2 := up_self rfl
  rw [e0] at h3
  obtain ⟨s3, hT3, k3⟩ := codeL_out _ _ (ansB_of h3)
  obtain ⟨e, u, d, j4, x4, rfl, hc⟩ := mid2_form hT3
  obtain ⟨N5, j5, g5⟩ := loop2 (iB base ts p w q) x4 e u d hc j4
  obtain ⟨e6, s6, h6, g6⟩ := codeK_out _ _ _ _ (end_r (iB base ts p w q) x4 e u d j5)
  obtain ⟨⟨V, H, K⟩, hf, hr⟩ := Option.map_eq_some_iff.1 h6
  simp only [Prod.mk.injEq] at hr
  obtain ⟨rfl, _, rfl⟩ := hr
  have g9 := Goes.seq (a := pc9) (b := end9) (g5.more (show N5 ≤ N5 + 20 by omega)) (g6.more (show 20 ≤ N5 + 20 by omega))
  rw [← shape9] at g9
  have g8 := k3 g9
  rw [← shape8] at g8
  have g7 := Goes.seq (a := pc8) (b := rest8) (g2.more (Nat.le_max_left _ _)) (g8.more (Nat.le_max_right _ _))
  rw [← rest_shape] at g7
  have g := k1 g7
  rw [← law_shape] at g
  exact ⟨_, _, _, _, g, hf⟩
theorem law_calls {W : World} {v v' : Value} {l l' : Nat} {cs cs' : List Value} (hv : RowIn W v l cs) (hv' : RowIn W v' l' cs') (hb : rowsB byK l cs = true) (hb' : rowsB byK l' cs' = true) (hw : cs.all wfC = true) (hw' : cs'.all wfC = true) :
    Calls Try.prog 3 #[v, v'] W fun e w' => e = .returned (.bool true) ∧ Below W.heap.size W w' := by
  by_cases hlong : 3000 < l ∨ 3000 < l'
  · exact long_calls hv hv' hb hb' hlong
  · obtain ⟨p, hp, ep⟩ := by_lt hb hw 0
    obtain ⟨w, hw1, ew⟩ := by_lt hb' hw' 0
    obtain ⟨q, hq, eq⟩ := by_lt hb hw 1
    obtain ⟨a, c, rfl, _⟩ := id hv
    obtain ⟨a', c', rfl, _⟩ := id hv'
    let ts : Toks := tsB (.slice a l c) (.slice a' l' c') l l' cs cs'
    let ι : Frn := iB W.heap.size ts p w q
    have hin : @FrnIn ι W := frn_in fun k v1 l1 cs1 hk => by
      match k, hk with
      | 0, hk => cases hk; exact hv
      | 1, hk => cases hk; exact hv'
    have ht : @VR ι (fun _ => none) (tok 0 l c) (.slice a l c) := tok_VR (ts := ts) (k := 0) rfl hv
    have ht' : @VR ι (fun _ => none) (tok 1 l' c') (.slice a' l' c') := tok_VR (ts := ts) (k := 1) rfl hv'
    obtain ⟨N, e, s', h', g, hf⟩ := short_goes W.heap.size ts hp hw1 hq l c l' c'
    refine (@goes_call ι (@EL ι) (EL_ok (conB_ok hb hb' (by omega) (by omega) ep ew eq _)) mixed 3 Try.f3 lawC Try.func3 law_body law_ok _ _ _ _ _ _ _ g hf (fun _ => none) [.slice a l c, .slice a' l' c'] W W.heap.size
      (@VRL.cons ι _ _ _ _ _ ht (@VRL.cons ι _ _ _ _ _ ht' (@VRL.nil ι _))) (@HeapR.start ι W hin) (Nat.le_refl _)).mono fun e w' hx => ?_
    obtain ⟨u, μ', rfl, _, hu, _, hbl⟩ := hx
    rw [@VR.bool_inv ι _ _ _ hu]
    exact ⟨rfl, hbl⟩
end Go.Proofs.Ytbodmmniiaggoaa
end
