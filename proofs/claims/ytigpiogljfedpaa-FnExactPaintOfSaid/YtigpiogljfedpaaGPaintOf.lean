/-
  FnExactPaintOf: program and model answer the same to every shelf. No condition.
-/
import Derived.Test.YtigpiogljfedpaaGPaintOfN
import Derived.Test.YtigpiogljfedpaaGPaintOfR1
import Derived.Test.YtigpiogljfedpaaGPaintOfR2
import Derived.Test.YtigpiogljfedpaaGPaintOfR3
import Derived.Test.YtigpiogljfedpaaRows
set_option linter.unusedSectionVars false
set_option linter.unusedVariables false
set_option linter.unusedSimpArgs false
noncomputable section
namespace Go.Proofs.Ytigpiogljfedpaa.fnExactPaintOf
open Go Go.ChangeShapes Go.WideShapes Go.ChangeAt Go.RowKit Go.Deep Ev Sx

theorem noes {n : Nat} (h1 : 1 ≤ n) (h6 : n ≤ 6) : no n = true := by
  match n, h1, h6 with
  | 1, _, _ => exact no1
  | 2, _, _ => exact no2
  | 3, _, _ => exact no3
  | 4, _, _ => exact no4
  | 5, _, _ => exact no5
  | 6, _, _ => exact no6
theorem goes {n : Nat} (h1 : 1 ≤ n) (h6 : n ≤ 6) : go n = true := by
  match n, h1, h6 with
  | 1, _, _ => exact go1
  | 2, _, _ => exact go2
  | 3, _, _ => exact go3
  | 4, _, _ => exact go4
  | 5, _, _ => exact go5
  | 6, _, _ => exact go6
theorem usOk : us.all (funcOk Try.prog) = true := by kernel_rfl
theorem usFOk : usF.all (funcOk Try.prog) = true := by kernel_rfl
theorem usGOk : usG.all (funcOk Try.prog) = true := by kernel_rfl
theorem usEOk : usE.all (funcOk Try.prog) = true := by kernel_rfl
theorem gsOk : gs.all (hasBody Try.prog) = true := by kernel_rfl
theorem same {l : Nat} {cs : List Value} {t0 t1 t2 t3 t4 t5 : Int} (x0 : (Nat → Int)) (hf : fitK ak (xs x0) = true) (hb : rowsB pigK l cs = true) (hw : cs.all wfC = true) (htw : (tins t0 t1 t2 t3 t4 t5).all wfC = true) :
    ∃ (y0 : (Nat → Int)) (y1 : Int), AnsG 26 l cs (tins t0 t1 t2 t3 t4 t5) (xs x0) (ans y0 y1) ∧ AnsG 27 l cs (tins t0 t1 t2 t3 t4 t5) (xs x0) (ans y0 y1) := by
  obtain ⟨b, hr, _, A2, A3, hpv⟩ := shelf_sameA hb hw htw
  cases b with
  | false =>
    refine ⟨(fun _ => 0), (1), ansG_D usFOk (fun ι => @noExt ι _) (fun ι => noOO) (fun base v => conW_ok (by kernel_rfl) hb A2 A3) (xsB x0) (ansB (fun _ => 0) (1)) fun base v => sF base l v cs t0 t1 t2 t3 t4 t5 x0, ?_⟩
    exact ansG_G usGOk gsOk (fun base v => conW_ok (by kernel_rfl) hb A2 A3) (xsB x0) (ansB (fun _ => 0) (1)) fun base v => iF base l v cs t0 t1 t2 t3 t4 t5 x0
  | true =>
    obtain ⟨h1, h6⟩ := hr rfl
    have hfd : fitK fnExactValidDrops.ak (fnExactValidDrops.xs x0) = true := by
      have hf : (AK.fit (.row (List.replicate 6 (.i .i16))) (.agg (cellsK (List.replicate 6 (.i .i16)) 0 x0).toArray) && _) = true := hf
      rw [Bool.and_eq_true] at hf
      show (AK.fit (.row (List.replicate 6 (.i .i16))) (.agg (cellsK (List.replicate 6 (.i .i16)) 0 x0).toArray) && true) = true
      rw [hf.1]; rfl
    obtain ⟨bD, hc, _, hI⟩ := fnExactValidDrops.partT x0 hfd hb hw htw h1 h6 A2 A3
    have hX : ((gArgs ak l).take 1).map (conc (gG ak l cs (tins t0 t1 t2 t3 t4 t5) (xs x0))) = [.agg (cellsK (List.replicate 6 (.i .i16)) 0 x0).toArray] := by
      rw [List.map_take, gArgs_conc hb hf]; rfl
    have hA1 : ((SV.agg (gSh ak l) :: (gArgs ak l).take 1).map (conc (gG ak l cs (tins t0 t1 t2 t3 t4 t5) (xs x0)))) = shelf (tok 0 l 0) (tins t0 t1 t2 t3 t4 t5) :: [.agg (cellsK (List.replicate 6 (.i .i16)) 0 x0).toArray] := by
      have e := job_args (ak := ak) hb htw hf
      rw [List.map_cons] at e ⊢
      rw [hX]
      rw [List.cons.injEq] at e
      rw [e.1]
    have hCd : CdOk ak l cs (xs x0) t0 t1 t2 t3 t4 t5 (fun f => seek f []) (fun f => seek f orcV) fnExactValidDrops.us 300 30 (cds bD l) := fun base v c hc2 => by
      rcases List.mem_singleton.1 hc2 with rfl
      obtain ⟨h', e⟩ := hc base v
      dsimp only
      rw [hA1]
      exact ⟨h', e⟩
    cases bD with
    | false =>
      refine ⟨(fun _ => 0), (1), ansG_D (con := conX3 l (tins t0 t1 t2 t3 t4 t5) true []) (cf := 300) (d := 30) usOk (fun ι => noX) orcU_any (fun base v => conX3_ok hb A2 A3 kn_nil) (xsB x0) (ansB (fun _ => 0) (1)) (fun base v => ?_), ?_⟩
      · obtain ⟨h', e, _⟩ := g3s_run (xs := xs x0) UU (noes h1 h6) (exte1 := fun f => seek f []) (orce1 := fun f => seek f orcV) (exte := fun f => seek f []) (orce := fun f => seek f orcU) (fun F ρ hB => ListR.nil) (fun F ρ hB => symVR F ρ hB) (fun F ρ hB => ListR.nil) (fun F ρ hB => symUvR F ρ hB) hb hw htw trivial hCd base v
        dsimp only at e
        rw [job_args hb htw hf] at e
        refine ⟨h', Eq.trans e ?_⟩
        simp only [conc, concL, List.map_cons, List.map_nil]
        all_goals rfl
      · exact ansG_G usEOk gsOk (fun base v => conX3_ok hb A2 A3 (kn_cons (by kernel_rfl) (by kernel_rfl) rfl hI kn_nil)) (xsB x0) (ansB (fun _ => 0) (1)) fun base v => dF base l v cs t0 t1 t2 t3 t4 t5 x0
    | true =>
      obtain ⟨m0, m1, hM, _, hMI⟩ := fnExactMixDrops.partD x0 hfd hb hw htw h1 h6 A2 A3 (hpv rfl) hc hI
      have hL : (kn l).map (knC (gG ak l cs (tins t0 t1 t2 t3 t4 t5) (xs x0))) = [(22, [.agg (cellsK (List.replicate 6 (.i .i16)) 0 x0).toArray], .bool true)] := by
        show [(22, ((gArgs ak l).take 1).map (conc (gG ak l cs (tins t0 t1 t2 t3 t4 t5) (xs x0))), conc _ (.lit (.bool true)))] = _
        rw [hX]
        simp only [conc]
      have hK := kn_cons (by kernel_rfl) (by kernel_rfl) (fnExactMixDrops.ansB m0 m1) hMI (kn_cons (by kernel_rfl) (by kernel_rfl) rfl hI (kn_nil (l := l) (cs := cs) (ts := (tins t0 t1 t2 t3 t4 t5))))
      obtain ⟨hbox, V, hV, hgo⟩ := g4_run (xs := xs x0) UU (W := fnExactMixDrops.ans m0 m1) (goes h1 h6) (exte1 := fun f => seek f []) (orce1 := fun f => seek f orcV) (exte2 := fun f => seek f []) (orce2 := fun f => seek f orcV) (exte := fun f => seek f []) (orce := fun f => seek f orcU) (fun F ρ hB => ListR.nil) (fun F ρ hB => symVR F ρ hB) (fun F ρ hB => ListR.nil) (fun F ρ hB => symVR F ρ hB) (fun F ρ hB => ListR.nil) (fun F ρ hB => symUvR F ρ hB) hb hw htw trivial (fun base v c hc => by cases hc) (fun base v => by
        rw [hL]
        dsimp only
        rw [hA1]
        exact hM base v)
      rw [hL, hX] at hgo
      obtain ⟨a, c, rfl, ha, hc⟩ := two_of hV
      obtain ⟨y0, rfl⟩ := row_of (ks := (List.replicate 16 (.f .f32))) rfl ha
      obtain ⟨y1, rfl⟩ := int_of hc
      refine ⟨y0, y1, ansG_D (cf := 300) (d := 30) usOk (fun ι => noX) orcU_any (fun base v => conX3_ok hb A2 A3 hK) (xsB x0) (ansB y0 y1) (fun base v => ?_), ansG_D (cf := 300) (d := 30) usOk (fun ι => noX) orcU_any (fun base v => conX3_ok hb A2 A3 hK) (xsB x0) (ansB y0 y1) (fun base v => ?_)⟩
      · obtain ⟨⟨h', e, _⟩, _⟩ := hgo base v
        dsimp only at e
        rw [job_args hb htw hf] at e
        exact ⟨h', e⟩
      · obtain ⟨_, ⟨h', e, _⟩⟩ := hgo base v
        dsimp only at e
        rw [job_args hb htw hf] at e
        exact ⟨h', e⟩
theorem ev (base l : Nat) (v : Value) (cs : List Value) (t0 t1 t2 t3 t4 t5 : Int) (z : Int) (x0 : (Nat → Int)) (y0 : (Nat → Int)) (y1 : Int) : (@codeK (frnOf base (tk1 v l cs) (seekC (lawL l cs (tins t0 t1 t2 t3 t4 t5) z x0 y0 y1))) (@ETl (frnOf base (tk1 v l cs) (seekC (lawL l cs (tins t0 t1 t2 t3 t4 t5) z x0 y0 y1)))) 60 lawC (startS Try.f6 (shelf (tok 0 l 0) (tins t0 t1 t2 t3 t4 t5) :: xs x0) []) (fun e s => (@finK (frnOf base (tk1 v l cs) (seekC (lawL l cs (tins t0 t1 t2 t3 t4 t5) z x0 y0 y1))) Try.prog Try.f6 e s).map eraseH)) =
    (bif decide (z < 0) then (some ((Value.bool true), ([], (isB ((SzOk z l cs) ∧ ([(Value.int .i32 t0), (Value.int .i32 t1), (Value.int .i32 t2), (Value.int .i32 t3), (Value.int .i32 t4), (Value.int .i32 t5)] = [(Value.int .i32 t0), (Value.int .i32 t1), (Value.int .i32 t2), (Value.int .i32 t3), (Value.int .i32 t4), (Value.int .i32 t5)])) && true)))) else (bif (!decide (y1 = y1)) then (some ((Value.bool false), ([], (isB ([(Value.agg #[(Value.float .f32 (Int.toNat (y0 0))), (Value.float .f32 (Int.toNat (y0 (0 + 1)))), (Value.float .f32 (Int.toNat (y0 (0 + 1 + 1)))), (Value.float .f32 (Int.toNat (y0 (0 + 1 + 1 + 1)))), (Value.float .f32 (Int.toNat (y0 (0 + 1 + 1 + 1 + 1)))), (Value.float .f32 (Int.toNat (y0 (0 + 1 + 1 + 1 + 1 + 1)))), (Value.float .f32 (Int.toNat (y0 (0 + 1 + 1 + 1 + 1 + 1 + 1)))), (Value.float .f32 (Int.toNat (y0 (0 + 1 + 1 + 1 + 1 + 1 + 1 + 1)))), (Value.float .f32 (Int.toNat (y0 (0 + 1 + 1 + 1 + 1 + 1 + 1 + 1 + 1)))), (Value.float .f32 (Int.toNat (y0 (0 + 1 + 1 + 1 + 1 + 1 + 1 + 1 + 1 + 1)))), (Value.float .f32 (Int.toNat (y0 (0 + 1 + 1 + 1 + 1 + 1 + 1 + 1 + 1 + 1 + 1)))), (Value.float .f32 (Int.toNat (y0 (0 + 1 + 1 + 1 + 1 + 1 + 1 + 1 + 1 + 1 + 1 + 1)))), (Value.float .f32 (Int.toNat (y0 (0 + 1 + 1 + 1 + 1 + 1 + 1 + 1 + 1 + 1 + 1 + 1 + 1)))), (Value.float .f32 (Int.toNat (y0 (0 + 1 + 1 + 1 + 1 + 1 + 1 + 1 + 1 + 1 + 1 + 1 + 1 + 1)))), (Value.float .f32 (Int.toNat (y0 (0 + 1 + 1 + 1 + 1 + 1 + 1 + 1 + 1 + 1 + 1 + 1 + 1 + 1 + 1)))), (Value.float .f32 (Int.toNat (y0 (0 + 1 + 1 + 1 + 1 + 1 + 1 + 1 + 1 + 1 + 1 + 1 + 1 + 1 + 1 + 1))))]), (Value.agg #[(Value.float .f32 (Int.toNat (y0 0))), (Value.float .f32 (Int.toNat (y0 (0 + 1)))), (Value.float .f32 (Int.toNat (y0 (0 + 1 + 1)))), (Value.float .f32 (Int.toNat (y0 (0 + 1 + 1 + 1)))), (Value.float .f32 (Int.toNat (y0 (0 + 1 + 1 + 1 + 1)))), (Value.float .f32 (Int.toNat (y0 (0 + 1 + 1 + 1 + 1 + 1)))), (Value.float .f32 (Int.toNat (y0 (0 + 1 + 1 + 1 + 1 + 1 + 1)))), (Value.float .f32 (Int.toNat (y0 (0 + 1 + 1 + 1 + 1 + 1 + 1 + 1)))), (Value.float .f32 (Int.toNat (y0 (0 + 1 + 1 + 1 + 1 + 1 + 1 + 1 + 1)))), (Value.float .f32 (Int.toNat (y0 (0 + 1 + 1 + 1 + 1 + 1 + 1 + 1 + 1 + 1)))), (Value.float .f32 (Int.toNat (y0 (0 + 1 + 1 + 1 + 1 + 1 + 1 + 1 + 1 + 1 + 1)))), (Value.float .f32 (Int.toNat (y0 (0 + 1 + 1 + 1 + 1 + 1 + 1 + 1 + 1 + 1 + 1 + 1)))), (Value.float .f32 (Int.toNat (y0 (0 + 1 + 1 + 1 + 1 + 1 + 1 + 1 + 1 + 1 + 1 + 1 + 1)))), (Value.float .f32 (Int.toNat (y0 (0 + 1 + 1 + 1 + 1 + 1 + 1 + 1 + 1 + 1 + 1 + 1 + 1 + 1)))), (Value.float .f32 (Int.toNat (y0 (0 + 1 + 1 + 1 + 1 + 1 + 1 + 1 + 1 + 1 + 1 + 1 + 1 + 1 + 1)))), (Value.float .f32 (Int.toNat (y0 (0 + 1 + 1 + 1 + 1 + 1 + 1 + 1 + 1 + 1 + 1 + 1 + 1 + 1 + 1 + 1))))])] = [(Value.agg #[(Value.float .f32 (Int.toNat (y0 0))), (Value.float .f32 (Int.toNat (y0 (0 + 1)))), (Value.float .f32 (Int.toNat (y0 (0 + 1 + 1)))), (Value.float .f32 (Int.toNat (y0 (0 + 1 + 1 + 1)))), (Value.float .f32 (Int.toNat (y0 (0 + 1 + 1 + 1 + 1)))), (Value.float .f32 (Int.toNat (y0 (0 + 1 + 1 + 1 + 1 + 1)))), (Value.float .f32 (Int.toNat (y0 (0 + 1 + 1 + 1 + 1 + 1 + 1)))), (Value.float .f32 (Int.toNat (y0 (0 + 1 + 1 + 1 + 1 + 1 + 1 + 1)))), (Value.float .f32 (Int.toNat (y0 (0 + 1 + 1 + 1 + 1 + 1 + 1 + 1 + 1)))), (Value.float .f32 (Int.toNat (y0 (0 + 1 + 1 + 1 + 1 + 1 + 1 + 1 + 1 + 1)))), (Value.float .f32 (Int.toNat (y0 (0 + 1 + 1 + 1 + 1 + 1 + 1 + 1 + 1 + 1 + 1)))), (Value.float .f32 (Int.toNat (y0 (0 + 1 + 1 + 1 + 1 + 1 + 1 + 1 + 1 + 1 + 1 + 1)))), (Value.float .f32 (Int.toNat (y0 (0 + 1 + 1 + 1 + 1 + 1 + 1 + 1 + 1 + 1 + 1 + 1 + 1)))), (Value.float .f32 (Int.toNat (y0 (0 + 1 + 1 + 1 + 1 + 1 + 1 + 1 + 1 + 1 + 1 + 1 + 1 + 1)))), (Value.float .f32 (Int.toNat (y0 (0 + 1 + 1 + 1 + 1 + 1 + 1 + 1 + 1 + 1 + 1 + 1 + 1 + 1 + 1)))), (Value.float .f32 (Int.toNat (y0 (0 + 1 + 1 + 1 + 1 + 1 + 1 + 1 + 1 + 1 + 1 + 1 + 1 + 1 + 1 + 1))))]), (Value.agg #[(Value.float .f32 (Int.toNat (y0 0))), (Value.float .f32 (Int.toNat (y0 (0 + 1)))), (Value.float .f32 (Int.toNat (y0 (0 + 1 + 1)))), (Value.float .f32 (Int.toNat (y0 (0 + 1 + 1 + 1)))), (Value.float .f32 (Int.toNat (y0 (0 + 1 + 1 + 1 + 1)))), (Value.float .f32 (Int.toNat (y0 (0 + 1 + 1 + 1 + 1 + 1)))), (Value.float .f32 (Int.toNat (y0 (0 + 1 + 1 + 1 + 1 + 1 + 1)))), (Value.float .f32 (Int.toNat (y0 (0 + 1 + 1 + 1 + 1 + 1 + 1 + 1)))), (Value.float .f32 (Int.toNat (y0 (0 + 1 + 1 + 1 + 1 + 1 + 1 + 1 + 1)))), (Value.float .f32 (Int.toNat (y0 (0 + 1 + 1 + 1 + 1 + 1 + 1 + 1 + 1 + 1)))), (Value.float .f32 (Int.toNat (y0 (0 + 1 + 1 + 1 + 1 + 1 + 1 + 1 + 1 + 1 + 1)))), (Value.float .f32 (Int.toNat (y0 (0 + 1 + 1 + 1 + 1 + 1 + 1 + 1 + 1 + 1 + 1 + 1)))), (Value.float .f32 (Int.toNat (y0 (0 + 1 + 1 + 1 + 1 + 1 + 1 + 1 + 1 + 1 + 1 + 1 + 1)))), (Value.float .f32 (Int.toNat (y0 (0 + 1 + 1 + 1 + 1 + 1 + 1 + 1 + 1 + 1 + 1 + 1 + 1 + 1)))), (Value.float .f32 (Int.toNat (y0 (0 + 1 + 1 + 1 + 1 + 1 + 1 + 1 + 1 + 1 + 1 + 1 + 1 + 1 + 1)))), (Value.float .f32 (Int.toNat (y0 (0 + 1 + 1 + 1 + 1 + 1 + 1 + 1 + 1 + 1 + 1 + 1 + 1 + 1 + 1 + 1))))])]) && ((isB ((cs = cs) ∧ ((l = l) ∧ (([(Value.int .i32 t0), (Value.int .i32 t1), (Value.int .i32 t2), (Value.int .i32 t3), (Value.int .i32 t4), (Value.int .i32 t5)] = [(Value.int .i32 t0), (Value.int .i32 t1), (Value.int .i32 t2), (Value.int .i32 t3), (Value.int .i32 t4), (Value.int .i32 t5)]) ∧ ([(Value.agg #[(Value.int .i16 (x0 0)), (Value.int .i16 (x0 1)), (Value.int .i16 (x0 2)), (Value.int .i16 (x0 3)), (Value.int .i16 (x0 4)), (Value.int .i16 (x0 5))])] = [(Value.agg #[(Value.int .i16 (x0 0)), (Value.int .i16 (x0 1)), (Value.int .i16 (x0 2)), (Value.int .i16 (x0 3)), (Value.int .i16 (x0 4)), (Value.int .i16 (x0 5))])])))) && true) && (isB ([(Value.agg #[(Value.int .i16 (x0 0)), (Value.int .i16 (x0 1)), (Value.int .i16 (x0 2)), (Value.int .i16 (x0 3)), (Value.int .i16 (x0 4)), (Value.int .i16 (x0 5))])] = [(Value.agg #[(Value.int .i16 (x0 0)), (Value.int .i16 (x0 1)), (Value.int .i16 (x0 2)), (Value.int .i16 (x0 3)), (Value.int .i16 (x0 4)), (Value.int .i16 (x0 5))])]) && (isB ((l ≤ 1048576) ∧ ([(Value.int .i32 t0), (Value.int .i32 t1), (Value.int .i32 t2), (Value.int .i32 t3), (Value.int .i32 t4), (Value.int .i32 t5)] = [(Value.int .i32 t0), (Value.int .i32 t1), (Value.int .i32 t2), (Value.int .i32 t3), (Value.int .i32 t4), (Value.int .i32 t5)])) && ((isB ((cs = cs) ∧ ((l = l) ∧ (([(Value.int .i32 t0), (Value.int .i32 t1), (Value.int .i32 t2), (Value.int .i32 t3), (Value.int .i32 t4), (Value.int .i32 t5)] = [(Value.int .i32 t0), (Value.int .i32 t1), (Value.int .i32 t2), (Value.int .i32 t3), (Value.int .i32 t4), (Value.int .i32 t5)]) ∧ ([(Value.agg #[(Value.int .i16 (x0 0)), (Value.int .i16 (x0 1)), (Value.int .i16 (x0 2)), (Value.int .i16 (x0 3)), (Value.int .i16 (x0 4)), (Value.int .i16 (x0 5))])] = [(Value.agg #[(Value.int .i16 (x0 0)), (Value.int .i16 (x0 1)), (Value.int .i16 (x0 2)), (Value.int .i16 (x0 3)), (Value.int .i16 (x0 4)), (Value.int .i16 (x0 5))])])))) && true) && (isB ([(Value.agg #[(Value.int .i16 (x0 0)), (Value.int .i16 (x0 1)), (Value.int .i16 (x0 2)), (Value.int .i16 (x0 3)), (Value.int .i16 (x0 4)), (Value.int .i16 (x0 5))])] = [(Value.agg #[(Value.int .i16 (x0 0)), (Value.int .i16 (x0 1)), (Value.int .i16 (x0 2)), (Value.int .i16 (x0 3)), (Value.int .i16 (x0 4)), (Value.int .i16 (x0 5))])]) && ((isB ((l ≤ 1048576) ∧ ([(Value.int .i32 t0), (Value.int .i32 t1), (Value.int .i32 t2), (Value.int .i32 t3), (Value.int .i32 t4), (Value.int .i32 t5)] = [(Value.int .i32 t0), (Value.int .i32 t1), (Value.int .i32 t2), (Value.int .i32 t3), (Value.int .i32 t4), (Value.int .i32 t5)])) && true) && (isB ((SzOk z l cs) ∧ ([(Value.int .i32 t0), (Value.int .i32 t1), (Value.int .i32 t2), (Value.int .i32 t3), (Value.int .i32 t4), (Value.int .i32 t5)] = [(Value.int .i32 t0), (Value.int .i32 t1), (Value.int .i32 t2), (Value.int .i32 t3), (Value.int .i32 t4), (Value.int .i32 t5)])) && true))))))))))) else (some ((Value.bool true), ([], ((isB (((l ≤ 1048576) ∧ ((cs = cs) ∧ ((l = l) ∧ ([(Value.int .i32 t0), (Value.int .i32 t1), (Value.int .i32 t2), (Value.int .i32 t3), (Value.int .i32 t4), (Value.int .i32 t5)] = [(Value.int .i32 t0), (Value.int .i32 t1), (Value.int .i32 t2), (Value.int .i32 t3), (Value.int .i32 t4), (Value.int .i32 t5)])))) ∧ ((cs = cs) ∧ ((l = l) ∧ ([(Value.int .i32 t0), (Value.int .i32 t1), (Value.int .i32 t2), (Value.int .i32 t3), (Value.int .i32 t4), (Value.int .i32 t5)] = [(Value.int .i32 t0), (Value.int .i32 t1), (Value.int .i32 t2), (Value.int .i32 t3), (Value.int .i32 t4), (Value.int .i32 t5)])))) && true) && ((isB ((l ≤ 1048576) ∧ ([(Value.int .i32 t0), (Value.int .i32 t1), (Value.int .i32 t2), (Value.int .i32 t3), (Value.int .i32 t4), (Value.int .i32 t5)] = [(Value.int .i32 t0), (Value.int .i32 t1), (Value.int .i32 t2), (Value.int .i32 t3), (Value.int .i32 t4), (Value.int .i32 t5)])) && true) && (isB ([(Value.agg #[(Value.float .f32 (Int.toNat (y0 0))), (Value.float .f32 (Int.toNat (y0 (0 + 1)))), (Value.float .f32 (Int.toNat (y0 (0 + 1 + 1)))), (Value.float .f32 (Int.toNat (y0 (0 + 1 + 1 + 1)))), (Value.float .f32 (Int.toNat (y0 (0 + 1 + 1 + 1 + 1)))), (Value.float .f32 (Int.toNat (y0 (0 + 1 + 1 + 1 + 1 + 1)))), (Value.float .f32 (Int.toNat (y0 (0 + 1 + 1 + 1 + 1 + 1 + 1)))), (Value.float .f32 (Int.toNat (y0 (0 + 1 + 1 + 1 + 1 + 1 + 1 + 1)))), (Value.float .f32 (Int.toNat (y0 (0 + 1 + 1 + 1 + 1 + 1 + 1 + 1 + 1)))), (Value.float .f32 (Int.toNat (y0 (0 + 1 + 1 + 1 + 1 + 1 + 1 + 1 + 1 + 1)))), (Value.float .f32 (Int.toNat (y0 (0 + 1 + 1 + 1 + 1 + 1 + 1 + 1 + 1 + 1 + 1)))), (Value.float .f32 (Int.toNat (y0 (0 + 1 + 1 + 1 + 1 + 1 + 1 + 1 + 1 + 1 + 1 + 1)))), (Value.float .f32 (Int.toNat (y0 (0 + 1 + 1 + 1 + 1 + 1 + 1 + 1 + 1 + 1 + 1 + 1 + 1)))), (Value.float .f32 (Int.toNat (y0 (0 + 1 + 1 + 1 + 1 + 1 + 1 + 1 + 1 + 1 + 1 + 1 + 1 + 1)))), (Value.float .f32 (Int.toNat (y0 (0 + 1 + 1 + 1 + 1 + 1 + 1 + 1 + 1 + 1 + 1 + 1 + 1 + 1 + 1)))), (Value.float .f32 (Int.toNat (y0 (0 + 1 + 1 + 1 + 1 + 1 + 1 + 1 + 1 + 1 + 1 + 1 + 1 + 1 + 1 + 1))))]), (Value.agg #[(Value.float .f32 (Int.toNat (y0 0))), (Value.float .f32 (Int.toNat (y0 (0 + 1)))), (Value.float .f32 (Int.toNat (y0 (0 + 1 + 1)))), (Value.float .f32 (Int.toNat (y0 (0 + 1 + 1 + 1)))), (Value.float .f32 (Int.toNat (y0 (0 + 1 + 1 + 1 + 1)))), (Value.float .f32 (Int.toNat (y0 (0 + 1 + 1 + 1 + 1 + 1)))), (Value.float .f32 (Int.toNat (y0 (0 + 1 + 1 + 1 + 1 + 1 + 1)))), (Value.float .f32 (Int.toNat (y0 (0 + 1 + 1 + 1 + 1 + 1 + 1 + 1)))), (Value.float .f32 (Int.toNat (y0 (0 + 1 + 1 + 1 + 1 + 1 + 1 + 1 + 1)))), (Value.float .f32 (Int.toNat (y0 (0 + 1 + 1 + 1 + 1 + 1 + 1 + 1 + 1 + 1)))), (Value.float .f32 (Int.toNat (y0 (0 + 1 + 1 + 1 + 1 + 1 + 1 + 1 + 1 + 1 + 1)))), (Value.float .f32 (Int.toNat (y0 (0 + 1 + 1 + 1 + 1 + 1 + 1 + 1 + 1 + 1 + 1 + 1)))), (Value.float .f32 (Int.toNat (y0 (0 + 1 + 1 + 1 + 1 + 1 + 1 + 1 + 1 + 1 + 1 + 1 + 1)))), (Value.float .f32 (Int.toNat (y0 (0 + 1 + 1 + 1 + 1 + 1 + 1 + 1 + 1 + 1 + 1 + 1 + 1 + 1)))), (Value.float .f32 (Int.toNat (y0 (0 + 1 + 1 + 1 + 1 + 1 + 1 + 1 + 1 + 1 + 1 + 1 + 1 + 1 + 1)))), (Value.float .f32 (Int.toNat (y0 (0 + 1 + 1 + 1 + 1 + 1 + 1 + 1 + 1 + 1 + 1 + 1 + 1 + 1 + 1 + 1))))])] = [(Value.agg #[(Value.float .f32 (Int.toNat (y0 0))), (Value.float .f32 (Int.toNat (y0 (0 + 1)))), (Value.float .f32 (Int.toNat (y0 (0 + 1 + 1)))), (Value.float .f32 (Int.toNat (y0 (0 + 1 + 1 + 1)))), (Value.float .f32 (Int.toNat (y0 (0 + 1 + 1 + 1 + 1)))), (Value.float .f32 (Int.toNat (y0 (0 + 1 + 1 + 1 + 1 + 1)))), (Value.float .f32 (Int.toNat (y0 (0 + 1 + 1 + 1 + 1 + 1 + 1)))), (Value.float .f32 (Int.toNat (y0 (0 + 1 + 1 + 1 + 1 + 1 + 1 + 1)))), (Value.float .f32 (Int.toNat (y0 (0 + 1 + 1 + 1 + 1 + 1 + 1 + 1 + 1)))), (Value.float .f32 (Int.toNat (y0 (0 + 1 + 1 + 1 + 1 + 1 + 1 + 1 + 1 + 1)))), (Value.float .f32 (Int.toNat (y0 (0 + 1 + 1 + 1 + 1 + 1 + 1 + 1 + 1 + 1 + 1)))), (Value.float .f32 (Int.toNat (y0 (0 + 1 + 1 + 1 + 1 + 1 + 1 + 1 + 1 + 1 + 1 + 1)))), (Value.float .f32 (Int.toNat (y0 (0 + 1 + 1 + 1 + 1 + 1 + 1 + 1 + 1 + 1 + 1 + 1 + 1)))), (Value.float .f32 (Int.toNat (y0 (0 + 1 + 1 + 1 + 1 + 1 + 1 + 1 + 1 + 1 + 1 + 1 + 1 + 1)))), (Value.float .f32 (Int.toNat (y0 (0 + 1 + 1 + 1 + 1 + 1 + 1 + 1 + 1 + 1 + 1 + 1 + 1 + 1 + 1)))), (Value.float .f32 (Int.toNat (y0 (0 + 1 + 1 + 1 + 1 + 1 + 1 + 1 + 1 + 1 + 1 + 1 + 1 + 1 + 1 + 1))))]), (Value.agg #[(Value.float .f32 (Int.toNat (y0 0))), (Value.float .f32 (Int.toNat (y0 (0 + 1)))), (Value.float .f32 (Int.toNat (y0 (0 + 1 + 1)))), (Value.float .f32 (Int.toNat (y0 (0 + 1 + 1 + 1)))), (Value.float .f32 (Int.toNat (y0 (0 + 1 + 1 + 1 + 1)))), (Value.float .f32 (Int.toNat (y0 (0 + 1 + 1 + 1 + 1 + 1)))), (Value.float .f32 (Int.toNat (y0 (0 + 1 + 1 + 1 + 1 + 1 + 1)))), (Value.float .f32 (Int.toNat (y0 (0 + 1 + 1 + 1 + 1 + 1 + 1 + 1)))), (Value.float .f32 (Int.toNat (y0 (0 + 1 + 1 + 1 + 1 + 1 + 1 + 1 + 1)))), (Value.float .f32 (Int.toNat (y0 (0 + 1 + 1 + 1 + 1 + 1 + 1 + 1 + 1 + 1)))), (Value.float .f32 (Int.toNat (y0 (0 + 1 + 1 + 1 + 1 + 1 + 1 + 1 + 1 + 1 + 1)))), (Value.float .f32 (Int.toNat (y0 (0 + 1 + 1 + 1 + 1 + 1 + 1 + 1 + 1 + 1 + 1 + 1)))), (Value.float .f32 (Int.toNat (y0 (0 + 1 + 1 + 1 + 1 + 1 + 1 + 1 + 1 + 1 + 1 + 1 + 1)))), (Value.float .f32 (Int.toNat (y0 (0 + 1 + 1 + 1 + 1 + 1 + 1 + 1 + 1 + 1 + 1 + 1 + 1 + 1)))), (Value.float .f32 (Int.toNat (y0 (0 + 1 + 1 + 1 + 1 + 1 + 1 + 1 + 1 + 1 + 1 + 1 + 1 + 1 + 1)))), (Value.float .f32 (Int.toNat (y0 (0 + 1 + 1 + 1 + 1 + 1 + 1 + 1 + 1 + 1 + 1 + 1 + 1 + 1 + 1 + 1))))])]) && ((isB ((cs = cs) ∧ ((l = l) ∧ (([(Value.int .i32 t0), (Value.int .i32 t1), (Value.int .i32 t2), (Value.int .i32 t3), (Value.int .i32 t4), (Value.int .i32 t5)] = [(Value.int .i32 t0), (Value.int .i32 t1), (Value.int .i32 t2), (Value.int .i32 t3), (Value.int .i32 t4), (Value.int .i32 t5)]) ∧ ([(Value.agg #[(Value.int .i16 (x0 0)), (Value.int .i16 (x0 1)), (Value.int .i16 (x0 2)), (Value.int .i16 (x0 3)), (Value.int .i16 (x0 4)), (Value.int .i16 (x0 5))])] = [(Value.agg #[(Value.int .i16 (x0 0)), (Value.int .i16 (x0 1)), (Value.int .i16 (x0 2)), (Value.int .i16 (x0 3)), (Value.int .i16 (x0 4)), (Value.int .i16 (x0 5))])])))) && true) && (isB ([(Value.agg #[(Value.int .i16 (x0 0)), (Value.int .i16 (x0 1)), (Value.int .i16 (x0 2)), (Value.int .i16 (x0 3)), (Value.int .i16 (x0 4)), (Value.int .i16 (x0 5))])] = [(Value.agg #[(Value.int .i16 (x0 0)), (Value.int .i16 (x0 1)), (Value.int .i16 (x0 2)), (Value.int .i16 (x0 3)), (Value.int .i16 (x0 4)), (Value.int .i16 (x0 5))])]) && (isB ((l ≤ 1048576) ∧ ([(Value.int .i32 t0), (Value.int .i32 t1), (Value.int .i32 t2), (Value.int .i32 t3), (Value.int .i32 t4), (Value.int .i32 t5)] = [(Value.int .i32 t0), (Value.int .i32 t1), (Value.int .i32 t2), (Value.int .i32 t3), (Value.int .i32 t4), (Value.int .i32 t5)])) && ((isB ((cs = cs) ∧ ((l = l) ∧ (([(Value.int .i32 t0), (Value.int .i32 t1), (Value.int .i32 t2), (Value.int .i32 t3), (Value.int .i32 t4), (Value.int .i32 t5)] = [(Value.int .i32 t0), (Value.int .i32 t1), (Value.int .i32 t2), (Value.int .i32 t3), (Value.int .i32 t4), (Value.int .i32 t5)]) ∧ ([(Value.agg #[(Value.int .i16 (x0 0)), (Value.int .i16 (x0 1)), (Value.int .i16 (x0 2)), (Value.int .i16 (x0 3)), (Value.int .i16 (x0 4)), (Value.int .i16 (x0 5))])] = [(Value.agg #[(Value.int .i16 (x0 0)), (Value.int .i16 (x0 1)), (Value.int .i16 (x0 2)), (Value.int .i16 (x0 3)), (Value.int .i16 (x0 4)), (Value.int .i16 (x0 5))])])))) && true) && (isB ([(Value.agg #[(Value.int .i16 (x0 0)), (Value.int .i16 (x0 1)), (Value.int .i16 (x0 2)), (Value.int .i16 (x0 3)), (Value.int .i16 (x0 4)), (Value.int .i16 (x0 5))])] = [(Value.agg #[(Value.int .i16 (x0 0)), (Value.int .i16 (x0 1)), (Value.int .i16 (x0 2)), (Value.int .i16 (x0 3)), (Value.int .i16 (x0 4)), (Value.int .i16 (x0 5))])]) && ((isB ((l ≤ 1048576) ∧ ([(Value.int .i32 t0), (Value.int .i32 t1), (Value.int .i32 t2), (Value.int .i32 t3), (Value.int .i32 t4), (Value.int .i32 t5)] = [(Value.int .i32 t0), (Value.int .i32 t1), (Value.int .i32 t2), (Value.int .i32 t3), (Value.int .i32 t4), (Value.int .i32 t5)])) && true) && (isB ((SzOk z l cs) ∧ ([(Value.int .i32 t0), (Value.int .i32 t1), (Value.int .i32 t2), (Value.int .i32 t3), (Value.int .i32 t4), (Value.int .i32 t5)] = [(Value.int .i32 t0), (Value.int .i32 t1), (Value.int .i32 t2), (Value.int .i32 t3), (Value.int .i32 t4), (Value.int .i32 t5)])) && true))))))))))))))) := by kernel_rfl
theorem bodyE : Try.f6.body = some lawC := by kernel_rfl
theorem codeE : codeOk lawC = true := by kernel_rfl
theorem pl0 (x0 : Nat → Int) : PlainAns 21 (List.replicate 1 (.agg (cellsK (List.replicate 6 (.i .i16)) 0 x0).toArray)) (.agg (cellsK (List.replicate 6 (.i .i16)) 0 x0).toArray) := plain_row (ks := (List.replicate 6 (.i .i16))) (us := [21]) (cf := 200) (d := 10) (t := (.agg (svR (List.replicate 6 (.i .i16)) 0))) rfl (by kernel_rfl) (by kernel_rfl) (cellsK_shape rfl) (fun g h => by simp only [conc, concL_map]; rw [h]) (by kernel_rfl)
theorem pl1 (y0 : Nat → Int) : PlainAns 28 (List.replicate 2 (.agg (cellsK (List.replicate 16 (.f .f32)) 0 y0).toArray)) (.bool true) := plain_row (ks := (List.replicate 16 (.f .f32))) (us := [28]) (cf := 200) (d := 10) (t := (.lit (.bool true))) rfl (by kernel_rfl) (by kernel_rfl) (cellsK_shape rfl) (fun g h => by simp only [conc]) rfl
theorem walk {w : World} {v : Value} {us' : List Value} {l : Nat} {cs : List Value} {t0 t1 t2 t3 t4 t5 : Int} (x0 : (Nat → Int)) (hv : RowIn w v l cs) (hl : l ≤ 9223372036854775807) (hf : fitK ak (xs x0) = true) (hb : rowsB pigK l cs = true) (hw : cs.all wfC = true) (htw : (tins t0 t1 t2 t3 t4 t5).all wfC = true) (hu : @VRL noFrn (fun _ => none) (xs x0) us') :
    Calls Try.prog 6 (shelf v (tins t0 t1 t2 t3 t4 t5) :: us').toArray w fun e w' => e = .returned (.bool true) ∧ Below w.heap.size w w' := by
  obtain ⟨y0, y1, hs, hi⟩ := same x0 hf hb hw htw
  refine law_go Try.func6 bodyE codeE (L := lawL l cs (tins t0 t1 t2 t3 t4 t5) (szShV l cs) x0 y0 y1) hv (xsB x0) hu (fun base v => allC_cons (ansX_ok (by kernel_rfl) (rowsB_bare (by decide) hb) (xsB x0) (ansB y0 y1) hs) (allC_cons (ansX_ok (by kernel_rfl) (rowsB_bare (by decide) hb) (xsB x0) (ansB y0 y1) hi) (allC_cons (szZ_ok hb hl) (allC_cons (ansTo_ok hb) (allC_cons (ansEq_ok hb) (allC_cons (plCon_ok (by kernel_rfl) (by kernel_rfl) (by kernel_rfl) (pl0 x0)) (allC_cons (plCon_ok (by kernel_rfl) (by kernel_rfl) rfl (pl1 y0)) allC_nil))))))) (allC_cons ansX_stab (allC_cons ansX_stab (allC_cons szZ_stab (allC_cons to_stab (allC_cons eq_stab (allC_cons plCon_stab (allC_cons plCon_stab allC_nil))))))) fun base v => ?_
  rw [ev base l v cs t0 t1 t2 t3 t4 t5 (szShV l cs) x0 y0 y1]
  by_cases hn : szShV l cs < 0
  · simp [hn, isB_true, szOk]
  have hl2 : l ≤ 1048576 := szShV_le (cs := cs) hl (by omega)
  simp [hn, isB_true, szOk, hl2]
set_option maxRecDepth 100000 in
theorem lifted (os : Os) (started : os.Started) (H : Type) (enc : TypeId × Value → H) :
    ReturnsInHanded {} Try.checked os 6 .any (Rows.fnExactPaintOfSpec.pre6 enc Try.prog Try.f6 Rows.fnExactPaintOfRow.domain false) (Rows.fnExactPaintOfSpec.post enc Try.prog Try.f6 false true false false) := by
  refine returnsInHanded_of_change (C := Try.checked) own started (by kernel_rfl) Try.func6
    (ChangeSpec.witness6 (enc := enc) (C := Try.checked) false ⟨#[], #[shelf (.slice none 0 0) (tins 0 0 0 0 0 0), .agg #[.int .i16 0, .int .i16 0, .int .i16 0, .int .i16 0, .int .i16 0, .int .i16 0]], []⟩ 8 (by kernel_rfl) (by kernel_rfl) (by kernel_rfl) (by kernel_rfl)) ?_
  intro W base args ds gs before hval0 hW hcnd _
  have hval : ∀ (j : Nat) t v, Try.f6.params[j]? = some t → args[j]? = some v → Value.okWide Try.prog W .any base t v := hval0
  have hW' := hW
  obtain ⟨p, q, hA0, hV, rfl, hfz, hnd⟩ := hW
  have hA : DataW.TrodAll enc Try.prog W 0 (fun _ => true) true Try.f6.params.toList args.toList ds p := hA0
  rw [Try.params6] at hA hval
  obtain ⟨v0, vs0, d0, ds0, p0, q0, hargs, rfl, rfl, h0, r0⟩ := trodAll_cons hA
  obtain ⟨v1, vs1, d1, ds1, p1, q1, rfl, rfl, rfl, h1, r1⟩ := trodAll_cons r0
  obtain ⟨rfl, rfl, rfl⟩ := trodAll_nil r1
  obtain rfl : args = #[v0, v1] := by cases args; simp_all
  obtain ⟨rfl, rfl⟩ := trodVars_none hV
  have lt0 : ∀ x ∈ p0, x.block < W.heap.size := by obtain ⟨m, hm⟩ := h0; exact DataW.trod_lt m _ _ _ hm
  have lt1 : ∀ x ∈ p1, x.block < W.heap.size := by obtain ⟨m, hm⟩ := h1; exact DataW.trod_lt m _ _ _ hm
  obtain ⟨u, l, cs, t0, t1, t2, t3, t4, t5, rfl, q1, q2, q3, q4, q5⟩ := open_law (hval 0 25 v0 rfl rfl) h0
  obtain ⟨x0, g0, k0⟩ := open_row (ks := (List.replicate 6 (.i .i16))) rfl (by kernel_rfl) (by kernel_rfl) (hval 1 35 v1 rfl rfl) h1
  clear hA0 hval0
  have hff : fitK ak (xs x0) = true := (by show ((AK.fit _ _ && true)) = true; rw [k0]; rfl)
  refine (walk x0 q1 q3 hff q2 q4 q5 (vrl_one g0 (@VRL.nil noFrn _))).mono fun e W' ⟨he, bel⟩ => ?_
  subst he
  exact ⟨_, rfl, _, _, _, [], _, [], hW', trodAll_mk1 (shut_bool Try.underlying4 _), (trodAll_cons_mk (Below.trod laidOut (by kernel_rfl) (of_decide_eq_true (by kernel_rfl)) h0 bel lt0) (trodAll_cons_mk (Below.trod laidOut (by kernel_rfl) (of_decide_eq_true (by kernel_rfl)) h1 bel lt1) trodAll_mk0)), rfl, bel.frame _, fun h => by cases h⟩
theorem over : Rows.fnExactPaintOfRow.holds Try.pinned (OpenSpec.ofChange Rows.fnExactPaintOfSpec) :=
  OpenClaim.holds_of_wide 6 Try.f6 rfl rfl rfl rfl rfl rfl rfl ⟨rfl, rfl, rfl, rfl, rfl⟩ rfl rfl rfl rfl rfl (by kernel_rfl) Try.func6 (by kernel_rfl)
    (of_decide_eq_true (by kernel_rfl)) (by unfold Func.isWrapper; first | (rw [if_pos (by decide +kernel)]; kernel_rfl) | (rw [if_neg (by decide +kernel)]; exact ⟨rfl, rfl⟩))
    (fun os started H enc _ => lifted os started H enc)

/-- The given statement. -/
theorem proved : Rows.FnExactPaintOfSaid := over
end Go.Proofs.Ytigpiogljfedpaa.fnExactPaintOf
end

