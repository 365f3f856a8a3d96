/-
  FnExactValidDrops: program and model answer the same to every shelf. No condition.
-/
import Derived.Test.YtigpiogljfedpaaGc
import Derived.Test.YtigpiogljfedpaaEp
import Derived.Test.YtigpiogljfedpaaRows
set_option linter.unusedSectionVars false
set_option linter.unusedVariables false
set_option linter.unusedSimpArgs false
noncomputable section
namespace Go.Proofs.Ytigpiogljfedpaa.fnExactValidDrops
open Go Go.ChangeShapes Go.WideShapes Go.ChangeAt Go.RowKit Go.Deep Ev Sx

def ak : List AK := [.row (List.replicate 6 (.i .i16))]
def ps : List Par := [.one .b]
abbrev xs (x0 : (Nat → Int)) : List Value := [.agg (cellsK (List.replicate 6 (.i .i16)) 0 x0).toArray]
abbrev ans (y0 : Bool) : Value := .bool y0
def us : List Nat := [20, 22, 59, 60, 61, 98, 115, 116, 117, 72, 119, 145]
def usF : List Nat := [20, 22, 59]
def ds : List Nat := [98, 60, 61]
def lawL (l : Nat) (cs ts : List Value) (z : Int) (x0 : (Nat → Int)) (y0 : Bool) : List (Nat × ConT) := [(20, ansX l cs ts (xs x0) (ans y0)), (22, ansX l cs ts (xs x0) (ans y0)), (15, szZ l cs ts z), (17, ansTo l cs ts), (19, ansEq l cs ts), (21, plCon [.agg (cellsK (List.replicate 6 (.i .i16)) 0 x0).toArray] (.agg (cellsK (List.replicate 6 (.i .i16)) 0 x0).toArray))]
noncomputable def lawC : Code := (Try.f4.body.getD .skip)
theorem sF (base l : Nat) (v : Value) (cs : List Value) (t0 t1 t2 t3 t4 t5 : Int) (x0 : (Nat → Int)) : ∃ h', (@funD (frnOf base (tk1 v l cs) (conW ds l (tins t0 t1 t2 t3 t4 t5) false)) Try.prog noOrc noOrc usF 100 12 20 (shelf (tok 0 l 0) (tins t0 t1 t2 t3 t4 t5) :: xs x0) []) = some (ans false, h', true) :=
  of_era (show (@funD (frnOf base (tk1 v l cs) (conW ds l (tins t0 t1 t2 t3 t4 t5) false)) Try.prog noOrc noOrc usF 100 12 20 (shelf (tok 0 l 0) (tins t0 t1 t2 t3 t4 t5) :: xs x0) []).map eraseH = some (ans false, [], ((isB ([(Value.slice (some ⟨0, 0, (some 0)⟩) l 0), (Value.int .i32 t0), (Value.int .i32 t1), (Value.int .i32 t2), (Value.int .i32 t3), (Value.int .i32 t4), (Value.int .i32 t5)] = [(Value.slice (some ⟨0, 0, (some 0)⟩) l 0), (Value.int .i32 t0), (Value.int .i32 t1), (Value.int .i32 t2), (Value.int .i32 t3), (Value.int .i32 t4), (Value.int .i32 t5)]) && true) && true)) by kernel_rfl) (by simp [isB_true])
theorem iF (base l : Nat) (v : Value) (cs : List Value) (t0 t1 t2 t3 t4 t5 : Int) (x0 : (Nat → Int)) : ∃ h', (@funD (frnOf base (tk1 v l cs) (conW ds l (tins t0 t1 t2 t3 t4 t5) false)) Try.prog noOrc noOrc usF 100 12 22 (shelf (tok 0 l 0) (tins t0 t1 t2 t3 t4 t5) :: xs x0) []) = some (ans false, h', true) :=
  of_era (show (@funD (frnOf base (tk1 v l cs) (conW ds l (tins t0 t1 t2 t3 t4 t5) false)) Try.prog noOrc noOrc usF 100 12 22 (shelf (tok 0 l 0) (tins t0 t1 t2 t3 t4 t5) :: xs x0) []).map eraseH = some (ans false, [], (isB ((l = l) ∧ ([(Value.int .i32 t0), (Value.int .i32 t1), (Value.int .i32 t2), (Value.int .i32 t3), (Value.int .i32 t4), (Value.int .i32 t5)] = [(Value.int .i32 t0), (Value.int .i32 t1), (Value.int .i32 t2), (Value.int .i32 t3), (Value.int .i32 t4), (Value.int .i32 t5)])) && true)) by kernel_rfl) (by simp [isB_true])
theorem xsB (x0 : (Nat → Int)) : (xs x0).all bareP = true := by kernel_rfl
theorem ansB (y0 : Bool) : bareP (ans y0) = true := by kernel_rfl
def go (n : Nat) : Bool := gRun ak [] symV us 300 30 [] ⟨20, .agg (gSh ak n) :: gArgs ak n, []⟩ ⟨22, .agg (gSh ak n) :: gArgs ak n, []⟩ ps n
theorem go1 : go 1 = true := by kernel_rfl
theorem go2 : go 2 = true := by kernel_rfl
theorem go3 : go 3 = true := by kernel_rfl
theorem go4 : go 4 = true := by kernel_rfl
theorem go5 : go 5 = true := by kernel_rfl
theorem go6 : go 6 = true := by kernel_rfl
theorem goes {n : Nat} (h1 : 1 ≤ n) (h6 : n ≤ 6) : go n = true := by
  match n, h1, h6 with
  | 1, _, _ => exact go1
  | 2, _, _ => exact go2
  | 3, _, _ => exact go3
  | 4, _, _ => exact go4
  | 5, _, _ => exact go5
  | 6, _, _ => exact go6
theorem usOk : us.all (funcOk Try.prog) = true := by kernel_rfl
theorem usFOk : usF.all (funcOk Try.prog) = true := by kernel_rfl
theorem partT {l : Nat} {cs : List Value} {t0 t1 t2 t3 t4 t5 : Int} (x0 : (Nat → Int)) (hf : fitK ak (xs x0) = true) (hb : rowsB pigK l cs = true) (hw : cs.all wfC = true) (htw : (tins t0 t1 t2 t3 t4 t5).all wfC = true) (h1 : 1 ≤ l) (h6 : l ≤ 6) (A2 : AnsB 18 l cs t0 t1 t2 t3 t4 t5 true) (A3 : AnsP l cs t0 t1 t2 t3 t4 t5 true) :
    ∃ (y0 : Bool), (∀ base v, ∃ h', @funD (frnOf base (tk1 v l cs) (conV l (tins t0 t1 t2 t3 t4 t5) true)) Try.prog (fun f => seek f []) (fun f => seek f orcV) us 300 30 20 (shelf (tok 0 l 0) (tins t0 t1 t2 t3 t4 t5) :: xs x0) [] = some (ans y0, h', true)) ∧ AnsG 20 l cs (tins t0 t1 t2 t3 t4 t5) (xs x0) (ans y0) ∧ AnsG 22 l cs (tins t0 t1 t2 t3 t4 t5) (xs x0) (ans y0) := by
  obtain ⟨hbox, V, hV, hgo⟩ := g_run (xs := xs x0) (fun _ _ => .i 0) (goes h1 h6) (exte := fun f => seek f []) (orce := fun f => seek f orcV) (fun F ρ hB => ListR.nil) (fun F ρ hB => symVR F ρ hB) hb hw htw trivial
  have ha := one_of hV
  obtain ⟨y0, rfl⟩ := bool_of ha
  have hS : ∀ base v, ∃ h', @funD (frnOf base (tk1 v l cs) (conV l (tins t0 t1 t2 t3 t4 t5) true)) Try.prog (fun f => seek f []) (fun f => seek f orcV) us 300 30 20 (shelf (tok 0 l 0) (tins t0 t1 t2 t3 t4 t5) :: xs x0) [] = some (ans y0, h', true) := fun base v => by
    obtain ⟨⟨h', e, _⟩, _⟩ := hgo base v
    dsimp only at e
    rw [job_args hb htw hf] at e
    exact ⟨h', e⟩
  refine ⟨y0, hS, ansG_D (cf := 300) (d := 30) usOk (fun ι => noX) orcV_any (fun base v => conV_ok hb A2 A3) (xsB x0) (ansB y0) hS, ?_⟩
  refine ansG_D (cf := 300) (d := 30) usOk (fun ι => noX) orcV_any (fun base v => conV_ok hb A2 A3) (xsB x0) (ansB y0) (fun base v => ?_)
  obtain ⟨_, ⟨h', e, _⟩⟩ := hgo base v
  dsimp only at e
  rw [job_args hb htw hf] at e
  exact ⟨h', e⟩
theorem same {l : Nat} {cs : List Value} {t0 t1 t2 t3 t4 t5 : Int} (x0 : (Nat → Int)) (hf : fitK ak (xs x0) = true) (hb : rowsB pigK l cs = true) (hw : cs.all wfC = true) (htw : (tins t0 t1 t2 t3 t4 t5).all wfC = true) :
    ∃ (y0 : Bool), AnsG 20 l cs (tins t0 t1 t2 t3 t4 t5) (xs x0) (ans y0) ∧ AnsG 22 l cs (tins t0 t1 t2 t3 t4 t5) (xs x0) (ans y0) := by
  obtain ⟨b, hr, _, A2, A3⟩ := shelf_same hb hw htw
  cases b with
  | false =>
    refine ⟨false, ansG_D usFOk (fun ι => @noExt ι _) (fun ι => noOO) (fun base v => conW_ok (by kernel_rfl) hb A2 A3) (xsB x0) (ansB false) fun base v => sF base l v cs t0 t1 t2 t3 t4 t5 x0, ?_⟩
    exact ansG_D usFOk (fun ι => @noExt ι _) (fun ι => noOO) (fun base v => conW_ok (by kernel_rfl) hb A2 A3) (xsB x0) (ansB false) fun base v => iF base l v cs t0 t1 t2 t3 t4 t5 x0
  | true =>
    obtain ⟨h1, h6⟩ := hr rfl
    obtain ⟨y0, _, p1, p2⟩ := partT x0 hf hb hw htw h1 h6 A2 A3
    exact ⟨y0, p1, p2⟩
theorem ev (base l : Nat) (v : Value) (cs : List Value) (t0 t1 t2 t3 t4 t5 : Int) (z : Int) (x0 : (Nat → Int)) (y0 : Bool) : (@codeK (frnOf base (tk1 v l cs) (seekC (lawL l cs (tins t0 t1 t2 t3 t4 t5) z x0 y0))) (@ETl (frnOf base (tk1 v l cs) (seekC (lawL l cs (tins t0 t1 t2 t3 t4 t5) z x0 y0)))) 60 lawC (startS Try.f4 (shelf (tok 0 l 0) (tins t0 t1 t2 t3 t4 t5) :: xs x0) []) (fun e s => (@finK (frnOf base (tk1 v l cs) (seekC (lawL l cs (tins t0 t1 t2 t3 t4 t5) z x0 y0))) Try.prog Try.f4 e s).map eraseH)) =
    (bif decide (z < 0) then (some ((Value.bool true), ([], (isB ((SzOk z l cs) ∧ ([(Value.int .i32 t0), (Value.int .i32 t1), (Value.int .i32 t2), (Value.int .i32 t3), (Value.int .i32 t4), (Value.int .i32 t5)] = [(Value.int .i32 t0), (Value.int .i32 t1), (Value.int .i32 t2), (Value.int .i32 t3), (Value.int .i32 t4), (Value.int .i32 t5)])) && true)))) else (bif (!decide (y0 = y0)) then (some ((Value.bool false), ([], ((isB ((cs = cs) ∧ ((l = l) ∧ (([(Value.int .i32 t0), (Value.int .i32 t1), (Value.int .i32 t2), (Value.int .i32 t3), (Value.int .i32 t4), (Value.int .i32 t5)] = [(Value.int .i32 t0), (Value.int .i32 t1), (Value.int .i32 t2), (Value.int .i32 t3), (Value.int .i32 t4), (Value.int .i32 t5)]) ∧ ([(Value.agg #[(Value.int .i16 (x0 0)), (Value.int .i16 (x0 1)), (Value.int .i16 (x0 2)), (Value.int .i16 (x0 3)), (Value.int .i16 (x0 4)), (Value.int .i16 (x0 5))])] = [(Value.agg #[(Value.int .i16 (x0 0)), (Value.int .i16 (x0 1)), (Value.int .i16 (x0 2)), (Value.int .i16 (x0 3)), (Value.int .i16 (x0 4)), (Value.int .i16 (x0 5))])])))) && true) && (isB ([(Value.agg #[(Value.int .i16 (x0 0)), (Value.int .i16 (x0 1)), (Value.int .i16 (x0 2)), (Value.int .i16 (x0 3)), (Value.int .i16 (x0 4)), (Value.int .i16 (x0 5))])] = [(Value.agg #[(Value.int .i16 (x0 0)), (Value.int .i16 (x0 1)), (Value.int .i16 (x0 2)), (Value.int .i16 (x0 3)), (Value.int .i16 (x0 4)), (Value.int .i16 (x0 5))])]) && (isB ((l ≤ 1048576) ∧ ([(Value.int .i32 t0), (Value.int .i32 t1), (Value.int .i32 t2), (Value.int .i32 t3), (Value.int .i32 t4), (Value.int .i32 t5)] = [(Value.int .i32 t0), (Value.int .i32 t1), (Value.int .i32 t2), (Value.int .i32 t3), (Value.int .i32 t4), (Value.int .i32 t5)])) && ((isB ((cs = cs) ∧ ((l = l) ∧ (([(Value.int .i32 t0), (Value.int .i32 t1), (Value.int .i32 t2), (Value.int .i32 t3), (Value.int .i32 t4), (Value.int .i32 t5)] = [(Value.int .i32 t0), (Value.int .i32 t1), (Value.int .i32 t2), (Value.int .i32 t3), (Value.int .i32 t4), (Value.int .i32 t5)]) ∧ ([(Value.agg #[(Value.int .i16 (x0 0)), (Value.int .i16 (x0 1)), (Value.int .i16 (x0 2)), (Value.int .i16 (x0 3)), (Value.int .i16 (x0 4)), (Value.int .i16 (x0 5))])] = [(Value.agg #[(Value.int .i16 (x0 0)), (Value.int .i16 (x0 1)), (Value.int .i16 (x0 2)), (Value.int .i16 (x0 3)), (Value.int .i16 (x0 4)), (Value.int .i16 (x0 5))])])))) && true) && (isB ([(Value.agg #[(Value.int .i16 (x0 0)), (Value.int .i16 (x0 1)), (Value.int .i16 (x0 2)), (Value.int .i16 (x0 3)), (Value.int .i16 (x0 4)), (Value.int .i16 (x0 5))])] = [(Value.agg #[(Value.int .i16 (x0 0)), (Value.int .i16 (x0 1)), (Value.int .i16 (x0 2)), (Value.int .i16 (x0 3)), (Value.int .i16 (x0 4)), (Value.int .i16 (x0 5))])]) && ((isB ((l ≤ 1048576) ∧ ([(Value.int .i32 t0), (Value.int .i32 t1), (Value.int .i32 t2), (Value.int .i32 t3), (Value.int .i32 t4), (Value.int .i32 t5)] = [(Value.int .i32 t0), (Value.int .i32 t1), (Value.int .i32 t2), (Value.int .i32 t3), (Value.int .i32 t4), (Value.int .i32 t5)])) && true) && (isB ((SzOk z l cs) ∧ ([(Value.int .i32 t0), (Value.int .i32 t1), (Value.int .i32 t2), (Value.int .i32 t3), (Value.int .i32 t4), (Value.int .i32 t5)] = [(Value.int .i32 t0), (Value.int .i32 t1), (Value.int .i32 t2), (Value.int .i32 t3), (Value.int .i32 t4), (Value.int .i32 t5)])) && true)))))))))) else (some ((Value.bool true), ([], ((isB (((l ≤ 1048576) ∧ ((cs = cs) ∧ ((l = l) ∧ ([(Value.int .i32 t0), (Value.int .i32 t1), (Value.int .i32 t2), (Value.int .i32 t3), (Value.int .i32 t4), (Value.int .i32 t5)] = [(Value.int .i32 t0), (Value.int .i32 t1), (Value.int .i32 t2), (Value.int .i32 t3), (Value.int .i32 t4), (Value.int .i32 t5)])))) ∧ ((cs = cs) ∧ ((l = l) ∧ ([(Value.int .i32 t0), (Value.int .i32 t1), (Value.int .i32 t2), (Value.int .i32 t3), (Value.int .i32 t4), (Value.int .i32 t5)] = [(Value.int .i32 t0), (Value.int .i32 t1), (Value.int .i32 t2), (Value.int .i32 t3), (Value.int .i32 t4), (Value.int .i32 t5)])))) && true) && ((isB ((l ≤ 1048576) ∧ ([(Value.int .i32 t0), (Value.int .i32 t1), (Value.int .i32 t2), (Value.int .i32 t3), (Value.int .i32 t4), (Value.int .i32 t5)] = [(Value.int .i32 t0), (Value.int .i32 t1), (Value.int .i32 t2), (Value.int .i32 t3), (Value.int .i32 t4), (Value.int .i32 t5)])) && true) && ((isB ((cs = cs) ∧ ((l = l) ∧ (([(Value.int .i32 t0), (Value.int .i32 t1), (Value.int .i32 t2), (Value.int .i32 t3), (Value.int .i32 t4), (Value.int .i32 t5)] = [(Value.int .i32 t0), (Value.int .i32 t1), (Value.int .i32 t2), (Value.int .i32 t3), (Value.int .i32 t4), (Value.int .i32 t5)]) ∧ ([(Value.agg #[(Value.int .i16 (x0 0)), (Value.int .i16 (x0 1)), (Value.int .i16 (x0 2)), (Value.int .i16 (x0 3)), (Value.int .i16 (x0 4)), (Value.int .i16 (x0 5))])] = [(Value.agg #[(Value.int .i16 (x0 0)), (Value.int .i16 (x0 1)), (Value.int .i16 (x0 2)), (Value.int .i16 (x0 3)), (Value.int .i16 (x0 4)), (Value.int .i16 (x0 5))])])))) && true) && (isB ([(Value.agg #[(Value.int .i16 (x0 0)), (Value.int .i16 (x0 1)), (Value.int .i16 (x0 2)), (Value.int .i16 (x0 3)), (Value.int .i16 (x0 4)), (Value.int .i16 (x0 5))])] = [(Value.agg #[(Value.int .i16 (x0 0)), (Value.int .i16 (x0 1)), (Value.int .i16 (x0 2)), (Value.int .i16 (x0 3)), (Value.int .i16 (x0 4)), (Value.int .i16 (x0 5))])]) && (isB ((l ≤ 1048576) ∧ ([(Value.int .i32 t0), (Value.int .i32 t1), (Value.int .i32 t2), (Value.int .i32 t3), (Value.int .i32 t4), (Value.int .i32 t5)] = [(Value.int .i32 t0), (Value.int .i32 t1), (Value.int .i32 t2), (Value.int .i32 t3), (Value.int .i32 t4), (Value.int .i32 t5)])) && ((isB ((cs = cs) ∧ ((l = l) ∧ (([(Value.int .i32 t0), (Value.int .i32 t1), (Value.int .i32 t2), (Value.int .i32 t3), (Value.int .i32 t4), (Value.int .i32 t5)] = [(Value.int .i32 t0), (Value.int .i32 t1), (Value.int .i32 t2), (Value.int .i32 t3), (Value.int .i32 t4), (Value.int .i32 t5)]) ∧ ([(Value.agg #[(Value.int .i16 (x0 0)), (Value.int .i16 (x0 1)), (Value.int .i16 (x0 2)), (Value.int .i16 (x0 3)), (Value.int .i16 (x0 4)), (Value.int .i16 (x0 5))])] = [(Value.agg #[(Value.int .i16 (x0 0)), (Value.int .i16 (x0 1)), (Value.int .i16 (x0 2)), (Value.int .i16 (x0 3)), (Value.int .i16 (x0 4)), (Value.int .i16 (x0 5))])])))) && true) && (isB ([(Value.agg #[(Value.int .i16 (x0 0)), (Value.int .i16 (x0 1)), (Value.int .i16 (x0 2)), (Value.int .i16 (x0 3)), (Value.int .i16 (x0 4)), (Value.int .i16 (x0 5))])] = [(Value.agg #[(Value.int .i16 (x0 0)), (Value.int .i16 (x0 1)), (Value.int .i16 (x0 2)), (Value.int .i16 (x0 3)), (Value.int .i16 (x0 4)), (Value.int .i16 (x0 5))])]) && ((isB ((l ≤ 1048576) ∧ ([(Value.int .i32 t0), (Value.int .i32 t1), (Value.int .i32 t2), (Value.int .i32 t3), (Value.int .i32 t4), (Value.int .i32 t5)] = [(Value.int .i32 t0), (Value.int .i32 t1), (Value.int .i32 t2), (Value.int .i32 t3), (Value.int .i32 t4), (Value.int .i32 t5)])) && true) && (isB ((SzOk z l cs) ∧ ([(Value.int .i32 t0), (Value.int .i32 t1), (Value.int .i32 t2), (Value.int .i32 t3), (Value.int .i32 t4), (Value.int .i32 t5)] = [(Value.int .i32 t0), (Value.int .i32 t1), (Value.int .i32 t2), (Value.int .i32 t3), (Value.int .i32 t4), (Value.int .i32 t5)])) && true)))))))))))))) := by kernel_rfl
theorem bodyE : Try.f4.body = some lawC := by kernel_rfl
theorem codeE : codeOk lawC = true := by kernel_rfl
theorem pl0 (x0 : Nat → Int) : PlainAns 21 (List.replicate 1 (.agg (cellsK (List.replicate 6 (.i .i16)) 0 x0).toArray)) (.agg (cellsK (List.replicate 6 (.i .i16)) 0 x0).toArray) := plain_row (ks := (List.replicate 6 (.i .i16))) (us := [21]) (cf := 200) (d := 10) (t := (.agg (svR (List.replicate 6 (.i .i16)) 0))) rfl (by kernel_rfl) (by kernel_rfl) (cellsK_shape rfl) (fun g h => by simp only [conc, concL_map]; rw [h]) (by kernel_rfl)
theorem walk {w : World} {v : Value} {us' : List Value} {l : Nat} {cs : List Value} {t0 t1 t2 t3 t4 t5 : Int} (x0 : (Nat → Int)) (hv : RowIn w v l cs) (hl : l ≤ 9223372036854775807) (hf : fitK ak (xs x0) = true) (hb : rowsB pigK l cs = true) (hw : cs.all wfC = true) (htw : (tins t0 t1 t2 t3 t4 t5).all wfC = true) (hu : @VRL noFrn (fun _ => none) (xs x0) us') :
    Calls Try.prog 4 (shelf v (tins t0 t1 t2 t3 t4 t5) :: us').toArray w fun e w' => e = .returned (.bool true) ∧ Below w.heap.size w w' := by
  obtain ⟨y0, hs, hi⟩ := same x0 hf hb hw htw
  refine law_go Try.func4 bodyE codeE (L := lawL l cs (tins t0 t1 t2 t3 t4 t5) (szShV l cs) x0 y0) hv (xsB x0) hu (fun base v => allC_cons (ansX_ok (by kernel_rfl) (rowsB_bare (by decide) hb) (xsB x0) (ansB y0) hs) (allC_cons (ansX_ok (by kernel_rfl) (rowsB_bare (by decide) hb) (xsB x0) (ansB y0) hi) (allC_cons (szZ_ok hb hl) (allC_cons (ansTo_ok hb) (allC_cons (ansEq_ok hb) (allC_cons (plCon_ok (by kernel_rfl) (by kernel_rfl) (by kernel_rfl) (pl0 x0)) allC_nil)))))) (allC_cons ansX_stab (allC_cons ansX_stab (allC_cons szZ_stab (allC_cons to_stab (allC_cons eq_stab (allC_cons plCon_stab allC_nil)))))) fun base v => ?_
  rw [ev base l v cs t0 t1 t2 t3 t4 t5 (szShV l cs) x0 y0]
  by_cases hn : szShV l cs < 0
  · simp [hn, isB_true, szOk]
  have hl2 : l ≤ 1048576 := szShV_le (cs := cs) hl (by omega)
  simp [hn, isB_true, szOk, hl2]
set_option maxRecDepth 100000 in
theorem lifted (os : Os) (started : os.Started) (H : Type) (enc : TypeId × Value → H) :
    ReturnsInHanded {} Try.checked os 4 .any (Rows.fnExactValidDropsSpec.pre6 enc Try.prog Try.f4 Rows.fnExactValidDropsRow.domain false) (Rows.fnExactValidDropsSpec.post enc Try.prog Try.f4 false true false false) := by
  refine returnsInHanded_of_change (C := Try.checked) own started (by kernel_rfl) Try.func4
    (ChangeSpec.witness6 (enc := enc) (C := Try.checked) false ⟨#[], #[shelf (.slice none 0 0) (tins 0 0 0 0 0 0), .agg #[.int .i16 0, .int .i16 0, .int .i16 0, .int .i16 0, .int .i16 0, .int .i16 0]], []⟩ 8 (by kernel_rfl) (by kernel_rfl) (by kernel_rfl) (by kernel_rfl)) ?_
  intro W base args ds gs before hval0 hW hcnd _
  have hval : ∀ (j : Nat) t v, Try.f4.params[j]? = some t → args[j]? = some v → Value.okWide Try.prog W .any base t v := hval0
  have hW' := hW
  obtain ⟨p, q, hA0, hV, rfl, hfz, hnd⟩ := hW
  have hA : DataW.TrodAll enc Try.prog W 0 (fun _ => true) true Try.f4.params.toList args.toList ds p := hA0
  rw [Try.params4] at hA hval
  obtain ⟨v0, vs0, d0, ds0, p0, q0, hargs, rfl, rfl, h0, r0⟩ := trodAll_cons hA
  obtain ⟨v1, vs1, d1, ds1, p1, q1, rfl, rfl, rfl, h1, r1⟩ := trodAll_cons r0
  obtain ⟨rfl, rfl, rfl⟩ := trodAll_nil r1
  obtain rfl : args = #[v0, v1] := by cases args; simp_all
  obtain ⟨rfl, rfl⟩ := trodVars_none hV
  have lt0 : ∀ x ∈ p0, x.block < W.heap.size := by obtain ⟨m, hm⟩ := h0; exact DataW.trod_lt m _ _ _ hm
  have lt1 : ∀ x ∈ p1, x.block < W.heap.size := by obtain ⟨m, hm⟩ := h1; exact DataW.trod_lt m _ _ _ hm
  obtain ⟨u, l, cs, t0, t1, t2, t3, t4, t5, rfl, q1, q2, q3, q4, q5⟩ := open_law (hval 0 25 v0 rfl rfl) h0
  obtain ⟨x0, g0, k0⟩ := open_row (ks := (List.replicate 6 (.i .i16))) rfl (by kernel_rfl) (by kernel_rfl) (hval 1 35 v1 rfl rfl) h1
  clear hA0 hval0
  have hff : fitK ak (xs x0) = true := (by show ((AK.fit _ _ && true)) = true; rw [k0]; rfl)
  refine (walk x0 q1 q3 hff q2 q4 q5 (vrl_one g0 (@VRL.nil noFrn _))).mono fun e W' ⟨he, bel⟩ => ?_
  subst he
  exact ⟨_, rfl, _, _, _, [], _, [], hW', trodAll_mk1 (shut_bool Try.underlying4 _), (trodAll_cons_mk (Below.trod laidOut (by kernel_rfl) (of_decide_eq_true (by kernel_rfl)) h0 bel lt0) (trodAll_cons_mk (Below.trod laidOut (by kernel_rfl) (of_decide_eq_true (by kernel_rfl)) h1 bel lt1) trodAll_mk0)), rfl, bel.frame _, fun h => by cases h⟩
theorem over : Rows.fnExactValidDropsRow.holds Try.pinned (OpenSpec.ofChange Rows.fnExactValidDropsSpec) :=
  OpenClaim.holds_of_wide 4 Try.f4 rfl rfl rfl rfl rfl rfl rfl ⟨rfl, rfl, rfl, rfl, rfl⟩ rfl rfl rfl rfl rfl (by kernel_rfl) Try.func4 (by kernel_rfl)
    (of_decide_eq_true (by kernel_rfl)) (by unfold Func.isWrapper; first | (rw [if_pos (by decide +kernel)]; kernel_rfl) | (rw [if_neg (by decide +kernel)]; exact ⟨rfl, rfl⟩))
    (fun os started H enc _ => lifted os started H enc)

/-- The given statement. -/
theorem proved : Rows.FnExactValidDropsSaid := over
end Go.Proofs.Ytigpiogljfedpaa.fnExactValidDrops
end
