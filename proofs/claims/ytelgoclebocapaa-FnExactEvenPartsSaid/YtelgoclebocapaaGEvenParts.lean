/-
  FnExactEvenParts: program and model answer the same to every shelf. No condition.
-/
import Derived.Test.YtelgoclebocapaaGc
import Derived.Test.YtelgoclebocapaaEp
import Derived.Test.YtelgoclebocapaaRows
set_option linter.unusedSectionVars false
set_option linter.unusedVariables false
set_option linter.unusedSimpArgs false
noncomputable section
namespace Go.Proofs.Ytelgoclebocapaa.fnExactEvenParts
open Go Go.ChangeShapes Go.WideShapes Go.ChangeAt Go.RowKit Go.Deep Ev Sx

def ak : List AK := []
def ps : List Par := [.agg ((List.replicate 6 (.f .f32)).map tyK), .one (.n .i64)]
abbrev xs  : List Value := []
abbrev ans (y0 : (Nat → Int)) (y1 : Int) : Value := .tuple #[.agg (cellsK (List.replicate 6 (.f .f32)) 0 y0).toArray, .int .i64 y1]
def us : List Nat := [43, 44, 85, 86]
def usF : List Nat := [43, 44, 85, 86]
def ds : List Nat := []
def lawL (l : Nat) (cs ts : List Value) (z : Int)  (y0 : (Nat → Int)) (y1 : Int) : List (Nat × ConT) := [(43, ansX l cs ts (xs) (ans y0 y1)), (44, ansX l cs ts (xs) (ans y0 y1)), (18, szZ l cs ts z), (20, ansTo l cs ts), (22, ansEq l cs ts), (32, plCon [.agg (cellsK (List.replicate 6 (.f .f32)) 0 y0).toArray, .agg (cellsK (List.replicate 6 (.f .f32)) 0 y0).toArray] (.bool true))]
noncomputable def lawC : Code := (Try.f13.body.getD .skip)
theorem sF (base l : Nat) (v : Value) (cs : List Value) (t0 t1 t2 t3 t4 t5 : Int)  : ∃ h', (@funD (frnOf base (tk1 v l cs) (conW ds l (tins t0 t1 t2 t3 t4 t5) false)) Try.prog noOrc noOrc usF 100 12 43 (shelf (tok 0 l 0) (tins t0 t1 t2 t3 t4 t5) :: xs) []) = some (ans (fun _ => 0) (1), h', true) :=
  of_era (show (@funD (frnOf base (tk1 v l cs) (conW ds l (tins t0 t1 t2 t3 t4 t5) false)) Try.prog noOrc noOrc usF 100 12 43 (shelf (tok 0 l 0) (tins t0 t1 t2 t3 t4 t5) :: xs) []).map eraseH = some (ans (fun _ => 0) (1), [], (isB ([(Value.slice (some ⟨0, 0, (some 0)⟩) l 0), (Value.int .i32 t0), (Value.int .i32 t1), (Value.int .i32 t2), (Value.int .i32 t3), (Value.int .i32 t4), (Value.int .i32 t5)] = [(Value.slice (some ⟨0, 0, (some 0)⟩) l 0), (Value.int .i32 t0), (Value.int .i32 t1), (Value.int .i32 t2), (Value.int .i32 t3), (Value.int .i32 t4), (Value.int .i32 t5)]) && true)) by kernel_rfl) (by simp [isB_true])
theorem iF (base l : Nat) (v : Value) (cs : List Value) (t0 t1 t2 t3 t4 t5 : Int)  : ∃ h', (@funD (frnOf base (tk1 v l cs) (conW ds l (tins t0 t1 t2 t3 t4 t5) false)) Try.prog noOrc noOrc usF 100 12 44 (shelf (tok 0 l 0) (tins t0 t1 t2 t3 t4 t5) :: xs) []) = some (ans (fun _ => 0) (1), h', true) :=
  of_era (show (@funD (frnOf base (tk1 v l cs) (conW ds l (tins t0 t1 t2 t3 t4 t5) false)) Try.prog noOrc noOrc usF 100 12 44 (shelf (tok 0 l 0) (tins t0 t1 t2 t3 t4 t5) :: xs) []).map eraseH = some (ans (fun _ => 0) (1), [], (isB ((l = l) ∧ ([(Value.int .i32 t0), (Value.int .i32 t1), (Value.int .i32 t2), (Value.int .i32 t3), (Value.int .i32 t4), (Value.int .i32 t5)] = [(Value.int .i32 t0), (Value.int .i32 t1), (Value.int .i32 t2), (Value.int .i32 t3), (Value.int .i32 t4), (Value.int .i32 t5)])) && true)) by kernel_rfl) (by simp [isB_true])
theorem xsB  : (xs).all bareP = true := by kernel_rfl
theorem ansB (y0 : (Nat → Int)) (y1 : Int) : bareP (ans y0 y1) = true := by kernel_rfl
def go (n : Nat) : Bool := gRun ak [] [] us 300 30 [] ⟨43, .agg (gSh ak n) :: gArgs ak n, []⟩ ⟨44, .agg (gSh ak n) :: gArgs ak n, []⟩ ps n
theorem go1 : go 1 = true := by kernel_rfl
theorem go2 : go 2 = true := by kernel_rfl
theorem go3 : go 3 = true := by kernel_rfl
theorem go4 : go 4 = true := by kernel_rfl
theorem go5 : go 5 = true := by kernel_rfl
theorem go6 : go 6 = true := by kernel_rfl
theorem goes {n : Nat} (h1 : 1 ≤ n) (h6 : n ≤ 6) : go n = true := by
  match n, h1, h6 with
  | 1, _, _ => exact go1
  | 2, _, _ => exact go2
  | 3, _, _ => exact go3
  | 4, _, _ => exact go4
  | 5, _, _ => exact go5
  | 6, _, _ => exact go6
theorem usOk : us.all (funcOk Try.prog) = true := by kernel_rfl
theorem usFOk : usF.all (funcOk Try.prog) = true := by kernel_rfl
theorem partT {l : Nat} {cs : List Value} {t0 t1 t2 t3 t4 t5 : Int}  (hf : fitK ak (xs) = true) (hb : rowsB pigK l cs = true) (hw : cs.all wfC = true) (htw : (tins t0 t1 t2 t3 t4 t5).all wfC = true) (h1 : 1 ≤ l) (h6 : l ≤ 6) (A2 : AnsB 21 l cs t0 t1 t2 t3 t4 t5 true) (A3 : AnsP l cs t0 t1 t2 t3 t4 t5 true) :
    ∃ (y0 : (Nat → Int)) (y1 : Int), (∀ base v, ∃ h', @funD (frnOf base (tk1 v l cs) (conV l (tins t0 t1 t2 t3 t4 t5) true)) Try.prog (fun f => seek f []) (fun f => seek f []) us 300 30 43 (shelf (tok 0 l 0) (tins t0 t1 t2 t3 t4 t5) :: xs) [] = some (ans y0 y1, h', true)) ∧ AnsG 43 l cs (tins t0 t1 t2 t3 t4 t5) (xs) (ans y0 y1) ∧ AnsG 44 l cs (tins t0 t1 t2 t3 t4 t5) (xs) (ans y0 y1) := by
  obtain ⟨hbox, V, hV, hgo⟩ := g_run (xs := xs) (fun _ _ => .i 0) (goes h1 h6) (exte := fun f => seek f []) (orce := fun f => seek f []) (fun F ρ hB => ListR.nil) (fun F ρ hB => ListR.nil) hb hw htw trivial
  obtain ⟨a, c, rfl, ha, hc⟩ := two_of hV
  obtain ⟨y0, rfl⟩ := row_of (ks := (List.replicate 6 (.f .f32))) rfl ha
  obtain ⟨y1, rfl⟩ := int_of hc
  have hS : ∀ base v, ∃ h', @funD (frnOf base (tk1 v l cs) (conV l (tins t0 t1 t2 t3 t4 t5) true)) Try.prog (fun f => seek f []) (fun f => seek f []) us 300 30 43 (shelf (tok 0 l 0) (tins t0 t1 t2 t3 t4 t5) :: xs) [] = some (ans y0 y1, h', true) := fun base v => by
    obtain ⟨⟨h', e, _⟩, _⟩ := hgo base v
    dsimp only at e
    rw [job_args hb htw hf] at e
    exact ⟨h', e⟩
  refine ⟨y0, y1, hS, ansG_D (cf := 300) (d := 30) usOk (fun ι => noX) (fun ι => noO) (fun base v => conV_ok hb A2 A3) (xsB) (ansB y0 y1) hS, ?_⟩
  refine ansG_D (cf := 300) (d := 30) usOk (fun ι => noX) (fun ι => noO) (fun base v => conV_ok hb A2 A3) (xsB) (ansB y0 y1) (fun base v => ?_)
  obtain ⟨_, ⟨h', e, _⟩⟩ := hgo base v
  dsimp only at e
  rw [job_args hb htw hf] at e
  exact ⟨h', e⟩
theorem same {l : Nat} {cs : List Value} {t0 t1 t2 t3 t4 t5 : Int}  (hf : fitK ak (xs) = true) (hb : rowsB pigK l cs = true) (hw : cs.all wfC = true) (htw : (tins t0 t1 t2 t3 t4 t5).all wfC = true) :
    ∃ (y0 : (Nat → Int)) (y1 : Int), AnsG 43 l cs (tins t0 t1 t2 t3 t4 t5) (xs) (ans y0 y1) ∧ AnsG 44 l cs (tins t0 t1 t2 t3 t4 t5) (xs) (ans y0 y1) := by
  obtain ⟨b, hr, _, A2, A3⟩ := shelf_same hb hw htw
  cases b with
  | false =>
    refine ⟨(fun _ => 0), (1), ansG_D usFOk (fun ι => @noExt ι _) (fun ι => noOO) (fun base v => conW_ok (by kernel_rfl) hb A2 A3) (xsB) (ansB (fun _ => 0) (1)) fun base v => sF base l v cs t0 t1 t2 t3 t4 t5, ?_⟩
    exact ansG_D usFOk (fun ι => @noExt ι _) (fun ι => noOO) (fun base v => conW_ok (by kernel_rfl) hb A2 A3) (xsB) (ansB (fun _ => 0) (1)) fun base v => iF base l v cs t0 t1 t2 t3 t4 t5
  | true =>
    obtain ⟨h1, h6⟩ := hr rfl
    obtain ⟨y0, y1, _, p1, p2⟩ := partT hf hb hw htw h1 h6 A2 A3
    exact ⟨y0, y1, p1, p2⟩
theorem ev (base l : Nat) (v : Value) (cs : List Value) (t0 t1 t2 t3 t4 t5 : Int) (z : Int)  (y0 : (Nat → Int)) (y1 : Int) : (@codeK (frnOf base (tk1 v l cs) (seekC (lawL l cs (tins t0 t1 t2 t3 t4 t5) z y0 y1))) (@ETl (frnOf base (tk1 v l cs) (seekC (lawL l cs (tins t0 t1 t2 t3 t4 t5) z y0 y1)))) 60 lawC (startS Try.f13 (shelf (tok 0 l 0) (tins t0 t1 t2 t3 t4 t5) :: xs) []) (fun e s => (@finK (frnOf base (tk1 v l cs) (seekC (lawL l cs (tins t0 t1 t2 t3 t4 t5) z y0 y1))) Try.prog Try.f13 e s).map eraseH)) =
    (bif decide (z < 0) then (some ((Value.bool true), ([], (isB ((SzOk z l cs) ∧ ([(Value.int .i32 t0), (Value.int .i32 t1), (Value.int .i32 t2), (Value.int .i32 t3), (Value.int .i32 t4), (Value.int .i32 t5)] = [(Value.int .i32 t0), (Value.int .i32 t1), (Value.int .i32 t2), (Value.int .i32 t3), (Value.int .i32 t4), (Value.int .i32 t5)])) && true)))) else (bif (!decide (y1 = y1)) then (some ((Value.bool false), ([], (isB ([(Value.agg #[(Value.float .f32 (Int.toNat (y0 0))), (Value.float .f32 (Int.toNat (y0 (0 + 1)))), (Value.float .f32 (Int.toNat (y0 (0 + 1 + 1)))), (Value.float .f32 (Int.toNat (y0 (0 + 1 + 1 + 1)))), (Value.float .f32 (Int.toNat (y0 (0 + 1 + 1 + 1 + 1)))), (Value.float .f32 (Int.toNat (y0 (0 + 1 + 1 + 1 + 1 + 1))))]), (Value.agg #[(Value.float .f32 (Int.toNat (y0 0))), (Value.float .f32 (Int.toNat (y0 (0 + 1)))), (Value.float .f32 (Int.toNat (y0 (0 + 1 + 1)))), (Value.float .f32 (Int.toNat (y0 (0 + 1 + 1 + 1)))), (Value.float .f32 (Int.toNat (y0 (0 + 1 + 1 + 1 + 1)))), (Value.float .f32 (Int.toNat (y0 (0 + 1 + 1 + 1 + 1 + 1))))])] = [(Value.agg #[(Value.float .f32 (Int.toNat (y0 0))), (Value.float .f32 (Int.toNat (y0 (0 + 1)))), (Value.float .f32 (Int.toNat (y0 (0 + 1 + 1)))), (Value.float .f32 (Int.toNat (y0 (0 + 1 + 1 + 1)))), (Value.float .f32 (Int.toNat (y0 (0 + 1 + 1 + 1 + 1)))), (Value.float .f32 (Int.toNat (y0 (0 + 1 + 1 + 1 + 1 + 1))))]), (Value.agg #[(Value.float .f32 (Int.toNat (y0 0))), (Value.float .f32 (Int.toNat (y0 (0 + 1)))), (Value.float .f32 (Int.toNat (y0 (0 + 1 + 1)))), (Value.float .f32 (Int.toNat (y0 (0 + 1 + 1 + 1)))), (Value.float .f32 (Int.toNat (y0 (0 + 1 + 1 + 1 + 1)))), (Value.float .f32 (Int.toNat (y0 (0 + 1 + 1 + 1 + 1 + 1))))])]) && (isB ((cs = cs) ∧ ((l = l) ∧ (([(Value.int .i32 t0), (Value.int .i32 t1), (Value.int .i32 t2), (Value.int .i32 t3), (Value.int .i32 t4), (Value.int .i32 t5)] = [(Value.int .i32 t0), (Value.int .i32 t1), (Value.int .i32 t2), (Value.int .i32 t3), (Value.int .i32 t4), (Value.int .i32 t5)]) ∧ (([] : List Value) = [])))) && (isB ((l ≤ 1048576) ∧ ([(Value.int .i32 t0), (Value.int .i32 t1), (Value.int .i32 t2), (Value.int .i32 t3), (Value.int .i32 t4), (Value.int .i32 t5)] = [(Value.int .i32 t0), (Value.int .i32 t1), (Value.int .i32 t2), (Value.int .i32 t3), (Value.int .i32 t4), (Value.int .i32 t5)])) && (isB ((cs = cs) ∧ ((l = l) ∧ (([(Value.int .i32 t0), (Value.int .i32 t1), (Value.int .i32 t2), (Value.int .i32 t3), (Value.int .i32 t4), (Value.int .i32 t5)] = [(Value.int .i32 t0), (Value.int .i32 t1), (Value.int .i32 t2), (Value.int .i32 t3), (Value.int .i32 t4), (Value.int .i32 t5)]) ∧ (([] : List Value) = [])))) && (isB ((l ≤ 1048576) ∧ ([(Value.int .i32 t0), (Value.int .i32 t1), (Value.int .i32 t2), (Value.int .i32 t3), (Value.int .i32 t4), (Value.int .i32 t5)] = [(Value.int .i32 t0), (Value.int .i32 t1), (Value.int .i32 t2), (Value.int .i32 t3), (Value.int .i32 t4), (Value.int .i32 t5)])) && (isB ((SzOk z l cs) ∧ ([(Value.int .i32 t0), (Value.int .i32 t1), (Value.int .i32 t2), (Value.int .i32 t3), (Value.int .i32 t4), (Value.int .i32 t5)] = [(Value.int .i32 t0), (Value.int .i32 t1), (Value.int .i32 t2), (Value.int .i32 t3), (Value.int .i32 t4), (Value.int .i32 t5)])) && true))))))))) else (some ((Value.bool true), ([], ((isB (((l ≤ 1048576) ∧ ((cs = cs) ∧ ((l = l) ∧ ([(Value.int .i32 t0), (Value.int .i32 t1), (Value.int .i32 t2), (Value.int .i32 t3), (Value.int .i32 t4), (Value.int .i32 t5)] = [(Value.int .i32 t0), (Value.int .i32 t1), (Value.int .i32 t2), (Value.int .i32 t3), (Value.int .i32 t4), (Value.int .i32 t5)])))) ∧ ((cs = cs) ∧ ((l = l) ∧ ([(Value.int .i32 t0), (Value.int .i32 t1), (Value.int .i32 t2), (Value.int .i32 t3), (Value.int .i32 t4), (Value.int .i32 t5)] = [(Value.int .i32 t0), (Value.int .i32 t1), (Value.int .i32 t2), (Value.int .i32 t3), (Value.int .i32 t4), (Value.int .i32 t5)])))) && true) && ((isB ((l ≤ 1048576) ∧ ([(Value.int .i32 t0), (Value.int .i32 t1), (Value.int .i32 t2), (Value.int .i32 t3), (Value.int .i32 t4), (Value.int .i32 t5)] = [(Value.int .i32 t0), (Value.int .i32 t1), (Value.int .i32 t2), (Value.int .i32 t3), (Value.int .i32 t4), (Value.int .i32 t5)])) && true) && (isB ([(Value.agg #[(Value.float .f32 (Int.toNat (y0 0))), (Value.float .f32 (Int.toNat (y0 (0 + 1)))), (Value.float .f32 (Int.toNat (y0 (0 + 1 + 1)))), (Value.float .f32 (Int.toNat (y0 (0 + 1 + 1 + 1)))), (Value.float .f32 (Int.toNat (y0 (0 + 1 + 1 + 1 + 1)))), (Value.float .f32 (Int.toNat (y0 (0 + 1 + 1 + 1 + 1 + 1))))]), (Value.agg #[(Value.float .f32 (Int.toNat (y0 0))), (Value.float .f32 (Int.toNat (y0 (0 + 1)))), (Value.float .f32 (Int.toNat (y0 (0 + 1 + 1)))), (Value.float .f32 (Int.toNat (y0 (0 + 1 + 1 + 1)))), (Value.float .f32 (Int.toNat (y0 (0 + 1 + 1 + 1 + 1)))), (Value.float .f32 (Int.toNat (y0 (0 + 1 + 1 + 1 + 1 + 1))))])] = [(Value.agg #[(Value.float .f32 (Int.toNat (y0 0))), (Value.float .f32 (Int.toNat (y0 (0 + 1)))), (Value.float .f32 (Int.toNat (y0 (0 + 1 + 1)))), (Value.float .f32 (Int.toNat (y0 (0 + 1 + 1 + 1)))), (Value.float .f32 (Int.toNat (y0 (0 + 1 + 1 + 1 + 1)))), (Value.float .f32 (Int.toNat (y0 (0 + 1 + 1 + 1 + 1 + 1))))]), (Value.agg #[(Value.float .f32 (Int.toNat (y0 0))), (Value.float .f32 (Int.toNat (y0 (0 + 1)))), (Value.float .f32 (Int.toNat (y0 (0 + 1 + 1)))), (Value.float .f32 (Int.toNat (y0 (0 + 1 + 1 + 1)))), (Value.float .f32 (Int.toNat (y0 (0 + 1 + 1 + 1 + 1)))), (Value.float .f32 (Int.toNat (y0 (0 + 1 + 1 + 1 + 1 + 1))))])]) && (isB ((cs = cs) ∧ ((l = l) ∧ (([(Value.int .i32 t0), (Value.int .i32 t1), (Value.int .i32 t2), (Value.int .i32 t3), (Value.int .i32 t4), (Value.int .i32 t5)] = [(Value.int .i32 t0), (Value.int .i32 t1), (Value.int .i32 t2), (Value.int .i32 t3), (Value.int .i32 t4), (Value.int .i32 t5)]) ∧ (([] : List Value) = [])))) && (isB ((l ≤ 1048576) ∧ ([(Value.int .i32 t0), (Value.int .i32 t1), (Value.int .i32 t2), (Value.int .i32 t3), (Value.int .i32 t4), (Value.int .i32 t5)] = [(Value.int .i32 t0), (Value.int .i32 t1), (Value.int .i32 t2), (Value.int .i32 t3), (Value.int .i32 t4), (Value.int .i32 t5)])) && (isB ((cs = cs) ∧ ((l = l) ∧ (([(Value.int .i32 t0), (Value.int .i32 t1), (Value.int .i32 t2), (Value.int .i32 t3), (Value.int .i32 t4), (Value.int .i32 t5)] = [(Value.int .i32 t0), (Value.int .i32 t1), (Value.int .i32 t2), (Value.int .i32 t3), (Value.int .i32 t4), (Value.int .i32 t5)]) ∧ (([] : List Value) = [])))) && (isB ((l ≤ 1048576) ∧ ([(Value.int .i32 t0), (Value.int .i32 t1), (Value.int .i32 t2), (Value.int .i32 t3), (Value.int .i32 t4), (Value.int .i32 t5)] = [(Value.int .i32 t0), (Value.int .i32 t1), (Value.int .i32 t2), (Value.int .i32 t3), (Value.int .i32 t4), (Value.int .i32 t5)])) && (isB ((SzOk z l cs) ∧ ([(Value.int .i32 t0), (Value.int .i32 t1), (Value.int .i32 t2), (Value.int .i32 t3), (Value.int .i32 t4), (Value.int .i32 t5)] = [(Value.int .i32 t0), (Value.int .i32 t1), (Value.int .i32 t2), (Value.int .i32 t3), (Value.int .i32 t4), (Value.int .i32 t5)])) && true))))))))))))) := by kernel_rfl
theorem bodyE : Try.f13.body = some lawC := by kernel_rfl
theorem codeE : codeOk lawC = true := by kernel_rfl
theorem pl0 (y0 : Nat → Int) : PlainAns 32 (List.replicate 2 (.agg (cellsK (List.replicate 6 (.f .f32)) 0 y0).toArray)) (.bool true) := plain_row (ks := (List.replicate 6 (.f .f32))) (us := [32]) (cf := 200) (d := 10) (t := (.lit (.bool true))) rfl (by kernel_rfl) (by kernel_rfl) (cellsK_shape rfl) (fun g h => by simp only [conc]) rfl
theorem walk {w : World} {v : Value} {us' : List Value} {l : Nat} {cs : List Value} {t0 t1 t2 t3 t4 t5 : Int}  (hv : RowIn w v l cs) (hl : l ≤ 9223372036854775807) (hf : fitK ak (xs) = true) (hb : rowsB pigK l cs = true) (hw : cs.all wfC = true) (htw : (tins t0 t1 t2 t3 t4 t5).all wfC = true) (hu : @VRL noFrn (fun _ => none) (xs) us') :
    Calls Try.prog 13 (shelf v (tins t0 t1 t2 t3 t4 t5) :: us').toArray w fun e w' => e = .returned (.bool true) ∧ Below w.heap.size w w' := by
  obtain ⟨y0, y1, hs, hi⟩ := same hf hb hw htw
  refine law_go Try.func13 bodyE codeE (L := lawL l cs (tins t0 t1 t2 t3 t4 t5) (szShV l cs) y0 y1) hv (xsB) hu (fun base v => allC_cons (ansX_ok (by kernel_rfl) (rowsB_bare (by decide) hb) (xsB) (ansB y0 y1) hs) (allC_cons (ansX_ok (by kernel_rfl) (rowsB_bare (by decide) hb) (xsB) (ansB y0 y1) hi) (allC_cons (szZ_ok hb hl) (allC_cons (ansTo_ok hb) (allC_cons (ansEq_ok hb) (allC_cons (plCon_ok (by kernel_rfl) (by kernel_rfl) rfl (pl0 y0)) allC_nil)))))) (allC_cons ansX_stab (allC_cons ansX_stab (allC_cons szZ_stab (allC_cons to_stab (allC_cons eq_stab (allC_cons plCon_stab allC_nil)))))) fun base v => ?_
  rw [ev base l v cs t0 t1 t2 t3 t4 t5 (szShV l cs) y0 y1]
  by_cases hn : szShV l cs < 0
  · simp [hn, isB_true, szOk]
  have hl2 : l ≤ 1048576 := szShV_le (cs := cs) hl (by omega)
  simp [hn, isB_true, szOk, hl2]
set_option maxRecDepth 100000 in
theorem lifted (os : Os) (started : os.Started) (H : Type) (enc : TypeId × Value → H) :
    ReturnsInHanded {} Try.checked os 13 .any (Rows.fnExactEvenPartsSpec.pre6 enc Try.prog Try.f13 Rows.fnExactEvenPartsRow.domain false) (Rows.fnExactEvenPartsSpec.post enc Try.prog Try.f13 false true false false) := by
  refine returnsInHanded_of_change (C := Try.checked) own started (by kernel_rfl) Try.func13
    (ChangeSpec.witness6 (enc := enc) (C := Try.checked) false ⟨#[], #[shelf (.slice none 0 0) (tins 0 0 0 0 0 0)], []⟩ 8 (by kernel_rfl) (by kernel_rfl) (by kernel_rfl) (by kernel_rfl)) ?_
  intro W base args ds gs before hval0 hW hcnd _
  have hval : ∀ (j : Nat) t v, Try.f13.params[j]? = some t → args[j]? = some v → Value.okWide Try.prog W .any base t v := hval0
  have hW' := hW
  obtain ⟨p, q, hA0, hV, rfl, hfz, hnd⟩ := hW
  have hA : DataW.TrodAll enc Try.prog W 0 (fun _ => true) true Try.f13.params.toList args.toList ds p := hA0
  rw [Try.params13] at hA hval
  obtain ⟨v0, vs0, d0, ds0, p0, q0, hargs, rfl, rfl, h0, r0⟩ := trodAll_cons hA
  obtain ⟨rfl, rfl, rfl⟩ := trodAll_nil r0
  obtain rfl : args = #[v0] := by cases args; simp_all
  obtain ⟨rfl, rfl⟩ := trodVars_none hV
  have lt0 : ∀ x ∈ p0, x.block < W.heap.size := by obtain ⟨m, hm⟩ := h0; exact DataW.trod_lt m _ _ _ hm
  obtain ⟨u, l, cs, t0, t1, t2, t3, t4, t5, rfl, q1, q2, q3, q4, q5⟩ := open_law (hval 0 36 v0 rfl rfl) h0
  clear hA0 hval0
  have hff : fitK ak (xs) = true := (by show (true) = true; rfl)
  refine (walk q1 q3 hff q2 q4 q5 (@VRL.nil noFrn _)).mono fun e W' ⟨he, bel⟩ => ?_
  subst he
  exact ⟨_, rfl, _, _, _, [], _, [], hW', trodAll_mk1 (shut_bool Try.underlying4 _), (trodAll_cons_mk (Below.trod laidOut (by kernel_rfl) (of_decide_eq_true (by kernel_rfl)) h0 bel lt0) trodAll_mk0), rfl, bel.frame _, fun h => by cases h⟩
theorem over : Rows.fnExactEvenPartsRow.holds Try.pinned (OpenSpec.ofChange Rows.fnExactEvenPartsSpec) :=
  OpenClaim.holds_of_wide 13 Try.f13 rfl rfl rfl rfl rfl rfl rfl ⟨rfl, rfl, rfl, rfl, rfl⟩ rfl rfl rfl rfl rfl (by kernel_rfl) Try.func13 (by kernel_rfl)
    (of_decide_eq_true (by kernel_rfl)) (by unfold Func.isWrapper; first | (rw [if_pos (by decide +kernel)]; kernel_rfl) | (rw [if_neg (by decide +kernel)]; exact ⟨rfl, rfl⟩))
    (fun os started H enc _ => lifted os started H enc)

/-- The given statement. -/
theorem proved : Rows.FnExactEvenPartsSaid := over
end Go.Proofs.Ytelgoclebocapaa.fnExactEvenParts
end
