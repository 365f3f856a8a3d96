/-
  FnExactScaleDrops: program and model answer the same to every shelf. No condition.
-/
import Derived.Test.YtigpiogljfedpaaGc
import Derived.Test.YtigpiogljfedpaaEp
import Derived.Test.YtigpiogljfedpaaRows
import Derived.Test.YtigpiogljfedpaaGValidDrops
set_option linter.unusedSectionVars false
set_option linter.unusedVariables false
set_option linter.unusedSimpArgs false
noncomputable section
namespace Go.Proofs.Ytigpiogljfedpaa.fnExactScaleDrops
open Go Go.ChangeShapes Go.WideShapes Go.ChangeAt Go.RowKit Go.Deep Ev Sx

def ak : List AK := [.row (List.replicate 6 (.i .i16)), .one (.i .i64)]
def ps : List Par := [.agg ((List.replicate 6 (.i .i16)).map tyK), .one (.n .i64)]
abbrev xs (x0 : (Nat → Int)) (x1 : Int) : List Value := [.agg (cellsK (List.replicate 6 (.i .i16)) 0 x0).toArray, .int .i64 x1]
abbrev ans (y0 : (Nat → Int)) (y1 : Int) : Value := .tuple #[.agg (cellsK (List.replicate 6 (.i .i16)) 0 y0).toArray, .int .i64 y1]
def us : List Nat := [29, 75, 59, 72, 73, 66, 76, 77, 98, 119]
def usF : List Nat := [29, 75, 59, 72, 73, 66, 76, 77, 22]
def ds : List Nat := [98, 60, 61]
def usG : List Nat := [30, 75, 129, 85, 66, 22, 196]
def usE : List Nat := [30, 75, 129, 85, 66, 196]
def usC : List Nat := [30, 129]
def gs : List Nat := [74]
def bs : List Bx := [.sh, .arg 0, .arg 1, .lit [.int .i16 0, .int .i16 0, .int .i16 0, .int .i16 0, .int .i16 0, .int .i16 0], .no, .lit [.int .i16 0, .int .i16 0, .int .i16 0, .int .i16 0, .int .i16 0, .int .i16 0], .lit [.int .i64 0]]
def A : List Value := [.pointer (some ⟨0, 0, none⟩), .pointer (some ⟨1, 0, none⟩), .pointer (some ⟨2, 0, none⟩)]
def AS : List SV := [.ptr 0 0, .ptr 1 0, .ptr 2 0]
def clL (l : Nat) (ts xs : List Value) (V : Value) : List (Nat × ConT) := [(75, clCon A (bs.map (Bx.v l ts xs)) V)]
def lawL (l : Nat) (cs ts : List Value) (z : Int) (x0 : (Nat → Int)) (x1 : Int) (y0 : (Nat → Int)) (y1 : Int) : List (Nat × ConT) := [(29, ansX l cs ts (xs x0 x1) (ans y0 y1)), (30, ansX l cs ts (xs x0 x1) (ans y0 y1)), (15, szZ l cs ts z), (17, ansTo l cs ts), (19, ansEq l cs ts), (21, plCon [.agg (cellsK (List.replicate 6 (.i .i16)) 0 x0).toArray] (.agg (cellsK (List.replicate 6 (.i .i16)) 0 x0).toArray)), (31, plCon [.agg (cellsK (List.replicate 6 (.i .i16)) 0 y0).toArray, .agg (cellsK (List.replicate 6 (.i .i16)) 0 y0).toArray] (.bool true))]
noncomputable def lawC : Code := (Try.f7.body.getD .skip)
theorem sF (base l : Nat) (v : Value) (cs : List Value) (t0 t1 t2 t3 t4 t5 : Int) (x0 : (Nat → Int)) (x1 : Int) : ∃ h', (@funD (frnOf base (tk1 v l cs) (conW ds l (tins t0 t1 t2 t3 t4 t5) false)) Try.prog noOrc noOrc usF 100 12 29 (shelf (tok 0 l 0) (tins t0 t1 t2 t3 t4 t5) :: xs x0 x1) []) = some (ans (fun _ => 0) (1), h', true) :=
  of_era (show (@funD (frnOf base (tk1 v l cs) (conW ds l (tins t0 t1 t2 t3 t4 t5) false)) Try.prog noOrc noOrc usF 100 12 29 (shelf (tok 0 l 0) (tins t0 t1 t2 t3 t4 t5) :: xs x0 x1) []).map eraseH = some (ans (fun _ => 0) (1), [], ((isB ([(Value.slice (some ⟨0, 0, (some 0)⟩) l 0), (Value.int .i32 t0), (Value.int .i32 t1), (Value.int .i32 t2), (Value.int .i32 t3), (Value.int .i32 t4), (Value.int .i32 t5)] = [(Value.slice (some ⟨0, 0, (some 0)⟩) l 0), (Value.int .i32 t0), (Value.int .i32 t1), (Value.int .i32 t2), (Value.int .i32 t3), (Value.int .i32 t4), (Value.int .i32 t5)]) && true) && true)) by kernel_rfl) (by simp [isB_true])
theorem iF (base l : Nat) (v : Value) (cs : List Value) (t0 t1 t2 t3 t4 t5 : Int) (x0 : (Nat → Int)) (x1 : Int) : ∃ h', (@funG (frnOf base (tk1 v l cs) (conW ds l (tins t0 t1 t2 t3 t4 t5) false)) Try.prog noOrc noOrc usG gs 100 30 12 30 (shelf (tok 0 l 0) (tins t0 t1 t2 t3 t4 t5) :: xs x0 x1) []) = some (.val (ans (fun _ => 0) (1)), h', true) :=
  of_erx (show (@funG (frnOf base (tk1 v l cs) (conW ds l (tins t0 t1 t2 t3 t4 t5) false)) Try.prog noOrc noOrc usG gs 100 30 12 30 (shelf (tok 0 l 0) (tins t0 t1 t2 t3 t4 t5) :: xs x0 x1) []).map eraseX = some (.val (ans (fun _ => 0) (1)), [], (((((isB ((l = l) ∧ ([(Value.int .i32 t0), (Value.int .i32 t1), (Value.int .i32 t2), (Value.int .i32 t3), (Value.int .i32 t4), (Value.int .i32 t5)] = [(Value.int .i32 t0), (Value.int .i32 t1), (Value.int .i32 t2), (Value.int .i32 t3), (Value.int .i32 t4), (Value.int .i32 t5)])) && true) && true) && true) && true) && true)) by kernel_rfl) (by simp [isB_true])
theorem cF (base l : Nat) (v : Value) (cs : List Value) (t0 t1 t2 t3 t4 t5 : Int) (x0 : (Nat → Int)) (x1 : Int) (y0 : (Nat → Int)) (y1 : Int) : ∃ h', (@funG (frnOf base (tk1 v l cs) (seekC (clL l (tins t0 t1 t2 t3 t4 t5) (xs x0 x1) (ans y0 y1)))) Try.prog noOrc noOrc usC gs 100 30 12 30 (shelf (tok 0 l 0) (tins t0 t1 t2 t3 t4 t5) :: xs x0 x1) []) = some (.val (ans y0 y1), h', true) :=
  of_erx (show (@funG (frnOf base (tk1 v l cs) (seekC (clL l (tins t0 t1 t2 t3 t4 t5) (xs x0 x1) (ans y0 y1)))) Try.prog noOrc noOrc usC gs 100 30 12 30 (shelf (tok 0 l 0) (tins t0 t1 t2 t3 t4 t5) :: xs x0 x1) []).map eraseX = some (.val (ans y0 y1), [], ((isB (([(Value.pointer (some ⟨0, 0, none⟩)), (Value.pointer (some ⟨1, 0, none⟩)), (Value.pointer (some ⟨2, 0, none⟩))] = [(Value.pointer (some ⟨0, 0, none⟩)), (Value.pointer (some ⟨1, 0, none⟩)), (Value.pointer (some ⟨2, 0, none⟩))]) ∧ ([(some [(Value.slice (some ⟨0, 0, (some 0)⟩) l 0), (Value.int .i32 t0), (Value.int .i32 t1), (Value.int .i32 t2), (Value.int .i32 t3), (Value.int .i32 t4), (Value.int .i32 t5)]), (some [(Value.int .i16 (x0 0)), (Value.int .i16 (x0 1)), (Value.int .i16 (x0 2)), (Value.int .i16 (x0 3)), (Value.int .i16 (x0 4)), (Value.int .i16 (x0 5))]), (some [(Value.int .i64 x1)]), (some [(Value.int .i16 0), (Value.int .i16 0), (Value.int .i16 0), (Value.int .i16 0), (Value.int .i16 0), (Value.int .i16 0)]), none, (some [(Value.int .i16 0), (Value.int .i16 0), (Value.int .i16 0), (Value.int .i16 0), (Value.int .i16 0), (Value.int .i16 0)]), (some [(Value.int .i64 0)])] = [(some [(Value.slice (some ⟨0, 0, (some 0)⟩) l 0), (Value.int .i32 t0), (Value.int .i32 t1), (Value.int .i32 t2), (Value.int .i32 t3), (Value.int .i32 t4), (Value.int .i32 t5)]), (some [(Value.int .i16 (x0 0)), (Value.int .i16 (x0 1)), (Value.int .i16 (x0 2)), (Value.int .i16 (x0 3)), (Value.int .i16 (x0 4)), (Value.int .i16 (x0 5))]), (some [(Value.int .i64 x1)]), (some [(Value.int .i16 0), (Value.int .i16 0), (Value.int .i16 0), (Value.int .i16 0), (Value.int .i16 0), (Value.int .i16 0)]), none, (some [(Value.int .i16 0), (Value.int .i16 0), (Value.int .i16 0), (Value.int .i16 0), (Value.int .i16 0), (Value.int .i16 0)]), (some [(Value.int .i64 0)])])) && true) && true)) by kernel_rfl) (by simp [isB_true])
theorem dF (base l : Nat) (v : Value) (cs : List Value) (t0 t1 t2 t3 t4 t5 : Int) (x0 : (Nat → Int)) (x1 : Int) : ∃ h', (@funG (frnOf base (tk1 v l cs) (conX3 l (tins t0 t1 t2 t3 t4 t5) true [(22, [.agg (cellsK (List.replicate 6 (.i .i16)) 0 x0).toArray], .bool false)])) Try.prog noOrc noOrc usE gs 100 30 12 30 (shelf (tok 0 l 0) (tins t0 t1 t2 t3 t4 t5) :: xs x0 x1) []) = some (.val (ans (fun _ => 0) (1)), h', true) :=
  of_erx (show (@funG (frnOf base (tk1 v l cs) (conX3 l (tins t0 t1 t2 t3 t4 t5) true [(22, [.agg (cellsK (List.replicate 6 (.i .i16)) 0 x0).toArray], .bool false)])) Try.prog noOrc noOrc usE gs 100 30 12 30 (shelf (tok 0 l 0) (tins t0 t1 t2 t3 t4 t5) :: xs x0 x1) []).map eraseX = some (.val (ans (fun _ => 0) (1)), [], ((((isB ((l = l) ∧ (([(Value.int .i32 t0), (Value.int .i32 t1), (Value.int .i32 t2), (Value.int .i32 t3), (Value.int .i32 t4), (Value.int .i32 t5)] = [(Value.int .i32 t0), (Value.int .i32 t1), (Value.int .i32 t2), (Value.int .i32 t3), (Value.int .i32 t4), (Value.int .i32 t5)]) ∧ ([(Value.agg #[(Value.int .i16 (x0 0)), (Value.int .i16 (x0 1)), (Value.int .i16 (x0 2)), (Value.int .i16 (x0 3)), (Value.int .i16 (x0 4)), (Value.int .i16 (x0 5))])] = [(Value.agg #[(Value.int .i16 (x0 0)), (Value.int .i16 (x0 1)), (Value.int .i16 (x0 2)), (Value.int .i16 (x0 3)), (Value.int .i16 (x0 4)), (Value.int .i16 (x0 5))])]))) && true) && true) && true) && true)) by kernel_rfl) (by simp [isB_true])
theorem xsB (x0 : (Nat → Int)) (x1 : Int) : (xs x0 x1).all bareP = true := by kernel_rfl
theorem ansB (y0 : (Nat → Int)) (y1 : Int) : bareP (ans y0 y1) = true := by kernel_rfl
def cds (b : Bool) (n : Nat) : List (Job × Bool) := [(⟨20, .agg (gSh ak n) :: (gArgs ak n).take 1, []⟩, b)]
def kn (n : Nat) : List KnS := [(22, (gArgs ak n).take 1, .lit (.bool true))]
def go (n : Nat) : Bool := g3 ak [] symV fnExactValidDrops.us 300 30 (cds true n) [] symV us 300 30 [] (kn n) ⟨29, .agg (gSh ak n) :: gArgs ak n, []⟩ ⟨75, AS, bs.map (Bx.s ak n)⟩ ps n
def no (n : Nat) : Bool := g3s ak [] symV fnExactValidDrops.us 300 30 (cds false n) [] symV us 300 30 [] [] ⟨29, .agg (gSh ak n) :: gArgs ak n, []⟩ (.tuple [.agg [.lit (.int .i16 0), .lit (.int .i16 0), .lit (.int .i16 0), .lit (.int .i16 0), .lit (.int .i16 0), .lit (.int .i16 0)], .lit (.int .i64 (1))]) n
theorem no1 : no 1 = true := by kernel_rfl
theorem no2 : no 2 = true := by kernel_rfl
theorem no3 : no 3 = true := by kernel_rfl
theorem no4 : no 4 = true := by kernel_rfl
theorem no5 : no 5 = true := by kernel_rfl
theorem no6 : no 6 = true := by kernel_rfl
theorem noes {n : Nat} (h1 : 1 ≤ n) (h6 : n ≤ 6) : no n = true := by
  match n, h1, h6 with
  | 1, _, _ => exact no1
  | 2, _, _ => exact no2
  | 3, _, _ => exact no3
  | 4, _, _ => exact no4
  | 5, _, _ => exact no5
  | 6, _, _ => exact no6
theorem go1 : go 1 = true := by kernel_rfl
theorem go2 : go 2 = true := by kernel_rfl
theorem go3 : go 3 = true := by kernel_rfl
theorem go4 : go 4 = true := by kernel_rfl
theorem go5 : go 5 = true := by kernel_rfl
theorem go6 : go 6 = true := by kernel_rfl
theorem goes {n : Nat} (h1 : 1 ≤ n) (h6 : n ≤ 6) : go n = true := by
  match n, h1, h6 with
  | 1, _, _ => exact go1
  | 2, _, _ => exact go2
  | 3, _, _ => exact go3
  | 4, _, _ => exact go4
  | 5, _, _ => exact go5
  | 6, _, _ => exact go6
theorem usOk : us.all (funcOk Try.prog) = true := by kernel_rfl
theorem usFOk : usF.all (funcOk Try.prog) = true := by kernel_rfl
theorem usGOk : usG.all (funcOk Try.prog) = true := by kernel_rfl
theorem usEOk : usE.all (funcOk Try.prog) = true := by kernel_rfl
theorem usCOk : usC.all (funcOk Try.prog) = true := by kernel_rfl
theorem gsOk : gs.all (hasBody Try.prog) = true := by kernel_rfl
theorem partD {l : Nat} {cs : List Value} {t0 t1 t2 t3 t4 t5 : Int} (x0 : (Nat → Int)) (x1 : Int) (hf : fitK ak (xs x0 x1) = true) (hb : rowsB pigK l cs = true) (hw : cs.all wfC = true) (htw : (tins t0 t1 t2 t3 t4 t5).all wfC = true) (h1 : 1 ≤ l) (h6 : l ≤ 6) (A2 : AnsB 18 l cs t0 t1 t2 t3 t4 t5 true) (A3 : AnsP l cs t0 t1 t2 t3 t4 t5 true)
    (hc : ∀ base v, ∃ h', @funD (frnOf base (tk1 v l cs) (conV l (tins t0 t1 t2 t3 t4 t5) true)) Try.prog (fun f => seek f []) (fun f => seek f orcV) fnExactValidDrops.us 300 30 20 (shelf (tok 0 l 0) (tins t0 t1 t2 t3 t4 t5) :: fnExactValidDrops.xs x0) [] = some (fnExactValidDrops.ans true, h', true)) (hI : AnsG 22 l cs (tins t0 t1 t2 t3 t4 t5) (fnExactValidDrops.xs x0) (fnExactValidDrops.ans true)) :
    ∃ (y0 : (Nat → Int)) (y1 : Int), (∀ base v, ∃ h', @funD (frnOf base (tk1 v l cs) (conX3 l (tins t0 t1 t2 t3 t4 t5) true [(22, [.agg (cellsK (List.replicate 6 (.i .i16)) 0 x0).toArray], .bool true)])) Try.prog (fun f => seek f []) (fun f => seek f orcV) us 300 30 29 (shelf (tok 0 l 0) (tins t0 t1 t2 t3 t4 t5) :: xs x0 x1) [] = some (ans y0 y1, h', true)) ∧ AnsG 29 l cs (tins t0 t1 t2 t3 t4 t5) (xs x0 x1) (ans y0 y1) ∧ AnsG 30 l cs (tins t0 t1 t2 t3 t4 t5) (xs x0 x1) (ans y0 y1) := by
  have hA1 : ((SV.agg (gSh ak l) :: (gArgs ak l).take 1).map (conc (gG ak l cs (tins t0 t1 t2 t3 t4 t5) (xs x0 x1)))) = shelf (tok 0 l 0) (tins t0 t1 t2 t3 t4 t5) :: [.agg (cellsK (List.replicate 6 (.i .i16)) 0 x0).toArray] := by
    have e := job_args (ak := ak) hb htw hf
    rw [List.map_cons] at e ⊢
    rw [List.map_take]
    rw [List.cons.injEq] at e
    rw [e.1, e.2]; rfl
  have hCd : CdOk ak l cs (xs x0 x1) t0 t1 t2 t3 t4 t5 (fun f => seek f []) (fun f => seek f orcV) fnExactValidDrops.us 300 30 (cds true l) := fun base v c hc2 => by
    rcases List.mem_singleton.1 hc2 with rfl
    obtain ⟨h', e⟩ := hc base v
    dsimp only
    rw [hA1]
    exact ⟨h', e⟩
  have hL : (kn l).map (knC (gG ak l cs (tins t0 t1 t2 t3 t4 t5) (xs x0 x1))) = [(22, [.agg (cellsK (List.replicate 6 (.i .i16)) 0 x0).toArray], .bool true)] := by
    show [(22, ((gArgs ak l).take 1).map (conc (gG ak l cs (tins t0 t1 t2 t3 t4 t5) (xs x0 x1))), conc _ (.lit (.bool true)))] = _
    rw [List.map_take, gArgs_conc hb hf]
    simp only [conc]
    rfl
  have hK := kn_cons (by kernel_rfl) (by kernel_rfl) rfl hI (kn_nil (l := l) (cs := cs) (ts := (tins t0 t1 t2 t3 t4 t5)))
  obtain ⟨hbox, V, hV, hgo⟩ := g3_run (xs := xs x0 x1) (fun _ _ => .i 0) (goes h1 h6) (exte1 := fun f => seek f []) (orce1 := fun f => seek f orcV) (exte := fun f => seek f []) (orce := fun f => seek f orcV) (fun F ρ hB => ListR.nil) (fun F ρ hB => symVR F ρ hB) (fun F ρ hB => ListR.nil) (fun F ρ hB => symVR F ρ hB) hb hw htw trivial hCd
  rw [hL] at hgo
  obtain ⟨a, c, rfl, ha, hc⟩ := two_of hV
  obtain ⟨y0, rfl⟩ := row_of (ks := (List.replicate 6 (.i .i16))) rfl ha
  obtain ⟨y1, rfl⟩ := int_of hc
  have hS : ∀ base v, ∃ h', @funD (frnOf base (tk1 v l cs) (conX3 l (tins t0 t1 t2 t3 t4 t5) true [(22, [.agg (cellsK (List.replicate 6 (.i .i16)) 0 x0).toArray], .bool true)])) Try.prog (fun f => seek f []) (fun f => seek f orcV) us 300 30 29 (shelf (tok 0 l 0) (tins t0 t1 t2 t3 t4 t5) :: xs x0 x1) [] = some (ans y0 y1, h', true) := fun base v => by
    obtain ⟨⟨h', e, _⟩, _⟩ := hgo base v
    dsimp only at e
    rw [job_args hb htw hf] at e
    exact ⟨h', e⟩
  refine ⟨y0, y1, hS, ansG_D (cf := 300) (d := 30) usOk (fun ι => noX) orcV_any (fun base v => conX3_ok hb A2 A3 hK) (xsB x0 x1) (ansB y0 y1) hS, ?_⟩
  · refine ansG_G usCOk gsOk (fun base v => conOf_ok (allC_cons (clCon_ok (cf := 300) (d := 30) (by kernel_rfl) usOk (fun ι => noX) orcV_any (conX3_ok (v := v) hb A2 A3 hK) (ansB y0 y1) (by kernel_rfl) ?_) allC_nil)) (xsB x0 x1) (ansB y0 y1) fun base v => cF base l v cs t0 t1 t2 t3 t4 t5 x0 x1 y0 y1
    obtain ⟨_, ⟨h', e, e2⟩⟩ := hgo base v
    dsimp only at e e2
    rw [show (AS.map (conc (gG ak l cs (tins t0 t1 t2 t3 t4 t5) (xs x0 x1)))) = A by simp only [AS, A, List.map_cons, List.map_nil, conc], bx_conc hb htw hf hbox bs] at e
    rw [bx_conc hb htw hf hbox bs] at e2
    exact ⟨h', e, by simp only [List.length_map] at e2 ⊢; exact e2⟩
theorem same {l : Nat} {cs : List Value} {t0 t1 t2 t3 t4 t5 : Int} (x0 : (Nat → Int)) (x1 : Int) (hf : fitK ak (xs x0 x1) = true) (hb : rowsB pigK l cs = true) (hw : cs.all wfC = true) (htw : (tins t0 t1 t2 t3 t4 t5).all wfC = true) :
    ∃ (y0 : (Nat → Int)) (y1 : Int), AnsG 29 l cs (tins t0 t1 t2 t3 t4 t5) (xs x0 x1) (ans y0 y1) ∧ AnsG 30 l cs (tins t0 t1 t2 t3 t4 t5) (xs x0 x1) (ans y0 y1) := by
  obtain ⟨b, hr, _, A2, A3⟩ := shelf_same hb hw htw
  cases b with
  | false =>
    refine ⟨(fun _ => 0), (1), ansG_D usFOk (fun ι => @noExt ι _) (fun ι => noOO) (fun base v => conW_ok (by kernel_rfl) hb A2 A3) (xsB x0 x1) (ansB (fun _ => 0) (1)) fun base v => sF base l v cs t0 t1 t2 t3 t4 t5 x0 x1, ?_⟩
    exact ansG_G usGOk gsOk (fun base v => conW_ok (by kernel_rfl) hb A2 A3) (xsB x0 x1) (ansB (fun _ => 0) (1)) fun base v => iF base l v cs t0 t1 t2 t3 t4 t5 x0 x1
  | true =>
    obtain ⟨h1, h6⟩ := hr rfl
    have hfd : fitK fnExactValidDrops.ak (fnExactValidDrops.xs x0) = true := by
      have hf : (AK.fit (.row (List.replicate 6 (.i .i16))) (.agg (cellsK (List.replicate 6 (.i .i16)) 0 x0).toArray) && _) = true := hf
      rw [Bool.and_eq_true] at hf
      show (AK.fit (.row (List.replicate 6 (.i .i16))) (.agg (cellsK (List.replicate 6 (.i .i16)) 0 x0).toArray) && true) = true
      rw [hf.1]; rfl
    obtain ⟨bD, hc, _, hI⟩ := fnExactValidDrops.partT x0 hfd hb hw htw h1 h6 A2 A3
    have hA1 : ((SV.agg (gSh ak l) :: (gArgs ak l).take 1).map (conc (gG ak l cs (tins t0 t1 t2 t3 t4 t5) (xs x0 x1)))) = shelf (tok 0 l 0) (tins t0 t1 t2 t3 t4 t5) :: [.agg (cellsK (List.replicate 6 (.i .i16)) 0 x0).toArray] := by
      have e := job_args (ak := ak) hb htw hf
      rw [List.map_cons] at e ⊢
      rw [List.map_take]
      rw [List.cons.injEq] at e
      rw [e.1, e.2]; rfl
    have hCd : CdOk ak l cs (xs x0 x1) t0 t1 t2 t3 t4 t5 (fun f => seek f []) (fun f => seek f orcV) fnExactValidDrops.us 300 30 (cds bD l) := fun base v c hc2 => by
      rcases List.mem_singleton.1 hc2 with rfl
      obtain ⟨h', e⟩ := hc base v
      dsimp only
      rw [hA1]
      exact ⟨h', e⟩
    cases bD with
    | false =>
      refine ⟨(fun _ => 0), (1), ansG_D (con := conX3 l (tins t0 t1 t2 t3 t4 t5) true []) (cf := 300) (d := 30) usOk (fun ι => noX) orcV_any (fun base v => conX3_ok hb A2 A3 kn_nil) (xsB x0 x1) (ansB (fun _ => 0) (1)) (fun base v => ?_), ?_⟩
      · obtain ⟨h', e, _⟩ := g3s_run (xs := xs x0 x1) (fun _ _ => .i 0) (noes h1 h6) (exte1 := fun f => seek f []) (orce1 := fun f => seek f orcV) (exte := fun f => seek f []) (orce := fun f => seek f orcV) (fun F ρ hB => ListR.nil) (fun F ρ hB => symVR F ρ hB) (fun F ρ hB => ListR.nil) (fun F ρ hB => symVR F ρ hB) hb hw htw trivial hCd base v
        dsimp only at e
        rw [job_args hb htw hf] at e
        refine ⟨h', Eq.trans e ?_⟩
        simp only [conc, concL, List.map_cons, List.map_nil]
        all_goals rfl
      · exact ansG_G usEOk gsOk (fun base v => conX3_ok hb A2 A3 (kn_cons (by kernel_rfl) (by kernel_rfl) rfl hI kn_nil)) (xsB x0 x1) (ansB (fun _ => 0) (1)) fun base v => dF base l v cs t0 t1 t2 t3 t4 t5 x0 x1
    | true =>
      obtain ⟨y0, y1, _, p1, p2⟩ := partD x0 x1 hf hb hw htw h1 h6 A2 A3 hc hI
      exact ⟨y0, y1, p1, p2⟩
theorem ev (base l : Nat) (v : Value) (cs : List Value) (t0 t1 t2 t3 t4 t5 : Int) (z : Int) (x0 : (Nat → Int)) (x1 : Int) (y0 : (Nat → Int)) (y1 : Int) : (@codeK (frnOf base (tk1 v l cs) (seekC (lawL l cs (tins t0 t1 t2 t3 t4 t5) z x0 x1 y0 y1))) (@ETl (frnOf base (tk1 v l cs) (seekC (lawL l cs (tins t0 t1 t2 t3 t4 t5) z x0 x1 y0 y1)))) 60 lawC (startS Try.f7 (shelf (tok 0 l 0) (tins t0 t1 t2 t3 t4 t5) :: xs x0 x1) []) (fun e s => (@finK (frnOf base (tk1 v l cs) (seekC (lawL l cs (tins t0 t1 t2 t3 t4 t5) z x0 x1 y0 y1))) Try.prog Try.f7 e s).map eraseH)) =
    (bif decide (z < 0) then (some ((Value.bool true), ([], (isB ((SzOk z l cs) ∧ ([(Value.int .i32 t0), (Value.int .i32 t1), (Value.int .i32 t2), (Value.int .i32 t3), (Value.int .i32 t4), (Value.int .i32 t5)] = [(Value.int .i32 t0), (Value.int .i32 t1), (Value.int .i32 t2), (Value.int .i32 t3), (Value.int .i32 t4), (Value.int .i32 t5)])) && true)))) else (bif (!decide (y1 = y1)) then (some ((Value.bool false), ([], (isB ([(Value.agg #[(Value.int .i16 (y0 0)), (Value.int .i16 (y0 1)), (Value.int .i16 (y0 2)), (Value.int .i16 (y0 3)), (Value.int .i16 (y0 4)), (Value.int .i16 (y0 5))]), (Value.agg #[(Value.int .i16 (y0 0)), (Value.int .i16 (y0 1)), (Value.int .i16 (y0 2)), (Value.int .i16 (y0 3)), (Value.int .i16 (y0 4)), (Value.int .i16 (y0 5))])] = [(Value.agg #[(Value.int .i16 (y0 0)), (Value.int .i16 (y0 1)), (Value.int .i16 (y0 2)), (Value.int .i16 (y0 3)), (Value.int .i16 (y0 4)), (Value.int .i16 (y0 5))]), (Value.agg #[(Value.int .i16 (y0 0)), (Value.int .i16 (y0 1)), (Value.int .i16 (y0 2)), (Value.int .i16 (y0 3)), (Value.int .i16 (y0 4)), (Value.int .i16 (y0 5))])]) && ((isB ((cs = cs) ∧ ((l = l) ∧ (([(Value.int .i32 t0), (Value.int .i32 t1), (Value.int .i32 t2), (Value.int .i32 t3), (Value.int .i32 t4), (Value.int .i32 t5)] = [(Value.int .i32 t0), (Value.int .i32 t1), (Value.int .i32 t2), (Value.int .i32 t3), (Value.int .i32 t4), (Value.int .i32 t5)]) ∧ ([(Value.agg #[(Value.int .i16 (x0 0)), (Value.int .i16 (x0 1)), (Value.int .i16 (x0 2)), (Value.int .i16 (x0 3)), (Value.int .i16 (x0 4)), (Value.int .i16 (x0 5))]), (Value.int .i64 x1)] = [(Value.agg #[(Value.int .i16 (x0 0)), (Value.int .i16 (x0 1)), (Value.int .i16 (x0 2)), (Value.int .i16 (x0 3)), (Value.int .i16 (x0 4)), (Value.int .i16 (x0 5))]), (Value.int .i64 x1)])))) && true) && (isB ([(Value.agg #[(Value.int .i16 (x0 0)), (Value.int .i16 (x0 1)), (Value.int .i16 (x0 2)), (Value.int .i16 (x0 3)), (Value.int .i16 (x0 4)), (Value.int .i16 (x0 5))])] = [(Value.agg #[(Value.int .i16 (x0 0)), (Value.int .i16 (x0 1)), (Value.int .i16 (x0 2)), (Value.int .i16 (x0 3)), (Value.int .i16 (x0 4)), (Value.int .i16 (x0 5))])]) && (isB ((l ≤ 1048576) ∧ ([(Value.int .i32 t0), (Value.int .i32 t1), (Value.int .i32 t2), (Value.int .i32 t3), (Value.int .i32 t4), (Value.int .i32 t5)] = [(Value.int .i32 t0), (Value.int .i32 t1), (Value.int .i32 t2), (Value.int .i32 t3), (Value.int .i32 t4), (Value.int .i32 t5)])) && ((isB ((cs = cs) ∧ ((l = l) ∧ (([(Value.int .i32 t0), (Value.int .i32 t1), (Value.int .i32 t2), (Value.int .i32 t3), (Value.int .i32 t4), (Value.int .i32 t5)] = [(Value.int .i32 t0), (Value.int .i32 t1), (Value.int .i32 t2), (Value.int .i32 t3), (Value.int .i32 t4), (Value.int .i32 t5)]) ∧ ([(Value.agg #[(Value.int .i16 (x0 0)), (Value.int .i16 (x0 1)), (Value.int .i16 (x0 2)), (Value.int .i16 (x0 3)), (Value.int .i16 (x0 4)), (Value.int .i16 (x0 5))]), (Value.int .i64 x1)] = [(Value.agg #[(Value.int .i16 (x0 0)), (Value.int .i16 (x0 1)), (Value.int .i16 (x0 2)), (Value.int .i16 (x0 3)), (Value.int .i16 (x0 4)), (Value.int .i16 (x0 5))]), (Value.int .i64 x1)])))) && true) && (isB ([(Value.agg #[(Value.int .i16 (x0 0)), (Value.int .i16 (x0 1)), (Value.int .i16 (x0 2)), (Value.int .i16 (x0 3)), (Value.int .i16 (x0 4)), (Value.int .i16 (x0 5))])] = [(Value.agg #[(Value.int .i16 (x0 0)), (Value.int .i16 (x0 1)), (Value.int .i16 (x0 2)), (Value.int .i16 (x0 3)), (Value.int .i16 (x0 4)), (Value.int .i16 (x0 5))])]) && ((isB ((l ≤ 1048576) ∧ ([(Value.int .i32 t0), (Value.int .i32 t1), (Value.int .i32 t2), (Value.int .i32 t3), (Value.int .i32 t4), (Value.int .i32 t5)] = [(Value.int .i32 t0), (Value.int .i32 t1), (Value.int .i32 t2), (Value.int .i32 t3), (Value.int .i32 t4), (Value.int .i32 t5)])) && true) && (isB ((SzOk z l cs) ∧ ([(Value.int .i32 t0), (Value.int .i32 t1), (Value.int .i32 t2), (Value.int .i32 t3), (Value.int .i32 t4), (Value.int .i32 t5)] = [(Value.int .i32 t0), (Value.int .i32 t1), (Value.int .i32 t2), (Value.int .i32 t3), (Value.int .i32 t4), (Value.int .i32 t5)])) && true))))))))))) else (some ((Value.bool true), ([], ((isB (((l ≤ 1048576) ∧ ((cs = cs) ∧ ((l = l) ∧ ([(Value.int .i32 t0), (Value.int .i32 t1), (Value.int .i32 t2), (Value.int .i32 t3), (Value.int .i32 t4), (Value.int .i32 t5)] = [(Value.int .i32 t0), (Value.int .i32 t1), (Value.int .i32 t2), (Value.int .i32 t3), (Value.int .i32 t4), (Value.int .i32 t5)])))) ∧ ((cs = cs) ∧ ((l = l) ∧ ([(Value.int .i32 t0), (Value.int .i32 t1), (Value.int .i32 t2), (Value.int .i32 t3), (Value.int .i32 t4), (Value.int .i32 t5)] = [(Value.int .i32 t0), (Value.int .i32 t1), (Value.int .i32 t2), (Value.int .i32 t3), (Value.int .i32 t4), (Value.int .i32 t5)])))) && true) && ((isB ((l ≤ 1048576) ∧ ([(Value.int .i32 t0), (Value.int .i32 t1), (Value.int .i32 t2), (Value.int .i32 t3), (Value.int .i32 t4), (Value.int .i32 t5)] = [(Value.int .i32 t0), (Value.int .i32 t1), (Value.int .i32 t2), (Value.int .i32 t3), (Value.int .i32 t4), (Value.int .i32 t5)])) && true) && (isB ([(Value.agg #[(Value.int .i16 (y0 0)), (Value.int .i16 (y0 1)), (Value.int .i16 (y0 2)), (Value.int .i16 (y0 3)), (Value.int .i16 (y0 4)), (Value.int .i16 (y0 5))]), (Value.agg #[(Value.int .i16 (y0 0)), (Value.int .i16 (y0 1)), (Value.int .i16 (y0 2)), (Value.int .i16 (y0 3)), (Value.int .i16 (y0 4)), (Value.int .i16 (y0 5))])] = [(Value.agg #[(Value.int .i16 (y0 0)), (Value.int .i16 (y0 1)), (Value.int .i16 (y0 2)), (Value.int .i16 (y0 3)), (Value.int .i16 (y0 4)), (Value.int .i16 (y0 5))]), (Value.agg #[(Value.int .i16 (y0 0)), (Value.int .i16 (y0 1)), (Value.int .i16 (y0 2)), (Value.int .i16 (y0 3)), (Value.int .i16 (y0 4)), (Value.int .i16 (y0 5))])]) && ((isB ((cs = cs) ∧ ((l = l) ∧ (([(Value.int .i32 t0), (Value.int .i32 t1), (Value.int .i32 t2), (Value.int .i32 t3), (Value.int .i32 t4), (Value.int .i32 t5)] = [(Value.int .i32 t0), (Value.int .i32 t1), (Value.int .i32 t2), (Value.int .i32 t3), (Value.int .i32 t4), (Value.int .i32 t5)]) ∧ ([(Value.agg #[(Value.int .i16 (x0 0)), (Value.int .i16 (x0 1)), (Value.int .i16 (x0 2)), (Value.int .i16 (x0 3)), (Value.int .i16 (x0 4)), (Value.int .i16 (x0 5))]), (Value.int .i64 x1)] = [(Value.agg #[(Value.int .i16 (x0 0)), (Value.int .i16 (x0 1)), (Value.int .i16 (x0 2)), (Value.int .i16 (x0 3)), (Value.int .i16 (x0 4)), (Value.int .i16 (x0 5))]), (Value.int .i64 x1)])))) && true) && (isB ([(Value.agg #[(Value.int .i16 (x0 0)), (Value.int .i16 (x0 1)), (Value.int .i16 (x0 2)), (Value.int .i16 (x0 3)), (Value.int .i16 (x0 4)), (Value.int .i16 (x0 5))])] = [(Value.agg #[(Value.int .i16 (x0 0)), (Value.int .i16 (x0 1)), (Value.int .i16 (x0 2)), (Value.int .i16 (x0 3)), (Value.int .i16 (x0 4)), (Value.int .i16 (x0 5))])]) && (isB ((l ≤ 1048576) ∧ ([(Value.int .i32 t0), (Value.int .i32 t1), (Value.int .i32 t2), (Value.int .i32 t3), (Value.int .i32 t4), (Value.int .i32 t5)] = [(Value.int .i32 t0), (Value.int .i32 t1), (Value.int .i32 t2), (Value.int .i32 t3), (Value.int .i32 t4), (Value.int .i32 t5)])) && ((isB ((cs = cs) ∧ ((l = l) ∧ (([(Value.int .i32 t0), (Value.int .i32 t1), (Value.int .i32 t2), (Value.int .i32 t3), (Value.int .i32 t4), (Value.int .i32 t5)] = [(Value.int .i32 t0), (Value.int .i32 t1), (Value.int .i32 t2), (Value.int .i32 t3), (Value.int .i32 t4), (Value.int .i32 t5)]) ∧ ([(Value.agg #[(Value.int .i16 (x0 0)), (Value.int .i16 (x0 1)), (Value.int .i16 (x0 2)), (Value.int .i16 (x0 3)), (Value.int .i16 (x0 4)), (Value.int .i16 (x0 5))]), (Value.int .i64 x1)] = [(Value.agg #[(Value.int .i16 (x0 0)), (Value.int .i16 (x0 1)), (Value.int .i16 (x0 2)), (Value.int .i16 (x0 3)), (Value.int .i16 (x0 4)), (Value.int .i16 (x0 5))]), (Value.int .i64 x1)])))) && true) && (isB ([(Value.agg #[(Value.int .i16 (x0 0)), (Value.int .i16 (x0 1)), (Value.int .i16 (x0 2)), (Value.int .i16 (x0 3)), (Value.int .i16 (x0 4)), (Value.int .i16 (x0 5))])] = [(Value.agg #[(Value.int .i16 (x0 0)), (Value.int .i16 (x0 1)), (Value.int .i16 (x0 2)), (Value.int .i16 (x0 3)), (Value.int .i16 (x0 4)), (Value.int .i16 (x0 5))])]) && ((isB ((l ≤ 1048576) ∧ ([(Value.int .i32 t0), (Value.int .i32 t1), (Value.int .i32 t2), (Value.int .i32 t3), (Value.int .i32 t4), (Value.int .i32 t5)] = [(Value.int .i32 t0), (Value.int .i32 t1), (Value.int .i32 t2), (Value.int .i32 t3), (Value.int .i32 t4), (Value.int .i32 t5)])) && true) && (isB ((SzOk z l cs) ∧ ([(Value.int .i32 t0), (Value.int .i32 t1), (Value.int .i32 t2), (Value.int .i32 t3), (Value.int .i32 t4), (Value.int .i32 t5)] = [(Value.int .i32 t0), (Value.int .i32 t1), (Value.int .i32 t2), (Value.int .i32 t3), (Value.int .i32 t4), (Value.int .i32 t5)])) && true))))))))))))))) := by kernel_rfl
theorem bodyE : Try.f7.body = some lawC := by kernel_rfl
theorem codeE : codeOk lawC = true := by kernel_rfl
theorem pl0 (x0 : Nat → Int) : PlainAns 21 (List.replicate 1 (.agg (cellsK (List.replicate 6 (.i .i16)) 0 x0).toArray)) (.agg (cellsK (List.replicate 6 (.i .i16)) 0 x0).toArray) := plain_row (ks := (List.replicate 6 (.i .i16))) (us := [21]) (cf := 200) (d := 10) (t := (.agg (svR (List.replicate 6 (.i .i16)) 0))) rfl (by kernel_rfl) (by kernel_rfl) (cellsK_shape rfl) (fun g h => by simp only [conc, concL_map]; rw [h]) (by kernel_rfl)
theorem pl1 (y0 : Nat → Int) : PlainAns 31 (List.replicate 2 (.agg (cellsK (List.replicate 6 (.i .i16)) 0 y0).toArray)) (.bool true) := plain_row (ks := (List.replicate 6 (.i .i16))) (us := [31]) (cf := 200) (d := 10) (t := (.lit (.bool true))) rfl (by kernel_rfl) (by kernel_rfl) (cellsK_shape rfl) (fun g h => by simp only [conc]) rfl
theorem walk {w : World} {v : Value} {us' : List Value} {l : Nat} {cs : List Value} {t0 t1 t2 t3 t4 t5 : Int} (x0 : (Nat → Int)) (x1 : Int) (hv : RowIn w v l cs) (hl : l ≤ 9223372036854775807) (hf : fitK ak (xs x0 x1) = true) (hb : rowsB pigK l cs = true) (hw : cs.all wfC = true) (htw : (tins t0 t1 t2 t3 t4 t5).all wfC = true) (hu : @VRL noFrn (fun _ => none) (xs x0 x1) us') :
    Calls Try.prog 7 (shelf v (tins t0 t1 t2 t3 t4 t5) :: us').toArray w fun e w' => e = .returned (.bool true) ∧ Below w.heap.size w w' := by
  obtain ⟨y0, y1, hs, hi⟩ := same x0 x1 hf hb hw htw
  refine law_go Try.func7 bodyE codeE (L := lawL l cs (tins t0 t1 t2 t3 t4 t5) (szShV l cs) x0 x1 y0 y1) hv (xsB x0 x1) hu (fun base v => allC_cons (ansX_ok (by kernel_rfl) (rowsB_bare (by decide) hb) (xsB x0 x1) (ansB y0 y1) hs) (allC_cons (ansX_ok (by kernel_rfl) (rowsB_bare (by decide) hb) (xsB x0 x1) (ansB y0 y1) hi) (allC_cons (szZ_ok hb hl) (allC_cons (ansTo_ok hb) (allC_cons (ansEq_ok hb) (allC_cons (plCon_ok (by kernel_rfl) (by kernel_rfl) (by kernel_rfl) (pl0 x0)) (allC_cons (plCon_ok (by kernel_rfl) (by kernel_rfl) rfl (pl1 y0)) allC_nil))))))) (allC_cons ansX_stab (allC_cons ansX_stab (allC_cons szZ_stab (allC_cons to_stab (allC_cons eq_stab (allC_cons plCon_stab (allC_cons plCon_stab allC_nil))))))) fun base v => ?_
  rw [ev base l v cs t0 t1 t2 t3 t4 t5 (szShV l cs) x0 x1 y0 y1]
  by_cases hn : szShV l cs < 0
  · simp [hn, isB_true, szOk]
  have hl2 : l ≤ 1048576 := szShV_le (cs := cs) hl (by omega)
  simp [hn, isB_true, szOk, hl2]
set_option maxRecDepth 100000 in
theorem lifted (os : Os) (started : os.Started) (H : Type) (enc : TypeId × Value → H) :
    ReturnsInHanded {} Try.checked os 7 .any (Rows.fnExactScaleDropsSpec.pre6 enc Try.prog Try.f7 Rows.fnExactScaleDropsRow.domain false) (Rows.fnExactScaleDropsSpec.post enc Try.prog Try.f7 false true false false) := by
  refine returnsInHanded_of_change (C := Try.checked) own started (by kernel_rfl) Try.func7
    (ChangeSpec.witness6 (enc := enc) (C := Try.checked) false ⟨#[], #[shelf (.slice none 0 0) (tins 0 0 0 0 0 0), .agg #[.int .i16 0, .int .i16 0, .int .i16 0, .int .i16 0, .int .i16 0, .int .i16 0], .int .i64 0], []⟩ 8 (by kernel_rfl) (by kernel_rfl) (by kernel_rfl) (by kernel_rfl)) ?_
  intro W base args ds gs before hval0 hW hcnd _
  have hval : ∀ (j : Nat) t v, Try.f7.params[j]? = some t → args[j]? = some v → Value.okWide Try.prog W .any base t v := hval0
  have hW' := hW
  obtain ⟨p, q, hA0, hV, rfl, hfz, hnd⟩ := hW
  have hA : DataW.TrodAll enc Try.prog W 0 (fun _ => true) true Try.f7.params.toList args.toList ds p := hA0
  rw [Try.params7] at hA hval
  obtain ⟨v0, vs0, d0, ds0, p0, q0, hargs, rfl, rfl, h0, r0⟩ := trodAll_cons hA
  obtain ⟨v1, vs1, d1, ds1, p1, q1, rfl, rfl, rfl, h1, r1⟩ := trodAll_cons r0
  obtain ⟨v2, vs2, d2, ds2, p2, q2, rfl, rfl, rfl, h2, r2⟩ := trodAll_cons r1
  obtain ⟨rfl, rfl, rfl⟩ := trodAll_nil r2
  obtain rfl : args = #[v0, v1, v2] := by cases args; simp_all
  obtain ⟨rfl, rfl⟩ := trodVars_none hV
  have lt0 : ∀ x ∈ p0, x.block < W.heap.size := by obtain ⟨m, hm⟩ := h0; exact DataW.trod_lt m _ _ _ hm
  have lt1 : ∀ x ∈ p1, x.block < W.heap.size := by obtain ⟨m, hm⟩ := h1; exact DataW.trod_lt m _ _ _ hm
  have lt2 : ∀ x ∈ p2, x.block < W.heap.size := by obtain ⟨m, hm⟩ := h2; exact DataW.trod_lt m _ _ _ hm
  obtain ⟨u, l, cs, t0, t1, t2, t3, t4, t5, rfl, q1, q2, q3, q4, q5⟩ := open_law (hval 0 25 v0 rfl rfl) h0
  obtain ⟨x0, g0, k0⟩ := open_row (ks := (List.replicate 6 (.i .i16))) rfl (by kernel_rfl) (by kernel_rfl) (hval 1 35 v1 rfl rfl) h1
  obtain ⟨x1, g1, k1⟩ := open_i64 Try.underlying2 (hval 2 2 v2 rfl rfl)
  clear hA0 hval0
  have hff : fitK ak (xs x0 x1) = true := (by show ((AK.fit _ _ && (AK.fit _ _ && true))) = true; rw [k0, k1]; rfl)
  refine (walk x0 x1 q1 q3 hff q2 q4 q5 (vrl_one g0 (vrl_one g1 (@VRL.nil noFrn _)))).mono fun e W' ⟨he, bel⟩ => ?_
  subst he
  exact ⟨_, rfl, _, _, _, [], _, [], hW', trodAll_mk1 (shut_bool Try.underlying4 _), (trodAll_cons_mk (Below.trod laidOut (by kernel_rfl) (of_decide_eq_true (by kernel_rfl)) h0 bel lt0) (trodAll_cons_mk (Below.trod laidOut (by kernel_rfl) (of_decide_eq_true (by kernel_rfl)) h1 bel lt1) (trodAll_cons_mk (Below.trod laidOut (by kernel_rfl) (of_decide_eq_true (by kernel_rfl)) h2 bel lt2) trodAll_mk0))), rfl, bel.frame _, fun h => by cases h⟩
theorem over : Rows.fnExactScaleDropsRow.holds Try.pinned (OpenSpec.ofChange Rows.fnExactScaleDropsSpec) :=
  OpenClaim.holds_of_wide 7 Try.f7 rfl rfl rfl rfl rfl rfl rfl ⟨rfl, rfl, rfl, rfl, rfl⟩ rfl rfl rfl rfl rfl (by kernel_rfl) Try.func7 (by kernel_rfl)
    (of_decide_eq_true (by kernel_rfl)) (by unfold Func.isWrapper; first | (rw [if_pos (by decide +kernel)]; kernel_rfl) | (rw [if_neg (by decide +kernel)]; exact ⟨rfl, rfl⟩))
    (fun os started H enc _ => lifted os started H enc)

/-- The given statement. -/
theorem proved : Rows.FnExactScaleDropsSaid := over
end Go.Proofs.Ytigpiogljfedpaa.fnExactScaleDrops
end
