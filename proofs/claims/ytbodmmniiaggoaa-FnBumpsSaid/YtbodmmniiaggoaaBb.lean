/-
  FnBumps: its code in two halves: the first hangs on the place and the width alone, the second on the warmth. No condition.
-/
import Derived.Test.YtbodmmniiaggoaaBa
import Derived.Test.YtbodmmniiaggoaaBo
set_option linter.unusedSectionVars false
noncomputable section
namespace Go.Proofs.Ytbodmmniiaggoaa
open Go Go.ChangeShapes Go.WideShapes Go.ChangeAt Go.RowKit Ev

abbrev ConF := List Value → Heap → Option (Value × List (List Value) × Bool)
noncomputable def aLong : ConF := fun args _ => match args with
  | [.slice (some ⟨0, 0, some 0⟩) _ _, .slice (some ⟨1, 0, some 0⟩) _ _] => some (.bool false, [], true)
  | _ => none
noncomputable def aAt (p w q : Nat) : ConF := fun args _ => match args with
  | [.slice (some ⟨k, 0, some 0⟩) _ _, .int .i64 (.ofNat i), .int .i64 (.ofNat n)] =>
    bif Nat.beq n 16 then
      bif Nat.beq k 0 then (bif Nat.beq i 0 then some (.int .i64 (p : Int), [], true) else bif Nat.beq i 1 then some (.int .i64 (q : Int), [], true) else none)
      else bif Nat.beq k 1 then (bif Nat.beq i 0 then some (.int .i64 (w : Int), [], true) else none) else none
    else none
  | _ => none
noncomputable def conB (p w q : Nat) (f : FuncId) : Option ConF :=
  bif Nat.beq f 4 then some aLong else bif Nat.beq f 5 then some (aAt p w q) else none
noncomputable abbrev iB (base : Nat) (ts : Toks) (p w q : Nat) : Frn := frnOf base ts (conB p w q)
noncomputable def usB : List Nat := [6, 7, 8, 9, 10, 11, 13, 12, 14, 15, 16, 18, 19, 20, 21, 22, 23, 24, 25, 26, 27, 28, 17, 29, 30, 31]
noncomputable abbrev EL [Frn] : Env := ⟨Try.prog, ext, funD Try.prog ext (orcOf orcBq) usB 400 20, false, false⟩
noncomputable def lawC : Code := (Try.f3.body.getD .skip)
noncomputable def rest8 : Code := sb (sb (sb (sb (sb (sb (sb (sb lawC)))))))
noncomputable def rest7 : Code := sb (sb (sb (sb (sb (sb (sb lawC))))))
noncomputable def half7 : List Code := [sa lawC, sa (sb lawC), sa (sb (sb lawC)), sa (sb (sb (sb lawC))), sa (sb (sb (sb (sb lawC)))), sa (sb (sb (sb (sb (sb lawC))))), sa (sb (sb (sb (sb (sb (sb lawC))))))]
noncomputable def pc8 : Code := sa rest7
theorem rest_shape : rest7 = .seq pc8 rest8 := by kernel_rfl
theorem law_shape : lawC = seqs rest7 half7 := by kernel_rfl
theorem law_body : Try.f3.body = some lawC := by kernel_rfl
theorem law_ok : codeOk lawC = true := by kernel_rfl
theorem usB_ok : usB.all (funcOk Try.prog) = true := by kernel_rfl
noncomputable def isTok (k : Nat) : Value × Bool → Bool
  | (.slice (some ⟨k', 0, some 0⟩) _ _, true) => Nat.beq k' k
  | _ => false
noncomputable def isVal (z : Int) : Value × Bool → Bool
  | (.int .i64 z', true) => decide (z' = z)
  | _ => false
noncomputable def isPtr (b : Nat) : Value × Bool → Bool
  | (.pointer (some ⟨b', 0, none⟩), true) => Nat.beq b' b
  | _ => false
noncomputable def eqRow : List Nat → List Value → Bool
  | [], [] => true
  | a :: r, .float .f32 b :: s => Nat.beq a b && eqRow r s
  | _, _ => false
noncomputable def isRow (bs : List Nat) : Option (List Value) → Bool
  | some r => eqRow bs r
  | none => false
noncomputable def mid (p : Nat) (bs : List Nat) (s : St) : Bool := Nat.beq s.tmps.length 206 && (Nat.beq s.heap.length 20 && (s.ok && (isTok 0 (s.tmps.getD 0 (undef, false)) && (isVal p (s.tmps.getD 5 (undef, false)) && (isPtr 7 (s.tmps.getD 7 (undef, false)) && isRow bs (s.heap.getD 7 none))))))
/-- the places and the widths, as numbers -/
noncomputable def fP (p : Nat) : Nat := [0, 1065353216, 1073741824, 1077936128, 1082130432, 1084227584, 1086324736, 1088421888, 1090519040, 1091567616, 1092616192, 1093664768, 1094713344, 1095761920, 1096810496, 1097859072].getD p 0
noncomputable def fW (w : Nat) : Nat := [1048576000, 1056964608, 1061158912, 1065353216, 1067450368, 1069547520, 1071644672, 1073741824, 1074790400, 1075838976, 1076887552, 1077936128, 1078984704, 1080033280, 1081081856, 1082130432].getD w 0
noncomputable def run1 (base : Nat) (ts : Toks) (p w q l c l' c' : Nat) : Ans :=
  @codeL (iB base ts p w q) (@EL (iB base ts p w q)) 300 half7 (startS Try.f3 [tok 0 l c, tok 1 l' c'] []) (testK (mid p (bumpN (fP p) (fW w))))
/-- what the law asks of a bump, place by place -/
noncomputable def upOk (p i : Nat) (g : Nat → Nat) : Bool := !(((decide ((i : Int) ≤ p) && flt .f32 (g i) (g (i - 1))) || (decide ((p : Int) < i) && fgt .f32 (g i) (g (i - 1)))) || fle .f32 (g i) 0)
noncomputable def symOk (p i : Nat) (g : Nat → Nat) : Bool := bif Nat.ble i p && Nat.blt (p + i) 16 then !(fne .f32 (g (p - i)) (g (p + i))) else true
noncomputable def chk (p : Nat) (g : Nat → Nat) : Bool := (List.range 15).all fun k => upOk p (k + 1) g && symOk p (k + 1) g
noncomputable def ansB : Ans → Bool
  | some (.bool b, [], k) => b && k
  | _ => false
theorem ansB_of {a : Ans} (h : ansB a = true) : a = some (.bool true, [], true) := by
  unfold ansB at h
  split at h
  · rw [Bool.and_eq_true] at h
    rw [h.1, h.2]
  · cases h
noncomputable def case1 (base : Nat) (ts : Toks) (q l c l' c' p w : Nat) : Bool := ansB (run1 base ts p w q l c l' c') && chk p (fun k => (bumpN (fP p) (fW w)).getD k 0)
/-! ### the first loop -/
noncomputable def rowB (b : Nat → Nat) : List Value := (List.range 16).map fun k => .float .f32 (b k)
noncomputable def heapB (b : Nat → Nat) (x : Nat → Option (List Value)) : Heap := (List.range 20).map fun m => bif Nat.beq m 7 then some (rowB b) else x m
noncomputable def baseJ (p : Int) (l c : Nat) (j : J) : J := up (up (up j 0 (tok 0 l c, true)) 5 (vI p)) 7 (.pointer (some ⟨7, 0, none⟩), true)
noncomputable def loopJ (p i : Int) (l c : Nat) (j : J) : J := up (baseJ p l c j) 11 (vI i)
noncomputable def R9 : Code := sa pc8
noncomputable def Lp : Code := inn (inn (sb pc8))
noncomputable def R10 : Code := sa (sa Lp)
noncomputable def Cx10 : Code := sb (sa Lp)
noncomputable def R12 : Code := sa (sa (inn (sa (sb Lp))))
noncomputable def Cx12 : Code := sb (sa (inn (sa (sb Lp))))
noncomputable def R14 : Code := sa (sb (inn (sa (sb Lp))))
noncomputable def Cx14 : Code := sb (sb (inn (sa (sb Lp))))
noncomputable def R11 : Code := sb (sb Lp)
theorem pc8_shape : pc8 = .seq R9 (.block 0 (.loop (.seq (.seq R10 (.cond (cx Cx10) .skip (.exit 0))) (.seq (.block 1 (.seq (.seq R12 (.cond (cx Cx12) (ca Cx12) .skip)) (.seq R14 (.cond (cx Cx14) (ca Cx14) .skip)))) R11)))) := by kernel_rfl
def see (sl : List Nat) (s : St) : Nat × Heap × Bool × List (Value × Bool) := (s.tmps.length, s.heap, s.ok, sl.map fun i => s.tmps.getD i (undef, false))
def see' (sl : List Nat) (s : St) : Nat × Nat × Bool × List (Value × Bool) := (s.tmps.length, s.heap.length, s.ok, sl.map fun i => s.tmps.getD i (undef, false))
def F12 (d1 x d2 y ci ni cm nm : Bool) : Bool := (((((d1 && x) || (d2 && y)) || (decide (((d1 && x) || (d2 && y)) = false) && true)) && true) && ((((decide (((d1 && x) || (d2 && y)) = false) && true) && true) || (!decide (((d1 && x) || (d2 && y)) = false))) && ((((decide (((d1 && x) || (d2 && y)) = false) && true) && ci) || (!decide (((d1 && x) || (d2 && y)) = false))) && ((((decide (((d1 && x) || (d2 && y)) = false) && true) && ni) || (!decide (((d1 && x) || (d2 && y)) = false))) && ((((d1 && x) || (decide ((d1 && x) = false) && true)) && true) && ((((decide ((d1 && x) = false) && true) && ((bif d2 then (((decide ((d1 && x) = false) && true) && decide (d2 = true)) && true) else true) && true)) || (!decide ((d1 && x) = false))) && ((((((decide ((d1 && x) = false) && true) && decide (d2 = true)) && true) && (((decide ((d1 && x) = false) && true) && decide (d2 = true)) && true)) || (!((decide ((d1 && x) = false) && true) && decide (d2 = true)))) && ((((((decide ((d1 && x) = false) && true) && decide (d2 = true)) && true) && cm) || (!((decide ((d1 && x) = false) && true) && decide (d2 = true)))) && ((((((decide ((d1 && x) = false) && true) && decide (d2 = true)) && true) && nm) || (!((decide ((d1 && x) = false) && true) && decide (d2 = true)))) && ((((((decide ((d1 && x) = false) && true) && decide (d2 = true)) && true) && true) || (!((decide ((d1 && x) = false) && true) && decide (d2 = true)))) && ((((((decide ((d1 && x) = false) && true) && decide (d2 = true)) && true) && ci) || (!((decide ((d1 && x) = false) && true) && decide (d2 = true)))) && ((((((decide ((d1 && x) = false) && true) && decide (d2 = true)) && true) && ni) || (!((decide ((d1 && x) = false) && true) && decide (d2 = true)))) && (((decide ((d1 && x) = false) && true) || (!decide ((d1 && x) = false))) && ((((decide ((d1 && x) = false) && true) && (decide ((d1 && x) = false) && true)) || (!decide ((d1 && x) = false))) && (((bif d1 then (decide (d1 = true) && true) else true) && true) && ((((decide (d1 = true) && true) && (decide (d1 = true) && true)) || (!decide (d1 = true))) && ((((decide (d1 = true) && true) && cm) || (!decide (d1 = true))) && ((((decide (d1 = true) && true) && nm) || (!decide (d1 = true))) && ((((decide (d1 = true) && true) && true) || (!decide (d1 = true))) && ((((decide (d1 = true) && true) && ci) || (!decide (d1 = true))) && ((((decide (d1 = true) && true) && ni) || (!decide (d1 = true))) && true)))))))))))))))))))))
def F14 (e1 e2 n1 n2 c1 c2 : Bool) : Bool := (((bif (e1 && e2) then (decide ((e1 && e2) = true) && true) else true) && true) && ((((decide ((e1 && e2) = true) && true) && (decide ((e1 && e2) = true) && true)) || (!decide ((e1 && e2) = true))) && ((((decide ((e1 && e2) = true) && true) && c2) || (!decide ((e1 && e2) = true))) && ((((decide ((e1 && e2) = true) && true) && n2) || (!decide ((e1 && e2) = true))) && ((((decide ((e1 && e2) = true) && true) && (decide ((e1 && e2) = true) && true)) || (!decide ((e1 && e2) = true))) && ((((decide ((e1 && e2) = true) && true) && c1) || (!decide ((e1 && e2) = true))) && ((((decide ((e1 && e2) = true) && true) && n1) || (!decide ((e1 && e2) = true))) && ((((decide ((e1 && e2) = true) && true) && (decide ((e1 && e2) = true) && true)) || (!decide ((e1 && e2) = true))) && (((bif e1 then (decide (e1 = true) && true) else true) && true) && ((((decide (e1 = true) && true) && true) || (!decide (e1 = true))) && ((((decide (e1 = true) && true) && (decide (e1 = true) && true)) || (!decide (e1 = true))) && true)))))))))))
theorem F12_true (d1 x d2 y : Bool) : F12 d1 x d2 y true true true true = true := by cases d1 <;> cases x <;> cases d2 <;> cases y <;> rfl
theorem F14_true (e1 e2 n1 n2 c1 c2 : Bool) (h : (!(e1 && e2) || (n1 && n2 && c1 && c2)) = true) : F14 e1 e2 n1 n2 c1 c2 = true := by
  revert h
  cases e1 <;> cases e2 <;> cases n1 <;> cases n2 <;> cases c1 <;> cases c2 <;> decide
/-- a cell, and whether it is one -/
noncomputable def cellN (b : Nat → Nat) (k : Int) : Nat := numOf ((rowB b).getD (0 + k.toNat * 1) undef)
noncomputable def cellB (b : Nat → Nat) (k : Int) : Bool := (rowB b)[0 + k.toNat * 1]?.isSome && isNumB .f32 ((rowB b).getD (0 + k.toNat * 1) undef)
noncomputable def vP7 : Value × Bool := (.pointer (some ⟨7, 0, none⟩), true)
section
variable (ι : Frn) (l c : Nat) (x : Nat → Option (List Value)) (b : Nat → Nat) (j : J)
theorem r12 (p i : Int) : (@regionOf ι (@EL ι) R12 (S 206 (loopJ p i l c j) (heapB b x) true)).map (see [0, 5, 7, 11, 100]) = some (206, heapB b x,
    F12 (decide (i ≤ p)) (flt .f32 (cellN b i) (cellN b (IntKind.i64.wrap (i - 1)))) (decide (p < i)) (fgt .f32 (cellN b i) (cellN b (IntKind.i64.wrap (i - 1)))) (cellB b i) (inB i 16) (cellB b (IntKind.i64.wrap (i - 1))) (inB (IntKind.i64.wrap (i - 1)) 16),
    [(tok 0 l c, true), vI p, vP7, vI i, vB (((decide (i ≤ p) && flt .f32 (cellN b i) (cellN b (IntKind.i64.wrap (i - 1)))) || (decide (p < i) && fgt .f32 (cellN b i) (cellN b (IntKind.i64.wrap (i - 1))))) || fle .f32 (cellN b i) 0)]) := by kernel_rfl
theorem r14 (p i : Int) : (@regionOf ι (@EL ι) R14 (S 206 (loopJ p i l c j) (heapB b x) true)).map (see [0, 5, 7, 11, 123]) = some (206, heapB b x,
    F14 (decide (0 ≤ IntKind.i64.wrap (p - i))) (decide (IntKind.i64.wrap (p + i) < 16)) (inB (IntKind.i64.wrap (p - i)) 16) (inB (IntKind.i64.wrap (p + i)) 16) (cellB b (IntKind.i64.wrap (p - i))) (cellB b (IntKind.i64.wrap (p + i))),
    [(tok 0 l c, true), vI p, vP7, vI i, vB ((decide (0 ≤ IntKind.i64.wrap (p - i)) && decide (IntKind.i64.wrap (p + i) < 16)) && fne .f32 (cellN b (IntKind.i64.wrap (p - i))) (cellN b (IntKind.i64.wrap (p + i))))]) := by kernel_rfl
theorem r9 (p : Int) : @regionOf ι (@EL ι) R9 (S 206 (baseJ p l c j) (heapB b x) true) = some (S 206 (loopJ p 1 l c j) (heapB b x) true) := by kernel_rfl
theorem r10 (p i : Int) : @regionOf ι (@EL ι) R10 (S 206 (loopJ p i l c j) (heapB b x) true) = some (S 206 (loopJ p i l c (up (up j 63 (vI i)) 64 (vB (decide (i < 16))))) (heapB b x) true) := by kernel_rfl
theorem r11 (p : Int) (i : Nat) : @regionOf ι (@EL ι) R11 (S 206 (loopJ p i l c j) (heapB b x) true) = some (S 206 (loopJ p (IntKind.i64.wrap ((i : Int) + 1)) l c (up (up j 65 (vI i)) 66 (vI (IntKind.i64.wrap ((i : Int) + 1))))) (heapB b x) true) := by kernel_rfl
theorem x10 (p i : Int) (t : Bool) : evl (S 206 (loopJ p i l c (up j 64 (vB t))) (heapB b x) true).tmps (cx Cx10) = vB t := by kernel_rfl
theorem x12 (p i : Int) (t : Bool) : evl (S 206 (loopJ p i l c (up j 100 (vB t))) (heapB b x) true).tmps (cx Cx12) = vB t := by kernel_rfl
theorem x14 (p i : Int) (t : Bool) : evl (S 206 (loopJ p i l c (up j 123 (vB t))) (heapB b x) true).tmps (cx Cx14) = vB t := by kernel_rfl
end
/-! ### the second half -/
noncomputable def half6 : List Code := [sa rest8, sa (sb rest8), sa (sb (sb rest8)), sa (sb (sb (sb rest8))), sa (sb (sb (sb (sb rest8)))), sa (sb (sb (sb (sb (sb rest8)))))]
noncomputable def rest9 : Code := sb (sb (sb (sb (sb (sb rest8)))))
theorem shape8 : rest8 = seqs rest9 half6 := by kernel_rfl
noncomputable def pc9 : Code := sa rest9
noncomputable def end9 : Code := sb rest9
theorem shape9 : rest9 = .seq pc9 end9 := by kernel_rfl
noncomputable def R23 : Code := sa pc9
noncomputable def Lq : Code := inn (inn (sb pc9))
noncomputable def R24 : Code := sa (sa Lq)
noncomputable def Cx24 : Code := sb (sa Lq)
noncomputable def R26 : Code := sa (inn (sa (sb Lq)))
noncomputable def Cx26 : Code := sb (inn (sa (sb Lq)))
noncomputable def R25 : Code := sb (sb Lq)
theorem pc9_shape : pc9 = .seq R23 (.block 2 (.loop (.seq (.seq R24 (.cond (cx Cx24) .skip (.exit 2))) (.seq (.block 3 (.seq R26 (.cond (cx Cx26) (ca Cx26) .skip))) R25)))) := by kernel_rfl
noncomputable def rowE (e : Nat → Nat) : List Value := (List.range 48).map fun k => .float .f32 (e k)
noncomputable def heapC (e w d : Nat → Nat) (x : Nat → Option (List Value)) : Heap := (List.range 43).map fun m => bif Nat.beq m 21 then some (rowE e) else bif Nat.beq m 31 then some (rowB w) else bif Nat.beq m 40 then some (rowB d) else x m
noncomputable def vP (n : Nat) : Value × Bool := (.pointer (some ⟨n, 0, none⟩), true)
noncomputable def baseK (j : J) : J := up (up (up j 12 (vP 21)) 15 (vP 31)) 17 (vP 40)
noncomputable def loopK (i : Int) (j : J) : J := up (baseK j) 19 (vI i)
end Go.Proofs.Ytbodmmniiaggoaa
end
