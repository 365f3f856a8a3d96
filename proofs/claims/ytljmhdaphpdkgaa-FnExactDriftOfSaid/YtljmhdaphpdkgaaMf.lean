/-
  Means of counts: contracts of what the functions over a list answer, and both functions' own code over them. No condition.
-/
import Derived.Test.YtljmhdaphpdkgaaMe
set_option linter.unusedSectionVars false
set_option linter.unusedVariables false
noncomputable section
namespace Go.Proofs.Ytljmhdaphpdkgaa
namespace Mc
open Go Go.ChangeShapes Go.WideShapes Go.ChangeAt Go.RowKit Ev
abbrev CT := List Value → Heap → Option (Value × List (List Value) × Bool)
/-- a function answers a value to the list -/
def gB (V : Value) (k : Bool) : CT := fun args _ => match args with
  | [.slice (some ⟨0, 0, some 0⟩) _ _] => some (V, [], k)
  | _ => none
def gAt (l : Nat) (rw : Nat → List Value) (k : Bool) : CT := fun args h => match args with
  | [.slice (some ⟨0, 0, some 0⟩) _ _, .int .i64 w] => some (loc h.length l, [rw w.toNat], decide (0 ≤ w) && (decide (w < 16) && k))
  | _ => none
def gSu (su : List Value → Int) (kS : List Value → Nat → Bool) : CT := fun args h => match args with
  | [.slice (some ⟨b, 0, none⟩) l' _, .func (.func f) fs xs] => match h.getD b none with
    | some r => some (.int .i64 (su r), [], Nat.beq f 37 && (fs.toList.isEmpty && (xs.toList.isEmpty && kS r l')))
    | none => none
  | _ => none
/-- what tells the code of a list -/
def conC (b : Bool) (f : FuncId) : Option CT :=
  bif Nat.beq f 13 then some (gB (.bool b) true) else bif Nat.beq f 24 then some (gB (.bool b) true) else none
noncomputable abbrev EC [Frn] : Env := conE Try.prog noOrc (fun f => seek f [])
noncomputable def kC1 : Code := (Try.f21.body.getD .skip)
noncomputable def kC2 : Code := (Try.f18.body.getD .skip)
def codeV (b : Bool) (l : Nat) : Int := bif b then (bif decide ((l : Int) = 0) then 6 else 0) else 1
section
variable (base : Nat) (v : Value) (l c : Nat) (cs : List Value)
theorem c1_eval (b : Bool) : @codeK (frnOf base [(v, l, cs)] (conC b)) (@EC (frnOf base [(v, l, cs)] (conC b))) 20 kC1 (startS Try.f21 [tok 0 l c] []) (@finK (frnOf base [(v, l, cs)] (conC b)) Try.prog Try.f21) =
    bif !b then some (.int .i64 1, [], true) else bif decide ((l : Int) = 0) then some (.int .i64 6, [], true) else some (.int .i64 0, [], true) := by kernel_rfl
theorem c2_eval (b : Bool) : @codeK (frnOf base [(v, l, cs)] (conC b)) (@EC (frnOf base [(v, l, cs)] (conC b))) 20 kC2 (startS Try.f18 [tok 0 l c] []) (@finK (frnOf base [(v, l, cs)] (conC b)) Try.prog Try.f18) =
    bif !b then some (.int .i64 1, [], true) else bif decide ((l : Int) = 0) then some (.int .i64 6, [], true) else some (.int .i64 0, [], true) := by kernel_rfl
end
def conM (l : Nat) (n : Int) (rw : Nat → List Value) (su : List Value → Int) (kS : List Value → Nat → Bool) (V : Value) (k k2 : Bool) (f : FuncId) : Option CT :=
  bif Nat.beq f 21 then some (gB (.int .i64 n) true) else bif Nat.beq f 18 then some (gB (.int .i64 n) true) else
  bif Nat.beq f 36 then some (gAt l rw k) else bif Nat.beq f 35 then some (gSu su kS) else
  bif Nat.beq f 19 then some (gB V k2) else none
def usI : List Nat := [9, 22, 33, 34]
def usS : List Nat := [7]
def orcT : List (Nat × Sig) := [(38, cntO)]
def fI (base : Nat) (v : Value) (l : Nat) (cs : List Value) (n : Int) (rw : Nat → List Value) (su : List Value → Int) (kS : List Value → Nat → Bool) (V : Value) (k k2 : Bool) (us : List Nat) (f : Nat) (c : Nat) :=
  @funD (frnOf base [(v, l, cs)] (conM l n rw su kS V k k2)) Try.prog noOrc (fun f => seek f orcT) us 60 12 f [tok 0 l c] []
/-- what must be so at a wavelength, and at the first ones -/
def gW (l : Nat) (rw : Nat → List Value) (su : List Value → Int) (kS : List Value → Nat → Bool) (k : Bool) (w : Nat) : Bool := kC (l : Int) && (kC (su (rw w)) && (kS (rw w) l && (k && true)))
def gAll (l : Nat) (rw : Nat → List Value) (su : List Value → Int) (kS : List Value → Nat → Bool) (k : Bool) : Nat → Bool
  | 0 => true
  | n + 1 => gW l rw su kS k n && gAll l rw su kS k n
def ansM (f : Nat → Int) (n : Int) : Value := .tuple #[.agg (q16 f).toArray, .int .i64 n]
section
variable (base : Nat) (v : Value) (l c : Nat) (cs : List Value) (rw : Nat → List Value) (su : List Value → Int) (kS : List Value → Nat → Bool) (V : Value) (f : Nat → Int) (k k2 : Bool)
theorem i0_eval : (fI base v l cs 0 rw su kS V k k2 usI 9 c).map (fun r => (r.1, r.2.2)) = some (ansM (fun w => mV (su (rw w)) l) 0, (gAll l rw su kS k 16 && true) && true) := by kernel_rfl
theorem i1_eval : (fI base v l cs 1 rw su kS V k k2 usI 9 c).map (fun r => (r.1, r.2.2)) = some (ansM (fun _ => 0) 1, true) := by kernel_rfl
theorem i6_eval : (fI base v l cs 6 rw su kS V k k2 usI 9 c).map (fun r => (r.1, r.2.2)) = some (ansM (fun _ => 0) 6, true) := by kernel_rfl
theorem s0_eval : (fI base v l cs 0 rw su kS (.agg (q16 f).toArray) k k2 usS 7 c).map (fun r => (r.1, r.2.2)) = some (ansM f 0, k2 && true) := by kernel_rfl
theorem s1_eval : (fI base v l cs 1 rw su kS V k k2 usS 7 c).map (fun r => (r.1, r.2.2)) = some (ansM (fun _ => 0) 1, true) := by kernel_rfl
theorem s6_eval : (fI base v l cs 6 rw su kS V k k2 usS 7 c).map (fun r => (r.1, r.2.2)) = some (ansM (fun _ => 0) 6, true) := by kernel_rfl
end
end Mc
end Go.Proofs.Ytljmhdaphpdkgaa
end
