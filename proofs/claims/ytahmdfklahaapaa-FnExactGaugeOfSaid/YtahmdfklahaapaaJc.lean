/-
  The gauge of samples: contracts over two lists, and both functions' own code over them. No condition.
-/
import Derived.Test.YtahmdfklahaapaaJb
set_option linter.unusedSectionVars false
set_option linter.unusedVariables false
noncomputable section
namespace Go.Proofs.Ytahmdfklahaapaa
namespace Gf
open Go Go.ChangeShapes Go.WideShapes Go.ChangeAt Go.RowKit Ev Mc
theorem mc_eval (base : Nat) (v : Value) (l c : Nat) (cs : List Value) (n : Int) (rw : Nat → List Value) (su : List Value → Int) (kS : List Value → Nat → Bool) (V : Value) (k k2 : Bool) :
    (fI base v l cs n rw su kS V k k2 usI 22 c).map (fun r => (r.1, r.2.2)) = some (.agg (q16 (fun w => mV (su (rw w)) l)).toArray, gAll l rw su kS k 16 && true) := by kernel_rfl
/-- a function answers one value to either list -/
def gT (V0 V1 : Value) (k0 k1 : Bool) : CT := fun args _ => match args with
  | [.slice (some ⟨t, 0, some 0⟩) _ _] => bif Nat.beq t 0 then some (V0, [], k0) else bif Nat.beq t 1 then some (V1, [], k1) else none
  | _ => none
/-- is the gauge at a pointer valid -/
def gOk (B : Bool) (kG : List Value → Bool) : CT := fun args h => match args with
  | [.pointer (some ⟨b, 0, none⟩)] => match h.getD b none with
    | some r => some (.bool B, [], kG r)
    | none => none
  | _ => none
def vgO (B : Bool) (kG : List Value → Bool) : Sig
  | [.agg xs] => some (.bool B, kG xs.toList)
  | _ => none
def conJ (b0 b1 : Bool) (F0 F1 : Nat → Int) (k0 k1 q0 q1 B : Bool) (kG : List Value → Bool) (f : FuncId) : Option CT :=
  bif Nat.beq f 17 then some (gT (.bool b0) (.bool b1) true true) else bif Nat.beq f 24 then some (gT (.bool b0) (.bool b1) true true) else
  bif Nat.beq f 22 then some (gT (.agg (q16 F0).toArray) (.agg (q16 F1).toArray) k0 k1) else bif Nat.beq f 19 then some (gT (.agg (q16 F0).toArray) (.agg (q16 F1).toArray) q0 q1) else
  bif Nat.beq f 25 then some (gOk B kG) else none
noncomputable abbrev EJ [Frn] (B : Bool) (kG : List Value → Bool) : Env := conE Try.prog noOrc (fun f => seek f [(26, vgO B kG)])
noncomputable def iC : Code := (Try.f14.body.getD .skip)
noncomputable def sC : Code := (Try.f12.body.getD .skip)
def kn (f : Nat → Nat) : List Value := (List.range 16).map fun j => .float .f32 (f j)
abbrev two (v : Value) (l : Nat) (cs : List Value) (v2 : Value) (l2 : Nat) (ds : List Value) : Toks := [(v, l, cs), (v2, l2, ds)]
/-- the gauge's cells -/
def gz (F0 F1 : Nat → Int) (f : Nat → Nat) : List Value := q16 F0 ++ (q16 F1 ++ (kn f ++ [.float .f32 0]))
def ansG (F0 F1 : Nat → Int) (f : Nat → Nat) (n : Int) : Value := .tuple #[.agg (gz F0 F1 f).toArray, .int .i64 n]
section
variable (base l c l2 c2 : Nat) (v v2 : Value) (cs ds : List Value) (b0 b1 : Bool) (F0 F1 : Nat → Int) (k0 k1 q0 q1 B : Bool) (kG : List Value → Bool) (f : Nat → Nat)
noncomputable def fG (C : Code) (fn : Func) := (@codeK (frnOf base (two v l cs v2 l2 ds) (conJ b0 b1 F0 F1 k0 k1 q0 q1 B kG)) (@EJ (frnOf base (two v l cs v2 l2 ds) (conJ b0 b1 F0 F1 k0 k1 q0 q1 B kG)) B kG) 60 C (startS fn [tok 0 l c, tok 1 l2 c2, .agg (kn f).toArray] []) (fun e s => (@finK (frnOf base (two v l cs v2 l2 ds) (conJ b0 b1 F0 F1 k0 k1 q0 q1 B kG)) Try.prog fn e s).map eraseH))
def fb (x : Bool) : Bool := ((((!x) || (decide ((!x) = false) && true)) && true) && (((decide ((!x) = false) && true) || (!decide ((!x) = false))) && (((((decide ((!x) = false) && true) && true) && true) || (!decide ((!x) = false))) && true)))
def fl2 (x R : Bool) : Bool := (((x || (decide (x = false) && true)) && true) && ((((decide (x = false) && true) && true) || (!decide (x = false))) && (((decide (x = false) && true) || (!decide (x = false))) && R)))
theorem fb_true (x : Bool) : fb x = true := by cases x <;> rfl
theorem fl2_eq (x R : Bool) : fl2 x R = R := by cases x <;> cases R <;> rfl
def zI : Nat → Int := fun _ => 0
def zN0 : Nat → Nat := fun _ => 0
theorem i_eval : fG base l c l2 c2 v v2 cs ds b0 b1 F0 F1 k0 k1 q0 q1 B kG f iC Try.f14 =
    bif (!b0) || (!b1) then some (ansG zI zI zN0 1, [], fb b0) else bif decide ((l : Int) = 0) || decide ((l2 : Int) = 0) then some (ansG zI zI zN0 6, [], fl2 (decide ((l : Int) = 0)) (fb b0)) else
    bif !B then some (ansG zI zI zN0 4, [], kG (gz F0 F1 f) && (k1 && (k0 && fl2 (decide ((l : Int) = 0)) (fb b0)))) else some (ansG F0 F1 f 0, [], kG (gz F0 F1 f) && (k1 && (k0 && fl2 (decide ((l : Int) = 0)) (fb b0)))) := by kernel_rfl
theorem s_eval : fG base l c l2 c2 v v2 cs ds b0 b1 F0 F1 k0 k1 q0 q1 B kG f sC Try.f12 =
    bif (!b0) || (!b1) then some (ansG zI zI zN0 1, [], fb b0) else bif decide ((l : Int) = 0) || decide ((l2 : Int) = 0) then some (ansG zI zI zN0 6, [], fl2 (decide ((l : Int) = 0)) (fb b0)) else
    bif !B then some (ansG zI zI zN0 4, [], kG (gz F0 F1 f) && (q1 && (q0 && fl2 (decide ((l : Int) = 0)) (fb b0)))) else some (ansG F0 F1 f 0, [], kG (gz F0 F1 f) && (q1 && (q0 && fl2 (decide ((l : Int) = 0)) (fb b0)))) := by kernel_rfl
end
end Gf
end Go.Proofs.Ytahmdfklahaapaa
end
