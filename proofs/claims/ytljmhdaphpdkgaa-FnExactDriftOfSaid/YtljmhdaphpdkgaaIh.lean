/-
  Drift: the model's code, its pieces. No condition.
-/
import Derived.Test.YtljmhdaphpdkgaaIg
set_option linter.unusedSectionVars false
set_option linter.unusedVariables false
noncomputable section
namespace Go.Proofs.Ytljmhdaphpdkgaa
namespace Dr
open Go Go.ChangeShapes Go.WideShapes Go.ChangeAt Go.RowKit Ev Mc
/-- the model's contracts: is the gauge valid, are the samples -/
def conS (B b : Bool) (kG : List Value → Bool) (f : FuncId) : Option CT := bif Nat.beq f 26 then some (fun args h => match args with
    | [.pointer (some ⟨b, 0, none⟩)] => match h.getD b none with
      | some r => some (.bool B, [], kG r)
      | none => none
    | _ => none)
  else bif Nat.beq f 24 then some (gB (.bool b) true) else none
noncomputable abbrev ES [Frn] : Env := conE Try.prog noOrc (fun f => seek f [])
noncomputable def mC : Code := (Try.f14.body.getD .skip)
theorem m_body : Try.f14.body = some mC := by kernel_rfl
noncomputable def m0 : Code := sa mC
noncomputable def m1 : Code := sa (sb mC)
noncomputable def m2 : Code := sa (sb (sb mC))
noncomputable def m5 : Code := sa (sb (sb (sb mC)))
noncomputable def m6 : Code := sa (sb (sb (sb (sb mC))))
noncomputable def m10 : Code := sa (sb (sb (sb (sb (sb mC)))))
noncomputable def m11 : Code := sa (sb (sb (sb (sb (sb (sb mC))))))
noncomputable def mX : Code := sb (sb (sb (sb (sb (sb (sb mC))))))
noncomputable def m12 : Code := sa (sa mX)
noncomputable def mL : Code := inn (inn (sb (sa mX)))
noncomputable def m13 : Code := sa (sa mL)
noncomputable def m13c : Code := sb (sa mL)
noncomputable def mP : Code := sb mL
noncomputable def mE : Code := sb mX
noncomputable def mB : Code := .seq (.seq m13 (.cond (cx m13c) .skip (.exit 2))) mP
theorem m_shape : mC = seqs (.seq (.seq m12 (.block 2 (.loop mB))) mE) [m0, m1, m2, m5, m6, m10, m11] := by kernel_rfl
def wsl : List Nat := [1, 2, 4, 5, 6, 8, 9, 10]
def wsl0 : List Nat := [1, 2, 4, 5, 6, 8, 9]
def wlv (l c : Nat) (wv : Int) (xy xx : Nat) (k : Int) : List (Value × Bool) := [vT 0 l c, vP 0, vFl 0, vI 0, vI wv, vFl xy, vFl xx, vI k]
noncomputable def W (l c : Nat) (wv : Int) (xy xx : Nat) (k : Int) (h : Heap) (j : J) : St := S 112 (ups (wsl.zip (wlv l c wv xy xx k)) j) h true
def Hg (z : Nat → Int) (f : Nat → Nat) : Heap := [some (Lg.gr z f), none, none]
def whI (z : Nat → Int) : Int := abS z (fun w => z (16 + w)) 16
/-- a sample's cells, by the row -/
def nM (cs : List Value) (k w : Nat) : Int := Ev.intOf (cs.getD (k * 17 + 1 + w) undef)
def tM (cs : List Value) (k : Nat) : Int := Ev.intOf (cs.getD (k * 17 + 0) undef)
def eC (C : Code) (base : Nat) (v : Value) (l c : Nat) (cs : List Value) (B b : Bool) (kG : List Value → Bool) (z : Nat → Int) (f : Nat → Nat) :=
  @codeK (frnOf base [(v, l, cs)] (conS B b kG)) (@ES (frnOf base [(v, l, cs)] (conS B b kG))) 60 C (startS Try.f14 [.agg (Lg.gr z f).toArray, tok 0 l c] []) (fun e s => (@finK (frnOf base [(v, l, cs)] (conS B b kG)) Try.prog Try.f14 e s).map eraseH)
def yM (wv : Int) (z n : Nat → Int) : Nat := fsub .f32 (fdiv .f32 (nr (abS z n 16)) (nr wv)) 1065353216
def cM (cs : List Value) (k w : Nat) : Bool := cs[k * 17 + 1 + w]?.isSome && isIntB .i16 (cs.getD (k * 17 + 1 + w) undef)
def cT (cs : List Value) (k : Nat) : Bool := cs[k * 17 + 0]?.isSome && isIntB .i64 (cs.getD (k * 17 + 0) undef)
def gC (cs : List Value) (k l : Nat) : Nat → Bool
  | 0 => true
  | w + 1 => cM cs k w && (inB (k : Int) l && gC cs k l w)
def gM (cs : List Value) (z : Nat → Int) (wv : Int) (k l : Nat) : Bool := kC (tM cs k) && (cT cs k && (inB (k : Int) l && (kC wv && (kC (abS z (nM cs k) 16) && gC cs k l 16))))
section
variable (ι : Frn) (base : Nat) (v : Value) (l c i m : Nat) (cs : List Value) (B b : Bool) (kG : List Value → Bool) (z : Nat → Int) (f : Nat → Nat) (xy xx : Nat) (wv : Int) (j : J)
theorem e_bad : eC mC base v l c cs false b kG z f = some (.tuple #[.float .f32 0, .int .i64 1], [], kG (Lg.gr z f) && true) := by kernel_rfl
theorem e_bad2 : eC mC base v l c cs true false kG z f = some (.tuple #[.float .f32 0, .int .i64 1], [], kG (Lg.gr z f) && true) := by kernel_rfl
theorem e_none : eC mC base v 0 c cs true true kG z f = some (.tuple #[.float .f32 0, .int .i64 6], [], kG (Lg.gr z f) && true) := by kernel_rfl
theorem m_pre : @codeL (frnOf base [(v, m + 1, cs)] (conS true true kG)) (@ES (frnOf base [(v, m + 1, cs)] (conS true true kG))) 60 [m0, m1, m2, m5, m6, m10, m11] (startS Try.f14 [.agg (Lg.gr z f).toArray, tok 0 (m + 1) c] []) (capP 112 wsl0 []) = some (.tuple (([vT 0 (m + 1) c, vP 0, vFl 0, vI 0, vI (whI z), vFl 0, vFl 0] : List (Value × Bool)).map encP).toArray, Hg z f, kG (Lg.gr z f) && true) := by kernel_rfl
theorem m_r12 : @codeK ι (@ES ι) 60 m12 (S 112 (ups (wsl0.zip [vT 0 l c, vP 0, vFl 0, vI 0, vI wv, vFl 0, vFl 0]) j) (Hg z f) true) (capP 112 wsl []) = some (.tuple ((wlv l c wv 0 0 ((0 : Nat) : Int)).map encP).toArray, Hg z f, true) := by kernel_rfl
theorem m_r13 (k : Nat) : @codeK ι (@ES ι) 60 m13 (W l c wv xy xx k (Hg z f) j) (capP 112 (46 :: wsl) []) = some (.tuple ((vB (decide ((k : Int) < (l : Int))) :: wlv l c wv xy xx k).map encP).toArray, Hg z f, true) := by kernel_rfl
theorem m_p0 : @codeK ι (@ES ι) 60 mP (W l c wv xy xx ((0 : Nat) : Int) (Hg z f) j) (capP 112 wsl []) = some (.tuple ((wlv l c wv (fmul .f32 (nr (tM (Frn.row 0) 0)) (yM wv z (nM (Frn.row 0) 0))) (fmul .f32 (nr (tM (Frn.row 0) 0)) (nr (tM (Frn.row 0) 0))) ((1 : Nat) : Int)).map encP).toArray, Hg z f, gM (Frn.row 0) z wv 0 l) := by kernel_rfl
theorem m_pS : @codeK ι (@ES ι) 60 mP (W l c wv xy xx ((i + 1 : Nat) : Int) (Hg z f) j) (capP 112 wsl []) = some (.tuple ((wlv l c wv (fadd .f32 xy (fmul .f32 (nr (tM (Frn.row 0) (i + 1))) (yM wv z (nM (Frn.row 0) (i + 1))))) (fadd .f32 xx (fmul .f32 (nr (tM (Frn.row 0) (i + 1))) (nr (tM (Frn.row 0) (i + 1))))) (IntKind.i64.wrap (((i + 1 : Nat) : Int) + 1))).map encP).toArray, Hg z f, gM (Frn.row 0) z wv (i + 1) l) := by kernel_rfl
def ansD (d : Nat) (n : Int) : Value := .tuple #[.float .f32 d, .int .i64 n]
def kD (c : Bool) : Bool := (((bif c then (decide (c = true) && true) else true) && true) && ((((decide (c = true) && true) && true) || (!decide (c = true))) && true))
theorem kD_true (c : Bool) : kD c = true := by cases c <;> rfl
theorem m_fin : (@codeK ι (@ES ι) 60 mE (W l c wv xy xx l (Hg z f) j) (fun e s => (@finK ι Try.prog Try.f14 e s).map eraseH)) =
    bif feq .f32 xx 0 then some (ansD 0 4, [], true) else bif !(fge .f32 (fdiv .f32 xy xx) loF && fle .f32 (fdiv .f32 xy xx) hiF) then some (ansD 0 4, [], kD (fge .f32 (fdiv .f32 xy xx) loF)) else some (ansD (fdiv .f32 xy xx) 0, [], kD (fge .f32 (fdiv .f32 xy xx) loF)) := by kernel_rfl
end
end Dr
end Go.Proofs.Ytljmhdaphpdkgaa
end
