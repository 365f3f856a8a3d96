/-
  Curves that are the same: program and model answer one Boolean, told by a name. No condition.
-/
import Derived.Test.YtobajdokfkimdaaY
import Derived.Test.YtobajdokfkimdaaSy
import Derived.Test.YtobajdokfkimdaaSz
import Derived.Test.YtobajdokfkimdaaEt
set_option linter.unusedSectionVars false
set_option linter.unusedVariables false
noncomputable section
namespace Go.Proofs.Ytobajdokfkimdaa
namespace Za
open Go Go.ChangeShapes Go.WideShapes Go.ChangeAt Go.RowKit Ev Sx
def A16 : List SV := (List.range 16).map fun j => .f .f32 (j + 2)
def B16 : List SV := (List.range 16).map fun j => .f .f32 (j + 18)
def us : List Nat := [141, 142, 171]
def jA : Job := ⟨141, [.agg A16, .agg B16], []⟩
def jB : Job := ⟨142, [.agg A16, .agg B16], []⟩
theorem s_run : @pair2B noSFrn Try.prog symE symY us 300 30 32 [] [] jA jB [.one .b] = true := by kernel_rfl
/-! ### the name -/
def r16 (f : Nat → Nat) : List Value := (List.range 16).map fun j => .float .f32 (f j)
def fN (cs : List Value) (j : Nat) : Nat := match cs.getD j undef with
  | .float _ b => b
  | _ => 0
theorem row_of {cs : List Value} (h : shapeB (List.replicate 16 (.f .f32)) cs = true) : cs = r16 (fN cs) := by
  have h : shapeB (List.replicate 16 (.f .f32) ++ []) cs = true := h
  obtain ⟨l, ys, rfl, hl, h2⟩ := shape_fl h
  have : ys = [] := by
    cases ys with
    | nil => rfl
    | cons y ys => cases h2
  subst this
  rw [List.append_nil]
  refine List.ext_getElem? fun i => ?_
  unfold r16
  rw [List.getElem?_map]
  by_cases hi : i < 16
  · have e : (fl .f32 l)[i]? = some (.float .f32 l[i]) := by
      unfold fl
      rw [List.getElem?_map, List.getElem?_eq_getElem (by omega)]; rfl
    rw [List.getElem?_range hi, Option.map_some, e]
    unfold fN
    rw [List.getD_eq_getElem?_getD, e]; rfl
  · rw [List.getElem?_eq_none (by unfold fl; simp; omega), List.getElem?_eq_none (by simp; omega)]; rfl
def rho (f g : Nat → Nat) (j : Nat) : Int := bif Nat.blt j 16 then Int.ofNat (f j) else Int.ofNat (g (j - 16))
theorem aA (f g : Nat → Nat) : jA.args.map (conc (gW (rho f g) 32 [])) = [.agg (r16 f).toArray, .agg (r16 g).toArray] := by kernel_rfl
theorem aB (f g : Nat → Nat) : jB.args.map (conc (gW (rho f g) 32 [])) = [.agg (r16 f).toArray, .agg (r16 g).toArray] := by kernel_rfl
theorem one_bool {V : Value} (h : fitR [.one .b] V) : ∃ b, V = .bool b := by
  obtain ⟨vs, rfl, hfit⟩ := h
  match vs, hfit with
  | [v], h =>
    have h : (fitP (.one .b) v && true) = true := h
    rw [Bool.and_true] at h
    cases v with
    | bool b => exact ⟨b, rfl⟩
    | _ => cases h
  | [], h => cases h
  | v :: _ :: _, h =>
    have h : (fitP (.one .b) v && false) = true := h
    rw [Bool.and_false] at h
    cases h
theorem s_val (f g : Nat → Nat) : ∃ b : Bool,
    (∃ h', @funD noFrn Try.prog (fun f => seek f extX) (fun f => seek f orcY) us 300 30 141 [.agg (r16 f).toArray, .agg (r16 g).toArray] [] = some (.bool b, h', true)) ∧
    ∃ h', @funD noFrn Try.prog (fun f => seek f extX) (fun f => seek f orcY) us 300 30 142 [.agg (r16 f).toArray, .agg (r16 g).toArray] [] = some (.bool b, h', true) := by
  obtain ⟨V, hV, hf⟩ := @pair2_run noSFrn Try.prog symE symY (fun f => seek f extX) (fun f => seek f orcY) us 300 30 32 [] [] jA jB [.one .b] (fun _ _ => .i 0) (rho f g) (fun F hB _ => symER F (rho f g) hB) (fun F hB _ => symYR F (rho f g) hB)
    (fun k => rfl) s_run trivial
  obtain ⟨b, rfl⟩ := one_bool hV
  refine ⟨b, ?_⟩
  obtain ⟨⟨h1, e1, _⟩, ⟨h2, e2, _⟩⟩ := hf noFrn (fun k => rfl) (fun F hB _ f g h => by cases h)
  rw [aA] at e1
  rw [aB] at e2
  exact ⟨⟨h1, e1⟩, ⟨h2, e2⟩⟩
def scX (cs ds : List Value) : Bool := Classical.choose (s_val (fN cs) (fN ds))
theorem scX_spec (cs ds : List Value) : (∃ h', @funD noFrn Try.prog (fun f => seek f extX) (fun f => seek f orcY) us 300 30 141 [.agg (r16 (fN cs)).toArray, .agg (r16 (fN ds)).toArray] [] = some (.bool (scX cs ds), h', true)) ∧
    ∃ h', @funD noFrn Try.prog (fun f => seek f extX) (fun f => seek f orcY) us 300 30 142 [.agg (r16 (fN cs)).toArray, .agg (r16 (fN ds)).toArray] [] = some (.bool (scX cs ds), h', true) := Classical.choose_spec (s_val (fN cs) (fN ds))
def scS : Sig
  | [.agg xs, .agg ys] => some (.bool (scX xs.toList ys.toList), shapeB (List.replicate 16 (.f .f32)) xs.toList && shapeB (List.replicate 16 (.f .f32)) ys.toList)
  | _ => none
theorem bare16 {xs : Array Value} (h : shapeB (List.replicate 16 (.f .f32)) xs.toList = true) : bareP (.agg xs) = true := shape_bare h
theorem scS_bare : BareSig scS := fun args v he => by
  unfold scS at he
  split at he
  · rename_i xs ys
    simp only [Option.some.injEq, Prod.mk.injEq, Bool.and_eq_true] at he
    obtain ⟨rfl, h1, h2⟩ := he
    refine ⟨?_, rfl⟩
    rw [List.all_cons, List.all_cons, bare16 h1, bare16 h2]; rfl
  · cases he
theorem us_ok : us.all (funcOk Try.prog) = true := by kernel_rfl
theorem plain16 {xs : Array Value} (h : shapeB (List.replicate 16 (.f .f32)) xs.toList = true) : plainB (.agg xs) = true := by
  have := shape_bare h
  show xs.toList.all flatB = true
  rw [List.all_eq_true] at this ⊢
  intro v hv
  have := this v hv
  cases v <;> first | rfl | cases this
theorem sc_one {fn : Nat} (hb : hasBody Try.prog fn = true) (hs : ∀ cs ds, ∃ h', @funD noFrn Try.prog (fun f => seek f extX) (fun f => seek f orcY) us 300 30 fn [.agg (r16 (fN cs)).toArray, .agg (r16 (fN ds)).toArray] [] = some (.bool (scX cs ds), h', true)) {ι : Frn} : @OrcOne ι Try.prog fn scS := by
  refine orc_any (?_ : @OrcOne noFrn Try.prog fn scS) scS_bare
  refine orc_one (us := us) (cf := 300) (d := 30) mixed us_ok (l0 := orcY) (lx := extX) extXOk orcYOk hb fun args v k he hk hx => ?_
  unfold scS at he
  split at he
  · rename_i xs ys
    simp only [Option.some.injEq, Prod.mk.injEq] at he
    obtain ⟨rfl, rfl⟩ := he
    rw [Bool.and_eq_true] at hk
    obtain ⟨h', e⟩ := hs xs.toList ys.toList
    have e1 : xs = (r16 (fN xs.toList)).toArray := Array.ext' (row_of hk.1)
    have e2 : ys = (r16 (fN ys.toList)).toArray := Array.ext' (row_of hk.2)
    rw [← e1, ← e2] at e
    refine ⟨?_, rfl, h', e⟩
    rw [List.all_cons, List.all_cons, plain16 hk.1, plain16 hk.2]; rfl
  · cases he
theorem scM_one {ι : Frn} : @OrcOne ι Try.prog 141 scS := sc_one (by kernel_rfl) fun cs ds => (scX_spec cs ds).1
theorem scI_one {ι : Frn} : @OrcOne ι Try.prog 142 scS := sc_one (by kernel_rfl) fun cs ds => (scX_spec cs ds).2
end Za
end Go.Proofs.Ytobajdokfkimdaa
end
