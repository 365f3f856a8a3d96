/-
  Layers: contracts of what tells whether one is valid, of its film, and of films over backings, wherever they lie. No condition.
-/
import Derived.Test.YtfgomdngffaffaaFg
import Derived.Test.YtfgomdngffaffaaFo
import Derived.Test.YtfgomdngffaffaaFh
import Derived.Test.YtfgomdngffaffaaFp
set_option linter.unusedSectionVars false
set_option linter.unusedVariables false
noncomputable section
namespace Go.Proofs.Ytfgomdngffaffaa
namespace Ct
open Go Go.ChangeShapes Go.WideShapes Go.ChangeAt Go.RowKit Ev Sx

abbrev ConF := List Value → Heap → Option (Value × List (List Value) × Bool)
abbrev noFG : FuncId → Option ConF := fun _ => none
def rho (f : Nat → Nat) (j : Nat) : Int := Int.ofNat (f j)
def rho2 (f g : Nat → Nat) (j : Nat) : Int := bif Nat.blt j 48 then Int.ofNat (f j) else Int.ofNat (g (j - 48))
theorem conc33 (f : Nat → Nat) : (LSn 33).map (conc (gW (rho f) 33 [])) = rowL f 33 := by kernel_rfl
theorem conc48 (f g : Nat → Nat) : (LSn 48).map (conc (gW (rho2 f g) 64 [])) = rowL f 48 := by kernel_rfl
theorem conc16 (f g : Nat → Nat) : Fp.B16.map (conc (gW (rho2 f g) 64 [])) = rowL g 16 := by kernel_rfl
theorem noC {ι : Frn} {S : SFrn} (hS : ∀ f, S.con f = none) {F : Tab} {ρ : Nat → Int} {U : Nat → Vl → Vl} : ∀ f g, S.con f = some g → ∃ G, ι.con f = some G ∧ ∀ pc args h, Sx.Spec F (g pc args h) (fun v => pcH F ρ U pc → G (cvl F ρ U args) (hpc F ρ U h) = some (cv F ρ U v, [], true)) := fun f g h => by
  rw [hS f] at h; cases h
theorem one_bool {V : Value} (h : fitR [.one .b] V) : ∃ b, V = .bool b := by
  obtain ⟨vs, rfl, hfit⟩ := h
  match vs, hfit with
  | [v], h =>
    have h : (fitP (.one .b) v && true) = true := h
    rw [Bool.and_true] at h
    cases v with
    | bool b => exact ⟨b, rfl⟩
    | _ => cases h
  | [], h => cases h
  | v :: _ :: _, h =>
    have h : (fitP (.one .b) v && false) = true := h
    rw [Bool.and_false] at h
    cases h
/-! ### is it valid? -/
abbrev extR : Orc := fun f => seek f extX
abbrev orcR : Orc := fun f => seek f (orcG Try.prog)
theorem k_val (f : Nat → Nat) : ∃ b : Bool,
    (∃ h', @funD noFrn Try.prog extR orcR Fg.us 300 30 25 [.pointer (some ⟨0, 0, none⟩)] [some (rowL f 33)] = some (.bool b, h', true)) ∧
    ∃ h', @funD noFrn Try.prog extR orcR Fg.us 300 30 41 [.agg (rowL f 33).toArray] [] = some (.bool b, h', true) := by
  have hc := conc33 f
  obtain ⟨V, hV, hf⟩ := @pair2_run noSFrn Try.prog symE (symG Try.prog) extR orcR Fg.us 300 30 33 [] [] Fg.cA Fg.kB [.one .b] (fun _ _ => .i 0) (rho f) (fun F hB _ => symER F (rho f) hB) (fun F hB _ => symGR F (rho f) hB)
    (fun k => rfl) Fg.k_run trivial
  obtain ⟨b, rfl⟩ := one_bool hV
  refine ⟨b, ?_⟩
  obtain ⟨⟨h1, e1, _⟩, ⟨h2, e2, _⟩⟩ := hf noFrn (fun k => rfl) (fun F hB _ => noC (fun f => rfl))
  refine ⟨⟨h1, ?_⟩, ⟨h2, ?_⟩⟩
  · have eh : concH (gW (rho f) 33 []) Fg.cA.heap = [some (rowL f 33)] := by kernel_rfl
    have ea : Fg.cA.args.map (conc (gW (rho f) 33 [])) = [.pointer (some ⟨0, 0, none⟩)] := by kernel_rfl
    rw [eh, ea] at e1
    exact e1
  · have ea : Fg.kB.args.map (conc (gW (rho f) 33 [])) = [.agg (rowL f 33).toArray] := by
      show [conc (gW (rho f) 33 []) (.agg (LSn 33))] = _
      simp only [conc, concL_map]
      rw [hc]
    rw [ea] at e2
    exact e2
def okX (f : Nat → Nat) : Bool := Classical.choose (k_val f)
theorem okX_spec (f : Nat → Nat) :
    (∃ h', @funD noFrn Try.prog extR orcR Fg.us 300 30 25 [.pointer (some ⟨0, 0, none⟩)] [some (rowL f 33)] = some (.bool (okX f), h', true)) ∧
    ∃ h', @funD noFrn Try.prog extR orcR Fg.us 300 30 41 [.agg (rowL f 33).toArray] [] = some (.bool (okX f), h', true) := Classical.choose_spec (k_val f)
abbrev orcK : Orc := fun f => seek f orcKc
abbrev noO : Orc := fun f => seek f []
/-! ### films -/
def psF : List Par := [.agg (List.replicate 33 (Ty.f .f32))]
def qsF : List Par := [.agg (List.replicate 48 (Ty.f .f32)), .one (.n .i64)]
def qsO : List Par := [.agg (List.replicate 16 (Ty.f .f32)), .one (.n .i64)]
theorem f_val (f : Nat → Nat) : ∃ vs : List Value, fitA qsF vs = true ∧ (okX f = true →
    (∃ h', @funD noFrn Try.prog extR orcR Fg.us 300 30 39 [.pointer (some ⟨0, 0, none⟩)] [some (rowL f 33)] = some (oneOr vs, h', true)) ∧
    ∃ h', @funD noFrn Try.prog extR orcR Fg.us 300 30 50 [.agg (rowL f 33).toArray] [] = some (oneOr vs, h', true)) := by
  have hc := conc33 f
  obtain ⟨V, hV, hf⟩ := @pair3_run noSFrn noSFrn Try.prog symE (symG Try.prog) extR orcR Fg.us 300 30 [(Fg.cA, true)] symE (symG Try.prog) extR orcR Fg.us 300 30 33 [] [] Fg.jA Fg.jB qsF (fun _ _ => .i 0) (rho f)
    (fun F hB _ => symER F (rho f) hB) (fun F hB _ => symGR F (rho f) hB) (fun F hB _ => symER F (rho f) hB) (fun F hB _ => symGR F (rho f) hB) (fun k => rfl) (fun k => rfl) Fg.f_run trivial
  obtain ⟨vs, rfl, hfit⟩ := hV
  refine ⟨vs, hfit, fun hok => ?_⟩
  have eh : concH (gW (rho f) 33 []) Fg.cA.heap = [some (rowL f 33)] := by kernel_rfl
  have ea : Fg.cA.args.map (conc (gW (rho f) 33 [])) = [.pointer (some ⟨0, 0, none⟩)] := by kernel_rfl
  obtain ⟨⟨h1, e1, _⟩, ⟨h2, e2, _⟩⟩ := hf noFrn noFrn (fun k => rfl) (fun k => rfl) (fun F hB _ => noC (fun f => rfl)) (fun F hB _ => noC (fun f => rfl)) (fun c hcm => by
    obtain rfl := List.mem_singleton.1 hcm
    obtain ⟨⟨h', e⟩, _⟩ := okX_spec f
    rw [hok] at e
    refine ⟨h', ?_⟩
    show @funD noFrn Try.prog extR orcR Fg.us 300 30 25 (Fg.cA.args.map (conc (gW (rho f) 33 []))) (concH (gW (rho f) 33 []) Fg.cA.heap) = _
    rw [eh, ea]
    exact e)
  refine ⟨⟨h1, ?_⟩, ⟨h2, ?_⟩⟩
  · have eh : concH (gW (rho f) 33 []) Fg.jA.heap = [some (rowL f 33)] := by kernel_rfl
    have ea : Fg.jA.args.map (conc (gW (rho f) 33 [])) = [.pointer (some ⟨0, 0, none⟩)] := by kernel_rfl
    rw [eh, ea] at e1
    exact e1
  · have ea : Fg.jB.args.map (conc (gW (rho f) 33 [])) = [.agg (rowL f 33).toArray] := by
      show [conc (gW (rho f) 33 []) (.agg (LSn 33))] = _
      simp only [conc, concL_map]
      rw [hc]
    rw [ea] at e2
    exact e2
def filX (f : Nat → Nat) : List Value := Classical.choose (f_val f)
theorem filX_spec (f : Nat → Nat) : fitA qsF (filX f) = true ∧ (okX f = true →
    (∃ h', @funD noFrn Try.prog extR orcR Fg.us 300 30 39 [.pointer (some ⟨0, 0, none⟩)] [some (rowL f 33)] = some (oneOr (filX f), h', true)) ∧
    ∃ h', @funD noFrn Try.prog extR orcR Fg.us 300 30 50 [.agg (rowL f 33).toArray] [] = some (oneOr (filX f), h', true)) := Classical.choose_spec (f_val f)
theorem f_valF (f : Nat → Nat) : ∃ vs : List Value, fitA qsF vs = true ∧ ∀ (base : Nat) (v : Value),
    ∃ h', @funD (frnOf base [(v, 1, rowL f 33)] noFG) Try.prog noO orcK Fh.us 300 30 39 [.pointer (some ⟨0, 0, some 0⟩)] [] = some (oneOr vs, h', true) := by
  have hc := conc33 f
  obtain ⟨V, hV, hf⟩ := @pair2_run Fh.gF Try.prog [] symKc noO orcK Fh.us 300 30 33 [] [] Fh.jA Fh.jA qsF (fun _ _ => .i 0) (rho f) (fun F hB _ => ListR.nil) (fun F hB _ => symKcR F (rho f) hB)
    (fun k => by
      show (bif Nat.beq k 0 then LSn 33 else []).all (inC 33) = true
      cases Nat.beq k 0
      · rfl
      · kernel_rfl) Fh.f_run trivial
  obtain ⟨vs, rfl, hfit⟩ := hV
  refine ⟨vs, hfit, fun base v => ?_⟩
  obtain ⟨⟨h1, e1, _⟩, _⟩ := hf (frnOf base [(v, 1, rowL f 33)] noFG) (fun k => by
      match k with
      | 0 => exact hc.symm
      | k + 1 => rfl) (fun F hB _ => noC (fun f => rfl))
  refine ⟨h1, ?_⟩
  have ea : Fh.jA.args.map (conc (gW (rho f) 33 [])) = [.pointer (some ⟨0, 0, some 0⟩)] := by kernel_rfl
  rw [ea] at e1
  exact e1
/-! ### films over backings -/
theorem o_val (f g : Nat → Nat) : ∃ vs : List Value, fitA qsO vs = true ∧
    ∃ h', @funD noFrn Try.prog extR orcR Fo.us 300 30 51 [.agg (rowL f 48).toArray, .agg (rowL g 16).toArray] [] = some (oneOr vs, h', true) := by
  have hc := conc48 f g
  have hd := conc16 f g
  obtain ⟨V, hV, hf⟩ := @pair2_run noSFrn Try.prog symE (symG Try.prog) extR orcR Fo.us 300 30 64 [] [] Fo.jA Fo.jB qsO (fun _ _ => .i 0) (rho2 f g) (fun F hB _ => symER F (rho2 f g) hB) (fun F hB _ => symGR F (rho2 f g) hB)
    (fun k => rfl) Fo.o_run trivial
  obtain ⟨vs, rfl, hfit⟩ := hV
  refine ⟨vs, hfit, ?_⟩
  obtain ⟨_, ⟨h2, e2, _⟩⟩ := hf noFrn (fun k => rfl) (fun F hB _ => noC (fun f => rfl))
  refine ⟨h2, ?_⟩
  have ea : Fo.jB.args.map (conc (gW (rho2 f g) 64 [])) = [.agg (rowL f 48).toArray, .agg (rowL g 16).toArray] := by
    show [conc (gW (rho2 f g) 64 []) (.agg (LSn 48)), conc (gW (rho2 f g) 64 []) (.agg Fp.B16)] = _
    simp only [conc, concL_map]
    rw [hc, hd]
  rw [ea] at e2
  exact e2
def ovX (f g : Nat → Nat) : List Value := Classical.choose (o_val f g)
theorem ovX_spec (f g : Nat → Nat) : fitA qsO (ovX f g) = true ∧
    ∃ h', @funD noFrn Try.prog extR orcR Fo.us 300 30 51 [.agg (rowL f 48).toArray, .agg (rowL g 16).toArray] [] = some (oneOr (ovX f g), h', true) := Classical.choose_spec (o_val f g)
theorem o_valF (f g : Nat → Nat) : ∃ vs : List Value, fitA qsO vs = true ∧ ∀ (base : Nat) (v : Value),
    (∃ h', @funD (frnOf base [(v, 1, rowL f 48)] noFG) Try.prog noO orcK Fp.us 300 30 59 [.pointer (some ⟨0, 0, some 0⟩), .agg (rowL g 16).toArray] [] = some (oneOr vs, h', true)) ∧
    ∃ h', @funD (frnOf base [(v, 1, rowL f 48)] noFG) Try.prog noO orcK Fp.us 300 30 51 [.agg (rowL f 48).toArray, .agg (rowL g 16).toArray] [] = some (oneOr vs, h', true) := by
  have hc := conc48 f g
  have hd := conc16 f g
  obtain ⟨V, hV, hf⟩ := @pair2_run Fp.gF Try.prog [] symKc noO orcK Fp.us 300 30 64 [] [] Fp.jA Fp.jB qsO (fun _ _ => .i 0) (rho2 f g) (fun F hB _ => ListR.nil) (fun F hB _ => symKcR F (rho2 f g) hB)
    (fun k => by
      show (bif Nat.beq k 0 then LSn 48 else []).all (inC 64) = true
      cases Nat.beq k 0
      · rfl
      · kernel_rfl) Fp.o_run trivial
  obtain ⟨vs, rfl, hfit⟩ := hV
  refine ⟨vs, hfit, fun base v => ?_⟩
  obtain ⟨⟨h1, e1, _⟩, ⟨h2, e2, _⟩⟩ := hf (frnOf base [(v, 1, rowL f 48)] noFG) (fun k => by
      match k with
      | 0 => exact hc.symm
      | k + 1 => rfl) (fun F hB _ => noC (fun f => rfl))
  refine ⟨⟨h1, ?_⟩, ⟨h2, ?_⟩⟩
  · have ea : Fp.jA.args.map (conc (gW (rho2 f g) 64 [])) = [.pointer (some ⟨0, 0, some 0⟩), .agg (rowL g 16).toArray] := by
      show [conc (gW (rho2 f g) 64 []) (.lit (.pointer (some ⟨0, 0, some 0⟩))), conc (gW (rho2 f g) 64 []) (.agg Fp.B16)] = _
      simp only [conc, concL_map]
      rw [hd]
    rw [ea] at e1
    exact e1
  · have ea : Fp.jB.args.map (conc (gW (rho2 f g) 64 [])) = [.agg (rowL f 48).toArray, .agg (rowL g 16).toArray] := by
      show [conc (gW (rho2 f g) 64 []) (.agg (LSn 48)), conc (gW (rho2 f g) 64 []) (.agg Fp.B16)] = _
      simp only [conc, concL_map]
      rw [hc, hd]
    rw [ea] at e2
    exact e2
end Ct
end Go.Proofs.Ytfgomdngffaffaa
end
