/-
  Shelves of up to 6 pigments: program and model tell alike whether they are valid. No condition.
-/
import Derived.Test.YtigpiogljfedpaaVr
set_option linter.unusedSectionVars false
noncomputable section
namespace Go.Proofs.Ytigpiogljfedpaa
open Go Go.ChangeShapes Go.WideShapes Go.ChangeAt Go.RowKit Ev Sx

/-! ### one pigment, by its cells -/
def pvV (cs : List Value) : Bool := @dite Bool (shapeB pigK cs = true ∧ cs.all wfC = true) (Classical.propDecidable _) (fun h => Classical.choose (pv_val h.1 h.2)) (fun _ => false)
theorem pvV_spec {cs : List Value} (hs : shapeB pigK cs = true) (hw : cs.all wfC = true) (base : Nat) (v : Value) :
    (∃ h', @funD (frnOf base (tk1 v 1 cs) noF) Try.prog (fun f => seek f []) (fun f => seek f orcPg) pvUs 300 30 105 [.pointer (some ⟨0, 0, some 0⟩)] [] = some (.bool (pvV cs), h', true)) ∧
    ∃ h', @funD (frnOf base (tk1 v 1 cs) noF) Try.prog (fun f => seek f []) (fun f => seek f orcPg) pvUs 300 30 55 [.agg cs.toArray] [] = some (.bool (pvV cs), h', true) := by
  have e : pvV cs = Classical.choose (pv_val hs hw) := by
    unfold pvV
    exact dif_pos ⟨hs, hw⟩
  rw [e]
  exact Classical.choose_spec (pv_val hs hw) base v
/-- the cells of a pigment in memory -/
def PigAt (w : World) (b o : Nat) (cs : List Value) : Prop := b < w.heap.size ∧ ∀ j x, cs[j]? = some x → ∃ x', w.cell? ⟨b, o + j, none⟩ = some x' ∧ CanR x x'
theorem PigAt.row {w : World} {b o : Nat} {cs : List Value} (h : PigAt w b o cs) : RowIn w (.slice (some ⟨b, o, none⟩) 1 1) 1 cs :=
  ⟨_, 1, rfl, fun _ => ⟨b, o, rfl⟩, fun j x hx => by
    obtain ⟨x', h1, h2⟩ := h.2 j x hx
    exact ⟨b, o, x', rfl, h.1, h1, h2⟩⟩
theorem pvUs_ok : pvUs.all (funcOk Try.prog) = true := by kernel_rfl
theorem noX {ι : Frn} {P : Program} : @ExtOk ι P (fun f => seek f []) := fun f g e => by cases e
theorem pv_call (ι : Frn) (hc : @ConOk ι Try.prog) : @CallOk ι Try.prog (@funD ι Try.prog (fun f => seek f []) (fun f => seek f orcPg) pvUs 300 30) :=
  @EnvOk.call ι _ (@fun_goes ι Try.prog (fun f => seek f []) (fun f => seek f orcPg) pvUs 300 mixed pvUs_ok noX (@orc_list ι _ _ orcPgOk) hc 30)
theorem pig_in {w : World} {b o : Nat} {cs : List Value} (h : PigAt w b o cs) : @FrnIn (frnOf w.heap.size (tk1 (.slice (some ⟨b, o, none⟩) 1 1) 1 cs) noF) w := frn_in fun k v l cs' hk => by
  match k, hk with
  | 0, hk => cases hk; exact h.row
theorem pig_ptr {cs : List Value} (hs : shapeB pigK cs = true) (hw : cs.all wfC = true) {w : World} {b o : Nat} (hc : PigAt w b o cs) :
    Calls Try.prog 105 #[.pointer (some ⟨b, o, none⟩)] w fun e w' => e = .returned (.bool (pvV cs)) ∧ Below w.heap.size w w' := by
  let ι : Frn := frnOf w.heap.size (tk1 (.slice (some ⟨b, o, none⟩) 1 1) 1 cs) noF
  obtain ⟨⟨h', e⟩, _⟩ := pvV_spec hs hw w.heap.size (.slice (some ⟨b, o, none⟩) 1 1)
  have hE : @CallOk ι Try.prog (@funD ι Try.prog (fun f => seek f []) (fun f => seek f orcPg) pvUs 300 30) := pv_call ι noF_ok
  have hv : @VR ι (fun _ => none) (.pointer (some ⟨0, 0, some 0⟩)) (.pointer (some ⟨b, o + 0, none⟩)) := ptr_VR (ts := tk1 (.slice (some ⟨b, o, none⟩) 1 1) 1 cs) rfl
  refine (hE _ _ _ _ _ _ e rfl (fun _ => none) [.pointer (some ⟨b, o, none⟩)] w w.heap.size (@VRL.cons ι _ _ _ _ _ hv (@VRL.nil ι _)) (@HeapR.start ι w (pig_in hc)) (Nat.le_refl _)).mono fun e w' hx => ?_
  obtain ⟨u, μ', rfl, _, hu, _, hb⟩ := hx
  rw [@VR.bool_inv ι _ _ _ hu]
  exact ⟨rfl, hb⟩
theorem pig_agg {cs : List Value} (hs : shapeB pigK cs = true) (hw : cs.all wfC = true) {w : World} {b o : Nat} (hc : PigAt w b o cs) {ι0 : Frn} {μ : Nat → Option Nat} {u : Value} (hu : @VR ι0 μ (.agg cs.toArray) u) :
    Calls Try.prog 55 #[u] w fun e w' => e = .returned (.bool (pvV cs)) ∧ Below w.heap.size w w' := by
  let ι : Frn := frnOf w.heap.size (tk1 (.slice (some ⟨b, o, none⟩) 1 1) 1 cs) noF
  obtain ⟨_, ⟨h', e⟩⟩ := pvV_spec hs hw w.heap.size (.slice (some ⟨b, o, none⟩) 1 1)
  have hE : @CallOk ι Try.prog (@funD ι Try.prog (fun f => seek f []) (fun f => seek f orcPg) pvUs 300 30) := pv_call ι noF_ok
  have hv : @VR ι (fun _ => none) (.agg cs.toArray) u := bareP_VR hu (shape_bare hs)
  refine (hE _ _ _ _ _ _ e rfl (fun _ => none) [u] w w.heap.size (@VRL.cons ι _ _ _ _ _ hv (@VRL.nil ι _)) (@HeapR.start ι w (pig_in hc)) (Nat.le_refl _)).mono fun e w' hx => ?_
  obtain ⟨u, μ', rfl, _, hu, _, hb⟩ := hx
  rw [@VR.bool_inv ι _ _ _ hu]
  exact ⟨rfl, hb⟩
end Go.Proofs.Ytigpiogljfedpaa
end
