/-
  Gauges: program and model tell alike whether they are valid, wherever they lie. No condition.
-/
import Derived.Test.YtljmhdaphpdkgaaMg
import Derived.Test.YtljmhdaphpdkgaaSy
set_option linter.unusedSectionVars false
set_option linter.unusedVariables false
noncomputable section
namespace Go.Proofs.Ytljmhdaphpdkgaa
namespace Lg
open Go Go.ChangeShapes Go.WideShapes Go.ChangeAt Go.RowKit Ev Sx

def gr (z : Nat → Int) (f : Nat → Nat) : List Value := (List.range 49).map fun j => bif Nat.blt j 32 then .int .i16 (z j) else .float .f32 (f j)
def gS : List SV := (List.range 49).map fun j => bif Nat.blt j 32 then .n .i16 (j + 2) else .f .f32 (j + 2)
def rhoG (z : Nat → Int) (f : Nat → Nat) (j : Nat) : Int := bif Nat.blt j 32 then z j else Int.ofNat (f j)
def usG : List Nat := [26, 29, 31, 41, 45, 48]
def gA : Job := ⟨26, [.ptr 0 0], [some gS]⟩
def gB : Job := ⟨29, [.agg gS], []⟩
theorem g_run : @pair2B noSFrn Try.prog [] [] usG 300 30 49 [] [] gA gB [.one .b] = true := by kernel_rfl
theorem gS_conc (z : Nat → Int) (f : Nat → Nat) : gS.map (conc (gW (rhoG z f) 49 [])) = gr z f := by kernel_rfl
abbrev noFG : FuncId → Option (List Value → Heap → Option (Value × List (List Value) × Bool)) := fun _ => none
theorem g_val (z : Nat → Int) (f : Nat → Nat) : ∃ b : Bool,
    (∃ h', @funD noFrn Try.prog (fun f => seek f []) (fun f => seek f []) usG 300 30 26 [.pointer (some ⟨0, 0, none⟩)] [some (gr z f)] = some (.bool b, h', true)) ∧
    ∃ h', @funD noFrn Try.prog (fun f => seek f []) (fun f => seek f []) usG 300 30 29 [.agg (gr z f).toArray] [] = some (.bool b, h', true) := by
  have hc := gS_conc z f
  obtain ⟨V, hV, hf⟩ := @pair2_run noSFrn Try.prog [] [] (fun f => seek f []) (fun f => seek f []) usG 300 30 49 [] [] gA gB [.one .b] (fun _ _ => .i 0) (rhoG z f) (fun F hB _ => ListR.nil) (fun F hB _ => ListR.nil)
    (fun k => rfl) g_run trivial
  obtain ⟨vs, rfl, hfit⟩ := hV
  obtain ⟨b, rfl⟩ : ∃ b, vs = [.bool b] := by
    match vs, hfit with
    | [v], h =>
      have h : (fitP (.one .b) v && true) = true := h
      rw [Bool.and_true] at h
      cases v with
      | bool b => exact ⟨b, rfl⟩
      | _ => cases h
    | [], h => cases h
    | v :: _ :: _, h =>
      have h : (fitP (.one .b) v && false) = true := h
      rw [Bool.and_false] at h
      cases h
  refine ⟨b, ?_⟩
  obtain ⟨⟨h1, e1, _⟩, ⟨h2, e2, _⟩⟩ := hf noFrn (fun k => rfl) (fun F hB _ f g h => by
      have h : (none : Option (List (Nat × Bool) → List SV → HeapS → M SV)) = some g := h
      cases h)
  refine ⟨⟨h1, ?_⟩, ⟨h2, ?_⟩⟩
  · have eh : concH (gW (rhoG z f) 49 []) gA.heap = [some (gr z f)] := by kernel_rfl
    have ea : gA.args.map (conc (gW (rhoG z f) 49 [])) = [.pointer (some ⟨0, 0, none⟩)] := by kernel_rfl
    rw [eh, ea] at e1
    exact e1
  · have e2' : (gB.args.map (conc (gW (rhoG z f) 49 []))) = [.agg (gr z f).toArray] := by
      show [conc (gW (rhoG z f) 49 []) (.agg gS)] = _
      simp only [conc, concL_map]
      rw [hc]
    rw [e2'] at e2
    exact e2
def okG (z : Nat → Int) (f : Nat → Nat) : Bool := Classical.choose (g_val z f)
theorem okG_spec (z : Nat → Int) (f : Nat → Nat) :
    (∃ h', @funD noFrn Try.prog (fun f => seek f []) (fun f => seek f []) usG 300 30 26 [.pointer (some ⟨0, 0, none⟩)] [some (gr z f)] = some (.bool (okG z f), h', true)) ∧
    ∃ h', @funD noFrn Try.prog (fun f => seek f []) (fun f => seek f []) usG 300 30 29 [.agg (gr z f).toArray] [] = some (.bool (okG z f), h', true) := Classical.choose_spec (g_val z f)
/-! ### at a pointer that came in -/
abbrev gF : SFrn := ⟨fun k => bif Nat.beq k 0 then gS else [], fun _ => none⟩
def gAF : Job := ⟨26, [.lit (.pointer (some ⟨0, 0, some 0⟩))], []⟩
theorem g_runF : @pair2B gF Try.prog [] [] usG 300 30 49 [] [] gAF gB [.one .b] = true := by kernel_rfl
theorem g_valF (z : Nat → Int) (f : Nat → Nat) : ∃ b : Bool, ∀ (base : Nat) (v : Value),
    (∃ h', @funD (frnOf base [(v, 1, gr z f)] noFG) Try.prog (fun f => seek f []) (fun f => seek f []) usG 300 30 26 [.pointer (some ⟨0, 0, some 0⟩)] [] = some (.bool b, h', true)) ∧
    ∃ h', @funD (frnOf base [(v, 1, gr z f)] noFG) Try.prog (fun f => seek f []) (fun f => seek f []) usG 300 30 29 [.agg (gr z f).toArray] [] = some (.bool b, h', true) := by
  have hc := gS_conc z f
  obtain ⟨V, hV, hf⟩ := @pair2_run gF Try.prog [] [] (fun f => seek f []) (fun f => seek f []) usG 300 30 49 [] [] gAF gB [.one .b] (fun _ _ => .i 0) (rhoG z f) (fun F hB _ => ListR.nil) (fun F hB _ => ListR.nil)
    (fun k => by
      show (bif Nat.beq k 0 then gS else []).all (inC 49) = true
      cases Nat.beq k 0
      · rfl
      · kernel_rfl) g_runF trivial
  obtain ⟨vs, rfl, hfit⟩ := hV
  obtain ⟨b, rfl⟩ : ∃ b, vs = [.bool b] := by
    match vs, hfit with
    | [v], h =>
      have h : (fitP (.one .b) v && true) = true := h
      rw [Bool.and_true] at h
      cases v with
      | bool b => exact ⟨b, rfl⟩
      | _ => cases h
    | [], h => cases h
    | v :: _ :: _, h =>
      have h : (fitP (.one .b) v && false) = true := h
      rw [Bool.and_false] at h
      cases h
  refine ⟨b, fun base v => ?_⟩
  obtain ⟨⟨h1, e1, _⟩, ⟨h2, e2, _⟩⟩ := hf (frnOf base [(v, 1, gr z f)] noFG) (fun k => by
      match k with
      | 0 => exact hc.symm
      | k + 1 => rfl) (fun F hB _ f g h => by
      have h : (none : Option (List (Nat × Bool) → List SV → HeapS → M SV)) = some g := h
      cases h)
  refine ⟨⟨h1, ?_⟩, ⟨h2, ?_⟩⟩
  · simpa [gAF, conc, concH, oneOr] using e1
  · have e2' : (gB.args.map (conc (gW (rhoG z f) 49 []))) = [.agg (gr z f).toArray] := by
      show [conc (gW (rhoG z f) 49 []) (.agg gS)] = _
      simp only [conc, concL_map]
      rw [hc]
    rw [e2'] at e2
    exact e2
end Lg
end Go.Proofs.Ytljmhdaphpdkgaa
end
