/-
  Gauges: program and model tell alike whether they are valid, wherever they lie; what the lamp gives. No condition.
-/
import Derived.Test.YtigegnkifeljhaaTl1
import Derived.Test.YtigegnkifeljhaaSz
set_option linter.unusedSectionVars false
set_option linter.unusedVariables false
noncomputable section
namespace Go.Proofs.Ytigegnkifeljhaa
namespace Lg
open Go Go.ChangeShapes Go.WideShapes Go.ChangeAt Go.RowKit Ev Sx

def gr (z : Nat → Int) (f : Nat → Nat) : List Value := (List.range 49).map fun j => bif Nat.blt j 32 then .int .i16 (z j) else .float .f32 (f j)
def gS : List SV := (List.range 49).map fun j => bif Nat.blt j 32 then .n .i16 (j + 2) else .f .f32 (j + 2)
def rhoG (z : Nat → Int) (f : Nat → Nat) (j : Nat) : Int := bif Nat.blt j 32 then z j else Int.ofNat (f j)
def usG : List Nat := [69, 72, 124, 125, 132, 73]
def gA : Job := ⟨69, [.ptr 0 0], [some gS]⟩
def gB : Job := ⟨72, [.agg gS], []⟩
theorem g_run : @pair2B noSFrn Try.prog [] [] usG 300 30 49 [] [] gA gB [.one .b] = true := by kernel_rfl
theorem gS_conc (z : Nat → Int) (f : Nat → Nat) : gS.map (conc (gW (rhoG z f) 49 [])) = gr z f := by kernel_rfl
abbrev noFG : FuncId → Option (List Value → Heap → Option (Value × List (List Value) × Bool)) := fun _ => none
theorem g_val (z : Nat → Int) (f : Nat → Nat) : ∃ b : Bool,
    (∃ h', @funD noFrn Try.prog (fun f => seek f []) (fun f => seek f []) usG 300 30 69 [.pointer (some ⟨0, 0, none⟩)] [some (gr z f)] = some (.bool b, h', true)) ∧
    ∃ h', @funD noFrn Try.prog (fun f => seek f []) (fun f => seek f []) usG 300 30 72 [.agg (gr z f).toArray] [] = some (.bool b, h', true) := by
  have hc := gS_conc z f
  obtain ⟨V, hV, hf⟩ := @pair2_run noSFrn Try.prog [] [] (fun f => seek f []) (fun f => seek f []) usG 300 30 49 [] [] gA gB [.one .b] (fun _ _ => .i 0) (rhoG z f) (fun F hB _ => ListR.nil) (fun F hB _ => ListR.nil)
    (fun k => rfl) g_run trivial
  obtain ⟨vs, rfl, hfit⟩ := hV
  obtain ⟨b, rfl⟩ : ∃ b, vs = [.bool b] := by
    match vs, hfit with
    | [v], h =>
      have h : (fitP (.one .b) v && true) = true := h
      rw [Bool.and_true] at h
      cases v with
      | bool b => exact ⟨b, rfl⟩
      | _ => cases h
    | [], h => cases h
    | v :: _ :: _, h =>
      have h : (fitP (.one .b) v && false) = true := h
      rw [Bool.and_false] at h
      cases h
  refine ⟨b, ?_⟩
  obtain ⟨⟨h1, e1, _⟩, ⟨h2, e2, _⟩⟩ := hf noFrn (fun k => rfl) (fun F hB _ f g h => by
      have h : (none : Option (List (Nat × Bool) → List SV → HeapS → M SV)) = some g := h
      cases h)
  refine ⟨⟨h1, ?_⟩, ⟨h2, ?_⟩⟩
  · have eh : concH (gW (rhoG z f) 49 []) gA.heap = [some (gr z f)] := by kernel_rfl
    have ea : gA.args.map (conc (gW (rhoG z f) 49 [])) = [.pointer (some ⟨0, 0, none⟩)] := by kernel_rfl
    rw [eh, ea] at e1
    exact e1
  · have e2' : (gB.args.map (conc (gW (rhoG z f) 49 []))) = [.agg (gr z f).toArray] := by
      show [conc (gW (rhoG z f) 49 []) (.agg gS)] = _
      simp only [conc, concL_map]
      rw [hc]
    rw [e2'] at e2
    exact e2
def okG (z : Nat → Int) (f : Nat → Nat) : Bool := Classical.choose (g_val z f)
theorem okG_spec (z : Nat → Int) (f : Nat → Nat) :
    (∃ h', @funD noFrn Try.prog (fun f => seek f []) (fun f => seek f []) usG 300 30 69 [.pointer (some ⟨0, 0, none⟩)] [some (gr z f)] = some (.bool (okG z f), h', true)) ∧
    ∃ h', @funD noFrn Try.prog (fun f => seek f []) (fun f => seek f []) usG 300 30 72 [.agg (gr z f).toArray] [] = some (.bool (okG z f), h', true) := Classical.choose_spec (g_val z f)
/-! ### the lamp -/
def usL : List Nat := [70, 74]
def lA : Job := ⟨70, [.ptr 0 0, .n .i64 51], [some gS]⟩
def lB : Job := ⟨74, [.agg gS, .n .i64 51], []⟩
def rhoL (z : Nat → Int) (f : Nat → Nat) (t : Int) (j : Nat) : Int := bif Nat.beq j 49 then t else rhoG z f j
theorem l_run : @pair2B noSFrn Try.prog [] [] usL 300 30 50 [] [] lA lB [.one (.f .f32)] = true := by kernel_rfl
theorem gL_conc (z : Nat → Int) (f : Nat → Nat) (t : Int) : gS.map (conc (gW (rhoL z f t) 50 [])) = gr z f := by kernel_rfl
theorem l_val (z : Nat → Int) (f : Nat → Nat) (t : Int) : ∃ x : Nat,
    (∃ h', @funD noFrn Try.prog (fun f => seek f []) (fun f => seek f []) usL 300 30 70 [.pointer (some ⟨0, 0, none⟩), .int .i64 t] [some (gr z f)] = some (.float .f32 x, h', true)) ∧
    ∃ h', @funD noFrn Try.prog (fun f => seek f []) (fun f => seek f []) usL 300 30 74 [.agg (gr z f).toArray, .int .i64 t] [] = some (.float .f32 x, h', true) := by
  have hc := gL_conc z f t
  obtain ⟨V, hV, hf⟩ := @pair2_run noSFrn Try.prog [] [] (fun f => seek f []) (fun f => seek f []) usL 300 30 50 [] [] lA lB [.one (.f .f32)] (fun _ _ => .i 0) (rhoL z f t) (fun F hB _ => ListR.nil) (fun F hB _ => ListR.nil)
    (fun k => rfl) l_run trivial
  obtain ⟨vs, rfl, hfit⟩ := hV
  obtain ⟨x, rfl⟩ : ∃ x, vs = [.float .f32 x] := by
    match vs, hfit with
    | [v], h =>
      have h : (fitV (.f .f32) v && true) = true := h
      rw [Bool.and_true] at h
      cases v with
      | float k b =>
        have h0 : sameK .f32 k = true := h
        have := Ev.sameK_eq h0
        subst this
        exact ⟨b, rfl⟩
      | _ => cases h
    | [], h => cases h
    | v :: _ :: _, h =>
      have h : (fitP (.one (.f .f32)) v && false) = true := h
      rw [Bool.and_false] at h
      cases h
  refine ⟨x, ?_⟩
  obtain ⟨⟨h1, e1, _⟩, ⟨h2, e2, _⟩⟩ := hf noFrn (fun k => rfl) (fun F hB _ f g h => by
      have h : (none : Option (List (Nat × Bool) → List SV → HeapS → M SV)) = some g := h
      cases h)
  refine ⟨⟨h1, ?_⟩, ⟨h2, ?_⟩⟩
  · have e1' : (lA.args.map (conc (gW (rhoL z f t) 50 []))) = [.pointer (some ⟨0, 0, none⟩), .int .i64 t] := by kernel_rfl
    have eh : concH (gW (rhoL z f t) 50 []) lA.heap = [some (gr z f)] := by kernel_rfl
    rw [e1', eh] at e1
    exact e1
  · have e2' : (lB.args.map (conc (gW (rhoL z f t) 50 []))) = [.agg (gr z f).toArray, .int .i64 t] := by kernel_rfl
    rw [e2'] at e2
    exact e2
def lampF (z : Nat → Int) (f : Nat → Nat) (t : Int) : Nat := Classical.choose (l_val z f t)
theorem lampF_spec (z : Nat → Int) (f : Nat → Nat) (t : Int) :
    (∃ h', @funD noFrn Try.prog (fun f => seek f []) (fun f => seek f []) usL 300 30 70 [.pointer (some ⟨0, 0, none⟩), .int .i64 t] [some (gr z f)] = some (.float .f32 (lampF z f t), h', true)) ∧
    ∃ h', @funD noFrn Try.prog (fun f => seek f []) (fun f => seek f []) usL 300 30 74 [.agg (gr z f).toArray, .int .i64 t] [] = some (.float .f32 (lampF z f t), h', true) := Classical.choose_spec (l_val z f t)
/-! ### at a pointer that came in -/
abbrev gF : SFrn := ⟨fun k => bif Nat.beq k 0 then gS else [], fun _ => none⟩
def gAF : Job := ⟨69, [.lit (.pointer (some ⟨0, 0, some 0⟩))], []⟩
theorem g_runF : @pair2B gF Try.prog [] [] usG 300 30 49 [] [] gAF gB [.one .b] = true := by kernel_rfl
theorem g_valF (z : Nat → Int) (f : Nat → Nat) : ∃ b : Bool, ∀ (base : Nat) (v : Value),
    (∃ h', @funD (frnOf base [(v, 1, gr z f)] noFG) Try.prog (fun f => seek f []) (fun f => seek f []) usG 300 30 69 [.pointer (some ⟨0, 0, some 0⟩)] [] = some (.bool b, h', true)) ∧
    ∃ h', @funD (frnOf base [(v, 1, gr z f)] noFG) Try.prog (fun f => seek f []) (fun f => seek f []) usG 300 30 72 [.agg (gr z f).toArray] [] = some (.bool b, h', true) := by
  have hc := gS_conc z f
  obtain ⟨V, hV, hf⟩ := @pair2_run gF Try.prog [] [] (fun f => seek f []) (fun f => seek f []) usG 300 30 49 [] [] gAF gB [.one .b] (fun _ _ => .i 0) (rhoG z f) (fun F hB _ => ListR.nil) (fun F hB _ => ListR.nil)
    (fun k => by
      show (bif Nat.beq k 0 then gS else []).all (inC 49) = true
      cases Nat.beq k 0
      · rfl
      · kernel_rfl) g_runF trivial
  obtain ⟨vs, rfl, hfit⟩ := hV
  obtain ⟨b, rfl⟩ : ∃ b, vs = [.bool b] := by
    match vs, hfit with
    | [v], h =>
      have h : (fitP (.one .b) v && true) = true := h
      rw [Bool.and_true] at h
      cases v with
      | bool b => exact ⟨b, rfl⟩
      | _ => cases h
    | [], h => cases h
    | v :: _ :: _, h =>
      have h : (fitP (.one .b) v && false) = true := h
      rw [Bool.and_false] at h
      cases h
  refine ⟨b, fun base v => ?_⟩
  obtain ⟨⟨h1, e1, _⟩, ⟨h2, e2, _⟩⟩ := hf (frnOf base [(v, 1, gr z f)] noFG) (fun k => by
      match k with
      | 0 => exact hc.symm
      | k + 1 => rfl) (fun F hB _ f g h => by
      have h : (none : Option (List (Nat × Bool) → List SV → HeapS → M SV)) = some g := h
      cases h)
  refine ⟨⟨h1, ?_⟩, ⟨h2, ?_⟩⟩
  · simpa [gAF, conc, concH, oneOr] using e1
  · have e2' : (gB.args.map (conc (gW (rhoG z f) 49 []))) = [.agg (gr z f).toArray] := by
      show [conc (gW (rhoG z f) 49 []) (.agg gS)] = _
      simp only [conc, concL_map]
      rw [hc]
    rw [e2'] at e2
    exact e2
def lAF : Job := ⟨70, [.lit (.pointer (some ⟨0, 0, some 0⟩)), .n .i64 51], []⟩
theorem l_runF : @pair2B gF Try.prog [] [] usL 300 30 50 [] [] lAF lB [.one (.f .f32)] = true := by kernel_rfl
theorem l_valF (z : Nat → Int) (f : Nat → Nat) (t : Int) : ∃ x : Nat, ∀ (base : Nat) (v : Value),
    (∃ h', @funD (frnOf base [(v, 1, gr z f)] noFG) Try.prog (fun f => seek f []) (fun f => seek f []) usL 300 30 70 [.pointer (some ⟨0, 0, some 0⟩), .int .i64 t] [] = some (.float .f32 x, h', true)) ∧
    ∃ h', @funD (frnOf base [(v, 1, gr z f)] noFG) Try.prog (fun f => seek f []) (fun f => seek f []) usL 300 30 74 [.agg (gr z f).toArray, .int .i64 t] [] = some (.float .f32 x, h', true) := by
  have hc := gL_conc z f t
  obtain ⟨V, hV, hf⟩ := @pair2_run gF Try.prog [] [] (fun f => seek f []) (fun f => seek f []) usL 300 30 50 [] [] lAF lB [.one (.f .f32)] (fun _ _ => .i 0) (rhoL z f t) (fun F hB _ => ListR.nil) (fun F hB _ => ListR.nil)
    (fun k => by
      show (bif Nat.beq k 0 then gS else []).all (inC 50) = true
      cases Nat.beq k 0
      · rfl
      · kernel_rfl) l_runF trivial
  obtain ⟨vs, rfl, hfit⟩ := hV
  obtain ⟨x, rfl⟩ : ∃ x, vs = [.float .f32 x] := by
    match vs, hfit with
    | [v], h =>
      have h : (fitV (.f .f32) v && true) = true := h
      rw [Bool.and_true] at h
      cases v with
      | float k b =>
        have h0 : sameK .f32 k = true := h
        have := Ev.sameK_eq h0
        subst this
        exact ⟨b, rfl⟩
      | _ => cases h
    | [], h => cases h
    | v :: _ :: _, h =>
      have h : (fitP (.one (.f .f32)) v && false) = true := h
      rw [Bool.and_false] at h
      cases h
  refine ⟨x, fun base v => ?_⟩
  obtain ⟨⟨h1, e1, _⟩, ⟨h2, e2, _⟩⟩ := hf (frnOf base [(v, 1, gr z f)] noFG) (fun k => by
      match k with
      | 0 => exact hc.symm
      | k + 1 => rfl) (fun F hB _ f g h => by
      have h : (none : Option (List (Nat × Bool) → List SV → HeapS → M SV)) = some g := h
      cases h)
  refine ⟨⟨h1, ?_⟩, ⟨h2, ?_⟩⟩
  · have e1' : (lAF.args.map (conc (gW (rhoL z f t) 50 []))) = [.pointer (some ⟨0, 0, some 0⟩), .int .i64 t] := by kernel_rfl
    rw [e1'] at e1
    exact e1
  · have e2' : (lB.args.map (conc (gW (rhoL z f t) 50 []))) = [.agg (gr z f).toArray, .int .i64 t] := by kernel_rfl
    rw [e2'] at e2
    exact e2
end Lg
end Go.Proofs.Ytigegnkifeljhaa
end
