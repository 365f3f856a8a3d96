/-
  What laws over bytes lean on, at this program: its knobs, math's functions without bodies. No condition.
-/
import Derived.Test.YtljmhdaphpdkgaaEv
import Derived.Test.YtljmhdaphpdkgaaRows
import Derived.ProofKit
import Derived.OpenShut
import Derived.ChangeOld
import Derived.Below
import Derived.Carry
namespace Go.Proofs.Ytljmhdaphpdkgaa
open Go.ChangeShapes Go.WideShapes Go.ChangeAt Go.RowKit Ev

theorem own : ownKnob Try.prog.godebug = none := by kernel_rfl
theorem laidOut : laidOutB Try.prog = true := by kernel_rfl
theorem mixed : Try.prog.follows .mixedOrders = true := by kernel_rfl

theorem of_map {o : Option (Value × Heap × Bool)} {v : Value} {k : Bool} (h : o.map (fun r => (r.1, r.2.2)) = some (v, k)) : ∃ h', o = some (v, h', k) := by
  cases o with
  | none => cases h
  | some r =>
    obtain ⟨v', h', k'⟩ := r
    simp only [Option.map_some, Option.some.injEq, Prod.mk.injEq] at h
    obtain ⟨rfl, rfl⟩ := h
    exact ⟨h', rfl⟩
theorem allP {x : Value} {l : List Value} (h : plainB x = true) (k : l.all plainB = true) : (x :: l).all plainB = true := by rw [List.all_cons, h, k]; rfl
theorem list16 {l : List Nat} (h : l.length = 16) : ∃ a0 a1 a2 a3 a4 a5 a6 a7 a8 a9 a10 a11 a12 a13 a14 a15, l = [a0, a1, a2, a3, a4, a5, a6, a7, a8, a9, a10, a11, a12, a13, a14, a15] := by
  match l, h with
  | [a0, a1, a2, a3, a4, a5, a6, a7, a8, a9, a10, a11, a12, a13, a14, a15], _ => exact ⟨_, _, _, _, _, _, _, _, _, _, _, _, _, _, _, _, rfl⟩
theorem list3 {l : List Nat} (h : l.length = 3) : ∃ a0 a1 a2, l = [a0, a1, a2] := by
  match l, h with
  | [a0, a1, a2], _ => exact ⟨_, _, _, rfl⟩

/-! ### math's bodyless functions -/
def exts : List (Nat × Sig) := [
  ]
theorem extsOk {ι : Frn} : ∀ p ∈ exts, @ExtOne ι Try.prog p.1 p.2 :=
  all_nil
abbrev ext : Orc := fun f => seek f exts
abbrev orcOf (l : List (Nat × Sig)) : Orc := fun f => seek f l

end Go.Proofs.Ytljmhdaphpdkgaa
