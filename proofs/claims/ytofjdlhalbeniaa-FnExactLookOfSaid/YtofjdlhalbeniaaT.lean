/-
  The third root as the symbolic runs take it: one unknown function of the number, with its code. No condition.
-/
import Derived.Test.YtofjdlhalbeniaaR
noncomputable section
namespace Go.Proofs.Ytofjdlhalbeniaa
open Go.ChangeShapes Go.WideShapes Go.ChangeAt Go.RowKit Ev Sx

/-- what the named function answers -/
def UT (op : Nat) (z : Vl) : Vl := if op = 140 then .i (rootV z.nat : Nat) else .i 0
def rootSy : SymF := fun pc args =>
  match args with
  | [x] => match isF x with
    | some .f32 => bnd (asF x) fun i => bnd (finP 6 pc i) fun d => bnd (mkP 0 2) fun c2 => bnd (ite d 0 c2) fun c => bnd (mk3 140 i 0 0) fun r => ret (.tuple [.f .f32 r, .n .i64 c])
    | _ => non
  | _ => non
theorem rootSy_ok {F : Tab} {ρ : Nat → Int} (hB : Base F ρ UT) : SymOk F ρ UT root.rootO rootSy := fun pc args => by
  unfold rootSy
  split
  · rename_i x
    split
    · rename_i hx
      refine Spec.bnd (asF_spec (ρ := ρ) (U := UT) hx) fun i => Spec.bnd (finP_spec hB 6 pc i) fun d => Spec.bnd (mkP_spec (ρ := ρ) (U := UT) (by decide)) fun c2 => Spec.bnd (ite_spec hB) fun c => Spec.bnd (mk3_spec (ρ := ρ) (U := UT)) fun r => Spec.ret fun h1 h2 h3 h4 h5 hp => ?_
      obtain ⟨p, h1⟩ := h1
      have h1 : raw F ρ UT r = UT 140 (raw F ρ UT i) := h1
      have h1 : raw F ρ UT r = .i (rootV (raw F ρ UT i).nat : Nat) := h1
      have h4 := h4 hp
      have hc : (raw F ρ UT c).z = rootC (raw F ρ UT i).nat := by
        rw [h2]
        unfold rootC
        rw [← h4]
        cases hd : tv F ρ UT d with
        | true =>
          have hd : (raw F ρ UT d).tr = true := hd
          rw [if_pos hd, hB.1]; rfl
        | false =>
          have hd : (raw F ρ UT d).tr = false := hd
          rw [if_neg (by rw [hd]; decide), h3, op0]; rfl
      have e1 : cv F ρ UT (.f .f32 r) = .float .f32 (rootV (raw F ρ UT i).nat) := by rw [cv_f, h1, Vl.nat_i]
      have e2 : cv F ρ UT (.n .i64 c) = .int .i64 (rootC (raw F ρ UT i).nat) := by rw [cv_n, hc]
      show root.rootO [cv F ρ UT x] = _
      rw [h5, cv_tuple, cvl_cons, cvl_cons, e1, e2]
      rfl
    · exact Spec.non
  · exact Spec.non
def orcT : List (Nat × Sig) := (29, root.rootO) :: (28, root.rootO) :: orcX
theorem orcTOk : ∀ p ∈ orcT, OrcOne Try.prog p.1 p.2 := all_cons root.orcRootI (all_cons root.orcRootM orcXOk)
def symT : List (Nat × SymF) := (29, rootSy) :: (28, rootSy) :: symX
theorem symTR (F : Tab) (ρ : Nat → Int) (hB : Base F ρ UT) : ListR F ρ UT symT (fun f => seek f orcT) := ListR.cons (rootSy_ok hB) (ListR.cons (rootSy_ok hB) (symXR F ρ hB))
end Go.Proofs.Ytofjdlhalbeniaa
end
