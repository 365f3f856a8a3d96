/-
  The ends of curves, beside the function that defers a closure which recovers. No condition.
-/
import Derived.Test.YtfgomdngffaffaaEo
import Derived.Test.YtfgomdngffaffaaG
set_option linter.unusedSectionVars false
set_option linter.unusedVariables false
noncomputable section
namespace Go.Proofs.Ytfgomdngffaffaa
open Go Go.ChangeShapes Go.WideShapes Go.ChangeAt Go.RowKit Ev Sx

/-- one of two numbers, where what is known tells which -/
def viewU : Nat → PC → Nat → M Nat
  | 0, _, i => ret i
  | n + 1, pc, i => fun t =>
    bif Nat.beq (opAt t i) 4 then
      force (nodeAt t i) fun x => bnd (underS pc (aOf x)) (fun g => bif Nat.beq g 1 then viewU n pc (bOf x) else
        bnd (notS (aOf x)) fun c => bnd (underS pc c) fun g' => bif Nat.beq g' 1 then viewU n pc (cOf x) else ret i) t
    else some (i, t)
theorem viewU_spec {F : Tab} {ρ : Nat → Int} {U : Nat → Vl → Vl} (hB : Base F ρ U) : ∀ (n : Nat) (pc : PC) (i : Nat), Sx.Spec F (viewU n pc i) (fun r => pcH F ρ U pc → raw F ρ U r = raw F ρ U i)
  | 0, _, _ => Spec.ret fun _ => rfl
  | n + 1, pc, i => by
    intro t r t' e hF
    unfold viewU at e
    cases h4 : Nat.beq (opAt t i) 4 with
    | false =>
      rw [h4, cond_false] at e
      cases e
      exact ⟨hF, fun c => ⟨c, fun _ => rfl⟩⟩
    | true =>
      rw [h4, cond_true, force_eq] at e
      have key : Sx.Spec F (bnd (underS pc (aOf (nodeAt t i))) fun g => bif Nat.beq g 1 then viewU n pc (bOf (nodeAt t i)) else
          bnd (notS (aOf (nodeAt t i))) fun c => bnd (underS pc c) fun g' => bif Nat.beq g' 1 then viewU n pc (cOf (nodeAt t i)) else ret i)
          (fun r => pcH F ρ U pc → raw F ρ U i = (if tv F ρ U (aOf (nodeAt t i)) then raw F ρ U (bOf (nodeAt t i)) else raw F ρ U (cOf (nodeAt t i))) → raw F ρ U r = raw F ρ U i) := by
        refine Spec.bnd (underS_spec hB pc _) fun g => Spec.bif (fun hg => (viewU_spec hB n pc _).mono fun r h1 h2 hp hi => ?_) fun _ => ?_
        · have := h2 (by rw [beqT hg]; exact hB.t1) hp
          rw [h1 hp, hi, if_pos this]
        · refine Spec.bnd (notS_spec hB) fun c => Spec.bnd (underS_spec hB pc c) fun g' => Spec.bif (fun hg => (viewU_spec hB n pc _).mono fun r h1 h2 h3 _ hp hi => ?_) fun _ => Spec.ret fun _ _ _ _ _ => rfl
          have := h2 (by rw [beqT hg]; exact hB.t1) hp
          rw [h3] at this
          rw [h1 hp, hi, if_neg (by simpa using this)]
      refine Spec.via key e hF fun h1 h2 hp => h2 hp ?_
      obtain ⟨g1, g2⟩ := opAt_spec (beqT h4) (by decide)
      rw [raw_at h1 g1]
      unfold nodeVal
      rw [g2, op4]
def seeU (pc : PC) (v : SV) : M SV :=
  match v with
  | .f k i => bnd (viewU 4 pc i) fun j => ret (.f k j)
  | v => ret v
theorem seeU_spec {F : Tab} {ρ : Nat → Int} {U : Nat → Vl → Vl} (hB : Base F ρ U) {pc : PC} {v : SV} : Sx.Spec F (seeU pc v) (fun r => pcH F ρ U pc → cv F ρ U r = cv F ρ U v) := by
  unfold seeU
  split
  · rename_i k i
    refine Spec.bnd (viewU_spec hB 4 pc i) fun j => Spec.ret fun h hp => ?_
    rw [cv_f, cv_f, h hp]
  · exact Spec.ret fun _ => rfl
def seeL (pc : PC) : List SV → M (List SV)
  | [] => ret []
  | x :: r => bnd (seeU pc x) fun y => bnd (seeL pc r) fun s => ret (y :: s)
def seeA (pc : PC) : List SV → M (List SV)
  | [] => ret []
  | x :: r => match x with
    | .agg l => bnd (seeL pc l) fun m => bnd (seeA pc r) fun s => ret (.agg m :: s)
    | x => bnd (seeU pc x) fun y => bnd (seeA pc r) fun s => ret (y :: s)
theorem seeL_spec {F : Tab} {ρ : Nat → Int} {U : Nat → Vl → Vl} (hB : Base F ρ U) {pc : PC} : ∀ (l : List SV), Sx.Spec F (seeL pc l) (fun m => pcH F ρ U pc → cvl F ρ U m = cvl F ρ U l)
  | [] => Spec.ret fun _ => rfl
  | x :: r => by
    unfold seeL
    refine Spec.bnd (seeU_spec hB) fun y => Spec.bnd (seeL_spec hB r) fun s => Spec.ret fun h1 h2 hp => ?_
    rw [cvl_cons, cvl_cons, h1 hp, h2 hp]
theorem seeA_spec {F : Tab} {ρ : Nat → Int} {U : Nat → Vl → Vl} (hB : Base F ρ U) {pc : PC} : ∀ (l : List SV), Sx.Spec F (seeA pc l) (fun m => pcH F ρ U pc → cvl F ρ U m = cvl F ρ U l)
  | [] => Spec.ret fun _ => rfl
  | x :: r => by
    unfold seeA
    split
    · rename_i l
      refine Spec.bnd (seeL_spec hB l) fun m => Spec.bnd (seeA_spec hB r) fun s => Spec.ret fun h1 h2 hp => ?_
      rw [cvl_cons, cvl_cons, cv_agg, cv_agg, h1 hp, h2 hp]
    · refine Spec.bnd (seeU_spec hB) fun y => Spec.bnd (seeA_spec hB r) fun s => Spec.ret fun h1 h2 hp => ?_
      rw [cvl_cons, cvl_cons, h1 hp, h2 hp]
def uV (op : Nat) (ps qs : List Par) : SymF := fun pc args => bnd (seeA pc args) fun a => uT op ps qs pc a
theorem uV_ok {F : Tab} {ρ : Nat → Int} {U : Nat → Vl → Vl} {ps qs : List Par} {op : Nat} {g : Sig} (hB : Base F ρ U) (h : SymOk F ρ U g (uT op ps qs)) : SymOk F ρ U g (uV op ps qs) := fun pc args => by
  unfold uV
  refine Spec.bnd (seeA_spec hB args) fun a => (h pc a).mono fun v h1 h2 hp => ?_
  rw [← h2 hp]
  exact h1 hp
theorem symGU {U : Nat → Vl → Vl} (F : Tab) (ρ : Nat → Int) (hB : Base F ρ U) : ListR F ρ U (symG Try.prog) (fun f => seek f (orcG Try.prog)) :=
  ListR.cons (guardSy_ok hB (funQ_spec hB (symER F ρ hB) (symXR F ρ hB) (by kernel_rfl) 3)) (symWR F ρ hB)
end Go.Proofs.Ytfgomdngffaffaa
end
