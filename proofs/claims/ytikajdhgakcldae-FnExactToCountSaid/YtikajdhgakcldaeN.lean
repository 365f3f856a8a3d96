/-
  The nearest count, of the program and of its model: both answer one and the same integer ('cntV'), whatever number comes in. No condition.
-/
import Derived.Test.YtikajdhgakcldaeW
import Derived.Test.YtikajdhgakcldaeCn
noncomputable section
namespace Go.Proofs.Ytikajdhgakcldae
open Go.ChangeShapes Go.WideShapes Go.ChangeAt Go.RowKit Ev Sx

theorem isRte : IsExt Try.prog 77 (Extern.MathFloor.toIntegral "math.RoundToEven" .even) := ⟨Try.f77, Try.func77, by kernel_rfl, by kernel_rfl, by kernel_rfl, by kernel_rfl⟩
def extN : List (Nat × Sig) := [(77, rteO)]
theorem extNOk : ∀ p ∈ extN, ExtOne Try.prog p.1 p.2 := all_cons (rte_one isRte) all_nil
def cntO : Sig
  | [.float .f32 a] => some (.int .i16 (cntV a), true)
  | _ => none
def usCnt : List Nat := [45, 76, 87]
theorem cntI_eval (a : Nat) : ∃ h', funD Try.prog (fun f => seek f extN) (orcOf []) usCnt 200 7 45 [.float .f32 a] [] = some (.int .i16 (cntV a), h', true) := by
  refine of_funM (d := 6) (by kernel_rfl) (by kernel_rfl) ?_
  have key : funM Try.prog (fun f => seek f extN) (orcOf []) usCnt 200 6 45 [.float .f32 a] =
      bif fne .f64 (fcv .f32 .f64 a) (fcv .f32 .f64 a) then some (.int .i16 0, [], true) else some (.int .i16 (ftoi .f64 (rteF (fcv .f32 .f64 (fmin .f32 (fmax .f32 a loW) hiW)))), [], ftoiOk .f64 .i16 (rteF (fcv .f32 .f64 (fmin .f32 (fmax .f32 a loW) hiW))) && true) := by kernel_rfl
  rw [key]
  cases hn : isN .f32 a with
  | true =>
    rw [fne_N (show isN .f64 (fcv .f32 .f64 a) = true by rw [isN_widen]; exact hn), cond_true]
    unfold cntV
    rw [hn, cond_true]
  | false =>
    obtain ⟨h1, h2⟩ := held_first hn
    rw [fne_self (show isN .f64 (fcv .f32 .f64 a) = false by rw [isN_widen]; exact hn), cond_false, h1, h2]; rfl
theorem cntM_eval (a : Nat) : ∃ h', funD Try.prog (fun f => seek f extN) (orcOf []) [75] 200 7 75 [.float .f32 a] [] = some (.int .i16 (cntV a), h', true) := by
  refine of_funM (d := 6) (by kernel_rfl) (by kernel_rfl) ?_
  have key : funM Try.prog (fun f => seek f extN) (orcOf []) [75] 200 6 75 [.float .f32 a] =
      bif fne .f32 a a then some (.int .i16 0, [], true) else (bif fgt .f64 (rteF (fcv .f32 .f64 a)) hiD then some (.int .i16 32767, [], true) else bif flt .f64 (rteF (fcv .f32 .f64 a)) loD then some (.int .i16 (-32768), [], true) else some (.int .i16 (ftoi .f64 (rteF (fcv .f32 .f64 a))), [], ftoiOk .f64 .i16 (rteF (fcv .f32 .f64 a)) && true)) := by kernel_rfl
  rw [key]
  cases hn : isN .f32 a with
  | true =>
    rw [fne_N hn, cond_true]
    unfold cntV
    rw [hn, cond_true]
  | false =>
    have h := whole_first hn
    rw [fne_self hn, cond_false]
    cases h1 : fgt .f64 (rteF (fcv .f32 .f64 a)) hiD <;> rw [h1] at h <;> simp only [cond_true, cond_false] at h ⊢
    · cases h2 : flt .f64 (rteF (fcv .f32 .f64 a)) loD <;> rw [h2] at h <;> simp only [cond_true, cond_false, Option.some.injEq, Prod.mk.injEq, Value.int.injEq, true_and, and_true] at h ⊢
      · rw [h.1, h.2]; exact ⟨rfl, rfl⟩
      · exact h
    · simp only [Option.some.injEq, Prod.mk.injEq, Value.int.injEq, true_and, and_true] at h ⊢
      exact h
theorem cntI_one : OrcOne Try.prog 45 cntO := by
  refine orc_one (us := usCnt) (cf := 200) (d := 7) mixed (by kernel_rfl) extNOk (l0 := []) all_nil (by kernel_rfl) fun args v k he hk hx => ?_
  unfold cntO at he
  split at he
  · simp only [Option.some.injEq, Prod.mk.injEq] at he
    obtain ⟨rfl, rfl⟩ := he
    exact ⟨rfl, rfl, cntI_eval _⟩
  · cases he
theorem cntM_one : OrcOne Try.prog 75 cntO := by
  refine orc_one (us := [75]) (cf := 200) (d := 7) mixed (by kernel_rfl) extNOk (l0 := []) all_nil (by kernel_rfl) fun args v k he hk hx => ?_
  unfold cntO at he
  split at he
  · simp only [Option.some.injEq, Prod.mk.injEq] at he
    obtain ⟨rfl, rfl⟩ := he
    exact ⟨rfl, rfl, cntM_eval _⟩
  · cases he

/-! ### as the symbolic runs take it: one unknown function of the number -/
def UN (op : Nat) (z : Vl) : Vl := if op = 141 then .i (cntV z.nat) else .i 0
def cntSy : SymF := fun _ args =>
  match args with
  | [x] => match isF x with
    | some .f32 => bnd (asF x) fun i => bnd (mk3 141 i 0 0) fun r => ret (.n .i16 r)
    | _ => non
  | _ => non
theorem cntSy_ok {F : Tab} {ρ : Nat → Int} : SymOk F ρ UN cntO cntSy := fun pc args => by
  unfold cntSy
  split
  · rename_i x
    split
    · rename_i hx
      refine Spec.bnd (asF_spec (ρ := ρ) (U := UN) hx) fun i => Spec.bnd (mk3_spec (ρ := ρ) (U := UN)) fun r => Spec.ret fun h1 h5 hp => ?_
      obtain ⟨p, h1⟩ := h1
      have h1 : raw F ρ UN r = UN 141 (raw F ρ UN i) := h1
      have h1 : raw F ρ UN r = .i (cntV (raw F ρ UN i).nat) := h1
      have e1 : cv F ρ UN (.n .i16 r) = .int .i16 (cntV (raw F ρ UN i).nat) := by rw [cv_n, h1]; rfl
      show cntO [cv F ρ UN x] = _
      rw [h5, e1]
      rfl
    · exact Spec.non
  · exact Spec.non
def orcN : List (Nat × Sig) := (45, cntO) :: (75, cntO) :: orcW
theorem orcNOk : ∀ p ∈ orcN, OrcOne Try.prog p.1 p.2 := all_cons cntI_one (all_cons cntM_one orcWOk)
def symN : List (Nat × SymF) := (45, cntSy) :: (75, cntSy) :: symW
theorem symNR (F : Tab) (ρ : Nat → Int) (hB : Base F ρ UN) : ListR F ρ UN symN (fun f => seek f orcN) := ListR.cons cntSy_ok (ListR.cons cntSy_ok (symWR F ρ hB))
end Go.Proofs.Ytikajdhgakcldae
end
