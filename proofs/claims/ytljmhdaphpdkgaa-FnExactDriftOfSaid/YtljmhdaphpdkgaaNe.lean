/-
  The nearest count, of the program and of its model: both answer one and the same integer ('cntV'), whatever number comes in. No condition.
-/
import Derived.Test.YtljmhdaphpdkgaaC
import Derived.Test.YtljmhdaphpdkgaaEt
import Derived.Test.YtljmhdaphpdkgaaCn
noncomputable section
namespace Go.Proofs.Ytljmhdaphpdkgaa
open Go.ChangeShapes Go.WideShapes Go.ChangeAt Go.RowKit Ev Sx

theorem isRte : IsExt Try.prog 46 (Extern.MathFloor.toIntegral "math.RoundToEven" .even) := ⟨Try.f46, Try.func46, by kernel_rfl, by kernel_rfl, by kernel_rfl, by kernel_rfl⟩
def extN : List (Nat × Sig) := [(46, rteO)]
theorem extNOk : ∀ p ∈ extN, ExtOne Try.prog p.1 p.2 := all_cons (rte_one isRte) all_nil
def cntO : Sig
  | [.float .f32 a] => some (.int .i16 (cntV a), true)
  | _ => none
def usCnt : List Nat := [38, 47, 51]
theorem cntI_eval (a : Nat) : ∃ h', funD Try.prog (fun f => seek f extN) (orcOf []) usCnt 200 7 38 [.float .f32 a] [] = some (.int .i16 (cntV a), h', true) := by
  refine of_funM (d := 6) (by kernel_rfl) (by kernel_rfl) ?_
  have key : funM Try.prog (fun f => seek f extN) (orcOf []) usCnt 200 6 38 [.float .f32 a] =
      bif fne .f64 (fcv .f32 .f64 a) (fcv .f32 .f64 a) then some (.int .i16 0, [], true) else some (.int .i16 (ftoi .f64 (rteF (fcv .f32 .f64 (fmin .f32 (fmax .f32 a loW) hiW)))), [], ftoiOk .f64 .i16 (rteF (fcv .f32 .f64 (fmin .f32 (fmax .f32 a loW) hiW))) && true) := by kernel_rfl
  rw [key]
  cases hn : isN .f32 a with
  | true =>
    rw [fne_N (show isN .f64 (fcv .f32 .f64 a) = true by rw [isN_widen]; exact hn), cond_true]
    unfold cntV
    rw [hn, cond_true]
  | false =>
    obtain ⟨h1, h2⟩ := held_first hn
    rw [fne_self (show isN .f64 (fcv .f32 .f64 a) = false by rw [isN_widen]; exact hn), cond_false, h1, h2]; rfl
theorem cntM_eval (a : Nat) : ∃ h', funD Try.prog (fun f => seek f extN) (orcOf []) [32] 200 7 32 [.float .f32 a] [] = some (.int .i16 (cntV a), h', true) := by
  refine of_funM (d := 6) (by kernel_rfl) (by kernel_rfl) ?_
  have key : funM Try.prog (fun f => seek f extN) (orcOf []) [32] 200 6 32 [.float .f32 a] =
      bif fne .f32 a a then some (.int .i16 0, [], true) else (bif fgt .f64 (rteF (fcv .f32 .f64 a)) hiD then some (.int .i16 32767, [], true) else bif flt .f64 (rteF (fcv .f32 .f64 a)) loD then some (.int .i16 (-32768), [], true) else some (.int .i16 (ftoi .f64 (rteF (fcv .f32 .f64 a))), [], ftoiOk .f64 .i16 (rteF (fcv .f32 .f64 a)) && true)) := by kernel_rfl
  rw [key]
  cases hn : isN .f32 a with
  | true =>
    rw [fne_N hn, cond_true]
    unfold cntV
    rw [hn, cond_true]
  | false =>
    have h := whole_first hn
    rw [fne_self hn, cond_false]
    cases h1 : fgt .f64 (rteF (fcv .f32 .f64 a)) hiD <;> rw [h1] at h <;> simp only [cond_true, cond_false] at h ⊢
    · cases h2 : flt .f64 (rteF (fcv .f32 .f64 a)) loD <;> rw [h2] at h <;> simp only [cond_true, cond_false, Option.some.injEq, Prod.mk.injEq, Value.int.injEq, true_and, and_true] at h ⊢
      · rw [h.1, h.2]; exact ⟨rfl, rfl⟩
      · exact h
    · simp only [Option.some.injEq, Prod.mk.injEq, Value.int.injEq, true_and, and_true] at h ⊢
      exact h
theorem cntI_one : OrcOne Try.prog 38 cntO := by
  refine orc_one (us := usCnt) (cf := 200) (d := 7) mixed (by kernel_rfl) extNOk (l0 := []) all_nil (by kernel_rfl) fun args v k he hk hx => ?_
  unfold cntO at he
  split at he
  · simp only [Option.some.injEq, Prod.mk.injEq] at he
    obtain ⟨rfl, rfl⟩ := he
    exact ⟨rfl, rfl, cntI_eval _⟩
  · cases he
theorem cntM_one : OrcOne Try.prog 32 cntO := by
  refine orc_one (us := [32]) (cf := 200) (d := 7) mixed (by kernel_rfl) extNOk (l0 := []) all_nil (by kernel_rfl) fun args v k he hk hx => ?_
  unfold cntO at he
  split at he
  · simp only [Option.some.injEq, Prod.mk.injEq] at he
    obtain ⟨rfl, rfl⟩ := he
    exact ⟨rfl, rfl, cntM_eval _⟩
  · cases he

theorem cntO_bare : BareSig cntO := fun args v he => by
  unfold cntO at he
  split at he
  · simp only [Option.some.injEq, Prod.mk.injEq] at he
    obtain ⟨rfl, _⟩ := he
    exact ⟨rfl, rfl⟩
  · cases he
end Go.Proofs.Ytljmhdaphpdkgaa
end
