/-
  Shelves that are valid: so is each of their pigments; and its numbers are amounts. No condition.
-/
import Derived.Test.YtigpiogljfedpaaVu
set_option linter.unusedSectionVars false
noncomputable section
namespace Go.Proofs.Ytigpiogljfedpaa
open Go Go.ChangeShapes Go.WideShapes Go.ChangeAt Go.RowKit Ev Sx

def viQ (n : Nat) : List Job := (List.range n).map fun q => ⟨55, [.agg (((vsRow n).drop (q * 34)).take 34)], []⟩
def viRun (n : Nat) : Bool := impB (vsF1 n) Try.prog [] (vsSym n) vsUs 300 30 (35 * n + 6) (vsWs n) [] (vsA1 n) (viQ n)
theorem vi_run1 : viRun 1 = true := by kernel_rfl
theorem vi_run2 : viRun 2 = true := by kernel_rfl
theorem vi_run3 : viRun 3 = true := by kernel_rfl
theorem vi_run4 : viRun 4 = true := by kernel_rfl
theorem vi_run5 : viRun 5 = true := by kernel_rfl
theorem vi_run6 : viRun 6 = true := by kernel_rfl
theorem vi_run {n : Nat} (h1 : 1 ≤ n) (h6 : n ≤ 6) : viRun n = true := by
  match n, h1, h6 with
  | 1, _, _ => exact vi_run1
  | 2, _, _ => exact vi_run2
  | 3, _, _ => exact vi_run3
  | 4, _, _ => exact vi_run4
  | 5, _, _ => exact vi_run5
  | 6, _, _ => exact vi_run6
theorem vs_imp {n : Nat} (hn : n ≤ 6) {cs ts : List Value} (hb : rowsB pigK n cs = true) (hw : cs.all wfC = true) (ht : shapeB tinK ts = true) (htw : ts.all wfC = true)
    (h : ∀ base v, ∃ h', @funD (frnOf base (tk1 v n cs) noF) Try.prog (fun f => seek f []) (fun f => seek f (orcVs n cs)) vsUs 300 30 16 [.agg (.slice (some ⟨0, 0, some 0⟩) n 0 :: ts).toArray] [] = some (.bool true, h', true)) :
    ∀ q, q < n → pvV (recAt 34 cs q) = true := fun q hq => by
  have hin := vs_in hn
  unfold vsIn at hin
  rw [Bool.and_eq_true] at hin
  have ht6 : ts.length = 6 := shape_len ht
  have hsh : (vsSh n).map (conc (gW (rhoV (vsAll n cs ts)) (35 * n + 6) (vsWs n))) = .slice (some ⟨0, 0, some 0⟩) n 0 :: ts := by
    show conc _ (.lit _) :: (vsTin n).map _ = _
    rw [vs_tin hb ht htw]
    simp only [conc]
  have e2' : ([SV.agg (vsSh n)].map (conc (gW (rhoV (vsAll n cs ts)) (35 * n + 6) (vsWs n)))) = [.agg (.slice (some ⟨0, 0, some 0⟩) n 0 :: ts).toArray] := by
    show [conc _ (.agg (vsSh n))] = _
    simp only [conc, concL_map]
    rw [hsh]
  obtain ⟨h0, e0⟩ := h 0 undef
  have key := imp_run (S := vsF1 n) (P := Try.prog) (exte := fun f => seek f []) (orce := fun f => seek f (orcVs n cs)) (fun _ _ => .i 0) (rhoV (vsAll n cs ts)) (fun F hB _ => ListR.nil)
    (fun F hB hr => ListR.cons (pgSyM_ok hB hb ht6) (ListR.cons (pgSyI_ok hB hr hin.1 hb hw ht6) ListR.nil))
    (fun k => by
      show (bif Nat.beq k 0 then vsRow n else []).all _ = true
      cases Nat.beq k 0
      · rfl
      · exact hin.1) (vi_run (by omega) hn) trivial (frnOf 0 (tk1 undef n cs) noF) (fun k => by
      match k with
      | 0 => exact (vs_row hb hw).symm
      | k + 1 => rfl) (fun F hB _ f g h => by
      have h : (none : Option (List (Nat × Bool) → List SV → HeapS → M SV)) = some g := h
      cases h) ⟨h0, by
      show @funD (frnOf 0 (tk1 undef n cs) noF) Try.prog (fun f => seek f []) (fun f => seek f (orcVs n cs)) vsUs 300 30 16 ([SV.agg (vsSh n)].map (conc (gW (rhoV (vsAll n cs ts)) (35 * n + 6) (vsWs n)))) [] = _
      rw [e2']; exact e0⟩
  obtain ⟨h1, e1⟩ := key _ (List.mem_map.2 ⟨q, List.mem_range.2 hq, rfl⟩)
  have e3 : ([SV.agg (((vsRow n).drop (q * 34)).take 34)].map (conc (gW (rhoV (vsAll n cs ts)) (35 * n + 6) (vsWs n)))) = [.agg (recAt 34 cs q).toArray] := by
    show [conc _ (.agg _)] = _
    simp only [conc, concL_map]
    rw [List.map_take, List.map_drop, vs_row hb hw]
    rfl
  have e1 : @funD (frnOf 0 (tk1 undef n cs) noF) Try.prog (fun f => seek f []) (fun f => seek f (orcVs n cs)) vsUs 300 30 55 ([SV.agg (((vsRow n).drop (q * 34)).take 34)].map (conc (gW (rhoV (vsAll n cs ts)) (35 * n + 6) (vsWs n)))) [] = some (.bool true, h1, true) := e1
  rw [e3] at e1
  have e1 : some (Value.bool (pvV (recAt 34 cs q)), ([] : Heap), _) = some (Value.bool true, h1, true) := e1
  simp only [Option.some.injEq, Prod.mk.injEq, Value.bool.injEq] at e1
  exact e1.1

/-! ### the numbers of a valid pigment -/
def paQ : List Job := [⟨140, [.agg ((pvS.drop 1).take 16)], []⟩, ⟨140, [.agg ((pvS.drop 17).take 16)], []⟩]
theorem pa_run : impB pvF Try.prog [] symPg pvUs 300 30 34 [] [(.s 2, 9223372036854775808, true)] pvA paQ = true := by kernel_rfl
theorem pv_amounts {cs : List Value} (hs : shapeB pigK cs = true) (hw : cs.all wfC = true) (h : pvV cs = true) : allO .amount ((cs.drop 1).take 16) = true ∧ allO .amount ((cs.drop 17).take 16) = true := by
  have hc : pvS.map (conc (gW (rhoV cs) 34 [])) = cs := by
    rw [← pv_svs]
    exact svs_conc (ks := pigK) (vs := cs) (j := 0) (w := 36) (pre := []) (post := []) (by kernel_rfl) hs (wfs_wr hw) (by
      have := rho_part (A := []) (vs := cs) (B := []) (j := 0) rfl
      rwa [List.nil_append, List.append_nil] at this) (by decide) rfl rfl
  have hE : factsH (gW (rhoV cs) 34 []) [(.s 2, 9223372036854775808, true)] := by
    obtain ⟨s, ys, rfl, _⟩ := shape_s hs
    have h0 : conc (gW (rhoV (.string s :: ys)) 34 []) (.s 2) = .string s := by
      have := congrArg List.head? hc
      simpa [pvS] using this
    refine fact1 ?_ trivial
    rw [h0]
    rw [List.all_cons, Bool.and_eq_true] at hw
    have hsz : s.size ≤ maxLen := of_decide_eq_true hw.1
    rw [maxLen_eq] at hsz
    show (s.size : Int) < _
    omega
  obtain ⟨⟨h0, e0⟩, _⟩ := pvV_spec hs hw 0 undef
  rw [h] at e0
  have key := imp_run (S := pvF) (P := Try.prog) (exte := fun f => seek f []) (orce := fun f => seek f orcPg) UNm (rhoV cs) (fun F hB _ => ListR.nil) (fun F hB _ => symPgR F _ hB)
    (fun k => by
      show (bif Nat.beq k 0 then pvS else []).all (inC 34) = true
      cases Nat.beq k 0
      · rfl
      · kernel_rfl) pa_run hE (frnOf 0 (tk1 undef 1 cs) noF) (fun k => by
      match k with
      | 0 => exact hc.symm
      | k + 1 => rfl) (fun F hB _ f g h => by
      have h : (none : Option (List (Nat × Bool) → List SV → HeapS → M SV)) = some g := h
      cases h) ⟨h0, by simpa [pvA, conc, concH, oneOr] using e0⟩
  have one : ∀ (d : Nat), (∃ h', @funD (frnOf 0 (tk1 undef 1 cs) noF) Try.prog (fun f => seek f []) (fun f => seek f orcPg) pvUs 300 30 140 ([SV.agg ((pvS.drop d).take 16)].map (conc (gW (rhoV cs) 34 []))) [] = some (.bool true, h', true)) → allO .amount ((cs.drop d).take 16) = true := fun d ⟨h', e⟩ => by
    have e3 : ([SV.agg ((pvS.drop d).take 16)].map (conc (gW (rhoV cs) 34 []))) = [.agg ((cs.drop d).take 16).toArray] := by
      show [conc _ (.agg _)] = _
      simp only [conc, concL_map]
      rw [List.map_take, List.map_drop, hc]
    rw [e3] at e
    have e : (match curveO .amount [.agg ((cs.drop d).take 16).toArray] with | some (v, k) => some (v, ([] : Heap), k) | none => none) = some (.bool true, h', true) := e
    unfold curveO at e
    cases hf : fitA psC [.agg ((cs.drop d).take 16).toArray] with
    | false => rw [hf] at e; cases e
    | true =>
      rw [hf, cond_true] at e
      dsimp only at e
      simp only [Option.some.injEq, Prod.mk.injEq, Value.bool.injEq] at e
      exact e.1
  exact ⟨one 1 (key _ (List.mem_cons_self ..)), one 17 (key _ (List.mem_cons_of_mem _ (List.mem_cons_self ..)))⟩
end Go.Proofs.Ytigpiogljfedpaa
end
