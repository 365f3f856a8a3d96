/-
  FnExactDeedText: at every deed the function answers as its model, and the deed reads afterwards as before. What package-level variables hold when the call begins is tied to the program's text by the card.
-/
import Derived.Test.YtpejbbgifllkkaaDoorTd
import Derived.Test.YtpejbbgifllkkaaDoorTe
import Derived.Test.YtpejbbgifllkkaaDoorCards
import Derived.Test.YtpejbbgifllkkaaDoorTie
import Derived.ProofKit
import Derived.OpenShut
import Derived.Deep.DeepHandedRow
import Derived.Lib.LaidTab
noncomputable section
namespace Go.Proofs.YtpejbbgifllkkaaDoor.fnExactDeedText
open Go Go.ChangeShapes Go.WideShapes Go.ChangeAt Go.RowKit Tx
theorem both (k a : Int) : ∃ s : ByteArray, (∀ w, Calls Tryd.prog 13 #[.agg #[.int .i64 k, .int .i64 a]] w fun e w' => e = .returned (.string s) ∧ Below w.heap.size w w') ∧
    ∀ w, TabOk w → Calls Tryd.prog 15 #[.agg #[.int .i64 k, .int .i64 a]] w fun e w' => e = .returned (.string s) ∧ Below w.heap.size w w' := by
  by_cases h1 : k < 1
  · exact ⟨_, fun w => spec_b1 k a w h1, fun w _ => impl_b1 k a w h1⟩
  by_cases h2 : 6 < k
  · exact ⟨_, fun w => spec_b2 k a w (by omega) h2, fun w _ => impl_b2 k a w (by omega) h2⟩
  by_cases h3 : a < 0
  · exact ⟨_, fun w => spec_b3 k a w (by omega) (by omega) h3, fun w _ => impl_b3 k a w (by omega) (by omega) h3⟩
  by_cases h4 : 999 < a
  · exact ⟨_, fun w => spec_b4 k a w (by omega) (by omega) (by omega) h4, fun w _ => impl_b4 k a w (by omega) (by omega) (by omega) h4⟩
  rcases (show k = 1 ∨ k = 2 ∨ k = 3 ∨ k = 4 ∨ k = 5 ∨ k = 6 by omega) with rfl | rfl | rfl | rfl | hk
  · exact ⟨_, fun w => spec_1 a w (by omega) (by omega), fun w ht => impl_1 a w (by omega) (by omega) ht⟩
  · exact ⟨_, fun w => spec_2 a w (by omega) (by omega), fun w ht => impl_2 a w (by omega) (by omega) ht⟩
  · exact ⟨_, fun w => spec_3 a w (by omega) (by omega), fun w ht => impl_3 a w (by omega) (by omega) ht⟩
  · exact ⟨_, fun w => spec_4 a w (by omega) (by omega), fun w ht => impl_4 a w (by omega) (by omega) ht⟩
  by_cases h0 : a = 0
  · subst h0
    rcases hk with rfl | rfl
    · exact ⟨_, fun w => spec_5 w, fun w ht => impl_5 w ht⟩
    · exact ⟨_, fun w => spec_6 w, fun w ht => impl_6 w ht⟩
  · exact ⟨_, fun w => spec_b5 k a w hk (by omega) (by omega) h0, fun w _ => impl_b5 k a w hk (by omega) (by omega) h0⟩
set_option maxHeartbeats 1000000 in
set_option maxRecDepth 100000 in
theorem to_calls (k a : Int) (w : World) : Calls Tryd.prog 14 #[.agg #[.int .i64 k, .int .i64 a]] w fun e w' => e = .returned (.agg #[.int .i64 k, .int .i64 a]) ∧ Below w.heap.size w w' := by
  go_enter Tryd.func14, Tryd.ntmps14
  go_wp2
  exact bodyPost_ret (v := .agg #[.int .i64 k, .int .i64 a]) (by simp [results, Tryd.results14, go_sem]) rfl ⟨rfl, by repeat (first | exact Below.refl _ _ | apply Below.drew | apply bA)⟩
set_option maxHeartbeats 1000000 in
set_option maxRecDepth 100000 in
theorem law_calls (k a : Int) (w : World) (ht : TabOk w) : Calls Tryd.prog 4 #[.agg #[.int .i64 k, .int .i64 a]] w fun e w' => e = .returned (.bool true) ∧ Below w.heap.size w w' := by
  obtain ⟨s, hs, hi⟩ := both k a
  go_enter Tryd.func4, Tryd.ntmps4
  go_wp2_with (first
    | (go_at_call 14; refine (to_calls k a _).mono ?_; rintro e w' ⟨rfl, hb⟩; have hsz : w.heap.size < w'.heap.size := Nat.lt_of_lt_of_le (by first | assumption | simp) hb.size; have q0 : w'.cell? ⟨w.heap.size, 0, none⟩ = some (.int .i64 k) := (hb.cell (p := ⟨w.heap.size, 0, none⟩) (by first | assumption | simp)).trans (by first | assumption | simp); have q1 : w'.cell? ⟨w.heap.size, 1, none⟩ = some (.int .i64 a) := (hb.cell (p := ⟨w.heap.size, 1, none⟩) (by first | assumption | simp)).trans (by first | assumption | simp); have hT : TabOk w' := tab_below (by first | assumption | exact tab_below ht (bA (Below.refl _ _) _)) hb; have hW : Below w.heap.size w w' := Below.trans (by first | assumption | exact bA (Below.refl _ _) _) (hb.mono (by first | exact Nat.le_of_lt (by assumption) | simp)))
    | (go_at_call 13; refine (hs _).mono ?_; rintro e w' ⟨rfl, hb⟩; have hsz : w.heap.size < w'.heap.size := Nat.lt_of_lt_of_le (by first | assumption | simp) hb.size; have q0 : w'.cell? ⟨w.heap.size, 0, none⟩ = some (.int .i64 k) := (hb.cell (p := ⟨w.heap.size, 0, none⟩) (by first | assumption | simp)).trans (by first | assumption | simp); have q1 : w'.cell? ⟨w.heap.size, 1, none⟩ = some (.int .i64 a) := (hb.cell (p := ⟨w.heap.size, 1, none⟩) (by first | assumption | simp)).trans (by first | assumption | simp); have hT : TabOk w' := tab_below (by first | assumption | exact tab_below ht (bA (Below.refl _ _) _)) hb; have hW : Below w.heap.size w w' := Below.trans (by first | assumption | exact bA (Below.refl _ _) _) (hb.mono (by first | exact Nat.le_of_lt (by assumption) | simp)))
    | (go_at_call 15; refine (hi _ (by assumption)).mono ?_; rintro e w' ⟨rfl, hb⟩; have hsz : w.heap.size < w'.heap.size := Nat.lt_of_lt_of_le (by first | assumption | simp) hb.size; have q0 : w'.cell? ⟨w.heap.size, 0, none⟩ = some (.int .i64 k) := (hb.cell (p := ⟨w.heap.size, 0, none⟩) (by first | assumption | simp)).trans (by first | assumption | simp); have q1 : w'.cell? ⟨w.heap.size, 1, none⟩ = some (.int .i64 a) := (hb.cell (p := ⟨w.heap.size, 1, none⟩) (by first | assumption | simp)).trans (by first | assumption | simp); have hT : TabOk w' := tab_below (by first | assumption | exact tab_below ht (bA (Below.refl _ _) _)) hb; have hW : Below w.heap.size w w' := Below.trans (by first | assumption | exact bA (Below.refl _ _) _) (hb.mono (by first | exact Nat.le_of_lt (by assumption) | simp))))
  go_ret
  exact ⟨rfl, by assumption⟩
theorem laidOut : laidOutB Tryd.prog = true := by kernel_rfl
theorem own : ownKnob Tryd.prog.godebug = none := by kernel_rfl
/-- what the row's list gives: the table of powers -/
theorem tables {W : World} (h : laidMetH Tryd.prog Rows.fnExactDeedTextRow.laid W) : TabOk W := by
  have h1 : laidMet Tryd.prog Rows.fnExactDeedTextRow.laid W := h
  obtain ⟨ps, hL, _⟩ := h1
  obtain ⟨_, _, _, _, _, _, _, _, _, _, hL, _⟩ := hL
  obtain ⟨_, _, _, _, _, _, _, _, _, _, hL, _⟩ := hL
  obtain ⟨g', t', cs, fuel, p, q, hg', ht', hvar, hd, _, _⟩ := hL
  obtain rfl := Option.some.inj ((show Tryd.prog.globalNamed "internal/strconv.uint64pow10" = some 5 by kernel_rfl).symm.trans hg')
  obtain rfl := Option.some.inj ((show (Tryd.prog.globals[5]?).map (·.type) = some 167 by kernel_rfl).symm.trans ht')
  unfold TabOk Lib.TabIs
  rw [hvar, ← Lib.cells_of_tab (zs := Lib.pow10Tab) (k := .u64) Tryd.underlying167 Tryd.underlying152 (by kernel_rfl) (by kernel_rfl) hd]

theorem cells2 : Tryd.prog.cellsOf 41 = 2 := by kernel_rfl
set_option maxRecDepth 100000 in
/-- what the walks give, for every argument and every world that holds the table -/
theorem contract (H : Type) (enc : TypeId × Value → H) (W : World) (base : Nat) (args : Array Value) (ds gs : List (DataW H)) (before : List MemPlace)
    (hval : ∀ (j : Nat) t v, Tryd.f4.params[j]? = some t → args[j]? = some v → Value.okWide Tryd.prog W .any base t v)
    (hW : DataW.Whole enc Tryd.prog Tryd.f4.params.toList Rows.fnExactDeedTextSpec.vars false W args.toList ds gs before) (hL : laidMetH Tryd.prog Rows.fnExactDeedTextRow.laid W) :
    Calls Tryd.prog 4 args W fun e W' => ∃ v, e = .returned v ∧ Rows.fnExactDeedTextSpec.post enc Tryd.prog Tryd.f4 false true false false W args v W' := by
  have hW' := hW
  obtain ⟨p, q, hA0, hV, rfl, hfz, hnd⟩ := hW
  have hA : DataW.TrodAll enc Tryd.prog W 0 (fun _ => true) true Tryd.f4.params.toList args.toList ds p := hA0
  rw [Tryd.params4] at hA hval
  obtain ⟨v0, vs0, d0, ds0, p0, q0, hargs, rfl, rfl, h0, r0⟩ := trodAll_cons hA
  obtain ⟨rfl, rfl, rfl⟩ := trodAll_nil r0
  obtain rfl : args = #[v0] := by cases args; simp_all
  obtain ⟨rfl, rfl⟩ := trodVars_none hV
  have lt0 : ∀ x ∈ p0, x.block < W.heap.size := by obtain ⟨m, hm⟩ := h0; exact DataW.trod_lt m _ _ _ hm
  obtain ⟨cs, rfl, hsz⟩ := okWide_struct Tryd.underlying41 (hval 0 41 v0 rfl rfl)
  obtain ⟨k, a, rfl⟩ : ∃ k a : Int, cs = #[.int .i64 k, .int .i64 a] := by
    obtain ⟨fuel, ht⟩ := h0
    obtain ⟨y0, y1, n, _, hl, t0, t1⟩ := trod_struct2 Tryd.underlying41 ht
    obtain ⟨k, e0, _⟩ := DataW.trod_int Tryd.underlying2 t0
    obtain ⟨a, e1, _⟩ := DataW.trod_int Tryd.underlying2 t1
    refine ⟨k, a, Array.ext' ?_⟩
    rw [show Tryd.prog.cellsOf 2 = 1 by kernel_rfl] at e0 e1
    have hl2 : cs.toList.length = 2 := by rw [← cells2]; exact hl
    match h : cs.toList, hl2 with
    | [x, y], _ =>
      have e0 : (cs.toList.drop 0).take 1 = [Value.int .i64 k] := e0
      have e1 : (cs.toList.drop 1).take 1 = [Value.int .i64 a] := e1
      rw [h] at e0 e1
      simp at e0 e1
      rw [e0, e1]
  refine (law_calls k a W (tables hL)).mono fun e W' ⟨he, bel⟩ => ?_
  subst he
  exact ⟨_, rfl, _, _, _, [], _, [], hW', trodAll_mk1 (shut_bool Tryd.underlying4 _), (trodAll_cons_mk (Below.trod laidOut (by kernel_rfl) (of_decide_eq_true (by kernel_rfl)) h0 bel lt0) trodAll_mk0), rfl, bel.frame _, fun h => by cases h⟩
/-- a world for the witness: the settled one, the tables holding what their initialisers lay -/
noncomputable def numsOf (k : IntKind) (zs : List Int) : Array Value := (zs.map fun z => Value.int k z).toArray
noncomputable def tabF (k : IntKind) (zs : List Int) : Obj → Obj
  | .cells _ t frozen => .cells (numsOf k zs) t frozen
  | o => o
noncomputable def laidWorld (os : Os) : World :=
  { World.holding Tryd.prog os ⟨#[], #[], []⟩ with heap := (((World.holding Tryd.prog os ⟨#[], #[], []⟩).heap.modify 5 (tabF .u64 Lib.pow10Tab)).modify 7 (tabF .u8 [0, 1, 28, 2, 29, 14, 24, 3, 30, 22, 20, 15, 25, 17, 4, 8, 31, 27, 13, 23, 21, 19, 16, 7, 26, 12, 18, 6, 11, 5, 10, 9])).modify 8 (tabF .u8 [0, 1, 56, 2, 57, 49, 28, 3, 61, 58, 42, 50, 38, 29, 17, 4, 62, 47, 59, 36, 45, 43, 51, 22, 53, 39, 33, 30, 24, 18, 12, 5, 63, 55, 48, 27, 60, 41, 37, 16, 46, 35, 44, 21, 52, 32, 23, 11, 54, 26, 40, 15, 34, 20, 31, 10, 25, 14, 19, 9, 13, 8, 7, 6]) }
noncomputable def wit : Array Value := #[.agg #[.int .i64 0, .int .i64 0]]
theorem laid_met (os : Os) : laidMet Tryd.prog Rows.fnExactDeedTextRow.laid ((laidWorld os).forCall (fun _ _ => 0) ⟨#[], wit, []⟩).memory :=
  laidMet_of_run' 8 (by kernel_rfl) (by kernel_rfl)
theorem reads (os : Os) {H : Type} (enc : TypeId × Value → H) : ∃ places, DataW.whole enc Tryd.prog ((laidWorld os).forCall (fun _ _ => 0) ⟨#[], wit, []⟩).memory Tryd.f4.params.toList Rows.fnExactDeedTextSpec.vars false wit.toList 8 = some ([.agg [.lit (.int .i64 0), .lit (.int .i64 0)]], [], places) :=
  ⟨[], by kernel_rfl⟩
set_option maxRecDepth 100000 in
theorem lifted (os : Os) (started : os.Started) (H : Type) (enc : TypeId × Value → H) (F : Stop.Interp) :
    ReturnsInHanded {} Tryd.checked os 4 .any ((OpenSpec.ofChange Rows.fnExactDeedTextSpec).preRow enc Tryd.prog Tryd.f4 Rows.fnExactDeedTextRow.domain false Rows.fnExactDeedTextRow.laid) (((OpenSpec.ofChange Rows.fnExactDeedTextSpec).at F).post enc Tryd.prog Tryd.f4 false true false false) := by
  obtain ⟨places, hx⟩ := reads os enc
  refine returnsInHanded_of_row (C := Tryd.checked) (s := OpenSpec.ofChange Rows.fnExactDeedTextSpec) own started (by kernel_rfl) Tryd.func4
    (witness_row_at (enc := enc) (C := Tryd.checked) false (laidWorld os) wit rfl (by kernel_rfl) (by kernel_rfl) (by kernel_rfl)
      (OpenSpec.preRow_of_cond 8 hx (by kernel_rfl) (fun k hk => by cases hk) (by kernel_rfl) (laid_met os))) ?_
  intro W base args ds gs before hval hW _ _ _ hL _ _
  exact contract H enc W base args ds gs before hval hW hL
theorem said : Rows.FnExactDeedTextSaid :=
  OpenClaim.holds_of_cond 4 Tryd.f4 rfl rfl rfl rfl rfl rfl rfl ⟨rfl, rfl, rfl, rfl, rfl⟩ rfl rfl rfl rfl rfl (by kernel_rfl) Tryd.func4 (by kernel_rfl)
    (of_decide_eq_true (by kernel_rfl)) (by unfold Func.isWrapper; first | (rw [if_pos (by decide +kernel)]; kernel_rfl) | (rw [if_neg (by decide +kernel)]; exact ⟨rfl, rfl⟩))
    (fun os started H enc _ F => by rw [OpenClaim.pre_eq_preRow]; exact lifted os started H enc F)
/-- no parameter wants a stand-in -/
theorem plain (f : FuncId) (fn : Func) (hf : Tryd.pinned.checked.prog.funcNamed "loop.example/g01213/laws.FnExactDeedText" = some f) (hfn : Tryd.pinned.checked.prog.funcs[f]? = some fn) :
    true = Tryd.pinned.checked.prog.looks [] ∧ ∀ (j : Nat) t, fn.params[j]? = some t → Tryd.pinned.checked.prog.wantsStandIn t = false := by
  obtain rfl : f = 4 := Option.some.inj ((show Tryd.prog.funcNamed "loop.example/g01213/laws.FnExactDeedText" = some 4 by kernel_rfl).symm.trans hf) |>.symm
  obtain rfl : fn = Tryd.f4 := (Option.some.inj (Tryd.func4.symm.trans hfn)).symm
  refine ⟨by kernel_rfl, fun j t ht => ?_⟩
  rw [Tryd.params4] at ht
  obtain rfl : t = 41 := by simpa using Array.mem_of_getElem? ht
  exact (show Tryd.prog.wantsStandIn 41 = false by kernel_rfl)
/-- the given card -/
theorem proved : Rows.FnExactDeedTextCardSaid :=
  Claim7.holds_tied_plain_at .later [] _ _ _ _ said (fun _ h => by cases h) (by kernel_rfl) (fun _ h => by cases h) fnExactDeedText_row_tie rfl ⟨rfl, rfl⟩ (by kernel_rfl) rfl plain (by kernel_rfl)
end Go.Proofs.YtpejbbgifllkkaaDoor.fnExactDeedText
end
