/-
  FnExactDropsText: at every deed the function answers as its model, and the drops read afterwards as before. What package-level variables hold when the call begins is tied to the program's text by the card.
-/
import Derived.Test.YtpejbbgifllkkaaDoorUb
import Derived.Test.YtpejbbgifllkkaaDoorUc
import Derived.Test.YtpejbbgifllkkaaDoorCards
import Derived.Test.YtpejbbgifllkkaaDoorTie
import Derived.ProofKit
import Derived.OpenShut
import Derived.Deep.DeepHandedRow
import Derived.Lib.LaidTab
noncomputable section
namespace Go.Proofs.YtpejbbgifllkkaaDoor.fnExactDropsText
open Go Go.ChangeShapes Go.WideShapes Go.ChangeAt Go.RowKit Tx
theorem both (d0 d1 d2 d3 d4 d5 : Int) (l0 : -32768 ≤ d0) (u0 : d0 ≤ 32767) (l1 : -32768 ≤ d1) (u1 : d1 ≤ 32767) (l2 : -32768 ≤ d2) (u2 : d2 ≤ 32767) (l3 : -32768 ≤ d3) (u3 : d3 ≤ 32767) (l4 : -32768 ≤ d4) (u4 : d4 ≤ 32767) (l5 : -32768 ≤ d5) (u5 : d5 ≤ 32767) : ∃ s : ByteArray, (∀ w, Calls Tryd.prog 16 #[.agg #[.int .i16 d0, .int .i16 d1, .int .i16 d2, .int .i16 d3, .int .i16 d4, .int .i16 d5]] w fun e w' => e = .returned (.string s) ∧ Below w.heap.size w w') ∧
    ∀ w, TabOk w → Calls Tryd.prog 18 #[.agg #[.int .i16 d0, .int .i16 d1, .int .i16 d2, .int .i16 d3, .int .i16 d4, .int .i16 d5]] w fun e w' => e = .returned (.string s) ∧ Below w.heap.size w w' := by
  by_cases a0 : d0 < 0
  · exact ⟨_, fun w => sp_0l d0 d1 d2 d3 d4 d5 w  a0 l0, fun w _ => im_0l d0 d1 d2 d3 d4 d5 w  a0⟩
  by_cases b0 : 1000 < d0
  · exact ⟨_, fun w => sp_0h d0 d1 d2 d3 d4 d5 w  (by omega) b0 u0, fun w _ => im_0h d0 d1 d2 d3 d4 d5 w  (by omega) b0⟩
  by_cases a1 : d1 < 0
  · exact ⟨_, fun w => sp_1l d0 d1 d2 d3 d4 d5 w (by omega) (by omega) a1 l1, fun w _ => im_1l d0 d1 d2 d3 d4 d5 w (by omega) (by omega) a1⟩
  by_cases b1 : 1000 < d1
  · exact ⟨_, fun w => sp_1h d0 d1 d2 d3 d4 d5 w (by omega) (by omega) (by omega) b1 u1, fun w _ => im_1h d0 d1 d2 d3 d4 d5 w (by omega) (by omega) (by omega) b1⟩
  by_cases a2 : d2 < 0
  · exact ⟨_, fun w => sp_2l d0 d1 d2 d3 d4 d5 w (by omega) (by omega) (by omega) (by omega) a2 l2, fun w _ => im_2l d0 d1 d2 d3 d4 d5 w (by omega) (by omega) (by omega) (by omega) a2⟩
  by_cases b2 : 1000 < d2
  · exact ⟨_, fun w => sp_2h d0 d1 d2 d3 d4 d5 w (by omega) (by omega) (by omega) (by omega) (by omega) b2 u2, fun w _ => im_2h d0 d1 d2 d3 d4 d5 w (by omega) (by omega) (by omega) (by omega) (by omega) b2⟩
  by_cases a3 : d3 < 0
  · exact ⟨_, fun w => sp_3l d0 d1 d2 d3 d4 d5 w (by omega) (by omega) (by omega) (by omega) (by omega) (by omega) a3 l3, fun w _ => im_3l d0 d1 d2 d3 d4 d5 w (by omega) (by omega) (by omega) (by omega) (by omega) (by omega) a3⟩
  by_cases b3 : 1000 < d3
  · exact ⟨_, fun w => sp_3h d0 d1 d2 d3 d4 d5 w (by omega) (by omega) (by omega) (by omega) (by omega) (by omega) (by omega) b3 u3, fun w _ => im_3h d0 d1 d2 d3 d4 d5 w (by omega) (by omega) (by omega) (by omega) (by omega) (by omega) (by omega) b3⟩
  by_cases a4 : d4 < 0
  · exact ⟨_, fun w => sp_4l d0 d1 d2 d3 d4 d5 w (by omega) (by omega) (by omega) (by omega) (by omega) (by omega) (by omega) (by omega) a4 l4, fun w _ => im_4l d0 d1 d2 d3 d4 d5 w (by omega) (by omega) (by omega) (by omega) (by omega) (by omega) (by omega) (by omega) a4⟩
  by_cases b4 : 1000 < d4
  · exact ⟨_, fun w => sp_4h d0 d1 d2 d3 d4 d5 w (by omega) (by omega) (by omega) (by omega) (by omega) (by omega) (by omega) (by omega) (by omega) b4 u4, fun w _ => im_4h d0 d1 d2 d3 d4 d5 w (by omega) (by omega) (by omega) (by omega) (by omega) (by omega) (by omega) (by omega) (by omega) b4⟩
  by_cases a5 : d5 < 0
  · exact ⟨_, fun w => sp_5l d0 d1 d2 d3 d4 d5 w (by omega) (by omega) (by omega) (by omega) (by omega) (by omega) (by omega) (by omega) (by omega) (by omega) a5 l5, fun w _ => im_5l d0 d1 d2 d3 d4 d5 w (by omega) (by omega) (by omega) (by omega) (by omega) (by omega) (by omega) (by omega) (by omega) (by omega) a5⟩
  by_cases b5 : 1000 < d5
  · exact ⟨_, fun w => sp_5h d0 d1 d2 d3 d4 d5 w (by omega) (by omega) (by omega) (by omega) (by omega) (by omega) (by omega) (by omega) (by omega) (by omega) (by omega) b5 u5, fun w _ => im_5h d0 d1 d2 d3 d4 d5 w (by omega) (by omega) (by omega) (by omega) (by omega) (by omega) (by omega) (by omega) (by omega) (by omega) (by omega) b5⟩
  exact ⟨_, fun w => sp_ok d0 d1 d2 d3 d4 d5 w (by omega) (by omega) (by omega) (by omega) (by omega) (by omega) (by omega) (by omega) (by omega) (by omega) (by omega) (by omega), fun w ht => im_ok d0 d1 d2 d3 d4 d5 w (by omega) (by omega) (by omega) (by omega) (by omega) (by omega) (by omega) (by omega) (by omega) (by omega) (by omega) (by omega) ht⟩
set_option maxHeartbeats 4000000 in
set_option maxRecDepth 100000 in
theorem to_calls (d0 d1 d2 d3 d4 d5 : Int) (w : World) : Calls Tryd.prog 17 #[.agg #[.int .i16 d0, .int .i16 d1, .int .i16 d2, .int .i16 d3, .int .i16 d4, .int .i16 d5]] w fun e w' => e = .returned (.agg #[.int .i16 d0, .int .i16 d1, .int .i16 d2, .int .i16 d3, .int .i16 d4, .int .i16 d5]) ∧ Below w.heap.size w w' := by
  go_enter Tryd.func17, Tryd.ntmps17
  go_wp2
  refine wp_loop_rounds 7 ?_
  rw [rounds_succ]
  go_wp2
  rw [rounds_succ]
  go_wp2
  rw [rounds_succ]
  go_wp2
  rw [rounds_succ]
  go_wp2
  rw [rounds_succ]
  go_wp2
  rw [rounds_succ]
  go_wp2
  rw [rounds_succ]
  go_wp2
  exact bodyPost_ret (v := .agg #[.int .i16 d0, .int .i16 d1, .int .i16 d2, .int .i16 d3, .int .i16 d4, .int .i16 d5]) (by simp [results, Tryd.results17, go_sem]) rfl ⟨rfl, by repeat (first | exact Below.refl _ _ | apply Below.drew | apply bA | (refine Below.setCell ?_ (by simp) _))⟩
set_option maxHeartbeats 4000000 in
set_option maxRecDepth 100000 in
theorem law_calls (d0 d1 d2 d3 d4 d5 : Int) (w : World) (ht : TabOk w) (l0 : -32768 ≤ d0) (u0 : d0 ≤ 32767) (l1 : -32768 ≤ d1) (u1 : d1 ≤ 32767) (l2 : -32768 ≤ d2) (u2 : d2 ≤ 32767) (l3 : -32768 ≤ d3) (u3 : d3 ≤ 32767) (l4 : -32768 ≤ d4) (u4 : d4 ≤ 32767) (l5 : -32768 ≤ d5) (u5 : d5 ≤ 32767) : Calls Tryd.prog 5 #[.agg #[.int .i16 d0, .int .i16 d1, .int .i16 d2, .int .i16 d3, .int .i16 d4, .int .i16 d5]] w fun e w' => e = .returned (.bool true) ∧ Below w.heap.size w w' := by
  obtain ⟨s, hs, hi⟩ := both d0 d1 d2 d3 d4 d5 l0 u0 l1 u1 l2 u2 l3 u3 l4 u4 l5 u5
  go_enter Tryd.func5, Tryd.ntmps5
  go_wp2_with (first
    | (go_at_call 17; refine (to_calls d0 d1 d2 d3 d4 d5 _).mono ?_; rintro e w' ⟨rfl, hb⟩; have hsz : w.heap.size < w'.heap.size := Nat.lt_of_lt_of_le (by first | assumption | simp) hb.size; have q0 : w'.cell? ⟨w.heap.size, 0, none⟩ = some (.int .i16 d0) := (hb.cell (p := ⟨w.heap.size, 0, none⟩) (by first | assumption | simp)).trans (by first | assumption | simp); have q1 : w'.cell? ⟨w.heap.size, 1, none⟩ = some (.int .i16 d1) := (hb.cell (p := ⟨w.heap.size, 1, none⟩) (by first | assumption | simp)).trans (by first | assumption | simp); have q2 : w'.cell? ⟨w.heap.size, 2, none⟩ = some (.int .i16 d2) := (hb.cell (p := ⟨w.heap.size, 2, none⟩) (by first | assumption | simp)).trans (by first | assumption | simp); have q3 : w'.cell? ⟨w.heap.size, 3, none⟩ = some (.int .i16 d3) := (hb.cell (p := ⟨w.heap.size, 3, none⟩) (by first | assumption | simp)).trans (by first | assumption | simp); have q4 : w'.cell? ⟨w.heap.size, 4, none⟩ = some (.int .i16 d4) := (hb.cell (p := ⟨w.heap.size, 4, none⟩) (by first | assumption | simp)).trans (by first | assumption | simp); have q5 : w'.cell? ⟨w.heap.size, 5, none⟩ = some (.int .i16 d5) := (hb.cell (p := ⟨w.heap.size, 5, none⟩) (by first | assumption | simp)).trans (by first | assumption | simp); have hT : TabOk w' := tab_below (by first | assumption | exact tab_below ht (bA (Below.refl _ _) _)) hb; have hW : Below w.heap.size w w' := Below.trans (by first | assumption | exact bA (Below.refl _ _) _) (hb.mono (by first | exact Nat.le_of_lt (by assumption) | simp)))
    | (go_at_call 16; refine (hs _).mono ?_; rintro e w' ⟨rfl, hb⟩; have hsz : w.heap.size < w'.heap.size := Nat.lt_of_lt_of_le (by first | assumption | simp) hb.size; have q0 : w'.cell? ⟨w.heap.size, 0, none⟩ = some (.int .i16 d0) := (hb.cell (p := ⟨w.heap.size, 0, none⟩) (by first | assumption | simp)).trans (by first | assumption | simp); have q1 : w'.cell? ⟨w.heap.size, 1, none⟩ = some (.int .i16 d1) := (hb.cell (p := ⟨w.heap.size, 1, none⟩) (by first | assumption | simp)).trans (by first | assumption | simp); have q2 : w'.cell? ⟨w.heap.size, 2, none⟩ = some (.int .i16 d2) := (hb.cell (p := ⟨w.heap.size, 2, none⟩) (by first | assumption | simp)).trans (by first | assumption | simp); have q3 : w'.cell? ⟨w.heap.size, 3, none⟩ = some (.int .i16 d3) := (hb.cell (p := ⟨w.heap.size, 3, none⟩) (by first | assumption | simp)).trans (by first | assumption | simp); have q4 : w'.cell? ⟨w.heap.size, 4, none⟩ = some (.int .i16 d4) := (hb.cell (p := ⟨w.heap.size, 4, none⟩) (by first | assumption | simp)).trans (by first | assumption | simp); have q5 : w'.cell? ⟨w.heap.size, 5, none⟩ = some (.int .i16 d5) := (hb.cell (p := ⟨w.heap.size, 5, none⟩) (by first | assumption | simp)).trans (by first | assumption | simp); have hT : TabOk w' := tab_below (by first | assumption | exact tab_below ht (bA (Below.refl _ _) _)) hb; have hW : Below w.heap.size w w' := Below.trans (by first | assumption | exact bA (Below.refl _ _) _) (hb.mono (by first | exact Nat.le_of_lt (by assumption) | simp)))
    | (go_at_call 18; refine (hi _ (by assumption)).mono ?_; rintro e w' ⟨rfl, hb⟩; have hsz : w.heap.size < w'.heap.size := Nat.lt_of_lt_of_le (by first | assumption | simp) hb.size; have q0 : w'.cell? ⟨w.heap.size, 0, none⟩ = some (.int .i16 d0) := (hb.cell (p := ⟨w.heap.size, 0, none⟩) (by first | assumption | simp)).trans (by first | assumption | simp); have q1 : w'.cell? ⟨w.heap.size, 1, none⟩ = some (.int .i16 d1) := (hb.cell (p := ⟨w.heap.size, 1, none⟩) (by first | assumption | simp)).trans (by first | assumption | simp); have q2 : w'.cell? ⟨w.heap.size, 2, none⟩ = some (.int .i16 d2) := (hb.cell (p := ⟨w.heap.size, 2, none⟩) (by first | assumption | simp)).trans (by first | assumption | simp); have q3 : w'.cell? ⟨w.heap.size, 3, none⟩ = some (.int .i16 d3) := (hb.cell (p := ⟨w.heap.size, 3, none⟩) (by first | assumption | simp)).trans (by first | assumption | simp); have q4 : w'.cell? ⟨w.heap.size, 4, none⟩ = some (.int .i16 d4) := (hb.cell (p := ⟨w.heap.size, 4, none⟩) (by first | assumption | simp)).trans (by first | assumption | simp); have q5 : w'.cell? ⟨w.heap.size, 5, none⟩ = some (.int .i16 d5) := (hb.cell (p := ⟨w.heap.size, 5, none⟩) (by first | assumption | simp)).trans (by first | assumption | simp); have hT : TabOk w' := tab_below (by first | assumption | exact tab_below ht (bA (Below.refl _ _) _)) hb; have hW : Below w.heap.size w w' := Below.trans (by first | assumption | exact bA (Below.refl _ _) _) (hb.mono (by first | exact Nat.le_of_lt (by assumption) | simp))))
  go_ret
  exact ⟨rfl, by assumption⟩
theorem laidOut : laidOutB Tryd.prog = true := by kernel_rfl
theorem own : ownKnob Tryd.prog.godebug = none := by kernel_rfl
/-- what the row's list gives: the table of powers -/
theorem tables {W : World} (h : laidMetH Tryd.prog Rows.fnExactDropsTextRow.laid W) : TabOk W := by
  have h1 : laidMet Tryd.prog Rows.fnExactDropsTextRow.laid W := h
  obtain ⟨ps, hL, _⟩ := h1
  obtain ⟨_, _, _, _, _, _, _, _, _, _, hL, _⟩ := hL
  obtain ⟨_, _, _, _, _, _, _, _, _, _, hL, _⟩ := hL
  obtain ⟨g', t', cs, fuel, p, q, hg', ht', hvar, hd, _, _⟩ := hL
  obtain rfl := Option.some.inj ((show Tryd.prog.globalNamed "internal/strconv.uint64pow10" = some 5 by kernel_rfl).symm.trans hg')
  obtain rfl := Option.some.inj ((show (Tryd.prog.globals[5]?).map (·.type) = some 167 by kernel_rfl).symm.trans ht')
  unfold TabOk Lib.TabIs
  rw [hvar, ← Lib.cells_of_tab (zs := Lib.pow10Tab) (k := .u64) Tryd.underlying167 Tryd.underlying152 (by kernel_rfl) (by kernel_rfl) hd]

theorem cells6 : Tryd.prog.cellsOf 47 = 6 := by kernel_rfl
theorem cells1 : Tryd.prog.cellsOf 46 = 1 := by kernel_rfl
theorem list6 {α : Type} (l : List α) (h : (⟨l⟩ : Array α).size = 6) : ∃ a b c d e f, l = [a, b, c, d, e, f] := by
  match l, h with
  | [a, b, c, d, e, f], _ => exact ⟨a, b, c, d, e, f, rfl⟩
/-- a number read as int16 lies in its range -/
theorem el {H : Type} {enc : TypeId × Value → H} {W : World} {base : Nat} {sp : Nat → Bool} {held : Bool} {m : Nat} {v : Value} {x : DataW H × List MemPlace} (h : DataW.trod enc Tryd.prog W base sp held m 46 [v] = some x) : ∃ d : Int, v = .int .i16 d ∧ -32768 ≤ d ∧ d ≤ 32767 := by
  obtain ⟨d, e, _, wf⟩ := DataW.trod_int Tryd.underlying46 h
  simp [Lit.wf] at wf
  have n : IntKind.i16.min = -32768 := by decide
  have x : IntKind.i16.max = 32767 := by decide
  exact ⟨d, by simpa using e, by omega, by omega⟩
set_option maxRecDepth 100000 in
/-- what the walks give, for every argument and every world that holds the table -/
theorem contract (H : Type) (enc : TypeId × Value → H) (W : World) (base : Nat) (args : Array Value) (ds gs : List (DataW H)) (before : List MemPlace)
    (hval : ∀ (j : Nat) t v, Tryd.f5.params[j]? = some t → args[j]? = some v → Value.okWide Tryd.prog W .any base t v)
    (hW : DataW.Whole enc Tryd.prog Tryd.f5.params.toList Rows.fnExactDropsTextSpec.vars false W args.toList ds gs before) (hL : laidMetH Tryd.prog Rows.fnExactDropsTextRow.laid W) :
    Calls Tryd.prog 5 args W fun e W' => ∃ v, e = .returned v ∧ Rows.fnExactDropsTextSpec.post enc Tryd.prog Tryd.f5 false true false false W args v W' := by
  have hW' := hW
  obtain ⟨p, q, hA0, hV, rfl, hfz, hnd⟩ := hW
  have hA : DataW.TrodAll enc Tryd.prog W 0 (fun _ => true) true Tryd.f5.params.toList args.toList ds p := hA0
  rw [Tryd.params5] at hA hval
  obtain ⟨v0, vs0, d0, ds0, p0, q0, hargs, rfl, rfl, h0, r0⟩ := trodAll_cons hA
  obtain ⟨rfl, rfl, rfl⟩ := trodAll_nil r0
  obtain rfl : args = #[v0] := by cases args; simp_all
  obtain ⟨rfl, rfl⟩ := trodVars_none hV
  have lt0 : ∀ x ∈ p0, x.block < W.heap.size := by obtain ⟨m, hm⟩ := h0; exact DataW.trod_lt m _ _ _ hm
  obtain ⟨cs, rfl, hsz, _⟩ : ∃ cs, v0 = .agg cs ∧ cs.size = Tryd.prog.cellsOf 47 ∧ Row.okWide Tryd.prog W .any base 47 cs := by
    have := hval 0 47 v0 rfl rfl
    simpa [Value.okWide, Tryd.underlying47] using this
  rw [cells6] at hsz
  obtain ⟨l⟩ := cs
  obtain ⟨c0, c1, c2, c3, c4, c5, rfl⟩ := list6 l hsz
  obtain ⟨fuel, hf⟩ := id h0
  obtain ⟨xs, m, _, _, _, hln, hel⟩ := DataW.trod_array Tryd.underlying47 hf
  obtain ⟨d0, rfl, l0, u0⟩ : ∃ d : Int, c0 = .int .i16 d ∧ -32768 ≤ d ∧ d ≤ 32767 := by
    have h := hel 0 (by decide)
    rw [cells1, List.getElem?_eq_getElem (by omega)] at h
    exact el h
  obtain ⟨d1, rfl, l1, u1⟩ : ∃ d : Int, c1 = .int .i16 d ∧ -32768 ≤ d ∧ d ≤ 32767 := by
    have h := hel 1 (by decide)
    rw [cells1, List.getElem?_eq_getElem (by omega)] at h
    exact el h
  obtain ⟨d2, rfl, l2, u2⟩ : ∃ d : Int, c2 = .int .i16 d ∧ -32768 ≤ d ∧ d ≤ 32767 := by
    have h := hel 2 (by decide)
    rw [cells1, List.getElem?_eq_getElem (by omega)] at h
    exact el h
  obtain ⟨d3, rfl, l3, u3⟩ : ∃ d : Int, c3 = .int .i16 d ∧ -32768 ≤ d ∧ d ≤ 32767 := by
    have h := hel 3 (by decide)
    rw [cells1, List.getElem?_eq_getElem (by omega)] at h
    exact el h
  obtain ⟨d4, rfl, l4, u4⟩ : ∃ d : Int, c4 = .int .i16 d ∧ -32768 ≤ d ∧ d ≤ 32767 := by
    have h := hel 4 (by decide)
    rw [cells1, List.getElem?_eq_getElem (by omega)] at h
    exact el h
  obtain ⟨d5, rfl, l5, u5⟩ : ∃ d : Int, c5 = .int .i16 d ∧ -32768 ≤ d ∧ d ≤ 32767 := by
    have h := hel 5 (by decide)
    rw [cells1, List.getElem?_eq_getElem (by omega)] at h
    exact el h
  refine (law_calls d0 d1 d2 d3 d4 d5 W (tables hL) l0 u0 l1 u1 l2 u2 l3 u3 l4 u4 l5 u5).mono fun e W' ⟨he, bel⟩ => ?_
  subst he
  exact ⟨_, rfl, _, _, _, [], _, [], hW', trodAll_mk1 (shut_bool Tryd.underlying4 _), (trodAll_cons_mk (Below.trod laidOut (by kernel_rfl) (of_decide_eq_true (by kernel_rfl)) h0 bel lt0) trodAll_mk0), rfl, bel.frame _, fun h => by cases h⟩
/-- a world for the witness: the settled one, the tables holding what their initialisers lay -/
noncomputable def numsOf (k : IntKind) (zs : List Int) : Array Value := (zs.map fun z => Value.int k z).toArray
noncomputable def tabF (k : IntKind) (zs : List Int) : Obj → Obj
  | .cells _ t frozen => .cells (numsOf k zs) t frozen
  | o => o
noncomputable def laidWorld (os : Os) : World :=
  { World.holding Tryd.prog os ⟨#[], #[], []⟩ with heap := (((World.holding Tryd.prog os ⟨#[], #[], []⟩).heap.modify 5 (tabF .u64 Lib.pow10Tab)).modify 7 (tabF .u8 [0, 1, 28, 2, 29, 14, 24, 3, 30, 22, 20, 15, 25, 17, 4, 8, 31, 27, 13, 23, 21, 19, 16, 7, 26, 12, 18, 6, 11, 5, 10, 9])).modify 8 (tabF .u8 [0, 1, 56, 2, 57, 49, 28, 3, 61, 58, 42, 50, 38, 29, 17, 4, 62, 47, 59, 36, 45, 43, 51, 22, 53, 39, 33, 30, 24, 18, 12, 5, 63, 55, 48, 27, 60, 41, 37, 16, 46, 35, 44, 21, 52, 32, 23, 11, 54, 26, 40, 15, 34, 20, 31, 10, 25, 14, 19, 9, 13, 8, 7, 6]) }
noncomputable def wit : Array Value := #[.agg #[.int .i16 0, .int .i16 0, .int .i16 0, .int .i16 0, .int .i16 0, .int .i16 0]]
theorem laid_met (os : Os) : laidMet Tryd.prog Rows.fnExactDropsTextRow.laid ((laidWorld os).forCall (fun _ _ => 0) ⟨#[], wit, []⟩).memory :=
  laidMet_of_run' 8 (by kernel_rfl) (by kernel_rfl)
theorem reads (os : Os) {H : Type} (enc : TypeId × Value → H) : ∃ places, DataW.whole enc Tryd.prog ((laidWorld os).forCall (fun _ _ => 0) ⟨#[], wit, []⟩).memory Tryd.f5.params.toList Rows.fnExactDropsTextSpec.vars false wit.toList 8 = some ([.agg [.lit (.int .i16 0), .lit (.int .i16 0), .lit (.int .i16 0), .lit (.int .i16 0), .lit (.int .i16 0), .lit (.int .i16 0)]], [], places) :=
  ⟨[], by kernel_rfl⟩
set_option maxRecDepth 100000 in
theorem lifted (os : Os) (started : os.Started) (H : Type) (enc : TypeId × Value → H) (F : Stop.Interp) :
    ReturnsInHanded {} Tryd.checked os 5 .any ((OpenSpec.ofChange Rows.fnExactDropsTextSpec).preRow enc Tryd.prog Tryd.f5 Rows.fnExactDropsTextRow.domain false Rows.fnExactDropsTextRow.laid) (((OpenSpec.ofChange Rows.fnExactDropsTextSpec).at F).post enc Tryd.prog Tryd.f5 false true false false) := by
  obtain ⟨places, hx⟩ := reads os enc
  refine returnsInHanded_of_row (C := Tryd.checked) (s := OpenSpec.ofChange Rows.fnExactDropsTextSpec) own started (by kernel_rfl) Tryd.func5
    (witness_row_at (enc := enc) (C := Tryd.checked) false (laidWorld os) wit rfl (by kernel_rfl) (by kernel_rfl) (by kernel_rfl)
      (OpenSpec.preRow_of_cond 8 hx (by kernel_rfl) (fun k hk => by cases hk) (by kernel_rfl) (laid_met os))) ?_
  intro W base args ds gs before hval hW _ _ _ hL _ _
  exact contract H enc W base args ds gs before hval hW hL
theorem said : Rows.FnExactDropsTextSaid :=
  OpenClaim.holds_of_cond 5 Tryd.f5 rfl rfl rfl rfl rfl rfl rfl ⟨rfl, rfl, rfl, rfl, rfl⟩ rfl rfl rfl rfl rfl (by kernel_rfl) Tryd.func5 (by kernel_rfl)
    (of_decide_eq_true (by kernel_rfl)) (by unfold Func.isWrapper; first | (rw [if_pos (by decide +kernel)]; kernel_rfl) | (rw [if_neg (by decide +kernel)]; exact ⟨rfl, rfl⟩))
    (fun os started H enc _ F => by rw [OpenClaim.pre_eq_preRow]; exact lifted os started H enc F)
/-- no parameter wants a stand-in -/
theorem plain (f : FuncId) (fn : Func) (hf : Tryd.pinned.checked.prog.funcNamed "loop.example/g01213/laws.FnExactDropsText" = some f) (hfn : Tryd.pinned.checked.prog.funcs[f]? = some fn) :
    true = Tryd.pinned.checked.prog.looks [] ∧ ∀ (j : Nat) t, fn.params[j]? = some t → Tryd.pinned.checked.prog.wantsStandIn t = false := by
  obtain rfl : f = 5 := Option.some.inj ((show Tryd.prog.funcNamed "loop.example/g01213/laws.FnExactDropsText" = some 5 by kernel_rfl).symm.trans hf) |>.symm
  obtain rfl : fn = Tryd.f5 := (Option.some.inj (Tryd.func5.symm.trans hfn)).symm
  refine ⟨by kernel_rfl, fun j t ht => ?_⟩
  rw [Tryd.params5] at ht
  obtain rfl : t = 47 := by simpa using Array.mem_of_getElem? ht
  exact (show Tryd.prog.wantsStandIn 47 = false by kernel_rfl)
/-- the given card -/
theorem proved : Rows.FnExactDropsTextCardSaid :=
  Claim7.holds_tied_plain_at .later [] _ _ _ _ said (fun _ h => by cases h) (by kernel_rfl) (fun _ h => by cases h) fnExactDropsText_row_tie rfl ⟨rfl, rfl⟩ (by kernel_rfl) rfl plain (by kernel_rfl)
end Go.Proofs.YtpejbbgifllkkaaDoor.fnExactDropsText
end
