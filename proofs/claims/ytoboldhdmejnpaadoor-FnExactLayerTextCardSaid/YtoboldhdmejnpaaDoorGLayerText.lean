/-
  FnExactLayerText: at every layer the function answers as its model, and the layer reads afterwards as before. What package-level variables hold when the call begins is tied to the program's text by the card.
-/
import Derived.Test.YtoboldhdmejnpaaDoorLu
import Derived.Test.YtoboldhdmejnpaaDoorCards
import Derived.Test.YtoboldhdmejnpaaDoorTie
import Derived.ProofKit
import Derived.OpenShut
import Derived.Laws.IdiomArrays
import Derived.Deep.DeepHandedRow
import Derived.Lib.LaidTab
import Derived.Deep.Strs
noncomputable section
namespace Go.Proofs.YtoboldhdmejnpaaDoor.fnExactLayerText
open Go Go.ChangeShapes Go.WideShapes Go.ChangeAt Go.RowKit Go.Deep Tx
/-- what the law knows of its argument -/
def Lq (z s : Nat → Nat) (t : Nat) (w W : World) : Prop := W.rangeAt w.heap.size 0 (V33 z s t) ∧ w.heap.size + 1 ≤ W.heap.size ∧ TabOk W ∧ Below w.heap.size w W
theorem lq_below {z s : Nat → Nat} {t : Nat} {w W W' : World} (h : Lq z s t w W) (hb : Below W.heap.size W W') : Lq z s t w W' :=
  ⟨range_below (by have := h.2.1; omega) h.1 hb, Nat.le_trans h.2.1 hb.size, tab_below h.2.2.1 hb, h.2.2.2.trans (hb.mono h.2.2.2.size)⟩
theorem lq_new (z s : Nat → Nat) (t : Nat) (w : World) (T : TypeId) (ht : TabOk w) : Lq z s t w (w.alloc (.cells (V33 z s t).toArray T)) := by
  refine ⟨fun j v hv => ?_, by simp, tab_below ht (bA (Below.refl _ _) _), bA (Below.refl _ _) _⟩
  rw [Nat.zero_add, World.cell?_alloc_at (hn := rfl)]
  simpa using hv
set_option maxHeartbeats 8000000 in
set_option maxRecDepth 100000 in
theorem law_calls (z s : Nat → Nat) (t : Nat) (bz : ∀ i, z i < 4294967296) (bs : ∀ i, s i < 4294967296) (bt : t < 4294967296) (w : World) (ht : TabOk w) : Calls Tryd.prog 5 #[.agg (V33 z s t).toArray] w fun e w' => e = .returned (.bool true) ∧ Below w.heap.size w w' := by
  have h1 := tol_calls z s t
  have h2 : ∀ w, Calls Tryd.prog 12 #[.agg (V33 z s t).toArray] w fun e w' => e = .returned (.string (lyA z s t)) ∧ Below w.heap.size w w' := lsp_calls z s t bz bs bt
  have h3 : ∀ w, TabOk w → Calls Tryd.prog 14 #[.agg (V33 z s t).toArray] w fun e w' => e = .returned (.string (lyA z s t)) ∧ Below w.heap.size w w' := lim_calls z s t bz bs bt
  have hN := lq_new z s t w 31 ht
  go_enter Tryd.func5, Tryd.ntmps5
  refine wp_seq_k (fun K hK => ?_)
  have HR := Lib.hid hK
  clear hK
  go_wp2_with fail
  refine HR.out _ _ ?_
  clear HR K
  generalize w.alloc (.cells (V33 z s t).toArray 31) = W at *
  refine wp_seq_k (fun K hK => ?_)
  have HR := Lib.hid hK
  clear hK
  refine wp_region_lit ?_
  refine wpList_load_mid (by rfl) 31 (Operand.tmp 1) (by rfl) (w.heap.size) 0 (by rfl) (V33 z s t) _ hN.1 Tryd.underlying31 rfl (by kernel_rfl) ?_
  refine wpList_plain (by rfl) fun K1 hK1 => ?_
  have HK := Lib.hid hK1
  clear hK1
  go_wp2_with (go_at_call 13; refine (h1 _).mono ?_; rintro e Wxa ⟨rfl, hb⟩; replace hN := lq_below hN hb; clear hb)
  refine HK.out _ _ ?_
  clear HK K1
  refine wpList_plain (by rfl) fun K1 hK1 => ?_
  have HK := Lib.hid hK1
  clear hK1
  go_wp2_with (go_at_call 12; refine (h2 _).mono ?_; rintro e Wxb ⟨rfl, hb⟩; replace hN := lq_below hN hb; clear hb)
  refine HK.out _ _ ?_
  clear HK K1
  go_wp2_with fail
  refine HR.out _ _ ?_
  clear HR K
  refine wp_seq_k (fun K hK => ?_)
  have HR := Lib.hid hK
  clear hK
  refine wp_region_lit ?_
  refine wpList_load_mid (by rfl) 31 (Operand.tmp 1) (by rfl) (w.heap.size) 0 (by rfl) (V33 z s t) _ hN.1 Tryd.underlying31 rfl (by kernel_rfl) ?_
  refine wpList_plain (by rfl) fun K1 hK1 => ?_
  have HK := Lib.hid hK1
  clear hK1
  go_wp2_with (go_at_call 13; refine (h1 _).mono ?_; rintro e Wya ⟨rfl, hb⟩; replace hN := lq_below hN hb; clear hb)
  refine HK.out _ _ ?_
  clear HK K1
  refine wpList_plain (by rfl) fun K1 hK1 => ?_
  have HK := Lib.hid hK1
  clear hK1
  go_wp2_with (go_at_call 14; refine (h3 _ hN.2.2.1).mono ?_; rintro e Wyb ⟨rfl, hb⟩; replace hN := lq_below hN hb; clear hb)
  refine HK.out _ _ ?_
  clear HK K1
  go_wp2_with fail
  refine HR.out _ _ ?_
  clear HR K
  go_wp2
  go_ret
  exact ⟨rfl, hN.2.2.2⟩
theorem laidOut : laidOutB Tryd.prog = true := by kernel_rfl
theorem own : ownKnob Tryd.prog.godebug = none := by kernel_rfl
/-- what the row's list gives: the table of powers of two -/
theorem tables {W : World} (h : laidMetH Tryd.prog Rows.fnExactLayerTextRow.laid W) : TabOk W := by
  have h1 : laidMet Tryd.prog Rows.fnExactLayerTextRow.laid W := h
  obtain ⟨ps, hL, _⟩ := h1
  obtain ⟨_, _, _, _, _, _, _, _, _, _, hL, _⟩ := hL
  obtain ⟨g', t', cs, fuel, p, q, hg', ht', hvar, hd, _, _⟩ := hL
  obtain rfl := Option.some.inj ((show Tryd.prog.globalNamed "math/bits.deBruijn64tab" = some 4 by kernel_rfl).symm.trans hg')
  obtain rfl := Option.some.inj ((show (Tryd.prog.globals[4]?).map (·.type) = some 107 by kernel_rfl).symm.trans ht')
  unfold TabOk Lib.TabIs
  rw [hvar, ← Lib.cells_of_tab (zs := bruijn) (k := .u8) Tryd.underlying107 Tryd.underlying5 (by kernel_rfl) (by kernel_rfl) hd]
theorem cells16 : Tryd.prog.cellsOf 25 = 16 := by kernel_rfl
theorem cells1 : Tryd.prog.cellsOf 22 = 1 := by kernel_rfl
theorem list16 {α : Type} (l : List α) (h : (⟨l⟩ : Array α).size = 16) : ∃ a b c d e f g h i j k m n o p q, l = [a, b, c, d, e, f, g, h, i, j, k, m, n, o, p, q] := by
  match l, h with
  | [a, b, c, d, e, f, g, h, i, j, k, m, n, o, p, q], _ => exact ⟨a, b, c, d, e, f, g, h, i, j, k, m, n, o, p, q, rfl⟩
/-- a number read as float32 -/
theorem elG {H : Type} {P : Program} {t : TypeId} {enc : TypeId × Value → H} {W : World} {base : Nat} {sp : Nat → Bool} {held : Bool} {m : Nat} {v : Value} {x : DataW H × List MemPlace} (ht : P.underlying t = some (.float .f32)) (h : DataW.trod enc P W base sp held m t [v] = some x) : ∃ d : Nat, v = .float .f32 d ∧ (Lit.float .f32 d).wf = true := by
  cases m with
  | zero => simp [DataW.trod] at h
  | succ n =>
    unfold DataW.trod at h
    rw [ht] at h
    split at h <;> simp_all
theorem el {H : Type} {enc : TypeId × Value → H} {W : World} {base : Nat} {sp : Nat → Bool} {held : Bool} {m : Nat} {v : Value} {x : DataW H × List MemPlace} (h : DataW.trod enc Tryd.prog W base sp held m 22 [v] = some x) : ∃ d : Nat, v = .float .f32 d ∧ d < 4294967296 := by
  obtain ⟨d, e, hw⟩ := elG Tryd.underlying22 h
  exact ⟨d, e, by simpa [Lit.wf] using hw⟩
/-- sixteen numbers, as a function -/
def zOf (a : List Nat) (i : Nat) : Nat := a.getD i 0
set_option maxRecDepth 100000 in
/-- sixteen numbers that are read -/
theorem open16 {H : Type} {enc : TypeId × Value → H} {W : World} {base : Nat} {sp : Nat → Bool} {held : Bool} {fuel : Nat} {cs : List Value} {x : DataW H × List MemPlace} (hf : DataW.trod enc Tryd.prog W base sp held fuel 25 cs = some x) : ∃ z : Nat → Nat, cs = zL z ∧ ∀ i, z i < 4294967296 := by
  obtain ⟨xs, m, _, _, hsz, hln, hel⟩ := DataW.trod_array Tryd.underlying25 hf
  rw [cells16] at hsz
  obtain ⟨c0, c1, c2, c3, c4, c5, c6, c7, c8, c9, c10, c11, c12, c13, c14, c15, rfl⟩ := list16 cs hsz
  obtain ⟨d0, rfl, u0⟩ : ∃ d : Nat, c0 = .float .f32 d ∧ d < 4294967296 := by
    have h := hel 0 (by decide)
    rw [cells1, List.getElem?_eq_getElem (by omega)] at h
    exact el h
  obtain ⟨d1, rfl, u1⟩ : ∃ d : Nat, c1 = .float .f32 d ∧ d < 4294967296 := by
    have h := hel 1 (by decide)
    rw [cells1, List.getElem?_eq_getElem (by omega)] at h
    exact el h
  obtain ⟨d2, rfl, u2⟩ : ∃ d : Nat, c2 = .float .f32 d ∧ d < 4294967296 := by
    have h := hel 2 (by decide)
    rw [cells1, List.getElem?_eq_getElem (by omega)] at h
    exact el h
  obtain ⟨d3, rfl, u3⟩ : ∃ d : Nat, c3 = .float .f32 d ∧ d < 4294967296 := by
    have h := hel 3 (by decide)
    rw [cells1, List.getElem?_eq_getElem (by omega)] at h
    exact el h
  obtain ⟨d4, rfl, u4⟩ : ∃ d : Nat, c4 = .float .f32 d ∧ d < 4294967296 := by
    have h := hel 4 (by decide)
    rw [cells1, List.getElem?_eq_getElem (by omega)] at h
    exact el h
  obtain ⟨d5, rfl, u5⟩ : ∃ d : Nat, c5 = .float .f32 d ∧ d < 4294967296 := by
    have h := hel 5 (by decide)
    rw [cells1, List.getElem?_eq_getElem (by omega)] at h
    exact el h
  obtain ⟨d6, rfl, u6⟩ : ∃ d : Nat, c6 = .float .f32 d ∧ d < 4294967296 := by
    have h := hel 6 (by decide)
    rw [cells1, List.getElem?_eq_getElem (by omega)] at h
    exact el h
  obtain ⟨d7, rfl, u7⟩ : ∃ d : Nat, c7 = .float .f32 d ∧ d < 4294967296 := by
    have h := hel 7 (by decide)
    rw [cells1, List.getElem?_eq_getElem (by omega)] at h
    exact el h
  obtain ⟨d8, rfl, u8⟩ : ∃ d : Nat, c8 = .float .f32 d ∧ d < 4294967296 := by
    have h := hel 8 (by decide)
    rw [cells1, List.getElem?_eq_getElem (by omega)] at h
    exact el h
  obtain ⟨d9, rfl, u9⟩ : ∃ d : Nat, c9 = .float .f32 d ∧ d < 4294967296 := by
    have h := hel 9 (by decide)
    rw [cells1, List.getElem?_eq_getElem (by omega)] at h
    exact el h
  obtain ⟨d10, rfl, u10⟩ : ∃ d : Nat, c10 = .float .f32 d ∧ d < 4294967296 := by
    have h := hel 10 (by decide)
    rw [cells1, List.getElem?_eq_getElem (by omega)] at h
    exact el h
  obtain ⟨d11, rfl, u11⟩ : ∃ d : Nat, c11 = .float .f32 d ∧ d < 4294967296 := by
    have h := hel 11 (by decide)
    rw [cells1, List.getElem?_eq_getElem (by omega)] at h
    exact el h
  obtain ⟨d12, rfl, u12⟩ : ∃ d : Nat, c12 = .float .f32 d ∧ d < 4294967296 := by
    have h := hel 12 (by decide)
    rw [cells1, List.getElem?_eq_getElem (by omega)] at h
    exact el h
  obtain ⟨d13, rfl, u13⟩ : ∃ d : Nat, c13 = .float .f32 d ∧ d < 4294967296 := by
    have h := hel 13 (by decide)
    rw [cells1, List.getElem?_eq_getElem (by omega)] at h
    exact el h
  obtain ⟨d14, rfl, u14⟩ : ∃ d : Nat, c14 = .float .f32 d ∧ d < 4294967296 := by
    have h := hel 14 (by decide)
    rw [cells1, List.getElem?_eq_getElem (by omega)] at h
    exact el h
  obtain ⟨d15, rfl, u15⟩ : ∃ d : Nat, c15 = .float .f32 d ∧ d < 4294967296 := by
    have h := hel 15 (by decide)
    rw [cells1, List.getElem?_eq_getElem (by omega)] at h
    exact el h
  refine ⟨zOf [d0, d1, d2, d3, d4, d5, d6, d7, d8, d9, d10, d11, d12, d13, d14, d15], rfl, fun i => ?_⟩
  match i with
  | 0 | 1 | 2 | 3 | 4 | 5 | 6 | 7 | 8 | 9 | 10 | 11 | 12 | 13 | 14 | 15 => assumption
  | _ + 16 => exact Nat.succ_pos _
theorem parts33 {α : Type} (l : List α) (h : l.length = 33) : l = (l.drop 0).take 16 ++ ((l.drop 16).take 16 ++ (l.drop 32).take 1) := by
  have h3 : (l.drop 32).take 1 = l.drop 32 := List.take_of_length_le (by simp [h])
  have h2 : (l.drop 16).drop 16 = l.drop 32 := by rw [List.drop_drop]
  rw [h3, List.drop_zero, ← h2, List.take_append_drop, List.take_append_drop]
theorem cells33 : Tryd.prog.cellsOf 31 = 33 := by kernel_rfl
set_option maxRecDepth 100000 in
/-- what the walks give, for every argument and every world that holds the table -/
theorem contract (H : Type) (enc : TypeId × Value → H) (W : World) (base : Nat) (args : Array Value) (ds gs : List (DataW H)) (before : List MemPlace)
    (hval : ∀ (j : Nat) t v, Tryd.f5.params[j]? = some t → args[j]? = some v → Value.okWide Tryd.prog W .any base t v)
    (hW : DataW.Whole enc Tryd.prog Tryd.f5.params.toList Rows.fnExactLayerTextSpec.vars false W args.toList ds gs before) (hL : laidMetH Tryd.prog Rows.fnExactLayerTextRow.laid W) :
    Calls Tryd.prog 5 args W fun e W' => ∃ v, e = .returned v ∧ Rows.fnExactLayerTextSpec.post enc Tryd.prog Tryd.f5 false true false false W args v W' := by
  have hW' := hW
  obtain ⟨p, q, hA0, hV, rfl, hfz, hnd⟩ := hW
  have hA : DataW.TrodAll enc Tryd.prog W 0 (fun _ => true) true Tryd.f5.params.toList args.toList ds p := hA0
  rw [Tryd.params5] at hA hval
  obtain ⟨v0, vs0, d0, ds0, p0, q0, hargs, rfl, rfl, h0, r0⟩ := trodAll_cons hA
  obtain ⟨rfl, rfl, rfl⟩ := trodAll_nil r0
  obtain rfl : args = #[v0] := by cases args; simp_all
  obtain ⟨rfl, rfl⟩ := trodVars_none hV
  have lt0 : ∀ x ∈ p0, x.block < W.heap.size := by obtain ⟨m, hm⟩ := h0; exact DataW.trod_lt m _ _ _ hm
  obtain ⟨cs, rfl, hsz⟩ := okWide_struct Tryd.underlying31 (hval 0 31 v0 rfl rfl)
  obtain ⟨z, s, t, rfl, bz, bs, bt⟩ : ∃ z s : Nat → Nat, ∃ t : Nat, cs = (V33 z s t).toArray ∧ (∀ i, z i < 4294967296) ∧ (∀ i, s i < 4294967296) ∧ t < 4294967296 := by
    obtain ⟨fuel, hf⟩ := id h0
    obtain ⟨y0, y1, y2, n, _, hl, t0, t1, t2⟩ := trod_struct3 Tryd.underlying31 hf
    rw [cells33] at hl
    rw [show Tryd.prog.cellsOf 25 = 16 from cells16] at t0 t1
    rw [show Tryd.prog.cellsOf 22 = 1 from cells1] at t2
    obtain ⟨z, ez, bz⟩ := open16 t0
    obtain ⟨s, es, bs⟩ := open16 t1
    have hp := parts33 cs.toList hl
    match h : (cs.toList.drop 32).take 1, (show ((cs.toList.drop 32).take 1).length = 1 by have h33 : cs.toList.length = 33 := hl; rw [List.length_take, List.length_drop, h33]; decide) with
    | [v], _ =>
      have t2 : DataW.trod enc Tryd.prog W 0 (fun _ => true) true n 22 ((cs.toList.drop 32).take 1) = some y2 := t2
      rw [h] at t2
      obtain ⟨t, rfl, bt⟩ := el t2
      refine ⟨z, s, t, Array.ext' ?_, bz, bs, bt⟩
      rw [hp, h]
      have ez : (cs.toList.drop 0).take 16 = zL z := ez
      have es : (cs.toList.drop 16).take 16 = zL s := es
      rw [ez, es]
      rfl
  refine (law_calls z s t bz bs bt W (tables hL)).mono fun e W' ⟨he, bel⟩ => ?_
  subst he
  exact ⟨_, rfl, _, _, _, [], _, [], hW', trodAll_mk1 (shut_bool Tryd.underlying4 _), (trodAll_cons_mk (Below.trod laidOut (by kernel_rfl) (of_decide_eq_true (by kernel_rfl)) h0 bel lt0) trodAll_mk0), rfl, bel.frame _, fun h => by cases h⟩
/-- a world for the witness: the settled one, the tables holding what their initialisers lay -/
noncomputable def numsOf (k : IntKind) (zs : List Int) : Array Value := (zs.map fun z => Value.int k z).toArray
noncomputable def tabF (k : IntKind) (zs : List Int) : Obj → Obj
  | .cells _ t frozen => .cells (numsOf k zs) t frozen
  | o => o
noncomputable def laidWorld (os : Os) : World :=
  { World.holding Tryd.prog os ⟨#[], #[], []⟩ with heap := (((World.holding Tryd.prog os ⟨#[], #[], []⟩).heap.modify 1 (tabF .u64 Lib.pow10Tab)).modify 3 (tabF .u8 [0, 1, 28, 2, 29, 14, 24, 3, 30, 22, 20, 15, 25, 17, 4, 8, 31, 27, 13, 23, 21, 19, 16, 7, 26, 12, 18, 6, 11, 5, 10, 9])).modify 4 (tabF .u8 [0, 1, 56, 2, 57, 49, 28, 3, 61, 58, 42, 50, 38, 29, 17, 4, 62, 47, 59, 36, 45, 43, 51, 22, 53, 39, 33, 30, 24, 18, 12, 5, 63, 55, 48, 27, 60, 41, 37, 16, 46, 35, 44, 21, 52, 32, 23, 11, 54, 26, 40, 15, 34, 20, 31, 10, 25, 14, 19, 9, 13, 8, 7, 6]) }
noncomputable def wit : Array Value := #[.agg #[.float .f32 0, .float .f32 0, .float .f32 0, .float .f32 0, .float .f32 0, .float .f32 0, .float .f32 0, .float .f32 0, .float .f32 0, .float .f32 0, .float .f32 0, .float .f32 0, .float .f32 0, .float .f32 0, .float .f32 0, .float .f32 0, .float .f32 0, .float .f32 0, .float .f32 0, .float .f32 0, .float .f32 0, .float .f32 0, .float .f32 0, .float .f32 0, .float .f32 0, .float .f32 0, .float .f32 0, .float .f32 0, .float .f32 0, .float .f32 0, .float .f32 0, .float .f32 0, .float .f32 0]]
theorem laid_met (os : Os) : laidMet Tryd.prog Rows.fnExactLayerTextRow.laid ((laidWorld os).forCall (fun _ _ => 0) ⟨#[], wit, []⟩).memory :=
  laidMet_of_run' 8 (by kernel_rfl) (by kernel_rfl)
theorem reads (os : Os) {H : Type} (enc : TypeId × Value → H) : ∃ places, DataW.whole enc Tryd.prog ((laidWorld os).forCall (fun _ _ => 0) ⟨#[], wit, []⟩).memory Tryd.f5.params.toList Rows.fnExactLayerTextSpec.vars false wit.toList 8 = some ([.agg [.agg [.lit (.float .f32 0), .lit (.float .f32 0), .lit (.float .f32 0), .lit (.float .f32 0), .lit (.float .f32 0), .lit (.float .f32 0), .lit (.float .f32 0), .lit (.float .f32 0), .lit (.float .f32 0), .lit (.float .f32 0), .lit (.float .f32 0), .lit (.float .f32 0), .lit (.float .f32 0), .lit (.float .f32 0), .lit (.float .f32 0), .lit (.float .f32 0)], .agg [.lit (.float .f32 0), .lit (.float .f32 0), .lit (.float .f32 0), .lit (.float .f32 0), .lit (.float .f32 0), .lit (.float .f32 0), .lit (.float .f32 0), .lit (.float .f32 0), .lit (.float .f32 0), .lit (.float .f32 0), .lit (.float .f32 0), .lit (.float .f32 0), .lit (.float .f32 0), .lit (.float .f32 0), .lit (.float .f32 0), .lit (.float .f32 0)], .lit (.float .f32 0)]], [], places) :=
  ⟨[], by kernel_rfl⟩
set_option maxRecDepth 100000 in
theorem lifted (os : Os) (started : os.Started) (H : Type) (enc : TypeId × Value → H) (F : Stop.Interp) :
    ReturnsInHanded {} Tryd.checked os 5 .any ((OpenSpec.ofChange Rows.fnExactLayerTextSpec).preRow enc Tryd.prog Tryd.f5 Rows.fnExactLayerTextRow.domain false Rows.fnExactLayerTextRow.laid) (((OpenSpec.ofChange Rows.fnExactLayerTextSpec).at F).post enc Tryd.prog Tryd.f5 false true false false) := by
  obtain ⟨places, hx⟩ := reads os enc
  refine returnsInHanded_of_row (C := Tryd.checked) (s := OpenSpec.ofChange Rows.fnExactLayerTextSpec) own started (by kernel_rfl) Tryd.func5
    (witness_row_at (enc := enc) (C := Tryd.checked) false (laidWorld os) wit rfl (by kernel_rfl) (by kernel_rfl) (by kernel_rfl)
      (OpenSpec.preRow_of_cond 8 hx (by kernel_rfl) (fun k hk => by cases hk) (by kernel_rfl) (laid_met os))) ?_
  intro W base args ds gs before hval hW _ _ _ hL _ _
  exact contract H enc W base args ds gs before hval hW hL
theorem said : Rows.FnExactLayerTextSaid :=
  OpenClaim.holds_of_cond 5 Tryd.f5 rfl rfl rfl rfl rfl rfl rfl ⟨rfl, rfl, rfl, rfl, rfl⟩ rfl rfl rfl rfl rfl (by kernel_rfl) Tryd.func5 (by kernel_rfl)
    (of_decide_eq_true (by kernel_rfl)) (by unfold Func.isWrapper; first | (rw [if_pos (by decide +kernel)]; kernel_rfl) | (rw [if_neg (by decide +kernel)]; exact ⟨rfl, rfl⟩))
    (fun os started H enc _ F => by rw [OpenClaim.pre_eq_preRow]; exact lifted os started H enc F)
/-- no parameter wants a stand-in -/
theorem plain (f : FuncId) (fn : Func) (hf : Tryd.pinned.checked.prog.funcNamed "loop.example/g01213/laws.FnExactLayerText" = some f) (hfn : Tryd.pinned.checked.prog.funcs[f]? = some fn) :
    false = Tryd.pinned.checked.prog.looks [] ∧ ∀ (j : Nat) t, fn.params[j]? = some t → Tryd.pinned.checked.prog.wantsStandIn t = false := by
  obtain rfl : f = 5 := Option.some.inj ((show Tryd.prog.funcNamed "loop.example/g01213/laws.FnExactLayerText" = some 5 by kernel_rfl).symm.trans hf) |>.symm
  obtain rfl : fn = Tryd.f5 := (Option.some.inj (Tryd.func5.symm.trans hfn)).symm
  refine ⟨by kernel_rfl, fun j t ht => ?_⟩
  rw [Tryd.params5] at ht
  obtain rfl : t = 31 := by simpa using Array.mem_of_getElem? ht
  exact (show Tryd.prog.wantsStandIn 31 = false by kernel_rfl)
/-- the given card -/
theorem proved : Rows.FnExactLayerTextCardSaid :=
  Claim7.holds_tied_plain_at .later [] _ _ _ _ said (fun _ h => by cases h) (by kernel_rfl) (fun _ h => by cases h) fnExactLayerText_row_tie rfl ⟨rfl, rfl⟩ (by kernel_rfl) rfl plain (by kernel_rfl)
end Go.Proofs.YtoboldhdmejnpaaDoor.fnExactLayerText
end
