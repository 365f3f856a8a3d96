/-
  Lines with a number. No condition.
-/
import Derived.Test.YtjbbljlefmgieaaDoorTa
import Derived.Test.YtjbbljlefmgieaaDoorShl
noncomputable section
namespace Go.Proofs.YtjbbljlefmgieaaDoor
namespace Tx
open Go Go.RowKit
abbrev TabOk (w : World) : Prop := Lib.TabIs Tryd.prog w "internal/strconv.uint64pow10" .u64 Lib.pow10Tab
theorem tab_below {w w' : World} (h : TabOk w) (hb : Below w.heap.size w w') : TabOk w' := by
  unfold TabOk Lib.TabIs World.var? at *
  revert h
  cases hg : Tryd.prog.globalNamed "internal/strconv.uint64pow10" with
  | none => intro h; cases h
  | some g =>
    intro h
    have hlt : g < w.heap.size := by
      rcases Nat.lt_or_ge g w.heap.size with h1 | h1
      · exact h1
      · simp [Array.getElem?_eq_none h1] at h
    simp only [Option.bind_some] at h ⊢
    rw [hb.block g hlt]
    exact h
theorem cell_last (w : World) (b : Nat) (x : Value) (T : TypeId) (hb : b = w.heap.size) : (w.alloc (.cells #[x] T)).drew.cell? ⟨b, 0, none⟩ = some x := by
  subst hb
  exact cell_one_new w x T 0 x rfl
theorem bA {a w : World} (h : Below a.heap.size a w) (o : Obj) : Below a.heap.size a (w.alloc o) := h.alloc h.size o
theorem below_grow (w : World) (k : Nat) (os : Array Obj) : Below w.heap.size w (Sort.grow (w.drewN k) os) := by
  refine ⟨rfl, rfl, rfl, by simp [Sort.grow, World.drewN], fun j hj => ?_⟩
  simp only [Sort.grow, World.drewN]
  rw [Array.getElem?_append_left hj]
theorem fmt_calls (n : Int) (w : World) (h0 : 0 ≤ n) (h1 : n ≤ 1000000000000) (ht : TabOk w) : Calls Tryd.prog 55 #[.int .i64 n, .int .i64 10] w fun e w' => e = .returned (.string (decB n.toNat)) ∧ Below w.heap.size w w' := by
  refine (Tryd.strconv_FormatInt_10 n (by omega) (by omega) w ht).mono fun e w' ⟨he, k, os, hw⟩ => ⟨?_, ?_⟩
  · rw [he]
    unfold decB Lib.itoa
    rw [if_neg (by omega)]
  · rw [hw]
    exact below_grow w k os
def sp : ByteArray := ⟨#[32]⟩
set_option maxHeartbeats 1000000 in
set_option maxRecDepth 100000 in
theorem line_calls (wd : ByteArray) (a : Int) (b : Nat) (w : World) (hc : w.cell? ⟨b, 0, none⟩ = some (.int .i64 a)) (h0 : 0 ≤ a) (h1 : a ≤ 1000000000000) (hw : wd.size ≤ 1000) (ht : TabOk w) :
    Calls Tryd.prog 34 #[.string wd, .slice (some ⟨b, 0, none⟩) 1 1] w fun e w' => e = .returned (.string (wd ++ (sp ++ decB a.toNat))) ∧ Below w.heap.size w w' := by
  go_enter Tryd.func34, Tryd.ntmps34
  have hq : IntKind.i64.wrap (0 + 1) = 1 := by decide
  have hS1 : ∀ W : World, (Op.stringOp .add ⟨#[32]⟩ (decB a.toNat)).run Tryd.prog W = .ok (.string (sp ++ decB a.toNat)) W := fun W => cat_run _ _ (by
    have := decB_size a.toNat
    have h2 : (⟨#[32]⟩ : ByteArray).size = 1 := rfl
    omega) W
  have hS2 : ∀ W : World, (Op.stringOp .add wd (sp ++ decB a.toNat)).run Tryd.prog W = .ok (.string (wd ++ (sp ++ decB a.toNat))) W := fun W => cat_run _ _ (by
    have := decB_size a.toNat
    have h2 : sp.size = 1 := rfl
    rw [ByteArray.size_append]
    omega) W
  go_wp2_with fail
  refine wp_loop_rounds 2 ?_
  rw [rounds_succ]
  go_wp2_with (go_at_call 55; refine (fmt_calls a _ h0 h1 ht).mono ?_; rintro e w' ⟨rfl, hbl⟩)
  rw [rounds_succ]
  go_wp2_with fail
  go_ret
  exact ⟨rfl, hbl⟩
end Tx
end Go.Proofs.YtjbbljlefmgieaaDoor
end
