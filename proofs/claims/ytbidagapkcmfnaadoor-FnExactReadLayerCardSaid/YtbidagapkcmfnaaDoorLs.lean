/-
  What a walk over layers knows. No condition.
-/
import Derived.Test.YtbidagapkcmfnaaDoorLr
noncomputable section
namespace Go.Proofs.YtbidagapkcmfnaaDoor
namespace Tx
open Go Go.RowKit
theorem laid16 (W : World) (z : Nat → Nat) (T : TypeId) (cs : Array Value) (hcs : cs.size = 16) : ((W.alloc (.cells cs T)).setCells W.heap.size 0 (zL z).toArray.toList).rangeAt W.heap.size 0 (zL z) ∧ Below W.heap.size W ((W.alloc (.cells cs T)).setCells W.heap.size 0 (zL z).toArray.toList) ∧ W.heap.size < ((W.alloc (.cells cs T)).setCells W.heap.size 0 (zL z).toArray.toList).heap.size := by
  have hT : (W.alloc (.cells cs T)).there W.heap.size 0 cs.size := there_new W T cs
  rw [hcs] at hT
  refine ⟨World.rangeAt_setCells_same _ _ _ (zL z) hT, below_setCells (Nat.le_refl _) (zL z) 0 _ (bA (Below.refl _ _) _), ?_⟩
  rw [size_cells]
  simp
theorem laid33 (W : World) (z s : Nat → Nat) (t : Nat) (T : TypeId) (cs : Array Value) (hcs : cs.size = 33) : ((W.alloc (.cells cs T)).setCells W.heap.size 0 (V33 z s t).toArray.toList).rangeAt W.heap.size 0 (V33 z s t) ∧ Below W.heap.size W ((W.alloc (.cells cs T)).setCells W.heap.size 0 (V33 z s t).toArray.toList) ∧ W.heap.size < ((W.alloc (.cells cs T)).setCells W.heap.size 0 (V33 z s t).toArray.toList).heap.size := by
  have hT : (W.alloc (.cells cs T)).there W.heap.size 0 cs.size := there_new W T cs
  rw [hcs] at hT
  refine ⟨World.rangeAt_setCells_same _ _ _ (V33 z s t) hT, below_setCells (Nat.le_refl _) (V33 z s t) 0 _ (bA (Below.refl _ _) _), ?_⟩
  rw [size_cells]
  simp
theorem lv_of {z s : Nat → Nat} {t b : Nat} {w : World} (hlt : b < w.heap.size) (h : w.rangeAt b 0 (V33 z s t)) : Ty.Lv z s t b w := by
  have p := range_parts h
  refine ⟨hlt, fun j hj => ?_, fun j hj => p.2.1 j _ (at_zL s hj), p.2.2⟩
  have := p.1 j _ (at_zL z hj)
  rwa [Nat.zero_add] at this
/-- the result's block, and what lay there when the call began -/
def St (w W : World) : Prop := W.there w.heap.size 0 33 ∧ w.heap.size < W.heap.size ∧ Below w.heap.size w W
theorem st_below {w W W' : World} (h : St w W) (hb : Below W.heap.size W W') : St w W' := ⟨there_below h.2.1 h.1 hb, Nat.lt_of_lt_of_le h.2.1 hb.size, h.2.2.trans (hb.mono h.2.2.size)⟩
theorem st_new (w : World) (T : TypeId) (cs : Array Value) (hcs : cs.size = 33) : St w (w.alloc (.cells cs T)) := by
  have hT : (w.alloc (.cells cs T)).there w.heap.size 0 cs.size := there_new w T cs
  rw [hcs] at hT
  exact ⟨hT, by simp, bA (Below.refl _ _) _⟩
/-- four lines -/
def R4 (a b c d : ByteArray) (g : Nat) (W : World) : Prop := g < W.heap.size ∧ W.cell? ⟨g, 0, none⟩ = some (.string a) ∧ W.cell? ⟨g, 1, none⟩ = some (.string b) ∧ W.cell? ⟨g, 2, none⟩ = some (.string c) ∧ W.cell? ⟨g, 3, none⟩ = some (.string d)
theorem r4_below {a b c d : ByteArray} {g : Nat} {W W' : World} (h : R4 a b c d g W) (hb : Below W.heap.size W W') : R4 a b c d g W' :=
  ⟨Nat.lt_of_lt_of_le h.1 hb.size, (hb.cell (p := ⟨g, 0, none⟩) h.1).trans h.2.1, (hb.cell (p := ⟨g, 1, none⟩) h.1).trans h.2.2.1, (hb.cell (p := ⟨g, 2, none⟩) h.1).trans h.2.2.2.1, (hb.cell (p := ⟨g, 3, none⟩) h.1).trans h.2.2.2.2⟩
theorem r4_of {s : ByteArray} {g : Nat} {W : World} (h4 : (pl s).length = 4) (h : Row (pl s) g W) : R4 (P s 0) (P s 1) (P s 2) (P s 3) g W := by
  refine ⟨h.1, ?_, ?_, ?_, ?_⟩
  · have := h.2 0 (by omega); rw [this, P, piece_get]
  · have := h.2 1 (by omega); rw [this, P, piece_get]
  · have := h.2 2 (by omega); rw [this, P, piece_get]
  · have := h.2 3 (by omega); rw [this, P, piece_get]
theorem own_row {w' : World} {base cap g : Nat} {s : ByteArray} {c : UInt8} {T : TypeId} (h : w'.ownsRow base T 1 (.slice (some ⟨g, 0, none⟩) (pieces c (bL s)).length cap) (pieces c (bL s)).length (pcs c s)) : Row (pieces c (bL s)) g w' := by
  refine ⟨(h.lt g rfl).2, fun j hj => ?_⟩
  have := h.cells (g := g) rfl j (.string (bS (pieces c (bL s))[j])) (by unfold pcs; simp [List.getElem?_eq_getElem hj])
  rw [Addr.add_mid, Nat.zero_add] at this
  exact this
theorem cut10_calls (s : ByteArray) (hs : s.size ≤ 1048576) (w : World) : Calls Tryd.prog 21 #[.string s, .int .u8 10] w fun e w' => ∃ g cap, e = .returned (.slice (some ⟨g, 0, none⟩) (pl s).length cap) ∧ Row (pl s) g w' ∧ Below w.heap.size w w' :=
  (split_calls s 10 hs w).mono fun e w' ⟨v, h1, h2, h3⟩ => by
    obtain ⟨g, cap, hv, _, _⟩ := h2.form (by rw [pieces_len]; omega)
    subst hv
    exact ⟨g, cap, h1, own_row h2, h3⟩
theorem lcut10_calls (s : ByteArray) (hs : s.size ≤ 1048576) (w : World) (hE : EnvOk w) : Calls Tryd.prog 20 #[.string s, .string ⟨#[10]⟩] w fun e w' => ∃ g cap, e = .returned (.slice (some ⟨g, 0, none⟩) (pl s).length cap) ∧ Row (pl s) g w' ∧ Below w.heap.size w w' := lsplit_calls s 10 hs w hE
theorem P_le (s : ByteArray) (i : Nat) : (P s i).size ≤ s.size := by
  show ((pl s).getD i []).length ≤ _
  by_cases h : i < (pl s).length
  · rw [piece_get h]
    have := piece_le 10 (bL s) _ (List.getElem_mem h)
    rwa [bL_len] at this
  · rw [List.getD_eq_getElem?_getD, List.getElem?_eq_none (by omega)]
    exact Nat.zero_le _
/-- what is answered -/
def lK (s : ByteArray) : Nat → Nat := if okY s = true then zC (P s 0) else zero
def lS (s : ByteArray) : Nat → Nat := if okY s = true then zC (P s 1) else zero
def lT (s : ByteArray) : Nat := if okY s = true then rnA (P s 2) else 0
def lC (s : ByteArray) : Int := if okY s = true then 0 else 5
def RlQ (s : ByteArray) (w : World) (e : Ending) (w' : World) : Prop := e = .returned (.tuple #[.agg (V33 (lK s) (lS s) (lT s)).toArray, .int .i64 (lC s)]) ∧ Below w.heap.size w w'
theorem rl_no {s : ByteArray} (h : okY s = false) : lK s = zero ∧ lS s = zero ∧ lT s = 0 ∧ lC s = 5 := by
  unfold lK lS lT lC
  rw [h]
  exact ⟨rfl, rfl, rfl, rfl⟩
theorem rl_yes {s : ByteArray} (h : okY s = true) : lK s = zC (P s 0) ∧ lS s = zC (P s 1) ∧ lT s = rnA (P s 2) ∧ lC s = 0 := by
  unfold lK lS lT lC
  rw [h]
  exact ⟨rfl, rfl, rfl, rfl⟩
end Tx
end Go.Proofs.YtbidagapkcmfnaaDoor
end
