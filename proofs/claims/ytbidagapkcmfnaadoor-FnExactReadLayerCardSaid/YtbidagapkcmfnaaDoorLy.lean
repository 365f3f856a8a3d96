/-
  Layers as thirty-three numbers in a block. No condition.
-/
import Derived.Test.YtbidagapkcmfnaaDoorRu
import Derived.Test.YtbidagapkcmfnaaDoorEq
noncomputable section
namespace Go.Proofs.YtbidagapkcmfnaaDoor
namespace Tx
open Go Go.RowKit
def V33 (z s : Nat → Nat) (t : Nat) : List Value := zL z ++ (zL s ++ [.float .f32 t])
theorem one_v (z s : Nat → Nat) (t : Nat) : ∀ v ∈ V33 z s t, v.oneCell' = true := fun v hv => by
  simp only [V33, List.mem_append, List.mem_cons, List.not_mem_nil, or_false] at hv
  rcases hv with h | h | rfl
  · exact one_z z v h
  · exact one_z s v h
  · rfl
theorem range_parts {z s : Nat → Nat} {t b : Nat} {w : World} (h : w.rangeAt b 0 (V33 z s t)) : w.rangeAt b 0 (zL z) ∧ w.rangeAt b 16 (zL s) ∧ w.cell? ⟨b, 32, none⟩ = some (.float .f32 t) := by
  refine ⟨fun j v hv => h j v ?_, fun j v hv => ?_, h 32 _ rfl⟩
  · have hj : j < (zL z).length := (List.getElem?_eq_some_iff.1 hv).1
    rw [V33, List.getElem?_append_left hj]
    exact hv
  · have hj : j < (zL s).length := (List.getElem?_eq_some_iff.1 hv).1
    have := h (16 + j) v (by
      rw [V33, List.getElem?_append_right (by simp [zL]), show (zL z).length = 16 from rfl, Nat.add_sub_cancel_left, List.getElem?_append_left hj]
      exact hv)
    rwa [Nat.zero_add] at this
theorem range_join {z s : Nat → Nat} {t b : Nat} {w : World} (h0 : w.rangeAt b 0 (zL z)) (h1 : w.rangeAt b 16 (zL s)) (h2 : w.cell? ⟨b, 32, none⟩ = some (.float .f32 t)) : w.rangeAt b 0 (V33 z s t) := fun j v hv => by
  rcases Nat.lt_or_ge j 16 with h | h
  · rw [V33, List.getElem?_append_left (by simpa [zL] using h)] at hv
    exact h0 j v hv
  · rw [V33, List.getElem?_append_right (by simpa [zL] using h), show (zL z).length = 16 from rfl] at hv
    rcases Nat.lt_or_ge (j - 16) 16 with h' | h'
    · rw [List.getElem?_append_left (by simpa [zL] using h')] at hv
      have := h1 (j - 16) v hv
      rwa [show 16 + (j - 16) = 0 + j by omega] at this
    · rw [List.getElem?_append_right (by simpa [zL] using h'), show (zL s).length = 16 from rfl] at hv
      rcases Nat.eq_or_lt_of_le h' with h3 | h3
      · rw [← h3] at hv
        obtain rfl : v = .float .f32 t := by simpa using hv.symm
        rw [show 0 + j = 32 by omega]
        exact h2
      · rw [List.getElem?_eq_none (by simp; omega)] at hv
        cases hv
/-- a layer lies in its block -/
def Ly (z s : Nat → Nat) (t b : Nat) (w : World) : Prop := b < w.heap.size ∧ w.rangeAt b 0 (zL z) ∧ w.rangeAt b 16 (zL s) ∧ w.cell? ⟨b, 32, none⟩ = some (.float .f32 t)
theorem ly_below {z s : Nat → Nat} {t b : Nat} {w w' : World} (h : Ly z s t b w) (hb : Below w.heap.size w w') : Ly z s t b w' :=
  ⟨Nat.lt_of_lt_of_le h.1 hb.size, range_below h.1 h.2.1 hb, range_below h.1 h.2.2.1 hb, (hb.cell (p := ⟨b, 32, none⟩) h.1).trans h.2.2.2⟩
theorem ly_new (z s : Nat → Nat) (t : Nat) (w : World) (T : TypeId) : Ly z s t w.heap.size (w.alloc (.cells (V33 z s t).toArray T)) := by
  have h : (w.alloc (.cells (V33 z s t).toArray T)).rangeAt w.heap.size 0 (V33 z s t) := fun j v hv => by
    rw [Nat.zero_add, World.cell?_alloc_at (hn := rfl)]
    simpa using hv
  have p := range_parts h
  exact ⟨by simp, p.1, p.2.1, p.2.2⟩
end Tx
end Go.Proofs.YtbidagapkcmfnaaDoor
end
