/-
  Curves as sixteen numbers in a block. No condition.
-/
import Derived.Test.YtbidagapkcmfnaaDoorNm
import Derived.Test.YtbidagapkcmfnaaDoorRi
import Derived.Deep.MidRow
noncomputable section
namespace Go.Proofs.YtbidagapkcmfnaaDoor
namespace Tx
open Go Go.RowKit
def zL (z : Nat → Nat) : List Value := [.float .f32 (z 0), .float .f32 (z 1), .float .f32 (z 2), .float .f32 (z 3), .float .f32 (z 4), .float .f32 (z 5), .float .f32 (z 6), .float .f32 (z 7), .float .f32 (z 8), .float .f32 (z 9), .float .f32 (z 10), .float .f32 (z 11), .float .f32 (z 12), .float .f32 (z 13), .float .f32 (z 14), .float .f32 (z 15)]
def cvV (z : Nat → Nat) : Value := .agg (zL z).toArray
def zero (_ : Nat) : Nat := 0
theorem zL_at (z : Nat → Nat) {j : Nat} {v : Value} (h : (zL z)[j]? = some v) : j < 16 ∧ v = .float .f32 (z j) := by
  have hj : j < 16 := by
    rcases Nat.lt_or_ge j 16 with h1 | h1
    · exact h1
    · rw [List.getElem?_eq_none (by simpa [zL] using h1)] at h; cases h
  refine ⟨hj, ?_⟩
  match j, hj with
  | 0, _ | 1, _ | 2, _ | 3, _ | 4, _ | 5, _ | 6, _ | 7, _ | 8, _ | 9, _ | 10, _ | 11, _ | 12, _ | 13, _ | 14, _ | 15, _ => exact (Option.some.inj h).symm
  | k + 16, h => exact absurd h (by omega)
theorem at_zL (z : Nat → Nat) {j : Nat} (hj : j < 16) : (zL z)[j]? = some (.float .f32 (z j)) := by
  match j, hj with
  | 0, _ | 1, _ | 2, _ | 3, _ | 4, _ | 5, _ | 6, _ | 7, _ | 8, _ | 9, _ | 10, _ | 11, _ | 12, _ | 13, _ | 14, _ | 15, _ => rfl
  | k + 16, h => exact absurd h (by omega)
theorem one_z (z : Nat → Nat) : ∀ v ∈ zL z, v.oneCell' = true := fun v hv => by
  simp only [zL, List.mem_cons, List.not_mem_nil, or_false] at hv
  rcases hv with rfl | rfl | rfl | rfl | rfl | rfl | rfl | rfl | rfl | rfl | rfl | rfl | rfl | rfl | rfl | rfl <;> rfl
theorem range_below {b o : Nat} {cs : List Value} {w w' : World} (hlt : b < w.heap.size) (h : w.rangeAt b o cs) (hb : Below w.heap.size w w') : w'.rangeAt b o cs := fun j v hv => (hb.cell (p := ⟨b, o + j, none⟩) hlt).trans (h j v hv)
theorem below_setCells {B b : Nat} {a : World} (hb : B ≤ b) : ∀ (vs : List Value) (o : Nat) (w : World), Below B a w → Below B a (w.setCells b o vs)
  | [], _, _, h => h
  | v :: r, o, w, h => by
    rw [World.setCells]
    exact below_setCells hb r (o + 1) _ (h.setCell hb v)
theorem size_cells (b : Nat) : ∀ (vs : List Value) (o : Nat) (w : World), (w.setCells b o vs).heap.size = w.heap.size
  | [], _, _ => rfl
  | v :: r, o, w => by
    rw [World.setCells, size_cells b r, World.size_setCell]
theorem there_below {b o n : Nat} {w w' : World} (hlt : b < w.heap.size) (h : w.there b o n) (hb : Below w.heap.size w w') : w'.there b o n := fun j hj =>
  ⟨by rw [hb.cell (p := ⟨b, o + j, none⟩) hlt]; exact (h j hj).1, by rw [hb.frozen (p := ⟨b, o + j, none⟩) hlt]; exact (h j hj).2⟩
theorem there_new (w : World) (T : TypeId) (cs : Array Value) : (w.alloc (.cells cs T)).there w.heap.size 0 cs.size := fun j hj => by
  rw [Nat.zero_add]
  exact ⟨by rw [World.cell?_alloc_at (hn := rfl), Array.getElem?_eq_getElem hj]; rfl, World.frozen?_alloc_at _ _ _ _ rfl⟩
/-- the first k of sixteen numbers lie in a block -/
def Out (z : Nat → Nat) (b k : Nat) (w : World) : Prop := b < w.heap.size ∧ (∀ j, j < 16 → w.frozen? ⟨b, j, none⟩ = false) ∧ ∀ j, j < 16 → w.cell? ⟨b, j, none⟩ = some (.float .f32 (if j < k then z j else 0))
theorem out_below {z : Nat → Nat} {b i : Nat} {w w' : World} (hb : Below w.heap.size w w') (h : Out z b i w) : Out z b i w' :=
  ⟨Nat.lt_of_lt_of_le h.1 hb.size, fun j hj => (hb.frozen (p := ⟨b, j, none⟩) h.1).trans (h.2.1 j hj), fun j hj => (hb.cell (p := ⟨b, j, none⟩) h.1).trans (h.2.2 j hj)⟩
theorem out_set {z : Nat → Nat} {b i : Nat} {w : World} (hi : i < 16) (h : Out z b i w) : Out z b (i + 1) (w.setCell ⟨b, i, none⟩ (.float .f32 (z i))) := by
  refine ⟨by rw [World.size_setCell]; exact h.1, fun j hj => (World.frozen?_setCell _ _ _ _).trans (h.2.1 j hj), fun j hj => ?_⟩
  by_cases e : j = i
  · subst e
    rw [if_pos (by omega)]
    exact World.cell?_setCell_same _ _ _ (h.2.2 j hj)
  · rw [World.cell?_setCell_other _ _ _ _ (by intro h; cases h; exact e rfl), h.2.2 j hj]
    by_cases l : j < i
    · rw [if_pos l, if_pos (by omega)]
    · rw [if_neg l, if_neg (by omega)]
theorem out_zero {z : Nat → Nat} {b : Nat} {w : World} (hlt : b < w.heap.size) (hr : w.rangeAt b 0 (zL zero)) (ht : w.there b 0 16) : Out z b 0 w := by
  refine ⟨hlt, fun j hj => ?_, fun j hj => ?_⟩
  · have := (ht j hj).2
    rwa [Nat.zero_add] at this
  · have := hr j _ (at_zL zero hj)
    rw [Nat.zero_add] at this
    rw [if_neg (by omega)]
    exact this
theorem out_new {z : Nat → Nat} {w : World} {t : TypeId} : Out z w.heap.size 0 (w.alloc (.cells (zL zero).toArray t)) := by
  refine out_zero (by simp) (fun j v hv => ?_) (there_new w t (zL zero).toArray)
  rw [Nat.zero_add, World.cell?_alloc_at (hn := rfl)]
  simpa using hv
theorem out_range {z : Nat → Nat} {b k : Nat} {w : World} (hk : k = 16) (h : Out z b k w) : w.rangeAt b 0 (zL z) := fun j v hv => by
  obtain ⟨hj, rfl⟩ := zL_at z hv
  rw [Nat.zero_add, h.2.2 j hj, if_pos (by omega)]
theorem out_none {z : Nat → Nat} {b : Nat} {w : World} (h : Out z b 0 w) : w.rangeAt b 0 (zL zero) := fun j v hv => by
  obtain ⟨hj, rfl⟩ := zL_at zero hv
  rw [Nat.zero_add, h.2.2 j hj, if_neg (by omega)]
  rfl
/-- a curve's text: is it one, and its numbers -/
def okC (s : ByteArray) : Bool := decide ((pieces 32 (bL s)).length = 16) && (pieces 32 (bL s)).all okN
def zP (s : ByteArray) (i : Nat) : Nat := nuN ((pieces 32 (bL s)).getD i [])
def zC (s : ByteArray) : Nat → Nat := if okC s = true then zP s else zero
theorem pieces_bound (s : ByteArray) (hs : s.size ≤ 1048576) : (pieces 32 (bL s)).length ≤ 1048577 ∧ 0 < (pieces 32 (bL s)).length := by
  have h1 := pieces_len 32 (bL s)
  have h2 : (bL s).count 32 ≤ (bL s).length := List.count_le_length
  rw [bL_len] at h2
  omega
theorem piece_get {ps : List (List UInt8)} {j : Nat} (h : j < ps.length) : ps.getD j [] = ps[j] := by simp [List.getD, List.getElem?_eq_getElem h]
theorem row_of_own {w' : World} {base cap g : Nat} {s : ByteArray} {T : TypeId} (h : w'.ownsRow base T 1 (.slice (some ⟨g, 0, none⟩) (pieces 32 (bL s)).length cap) (pieces 32 (bL s)).length (pcs 32 s)) : Row (pieces 32 (bL s)) g w' := by
  refine ⟨(h.lt g rfl).2, fun j hj => ?_⟩
  have := h.cells (g := g) rfl j (.string (bS (pieces 32 (bL s))[j])) (by unfold pcs; simp [List.getElem?_eq_getElem hj])
  rw [Addr.add_mid, Nat.zero_add] at this
  exact this
theorem nums_of_own {w' : World} {base cap g n : Nat} {ps : List (List UInt8)} {T : TypeId} (h : w'.ownsRow base T 1 (.slice (some ⟨g, 0, none⟩) n cap) n (ps.map fl)) : g < w'.heap.size ∧ ∀ j (hj : j < ps.length), w'.cell? ⟨g, j, none⟩ = some (.float .f32 (nuN ps[j])) := by
  refine ⟨(h.lt g rfl).2, fun j hj => ?_⟩
  have := h.cells (g := g) rfl j (fl ps[j]) (by simp [List.getElem?_eq_getElem hj])
  rw [Addr.add_mid, Nat.zero_add] at this
  exact this
end Tx
end Go.Proofs.YtbidagapkcmfnaaDoor
end
