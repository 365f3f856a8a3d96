/-
  The library's cut, and the curve's text by the model. No condition but that the text has at most 2^20 bytes and what some package-level variables hold.
-/
import Derived.Test.YtbidagapkcmfnaaDoorRc
noncomputable section
namespace Go.Proofs.YtbidagapkcmfnaaDoor
namespace Tx
open Go Go.RowKit
theorem map_bL (L : List ByteArray) (M : List (List UInt8)) (h : L.map (·.data.toList) = M) : L = M.map bS := by
  subst h
  rw [List.map_map]
  conv => lhs; rw [← List.map_id L]
  rfl
theorem lsplit_calls (s : ByteArray) (c : UInt8) (hs : s.size ≤ 1048576) (w : World) (h : EnvOk w) : Calls Tryd.prog 20 #[.string s, .string ⟨#[c]⟩] w fun e w' => ∃ g cap, e = .returned (.slice (some ⟨g, 0, none⟩) (pieces c (bL s)).length cap) ∧ Row (pieces c (bL s)) g w' ∧ Below w.heap.size w w' := by
  obtain ⟨_, ⟨m, hm⟩, _⟩ := h
  have hc : Lib.countB s ⟨#[c]⟩ = (bL s).count c := by
    unfold Lib.countB
    exact Lib.count_one _ _
  have hd := Lib.splitB_data ⟨#[c]⟩ 0 (Lib.countB s ⟨#[c]⟩) s
  have hd : Lib.splitB ⟨#[c]⟩ 0 (Lib.countB s ⟨#[c]⟩) s = (pieces c (bL s)).map bS := map_bL _ _ (by rw [hd, hc]; exact split_pieces c (bL s) _ (Nat.le_refl _))
  have hl : Lib.countB s ⟨#[c]⟩ + 1 = (pieces c (bL s)).length := by rw [hc, pieces_len]
  refine (Tryd.strings_Split s ⟨#[c]⟩ m w (by omega) hm (show 1 ≤ 1 from Nat.le_refl _)).mono fun e w' ⟨he, hw⟩ => ?_
  rw [hd] at hw
  rw [hl] at he
  refine ⟨w.heap.size, _, he, ⟨by rw [hw]; simp, fun j hj => ?_⟩, by rw [hw]; exact bA (Below.refl _ _) _⟩
  rw [hw, World.cell?_alloc_at (hn := rfl)]
  simp [List.getElem?_eq_getElem hj]
end Tx
end Go.Proofs.YtbidagapkcmfnaaDoor
end
