/-
  Numbers: their texts, whatever the number. No condition.
-/
import Derived.Test.YtbidagapkcmfnaaDoorHd
noncomputable section
namespace Go.Proofs.YtbidagapkcmfnaaDoor
namespace Tx
open Go Go.RowKit
theorem nB_lt {a : Nat} (h : a < 4294967296) : nB a < 4294967296 := by
  unfold nB
  split <;> omega
theorem nt_calls (a : Nat) (ha : a < 4294967296) (w : World) (ht : TabOk w) : Calls Tryd.prog 18 #[.float .f32 a] w fun e w' => e = .returned (.string (hexB (nB a))) ∧ Below w.heap.size w w' := by
  have h := nB_lt ha
  by_cases h1 : nB a < 16
  · exact nt_1 a _ w ht rfl h1
  by_cases h2 : nB a < 256
  · exact nt_2 a _ w ht rfl (by omega) h2
  by_cases h3 : nB a < 4096
  · exact nt_3 a _ w ht rfl (by omega) h3
  by_cases h4 : nB a < 65536
  · exact nt_4 a _ w ht rfl (by omega) h4
  by_cases h5 : nB a < 1048576
  · exact nt_5 a _ w ht rfl (by omega) h5
  by_cases h6 : nB a < 16777216
  · exact nt_6 a _ w ht rfl (by omega) h6
  by_cases h7 : nB a < 268435456
  · exact nt_7 a _ w ht rfl (by omega) h7
  exact nt_8 a _ w ht rfl (by omega) h
end Tx
end Go.Proofs.YtbidagapkcmfnaaDoor
end
