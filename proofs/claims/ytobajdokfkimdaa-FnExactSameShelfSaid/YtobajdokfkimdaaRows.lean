/-
  No cell of these rows narrows 'for every input' (looked for: loops, veiled, ifaces, maps, wideKeys, modest, calm, conditions, laid).
  DERIVED. THE GIVEN ROWS OF THIS SEAT. 12 by the template 'for every input the law returns true; each argument reads behind the call as it read before'; 0 by the template 'total and deterministic' (their statements: YtobajdokfkimdaaTotals.lean).
  GIVEN WITH THE SEED: the statements are not yours to turn. If you find one false, say at which input.
  Laid BY PROGRAM, IN A SANDBOX (cutbox-rows.mjs): the forced cells as the released guide's own fill.sh prints them over the translation e16bb7b8e976d288… (all of the seat's roots in one cut). By AI agents, Wed Nov 11 2026. No macro, syntax, notation, axiom, sorry.
-/
import Derived.Test.YtobajdokfkimdaaChecked
import GoSem.Claim
import GoSem.ClaimJoined
import GoSem.ClaimMapViews
import Derived.JoinedTies
import Derived.KernelRfl
namespace Go.Proofs.Ytobajdokfkimdaa
/- THE CELL 'sum', in the pinned program and in every row, IS THE sha256 OF THE DUMP (.gsa) THAT YtobajdokfkimdaaProg.lean LOADS. Nothing in Lean hashes anything: it is a label: what it is worth is what the hold of that sum in a sandbox is worth. -/
noncomputable def Try.pinned : Pinned := { name := "ytobajdokfkimdaa", sum := "e16bb7b8e976d28869356d31a8908899f22a6c9ef6cc99d3f779d8d1e4dc6e44", checked := Try.checked }
namespace Rows
def none {H : Type} : Left H := { results := [], args := [] }

/-- 'laws.FnExactContrastOf': WHATEVER THE INPUT: true; the input reads as it did. -/
def fnExactContrastOfSpec : ChangeSpec := { name := "fnExactContrastOf", fn := fun _ => fun
  | [d] => { results := [.lit (.bool true)], args := [d] }
  | _ => none }
def fnExactContrastOfRow : OpenClaim := { program := "ytobajdokfkimdaa", sum := "e16bb7b8e976d28869356d31a8908899f22a6c9ef6cc99d3f779d8d1e4dc6e44", func := "loop.example/g01213/laws.FnExactContrastOf", spec := "fnExactContrastOf", inPlace := ["math.Float64frombits", "math.Float64bits"], unfollowed := true, recurses := true, apart := false }
def FnExactContrastOfSaid : Prop := fnExactContrastOfRow.holds Try.pinned (OpenSpec.ofChange fnExactContrastOfSpec)

/-- ITS FALSE NEIGHBOUR: 'it returns false'. Refute it at one input. -/
def fnExactContrastOfWrong : ChangeSpec := { name := "fnExactContrastOf", fn := fun _ => fun
  | [d] => { results := [.lit (.bool false)], args := [d] }
  | _ => none }
def FnExactContrastOfWrongFalsely : Prop := fnExactContrastOfRow.holds Try.pinned (OpenSpec.ofChange fnExactContrastOfWrong)

/-- 'laws.FnExactThicknessFor': WHATEVER THE INPUT: true; the input reads as it did. -/
def fnExactThicknessForSpec : ChangeSpec := { name := "fnExactThicknessFor", fn := fun _ => fun
  | [d1, d2, d3] => { results := [.lit (.bool true)], args := [d1, d2, d3] }
  | _ => none }
def fnExactThicknessForRow : OpenClaim := { program := "ytobajdokfkimdaa", sum := "e16bb7b8e976d28869356d31a8908899f22a6c9ef6cc99d3f779d8d1e4dc6e44", func := "loop.example/g01213/laws.FnExactThicknessFor", spec := "fnExactThicknessFor", inPlace := ["math.Float64frombits", "math.Float64bits"], unfollowed := true, recurses := true, apart := false }
def FnExactThicknessForSaid : Prop := fnExactThicknessForRow.holds Try.pinned (OpenSpec.ofChange fnExactThicknessForSpec)

/-- ITS FALSE NEIGHBOUR: 'it returns false'. Refute it at one input. -/
def fnExactThicknessForWrong : ChangeSpec := { name := "fnExactThicknessFor", fn := fun _ => fun
  | [d1, d2, d3] => { results := [.lit (.bool false)], args := [d1, d2, d3] }
  | _ => none }
def FnExactThicknessForWrongFalsely : Prop := fnExactThicknessForRow.holds Try.pinned (OpenSpec.ofChange fnExactThicknessForWrong)

/-- 'laws.FnExactValidSamples': WHATEVER THE INPUT: true; the input reads as it did. -/
def fnExactValidSamplesSpec : ChangeSpec := { name := "fnExactValidSamples", fn := fun _ => fun
  | [d] => { results := [.lit (.bool true)], args := [d] }
  | _ => none }
def fnExactValidSamplesRow : OpenClaim := { program := "ytobajdokfkimdaa", sum := "e16bb7b8e976d28869356d31a8908899f22a6c9ef6cc99d3f779d8d1e4dc6e44", func := "loop.example/g01213/laws.FnExactValidSamples", spec := "fnExactValidSamples", apart := false }
def FnExactValidSamplesSaid : Prop := fnExactValidSamplesRow.holds Try.pinned (OpenSpec.ofChange fnExactValidSamplesSpec)

/-- ITS FALSE NEIGHBOUR: 'it returns false'. Refute it at one input. -/
def fnExactValidSamplesWrong : ChangeSpec := { name := "fnExactValidSamples", fn := fun _ => fun
  | [d] => { results := [.lit (.bool false)], args := [d] }
  | _ => none }
def FnExactValidSamplesWrongFalsely : Prop := fnExactValidSamplesRow.holds Try.pinned (OpenSpec.ofChange fnExactValidSamplesWrong)

/-- 'laws.FnExactCoverSeen': WHATEVER THE INPUT: true; the input reads as it did. -/
def fnExactCoverSeenSpec : ChangeSpec := { name := "fnExactCoverSeen", fn := fun _ => fun
  | [d1, d2, d3] => { results := [.lit (.bool true)], args := [d1, d2, d3] }
  | _ => none }
def fnExactCoverSeenRow : OpenClaim := { program := "ytobajdokfkimdaa", sum := "e16bb7b8e976d28869356d31a8908899f22a6c9ef6cc99d3f779d8d1e4dc6e44", func := "loop.example/g01213/laws.FnExactCoverSeen", spec := "fnExactCoverSeen", apart := false }
def FnExactCoverSeenSaid : Prop := fnExactCoverSeenRow.holds Try.pinned (OpenSpec.ofChange fnExactCoverSeenSpec)

/-- ITS FALSE NEIGHBOUR: 'it returns false'. Refute it at one input. -/
def fnExactCoverSeenWrong : ChangeSpec := { name := "fnExactCoverSeen", fn := fun _ => fun
  | [d1, d2, d3] => { results := [.lit (.bool false)], args := [d1, d2, d3] }
  | _ => none }
def FnExactCoverSeenWrongFalsely : Prop := fnExactCoverSeenRow.holds Try.pinned (OpenSpec.ofChange fnExactCoverSeenWrong)

/-- 'laws.FnExactReduceDrops': WHATEVER THE INPUT: true; the input reads as it did. -/
def fnExactReduceDropsSpec : ChangeSpec := { name := "fnExactReduceDrops", fn := fun _ => fun
  | [d1, d2] => { results := [.lit (.bool true)], args := [d1, d2] }
  | _ => none }
def fnExactReduceDropsRow : OpenClaim := { program := "ytobajdokfkimdaa", sum := "e16bb7b8e976d28869356d31a8908899f22a6c9ef6cc99d3f779d8d1e4dc6e44", func := "loop.example/g01213/laws.FnExactReduceDrops", spec := "fnExactReduceDrops", unfollowed := true, recurses := true, apart := false }
def FnExactReduceDropsSaid : Prop := fnExactReduceDropsRow.holds Try.pinned (OpenSpec.ofChange fnExactReduceDropsSpec)

/-- ITS FALSE NEIGHBOUR: 'it returns false'. Refute it at one input. -/
def fnExactReduceDropsWrong : ChangeSpec := { name := "fnExactReduceDrops", fn := fun _ => fun
  | [d1, d2] => { results := [.lit (.bool false)], args := [d1, d2] }
  | _ => none }
def FnExactReduceDropsWrongFalsely : Prop := fnExactReduceDropsRow.holds Try.pinned (OpenSpec.ofChange fnExactReduceDropsWrong)

/-- 'laws.FnExactAddDrops': WHATEVER THE INPUT: true; the input reads as it did. -/
def fnExactAddDropsSpec : ChangeSpec := { name := "fnExactAddDrops", fn := fun _ => fun
  | [d1, d2, d3] => { results := [.lit (.bool true)], args := [d1, d2, d3] }
  | _ => none }
def fnExactAddDropsRow : OpenClaim := { program := "ytobajdokfkimdaa", sum := "e16bb7b8e976d28869356d31a8908899f22a6c9ef6cc99d3f779d8d1e4dc6e44", func := "loop.example/g01213/laws.FnExactAddDrops", spec := "fnExactAddDrops", unfollowed := true, recurses := true, apart := false }
def FnExactAddDropsSaid : Prop := fnExactAddDropsRow.holds Try.pinned (OpenSpec.ofChange fnExactAddDropsSpec)

/-- ITS FALSE NEIGHBOUR: 'it returns false'. Refute it at one input. -/
def fnExactAddDropsWrong : ChangeSpec := { name := "fnExactAddDrops", fn := fun _ => fun
  | [d1, d2, d3] => { results := [.lit (.bool false)], args := [d1, d2, d3] }
  | _ => none }
def FnExactAddDropsWrongFalsely : Prop := fnExactAddDropsRow.holds Try.pinned (OpenSpec.ofChange fnExactAddDropsWrong)

/-- 'laws.FnExactTakeDrops': WHATEVER THE INPUT: true; the input reads as it did. -/
def fnExactTakeDropsSpec : ChangeSpec := { name := "fnExactTakeDrops", fn := fun _ => fun
  | [d1, d2] => { results := [.lit (.bool true)], args := [d1, d2] }
  | _ => none }
def fnExactTakeDropsRow : OpenClaim := { program := "ytobajdokfkimdaa", sum := "e16bb7b8e976d28869356d31a8908899f22a6c9ef6cc99d3f779d8d1e4dc6e44", func := "loop.example/g01213/laws.FnExactTakeDrops", spec := "fnExactTakeDrops", unfollowed := true, recurses := true, apart := false }
def FnExactTakeDropsSaid : Prop := fnExactTakeDropsRow.holds Try.pinned (OpenSpec.ofChange fnExactTakeDropsSpec)

/-- ITS FALSE NEIGHBOUR: 'it returns false'. Refute it at one input. -/
def fnExactTakeDropsWrong : ChangeSpec := { name := "fnExactTakeDrops", fn := fun _ => fun
  | [d1, d2] => { results := [.lit (.bool false)], args := [d1, d2] }
  | _ => none }
def FnExactTakeDropsWrongFalsely : Prop := fnExactTakeDropsRow.holds Try.pinned (OpenSpec.ofChange fnExactTakeDropsWrong)

/-- 'laws.FnExactFillTin': WHATEVER THE INPUT: true; the input reads as it did. -/
def fnExactFillTinSpec : ChangeSpec := { name := "fnExactFillTin", fn := fun _ => fun
  | [d1, d2, d3] => { results := [.lit (.bool true)], args := [d1, d2, d3] }
  | _ => none }
def fnExactFillTinRow : OpenClaim := { program := "ytobajdokfkimdaa", sum := "e16bb7b8e976d28869356d31a8908899f22a6c9ef6cc99d3f779d8d1e4dc6e44", func := "loop.example/g01213/laws.FnExactFillTin", spec := "fnExactFillTin", unfollowed := true, recurses := true, apart := false }
def FnExactFillTinSaid : Prop := fnExactFillTinRow.holds Try.pinned (OpenSpec.ofChange fnExactFillTinSpec)

/-- ITS FALSE NEIGHBOUR: 'it returns false'. Refute it at one input. -/
def fnExactFillTinWrong : ChangeSpec := { name := "fnExactFillTin", fn := fun _ => fun
  | [d1, d2, d3] => { results := [.lit (.bool false)], args := [d1, d2, d3] }
  | _ => none }
def FnExactFillTinWrongFalsely : Prop := fnExactFillTinRow.holds Try.pinned (OpenSpec.ofChange fnExactFillTinWrong)

/-- 'laws.FnExactSameShelf': WHATEVER THE INPUT: true; the input reads as it did. -/
def fnExactSameShelfSpec : ChangeSpec := { name := "fnExactSameShelf", fn := fun _ => fun
  | [d1, d2] => { results := [.lit (.bool true)], args := [d1, d2] }
  | _ => none }
def fnExactSameShelfRow : OpenClaim := { program := "ytobajdokfkimdaa", sum := "e16bb7b8e976d28869356d31a8908899f22a6c9ef6cc99d3f779d8d1e4dc6e44", func := "loop.example/g01213/laws.FnExactSameShelf", spec := "fnExactSameShelf", inPlace := ["math.Float32bits"], unfollowed := true, recurses := true, apart := false }
def FnExactSameShelfSaid : Prop := fnExactSameShelfRow.holds Try.pinned (OpenSpec.ofChange fnExactSameShelfSpec)

/-- ITS FALSE NEIGHBOUR: 'it returns false'. Refute it at one input. -/
def fnExactSameShelfWrong : ChangeSpec := { name := "fnExactSameShelf", fn := fun _ => fun
  | [d1, d2] => { results := [.lit (.bool false)], args := [d1, d2] }
  | _ => none }
def FnExactSameShelfWrongFalsely : Prop := fnExactSameShelfRow.holds Try.pinned (OpenSpec.ofChange fnExactSameShelfWrong)

/-- 'laws.FnExactValidShelf': WHATEVER THE INPUT: true; the input reads as it did. -/
def fnExactValidShelfSpec : ChangeSpec := { name := "fnExactValidShelf", fn := fun _ => fun
  | [d] => { results := [.lit (.bool true)], args := [d] }
  | _ => none }
def fnExactValidShelfRow : OpenClaim := { program := "ytobajdokfkimdaa", sum := "e16bb7b8e976d28869356d31a8908899f22a6c9ef6cc99d3f779d8d1e4dc6e44", func := "loop.example/g01213/laws.FnExactValidShelf", spec := "fnExactValidShelf", unfollowed := true, recurses := true, apart := false }
def FnExactValidShelfSaid : Prop := fnExactValidShelfRow.holds Try.pinned (OpenSpec.ofChange fnExactValidShelfSpec)

/-- ITS FALSE NEIGHBOUR: 'it returns false'. Refute it at one input. -/
def fnExactValidShelfWrong : ChangeSpec := { name := "fnExactValidShelf", fn := fun _ => fun
  | [d] => { results := [.lit (.bool false)], args := [d] }
  | _ => none }
def FnExactValidShelfWrongFalsely : Prop := fnExactValidShelfRow.holds Try.pinned (OpenSpec.ofChange fnExactValidShelfWrong)

/-- 'laws.FnExactValidDrops': WHATEVER THE INPUT: true; the input reads as it did. -/
def fnExactValidDropsSpec : ChangeSpec := { name := "fnExactValidDrops", fn := fun _ => fun
  | [d1, d2] => { results := [.lit (.bool true)], args := [d1, d2] }
  | _ => none }
def fnExactValidDropsRow : OpenClaim := { program := "ytobajdokfkimdaa", sum := "e16bb7b8e976d28869356d31a8908899f22a6c9ef6cc99d3f779d8d1e4dc6e44", func := "loop.example/g01213/laws.FnExactValidDrops", spec := "fnExactValidDrops", unfollowed := true, recurses := true, apart := false }
def FnExactValidDropsSaid : Prop := fnExactValidDropsRow.holds Try.pinned (OpenSpec.ofChange fnExactValidDropsSpec)

/-- ITS FALSE NEIGHBOUR: 'it returns false'. Refute it at one input. -/
def fnExactValidDropsWrong : ChangeSpec := { name := "fnExactValidDrops", fn := fun _ => fun
  | [d1, d2] => { results := [.lit (.bool false)], args := [d1, d2] }
  | _ => none }
def FnExactValidDropsWrongFalsely : Prop := fnExactValidDropsRow.holds Try.pinned (OpenSpec.ofChange fnExactValidDropsWrong)

/-- 'laws.FnExactMeanCounts': WHATEVER THE INPUT: true; the input reads as it did. -/
def fnExactMeanCountsSpec : ChangeSpec := { name := "fnExactMeanCounts", fn := fun _ => fun
  | [d] => { results := [.lit (.bool true)], args := [d] }
  | _ => none }
def fnExactMeanCountsRow : OpenClaim := { program := "ytobajdokfkimdaa", sum := "e16bb7b8e976d28869356d31a8908899f22a6c9ef6cc99d3f779d8d1e4dc6e44", func := "loop.example/g01213/laws.FnExactMeanCounts", spec := "fnExactMeanCounts", inPlace := ["math.RoundToEven"], unfollowed := true, recurses := true, apart := false }
def FnExactMeanCountsSaid : Prop := fnExactMeanCountsRow.holds Try.pinned (OpenSpec.ofChange fnExactMeanCountsSpec)

/-- ITS FALSE NEIGHBOUR: 'it returns false'. Refute it at one input. -/
def fnExactMeanCountsWrong : ChangeSpec := { name := "fnExactMeanCounts", fn := fun _ => fun
  | [d] => { results := [.lit (.bool false)], args := [d] }
  | _ => none }
def FnExactMeanCountsWrongFalsely : Prop := fnExactMeanCountsRow.holds Try.pinned (OpenSpec.ofChange fnExactMeanCountsWrong)

/- THE SECOND FORM. 'bulk': how many values and letters a reading holds, each counted each time it is reached (what is shared counts as often as it is met; a slice's spare places count too). A statement '..UptoSaid' is the law's where the arguments, and the package variables that the reading takes, are together of bulk at most 1048576: NARROWER than '..Said'. Prove '..Said' where nothing that the law and all that it calls make is longer than what came in: it says more and counts as full. Else prove '..UptoSaid'. A law counts once. -/
mutual
def uptoBulk {H : Type} : DataW H → Nat
  | .lit (.string bytes) => bytes.length + 1
  | .lit _ => 1
  | .nil => 1
  | .ptr d => uptoBulk d + 1
  | .slice elems spare => uptoBulkAll elems + uptoBulkAll spare + 1
  | .agg parts => uptoBulkAll parts + 1
  | .iface _ d => uptoBulk d + 1
  | .map entries => uptoBulkEntries entries + 1
  | .held _ => 1
def uptoBulkAll {H : Type} : List (DataW H) → Nat
  | [] => 0
  | d :: r => uptoBulk d + uptoBulkAll r
def uptoBulkEntries {H : Type} : List (Lit × DataW H) → Nat
  | [] => 0
  | x :: r => uptoBulkEntry x + uptoBulkEntries r
def uptoBulkEntry {H : Type} : Lit × DataW H → Nat
  | (.string bytes, d) => bytes.length + uptoBulk d + 1
  | (_, d) => uptoBulk d + 1
 end
def uptoSmall : (H : Type) → List (DataW H) → Bool := fun _ ds => decide (uptoBulkAll ds ≤ 1048576)
def OpenSpec.upto (s : _root_.Go.ChangeSpec) : _root_.Go.OpenSpec := { _root_.Go.OpenSpec.ofChange s with cond := some uptoSmall }

/-- 'laws.FnExactContrastOf', WHERE WHAT IT READS IS OF BULK AT MOST 1048576: true; the input reads as it did. -/
def fnExactContrastOfUptoRow : OpenClaim := { program := "ytobajdokfkimdaa", sum := "e16bb7b8e976d28869356d31a8908899f22a6c9ef6cc99d3f779d8d1e4dc6e44", func := "loop.example/g01213/laws.FnExactContrastOf", spec := "fnExactContrastOf", inPlace := ["math.Float64frombits", "math.Float64bits"], unfollowed := true, recurses := true, apart := false, narrowed := true }
def FnExactContrastOfUptoSaid : Prop := fnExactContrastOfUptoRow.holds Try.pinned (OpenSpec.upto fnExactContrastOfSpec)

/-- 'laws.FnExactThicknessFor', WHERE WHAT IT READS IS OF BULK AT MOST 1048576: true; the input reads as it did. -/
def fnExactThicknessForUptoRow : OpenClaim := { program := "ytobajdokfkimdaa", sum := "e16bb7b8e976d28869356d31a8908899f22a6c9ef6cc99d3f779d8d1e4dc6e44", func := "loop.example/g01213/laws.FnExactThicknessFor", spec := "fnExactThicknessFor", inPlace := ["math.Float64frombits", "math.Float64bits"], unfollowed := true, recurses := true, apart := false, narrowed := true }
def FnExactThicknessForUptoSaid : Prop := fnExactThicknessForUptoRow.holds Try.pinned (OpenSpec.upto fnExactThicknessForSpec)

/-- 'laws.FnExactValidSamples', WHERE WHAT IT READS IS OF BULK AT MOST 1048576: true; the input reads as it did. -/
def fnExactValidSamplesUptoRow : OpenClaim := { program := "ytobajdokfkimdaa", sum := "e16bb7b8e976d28869356d31a8908899f22a6c9ef6cc99d3f779d8d1e4dc6e44", func := "loop.example/g01213/laws.FnExactValidSamples", spec := "fnExactValidSamples", apart := false, narrowed := true }
def FnExactValidSamplesUptoSaid : Prop := fnExactValidSamplesUptoRow.holds Try.pinned (OpenSpec.upto fnExactValidSamplesSpec)

/-- 'laws.FnExactCoverSeen', WHERE WHAT IT READS IS OF BULK AT MOST 1048576: true; the input reads as it did. -/
def fnExactCoverSeenUptoRow : OpenClaim := { program := "ytobajdokfkimdaa", sum := "e16bb7b8e976d28869356d31a8908899f22a6c9ef6cc99d3f779d8d1e4dc6e44", func := "loop.example/g01213/laws.FnExactCoverSeen", spec := "fnExactCoverSeen", apart := false, narrowed := true }
def FnExactCoverSeenUptoSaid : Prop := fnExactCoverSeenUptoRow.holds Try.pinned (OpenSpec.upto fnExactCoverSeenSpec)

/-- 'laws.FnExactReduceDrops', WHERE WHAT IT READS IS OF BULK AT MOST 1048576: true; the input reads as it did. -/
def fnExactReduceDropsUptoRow : OpenClaim := { program := "ytobajdokfkimdaa", sum := "e16bb7b8e976d28869356d31a8908899f22a6c9ef6cc99d3f779d8d1e4dc6e44", func := "loop.example/g01213/laws.FnExactReduceDrops", spec := "fnExactReduceDrops", unfollowed := true, recurses := true, apart := false, narrowed := true }
def FnExactReduceDropsUptoSaid : Prop := fnExactReduceDropsUptoRow.holds Try.pinned (OpenSpec.upto fnExactReduceDropsSpec)

/-- 'laws.FnExactAddDrops', WHERE WHAT IT READS IS OF BULK AT MOST 1048576: true; the input reads as it did. -/
def fnExactAddDropsUptoRow : OpenClaim := { program := "ytobajdokfkimdaa", sum := "e16bb7b8e976d28869356d31a8908899f22a6c9ef6cc99d3f779d8d1e4dc6e44", func := "loop.example/g01213/laws.FnExactAddDrops", spec := "fnExactAddDrops", unfollowed := true, recurses := true, apart := false, narrowed := true }
def FnExactAddDropsUptoSaid : Prop := fnExactAddDropsUptoRow.holds Try.pinned (OpenSpec.upto fnExactAddDropsSpec)

/-- 'laws.FnExactTakeDrops', WHERE WHAT IT READS IS OF BULK AT MOST 1048576: true; the input reads as it did. -/
def fnExactTakeDropsUptoRow : OpenClaim := { program := "ytobajdokfkimdaa", sum := "e16bb7b8e976d28869356d31a8908899f22a6c9ef6cc99d3f779d8d1e4dc6e44", func := "loop.example/g01213/laws.FnExactTakeDrops", spec := "fnExactTakeDrops", unfollowed := true, recurses := true, apart := false, narrowed := true }
def FnExactTakeDropsUptoSaid : Prop := fnExactTakeDropsUptoRow.holds Try.pinned (OpenSpec.upto fnExactTakeDropsSpec)

/-- 'laws.FnExactFillTin', WHERE WHAT IT READS IS OF BULK AT MOST 1048576: true; the input reads as it did. -/
def fnExactFillTinUptoRow : OpenClaim := { program := "ytobajdokfkimdaa", sum := "e16bb7b8e976d28869356d31a8908899f22a6c9ef6cc99d3f779d8d1e4dc6e44", func := "loop.example/g01213/laws.FnExactFillTin", spec := "fnExactFillTin", unfollowed := true, recurses := true, apart := false, narrowed := true }
def FnExactFillTinUptoSaid : Prop := fnExactFillTinUptoRow.holds Try.pinned (OpenSpec.upto fnExactFillTinSpec)

/-- 'laws.FnExactSameShelf', WHERE WHAT IT READS IS OF BULK AT MOST 1048576: true; the input reads as it did. -/
def fnExactSameShelfUptoRow : OpenClaim := { program := "ytobajdokfkimdaa", sum := "e16bb7b8e976d28869356d31a8908899f22a6c9ef6cc99d3f779d8d1e4dc6e44", func := "loop.example/g01213/laws.FnExactSameShelf", spec := "fnExactSameShelf", inPlace := ["math.Float32bits"], unfollowed := true, recurses := true, apart := false, narrowed := true }
def FnExactSameShelfUptoSaid : Prop := fnExactSameShelfUptoRow.holds Try.pinned (OpenSpec.upto fnExactSameShelfSpec)

/-- 'laws.FnExactValidShelf', WHERE WHAT IT READS IS OF BULK AT MOST 1048576: true; the input reads as it did. -/
def fnExactValidShelfUptoRow : OpenClaim := { program := "ytobajdokfkimdaa", sum := "e16bb7b8e976d28869356d31a8908899f22a6c9ef6cc99d3f779d8d1e4dc6e44", func := "loop.example/g01213/laws.FnExactValidShelf", spec := "fnExactValidShelf", unfollowed := true, recurses := true, apart := false, narrowed := true }
def FnExactValidShelfUptoSaid : Prop := fnExactValidShelfUptoRow.holds Try.pinned (OpenSpec.upto fnExactValidShelfSpec)

/-- 'laws.FnExactValidDrops', WHERE WHAT IT READS IS OF BULK AT MOST 1048576: true; the input reads as it did. -/
def fnExactValidDropsUptoRow : OpenClaim := { program := "ytobajdokfkimdaa", sum := "e16bb7b8e976d28869356d31a8908899f22a6c9ef6cc99d3f779d8d1e4dc6e44", func := "loop.example/g01213/laws.FnExactValidDrops", spec := "fnExactValidDrops", unfollowed := true, recurses := true, apart := false, narrowed := true }
def FnExactValidDropsUptoSaid : Prop := fnExactValidDropsUptoRow.holds Try.pinned (OpenSpec.upto fnExactValidDropsSpec)

/-- 'laws.FnExactMeanCounts', WHERE WHAT IT READS IS OF BULK AT MOST 1048576: true; the input reads as it did. -/
def fnExactMeanCountsUptoRow : OpenClaim := { program := "ytobajdokfkimdaa", sum := "e16bb7b8e976d28869356d31a8908899f22a6c9ef6cc99d3f779d8d1e4dc6e44", func := "loop.example/g01213/laws.FnExactMeanCounts", spec := "fnExactMeanCounts", inPlace := ["math.RoundToEven"], unfollowed := true, recurses := true, apart := false, narrowed := true }
def FnExactMeanCountsUptoSaid : Prop := fnExactMeanCountsUptoRow.holds Try.pinned (OpenSpec.upto fnExactMeanCountsSpec)

end Rows
end Go.Proofs.Ytobajdokfkimdaa
