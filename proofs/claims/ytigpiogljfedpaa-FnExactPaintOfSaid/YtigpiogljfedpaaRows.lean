/-
  No cell of these rows narrows 'for every input' (looked for: loops, veiled, ifaces, maps, wideKeys, modest, calm, conditions, laid).
  DERIVED. THE GIVEN ROWS OF THIS SEAT. 12 by the template 'for every input the law returns true; each argument reads behind the call as it read before'; 0 by the template 'total and deterministic' (their statements: YtigpiogljfedpaaTotals.lean).
  GIVEN WITH THE SEED: the statements are not yours to turn. If you find one false, say at which input.
  Laid BY PROGRAM, IN A SANDBOX (cutbox-rows.mjs): the forced cells as the released guide's own fill.sh prints them over the translation 4a6bd7e5ac6a38c0… (all of the seat's roots in one cut). By AI agents, Wed Nov 11 2026. No macro, syntax, notation, axiom, sorry.
-/
import Derived.Test.YtigpiogljfedpaaChecked
import GoSem.Claim
import GoSem.ClaimJoined
import GoSem.ClaimMapViews
import Derived.JoinedTies
import Derived.KernelRfl
namespace Go.Proofs.Ytigpiogljfedpaa
/- THE CELL 'sum', in the pinned program and in every row, IS THE sha256 OF THE DUMP (.gsa) THAT YtigpiogljfedpaaProg.lean LOADS. Nothing in Lean hashes anything: it is a label: what it is worth is what the hold of that sum in a sandbox is worth. -/
noncomputable def Try.pinned : Pinned := { name := "ytigpiogljfedpaa", sum := "4a6bd7e5ac6a38c0b5e579f4bf8d3f5f623820d4dd8f03da504d6f7d37de897f", checked := Try.checked }
namespace Rows
def none {H : Type} : Left H := { results := [], args := [] }

/-- 'laws.FnExactValidShelf': WHATEVER THE INPUT: true; the input reads as it did. -/
def fnExactValidShelfSpec : ChangeSpec := { name := "fnExactValidShelf", fn := fun _ => fun
  | [d] => { results := [.lit (.bool true)], args := [d] }
  | _ => none }
def fnExactValidShelfRow : OpenClaim := { program := "ytigpiogljfedpaa", sum := "4a6bd7e5ac6a38c0b5e579f4bf8d3f5f623820d4dd8f03da504d6f7d37de897f", func := "loop.example/g01213/laws.FnExactValidShelf", spec := "fnExactValidShelf", unfollowed := true, recurses := true, apart := false }
def FnExactValidShelfSaid : Prop := fnExactValidShelfRow.holds Try.pinned (OpenSpec.ofChange fnExactValidShelfSpec)

/-- ITS FALSE NEIGHBOUR: 'it returns false'. Refute it at one input. -/
def fnExactValidShelfWrong : ChangeSpec := { name := "fnExactValidShelf", fn := fun _ => fun
  | [d] => { results := [.lit (.bool false)], args := [d] }
  | _ => none }
def FnExactValidShelfWrongFalsely : Prop := fnExactValidShelfRow.holds Try.pinned (OpenSpec.ofChange fnExactValidShelfWrong)

/-- 'laws.FnExactValidDrops': WHATEVER THE INPUT: true; the input reads as it did. -/
def fnExactValidDropsSpec : ChangeSpec := { name := "fnExactValidDrops", fn := fun _ => fun
  | [d1, d2] => { results := [.lit (.bool true)], args := [d1, d2] }
  | _ => none }
def fnExactValidDropsRow : OpenClaim := { program := "ytigpiogljfedpaa", sum := "4a6bd7e5ac6a38c0b5e579f4bf8d3f5f623820d4dd8f03da504d6f7d37de897f", func := "loop.example/g01213/laws.FnExactValidDrops", spec := "fnExactValidDrops", unfollowed := true, recurses := true, apart := false }
def FnExactValidDropsSaid : Prop := fnExactValidDropsRow.holds Try.pinned (OpenSpec.ofChange fnExactValidDropsSpec)

/-- ITS FALSE NEIGHBOUR: 'it returns false'. Refute it at one input. -/
def fnExactValidDropsWrong : ChangeSpec := { name := "fnExactValidDrops", fn := fun _ => fun
  | [d1, d2] => { results := [.lit (.bool false)], args := [d1, d2] }
  | _ => none }
def FnExactValidDropsWrongFalsely : Prop := fnExactValidDropsRow.holds Try.pinned (OpenSpec.ofChange fnExactValidDropsWrong)

/-- 'laws.FnExactMixDrops': WHATEVER THE INPUT: true; the input reads as it did. -/
def fnExactMixDropsSpec : ChangeSpec := { name := "fnExactMixDrops", fn := fun _ => fun
  | [d1, d2] => { results := [.lit (.bool true)], args := [d1, d2] }
  | _ => none }
def fnExactMixDropsRow : OpenClaim := { program := "ytigpiogljfedpaa", sum := "4a6bd7e5ac6a38c0b5e579f4bf8d3f5f623820d4dd8f03da504d6f7d37de897f", func := "loop.example/g01213/laws.FnExactMixDrops", spec := "fnExactMixDrops", inPlace := ["math.Float64bits", "math.Float64frombits"], unfollowed := true, recurses := true, apart := false }
def FnExactMixDropsSaid : Prop := fnExactMixDropsRow.holds Try.pinned (OpenSpec.ofChange fnExactMixDropsSpec)

/-- ITS FALSE NEIGHBOUR: 'it returns false'. Refute it at one input. -/
def fnExactMixDropsWrong : ChangeSpec := { name := "fnExactMixDrops", fn := fun _ => fun
  | [d1, d2] => { results := [.lit (.bool false)], args := [d1, d2] }
  | _ => none }
def FnExactMixDropsWrongFalsely : Prop := fnExactMixDropsRow.holds Try.pinned (OpenSpec.ofChange fnExactMixDropsWrong)

/-- 'laws.FnExactPaintOf': WHATEVER THE INPUT: true; the input reads as it did. -/
def fnExactPaintOfSpec : ChangeSpec := { name := "fnExactPaintOf", fn := fun _ => fun
  | [d1, d2] => { results := [.lit (.bool true)], args := [d1, d2] }
  | _ => none }
def fnExactPaintOfRow : OpenClaim := { program := "ytigpiogljfedpaa", sum := "4a6bd7e5ac6a38c0b5e579f4bf8d3f5f623820d4dd8f03da504d6f7d37de897f", func := "loop.example/g01213/laws.FnExactPaintOf", spec := "fnExactPaintOf", inPlace := ["math.sqrt", "math.Float64bits", "math.Float64frombits"], unfollowed := true, recurses := true, apart := false }
def FnExactPaintOfSaid : Prop := fnExactPaintOfRow.holds Try.pinned (OpenSpec.ofChange fnExactPaintOfSpec)

/-- ITS FALSE NEIGHBOUR: 'it returns false'. Refute it at one input. -/
def fnExactPaintOfWrong : ChangeSpec := { name := "fnExactPaintOf", fn := fun _ => fun
  | [d1, d2] => { results := [.lit (.bool false)], args := [d1, d2] }
  | _ => none }
def FnExactPaintOfWrongFalsely : Prop := fnExactPaintOfRow.holds Try.pinned (OpenSpec.ofChange fnExactPaintOfWrong)

/-- 'laws.FnExactScaleDrops': WHATEVER THE INPUT: true; the input reads as it did. -/
def fnExactScaleDropsSpec : ChangeSpec := { name := "fnExactScaleDrops", fn := fun _ => fun
  | [d1, d2, d3] => { results := [.lit (.bool true)], args := [d1, d2, d3] }
  | _ => none }
def fnExactScaleDropsRow : OpenClaim := { program := "ytigpiogljfedpaa", sum := "4a6bd7e5ac6a38c0b5e579f4bf8d3f5f623820d4dd8f03da504d6f7d37de897f", func := "loop.example/g01213/laws.FnExactScaleDrops", spec := "fnExactScaleDrops", unfollowed := true, recurses := true, apart := false }
def FnExactScaleDropsSaid : Prop := fnExactScaleDropsRow.holds Try.pinned (OpenSpec.ofChange fnExactScaleDropsSpec)

/-- ITS FALSE NEIGHBOUR: 'it returns false'. Refute it at one input. -/
def fnExactScaleDropsWrong : ChangeSpec := { name := "fnExactScaleDrops", fn := fun _ => fun
  | [d1, d2, d3] => { results := [.lit (.bool false)], args := [d1, d2, d3] }
  | _ => none }
def FnExactScaleDropsWrongFalsely : Prop := fnExactScaleDropsRow.holds Try.pinned (OpenSpec.ofChange fnExactScaleDropsWrong)

/-- 'laws.FnExactTimesInTins': WHATEVER THE INPUT: true; the input reads as it did. -/
def fnExactTimesInTinsSpec : ChangeSpec := { name := "fnExactTimesInTins", fn := fun _ => fun
  | [d1, d2] => { results := [.lit (.bool true)], args := [d1, d2] }
  | _ => none }
def fnExactTimesInTinsRow : OpenClaim := { program := "ytigpiogljfedpaa", sum := "4a6bd7e5ac6a38c0b5e579f4bf8d3f5f623820d4dd8f03da504d6f7d37de897f", func := "loop.example/g01213/laws.FnExactTimesInTins", spec := "fnExactTimesInTins", unfollowed := true, recurses := true, apart := false }
def FnExactTimesInTinsSaid : Prop := fnExactTimesInTinsRow.holds Try.pinned (OpenSpec.ofChange fnExactTimesInTinsSpec)

/-- ITS FALSE NEIGHBOUR: 'it returns false'. Refute it at one input. -/
def fnExactTimesInTinsWrong : ChangeSpec := { name := "fnExactTimesInTins", fn := fun _ => fun
  | [d1, d2] => { results := [.lit (.bool false)], args := [d1, d2] }
  | _ => none }
def FnExactTimesInTinsWrongFalsely : Prop := fnExactTimesInTinsRow.holds Try.pinned (OpenSpec.ofChange fnExactTimesInTinsWrong)

/-- 'laws.FnExactNearestPigment': WHATEVER THE INPUT: true; the input reads as it did. -/
def fnExactNearestPigmentSpec : ChangeSpec := { name := "fnExactNearestPigment", fn := fun _ => fun
  | [d1, d2] => { results := [.lit (.bool true)], args := [d1, d2] }
  | _ => none }
def fnExactNearestPigmentRow : OpenClaim := { program := "ytigpiogljfedpaa", sum := "4a6bd7e5ac6a38c0b5e579f4bf8d3f5f623820d4dd8f03da504d6f7d37de897f", func := "loop.example/g01213/laws.FnExactNearestPigment", spec := "fnExactNearestPigment", inPlace := ["math.sqrt", "math.Float64bits", "math.Float64frombits"], unfollowed := true, recurses := true, apart := false }
def FnExactNearestPigmentSaid : Prop := fnExactNearestPigmentRow.holds Try.pinned (OpenSpec.ofChange fnExactNearestPigmentSpec)

/-- ITS FALSE NEIGHBOUR: 'it returns false'. Refute it at one input. -/
def fnExactNearestPigmentWrong : ChangeSpec := { name := "fnExactNearestPigment", fn := fun _ => fun
  | [d1, d2] => { results := [.lit (.bool false)], args := [d1, d2] }
  | _ => none }
def FnExactNearestPigmentWrongFalsely : Prop := fnExactNearestPigmentRow.holds Try.pinned (OpenSpec.ofChange fnExactNearestPigmentWrong)

/-- 'laws.FnExactReduceDrops': WHATEVER THE INPUT: true; the input reads as it did. -/
def fnExactReduceDropsSpec : ChangeSpec := { name := "fnExactReduceDrops", fn := fun _ => fun
  | [d1, d2] => { results := [.lit (.bool true)], args := [d1, d2] }
  | _ => none }
def fnExactReduceDropsRow : OpenClaim := { program := "ytigpiogljfedpaa", sum := "4a6bd7e5ac6a38c0b5e579f4bf8d3f5f623820d4dd8f03da504d6f7d37de897f", func := "loop.example/g01213/laws.FnExactReduceDrops", spec := "fnExactReduceDrops", unfollowed := true, recurses := true, apart := false }
def FnExactReduceDropsSaid : Prop := fnExactReduceDropsRow.holds Try.pinned (OpenSpec.ofChange fnExactReduceDropsSpec)

/-- ITS FALSE NEIGHBOUR: 'it returns false'. Refute it at one input. -/
def fnExactReduceDropsWrong : ChangeSpec := { name := "fnExactReduceDrops", fn := fun _ => fun
  | [d1, d2] => { results := [.lit (.bool false)], args := [d1, d2] }
  | _ => none }
def FnExactReduceDropsWrongFalsely : Prop := fnExactReduceDropsRow.holds Try.pinned (OpenSpec.ofChange fnExactReduceDropsWrong)

/-- 'laws.FnExactTakeDrops': WHATEVER THE INPUT: true; the input reads as it did. -/
def fnExactTakeDropsSpec : ChangeSpec := { name := "fnExactTakeDrops", fn := fun _ => fun
  | [d1, d2] => { results := [.lit (.bool true)], args := [d1, d2] }
  | _ => none }
def fnExactTakeDropsRow : OpenClaim := { program := "ytigpiogljfedpaa", sum := "4a6bd7e5ac6a38c0b5e579f4bf8d3f5f623820d4dd8f03da504d6f7d37de897f", func := "loop.example/g01213/laws.FnExactTakeDrops", spec := "fnExactTakeDrops", unfollowed := true, recurses := true, apart := false }
def FnExactTakeDropsSaid : Prop := fnExactTakeDropsRow.holds Try.pinned (OpenSpec.ofChange fnExactTakeDropsSpec)

/-- ITS FALSE NEIGHBOUR: 'it returns false'. Refute it at one input. -/
def fnExactTakeDropsWrong : ChangeSpec := { name := "fnExactTakeDrops", fn := fun _ => fun
  | [d1, d2] => { results := [.lit (.bool false)], args := [d1, d2] }
  | _ => none }
def FnExactTakeDropsWrongFalsely : Prop := fnExactTakeDropsRow.holds Try.pinned (OpenSpec.ofChange fnExactTakeDropsWrong)

/-- 'laws.FnExactFillTin': WHATEVER THE INPUT: true; the input reads as it did. -/
def fnExactFillTinSpec : ChangeSpec := { name := "fnExactFillTin", fn := fun _ => fun
  | [d1, d2, d3] => { results := [.lit (.bool true)], args := [d1, d2, d3] }
  | _ => none }
def fnExactFillTinRow : OpenClaim := { program := "ytigpiogljfedpaa", sum := "4a6bd7e5ac6a38c0b5e579f4bf8d3f5f623820d4dd8f03da504d6f7d37de897f", func := "loop.example/g01213/laws.FnExactFillTin", spec := "fnExactFillTin", unfollowed := true, recurses := true, apart := false }
def FnExactFillTinSaid : Prop := fnExactFillTinRow.holds Try.pinned (OpenSpec.ofChange fnExactFillTinSpec)

/-- ITS FALSE NEIGHBOUR: 'it returns false'. Refute it at one input. -/
def fnExactFillTinWrong : ChangeSpec := { name := "fnExactFillTin", fn := fun _ => fun
  | [d1, d2, d3] => { results := [.lit (.bool false)], args := [d1, d2, d3] }
  | _ => none }
def FnExactFillTinWrongFalsely : Prop := fnExactFillTinRow.holds Try.pinned (OpenSpec.ofChange fnExactFillTinWrong)

/-- 'laws.FnExactAddDrops': WHATEVER THE INPUT: true; the input reads as it did. -/
def fnExactAddDropsSpec : ChangeSpec := { name := "fnExactAddDrops", fn := fun _ => fun
  | [d1, d2, d3] => { results := [.lit (.bool true)], args := [d1, d2, d3] }
  | _ => none }
def fnExactAddDropsRow : OpenClaim := { program := "ytigpiogljfedpaa", sum := "4a6bd7e5ac6a38c0b5e579f4bf8d3f5f623820d4dd8f03da504d6f7d37de897f", func := "loop.example/g01213/laws.FnExactAddDrops", spec := "fnExactAddDrops", unfollowed := true, recurses := true, apart := false }
def FnExactAddDropsSaid : Prop := fnExactAddDropsRow.holds Try.pinned (OpenSpec.ofChange fnExactAddDropsSpec)

/-- ITS FALSE NEIGHBOUR: 'it returns false'. Refute it at one input. -/
def fnExactAddDropsWrong : ChangeSpec := { name := "fnExactAddDrops", fn := fun _ => fun
  | [d1, d2, d3] => { results := [.lit (.bool false)], args := [d1, d2, d3] }
  | _ => none }
def FnExactAddDropsWrongFalsely : Prop := fnExactAddDropsRow.holds Try.pinned (OpenSpec.ofChange fnExactAddDropsWrong)

/-- 'laws.FnExactSameShelf': WHATEVER THE INPUT: true; the input reads as it did. -/
def fnExactSameShelfSpec : ChangeSpec := { name := "fnExactSameShelf", fn := fun _ => fun
  | [d1, d2] => { results := [.lit (.bool true)], args := [d1, d2] }
  | _ => none }
def fnExactSameShelfRow : OpenClaim := { program := "ytigpiogljfedpaa", sum := "4a6bd7e5ac6a38c0b5e579f4bf8d3f5f623820d4dd8f03da504d6f7d37de897f", func := "loop.example/g01213/laws.FnExactSameShelf", spec := "fnExactSameShelf", inPlace := ["math.Float32bits"], unfollowed := true, recurses := true, apart := false }
def FnExactSameShelfSaid : Prop := fnExactSameShelfRow.holds Try.pinned (OpenSpec.ofChange fnExactSameShelfSpec)

/-- ITS FALSE NEIGHBOUR: 'it returns false'. Refute it at one input. -/
def fnExactSameShelfWrong : ChangeSpec := { name := "fnExactSameShelf", fn := fun _ => fun
  | [d1, d2] => { results := [.lit (.bool false)], args := [d1, d2] }
  | _ => none }
def FnExactSameShelfWrongFalsely : Prop := fnExactSameShelfRow.holds Try.pinned (OpenSpec.ofChange fnExactSameShelfWrong)

/- THE SECOND FORM. 'bulk': how many values and letters a reading holds, each counted each time it is reached (what is shared counts as often as it is met; a slice's spare places count too). A statement '..UptoSaid' is the law's where the arguments, and the package variables that the reading takes, are together of bulk at most 1048576: NARROWER than '..Said'. Prove '..Said' where nothing that the law and all that it calls make is longer than what came in: it says more and counts as full. Else prove '..UptoSaid'. A law counts once. -/
mutual
def uptoBulk {H : Type} : DataW H → Nat
  | .lit (.string bytes) => bytes.length + 1
  | .lit _ => 1
  | .nil => 1
  | .ptr d => uptoBulk d + 1
  | .slice elems spare => uptoBulkAll elems + uptoBulkAll spare + 1
  | .agg parts => uptoBulkAll parts + 1
  | .iface _ d => uptoBulk d + 1
  | .map entries => uptoBulkEntries entries + 1
  | .held _ => 1
def uptoBulkAll {H : Type} : List (DataW H) → Nat
  | [] => 0
  | d :: r => uptoBulk d + uptoBulkAll r
def uptoBulkEntries {H : Type} : List (Lit × DataW H) → Nat
  | [] => 0
  | x :: r => uptoBulkEntry x + uptoBulkEntries r
def uptoBulkEntry {H : Type} : Lit × DataW H → Nat
  | (.string bytes, d) => bytes.length + uptoBulk d + 1
  | (_, d) => uptoBulk d + 1
 end
def uptoSmall : (H : Type) → List (DataW H) → Bool := fun _ ds => decide (uptoBulkAll ds ≤ 1048576)
def OpenSpec.upto (s : _root_.Go.ChangeSpec) : _root_.Go.OpenSpec := { _root_.Go.OpenSpec.ofChange s with cond := some uptoSmall }

/-- 'laws.FnExactValidShelf', WHERE WHAT IT READS IS OF BULK AT MOST 1048576: true; the input reads as it did. -/
def fnExactValidShelfUptoRow : OpenClaim := { program := "ytigpiogljfedpaa", sum := "4a6bd7e5ac6a38c0b5e579f4bf8d3f5f623820d4dd8f03da504d6f7d37de897f", func := "loop.example/g01213/laws.FnExactValidShelf", spec := "fnExactValidShelf", unfollowed := true, recurses := true, apart := false, narrowed := true }
def FnExactValidShelfUptoSaid : Prop := fnExactValidShelfUptoRow.holds Try.pinned (OpenSpec.upto fnExactValidShelfSpec)

/-- 'laws.FnExactValidDrops', WHERE WHAT IT READS IS OF BULK AT MOST 1048576: true; the input reads as it did. -/
def fnExactValidDropsUptoRow : OpenClaim := { program := "ytigpiogljfedpaa", sum := "4a6bd7e5ac6a38c0b5e579f4bf8d3f5f623820d4dd8f03da504d6f7d37de897f", func := "loop.example/g01213/laws.FnExactValidDrops", spec := "fnExactValidDrops", unfollowed := true, recurses := true, apart := false, narrowed := true }
def FnExactValidDropsUptoSaid : Prop := fnExactValidDropsUptoRow.holds Try.pinned (OpenSpec.upto fnExactValidDropsSpec)

/-- 'laws.FnExactMixDrops', WHERE WHAT IT READS IS OF BULK AT MOST 1048576: true; the input reads as it did. -/
def fnExactMixDropsUptoRow : OpenClaim := { program := "ytigpiogljfedpaa", sum := "4a6bd7e5ac6a38c0b5e579f4bf8d3f5f623820d4dd8f03da504d6f7d37de897f", func := "loop.example/g01213/laws.FnExactMixDrops", spec := "fnExactMixDrops", inPlace := ["math.Float64bits", "math.Float64frombits"], unfollowed := true, recurses := true, apart := false, narrowed := true }
def FnExactMixDropsUptoSaid : Prop := fnExactMixDropsUptoRow.holds Try.pinned (OpenSpec.upto fnExactMixDropsSpec)

/-- 'laws.FnExactPaintOf', WHERE WHAT IT READS IS OF BULK AT MOST 1048576: true; the input reads as it did. -/
def fnExactPaintOfUptoRow : OpenClaim := { program := "ytigpiogljfedpaa", sum := "4a6bd7e5ac6a38c0b5e579f4bf8d3f5f623820d4dd8f03da504d6f7d37de897f", func := "loop.example/g01213/laws.FnExactPaintOf", spec := "fnExactPaintOf", inPlace := ["math.sqrt", "math.Float64bits", "math.Float64frombits"], unfollowed := true, recurses := true, apart := false, narrowed := true }
def FnExactPaintOfUptoSaid : Prop := fnExactPaintOfUptoRow.holds Try.pinned (OpenSpec.upto fnExactPaintOfSpec)

/-- 'laws.FnExactScaleDrops', WHERE WHAT IT READS IS OF BULK AT MOST 1048576: true; the input reads as it did. -/
def fnExactScaleDropsUptoRow : OpenClaim := { program := "ytigpiogljfedpaa", sum := "4a6bd7e5ac6a38c0b5e579f4bf8d3f5f623820d4dd8f03da504d6f7d37de897f", func := "loop.example/g01213/laws.FnExactScaleDrops", spec := "fnExactScaleDrops", unfollowed := true, recurses := true, apart := false, narrowed := true }
def FnExactScaleDropsUptoSaid : Prop := fnExactScaleDropsUptoRow.holds Try.pinned (OpenSpec.upto fnExactScaleDropsSpec)

/-- 'laws.FnExactTimesInTins', WHERE WHAT IT READS IS OF BULK AT MOST 1048576: true; the input reads as it did. -/
def fnExactTimesInTinsUptoRow : OpenClaim := { program := "ytigpiogljfedpaa", sum := "4a6bd7e5ac6a38c0b5e579f4bf8d3f5f623820d4dd8f03da504d6f7d37de897f", func := "loop.example/g01213/laws.FnExactTimesInTins", spec := "fnExactTimesInTins", unfollowed := true, recurses := true, apart := false, narrowed := true }
def FnExactTimesInTinsUptoSaid : Prop := fnExactTimesInTinsUptoRow.holds Try.pinned (OpenSpec.upto fnExactTimesInTinsSpec)

/-- 'laws.FnExactNearestPigment', WHERE WHAT IT READS IS OF BULK AT MOST 1048576: true; the input reads as it did. -/
def fnExactNearestPigmentUptoRow : OpenClaim := { program := "ytigpiogljfedpaa", sum := "4a6bd7e5ac6a38c0b5e579f4bf8d3f5f623820d4dd8f03da504d6f7d37de897f", func := "loop.example/g01213/laws.FnExactNearestPigment", spec := "fnExactNearestPigment", inPlace := ["math.sqrt", "math.Float64bits", "math.Float64frombits"], unfollowed := true, recurses := true, apart := false, narrowed := true }
def FnExactNearestPigmentUptoSaid : Prop := fnExactNearestPigmentUptoRow.holds Try.pinned (OpenSpec.upto fnExactNearestPigmentSpec)

/-- 'laws.FnExactReduceDrops', WHERE WHAT IT READS IS OF BULK AT MOST 1048576: true; the input reads as it did. -/
def fnExactReduceDropsUptoRow : OpenClaim := { program := "ytigpiogljfedpaa", sum := "4a6bd7e5ac6a38c0b5e579f4bf8d3f5f623820d4dd8f03da504d6f7d37de897f", func := "loop.example/g01213/laws.FnExactReduceDrops", spec := "fnExactReduceDrops", unfollowed := true, recurses := true, apart := false, narrowed := true }
def FnExactReduceDropsUptoSaid : Prop := fnExactReduceDropsUptoRow.holds Try.pinned (OpenSpec.upto fnExactReduceDropsSpec)

/-- 'laws.FnExactTakeDrops', WHERE WHAT IT READS IS OF BULK AT MOST 1048576: true; the input reads as it did. -/
def fnExactTakeDropsUptoRow : OpenClaim := { program := "ytigpiogljfedpaa", sum := "4a6bd7e5ac6a38c0b5e579f4bf8d3f5f623820d4dd8f03da504d6f7d37de897f", func := "loop.example/g01213/laws.FnExactTakeDrops", spec := "fnExactTakeDrops", unfollowed := true, recurses := true, apart := false, narrowed := true }
def FnExactTakeDropsUptoSaid : Prop := fnExactTakeDropsUptoRow.holds Try.pinned (OpenSpec.upto fnExactTakeDropsSpec)

/-- 'laws.FnExactFillTin', WHERE WHAT IT READS IS OF BULK AT MOST 1048576: true; the input reads as it did. -/
def fnExactFillTinUptoRow : OpenClaim := { program := "ytigpiogljfedpaa", sum := "4a6bd7e5ac6a38c0b5e579f4bf8d3f5f623820d4dd8f03da504d6f7d37de897f", func := "loop.example/g01213/laws.FnExactFillTin", spec := "fnExactFillTin", unfollowed := true, recurses := true, apart := false, narrowed := true }
def FnExactFillTinUptoSaid : Prop := fnExactFillTinUptoRow.holds Try.pinned (OpenSpec.upto fnExactFillTinSpec)

/-- 'laws.FnExactAddDrops', WHERE WHAT IT READS IS OF BULK AT MOST 1048576: true; the input reads as it did. -/
def fnExactAddDropsUptoRow : OpenClaim := { program := "ytigpiogljfedpaa", sum := "4a6bd7e5ac6a38c0b5e579f4bf8d3f5f623820d4dd8f03da504d6f7d37de897f", func := "loop.example/g01213/laws.FnExactAddDrops", spec := "fnExactAddDrops", unfollowed := true, recurses := true, apart := false, narrowed := true }
def FnExactAddDropsUptoSaid : Prop := fnExactAddDropsUptoRow.holds Try.pinned (OpenSpec.upto fnExactAddDropsSpec)

/-- 'laws.FnExactSameShelf', WHERE WHAT IT READS IS OF BULK AT MOST 1048576: true; the input reads as it did. -/
def fnExactSameShelfUptoRow : OpenClaim := { program := "ytigpiogljfedpaa", sum := "4a6bd7e5ac6a38c0b5e579f4bf8d3f5f623820d4dd8f03da504d6f7d37de897f", func := "loop.example/g01213/laws.FnExactSameShelf", spec := "fnExactSameShelf", inPlace := ["math.Float32bits"], unfollowed := true, recurses := true, apart := false, narrowed := true }
def FnExactSameShelfUptoSaid : Prop := fnExactSameShelfUptoRow.holds Try.pinned (OpenSpec.upto fnExactSameShelfSpec)

end Rows
end Go.Proofs.Ytigpiogljfedpaa
