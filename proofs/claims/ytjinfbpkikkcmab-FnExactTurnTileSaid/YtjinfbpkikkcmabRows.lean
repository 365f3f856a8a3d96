/-
  No cell of these rows narrows 'for every input' (looked for: loops, veiled, ifaces, maps, wideKeys, modest, calm, conditions, laid).
  DERIVED. THE GIVEN ROWS OF THIS SEAT. 12 by the template 'for every input the law returns true; each argument reads behind the call as it read before'; 0 by the template 'total and deterministic' (their statements: YtjinfbpkikkcmabTotals.lean).
  GIVEN WITH THE SEED: the statements are not yours to turn. If you find one false, say at which input.
  Laid BY PROGRAM, IN A SANDBOX (cutbox-rows.mjs): the forced cells as the released guide's own fill.sh prints them over the translation ae3726ba70255de8… (all of the seat's roots in one cut). By AI agents, Wed Nov 11 2026. No macro, syntax, notation, axiom, sorry.
-/
import Derived.Test.YtjinfbpkikkcmabChecked
import GoSem.Claim
import GoSem.ClaimJoined
import GoSem.ClaimMapViews
import Derived.JoinedTies
import Derived.KernelRfl
namespace Go.Proofs.Ytjinfbpkikkcmab
/- THE CELL 'sum', in the pinned program and in every row, IS THE sha256 OF THE DUMP (.gsa) THAT YtjinfbpkikkcmabProg.lean LOADS. Nothing in Lean hashes anything: it is a label: what it is worth is what the hold of that sum in a sandbox is worth. -/
noncomputable def Try.pinned : Pinned := { name := "ytjinfbpkikkcmab", sum := "ae3726ba70255de8b16023d1ac6a11c53ef200e504549a3bf07aa05338f934c0", checked := Try.checked }
namespace Rows
def none {H : Type} : Left H := { results := [], args := [] }

/-- 'laws.FnExactSamePress': WHATEVER THE INPUT: true; the input reads as it did. -/
def fnExactSamePressSpec : ChangeSpec := { name := "fnExactSamePress", fn := fun _ => fun
  | [d1, d2] => { results := [.lit (.bool true)], args := [d1, d2] }
  | _ => none }
def fnExactSamePressRow : OpenClaim := { program := "ytjinfbpkikkcmab", sum := "ae3726ba70255de8b16023d1ac6a11c53ef200e504549a3bf07aa05338f934c0", func := "loop.example/g01213/laws.FnExactSamePress", spec := "fnExactSamePress", inPlace := ["math.Float32bits"], plainKeys := false, apart := false }
def FnExactSamePressSaid : Prop := fnExactSamePressRow.holds Try.pinned (OpenSpec.ofChange fnExactSamePressSpec)

/-- ITS FALSE NEIGHBOUR: 'it returns false'. Refute it at one input. -/
def fnExactSamePressWrong : ChangeSpec := { name := "fnExactSamePress", fn := fun _ => fun
  | [d1, d2] => { results := [.lit (.bool false)], args := [d1, d2] }
  | _ => none }
def FnExactSamePressWrongFalsely : Prop := fnExactSamePressRow.holds Try.pinned (OpenSpec.ofChange fnExactSamePressWrong)

/-- 'laws.FnExactPlaceNumber': WHATEVER THE INPUT: true; the input reads as it did. -/
def fnExactPlaceNumberSpec : ChangeSpec := { name := "fnExactPlaceNumber", fn := fun _ => fun
  | [d1, d2] => { results := [.lit (.bool true)], args := [d1, d2] }
  | _ => none }
def fnExactPlaceNumberRow : OpenClaim := { program := "ytjinfbpkikkcmab", sum := "ae3726ba70255de8b16023d1ac6a11c53ef200e504549a3bf07aa05338f934c0", func := "loop.example/g01213/laws.FnExactPlaceNumber", spec := "fnExactPlaceNumber", plainKeys := false, apart := false }
def FnExactPlaceNumberSaid : Prop := fnExactPlaceNumberRow.holds Try.pinned (OpenSpec.ofChange fnExactPlaceNumberSpec)

/-- ITS FALSE NEIGHBOUR: 'it returns false'. Refute it at one input. -/
def fnExactPlaceNumberWrong : ChangeSpec := { name := "fnExactPlaceNumber", fn := fun _ => fun
  | [d1, d2] => { results := [.lit (.bool false)], args := [d1, d2] }
  | _ => none }
def FnExactPlaceNumberWrongFalsely : Prop := fnExactPlaceNumberRow.holds Try.pinned (OpenSpec.ofChange fnExactPlaceNumberWrong)

/-- 'laws.FnExactTileOf': WHATEVER THE INPUT: true; the input reads as it did. -/
def fnExactTileOfSpec : ChangeSpec := { name := "fnExactTileOf", fn := fun _ => fun
  | [d] => { results := [.lit (.bool true)], args := [d] }
  | _ => none }
def fnExactTileOfRow : OpenClaim := { program := "ytjinfbpkikkcmab", sum := "ae3726ba70255de8b16023d1ac6a11c53ef200e504549a3bf07aa05338f934c0", func := "loop.example/g01213/laws.FnExactTileOf", spec := "fnExactTileOf", unfollowed := true, recurses := true, plainKeys := false, apart := false }
def FnExactTileOfSaid : Prop := fnExactTileOfRow.holds Try.pinned (OpenSpec.ofChange fnExactTileOfSpec)

/-- ITS FALSE NEIGHBOUR: 'it returns false'. Refute it at one input. -/
def fnExactTileOfWrong : ChangeSpec := { name := "fnExactTileOf", fn := fun _ => fun
  | [d] => { results := [.lit (.bool false)], args := [d] }
  | _ => none }
def FnExactTileOfWrongFalsely : Prop := fnExactTileOfRow.holds Try.pinned (OpenSpec.ofChange fnExactTileOfWrong)

/-- 'laws.FnExactLevelOf': WHATEVER THE INPUT: true; the input reads as it did. -/
def fnExactLevelOfSpec : ChangeSpec := { name := "fnExactLevelOf", fn := fun _ => fun
  | [d] => { results := [.lit (.bool true)], args := [d] }
  | _ => none }
def fnExactLevelOfRow : OpenClaim := { program := "ytjinfbpkikkcmab", sum := "ae3726ba70255de8b16023d1ac6a11c53ef200e504549a3bf07aa05338f934c0", func := "loop.example/g01213/laws.FnExactLevelOf", spec := "fnExactLevelOf", plainKeys := false, apart := false }
def FnExactLevelOfSaid : Prop := fnExactLevelOfRow.holds Try.pinned (OpenSpec.ofChange fnExactLevelOfSpec)

/-- ITS FALSE NEIGHBOUR: 'it returns false'. Refute it at one input. -/
def fnExactLevelOfWrong : ChangeSpec := { name := "fnExactLevelOf", fn := fun _ => fun
  | [d] => { results := [.lit (.bool false)], args := [d] }
  | _ => none }
def FnExactLevelOfWrongFalsely : Prop := fnExactLevelOfRow.holds Try.pinned (OpenSpec.ofChange fnExactLevelOfWrong)

/-- 'laws.FnExactTurnTile': WHATEVER THE INPUT: true; the input reads as it did. -/
def fnExactTurnTileSpec : ChangeSpec := { name := "fnExactTurnTile", fn := fun _ => fun
  | [d] => { results := [.lit (.bool true)], args := [d] }
  | _ => none }
def fnExactTurnTileRow : OpenClaim := { program := "ytjinfbpkikkcmab", sum := "ae3726ba70255de8b16023d1ac6a11c53ef200e504549a3bf07aa05338f934c0", func := "loop.example/g01213/laws.FnExactTurnTile", spec := "fnExactTurnTile", unfollowed := true, recurses := true, plainKeys := false, apart := false }
def FnExactTurnTileSaid : Prop := fnExactTurnTileRow.holds Try.pinned (OpenSpec.ofChange fnExactTurnTileSpec)

/-- ITS FALSE NEIGHBOUR: 'it returns false'. Refute it at one input. -/
def fnExactTurnTileWrong : ChangeSpec := { name := "fnExactTurnTile", fn := fun _ => fun
  | [d] => { results := [.lit (.bool false)], args := [d] }
  | _ => none }
def FnExactTurnTileWrongFalsely : Prop := fnExactTurnTileRow.holds Try.pinned (OpenSpec.ofChange fnExactTurnTileWrong)

/-- 'laws.FnExactOverTiles': WHATEVER THE INPUT: true; the input reads as it did. -/
def fnExactOverTilesSpec : ChangeSpec := { name := "fnExactOverTiles", fn := fun _ => fun
  | [d1, d2] => { results := [.lit (.bool true)], args := [d1, d2] }
  | _ => none }
def fnExactOverTilesRow : OpenClaim := { program := "ytjinfbpkikkcmab", sum := "ae3726ba70255de8b16023d1ac6a11c53ef200e504549a3bf07aa05338f934c0", func := "loop.example/g01213/laws.FnExactOverTiles", spec := "fnExactOverTiles", unfollowed := true, recurses := true, plainKeys := false, apart := false }
def FnExactOverTilesSaid : Prop := fnExactOverTilesRow.holds Try.pinned (OpenSpec.ofChange fnExactOverTilesSpec)

/-- ITS FALSE NEIGHBOUR: 'it returns false'. Refute it at one input. -/
def fnExactOverTilesWrong : ChangeSpec := { name := "fnExactOverTiles", fn := fun _ => fun
  | [d1, d2] => { results := [.lit (.bool false)], args := [d1, d2] }
  | _ => none }
def FnExactOverTilesWrongFalsely : Prop := fnExactOverTilesRow.holds Try.pinned (OpenSpec.ofChange fnExactOverTilesWrong)

/-- 'laws.FnExactCoverSeen': WHATEVER THE INPUT: true; the input reads as it did. -/
def fnExactCoverSeenSpec : ChangeSpec := { name := "fnExactCoverSeen", fn := fun _ => fun
  | [d1, d2, d3] => { results := [.lit (.bool true)], args := [d1, d2, d3] }
  | _ => none }
def fnExactCoverSeenRow : OpenClaim := { program := "ytjinfbpkikkcmab", sum := "ae3726ba70255de8b16023d1ac6a11c53ef200e504549a3bf07aa05338f934c0", func := "loop.example/g01213/laws.FnExactCoverSeen", spec := "fnExactCoverSeen", plainKeys := false, apart := false }
def FnExactCoverSeenSaid : Prop := fnExactCoverSeenRow.holds Try.pinned (OpenSpec.ofChange fnExactCoverSeenSpec)

/-- ITS FALSE NEIGHBOUR: 'it returns false'. Refute it at one input. -/
def fnExactCoverSeenWrong : ChangeSpec := { name := "fnExactCoverSeen", fn := fun _ => fun
  | [d1, d2, d3] => { results := [.lit (.bool false)], args := [d1, d2, d3] }
  | _ => none }
def FnExactCoverSeenWrongFalsely : Prop := fnExactCoverSeenRow.holds Try.pinned (OpenSpec.ofChange fnExactCoverSeenWrong)

/-- 'laws.FnExactTilesOf': WHATEVER THE INPUT: true; the input reads as it did. -/
def fnExactTilesOfSpec : ChangeSpec := { name := "fnExactTilesOf", fn := fun _ => fun
  | [d] => { results := [.lit (.bool true)], args := [d] }
  | _ => none }
def fnExactTilesOfRow : OpenClaim := { program := "ytjinfbpkikkcmab", sum := "ae3726ba70255de8b16023d1ac6a11c53ef200e504549a3bf07aa05338f934c0", func := "loop.example/g01213/laws.FnExactTilesOf", spec := "fnExactTilesOf", inPlace := ["math.RoundToEven"], unfollowed := true, recurses := true, plainKeys := false, apart := false }
def FnExactTilesOfSaid : Prop := fnExactTilesOfRow.holds Try.pinned (OpenSpec.ofChange fnExactTilesOfSpec)

/-- ITS FALSE NEIGHBOUR: 'it returns false'. Refute it at one input. -/
def fnExactTilesOfWrong : ChangeSpec := { name := "fnExactTilesOf", fn := fun _ => fun
  | [d] => { results := [.lit (.bool false)], args := [d] }
  | _ => none }
def FnExactTilesOfWrongFalsely : Prop := fnExactTilesOfRow.holds Try.pinned (OpenSpec.ofChange fnExactTilesOfWrong)

/-- 'laws.FnExactTileCurve': WHATEVER THE INPUT: true; the input reads as it did. -/
def fnExactTileCurveSpec : ChangeSpec := { name := "fnExactTileCurve", fn := fun _ => fun
  | [d1, d2] => { results := [.lit (.bool true)], args := [d1, d2] }
  | _ => none }
def fnExactTileCurveRow : OpenClaim := { program := "ytjinfbpkikkcmab", sum := "ae3726ba70255de8b16023d1ac6a11c53ef200e504549a3bf07aa05338f934c0", func := "loop.example/g01213/laws.FnExactTileCurve", spec := "fnExactTileCurve", plainKeys := false, apart := false }
def FnExactTileCurveSaid : Prop := fnExactTileCurveRow.holds Try.pinned (OpenSpec.ofChange fnExactTileCurveSpec)

/-- ITS FALSE NEIGHBOUR: 'it returns false'. Refute it at one input. -/
def fnExactTileCurveWrong : ChangeSpec := { name := "fnExactTileCurve", fn := fun _ => fun
  | [d1, d2] => { results := [.lit (.bool false)], args := [d1, d2] }
  | _ => none }
def FnExactTileCurveWrongFalsely : Prop := fnExactTileCurveRow.holds Try.pinned (OpenSpec.ofChange fnExactTileCurveWrong)

/-- 'laws.FnExactPrintedCurve': WHATEVER THE INPUT: true; the input reads as it did. -/
def fnExactPrintedCurveSpec : ChangeSpec := { name := "fnExactPrintedCurve", fn := fun _ => fun
  | [d1, d2] => { results := [.lit (.bool true)], args := [d1, d2] }
  | _ => none }
def fnExactPrintedCurveRow : OpenClaim := { program := "ytjinfbpkikkcmab", sum := "ae3726ba70255de8b16023d1ac6a11c53ef200e504549a3bf07aa05338f934c0", func := "loop.example/g01213/laws.FnExactPrintedCurve", spec := "fnExactPrintedCurve", inPlace := ["math.sqrt"], unfollowed := true, recurses := true, plainKeys := false, apart := false }
def FnExactPrintedCurveSaid : Prop := fnExactPrintedCurveRow.holds Try.pinned (OpenSpec.ofChange fnExactPrintedCurveSpec)

/-- ITS FALSE NEIGHBOUR: 'it returns false'. Refute it at one input. -/
def fnExactPrintedCurveWrong : ChangeSpec := { name := "fnExactPrintedCurve", fn := fun _ => fun
  | [d1, d2] => { results := [.lit (.bool false)], args := [d1, d2] }
  | _ => none }
def FnExactPrintedCurveWrongFalsely : Prop := fnExactPrintedCurveRow.holds Try.pinned (OpenSpec.ofChange fnExactPrintedCurveWrong)

/-- 'laws.FnExactPrintedLook': WHATEVER THE INPUT: true; the input reads as it did. -/
def fnExactPrintedLookSpec : ChangeSpec := { name := "fnExactPrintedLook", fn := fun _ => fun
  | [d1, d2, d3] => { results := [.lit (.bool true)], args := [d1, d2, d3] }
  | _ => none }
def fnExactPrintedLookRow : OpenClaim := { program := "ytjinfbpkikkcmab", sum := "ae3726ba70255de8b16023d1ac6a11c53ef200e504549a3bf07aa05338f934c0", func := "loop.example/g01213/laws.FnExactPrintedLook", spec := "fnExactPrintedLook", inPlace := ["math.sqrt", "math.Float64bits", "math.Float64frombits"], unfollowed := true, recurses := true, plainKeys := false, apart := false }
def FnExactPrintedLookSaid : Prop := fnExactPrintedLookRow.holds Try.pinned (OpenSpec.ofChange fnExactPrintedLookSpec)

/-- ITS FALSE NEIGHBOUR: 'it returns false'. Refute it at one input. -/
def fnExactPrintedLookWrong : ChangeSpec := { name := "fnExactPrintedLook", fn := fun _ => fun
  | [d1, d2, d3] => { results := [.lit (.bool false)], args := [d1, d2, d3] }
  | _ => none }
def FnExactPrintedLookWrongFalsely : Prop := fnExactPrintedLookRow.holds Try.pinned (OpenSpec.ofChange fnExactPrintedLookWrong)

/-- 'laws.FnExactLeastOf': WHATEVER THE INPUT: true; the input reads as it did. -/
def fnExactLeastOfSpec : ChangeSpec := { name := "fnExactLeastOf", fn := fun _ => fun
  | [d] => { results := [.lit (.bool true)], args := [d] }
  | _ => none }
def fnExactLeastOfRow : OpenClaim := { program := "ytjinfbpkikkcmab", sum := "ae3726ba70255de8b16023d1ac6a11c53ef200e504549a3bf07aa05338f934c0", func := "loop.example/g01213/laws.FnExactLeastOf", spec := "fnExactLeastOf", inPlace := ["math.Float64frombits"], unfollowed := true, recurses := true, plainKeys := false, apart := false }
def FnExactLeastOfSaid : Prop := fnExactLeastOfRow.holds Try.pinned (OpenSpec.ofChange fnExactLeastOfSpec)

/-- ITS FALSE NEIGHBOUR: 'it returns false'. Refute it at one input. -/
def fnExactLeastOfWrong : ChangeSpec := { name := "fnExactLeastOf", fn := fun _ => fun
  | [d] => { results := [.lit (.bool false)], args := [d] }
  | _ => none }
def FnExactLeastOfWrongFalsely : Prop := fnExactLeastOfRow.holds Try.pinned (OpenSpec.ofChange fnExactLeastOfWrong)

/- THE SECOND FORM. 'bulk': how many values and letters a reading holds, each counted each time it is reached (what is shared counts as often as it is met; a slice's spare places count too). A statement '..UptoSaid' is the law's where the arguments, and the package variables that the reading takes, are together of bulk at most 1048576: NARROWER than '..Said'. Prove '..Said' where nothing that the law and all that it calls make is longer than what came in: it says more and counts as full. Else prove '..UptoSaid'. A law counts once. -/
mutual
def uptoBulk {H : Type} : DataW H → Nat
  | .lit (.string bytes) => bytes.length + 1
  | .lit _ => 1
  | .nil => 1
  | .ptr d => uptoBulk d + 1
  | .slice elems spare => uptoBulkAll elems + uptoBulkAll spare + 1
  | .agg parts => uptoBulkAll parts + 1
  | .iface _ d => uptoBulk d + 1
  | .map entries => uptoBulkEntries entries + 1
  | .held _ => 1
def uptoBulkAll {H : Type} : List (DataW H) → Nat
  | [] => 0
  | d :: r => uptoBulk d + uptoBulkAll r
def uptoBulkEntries {H : Type} : List (Lit × DataW H) → Nat
  | [] => 0
  | x :: r => uptoBulkEntry x + uptoBulkEntries r
def uptoBulkEntry {H : Type} : Lit × DataW H → Nat
  | (.string bytes, d) => bytes.length + uptoBulk d + 1
  | (_, d) => uptoBulk d + 1
 end
def uptoSmall : (H : Type) → List (DataW H) → Bool := fun _ ds => decide (uptoBulkAll ds ≤ 1048576)
def OpenSpec.upto (s : _root_.Go.ChangeSpec) : _root_.Go.OpenSpec := { _root_.Go.OpenSpec.ofChange s with cond := some uptoSmall }

/-- 'laws.FnExactSamePress', WHERE WHAT IT READS IS OF BULK AT MOST 1048576: true; the input reads as it did. -/
def fnExactSamePressUptoRow : OpenClaim := { program := "ytjinfbpkikkcmab", sum := "ae3726ba70255de8b16023d1ac6a11c53ef200e504549a3bf07aa05338f934c0", func := "loop.example/g01213/laws.FnExactSamePress", spec := "fnExactSamePress", inPlace := ["math.Float32bits"], plainKeys := false, apart := false, narrowed := true }
def FnExactSamePressUptoSaid : Prop := fnExactSamePressUptoRow.holds Try.pinned (OpenSpec.upto fnExactSamePressSpec)

/-- 'laws.FnExactPlaceNumber', WHERE WHAT IT READS IS OF BULK AT MOST 1048576: true; the input reads as it did. -/
def fnExactPlaceNumberUptoRow : OpenClaim := { program := "ytjinfbpkikkcmab", sum := "ae3726ba70255de8b16023d1ac6a11c53ef200e504549a3bf07aa05338f934c0", func := "loop.example/g01213/laws.FnExactPlaceNumber", spec := "fnExactPlaceNumber", plainKeys := false, apart := false, narrowed := true }
def FnExactPlaceNumberUptoSaid : Prop := fnExactPlaceNumberUptoRow.holds Try.pinned (OpenSpec.upto fnExactPlaceNumberSpec)

/-- 'laws.FnExactTileOf', WHERE WHAT IT READS IS OF BULK AT MOST 1048576: true; the input reads as it did. -/
def fnExactTileOfUptoRow : OpenClaim := { program := "ytjinfbpkikkcmab", sum := "ae3726ba70255de8b16023d1ac6a11c53ef200e504549a3bf07aa05338f934c0", func := "loop.example/g01213/laws.FnExactTileOf", spec := "fnExactTileOf", unfollowed := true, recurses := true, plainKeys := false, apart := false, narrowed := true }
def FnExactTileOfUptoSaid : Prop := fnExactTileOfUptoRow.holds Try.pinned (OpenSpec.upto fnExactTileOfSpec)

/-- 'laws.FnExactLevelOf', WHERE WHAT IT READS IS OF BULK AT MOST 1048576: true; the input reads as it did. -/
def fnExactLevelOfUptoRow : OpenClaim := { program := "ytjinfbpkikkcmab", sum := "ae3726ba70255de8b16023d1ac6a11c53ef200e504549a3bf07aa05338f934c0", func := "loop.example/g01213/laws.FnExactLevelOf", spec := "fnExactLevelOf", plainKeys := false, apart := false, narrowed := true }
def FnExactLevelOfUptoSaid : Prop := fnExactLevelOfUptoRow.holds Try.pinned (OpenSpec.upto fnExactLevelOfSpec)

/-- 'laws.FnExactTurnTile', WHERE WHAT IT READS IS OF BULK AT MOST 1048576: true; the input reads as it did. -/
def fnExactTurnTileUptoRow : OpenClaim := { program := "ytjinfbpkikkcmab", sum := "ae3726ba70255de8b16023d1ac6a11c53ef200e504549a3bf07aa05338f934c0", func := "loop.example/g01213/laws.FnExactTurnTile", spec := "fnExactTurnTile", unfollowed := true, recurses := true, plainKeys := false, apart := false, narrowed := true }
def FnExactTurnTileUptoSaid : Prop := fnExactTurnTileUptoRow.holds Try.pinned (OpenSpec.upto fnExactTurnTileSpec)

/-- 'laws.FnExactOverTiles', WHERE WHAT IT READS IS OF BULK AT MOST 1048576: true; the input reads as it did. -/
def fnExactOverTilesUptoRow : OpenClaim := { program := "ytjinfbpkikkcmab", sum := "ae3726ba70255de8b16023d1ac6a11c53ef200e504549a3bf07aa05338f934c0", func := "loop.example/g01213/laws.FnExactOverTiles", spec := "fnExactOverTiles", unfollowed := true, recurses := true, plainKeys := false, apart := false, narrowed := true }
def FnExactOverTilesUptoSaid : Prop := fnExactOverTilesUptoRow.holds Try.pinned (OpenSpec.upto fnExactOverTilesSpec)

/-- 'laws.FnExactCoverSeen', WHERE WHAT IT READS IS OF BULK AT MOST 1048576: true; the input reads as it did. -/
def fnExactCoverSeenUptoRow : OpenClaim := { program := "ytjinfbpkikkcmab", sum := "ae3726ba70255de8b16023d1ac6a11c53ef200e504549a3bf07aa05338f934c0", func := "loop.example/g01213/laws.FnExactCoverSeen", spec := "fnExactCoverSeen", plainKeys := false, apart := false, narrowed := true }
def FnExactCoverSeenUptoSaid : Prop := fnExactCoverSeenUptoRow.holds Try.pinned (OpenSpec.upto fnExactCoverSeenSpec)

/-- 'laws.FnExactTilesOf', WHERE WHAT IT READS IS OF BULK AT MOST 1048576: true; the input reads as it did. -/
def fnExactTilesOfUptoRow : OpenClaim := { program := "ytjinfbpkikkcmab", sum := "ae3726ba70255de8b16023d1ac6a11c53ef200e504549a3bf07aa05338f934c0", func := "loop.example/g01213/laws.FnExactTilesOf", spec := "fnExactTilesOf", inPlace := ["math.RoundToEven"], unfollowed := true, recurses := true, plainKeys := false, apart := false, narrowed := true }
def FnExactTilesOfUptoSaid : Prop := fnExactTilesOfUptoRow.holds Try.pinned (OpenSpec.upto fnExactTilesOfSpec)

/-- 'laws.FnExactTileCurve', WHERE WHAT IT READS IS OF BULK AT MOST 1048576: true; the input reads as it did. -/
def fnExactTileCurveUptoRow : OpenClaim := { program := "ytjinfbpkikkcmab", sum := "ae3726ba70255de8b16023d1ac6a11c53ef200e504549a3bf07aa05338f934c0", func := "loop.example/g01213/laws.FnExactTileCurve", spec := "fnExactTileCurve", plainKeys := false, apart := false, narrowed := true }
def FnExactTileCurveUptoSaid : Prop := fnExactTileCurveUptoRow.holds Try.pinned (OpenSpec.upto fnExactTileCurveSpec)

/-- 'laws.FnExactPrintedCurve', WHERE WHAT IT READS IS OF BULK AT MOST 1048576: true; the input reads as it did. -/
def fnExactPrintedCurveUptoRow : OpenClaim := { program := "ytjinfbpkikkcmab", sum := "ae3726ba70255de8b16023d1ac6a11c53ef200e504549a3bf07aa05338f934c0", func := "loop.example/g01213/laws.FnExactPrintedCurve", spec := "fnExactPrintedCurve", inPlace := ["math.sqrt"], unfollowed := true, recurses := true, plainKeys := false, apart := false, narrowed := true }
def FnExactPrintedCurveUptoSaid : Prop := fnExactPrintedCurveUptoRow.holds Try.pinned (OpenSpec.upto fnExactPrintedCurveSpec)

/-- 'laws.FnExactPrintedLook', WHERE WHAT IT READS IS OF BULK AT MOST 1048576: true; the input reads as it did. -/
def fnExactPrintedLookUptoRow : OpenClaim := { program := "ytjinfbpkikkcmab", sum := "ae3726ba70255de8b16023d1ac6a11c53ef200e504549a3bf07aa05338f934c0", func := "loop.example/g01213/laws.FnExactPrintedLook", spec := "fnExactPrintedLook", inPlace := ["math.sqrt", "math.Float64bits", "math.Float64frombits"], unfollowed := true, recurses := true, plainKeys := false, apart := false, narrowed := true }
def FnExactPrintedLookUptoSaid : Prop := fnExactPrintedLookUptoRow.holds Try.pinned (OpenSpec.upto fnExactPrintedLookSpec)

/-- 'laws.FnExactLeastOf', WHERE WHAT IT READS IS OF BULK AT MOST 1048576: true; the input reads as it did. -/
def fnExactLeastOfUptoRow : OpenClaim := { program := "ytjinfbpkikkcmab", sum := "ae3726ba70255de8b16023d1ac6a11c53ef200e504549a3bf07aa05338f934c0", func := "loop.example/g01213/laws.FnExactLeastOf", spec := "fnExactLeastOf", inPlace := ["math.Float64frombits"], unfollowed := true, recurses := true, plainKeys := false, apart := false, narrowed := true }
def FnExactLeastOfUptoSaid : Prop := fnExactLeastOfUptoRow.holds Try.pinned (OpenSpec.upto fnExactLeastOfSpec)

end Rows
end Go.Proofs.Ytjinfbpkikkcmab
