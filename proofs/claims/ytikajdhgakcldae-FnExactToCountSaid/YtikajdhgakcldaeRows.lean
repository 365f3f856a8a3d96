/-
  No cell of these rows narrows 'for every input' (looked for: loops, veiled, ifaces, maps, wideKeys, modest, calm, conditions, laid).
  DERIVED. THE GIVEN ROWS OF THIS SEAT. 12 by the template 'for every input the law returns true; each argument reads behind the call as it read before'; 0 by the template 'total and deterministic' (their statements: YtikajdhgakcldaeTotals.lean).
  GIVEN WITH THE SEED: the statements are not yours to turn. If you find one false, say at which input.
  Laid BY PROGRAM, IN A SANDBOX (cutbox-rows.mjs): the forced cells as the released guide's own fill.sh prints them over the translation 611db155face5a8b… (all of the seat's roots in one cut). By AI agents, Wed Nov 11 2026. No macro, syntax, notation, axiom, sorry.
-/
import Derived.Test.YtikajdhgakcldaeChecked
import GoSem.Claim
import GoSem.ClaimJoined
import GoSem.ClaimMapViews
import Derived.JoinedTies
import Derived.KernelRfl
namespace Go.Proofs.Ytikajdhgakcldae
/- THE CELL 'sum', in the pinned program and in every row, IS THE sha256 OF THE DUMP (.gsa) THAT YtikajdhgakcldaeProg.lean LOADS. Nothing in Lean hashes anything: it is a label: what it is worth is what the hold of that sum in a sandbox is worth. -/
noncomputable def Try.pinned : Pinned := { name := "ytikajdhgakcldae", sum := "611db155face5a8bbf7528cbf4da3f8cb31167e454647f394cd1ebac3b317eb1", checked := Try.checked }
namespace Rows
def none {H : Type} : Left H := { results := [], args := [] }

/-- 'laws.FnExactCoverWithGain': WHATEVER THE INPUT: true; the input reads as it did. -/
def fnExactCoverWithGainSpec : ChangeSpec := { name := "fnExactCoverWithGain", fn := fun _ => fun
  | [d1, d2] => { results := [.lit (.bool true)], args := [d1, d2] }
  | _ => none }
def fnExactCoverWithGainRow : OpenClaim := { program := "ytikajdhgakcldae", sum := "611db155face5a8bbf7528cbf4da3f8cb31167e454647f394cd1ebac3b317eb1", func := "loop.example/g01213/laws.FnExactCoverWithGain", spec := "fnExactCoverWithGain", apart := false }
def FnExactCoverWithGainSaid : Prop := fnExactCoverWithGainRow.holds Try.pinned (OpenSpec.ofChange fnExactCoverWithGainSpec)

/-- ITS FALSE NEIGHBOUR: 'it returns false'. Refute it at one input. -/
def fnExactCoverWithGainWrong : ChangeSpec := { name := "fnExactCoverWithGain", fn := fun _ => fun
  | [d1, d2] => { results := [.lit (.bool false)], args := [d1, d2] }
  | _ => none }
def FnExactCoverWithGainWrongFalsely : Prop := fnExactCoverWithGainRow.holds Try.pinned (OpenSpec.ofChange fnExactCoverWithGainWrong)

/-- 'laws.FnExactAreasOf': WHATEVER THE INPUT: true; the input reads as it did. -/
def fnExactAreasOfSpec : ChangeSpec := { name := "fnExactAreasOf", fn := fun _ => fun
  | [d] => { results := [.lit (.bool true)], args := [d] }
  | _ => none }
def fnExactAreasOfRow : OpenClaim := { program := "ytikajdhgakcldae", sum := "611db155face5a8bbf7528cbf4da3f8cb31167e454647f394cd1ebac3b317eb1", func := "loop.example/g01213/laws.FnExactAreasOf", spec := "fnExactAreasOf", apart := false }
def FnExactAreasOfSaid : Prop := fnExactAreasOfRow.holds Try.pinned (OpenSpec.ofChange fnExactAreasOfSpec)

/-- ITS FALSE NEIGHBOUR: 'it returns false'. Refute it at one input. -/
def fnExactAreasOfWrong : ChangeSpec := { name := "fnExactAreasOf", fn := fun _ => fun
  | [d] => { results := [.lit (.bool false)], args := [d] }
  | _ => none }
def FnExactAreasOfWrongFalsely : Prop := fnExactAreasOfRow.holds Try.pinned (OpenSpec.ofChange fnExactAreasOfWrong)

/-- 'laws.FnExactInkIn': WHATEVER THE INPUT: true; the input reads as it did. -/
def fnExactInkInSpec : ChangeSpec := { name := "fnExactInkIn", fn := fun _ => fun
  | [d] => { results := [.lit (.bool true)], args := [d] }
  | _ => none }
def fnExactInkInRow : OpenClaim := { program := "ytikajdhgakcldae", sum := "611db155face5a8bbf7528cbf4da3f8cb31167e454647f394cd1ebac3b317eb1", func := "loop.example/g01213/laws.FnExactInkIn", spec := "fnExactInkIn", apart := false }
def FnExactInkInSaid : Prop := fnExactInkInRow.holds Try.pinned (OpenSpec.ofChange fnExactInkInSpec)

/-- ITS FALSE NEIGHBOUR: 'it returns false'. Refute it at one input. -/
def fnExactInkInWrong : ChangeSpec := { name := "fnExactInkIn", fn := fun _ => fun
  | [d] => { results := [.lit (.bool false)], args := [d] }
  | _ => none }
def FnExactInkInWrongFalsely : Prop := fnExactInkInRow.holds Try.pinned (OpenSpec.ofChange fnExactInkInWrong)

/-- 'laws.FnExactLimitInk': WHATEVER THE INPUT: true; the input reads as it did. -/
def fnExactLimitInkSpec : ChangeSpec := { name := "fnExactLimitInk", fn := fun _ => fun
  | [d1, d2] => { results := [.lit (.bool true)], args := [d1, d2] }
  | _ => none }
def fnExactLimitInkRow : OpenClaim := { program := "ytikajdhgakcldae", sum := "611db155face5a8bbf7528cbf4da3f8cb31167e454647f394cd1ebac3b317eb1", func := "loop.example/g01213/laws.FnExactLimitInk", spec := "fnExactLimitInk", apart := false }
def FnExactLimitInkSaid : Prop := fnExactLimitInkRow.holds Try.pinned (OpenSpec.ofChange fnExactLimitInkSpec)

/-- ITS FALSE NEIGHBOUR: 'it returns false'. Refute it at one input. -/
def fnExactLimitInkWrong : ChangeSpec := { name := "fnExactLimitInk", fn := fun _ => fun
  | [d1, d2] => { results := [.lit (.bool false)], args := [d1, d2] }
  | _ => none }
def FnExactLimitInkWrongFalsely : Prop := fnExactLimitInkRow.holds Try.pinned (OpenSpec.ofChange fnExactLimitInkWrong)

/-- 'laws.FnExactPutBlackUnder': WHATEVER THE INPUT: true; the input reads as it did. -/
def fnExactPutBlackUnderSpec : ChangeSpec := { name := "fnExactPutBlackUnder", fn := fun _ => fun
  | [d1, d2] => { results := [.lit (.bool true)], args := [d1, d2] }
  | _ => none }
def fnExactPutBlackUnderRow : OpenClaim := { program := "ytikajdhgakcldae", sum := "611db155face5a8bbf7528cbf4da3f8cb31167e454647f394cd1ebac3b317eb1", func := "loop.example/g01213/laws.FnExactPutBlackUnder", spec := "fnExactPutBlackUnder", apart := false }
def FnExactPutBlackUnderSaid : Prop := fnExactPutBlackUnderRow.holds Try.pinned (OpenSpec.ofChange fnExactPutBlackUnderSpec)

/-- ITS FALSE NEIGHBOUR: 'it returns false'. Refute it at one input. -/
def fnExactPutBlackUnderWrong : ChangeSpec := { name := "fnExactPutBlackUnder", fn := fun _ => fun
  | [d1, d2] => { results := [.lit (.bool false)], args := [d1, d2] }
  | _ => none }
def FnExactPutBlackUnderWrongFalsely : Prop := fnExactPutBlackUnderRow.holds Try.pinned (OpenSpec.ofChange fnExactPutBlackUnderWrong)

/-- 'laws.FnExactCoverBefore': WHATEVER THE INPUT: true; the input reads as it did. -/
def fnExactCoverBeforeSpec : ChangeSpec := { name := "fnExactCoverBefore", fn := fun _ => fun
  | [d1, d2] => { results := [.lit (.bool true)], args := [d1, d2] }
  | _ => none }
def fnExactCoverBeforeRow : OpenClaim := { program := "ytikajdhgakcldae", sum := "611db155face5a8bbf7528cbf4da3f8cb31167e454647f394cd1ebac3b317eb1", func := "loop.example/g01213/laws.FnExactCoverBefore", spec := "fnExactCoverBefore", unfollowed := true, recurses := true, apart := false }
def FnExactCoverBeforeSaid : Prop := fnExactCoverBeforeRow.holds Try.pinned (OpenSpec.ofChange fnExactCoverBeforeSpec)

/-- ITS FALSE NEIGHBOUR: 'it returns false'. Refute it at one input. -/
def fnExactCoverBeforeWrong : ChangeSpec := { name := "fnExactCoverBefore", fn := fun _ => fun
  | [d1, d2] => { results := [.lit (.bool false)], args := [d1, d2] }
  | _ => none }
def FnExactCoverBeforeWrongFalsely : Prop := fnExactCoverBeforeRow.holds Try.pinned (OpenSpec.ofChange fnExactCoverBeforeWrong)

/-- 'laws.FnExactPlaceNumber': WHATEVER THE INPUT: true; the input reads as it did. -/
def fnExactPlaceNumberSpec : ChangeSpec := { name := "fnExactPlaceNumber", fn := fun _ => fun
  | [d1, d2] => { results := [.lit (.bool true)], args := [d1, d2] }
  | _ => none }
def fnExactPlaceNumberRow : OpenClaim := { program := "ytikajdhgakcldae", sum := "611db155face5a8bbf7528cbf4da3f8cb31167e454647f394cd1ebac3b317eb1", func := "loop.example/g01213/laws.FnExactPlaceNumber", spec := "fnExactPlaceNumber", apart := false }
def FnExactPlaceNumberSaid : Prop := fnExactPlaceNumberRow.holds Try.pinned (OpenSpec.ofChange fnExactPlaceNumberSpec)

/-- ITS FALSE NEIGHBOUR: 'it returns false'. Refute it at one input. -/
def fnExactPlaceNumberWrong : ChangeSpec := { name := "fnExactPlaceNumber", fn := fun _ => fun
  | [d1, d2] => { results := [.lit (.bool false)], args := [d1, d2] }
  | _ => none }
def FnExactPlaceNumberWrongFalsely : Prop := fnExactPlaceNumberRow.holds Try.pinned (OpenSpec.ofChange fnExactPlaceNumberWrong)

/-- 'laws.FnExactTileOf': WHATEVER THE INPUT: true; the input reads as it did. -/
def fnExactTileOfSpec : ChangeSpec := { name := "fnExactTileOf", fn := fun _ => fun
  | [d] => { results := [.lit (.bool true)], args := [d] }
  | _ => none }
def fnExactTileOfRow : OpenClaim := { program := "ytikajdhgakcldae", sum := "611db155face5a8bbf7528cbf4da3f8cb31167e454647f394cd1ebac3b317eb1", func := "loop.example/g01213/laws.FnExactTileOf", spec := "fnExactTileOf", unfollowed := true, recurses := true, apart := false }
def FnExactTileOfSaid : Prop := fnExactTileOfRow.holds Try.pinned (OpenSpec.ofChange fnExactTileOfSpec)

/-- ITS FALSE NEIGHBOUR: 'it returns false'. Refute it at one input. -/
def fnExactTileOfWrong : ChangeSpec := { name := "fnExactTileOf", fn := fun _ => fun
  | [d] => { results := [.lit (.bool false)], args := [d] }
  | _ => none }
def FnExactTileOfWrongFalsely : Prop := fnExactTileOfRow.holds Try.pinned (OpenSpec.ofChange fnExactTileOfWrong)

/-- 'laws.FnExactLevelOf': WHATEVER THE INPUT: true; the input reads as it did. -/
def fnExactLevelOfSpec : ChangeSpec := { name := "fnExactLevelOf", fn := fun _ => fun
  | [d] => { results := [.lit (.bool true)], args := [d] }
  | _ => none }
def fnExactLevelOfRow : OpenClaim := { program := "ytikajdhgakcldae", sum := "611db155face5a8bbf7528cbf4da3f8cb31167e454647f394cd1ebac3b317eb1", func := "loop.example/g01213/laws.FnExactLevelOf", spec := "fnExactLevelOf", apart := false }
def FnExactLevelOfSaid : Prop := fnExactLevelOfRow.holds Try.pinned (OpenSpec.ofChange fnExactLevelOfSpec)

/-- ITS FALSE NEIGHBOUR: 'it returns false'. Refute it at one input. -/
def fnExactLevelOfWrong : ChangeSpec := { name := "fnExactLevelOf", fn := fun _ => fun
  | [d] => { results := [.lit (.bool false)], args := [d] }
  | _ => none }
def FnExactLevelOfWrongFalsely : Prop := fnExactLevelOfRow.holds Try.pinned (OpenSpec.ofChange fnExactLevelOfWrong)

/-- 'laws.FnExactTurnTile': WHATEVER THE INPUT: true; the input reads as it did. -/
def fnExactTurnTileSpec : ChangeSpec := { name := "fnExactTurnTile", fn := fun _ => fun
  | [d] => { results := [.lit (.bool true)], args := [d] }
  | _ => none }
def fnExactTurnTileRow : OpenClaim := { program := "ytikajdhgakcldae", sum := "611db155face5a8bbf7528cbf4da3f8cb31167e454647f394cd1ebac3b317eb1", func := "loop.example/g01213/laws.FnExactTurnTile", spec := "fnExactTurnTile", unfollowed := true, recurses := true, apart := false }
def FnExactTurnTileSaid : Prop := fnExactTurnTileRow.holds Try.pinned (OpenSpec.ofChange fnExactTurnTileSpec)

/-- ITS FALSE NEIGHBOUR: 'it returns false'. Refute it at one input. -/
def fnExactTurnTileWrong : ChangeSpec := { name := "fnExactTurnTile", fn := fun _ => fun
  | [d] => { results := [.lit (.bool false)], args := [d] }
  | _ => none }
def FnExactTurnTileWrongFalsely : Prop := fnExactTurnTileRow.holds Try.pinned (OpenSpec.ofChange fnExactTurnTileWrong)

/-- 'laws.FnExactOverTiles': WHATEVER THE INPUT: true; the input reads as it did. -/
def fnExactOverTilesSpec : ChangeSpec := { name := "fnExactOverTiles", fn := fun _ => fun
  | [d1, d2] => { results := [.lit (.bool true)], args := [d1, d2] }
  | _ => none }
def fnExactOverTilesRow : OpenClaim := { program := "ytikajdhgakcldae", sum := "611db155face5a8bbf7528cbf4da3f8cb31167e454647f394cd1ebac3b317eb1", func := "loop.example/g01213/laws.FnExactOverTiles", spec := "fnExactOverTiles", unfollowed := true, recurses := true, apart := false }
def FnExactOverTilesSaid : Prop := fnExactOverTilesRow.holds Try.pinned (OpenSpec.ofChange fnExactOverTilesSpec)

/-- ITS FALSE NEIGHBOUR: 'it returns false'. Refute it at one input. -/
def fnExactOverTilesWrong : ChangeSpec := { name := "fnExactOverTiles", fn := fun _ => fun
  | [d1, d2] => { results := [.lit (.bool false)], args := [d1, d2] }
  | _ => none }
def FnExactOverTilesWrongFalsely : Prop := fnExactOverTilesRow.holds Try.pinned (OpenSpec.ofChange fnExactOverTilesWrong)

/-- 'laws.FnExactToCount': WHATEVER THE INPUT: true; the input reads as it did. -/
def fnExactToCountSpec : ChangeSpec := { name := "fnExactToCount", fn := fun _ => fun
  | [d] => { results := [.lit (.bool true)], args := [d] }
  | _ => none }
def fnExactToCountRow : OpenClaim := { program := "ytikajdhgakcldae", sum := "611db155face5a8bbf7528cbf4da3f8cb31167e454647f394cd1ebac3b317eb1", func := "loop.example/g01213/laws.FnExactToCount", spec := "fnExactToCount", inPlace := ["math.RoundToEven"], apart := false }
def FnExactToCountSaid : Prop := fnExactToCountRow.holds Try.pinned (OpenSpec.ofChange fnExactToCountSpec)

/-- ITS FALSE NEIGHBOUR: 'it returns false'. Refute it at one input. -/
def fnExactToCountWrong : ChangeSpec := { name := "fnExactToCount", fn := fun _ => fun
  | [d] => { results := [.lit (.bool false)], args := [d] }
  | _ => none }
def FnExactToCountWrongFalsely : Prop := fnExactToCountRow.holds Try.pinned (OpenSpec.ofChange fnExactToCountWrong)

/- THE SECOND FORM. 'bulk': how many values and letters a reading holds, each counted each time it is reached (what is shared counts as often as it is met; a slice's spare places count too). A statement '..UptoSaid' is the law's where the arguments, and the package variables that the reading takes, are together of bulk at most 1048576: NARROWER than '..Said'. Prove '..Said' where nothing that the law and all that it calls make is longer than what came in: it says more and counts as full. Else prove '..UptoSaid'. A law counts once. -/
mutual
def uptoBulk {H : Type} : DataW H → Nat
  | .lit (.string bytes) => bytes.length + 1
  | .lit _ => 1
  | .nil => 1
  | .ptr d => uptoBulk d + 1
  | .slice elems spare => uptoBulkAll elems + uptoBulkAll spare + 1
  | .agg parts => uptoBulkAll parts + 1
  | .iface _ d => uptoBulk d + 1
  | .map entries => uptoBulkEntries entries + 1
  | .held _ => 1
def uptoBulkAll {H : Type} : List (DataW H) → Nat
  | [] => 0
  | d :: r => uptoBulk d + uptoBulkAll r
def uptoBulkEntries {H : Type} : List (Lit × DataW H) → Nat
  | [] => 0
  | x :: r => uptoBulkEntry x + uptoBulkEntries r
def uptoBulkEntry {H : Type} : Lit × DataW H → Nat
  | (.string bytes, d) => bytes.length + uptoBulk d + 1
  | (_, d) => uptoBulk d + 1
 end
def uptoSmall : (H : Type) → List (DataW H) → Bool := fun _ ds => decide (uptoBulkAll ds ≤ 1048576)
def OpenSpec.upto (s : _root_.Go.ChangeSpec) : _root_.Go.OpenSpec := { _root_.Go.OpenSpec.ofChange s with cond := some uptoSmall }

/-- 'laws.FnExactCoverWithGain', WHERE WHAT IT READS IS OF BULK AT MOST 1048576: true; the input reads as it did. -/
def fnExactCoverWithGainUptoRow : OpenClaim := { program := "ytikajdhgakcldae", sum := "611db155face5a8bbf7528cbf4da3f8cb31167e454647f394cd1ebac3b317eb1", func := "loop.example/g01213/laws.FnExactCoverWithGain", spec := "fnExactCoverWithGain", apart := false, narrowed := true }
def FnExactCoverWithGainUptoSaid : Prop := fnExactCoverWithGainUptoRow.holds Try.pinned (OpenSpec.upto fnExactCoverWithGainSpec)

/-- 'laws.FnExactAreasOf', WHERE WHAT IT READS IS OF BULK AT MOST 1048576: true; the input reads as it did. -/
def fnExactAreasOfUptoRow : OpenClaim := { program := "ytikajdhgakcldae", sum := "611db155face5a8bbf7528cbf4da3f8cb31167e454647f394cd1ebac3b317eb1", func := "loop.example/g01213/laws.FnExactAreasOf", spec := "fnExactAreasOf", apart := false, narrowed := true }
def FnExactAreasOfUptoSaid : Prop := fnExactAreasOfUptoRow.holds Try.pinned (OpenSpec.upto fnExactAreasOfSpec)

/-- 'laws.FnExactInkIn', WHERE WHAT IT READS IS OF BULK AT MOST 1048576: true; the input reads as it did. -/
def fnExactInkInUptoRow : OpenClaim := { program := "ytikajdhgakcldae", sum := "611db155face5a8bbf7528cbf4da3f8cb31167e454647f394cd1ebac3b317eb1", func := "loop.example/g01213/laws.FnExactInkIn", spec := "fnExactInkIn", apart := false, narrowed := true }
def FnExactInkInUptoSaid : Prop := fnExactInkInUptoRow.holds Try.pinned (OpenSpec.upto fnExactInkInSpec)

/-- 'laws.FnExactLimitInk', WHERE WHAT IT READS IS OF BULK AT MOST 1048576: true; the input reads as it did. -/
def fnExactLimitInkUptoRow : OpenClaim := { program := "ytikajdhgakcldae", sum := "611db155face5a8bbf7528cbf4da3f8cb31167e454647f394cd1ebac3b317eb1", func := "loop.example/g01213/laws.FnExactLimitInk", spec := "fnExactLimitInk", apart := false, narrowed := true }
def FnExactLimitInkUptoSaid : Prop := fnExactLimitInkUptoRow.holds Try.pinned (OpenSpec.upto fnExactLimitInkSpec)

/-- 'laws.FnExactPutBlackUnder', WHERE WHAT IT READS IS OF BULK AT MOST 1048576: true; the input reads as it did. -/
def fnExactPutBlackUnderUptoRow : OpenClaim := { program := "ytikajdhgakcldae", sum := "611db155face5a8bbf7528cbf4da3f8cb31167e454647f394cd1ebac3b317eb1", func := "loop.example/g01213/laws.FnExactPutBlackUnder", spec := "fnExactPutBlackUnder", apart := false, narrowed := true }
def FnExactPutBlackUnderUptoSaid : Prop := fnExactPutBlackUnderUptoRow.holds Try.pinned (OpenSpec.upto fnExactPutBlackUnderSpec)

/-- 'laws.FnExactCoverBefore', WHERE WHAT IT READS IS OF BULK AT MOST 1048576: true; the input reads as it did. -/
def fnExactCoverBeforeUptoRow : OpenClaim := { program := "ytikajdhgakcldae", sum := "611db155face5a8bbf7528cbf4da3f8cb31167e454647f394cd1ebac3b317eb1", func := "loop.example/g01213/laws.FnExactCoverBefore", spec := "fnExactCoverBefore", unfollowed := true, recurses := true, apart := false, narrowed := true }
def FnExactCoverBeforeUptoSaid : Prop := fnExactCoverBeforeUptoRow.holds Try.pinned (OpenSpec.upto fnExactCoverBeforeSpec)

/-- 'laws.FnExactPlaceNumber', WHERE WHAT IT READS IS OF BULK AT MOST 1048576: true; the input reads as it did. -/
def fnExactPlaceNumberUptoRow : OpenClaim := { program := "ytikajdhgakcldae", sum := "611db155face5a8bbf7528cbf4da3f8cb31167e454647f394cd1ebac3b317eb1", func := "loop.example/g01213/laws.FnExactPlaceNumber", spec := "fnExactPlaceNumber", apart := false, narrowed := true }
def FnExactPlaceNumberUptoSaid : Prop := fnExactPlaceNumberUptoRow.holds Try.pinned (OpenSpec.upto fnExactPlaceNumberSpec)

/-- 'laws.FnExactTileOf', WHERE WHAT IT READS IS OF BULK AT MOST 1048576: true; the input reads as it did. -/
def fnExactTileOfUptoRow : OpenClaim := { program := "ytikajdhgakcldae", sum := "611db155face5a8bbf7528cbf4da3f8cb31167e454647f394cd1ebac3b317eb1", func := "loop.example/g01213/laws.FnExactTileOf", spec := "fnExactTileOf", unfollowed := true, recurses := true, apart := false, narrowed := true }
def FnExactTileOfUptoSaid : Prop := fnExactTileOfUptoRow.holds Try.pinned (OpenSpec.upto fnExactTileOfSpec)

/-- 'laws.FnExactLevelOf', WHERE WHAT IT READS IS OF BULK AT MOST 1048576: true; the input reads as it did. -/
def fnExactLevelOfUptoRow : OpenClaim := { program := "ytikajdhgakcldae", sum := "611db155face5a8bbf7528cbf4da3f8cb31167e454647f394cd1ebac3b317eb1", func := "loop.example/g01213/laws.FnExactLevelOf", spec := "fnExactLevelOf", apart := false, narrowed := true }
def FnExactLevelOfUptoSaid : Prop := fnExactLevelOfUptoRow.holds Try.pinned (OpenSpec.upto fnExactLevelOfSpec)

/-- 'laws.FnExactTurnTile', WHERE WHAT IT READS IS OF BULK AT MOST 1048576: true; the input reads as it did. -/
def fnExactTurnTileUptoRow : OpenClaim := { program := "ytikajdhgakcldae", sum := "611db155face5a8bbf7528cbf4da3f8cb31167e454647f394cd1ebac3b317eb1", func := "loop.example/g01213/laws.FnExactTurnTile", spec := "fnExactTurnTile", unfollowed := true, recurses := true, apart := false, narrowed := true }
def FnExactTurnTileUptoSaid : Prop := fnExactTurnTileUptoRow.holds Try.pinned (OpenSpec.upto fnExactTurnTileSpec)

/-- 'laws.FnExactOverTiles', WHERE WHAT IT READS IS OF BULK AT MOST 1048576: true; the input reads as it did. -/
def fnExactOverTilesUptoRow : OpenClaim := { program := "ytikajdhgakcldae", sum := "611db155face5a8bbf7528cbf4da3f8cb31167e454647f394cd1ebac3b317eb1", func := "loop.example/g01213/laws.FnExactOverTiles", spec := "fnExactOverTiles", unfollowed := true, recurses := true, apart := false, narrowed := true }
def FnExactOverTilesUptoSaid : Prop := fnExactOverTilesUptoRow.holds Try.pinned (OpenSpec.upto fnExactOverTilesSpec)

/-- 'laws.FnExactToCount', WHERE WHAT IT READS IS OF BULK AT MOST 1048576: true; the input reads as it did. -/
def fnExactToCountUptoRow : OpenClaim := { program := "ytikajdhgakcldae", sum := "611db155face5a8bbf7528cbf4da3f8cb31167e454647f394cd1ebac3b317eb1", func := "loop.example/g01213/laws.FnExactToCount", spec := "fnExactToCount", inPlace := ["math.RoundToEven"], apart := false, narrowed := true }
def FnExactToCountUptoSaid : Prop := fnExactToCountUptoRow.holds Try.pinned (OpenSpec.upto fnExactToCountSpec)

end Rows
end Go.Proofs.Ytikajdhgakcldae
