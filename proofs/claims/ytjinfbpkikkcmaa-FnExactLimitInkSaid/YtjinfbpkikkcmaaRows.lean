/-
  No cell of these rows narrows 'for every input' (looked for: loops, veiled, ifaces, maps, wideKeys, modest, calm, conditions, laid).
  DERIVED. THE GIVEN ROWS OF THIS SEAT. 12 by the template 'for every input the law returns true; each argument reads behind the call as it read before'; 0 by the template 'total and deterministic' (their statements: YtjinfbpkikkcmaaTotals.lean).
  GIVEN WITH THE SEED: the statements are not yours to turn. If you find one false, say at which input.
  Laid BY PROGRAM, IN A SANDBOX (cutbox-rows.mjs): the forced cells as the released guide's own fill.sh prints them over the translation 372f00d8ab6117ec… (all of the seat's roots in one cut). By AI agents, Wed Nov 11 2026. No macro, syntax, notation, axiom, sorry.
-/
import Derived.Test.YtjinfbpkikkcmaaChecked
import GoSem.Claim
import GoSem.ClaimJoined
import GoSem.ClaimMapViews
import Derived.JoinedTies
import Derived.KernelRfl
namespace Go.Proofs.Ytjinfbpkikkcmaa
/- THE CELL 'sum', in the pinned program and in every row, IS THE sha256 OF THE DUMP (.gsa) THAT YtjinfbpkikkcmaaProg.lean LOADS. Nothing in Lean hashes anything: it is a label: what it is worth is what the hold of that sum in a sandbox is worth. -/
noncomputable def Try.pinned : Pinned := { name := "ytjinfbpkikkcmaa", sum := "372f00d8ab6117ece8bb20843a2d2c7033a6bfe50726e6ae1b5290ceaeb28ab8", checked := Try.checked }
namespace Rows
def none {H : Type} : Left H := { results := [], args := [] }

/-- 'laws.FnExactValidPress': WHATEVER THE INPUT: true; the input reads as it did. -/
def fnExactValidPressSpec : ChangeSpec := { name := "fnExactValidPress", fn := fun _ => fun
  | [d] => { results := [.lit (.bool true)], args := [d] }
  | _ => none }
def fnExactValidPressRow : OpenClaim := { program := "ytjinfbpkikkcmaa", sum := "372f00d8ab6117ece8bb20843a2d2c7033a6bfe50726e6ae1b5290ceaeb28ab8", func := "loop.example/g01213/laws.FnExactValidPress", spec := "fnExactValidPress", apart := false }
def FnExactValidPressSaid : Prop := fnExactValidPressRow.holds Try.pinned (OpenSpec.ofChange fnExactValidPressSpec)

/-- ITS FALSE NEIGHBOUR: 'it returns false'. Refute it at one input. -/
def fnExactValidPressWrong : ChangeSpec := { name := "fnExactValidPress", fn := fun _ => fun
  | [d] => { results := [.lit (.bool false)], args := [d] }
  | _ => none }
def FnExactValidPressWrongFalsely : Prop := fnExactValidPressRow.holds Try.pinned (OpenSpec.ofChange fnExactValidPressWrong)

/-- 'laws.FnExactValidCover': WHATEVER THE INPUT: true; the input reads as it did. -/
def fnExactValidCoverSpec : ChangeSpec := { name := "fnExactValidCover", fn := fun _ => fun
  | [d] => { results := [.lit (.bool true)], args := [d] }
  | _ => none }
def fnExactValidCoverRow : OpenClaim := { program := "ytjinfbpkikkcmaa", sum := "372f00d8ab6117ece8bb20843a2d2c7033a6bfe50726e6ae1b5290ceaeb28ab8", func := "loop.example/g01213/laws.FnExactValidCover", spec := "fnExactValidCover", apart := false }
def FnExactValidCoverSaid : Prop := fnExactValidCoverRow.holds Try.pinned (OpenSpec.ofChange fnExactValidCoverSpec)

/-- ITS FALSE NEIGHBOUR: 'it returns false'. Refute it at one input. -/
def fnExactValidCoverWrong : ChangeSpec := { name := "fnExactValidCover", fn := fun _ => fun
  | [d] => { results := [.lit (.bool false)], args := [d] }
  | _ => none }
def FnExactValidCoverWrongFalsely : Prop := fnExactValidCoverRow.holds Try.pinned (OpenSpec.ofChange fnExactValidCoverWrong)

/-- 'laws.FnExactKeyOf': WHATEVER THE INPUT: true; the input reads as it did. -/
def fnExactKeyOfSpec : ChangeSpec := { name := "fnExactKeyOf", fn := fun _ => fun
  | [d] => { results := [.lit (.bool true)], args := [d] }
  | _ => none }
def fnExactKeyOfRow : OpenClaim := { program := "ytjinfbpkikkcmaa", sum := "372f00d8ab6117ece8bb20843a2d2c7033a6bfe50726e6ae1b5290ceaeb28ab8", func := "loop.example/g01213/laws.FnExactKeyOf", spec := "fnExactKeyOf", apart := false }
def FnExactKeyOfSaid : Prop := fnExactKeyOfRow.holds Try.pinned (OpenSpec.ofChange fnExactKeyOfSpec)

/-- ITS FALSE NEIGHBOUR: 'it returns false'. Refute it at one input. -/
def fnExactKeyOfWrong : ChangeSpec := { name := "fnExactKeyOf", fn := fun _ => fun
  | [d] => { results := [.lit (.bool false)], args := [d] }
  | _ => none }
def FnExactKeyOfWrongFalsely : Prop := fnExactKeyOfRow.holds Try.pinned (OpenSpec.ofChange fnExactKeyOfWrong)

/-- 'laws.FnExactNumberOfKey': WHATEVER THE INPUT: true; the input reads as it did. -/
def fnExactNumberOfKeySpec : ChangeSpec := { name := "fnExactNumberOfKey", fn := fun _ => fun
  | [d] => { results := [.lit (.bool true)], args := [d] }
  | _ => none }
def fnExactNumberOfKeyRow : OpenClaim := { program := "ytjinfbpkikkcmaa", sum := "372f00d8ab6117ece8bb20843a2d2c7033a6bfe50726e6ae1b5290ceaeb28ab8", func := "loop.example/g01213/laws.FnExactNumberOfKey", spec := "fnExactNumberOfKey", apart := false }
def FnExactNumberOfKeySaid : Prop := fnExactNumberOfKeyRow.holds Try.pinned (OpenSpec.ofChange fnExactNumberOfKeySpec)

/-- ITS FALSE NEIGHBOUR: 'it returns false'. Refute it at one input. -/
def fnExactNumberOfKeyWrong : ChangeSpec := { name := "fnExactNumberOfKey", fn := fun _ => fun
  | [d] => { results := [.lit (.bool false)], args := [d] }
  | _ => none }
def FnExactNumberOfKeyWrongFalsely : Prop := fnExactNumberOfKeyRow.holds Try.pinned (OpenSpec.ofChange fnExactNumberOfKeyWrong)

/-- 'laws.FnExactOverprintOf': WHATEVER THE INPUT: true; the input reads as it did. -/
def fnExactOverprintOfSpec : ChangeSpec := { name := "fnExactOverprintOf", fn := fun _ => fun
  | [d1, d2] => { results := [.lit (.bool true)], args := [d1, d2] }
  | _ => none }
def fnExactOverprintOfRow : OpenClaim := { program := "ytjinfbpkikkcmaa", sum := "372f00d8ab6117ece8bb20843a2d2c7033a6bfe50726e6ae1b5290ceaeb28ab8", func := "loop.example/g01213/laws.FnExactOverprintOf", spec := "fnExactOverprintOf", apart := false }
def FnExactOverprintOfSaid : Prop := fnExactOverprintOfRow.holds Try.pinned (OpenSpec.ofChange fnExactOverprintOfSpec)

/-- ITS FALSE NEIGHBOUR: 'it returns false'. Refute it at one input. -/
def fnExactOverprintOfWrong : ChangeSpec := { name := "fnExactOverprintOf", fn := fun _ => fun
  | [d1, d2] => { results := [.lit (.bool false)], args := [d1, d2] }
  | _ => none }
def FnExactOverprintOfWrongFalsely : Prop := fnExactOverprintOfRow.holds Try.pinned (OpenSpec.ofChange fnExactOverprintOfWrong)

/-- 'laws.FnExactGainAt': WHATEVER THE INPUT: true; the input reads as it did. -/
def fnExactGainAtSpec : ChangeSpec := { name := "fnExactGainAt", fn := fun _ => fun
  | [d1, d2] => { results := [.lit (.bool true)], args := [d1, d2] }
  | _ => none }
def fnExactGainAtRow : OpenClaim := { program := "ytjinfbpkikkcmaa", sum := "372f00d8ab6117ece8bb20843a2d2c7033a6bfe50726e6ae1b5290ceaeb28ab8", func := "loop.example/g01213/laws.FnExactGainAt", spec := "fnExactGainAt", unfollowed := true, recurses := true, apart := false }
def FnExactGainAtSaid : Prop := fnExactGainAtRow.holds Try.pinned (OpenSpec.ofChange fnExactGainAtSpec)

/-- ITS FALSE NEIGHBOUR: 'it returns false'. Refute it at one input. -/
def fnExactGainAtWrong : ChangeSpec := { name := "fnExactGainAt", fn := fun _ => fun
  | [d1, d2] => { results := [.lit (.bool false)], args := [d1, d2] }
  | _ => none }
def FnExactGainAtWrongFalsely : Prop := fnExactGainAtRow.holds Try.pinned (OpenSpec.ofChange fnExactGainAtWrong)

/-- 'laws.FnExactCoverWithGain': WHATEVER THE INPUT: true; the input reads as it did. -/
def fnExactCoverWithGainSpec : ChangeSpec := { name := "fnExactCoverWithGain", fn := fun _ => fun
  | [d1, d2] => { results := [.lit (.bool true)], args := [d1, d2] }
  | _ => none }
def fnExactCoverWithGainRow : OpenClaim := { program := "ytjinfbpkikkcmaa", sum := "372f00d8ab6117ece8bb20843a2d2c7033a6bfe50726e6ae1b5290ceaeb28ab8", func := "loop.example/g01213/laws.FnExactCoverWithGain", spec := "fnExactCoverWithGain", apart := false }
def FnExactCoverWithGainSaid : Prop := fnExactCoverWithGainRow.holds Try.pinned (OpenSpec.ofChange fnExactCoverWithGainSpec)

/-- ITS FALSE NEIGHBOUR: 'it returns false'. Refute it at one input. -/
def fnExactCoverWithGainWrong : ChangeSpec := { name := "fnExactCoverWithGain", fn := fun _ => fun
  | [d1, d2] => { results := [.lit (.bool false)], args := [d1, d2] }
  | _ => none }
def FnExactCoverWithGainWrongFalsely : Prop := fnExactCoverWithGainRow.holds Try.pinned (OpenSpec.ofChange fnExactCoverWithGainWrong)

/-- 'laws.FnExactAreasOf': WHATEVER THE INPUT: true; the input reads as it did. -/
def fnExactAreasOfSpec : ChangeSpec := { name := "fnExactAreasOf", fn := fun _ => fun
  | [d] => { results := [.lit (.bool true)], args := [d] }
  | _ => none }
def fnExactAreasOfRow : OpenClaim := { program := "ytjinfbpkikkcmaa", sum := "372f00d8ab6117ece8bb20843a2d2c7033a6bfe50726e6ae1b5290ceaeb28ab8", func := "loop.example/g01213/laws.FnExactAreasOf", spec := "fnExactAreasOf", apart := false }
def FnExactAreasOfSaid : Prop := fnExactAreasOfRow.holds Try.pinned (OpenSpec.ofChange fnExactAreasOfSpec)

/-- ITS FALSE NEIGHBOUR: 'it returns false'. Refute it at one input. -/
def fnExactAreasOfWrong : ChangeSpec := { name := "fnExactAreasOf", fn := fun _ => fun
  | [d] => { results := [.lit (.bool false)], args := [d] }
  | _ => none }
def FnExactAreasOfWrongFalsely : Prop := fnExactAreasOfRow.holds Try.pinned (OpenSpec.ofChange fnExactAreasOfWrong)

/-- 'laws.FnExactInkIn': WHATEVER THE INPUT: true; the input reads as it did. -/
def fnExactInkInSpec : ChangeSpec := { name := "fnExactInkIn", fn := fun _ => fun
  | [d] => { results := [.lit (.bool true)], args := [d] }
  | _ => none }
def fnExactInkInRow : OpenClaim := { program := "ytjinfbpkikkcmaa", sum := "372f00d8ab6117ece8bb20843a2d2c7033a6bfe50726e6ae1b5290ceaeb28ab8", func := "loop.example/g01213/laws.FnExactInkIn", spec := "fnExactInkIn", apart := false }
def FnExactInkInSaid : Prop := fnExactInkInRow.holds Try.pinned (OpenSpec.ofChange fnExactInkInSpec)

/-- ITS FALSE NEIGHBOUR: 'it returns false'. Refute it at one input. -/
def fnExactInkInWrong : ChangeSpec := { name := "fnExactInkIn", fn := fun _ => fun
  | [d] => { results := [.lit (.bool false)], args := [d] }
  | _ => none }
def FnExactInkInWrongFalsely : Prop := fnExactInkInRow.holds Try.pinned (OpenSpec.ofChange fnExactInkInWrong)

/-- 'laws.FnExactLimitInk': WHATEVER THE INPUT: true; the input reads as it did. -/
def fnExactLimitInkSpec : ChangeSpec := { name := "fnExactLimitInk", fn := fun _ => fun
  | [d1, d2] => { results := [.lit (.bool true)], args := [d1, d2] }
  | _ => none }
def fnExactLimitInkRow : OpenClaim := { program := "ytjinfbpkikkcmaa", sum := "372f00d8ab6117ece8bb20843a2d2c7033a6bfe50726e6ae1b5290ceaeb28ab8", func := "loop.example/g01213/laws.FnExactLimitInk", spec := "fnExactLimitInk", apart := false }
def FnExactLimitInkSaid : Prop := fnExactLimitInkRow.holds Try.pinned (OpenSpec.ofChange fnExactLimitInkSpec)

/-- ITS FALSE NEIGHBOUR: 'it returns false'. Refute it at one input. -/
def fnExactLimitInkWrong : ChangeSpec := { name := "fnExactLimitInk", fn := fun _ => fun
  | [d1, d2] => { results := [.lit (.bool false)], args := [d1, d2] }
  | _ => none }
def FnExactLimitInkWrongFalsely : Prop := fnExactLimitInkRow.holds Try.pinned (OpenSpec.ofChange fnExactLimitInkWrong)

/-- 'laws.FnExactPutBlackUnder': WHATEVER THE INPUT: true; the input reads as it did. -/
def fnExactPutBlackUnderSpec : ChangeSpec := { name := "fnExactPutBlackUnder", fn := fun _ => fun
  | [d1, d2] => { results := [.lit (.bool true)], args := [d1, d2] }
  | _ => none }
def fnExactPutBlackUnderRow : OpenClaim := { program := "ytjinfbpkikkcmaa", sum := "372f00d8ab6117ece8bb20843a2d2c7033a6bfe50726e6ae1b5290ceaeb28ab8", func := "loop.example/g01213/laws.FnExactPutBlackUnder", spec := "fnExactPutBlackUnder", apart := false }
def FnExactPutBlackUnderSaid : Prop := fnExactPutBlackUnderRow.holds Try.pinned (OpenSpec.ofChange fnExactPutBlackUnderSpec)

/-- ITS FALSE NEIGHBOUR: 'it returns false'. Refute it at one input. -/
def fnExactPutBlackUnderWrong : ChangeSpec := { name := "fnExactPutBlackUnder", fn := fun _ => fun
  | [d1, d2] => { results := [.lit (.bool false)], args := [d1, d2] }
  | _ => none }
def FnExactPutBlackUnderWrongFalsely : Prop := fnExactPutBlackUnderRow.holds Try.pinned (OpenSpec.ofChange fnExactPutBlackUnderWrong)

/-- 'laws.FnExactCoverBefore': WHATEVER THE INPUT: true; the input reads as it did. -/
def fnExactCoverBeforeSpec : ChangeSpec := { name := "fnExactCoverBefore", fn := fun _ => fun
  | [d1, d2] => { results := [.lit (.bool true)], args := [d1, d2] }
  | _ => none }
def fnExactCoverBeforeRow : OpenClaim := { program := "ytjinfbpkikkcmaa", sum := "372f00d8ab6117ece8bb20843a2d2c7033a6bfe50726e6ae1b5290ceaeb28ab8", func := "loop.example/g01213/laws.FnExactCoverBefore", spec := "fnExactCoverBefore", unfollowed := true, recurses := true, apart := false }
def FnExactCoverBeforeSaid : Prop := fnExactCoverBeforeRow.holds Try.pinned (OpenSpec.ofChange fnExactCoverBeforeSpec)

/-- ITS FALSE NEIGHBOUR: 'it returns false'. Refute it at one input. -/
def fnExactCoverBeforeWrong : ChangeSpec := { name := "fnExactCoverBefore", fn := fun _ => fun
  | [d1, d2] => { results := [.lit (.bool false)], args := [d1, d2] }
  | _ => none }
def FnExactCoverBeforeWrongFalsely : Prop := fnExactCoverBeforeRow.holds Try.pinned (OpenSpec.ofChange fnExactCoverBeforeWrong)

/- THE SECOND FORM. 'bulk': how many values and letters a reading holds, each counted each time it is reached (what is shared counts as often as it is met; a slice's spare places count too). A statement '..UptoSaid' is the law's where the arguments, and the package variables that the reading takes, are together of bulk at most 1048576: NARROWER than '..Said'. Prove '..Said' where nothing that the law and all that it calls make is longer than what came in: it says more and counts as full. Else prove '..UptoSaid'. A law counts once. -/
mutual
def uptoBulk {H : Type} : DataW H → Nat
  | .lit (.string bytes) => bytes.length + 1
  | .lit _ => 1
  | .nil => 1
  | .ptr d => uptoBulk d + 1
  | .slice elems spare => uptoBulkAll elems + uptoBulkAll spare + 1
  | .agg parts => uptoBulkAll parts + 1
  | .iface _ d => uptoBulk d + 1
  | .map entries => uptoBulkEntries entries + 1
  | .held _ => 1
def uptoBulkAll {H : Type} : List (DataW H) → Nat
  | [] => 0
  | d :: r => uptoBulk d + uptoBulkAll r
def uptoBulkEntries {H : Type} : List (Lit × DataW H) → Nat
  | [] => 0
  | x :: r => uptoBulkEntry x + uptoBulkEntries r
def uptoBulkEntry {H : Type} : Lit × DataW H → Nat
  | (.string bytes, d) => bytes.length + uptoBulk d + 1
  | (_, d) => uptoBulk d + 1
 end
def uptoSmall : (H : Type) → List (DataW H) → Bool := fun _ ds => decide (uptoBulkAll ds ≤ 1048576)
def OpenSpec.upto (s : _root_.Go.ChangeSpec) : _root_.Go.OpenSpec := { _root_.Go.OpenSpec.ofChange s with cond := some uptoSmall }

/-- 'laws.FnExactValidPress', WHERE WHAT IT READS IS OF BULK AT MOST 1048576: true; the input reads as it did. -/
def fnExactValidPressUptoRow : OpenClaim := { program := "ytjinfbpkikkcmaa", sum := "372f00d8ab6117ece8bb20843a2d2c7033a6bfe50726e6ae1b5290ceaeb28ab8", func := "loop.example/g01213/laws.FnExactValidPress", spec := "fnExactValidPress", apart := false, narrowed := true }
def FnExactValidPressUptoSaid : Prop := fnExactValidPressUptoRow.holds Try.pinned (OpenSpec.upto fnExactValidPressSpec)

/-- 'laws.FnExactValidCover', WHERE WHAT IT READS IS OF BULK AT MOST 1048576: true; the input reads as it did. -/
def fnExactValidCoverUptoRow : OpenClaim := { program := "ytjinfbpkikkcmaa", sum := "372f00d8ab6117ece8bb20843a2d2c7033a6bfe50726e6ae1b5290ceaeb28ab8", func := "loop.example/g01213/laws.FnExactValidCover", spec := "fnExactValidCover", apart := false, narrowed := true }
def FnExactValidCoverUptoSaid : Prop := fnExactValidCoverUptoRow.holds Try.pinned (OpenSpec.upto fnExactValidCoverSpec)

/-- 'laws.FnExactKeyOf', WHERE WHAT IT READS IS OF BULK AT MOST 1048576: true; the input reads as it did. -/
def fnExactKeyOfUptoRow : OpenClaim := { program := "ytjinfbpkikkcmaa", sum := "372f00d8ab6117ece8bb20843a2d2c7033a6bfe50726e6ae1b5290ceaeb28ab8", func := "loop.example/g01213/laws.FnExactKeyOf", spec := "fnExactKeyOf", apart := false, narrowed := true }
def FnExactKeyOfUptoSaid : Prop := fnExactKeyOfUptoRow.holds Try.pinned (OpenSpec.upto fnExactKeyOfSpec)

/-- 'laws.FnExactNumberOfKey', WHERE WHAT IT READS IS OF BULK AT MOST 1048576: true; the input reads as it did. -/
def fnExactNumberOfKeyUptoRow : OpenClaim := { program := "ytjinfbpkikkcmaa", sum := "372f00d8ab6117ece8bb20843a2d2c7033a6bfe50726e6ae1b5290ceaeb28ab8", func := "loop.example/g01213/laws.FnExactNumberOfKey", spec := "fnExactNumberOfKey", apart := false, narrowed := true }
def FnExactNumberOfKeyUptoSaid : Prop := fnExactNumberOfKeyUptoRow.holds Try.pinned (OpenSpec.upto fnExactNumberOfKeySpec)

/-- 'laws.FnExactOverprintOf', WHERE WHAT IT READS IS OF BULK AT MOST 1048576: true; the input reads as it did. -/
def fnExactOverprintOfUptoRow : OpenClaim := { program := "ytjinfbpkikkcmaa", sum := "372f00d8ab6117ece8bb20843a2d2c7033a6bfe50726e6ae1b5290ceaeb28ab8", func := "loop.example/g01213/laws.FnExactOverprintOf", spec := "fnExactOverprintOf", apart := false, narrowed := true }
def FnExactOverprintOfUptoSaid : Prop := fnExactOverprintOfUptoRow.holds Try.pinned (OpenSpec.upto fnExactOverprintOfSpec)

/-- 'laws.FnExactGainAt', WHERE WHAT IT READS IS OF BULK AT MOST 1048576: true; the input reads as it did. -/
def fnExactGainAtUptoRow : OpenClaim := { program := "ytjinfbpkikkcmaa", sum := "372f00d8ab6117ece8bb20843a2d2c7033a6bfe50726e6ae1b5290ceaeb28ab8", func := "loop.example/g01213/laws.FnExactGainAt", spec := "fnExactGainAt", unfollowed := true, recurses := true, apart := false, narrowed := true }
def FnExactGainAtUptoSaid : Prop := fnExactGainAtUptoRow.holds Try.pinned (OpenSpec.upto fnExactGainAtSpec)

/-- 'laws.FnExactCoverWithGain', WHERE WHAT IT READS IS OF BULK AT MOST 1048576: true; the input reads as it did. -/
def fnExactCoverWithGainUptoRow : OpenClaim := { program := "ytjinfbpkikkcmaa", sum := "372f00d8ab6117ece8bb20843a2d2c7033a6bfe50726e6ae1b5290ceaeb28ab8", func := "loop.example/g01213/laws.FnExactCoverWithGain", spec := "fnExactCoverWithGain", apart := false, narrowed := true }
def FnExactCoverWithGainUptoSaid : Prop := fnExactCoverWithGainUptoRow.holds Try.pinned (OpenSpec.upto fnExactCoverWithGainSpec)

/-- 'laws.FnExactAreasOf', WHERE WHAT IT READS IS OF BULK AT MOST 1048576: true; the input reads as it did. -/
def fnExactAreasOfUptoRow : OpenClaim := { program := "ytjinfbpkikkcmaa", sum := "372f00d8ab6117ece8bb20843a2d2c7033a6bfe50726e6ae1b5290ceaeb28ab8", func := "loop.example/g01213/laws.FnExactAreasOf", spec := "fnExactAreasOf", apart := false, narrowed := true }
def FnExactAreasOfUptoSaid : Prop := fnExactAreasOfUptoRow.holds Try.pinned (OpenSpec.upto fnExactAreasOfSpec)

/-- 'laws.FnExactInkIn', WHERE WHAT IT READS IS OF BULK AT MOST 1048576: true; the input reads as it did. -/
def fnExactInkInUptoRow : OpenClaim := { program := "ytjinfbpkikkcmaa", sum := "372f00d8ab6117ece8bb20843a2d2c7033a6bfe50726e6ae1b5290ceaeb28ab8", func := "loop.example/g01213/laws.FnExactInkIn", spec := "fnExactInkIn", apart := false, narrowed := true }
def FnExactInkInUptoSaid : Prop := fnExactInkInUptoRow.holds Try.pinned (OpenSpec.upto fnExactInkInSpec)

/-- 'laws.FnExactLimitInk', WHERE WHAT IT READS IS OF BULK AT MOST 1048576: true; the input reads as it did. -/
def fnExactLimitInkUptoRow : OpenClaim := { program := "ytjinfbpkikkcmaa", sum := "372f00d8ab6117ece8bb20843a2d2c7033a6bfe50726e6ae1b5290ceaeb28ab8", func := "loop.example/g01213/laws.FnExactLimitInk", spec := "fnExactLimitInk", apart := false, narrowed := true }
def FnExactLimitInkUptoSaid : Prop := fnExactLimitInkUptoRow.holds Try.pinned (OpenSpec.upto fnExactLimitInkSpec)

/-- 'laws.FnExactPutBlackUnder', WHERE WHAT IT READS IS OF BULK AT MOST 1048576: true; the input reads as it did. -/
def fnExactPutBlackUnderUptoRow : OpenClaim := { program := "ytjinfbpkikkcmaa", sum := "372f00d8ab6117ece8bb20843a2d2c7033a6bfe50726e6ae1b5290ceaeb28ab8", func := "loop.example/g01213/laws.FnExactPutBlackUnder", spec := "fnExactPutBlackUnder", apart := false, narrowed := true }
def FnExactPutBlackUnderUptoSaid : Prop := fnExactPutBlackUnderUptoRow.holds Try.pinned (OpenSpec.upto fnExactPutBlackUnderSpec)

/-- 'laws.FnExactCoverBefore', WHERE WHAT IT READS IS OF BULK AT MOST 1048576: true; the input reads as it did. -/
def fnExactCoverBeforeUptoRow : OpenClaim := { program := "ytjinfbpkikkcmaa", sum := "372f00d8ab6117ece8bb20843a2d2c7033a6bfe50726e6ae1b5290ceaeb28ab8", func := "loop.example/g01213/laws.FnExactCoverBefore", spec := "fnExactCoverBefore", unfollowed := true, recurses := true, apart := false, narrowed := true }
def FnExactCoverBeforeUptoSaid : Prop := fnExactCoverBeforeUptoRow.holds Try.pinned (OpenSpec.upto fnExactCoverBeforeSpec)

end Rows
end Go.Proofs.Ytjinfbpkikkcmaa
