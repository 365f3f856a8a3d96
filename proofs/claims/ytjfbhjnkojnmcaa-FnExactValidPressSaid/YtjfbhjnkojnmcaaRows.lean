/-
  No cell of these rows narrows 'for every input' (looked for: loops, veiled, ifaces, maps, wideKeys, modest, calm, conditions, laid).
  DERIVED. THE GIVEN ROWS OF THIS SEAT. 12 by the template 'for every input the law returns true; each argument reads behind the call as it read before'; 0 by the template 'total and deterministic' (their statements: YtjfbhjnkojnmcaaTotals.lean).
  GIVEN WITH THE SEED: the statements are not yours to turn. If you find one false, say at which input.
  Laid BY PROGRAM, IN A SANDBOX (cutbox-rows.mjs): the forced cells as the released guide's own fill.sh prints them over the translation e0d7bcf92b8c09aa… (all of the seat's roots in one cut). By AI agents, Wed Nov 11 2026. No macro, syntax, notation, axiom, sorry.
-/
import Derived.Test.YtjfbhjnkojnmcaaChecked
import GoSem.Claim
import GoSem.ClaimJoined
import GoSem.ClaimMapViews
import Derived.JoinedTies
import Derived.KernelRfl
namespace Go.Proofs.Ytjfbhjnkojnmcaa
/- THE CELL 'sum', in the pinned program and in every row, IS THE sha256 OF THE DUMP (.gsa) THAT YtjfbhjnkojnmcaaProg.lean LOADS. Nothing in Lean hashes anything: it is a label: what it is worth is what the hold of that sum in a sandbox is worth. -/
noncomputable def Try.pinned : Pinned := { name := "ytjfbhjnkojnmcaa", sum := "e0d7bcf92b8c09aad4756778a2cd5010cba46b9e6e2d5241521278763c1ee484", checked := Try.checked }
namespace Rows
def none {H : Type} : Left H := { results := [], args := [] }

/-- 'laws.FnExactValidLayer': WHATEVER THE INPUT: true; the input reads as it did. -/
def fnExactValidLayerSpec : ChangeSpec := { name := "fnExactValidLayer", fn := fun _ => fun
  | [d] => { results := [.lit (.bool true)], args := [d] }
  | _ => none }
def fnExactValidLayerRow : OpenClaim := { program := "ytjfbhjnkojnmcaa", sum := "e0d7bcf92b8c09aad4756778a2cd5010cba46b9e6e2d5241521278763c1ee484", func := "loop.example/g01213/laws.FnExactValidLayer", spec := "fnExactValidLayer", apart := false }
def FnExactValidLayerSaid : Prop := fnExactValidLayerRow.holds Try.pinned (OpenSpec.ofChange fnExactValidLayerSpec)

/-- ITS FALSE NEIGHBOUR: 'it returns false'. Refute it at one input. -/
def fnExactValidLayerWrong : ChangeSpec := { name := "fnExactValidLayer", fn := fun _ => fun
  | [d] => { results := [.lit (.bool false)], args := [d] }
  | _ => none }
def FnExactValidLayerWrongFalsely : Prop := fnExactValidLayerRow.holds Try.pinned (OpenSpec.ofChange fnExactValidLayerWrong)

/-- 'laws.FnExactLayerOf': WHATEVER THE INPUT: true; the input reads as it did. -/
def fnExactLayerOfSpec : ChangeSpec := { name := "fnExactLayerOf", fn := fun _ => fun
  | [d1, d2, d3] => { results := [.lit (.bool true)], args := [d1, d2, d3] }
  | _ => none }
def fnExactLayerOfRow : OpenClaim := { program := "ytjfbhjnkojnmcaa", sum := "e0d7bcf92b8c09aad4756778a2cd5010cba46b9e6e2d5241521278763c1ee484", func := "loop.example/g01213/laws.FnExactLayerOf", spec := "fnExactLayerOf", apart := false }
def FnExactLayerOfSaid : Prop := fnExactLayerOfRow.holds Try.pinned (OpenSpec.ofChange fnExactLayerOfSpec)

/-- ITS FALSE NEIGHBOUR: 'it returns false'. Refute it at one input. -/
def fnExactLayerOfWrong : ChangeSpec := { name := "fnExactLayerOf", fn := fun _ => fun
  | [d1, d2, d3] => { results := [.lit (.bool false)], args := [d1, d2, d3] }
  | _ => none }
def FnExactLayerOfWrongFalsely : Prop := fnExactLayerOfRow.holds Try.pinned (OpenSpec.ofChange fnExactLayerOfWrong)

/-- 'laws.FnExactRatioCurve': WHATEVER THE INPUT: true; the input reads as it did. -/
def fnExactRatioCurveSpec : ChangeSpec := { name := "fnExactRatioCurve", fn := fun _ => fun
  | [d1, d2] => { results := [.lit (.bool true)], args := [d1, d2] }
  | _ => none }
def fnExactRatioCurveRow : OpenClaim := { program := "ytjfbhjnkojnmcaa", sum := "e0d7bcf92b8c09aad4756778a2cd5010cba46b9e6e2d5241521278763c1ee484", func := "loop.example/g01213/laws.FnExactRatioCurve", spec := "fnExactRatioCurve", inPlace := ["math.Float64bits", "math.Float64frombits"], unfollowed := true, recurses := true, apart := false }
def FnExactRatioCurveSaid : Prop := fnExactRatioCurveRow.holds Try.pinned (OpenSpec.ofChange fnExactRatioCurveSpec)

/-- ITS FALSE NEIGHBOUR: 'it returns false'. Refute it at one input. -/
def fnExactRatioCurveWrong : ChangeSpec := { name := "fnExactRatioCurve", fn := fun _ => fun
  | [d1, d2] => { results := [.lit (.bool false)], args := [d1, d2] }
  | _ => none }
def FnExactRatioCurveWrongFalsely : Prop := fnExactRatioCurveRow.holds Try.pinned (OpenSpec.ofChange fnExactRatioCurveWrong)

/-- 'laws.FnExactPaintOver': WHATEVER THE INPUT: true; the input reads as it did. -/
def fnExactPaintOverSpec : ChangeSpec := { name := "fnExactPaintOver", fn := fun _ => fun
  | [d1, d2] => { results := [.lit (.bool true)], args := [d1, d2] }
  | _ => none }
def fnExactPaintOverRow : OpenClaim := { program := "ytjfbhjnkojnmcaa", sum := "e0d7bcf92b8c09aad4756778a2cd5010cba46b9e6e2d5241521278763c1ee484", func := "loop.example/g01213/laws.FnExactPaintOver", spec := "fnExactPaintOver", inPlace := ["math.Float64bits", "math.Float64frombits"], unfollowed := true, recurses := true, apart := false }
def FnExactPaintOverSaid : Prop := fnExactPaintOverRow.holds Try.pinned (OpenSpec.ofChange fnExactPaintOverSpec)

/-- ITS FALSE NEIGHBOUR: 'it returns false'. Refute it at one input. -/
def fnExactPaintOverWrong : ChangeSpec := { name := "fnExactPaintOver", fn := fun _ => fun
  | [d1, d2] => { results := [.lit (.bool false)], args := [d1, d2] }
  | _ => none }
def FnExactPaintOverWrongFalsely : Prop := fnExactPaintOverRow.holds Try.pinned (OpenSpec.ofChange fnExactPaintOverWrong)

/-- 'laws.FnExactValidPress': WHATEVER THE INPUT: true; the input reads as it did. -/
def fnExactValidPressSpec : ChangeSpec := { name := "fnExactValidPress", fn := fun _ => fun
  | [d] => { results := [.lit (.bool true)], args := [d] }
  | _ => none }
def fnExactValidPressRow : OpenClaim := { program := "ytjfbhjnkojnmcaa", sum := "e0d7bcf92b8c09aad4756778a2cd5010cba46b9e6e2d5241521278763c1ee484", func := "loop.example/g01213/laws.FnExactValidPress", spec := "fnExactValidPress", apart := false }
def FnExactValidPressSaid : Prop := fnExactValidPressRow.holds Try.pinned (OpenSpec.ofChange fnExactValidPressSpec)

/-- ITS FALSE NEIGHBOUR: 'it returns false'. Refute it at one input. -/
def fnExactValidPressWrong : ChangeSpec := { name := "fnExactValidPress", fn := fun _ => fun
  | [d] => { results := [.lit (.bool false)], args := [d] }
  | _ => none }
def FnExactValidPressWrongFalsely : Prop := fnExactValidPressRow.holds Try.pinned (OpenSpec.ofChange fnExactValidPressWrong)

/-- 'laws.FnExactValidCover': WHATEVER THE INPUT: true; the input reads as it did. -/
def fnExactValidCoverSpec : ChangeSpec := { name := "fnExactValidCover", fn := fun _ => fun
  | [d] => { results := [.lit (.bool true)], args := [d] }
  | _ => none }
def fnExactValidCoverRow : OpenClaim := { program := "ytjfbhjnkojnmcaa", sum := "e0d7bcf92b8c09aad4756778a2cd5010cba46b9e6e2d5241521278763c1ee484", func := "loop.example/g01213/laws.FnExactValidCover", spec := "fnExactValidCover", apart := false }
def FnExactValidCoverSaid : Prop := fnExactValidCoverRow.holds Try.pinned (OpenSpec.ofChange fnExactValidCoverSpec)

/-- ITS FALSE NEIGHBOUR: 'it returns false'. Refute it at one input. -/
def fnExactValidCoverWrong : ChangeSpec := { name := "fnExactValidCover", fn := fun _ => fun
  | [d] => { results := [.lit (.bool false)], args := [d] }
  | _ => none }
def FnExactValidCoverWrongFalsely : Prop := fnExactValidCoverRow.holds Try.pinned (OpenSpec.ofChange fnExactValidCoverWrong)

/-- 'laws.FnExactKeyOf': WHATEVER THE INPUT: true; the input reads as it did. -/
def fnExactKeyOfSpec : ChangeSpec := { name := "fnExactKeyOf", fn := fun _ => fun
  | [d] => { results := [.lit (.bool true)], args := [d] }
  | _ => none }
def fnExactKeyOfRow : OpenClaim := { program := "ytjfbhjnkojnmcaa", sum := "e0d7bcf92b8c09aad4756778a2cd5010cba46b9e6e2d5241521278763c1ee484", func := "loop.example/g01213/laws.FnExactKeyOf", spec := "fnExactKeyOf", apart := false }
def FnExactKeyOfSaid : Prop := fnExactKeyOfRow.holds Try.pinned (OpenSpec.ofChange fnExactKeyOfSpec)

/-- ITS FALSE NEIGHBOUR: 'it returns false'. Refute it at one input. -/
def fnExactKeyOfWrong : ChangeSpec := { name := "fnExactKeyOf", fn := fun _ => fun
  | [d] => { results := [.lit (.bool false)], args := [d] }
  | _ => none }
def FnExactKeyOfWrongFalsely : Prop := fnExactKeyOfRow.holds Try.pinned (OpenSpec.ofChange fnExactKeyOfWrong)

/-- 'laws.FnExactNumberOfKey': WHATEVER THE INPUT: true; the input reads as it did. -/
def fnExactNumberOfKeySpec : ChangeSpec := { name := "fnExactNumberOfKey", fn := fun _ => fun
  | [d] => { results := [.lit (.bool true)], args := [d] }
  | _ => none }
def fnExactNumberOfKeyRow : OpenClaim := { program := "ytjfbhjnkojnmcaa", sum := "e0d7bcf92b8c09aad4756778a2cd5010cba46b9e6e2d5241521278763c1ee484", func := "loop.example/g01213/laws.FnExactNumberOfKey", spec := "fnExactNumberOfKey", apart := false }
def FnExactNumberOfKeySaid : Prop := fnExactNumberOfKeyRow.holds Try.pinned (OpenSpec.ofChange fnExactNumberOfKeySpec)

/-- ITS FALSE NEIGHBOUR: 'it returns false'. Refute it at one input. -/
def fnExactNumberOfKeyWrong : ChangeSpec := { name := "fnExactNumberOfKey", fn := fun _ => fun
  | [d] => { results := [.lit (.bool false)], args := [d] }
  | _ => none }
def FnExactNumberOfKeyWrongFalsely : Prop := fnExactNumberOfKeyRow.holds Try.pinned (OpenSpec.ofChange fnExactNumberOfKeyWrong)

/-- 'laws.FnExactOverprintOf': WHATEVER THE INPUT: true; the input reads as it did. -/
def fnExactOverprintOfSpec : ChangeSpec := { name := "fnExactOverprintOf", fn := fun _ => fun
  | [d1, d2] => { results := [.lit (.bool true)], args := [d1, d2] }
  | _ => none }
def fnExactOverprintOfRow : OpenClaim := { program := "ytjfbhjnkojnmcaa", sum := "e0d7bcf92b8c09aad4756778a2cd5010cba46b9e6e2d5241521278763c1ee484", func := "loop.example/g01213/laws.FnExactOverprintOf", spec := "fnExactOverprintOf", apart := false }
def FnExactOverprintOfSaid : Prop := fnExactOverprintOfRow.holds Try.pinned (OpenSpec.ofChange fnExactOverprintOfSpec)

/-- ITS FALSE NEIGHBOUR: 'it returns false'. Refute it at one input. -/
def fnExactOverprintOfWrong : ChangeSpec := { name := "fnExactOverprintOf", fn := fun _ => fun
  | [d1, d2] => { results := [.lit (.bool false)], args := [d1, d2] }
  | _ => none }
def FnExactOverprintOfWrongFalsely : Prop := fnExactOverprintOfRow.holds Try.pinned (OpenSpec.ofChange fnExactOverprintOfWrong)

/-- 'laws.FnExactGainAt': WHATEVER THE INPUT: true; the input reads as it did. -/
def fnExactGainAtSpec : ChangeSpec := { name := "fnExactGainAt", fn := fun _ => fun
  | [d1, d2] => { results := [.lit (.bool true)], args := [d1, d2] }
  | _ => none }
def fnExactGainAtRow : OpenClaim := { program := "ytjfbhjnkojnmcaa", sum := "e0d7bcf92b8c09aad4756778a2cd5010cba46b9e6e2d5241521278763c1ee484", func := "loop.example/g01213/laws.FnExactGainAt", spec := "fnExactGainAt", unfollowed := true, recurses := true, apart := false }
def FnExactGainAtSaid : Prop := fnExactGainAtRow.holds Try.pinned (OpenSpec.ofChange fnExactGainAtSpec)

/-- ITS FALSE NEIGHBOUR: 'it returns false'. Refute it at one input. -/
def fnExactGainAtWrong : ChangeSpec := { name := "fnExactGainAt", fn := fun _ => fun
  | [d1, d2] => { results := [.lit (.bool false)], args := [d1, d2] }
  | _ => none }
def FnExactGainAtWrongFalsely : Prop := fnExactGainAtRow.holds Try.pinned (OpenSpec.ofChange fnExactGainAtWrong)

/-- 'laws.FnExactSameLayer': WHATEVER THE INPUT: true; the input reads as it did. -/
def fnExactSameLayerSpec : ChangeSpec := { name := "fnExactSameLayer", fn := fun _ => fun
  | [d1, d2] => { results := [.lit (.bool true)], args := [d1, d2] }
  | _ => none }
def fnExactSameLayerRow : OpenClaim := { program := "ytjfbhjnkojnmcaa", sum := "e0d7bcf92b8c09aad4756778a2cd5010cba46b9e6e2d5241521278763c1ee484", func := "loop.example/g01213/laws.FnExactSameLayer", spec := "fnExactSameLayer", inPlace := ["math.Float32bits"], apart := false }
def FnExactSameLayerSaid : Prop := fnExactSameLayerRow.holds Try.pinned (OpenSpec.ofChange fnExactSameLayerSpec)

/-- ITS FALSE NEIGHBOUR: 'it returns false'. Refute it at one input. -/
def fnExactSameLayerWrong : ChangeSpec := { name := "fnExactSameLayer", fn := fun _ => fun
  | [d1, d2] => { results := [.lit (.bool false)], args := [d1, d2] }
  | _ => none }
def FnExactSameLayerWrongFalsely : Prop := fnExactSameLayerRow.holds Try.pinned (OpenSpec.ofChange fnExactSameLayerWrong)

/-- 'laws.FnExactSamePress': WHATEVER THE INPUT: true; the input reads as it did. -/
def fnExactSamePressSpec : ChangeSpec := { name := "fnExactSamePress", fn := fun _ => fun
  | [d1, d2] => { results := [.lit (.bool true)], args := [d1, d2] }
  | _ => none }
def fnExactSamePressRow : OpenClaim := { program := "ytjfbhjnkojnmcaa", sum := "e0d7bcf92b8c09aad4756778a2cd5010cba46b9e6e2d5241521278763c1ee484", func := "loop.example/g01213/laws.FnExactSamePress", spec := "fnExactSamePress", inPlace := ["math.Float32bits"], apart := false }
def FnExactSamePressSaid : Prop := fnExactSamePressRow.holds Try.pinned (OpenSpec.ofChange fnExactSamePressSpec)

/-- ITS FALSE NEIGHBOUR: 'it returns false'. Refute it at one input. -/
def fnExactSamePressWrong : ChangeSpec := { name := "fnExactSamePress", fn := fun _ => fun
  | [d1, d2] => { results := [.lit (.bool false)], args := [d1, d2] }
  | _ => none }
def FnExactSamePressWrongFalsely : Prop := fnExactSamePressRow.holds Try.pinned (OpenSpec.ofChange fnExactSamePressWrong)

/- THE SECOND FORM. 'bulk': how many values and letters a reading holds, each counted each time it is reached (what is shared counts as often as it is met; a slice's spare places count too). A statement '..UptoSaid' is the law's where the arguments, and the package variables that the reading takes, are together of bulk at most 1048576: NARROWER than '..Said'. Prove '..Said' where nothing that the law and all that it calls make is longer than what came in: it says more and counts as full. Else prove '..UptoSaid'. A law counts once. -/
mutual
def uptoBulk {H : Type} : DataW H → Nat
  | .lit (.string bytes) => bytes.length + 1
  | .lit _ => 1
  | .nil => 1
  | .ptr d => uptoBulk d + 1
  | .slice elems spare => uptoBulkAll elems + uptoBulkAll spare + 1
  | .agg parts => uptoBulkAll parts + 1
  | .iface _ d => uptoBulk d + 1
  | .map entries => uptoBulkEntries entries + 1
  | .held _ => 1
def uptoBulkAll {H : Type} : List (DataW H) → Nat
  | [] => 0
  | d :: r => uptoBulk d + uptoBulkAll r
def uptoBulkEntries {H : Type} : List (Lit × DataW H) → Nat
  | [] => 0
  | x :: r => uptoBulkEntry x + uptoBulkEntries r
def uptoBulkEntry {H : Type} : Lit × DataW H → Nat
  | (.string bytes, d) => bytes.length + uptoBulk d + 1
  | (_, d) => uptoBulk d + 1
 end
def uptoSmall : (H : Type) → List (DataW H) → Bool := fun _ ds => decide (uptoBulkAll ds ≤ 1048576)
def OpenSpec.upto (s : _root_.Go.ChangeSpec) : _root_.Go.OpenSpec := { _root_.Go.OpenSpec.ofChange s with cond := some uptoSmall }

/-- 'laws.FnExactValidLayer', WHERE WHAT IT READS IS OF BULK AT MOST 1048576: true; the input reads as it did. -/
def fnExactValidLayerUptoRow : OpenClaim := { program := "ytjfbhjnkojnmcaa", sum := "e0d7bcf92b8c09aad4756778a2cd5010cba46b9e6e2d5241521278763c1ee484", func := "loop.example/g01213/laws.FnExactValidLayer", spec := "fnExactValidLayer", apart := false, narrowed := true }
def FnExactValidLayerUptoSaid : Prop := fnExactValidLayerUptoRow.holds Try.pinned (OpenSpec.upto fnExactValidLayerSpec)

/-- 'laws.FnExactLayerOf', WHERE WHAT IT READS IS OF BULK AT MOST 1048576: true; the input reads as it did. -/
def fnExactLayerOfUptoRow : OpenClaim := { program := "ytjfbhjnkojnmcaa", sum := "e0d7bcf92b8c09aad4756778a2cd5010cba46b9e6e2d5241521278763c1ee484", func := "loop.example/g01213/laws.FnExactLayerOf", spec := "fnExactLayerOf", apart := false, narrowed := true }
def FnExactLayerOfUptoSaid : Prop := fnExactLayerOfUptoRow.holds Try.pinned (OpenSpec.upto fnExactLayerOfSpec)

/-- 'laws.FnExactRatioCurve', WHERE WHAT IT READS IS OF BULK AT MOST 1048576: true; the input reads as it did. -/
def fnExactRatioCurveUptoRow : OpenClaim := { program := "ytjfbhjnkojnmcaa", sum := "e0d7bcf92b8c09aad4756778a2cd5010cba46b9e6e2d5241521278763c1ee484", func := "loop.example/g01213/laws.FnExactRatioCurve", spec := "fnExactRatioCurve", inPlace := ["math.Float64bits", "math.Float64frombits"], unfollowed := true, recurses := true, apart := false, narrowed := true }
def FnExactRatioCurveUptoSaid : Prop := fnExactRatioCurveUptoRow.holds Try.pinned (OpenSpec.upto fnExactRatioCurveSpec)

/-- 'laws.FnExactPaintOver', WHERE WHAT IT READS IS OF BULK AT MOST 1048576: true; the input reads as it did. -/
def fnExactPaintOverUptoRow : OpenClaim := { program := "ytjfbhjnkojnmcaa", sum := "e0d7bcf92b8c09aad4756778a2cd5010cba46b9e6e2d5241521278763c1ee484", func := "loop.example/g01213/laws.FnExactPaintOver", spec := "fnExactPaintOver", inPlace := ["math.Float64bits", "math.Float64frombits"], unfollowed := true, recurses := true, apart := false, narrowed := true }
def FnExactPaintOverUptoSaid : Prop := fnExactPaintOverUptoRow.holds Try.pinned (OpenSpec.upto fnExactPaintOverSpec)

/-- 'laws.FnExactValidPress', WHERE WHAT IT READS IS OF BULK AT MOST 1048576: true; the input reads as it did. -/
def fnExactValidPressUptoRow : OpenClaim := { program := "ytjfbhjnkojnmcaa", sum := "e0d7bcf92b8c09aad4756778a2cd5010cba46b9e6e2d5241521278763c1ee484", func := "loop.example/g01213/laws.FnExactValidPress", spec := "fnExactValidPress", apart := false, narrowed := true }
def FnExactValidPressUptoSaid : Prop := fnExactValidPressUptoRow.holds Try.pinned (OpenSpec.upto fnExactValidPressSpec)

/-- 'laws.FnExactValidCover', WHERE WHAT IT READS IS OF BULK AT MOST 1048576: true; the input reads as it did. -/
def fnExactValidCoverUptoRow : OpenClaim := { program := "ytjfbhjnkojnmcaa", sum := "e0d7bcf92b8c09aad4756778a2cd5010cba46b9e6e2d5241521278763c1ee484", func := "loop.example/g01213/laws.FnExactValidCover", spec := "fnExactValidCover", apart := false, narrowed := true }
def FnExactValidCoverUptoSaid : Prop := fnExactValidCoverUptoRow.holds Try.pinned (OpenSpec.upto fnExactValidCoverSpec)

/-- 'laws.FnExactKeyOf', WHERE WHAT IT READS IS OF BULK AT MOST 1048576: true; the input reads as it did. -/
def fnExactKeyOfUptoRow : OpenClaim := { program := "ytjfbhjnkojnmcaa", sum := "e0d7bcf92b8c09aad4756778a2cd5010cba46b9e6e2d5241521278763c1ee484", func := "loop.example/g01213/laws.FnExactKeyOf", spec := "fnExactKeyOf", apart := false, narrowed := true }
def FnExactKeyOfUptoSaid : Prop := fnExactKeyOfUptoRow.holds Try.pinned (OpenSpec.upto fnExactKeyOfSpec)

/-- 'laws.FnExactNumberOfKey', WHERE WHAT IT READS IS OF BULK AT MOST 1048576: true; the input reads as it did. -/
def fnExactNumberOfKeyUptoRow : OpenClaim := { program := "ytjfbhjnkojnmcaa", sum := "e0d7bcf92b8c09aad4756778a2cd5010cba46b9e6e2d5241521278763c1ee484", func := "loop.example/g01213/laws.FnExactNumberOfKey", spec := "fnExactNumberOfKey", apart := false, narrowed := true }
def FnExactNumberOfKeyUptoSaid : Prop := fnExactNumberOfKeyUptoRow.holds Try.pinned (OpenSpec.upto fnExactNumberOfKeySpec)

/-- 'laws.FnExactOverprintOf', WHERE WHAT IT READS IS OF BULK AT MOST 1048576: true; the input reads as it did. -/
def fnExactOverprintOfUptoRow : OpenClaim := { program := "ytjfbhjnkojnmcaa", sum := "e0d7bcf92b8c09aad4756778a2cd5010cba46b9e6e2d5241521278763c1ee484", func := "loop.example/g01213/laws.FnExactOverprintOf", spec := "fnExactOverprintOf", apart := false, narrowed := true }
def FnExactOverprintOfUptoSaid : Prop := fnExactOverprintOfUptoRow.holds Try.pinned (OpenSpec.upto fnExactOverprintOfSpec)

/-- 'laws.FnExactGainAt', WHERE WHAT IT READS IS OF BULK AT MOST 1048576: true; the input reads as it did. -/
def fnExactGainAtUptoRow : OpenClaim := { program := "ytjfbhjnkojnmcaa", sum := "e0d7bcf92b8c09aad4756778a2cd5010cba46b9e6e2d5241521278763c1ee484", func := "loop.example/g01213/laws.FnExactGainAt", spec := "fnExactGainAt", unfollowed := true, recurses := true, apart := false, narrowed := true }
def FnExactGainAtUptoSaid : Prop := fnExactGainAtUptoRow.holds Try.pinned (OpenSpec.upto fnExactGainAtSpec)

/-- 'laws.FnExactSameLayer', WHERE WHAT IT READS IS OF BULK AT MOST 1048576: true; the input reads as it did. -/
def fnExactSameLayerUptoRow : OpenClaim := { program := "ytjfbhjnkojnmcaa", sum := "e0d7bcf92b8c09aad4756778a2cd5010cba46b9e6e2d5241521278763c1ee484", func := "loop.example/g01213/laws.FnExactSameLayer", spec := "fnExactSameLayer", inPlace := ["math.Float32bits"], apart := false, narrowed := true }
def FnExactSameLayerUptoSaid : Prop := fnExactSameLayerUptoRow.holds Try.pinned (OpenSpec.upto fnExactSameLayerSpec)

/-- 'laws.FnExactSamePress', WHERE WHAT IT READS IS OF BULK AT MOST 1048576: true; the input reads as it did. -/
def fnExactSamePressUptoRow : OpenClaim := { program := "ytjfbhjnkojnmcaa", sum := "e0d7bcf92b8c09aad4756778a2cd5010cba46b9e6e2d5241521278763c1ee484", func := "loop.example/g01213/laws.FnExactSamePress", spec := "fnExactSamePress", inPlace := ["math.Float32bits"], apart := false, narrowed := true }
def FnExactSamePressUptoSaid : Prop := fnExactSamePressUptoRow.holds Try.pinned (OpenSpec.upto fnExactSamePressSpec)

end Rows
end Go.Proofs.Ytjfbhjnkojnmcaa
