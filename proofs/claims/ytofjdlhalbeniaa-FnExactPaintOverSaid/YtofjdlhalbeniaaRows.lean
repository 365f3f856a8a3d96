/-
  No cell of these rows narrows 'for every input' (looked for: loops, veiled, ifaces, maps, wideKeys, modest, calm, conditions, laid).
  DERIVED. THE GIVEN ROWS OF THIS SEAT. 12 by the template 'for every input the law returns true; each argument reads behind the call as it read before'; 0 by the template 'total and deterministic' (their statements: YtofjdlhalbeniaaTotals.lean).
  GIVEN WITH THE SEED: the statements are not yours to turn. If you find one false, say at which input.
  Laid BY PROGRAM, IN A SANDBOX (cutbox-rows.mjs): the forced cells as the released guide's own fill.sh prints them over the translation 4027fba32ff9f21f… (all of the seat's roots in one cut). By AI agents, Wed Nov 11 2026. No macro, syntax, notation, axiom, sorry.
-/
import Derived.Test.YtofjdlhalbeniaaChecked
import GoSem.Claim
import GoSem.ClaimJoined
import GoSem.ClaimMapViews
import Derived.JoinedTies
import Derived.KernelRfl
namespace Go.Proofs.Ytofjdlhalbeniaa
/- THE CELL 'sum', in the pinned program and in every row, IS THE sha256 OF THE DUMP (.gsa) THAT YtofjdlhalbeniaaProg.lean LOADS. Nothing in Lean hashes anything: it is a label: what it is worth is what the hold of that sum in a sandbox is worth. -/
noncomputable def Try.pinned : Pinned := { name := "ytofjdlhalbeniaa", sum := "4027fba32ff9f21fcec877b963c609fe2e4e697db77d63a9d192d1097fce68fb", checked := Try.checked }
namespace Rows
def none {H : Type} : Left H := { results := [], args := [] }

/-- 'laws.FnExactSumOfCurve': WHATEVER THE INPUT: true; the input reads as it did. -/
def fnExactSumOfCurveSpec : ChangeSpec := { name := "fnExactSumOfCurve", fn := fun _ => fun
  | [d] => { results := [.lit (.bool true)], args := [d] }
  | _ => none }
def fnExactSumOfCurveRow : OpenClaim := { program := "ytofjdlhalbeniaa", sum := "4027fba32ff9f21fcec877b963c609fe2e4e697db77d63a9d192d1097fce68fb", func := "loop.example/g01213/laws.FnExactSumOfCurve", spec := "fnExactSumOfCurve", apart := false }
def FnExactSumOfCurveSaid : Prop := fnExactSumOfCurveRow.holds Try.pinned (OpenSpec.ofChange fnExactSumOfCurveSpec)

/-- ITS FALSE NEIGHBOUR: 'it returns false'. Refute it at one input. -/
def fnExactSumOfCurveWrong : ChangeSpec := { name := "fnExactSumOfCurve", fn := fun _ => fun
  | [d] => { results := [.lit (.bool false)], args := [d] }
  | _ => none }
def FnExactSumOfCurveWrongFalsely : Prop := fnExactSumOfCurveRow.holds Try.pinned (OpenSpec.ofChange fnExactSumOfCurveWrong)

/-- 'laws.FnExactDotOfCurves': WHATEVER THE INPUT: true; the input reads as it did. -/
def fnExactDotOfCurvesSpec : ChangeSpec := { name := "fnExactDotOfCurves", fn := fun _ => fun
  | [d1, d2] => { results := [.lit (.bool true)], args := [d1, d2] }
  | _ => none }
def fnExactDotOfCurvesRow : OpenClaim := { program := "ytofjdlhalbeniaa", sum := "4027fba32ff9f21fcec877b963c609fe2e4e697db77d63a9d192d1097fce68fb", func := "loop.example/g01213/laws.FnExactDotOfCurves", spec := "fnExactDotOfCurves", apart := false }
def FnExactDotOfCurvesSaid : Prop := fnExactDotOfCurvesRow.holds Try.pinned (OpenSpec.ofChange fnExactDotOfCurvesSpec)

/-- ITS FALSE NEIGHBOUR: 'it returns false'. Refute it at one input. -/
def fnExactDotOfCurvesWrong : ChangeSpec := { name := "fnExactDotOfCurves", fn := fun _ => fun
  | [d1, d2] => { results := [.lit (.bool false)], args := [d1, d2] }
  | _ => none }
def FnExactDotOfCurvesWrongFalsely : Prop := fnExactDotOfCurvesRow.holds Try.pinned (OpenSpec.ofChange fnExactDotOfCurvesWrong)

/-- 'laws.FnExactSeenUnder': WHATEVER THE INPUT: true; the input reads as it did. -/
def fnExactSeenUnderSpec : ChangeSpec := { name := "fnExactSeenUnder", fn := fun _ => fun
  | [d1, d2] => { results := [.lit (.bool true)], args := [d1, d2] }
  | _ => none }
def fnExactSeenUnderRow : OpenClaim := { program := "ytofjdlhalbeniaa", sum := "4027fba32ff9f21fcec877b963c609fe2e4e697db77d63a9d192d1097fce68fb", func := "loop.example/g01213/laws.FnExactSeenUnder", spec := "fnExactSeenUnder", inPlace := ["math.Float64bits", "math.Float64frombits"], unfollowed := true, recurses := true, apart := false }
def FnExactSeenUnderSaid : Prop := fnExactSeenUnderRow.holds Try.pinned (OpenSpec.ofChange fnExactSeenUnderSpec)

/-- ITS FALSE NEIGHBOUR: 'it returns false'. Refute it at one input. -/
def fnExactSeenUnderWrong : ChangeSpec := { name := "fnExactSeenUnder", fn := fun _ => fun
  | [d1, d2] => { results := [.lit (.bool false)], args := [d1, d2] }
  | _ => none }
def FnExactSeenUnderWrongFalsely : Prop := fnExactSeenUnderRow.holds Try.pinned (OpenSpec.ofChange fnExactSeenUnderWrong)

/-- 'laws.FnExactLeastOf': WHATEVER THE INPUT: true; the input reads as it did. -/
def fnExactLeastOfSpec : ChangeSpec := { name := "fnExactLeastOf", fn := fun _ => fun
  | [d] => { results := [.lit (.bool true)], args := [d] }
  | _ => none }
def fnExactLeastOfRow : OpenClaim := { program := "ytofjdlhalbeniaa", sum := "4027fba32ff9f21fcec877b963c609fe2e4e697db77d63a9d192d1097fce68fb", func := "loop.example/g01213/laws.FnExactLeastOf", spec := "fnExactLeastOf", inPlace := ["math.Float64frombits"], unfollowed := true, recurses := true, apart := false }
def FnExactLeastOfSaid : Prop := fnExactLeastOfRow.holds Try.pinned (OpenSpec.ofChange fnExactLeastOfSpec)

/-- ITS FALSE NEIGHBOUR: 'it returns false'. Refute it at one input. -/
def fnExactLeastOfWrong : ChangeSpec := { name := "fnExactLeastOf", fn := fun _ => fun
  | [d] => { results := [.lit (.bool false)], args := [d] }
  | _ => none }
def FnExactLeastOfWrongFalsely : Prop := fnExactLeastOfRow.holds Try.pinned (OpenSpec.ofChange fnExactLeastOfWrong)

/-- 'laws.FnExactGreatestOf': WHATEVER THE INPUT: true; the input reads as it did. -/
def fnExactGreatestOfSpec : ChangeSpec := { name := "fnExactGreatestOf", fn := fun _ => fun
  | [d] => { results := [.lit (.bool true)], args := [d] }
  | _ => none }
def fnExactGreatestOfRow : OpenClaim := { program := "ytofjdlhalbeniaa", sum := "4027fba32ff9f21fcec877b963c609fe2e4e697db77d63a9d192d1097fce68fb", func := "loop.example/g01213/laws.FnExactGreatestOf", spec := "fnExactGreatestOf", inPlace := ["math.Float64frombits"], unfollowed := true, recurses := true, apart := false }
def FnExactGreatestOfSaid : Prop := fnExactGreatestOfRow.holds Try.pinned (OpenSpec.ofChange fnExactGreatestOfSpec)

/-- ITS FALSE NEIGHBOUR: 'it returns false'. Refute it at one input. -/
def fnExactGreatestOfWrong : ChangeSpec := { name := "fnExactGreatestOf", fn := fun _ => fun
  | [d] => { results := [.lit (.bool false)], args := [d] }
  | _ => none }
def FnExactGreatestOfWrongFalsely : Prop := fnExactGreatestOfRow.holds Try.pinned (OpenSpec.ofChange fnExactGreatestOfWrong)

/-- 'laws.FnExactCubeRoot': WHATEVER THE INPUT: true; the input reads as it did. -/
def fnExactCubeRootSpec : ChangeSpec := { name := "fnExactCubeRoot", fn := fun _ => fun
  | [d] => { results := [.lit (.bool true)], args := [d] }
  | _ => none }
def fnExactCubeRootRow : OpenClaim := { program := "ytofjdlhalbeniaa", sum := "4027fba32ff9f21fcec877b963c609fe2e4e697db77d63a9d192d1097fce68fb", func := "loop.example/g01213/laws.FnExactCubeRoot", spec := "fnExactCubeRoot", inPlace := ["math.Float64bits", "math.Float64frombits"], apart := false }
def FnExactCubeRootSaid : Prop := fnExactCubeRootRow.holds Try.pinned (OpenSpec.ofChange fnExactCubeRootSpec)

/-- ITS FALSE NEIGHBOUR: 'it returns false'. Refute it at one input. -/
def fnExactCubeRootWrong : ChangeSpec := { name := "fnExactCubeRoot", fn := fun _ => fun
  | [d] => { results := [.lit (.bool false)], args := [d] }
  | _ => none }
def FnExactCubeRootWrongFalsely : Prop := fnExactCubeRootRow.holds Try.pinned (OpenSpec.ofChange fnExactCubeRootWrong)

/-- 'laws.FnExactPowerOf': WHATEVER THE INPUT: true; the input reads as it did. -/
def fnExactPowerOfSpec : ChangeSpec := { name := "fnExactPowerOf", fn := fun _ => fun
  | [d1, d2] => { results := [.lit (.bool true)], args := [d1, d2] }
  | _ => none }
def fnExactPowerOfRow : OpenClaim := { program := "ytofjdlhalbeniaa", sum := "4027fba32ff9f21fcec877b963c609fe2e4e697db77d63a9d192d1097fce68fb", func := "loop.example/g01213/laws.FnExactPowerOf", spec := "fnExactPowerOf", inPlace := ["math.archFloor", "math.Float64bits", "math.Float64frombits", "math.archTrunc"], apart := false }
def FnExactPowerOfSaid : Prop := fnExactPowerOfRow.holds Try.pinned (OpenSpec.ofChange fnExactPowerOfSpec)

/-- ITS FALSE NEIGHBOUR: 'it returns false'. Refute it at one input. -/
def fnExactPowerOfWrong : ChangeSpec := { name := "fnExactPowerOf", fn := fun _ => fun
  | [d1, d2] => { results := [.lit (.bool false)], args := [d1, d2] }
  | _ => none }
def FnExactPowerOfWrongFalsely : Prop := fnExactPowerOfRow.holds Try.pinned (OpenSpec.ofChange fnExactPowerOfWrong)

/-- 'laws.FnExactLookOf': WHATEVER THE INPUT: true; the input reads as it did. -/
def fnExactLookOfSpec : ChangeSpec := { name := "fnExactLookOf", fn := fun _ => fun
  | [d] => { results := [.lit (.bool true)], args := [d] }
  | _ => none }
def fnExactLookOfRow : OpenClaim := { program := "ytofjdlhalbeniaa", sum := "4027fba32ff9f21fcec877b963c609fe2e4e697db77d63a9d192d1097fce68fb", func := "loop.example/g01213/laws.FnExactLookOf", spec := "fnExactLookOf", inPlace := ["math.Float64bits", "math.Float64frombits"], apart := false }
def FnExactLookOfSaid : Prop := fnExactLookOfRow.holds Try.pinned (OpenSpec.ofChange fnExactLookOfSpec)

/-- ITS FALSE NEIGHBOUR: 'it returns false'. Refute it at one input. -/
def fnExactLookOfWrong : ChangeSpec := { name := "fnExactLookOf", fn := fun _ => fun
  | [d] => { results := [.lit (.bool false)], args := [d] }
  | _ => none }
def FnExactLookOfWrongFalsely : Prop := fnExactLookOfRow.holds Try.pinned (OpenSpec.ofChange fnExactLookOfWrong)

/-- 'laws.FnExactLookUnder': WHATEVER THE INPUT: true; the input reads as it did. -/
def fnExactLookUnderSpec : ChangeSpec := { name := "fnExactLookUnder", fn := fun _ => fun
  | [d1, d2] => { results := [.lit (.bool true)], args := [d1, d2] }
  | _ => none }
def fnExactLookUnderRow : OpenClaim := { program := "ytofjdlhalbeniaa", sum := "4027fba32ff9f21fcec877b963c609fe2e4e697db77d63a9d192d1097fce68fb", func := "loop.example/g01213/laws.FnExactLookUnder", spec := "fnExactLookUnder", inPlace := ["math.Float64bits", "math.Float64frombits"], unfollowed := true, recurses := true, apart := false }
def FnExactLookUnderSaid : Prop := fnExactLookUnderRow.holds Try.pinned (OpenSpec.ofChange fnExactLookUnderSpec)

/-- ITS FALSE NEIGHBOUR: 'it returns false'. Refute it at one input. -/
def fnExactLookUnderWrong : ChangeSpec := { name := "fnExactLookUnder", fn := fun _ => fun
  | [d1, d2] => { results := [.lit (.bool false)], args := [d1, d2] }
  | _ => none }
def FnExactLookUnderWrongFalsely : Prop := fnExactLookUnderRow.holds Try.pinned (OpenSpec.ofChange fnExactLookUnderWrong)

/-- 'laws.FnExactOffOfCurves': WHATEVER THE INPUT: true; the input reads as it did. -/
def fnExactOffOfCurvesSpec : ChangeSpec := { name := "fnExactOffOfCurves", fn := fun _ => fun
  | [d1, d2] => { results := [.lit (.bool true)], args := [d1, d2] }
  | _ => none }
def fnExactOffOfCurvesRow : OpenClaim := { program := "ytofjdlhalbeniaa", sum := "4027fba32ff9f21fcec877b963c609fe2e4e697db77d63a9d192d1097fce68fb", func := "loop.example/g01213/laws.FnExactOffOfCurves", spec := "fnExactOffOfCurves", unfollowed := true, recurses := true, apart := false }
def FnExactOffOfCurvesSaid : Prop := fnExactOffOfCurvesRow.holds Try.pinned (OpenSpec.ofChange fnExactOffOfCurvesSpec)

/-- ITS FALSE NEIGHBOUR: 'it returns false'. Refute it at one input. -/
def fnExactOffOfCurvesWrong : ChangeSpec := { name := "fnExactOffOfCurves", fn := fun _ => fun
  | [d1, d2] => { results := [.lit (.bool false)], args := [d1, d2] }
  | _ => none }
def FnExactOffOfCurvesWrongFalsely : Prop := fnExactOffOfCurvesRow.holds Try.pinned (OpenSpec.ofChange fnExactOffOfCurvesWrong)

/-- 'laws.FnExactFilmOf': WHATEVER THE INPUT: true; the input reads as it did. -/
def fnExactFilmOfSpec : ChangeSpec := { name := "fnExactFilmOf", fn := fun _ => fun
  | [d] => { results := [.lit (.bool true)], args := [d] }
  | _ => none }
def fnExactFilmOfRow : OpenClaim := { program := "ytofjdlhalbeniaa", sum := "4027fba32ff9f21fcec877b963c609fe2e4e697db77d63a9d192d1097fce68fb", func := "loop.example/g01213/laws.FnExactFilmOf", spec := "fnExactFilmOf", inPlace := ["math.Float64bits", "math.Float64frombits"], unfollowed := true, recurses := true, apart := false }
def FnExactFilmOfSaid : Prop := fnExactFilmOfRow.holds Try.pinned (OpenSpec.ofChange fnExactFilmOfSpec)

/-- ITS FALSE NEIGHBOUR: 'it returns false'. Refute it at one input. -/
def fnExactFilmOfWrong : ChangeSpec := { name := "fnExactFilmOf", fn := fun _ => fun
  | [d] => { results := [.lit (.bool false)], args := [d] }
  | _ => none }
def FnExactFilmOfWrongFalsely : Prop := fnExactFilmOfRow.holds Try.pinned (OpenSpec.ofChange fnExactFilmOfWrong)

/-- 'laws.FnExactPaintOver': WHATEVER THE INPUT: true; the input reads as it did. -/
def fnExactPaintOverSpec : ChangeSpec := { name := "fnExactPaintOver", fn := fun _ => fun
  | [d1, d2] => { results := [.lit (.bool true)], args := [d1, d2] }
  | _ => none }
def fnExactPaintOverRow : OpenClaim := { program := "ytofjdlhalbeniaa", sum := "4027fba32ff9f21fcec877b963c609fe2e4e697db77d63a9d192d1097fce68fb", func := "loop.example/g01213/laws.FnExactPaintOver", spec := "fnExactPaintOver", inPlace := ["math.Float64bits", "math.Float64frombits"], unfollowed := true, recurses := true, apart := false }
def FnExactPaintOverSaid : Prop := fnExactPaintOverRow.holds Try.pinned (OpenSpec.ofChange fnExactPaintOverSpec)

/-- ITS FALSE NEIGHBOUR: 'it returns false'. Refute it at one input. -/
def fnExactPaintOverWrong : ChangeSpec := { name := "fnExactPaintOver", fn := fun _ => fun
  | [d1, d2] => { results := [.lit (.bool false)], args := [d1, d2] }
  | _ => none }
def FnExactPaintOverWrongFalsely : Prop := fnExactPaintOverRow.holds Try.pinned (OpenSpec.ofChange fnExactPaintOverWrong)

/- THE SECOND FORM. 'bulk': how many values and letters a reading holds, each counted each time it is reached (what is shared counts as often as it is met; a slice's spare places count too). A statement '..UptoSaid' is the law's where the arguments, and the package variables that the reading takes, are together of bulk at most 1048576: NARROWER than '..Said'. Prove '..Said' where nothing that the law and all that it calls make is longer than what came in: it says more and counts as full. Else prove '..UptoSaid'. A law counts once. -/
mutual
def uptoBulk {H : Type} : DataW H → Nat
  | .lit (.string bytes) => bytes.length + 1
  | .lit _ => 1
  | .nil => 1
  | .ptr d => uptoBulk d + 1
  | .slice elems spare => uptoBulkAll elems + uptoBulkAll spare + 1
  | .agg parts => uptoBulkAll parts + 1
  | .iface _ d => uptoBulk d + 1
  | .map entries => uptoBulkEntries entries + 1
  | .held _ => 1
def uptoBulkAll {H : Type} : List (DataW H) → Nat
  | [] => 0
  | d :: r => uptoBulk d + uptoBulkAll r
def uptoBulkEntries {H : Type} : List (Lit × DataW H) → Nat
  | [] => 0
  | x :: r => uptoBulkEntry x + uptoBulkEntries r
def uptoBulkEntry {H : Type} : Lit × DataW H → Nat
  | (.string bytes, d) => bytes.length + uptoBulk d + 1
  | (_, d) => uptoBulk d + 1
 end
def uptoSmall : (H : Type) → List (DataW H) → Bool := fun _ ds => decide (uptoBulkAll ds ≤ 1048576)
def OpenSpec.upto (s : _root_.Go.ChangeSpec) : _root_.Go.OpenSpec := { _root_.Go.OpenSpec.ofChange s with cond := some uptoSmall }

/-- 'laws.FnExactSumOfCurve', WHERE WHAT IT READS IS OF BULK AT MOST 1048576: true; the input reads as it did. -/
def fnExactSumOfCurveUptoRow : OpenClaim := { program := "ytofjdlhalbeniaa", sum := "4027fba32ff9f21fcec877b963c609fe2e4e697db77d63a9d192d1097fce68fb", func := "loop.example/g01213/laws.FnExactSumOfCurve", spec := "fnExactSumOfCurve", apart := false, narrowed := true }
def FnExactSumOfCurveUptoSaid : Prop := fnExactSumOfCurveUptoRow.holds Try.pinned (OpenSpec.upto fnExactSumOfCurveSpec)

/-- 'laws.FnExactDotOfCurves', WHERE WHAT IT READS IS OF BULK AT MOST 1048576: true; the input reads as it did. -/
def fnExactDotOfCurvesUptoRow : OpenClaim := { program := "ytofjdlhalbeniaa", sum := "4027fba32ff9f21fcec877b963c609fe2e4e697db77d63a9d192d1097fce68fb", func := "loop.example/g01213/laws.FnExactDotOfCurves", spec := "fnExactDotOfCurves", apart := false, narrowed := true }
def FnExactDotOfCurvesUptoSaid : Prop := fnExactDotOfCurvesUptoRow.holds Try.pinned (OpenSpec.upto fnExactDotOfCurvesSpec)

/-- 'laws.FnExactSeenUnder', WHERE WHAT IT READS IS OF BULK AT MOST 1048576: true; the input reads as it did. -/
def fnExactSeenUnderUptoRow : OpenClaim := { program := "ytofjdlhalbeniaa", sum := "4027fba32ff9f21fcec877b963c609fe2e4e697db77d63a9d192d1097fce68fb", func := "loop.example/g01213/laws.FnExactSeenUnder", spec := "fnExactSeenUnder", inPlace := ["math.Float64bits", "math.Float64frombits"], unfollowed := true, recurses := true, apart := false, narrowed := true }
def FnExactSeenUnderUptoSaid : Prop := fnExactSeenUnderUptoRow.holds Try.pinned (OpenSpec.upto fnExactSeenUnderSpec)

/-- 'laws.FnExactLeastOf', WHERE WHAT IT READS IS OF BULK AT MOST 1048576: true; the input reads as it did. -/
def fnExactLeastOfUptoRow : OpenClaim := { program := "ytofjdlhalbeniaa", sum := "4027fba32ff9f21fcec877b963c609fe2e4e697db77d63a9d192d1097fce68fb", func := "loop.example/g01213/laws.FnExactLeastOf", spec := "fnExactLeastOf", inPlace := ["math.Float64frombits"], unfollowed := true, recurses := true, apart := false, narrowed := true }
def FnExactLeastOfUptoSaid : Prop := fnExactLeastOfUptoRow.holds Try.pinned (OpenSpec.upto fnExactLeastOfSpec)

/-- 'laws.FnExactGreatestOf', WHERE WHAT IT READS IS OF BULK AT MOST 1048576: true; the input reads as it did. -/
def fnExactGreatestOfUptoRow : OpenClaim := { program := "ytofjdlhalbeniaa", sum := "4027fba32ff9f21fcec877b963c609fe2e4e697db77d63a9d192d1097fce68fb", func := "loop.example/g01213/laws.FnExactGreatestOf", spec := "fnExactGreatestOf", inPlace := ["math.Float64frombits"], unfollowed := true, recurses := true, apart := false, narrowed := true }
def FnExactGreatestOfUptoSaid : Prop := fnExactGreatestOfUptoRow.holds Try.pinned (OpenSpec.upto fnExactGreatestOfSpec)

/-- 'laws.FnExactCubeRoot', WHERE WHAT IT READS IS OF BULK AT MOST 1048576: true; the input reads as it did. -/
def fnExactCubeRootUptoRow : OpenClaim := { program := "ytofjdlhalbeniaa", sum := "4027fba32ff9f21fcec877b963c609fe2e4e697db77d63a9d192d1097fce68fb", func := "loop.example/g01213/laws.FnExactCubeRoot", spec := "fnExactCubeRoot", inPlace := ["math.Float64bits", "math.Float64frombits"], apart := false, narrowed := true }
def FnExactCubeRootUptoSaid : Prop := fnExactCubeRootUptoRow.holds Try.pinned (OpenSpec.upto fnExactCubeRootSpec)

/-- 'laws.FnExactPowerOf', WHERE WHAT IT READS IS OF BULK AT MOST 1048576: true; the input reads as it did. -/
def fnExactPowerOfUptoRow : OpenClaim := { program := "ytofjdlhalbeniaa", sum := "4027fba32ff9f21fcec877b963c609fe2e4e697db77d63a9d192d1097fce68fb", func := "loop.example/g01213/laws.FnExactPowerOf", spec := "fnExactPowerOf", inPlace := ["math.archFloor", "math.Float64bits", "math.Float64frombits", "math.archTrunc"], apart := false, narrowed := true }
def FnExactPowerOfUptoSaid : Prop := fnExactPowerOfUptoRow.holds Try.pinned (OpenSpec.upto fnExactPowerOfSpec)

/-- 'laws.FnExactLookOf', WHERE WHAT IT READS IS OF BULK AT MOST 1048576: true; the input reads as it did. -/
def fnExactLookOfUptoRow : OpenClaim := { program := "ytofjdlhalbeniaa", sum := "4027fba32ff9f21fcec877b963c609fe2e4e697db77d63a9d192d1097fce68fb", func := "loop.example/g01213/laws.FnExactLookOf", spec := "fnExactLookOf", inPlace := ["math.Float64bits", "math.Float64frombits"], apart := false, narrowed := true }
def FnExactLookOfUptoSaid : Prop := fnExactLookOfUptoRow.holds Try.pinned (OpenSpec.upto fnExactLookOfSpec)

/-- 'laws.FnExactLookUnder', WHERE WHAT IT READS IS OF BULK AT MOST 1048576: true; the input reads as it did. -/
def fnExactLookUnderUptoRow : OpenClaim := { program := "ytofjdlhalbeniaa", sum := "4027fba32ff9f21fcec877b963c609fe2e4e697db77d63a9d192d1097fce68fb", func := "loop.example/g01213/laws.FnExactLookUnder", spec := "fnExactLookUnder", inPlace := ["math.Float64bits", "math.Float64frombits"], unfollowed := true, recurses := true, apart := false, narrowed := true }
def FnExactLookUnderUptoSaid : Prop := fnExactLookUnderUptoRow.holds Try.pinned (OpenSpec.upto fnExactLookUnderSpec)

/-- 'laws.FnExactOffOfCurves', WHERE WHAT IT READS IS OF BULK AT MOST 1048576: true; the input reads as it did. -/
def fnExactOffOfCurvesUptoRow : OpenClaim := { program := "ytofjdlhalbeniaa", sum := "4027fba32ff9f21fcec877b963c609fe2e4e697db77d63a9d192d1097fce68fb", func := "loop.example/g01213/laws.FnExactOffOfCurves", spec := "fnExactOffOfCurves", unfollowed := true, recurses := true, apart := false, narrowed := true }
def FnExactOffOfCurvesUptoSaid : Prop := fnExactOffOfCurvesUptoRow.holds Try.pinned (OpenSpec.upto fnExactOffOfCurvesSpec)

/-- 'laws.FnExactFilmOf', WHERE WHAT IT READS IS OF BULK AT MOST 1048576: true; the input reads as it did. -/
def fnExactFilmOfUptoRow : OpenClaim := { program := "ytofjdlhalbeniaa", sum := "4027fba32ff9f21fcec877b963c609fe2e4e697db77d63a9d192d1097fce68fb", func := "loop.example/g01213/laws.FnExactFilmOf", spec := "fnExactFilmOf", inPlace := ["math.Float64bits", "math.Float64frombits"], unfollowed := true, recurses := true, apart := false, narrowed := true }
def FnExactFilmOfUptoSaid : Prop := fnExactFilmOfUptoRow.holds Try.pinned (OpenSpec.upto fnExactFilmOfSpec)

/-- 'laws.FnExactPaintOver', WHERE WHAT IT READS IS OF BULK AT MOST 1048576: true; the input reads as it did. -/
def fnExactPaintOverUptoRow : OpenClaim := { program := "ytofjdlhalbeniaa", sum := "4027fba32ff9f21fcec877b963c609fe2e4e697db77d63a9d192d1097fce68fb", func := "loop.example/g01213/laws.FnExactPaintOver", spec := "fnExactPaintOver", inPlace := ["math.Float64bits", "math.Float64frombits"], unfollowed := true, recurses := true, apart := false, narrowed := true }
def FnExactPaintOverUptoSaid : Prop := fnExactPaintOverUptoRow.holds Try.pinned (OpenSpec.upto fnExactPaintOverSpec)

end Rows
end Go.Proofs.Ytofjdlhalbeniaa
