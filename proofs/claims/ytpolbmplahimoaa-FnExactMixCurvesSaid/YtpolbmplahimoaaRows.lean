/-
  No cell of these rows narrows 'for every input' (looked for: loops, veiled, ifaces, maps, wideKeys, modest, calm, conditions, laid).
  DERIVED. THE GIVEN ROWS OF THIS SEAT. 12 by the template 'for every input the law returns true; each argument reads behind the call as it read before'; 0 by the template 'total and deterministic' (their statements: YtpolbmplahimoaaTotals.lean).
  GIVEN WITH THE SEED: the statements are not yours to turn. If you find one false, say at which input.
  Laid BY PROGRAM, IN A SANDBOX (cutbox-rows.mjs): the forced cells as the released guide's own fill.sh prints them over the translation 5afbad81b5f134f6… (all of the seat's roots in one cut). By AI agents, Wed Nov 11 2026. No macro, syntax, notation, axiom, sorry.
-/
import Derived.Test.YtpolbmplahimoaaChecked
import GoSem.Claim
import GoSem.ClaimJoined
import GoSem.ClaimMapViews
import Derived.JoinedTies
import Derived.KernelRfl
namespace Go.Proofs.Ytpolbmplahimoaa
/- THE CELL 'sum', in the pinned program and in every row, IS THE sha256 OF THE DUMP (.gsa) THAT YtpolbmplahimoaaProg.lean LOADS. Nothing in Lean hashes anything: it is a label: what it is worth is what the hold of that sum in a sandbox is worth. -/
noncomputable def Try.pinned : Pinned := { name := "ytpolbmplahimoaa", sum := "5afbad81b5f134f643d2a848fd63ad1aea8ea2533f460698c0a61edf10fc938f", checked := Try.checked }
namespace Rows
def none {H : Type} : Left H := { results := [], args := [] }

/-- 'laws.FnExactSameNumber': WHATEVER THE INPUT: true; the input reads as it did. -/
def fnExactSameNumberSpec : ChangeSpec := { name := "fnExactSameNumber", fn := fun _ => fun
  | [d1, d2] => { results := [.lit (.bool true)], args := [d1, d2] }
  | _ => none }
def fnExactSameNumberRow : OpenClaim := { program := "ytpolbmplahimoaa", sum := "5afbad81b5f134f643d2a848fd63ad1aea8ea2533f460698c0a61edf10fc938f", func := "loop.example/g01213/laws.FnExactSameNumber", spec := "fnExactSameNumber", inPlace := ["math.Float32bits"], apart := false }
def FnExactSameNumberSaid : Prop := fnExactSameNumberRow.holds Try.pinned (OpenSpec.ofChange fnExactSameNumberSpec)

/-- ITS FALSE NEIGHBOUR: 'it returns false'. Refute it at one input. -/
def fnExactSameNumberWrong : ChangeSpec := { name := "fnExactSameNumber", fn := fun _ => fun
  | [d1, d2] => { results := [.lit (.bool false)], args := [d1, d2] }
  | _ => none }
def FnExactSameNumberWrongFalsely : Prop := fnExactSameNumberRow.holds Try.pinned (OpenSpec.ofChange fnExactSameNumberWrong)

/-- 'laws.FnExactIsFiniteCurve': WHATEVER THE INPUT: true; the input reads as it did. -/
def fnExactIsFiniteCurveSpec : ChangeSpec := { name := "fnExactIsFiniteCurve", fn := fun _ => fun
  | [d] => { results := [.lit (.bool true)], args := [d] }
  | _ => none }
def fnExactIsFiniteCurveRow : OpenClaim := { program := "ytpolbmplahimoaa", sum := "5afbad81b5f134f643d2a848fd63ad1aea8ea2533f460698c0a61edf10fc938f", func := "loop.example/g01213/laws.FnExactIsFiniteCurve", spec := "fnExactIsFiniteCurve", inPlace := ["math.Float64bits", "math.Float64frombits"], apart := false }
def FnExactIsFiniteCurveSaid : Prop := fnExactIsFiniteCurveRow.holds Try.pinned (OpenSpec.ofChange fnExactIsFiniteCurveSpec)

/-- ITS FALSE NEIGHBOUR: 'it returns false'. Refute it at one input. -/
def fnExactIsFiniteCurveWrong : ChangeSpec := { name := "fnExactIsFiniteCurve", fn := fun _ => fun
  | [d] => { results := [.lit (.bool false)], args := [d] }
  | _ => none }
def FnExactIsFiniteCurveWrongFalsely : Prop := fnExactIsFiniteCurveRow.holds Try.pinned (OpenSpec.ofChange fnExactIsFiniteCurveWrong)

/-- 'laws.FnExactSameCurve': WHATEVER THE INPUT: true; the input reads as it did. -/
def fnExactSameCurveSpec : ChangeSpec := { name := "fnExactSameCurve", fn := fun _ => fun
  | [d1, d2] => { results := [.lit (.bool true)], args := [d1, d2] }
  | _ => none }
def fnExactSameCurveRow : OpenClaim := { program := "ytpolbmplahimoaa", sum := "5afbad81b5f134f643d2a848fd63ad1aea8ea2533f460698c0a61edf10fc938f", func := "loop.example/g01213/laws.FnExactSameCurve", spec := "fnExactSameCurve", inPlace := ["math.Float32bits"], apart := false }
def FnExactSameCurveSaid : Prop := fnExactSameCurveRow.holds Try.pinned (OpenSpec.ofChange fnExactSameCurveSpec)

/-- ITS FALSE NEIGHBOUR: 'it returns false'. Refute it at one input. -/
def fnExactSameCurveWrong : ChangeSpec := { name := "fnExactSameCurve", fn := fun _ => fun
  | [d1, d2] => { results := [.lit (.bool false)], args := [d1, d2] }
  | _ => none }
def FnExactSameCurveWrongFalsely : Prop := fnExactSameCurveRow.holds Try.pinned (OpenSpec.ofChange fnExactSameCurveWrong)

/-- 'laws.FnExactFlatCurve': WHATEVER THE INPUT: true; the input reads as it did. -/
def fnExactFlatCurveSpec : ChangeSpec := { name := "fnExactFlatCurve", fn := fun _ => fun
  | [d] => { results := [.lit (.bool true)], args := [d] }
  | _ => none }
def fnExactFlatCurveRow : OpenClaim := { program := "ytpolbmplahimoaa", sum := "5afbad81b5f134f643d2a848fd63ad1aea8ea2533f460698c0a61edf10fc938f", func := "loop.example/g01213/laws.FnExactFlatCurve", spec := "fnExactFlatCurve", apart := false }
def FnExactFlatCurveSaid : Prop := fnExactFlatCurveRow.holds Try.pinned (OpenSpec.ofChange fnExactFlatCurveSpec)

/-- ITS FALSE NEIGHBOUR: 'it returns false'. Refute it at one input. -/
def fnExactFlatCurveWrong : ChangeSpec := { name := "fnExactFlatCurve", fn := fun _ => fun
  | [d] => { results := [.lit (.bool false)], args := [d] }
  | _ => none }
def FnExactFlatCurveWrongFalsely : Prop := fnExactFlatCurveRow.holds Try.pinned (OpenSpec.ofChange fnExactFlatCurveWrong)

/-- 'laws.FnExactAddCurves': WHATEVER THE INPUT: true; the input reads as it did. -/
def fnExactAddCurvesSpec : ChangeSpec := { name := "fnExactAddCurves", fn := fun _ => fun
  | [d1, d2] => { results := [.lit (.bool true)], args := [d1, d2] }
  | _ => none }
def fnExactAddCurvesRow : OpenClaim := { program := "ytpolbmplahimoaa", sum := "5afbad81b5f134f643d2a848fd63ad1aea8ea2533f460698c0a61edf10fc938f", func := "loop.example/g01213/laws.FnExactAddCurves", spec := "fnExactAddCurves", apart := false }
def FnExactAddCurvesSaid : Prop := fnExactAddCurvesRow.holds Try.pinned (OpenSpec.ofChange fnExactAddCurvesSpec)

/-- ITS FALSE NEIGHBOUR: 'it returns false'. Refute it at one input. -/
def fnExactAddCurvesWrong : ChangeSpec := { name := "fnExactAddCurves", fn := fun _ => fun
  | [d1, d2] => { results := [.lit (.bool false)], args := [d1, d2] }
  | _ => none }
def FnExactAddCurvesWrongFalsely : Prop := fnExactAddCurvesRow.holds Try.pinned (OpenSpec.ofChange fnExactAddCurvesWrong)

/-- 'laws.FnExactMulCurves': WHATEVER THE INPUT: true; the input reads as it did. -/
def fnExactMulCurvesSpec : ChangeSpec := { name := "fnExactMulCurves", fn := fun _ => fun
  | [d1, d2] => { results := [.lit (.bool true)], args := [d1, d2] }
  | _ => none }
def fnExactMulCurvesRow : OpenClaim := { program := "ytpolbmplahimoaa", sum := "5afbad81b5f134f643d2a848fd63ad1aea8ea2533f460698c0a61edf10fc938f", func := "loop.example/g01213/laws.FnExactMulCurves", spec := "fnExactMulCurves", apart := false }
def FnExactMulCurvesSaid : Prop := fnExactMulCurvesRow.holds Try.pinned (OpenSpec.ofChange fnExactMulCurvesSpec)

/-- ITS FALSE NEIGHBOUR: 'it returns false'. Refute it at one input. -/
def fnExactMulCurvesWrong : ChangeSpec := { name := "fnExactMulCurves", fn := fun _ => fun
  | [d1, d2] => { results := [.lit (.bool false)], args := [d1, d2] }
  | _ => none }
def FnExactMulCurvesWrongFalsely : Prop := fnExactMulCurvesRow.holds Try.pinned (OpenSpec.ofChange fnExactMulCurvesWrong)

/-- 'laws.FnExactScaleCurve': WHATEVER THE INPUT: true; the input reads as it did. -/
def fnExactScaleCurveSpec : ChangeSpec := { name := "fnExactScaleCurve", fn := fun _ => fun
  | [d1, d2] => { results := [.lit (.bool true)], args := [d1, d2] }
  | _ => none }
def fnExactScaleCurveRow : OpenClaim := { program := "ytpolbmplahimoaa", sum := "5afbad81b5f134f643d2a848fd63ad1aea8ea2533f460698c0a61edf10fc938f", func := "loop.example/g01213/laws.FnExactScaleCurve", spec := "fnExactScaleCurve", apart := false }
def FnExactScaleCurveSaid : Prop := fnExactScaleCurveRow.holds Try.pinned (OpenSpec.ofChange fnExactScaleCurveSpec)

/-- ITS FALSE NEIGHBOUR: 'it returns false'. Refute it at one input. -/
def fnExactScaleCurveWrong : ChangeSpec := { name := "fnExactScaleCurve", fn := fun _ => fun
  | [d1, d2] => { results := [.lit (.bool false)], args := [d1, d2] }
  | _ => none }
def FnExactScaleCurveWrongFalsely : Prop := fnExactScaleCurveRow.holds Try.pinned (OpenSpec.ofChange fnExactScaleCurveWrong)

/-- 'laws.FnExactMixCurves': WHATEVER THE INPUT: true; the input reads as it did. -/
def fnExactMixCurvesSpec : ChangeSpec := { name := "fnExactMixCurves", fn := fun _ => fun
  | [d1, d2, d3] => { results := [.lit (.bool true)], args := [d1, d2, d3] }
  | _ => none }
def fnExactMixCurvesRow : OpenClaim := { program := "ytpolbmplahimoaa", sum := "5afbad81b5f134f643d2a848fd63ad1aea8ea2533f460698c0a61edf10fc938f", func := "loop.example/g01213/laws.FnExactMixCurves", spec := "fnExactMixCurves", apart := false }
def FnExactMixCurvesSaid : Prop := fnExactMixCurvesRow.holds Try.pinned (OpenSpec.ofChange fnExactMixCurvesSpec)

/-- ITS FALSE NEIGHBOUR: 'it returns false'. Refute it at one input. -/
def fnExactMixCurvesWrong : ChangeSpec := { name := "fnExactMixCurves", fn := fun _ => fun
  | [d1, d2, d3] => { results := [.lit (.bool false)], args := [d1, d2, d3] }
  | _ => none }
def FnExactMixCurvesWrongFalsely : Prop := fnExactMixCurvesRow.holds Try.pinned (OpenSpec.ofChange fnExactMixCurvesWrong)

/-- 'laws.FnExactSumOfCurve': WHATEVER THE INPUT: true; the input reads as it did. -/
def fnExactSumOfCurveSpec : ChangeSpec := { name := "fnExactSumOfCurve", fn := fun _ => fun
  | [d] => { results := [.lit (.bool true)], args := [d] }
  | _ => none }
def fnExactSumOfCurveRow : OpenClaim := { program := "ytpolbmplahimoaa", sum := "5afbad81b5f134f643d2a848fd63ad1aea8ea2533f460698c0a61edf10fc938f", func := "loop.example/g01213/laws.FnExactSumOfCurve", spec := "fnExactSumOfCurve", apart := false }
def FnExactSumOfCurveSaid : Prop := fnExactSumOfCurveRow.holds Try.pinned (OpenSpec.ofChange fnExactSumOfCurveSpec)

/-- ITS FALSE NEIGHBOUR: 'it returns false'. Refute it at one input. -/
def fnExactSumOfCurveWrong : ChangeSpec := { name := "fnExactSumOfCurve", fn := fun _ => fun
  | [d] => { results := [.lit (.bool false)], args := [d] }
  | _ => none }
def FnExactSumOfCurveWrongFalsely : Prop := fnExactSumOfCurveRow.holds Try.pinned (OpenSpec.ofChange fnExactSumOfCurveWrong)

/-- 'laws.FnExactDotOfCurves': WHATEVER THE INPUT: true; the input reads as it did. -/
def fnExactDotOfCurvesSpec : ChangeSpec := { name := "fnExactDotOfCurves", fn := fun _ => fun
  | [d1, d2] => { results := [.lit (.bool true)], args := [d1, d2] }
  | _ => none }
def fnExactDotOfCurvesRow : OpenClaim := { program := "ytpolbmplahimoaa", sum := "5afbad81b5f134f643d2a848fd63ad1aea8ea2533f460698c0a61edf10fc938f", func := "loop.example/g01213/laws.FnExactDotOfCurves", spec := "fnExactDotOfCurves", apart := false }
def FnExactDotOfCurvesSaid : Prop := fnExactDotOfCurvesRow.holds Try.pinned (OpenSpec.ofChange fnExactDotOfCurvesSpec)

/-- ITS FALSE NEIGHBOUR: 'it returns false'. Refute it at one input. -/
def fnExactDotOfCurvesWrong : ChangeSpec := { name := "fnExactDotOfCurves", fn := fun _ => fun
  | [d1, d2] => { results := [.lit (.bool false)], args := [d1, d2] }
  | _ => none }
def FnExactDotOfCurvesWrongFalsely : Prop := fnExactDotOfCurvesRow.holds Try.pinned (OpenSpec.ofChange fnExactDotOfCurvesWrong)

/-- 'laws.FnExactBump': WHATEVER THE INPUT: true; the input reads as it did. -/
def fnExactBumpSpec : ChangeSpec := { name := "fnExactBump", fn := fun _ => fun
  | [d1, d2] => { results := [.lit (.bool true)], args := [d1, d2] }
  | _ => none }
def fnExactBumpRow : OpenClaim := { program := "ytpolbmplahimoaa", sum := "5afbad81b5f134f643d2a848fd63ad1aea8ea2533f460698c0a61edf10fc938f", func := "loop.example/g01213/laws.FnExactBump", spec := "fnExactBump", inPlace := ["math.Float64bits", "math.Float64frombits"], unfollowed := true, recurses := true, apart := false }
def FnExactBumpSaid : Prop := fnExactBumpRow.holds Try.pinned (OpenSpec.ofChange fnExactBumpSpec)

/-- ITS FALSE NEIGHBOUR: 'it returns false'. Refute it at one input. -/
def fnExactBumpWrong : ChangeSpec := { name := "fnExactBump", fn := fun _ => fun
  | [d1, d2] => { results := [.lit (.bool false)], args := [d1, d2] }
  | _ => none }
def FnExactBumpWrongFalsely : Prop := fnExactBumpRow.holds Try.pinned (OpenSpec.ofChange fnExactBumpWrong)

/-- 'laws.FnExactCodeName': WHATEVER THE INPUT: true; the input reads as it did. -/
def fnExactCodeNameSpec : ChangeSpec := { name := "fnExactCodeName", fn := fun _ => fun
  | [d] => { results := [.lit (.bool true)], args := [d] }
  | _ => none }
def fnExactCodeNameRow : OpenClaim := { program := "ytpolbmplahimoaa", sum := "5afbad81b5f134f643d2a848fd63ad1aea8ea2533f460698c0a61edf10fc938f", func := "loop.example/g01213/laws.FnExactCodeName", spec := "fnExactCodeName", apart := false }
def FnExactCodeNameSaid : Prop := fnExactCodeNameRow.holds Try.pinned (OpenSpec.ofChange fnExactCodeNameSpec)

/-- ITS FALSE NEIGHBOUR: 'it returns false'. Refute it at one input. -/
def fnExactCodeNameWrong : ChangeSpec := { name := "fnExactCodeName", fn := fun _ => fun
  | [d] => { results := [.lit (.bool false)], args := [d] }
  | _ => none }
def FnExactCodeNameWrongFalsely : Prop := fnExactCodeNameRow.holds Try.pinned (OpenSpec.ofChange fnExactCodeNameWrong)

/- THE SECOND FORM. 'bulk': how many values and letters a reading holds, each counted each time it is reached (what is shared counts as often as it is met; a slice's spare places count too). A statement '..UptoSaid' is the law's where the arguments, and the package variables that the reading takes, are together of bulk at most 1048576: NARROWER than '..Said'. Prove '..Said' where nothing that the law and all that it calls make is longer than what came in: it says more and counts as full. Else prove '..UptoSaid'. A law counts once. -/
mutual
def uptoBulk {H : Type} : DataW H → Nat
  | .lit (.string bytes) => bytes.length + 1
  | .lit _ => 1
  | .nil => 1
  | .ptr d => uptoBulk d + 1
  | .slice elems spare => uptoBulkAll elems + uptoBulkAll spare + 1
  | .agg parts => uptoBulkAll parts + 1
  | .iface _ d => uptoBulk d + 1
  | .map entries => uptoBulkEntries entries + 1
  | .held _ => 1
def uptoBulkAll {H : Type} : List (DataW H) → Nat
  | [] => 0
  | d :: r => uptoBulk d + uptoBulkAll r
def uptoBulkEntries {H : Type} : List (Lit × DataW H) → Nat
  | [] => 0
  | x :: r => uptoBulkEntry x + uptoBulkEntries r
def uptoBulkEntry {H : Type} : Lit × DataW H → Nat
  | (.string bytes, d) => bytes.length + uptoBulk d + 1
  | (_, d) => uptoBulk d + 1
 end
def uptoSmall : (H : Type) → List (DataW H) → Bool := fun _ ds => decide (uptoBulkAll ds ≤ 1048576)
def OpenSpec.upto (s : _root_.Go.ChangeSpec) : _root_.Go.OpenSpec := { _root_.Go.OpenSpec.ofChange s with cond := some uptoSmall }

/-- 'laws.FnExactSameNumber', WHERE WHAT IT READS IS OF BULK AT MOST 1048576: true; the input reads as it did. -/
def fnExactSameNumberUptoRow : OpenClaim := { program := "ytpolbmplahimoaa", sum := "5afbad81b5f134f643d2a848fd63ad1aea8ea2533f460698c0a61edf10fc938f", func := "loop.example/g01213/laws.FnExactSameNumber", spec := "fnExactSameNumber", inPlace := ["math.Float32bits"], apart := false, narrowed := true }
def FnExactSameNumberUptoSaid : Prop := fnExactSameNumberUptoRow.holds Try.pinned (OpenSpec.upto fnExactSameNumberSpec)

/-- 'laws.FnExactIsFiniteCurve', WHERE WHAT IT READS IS OF BULK AT MOST 1048576: true; the input reads as it did. -/
def fnExactIsFiniteCurveUptoRow : OpenClaim := { program := "ytpolbmplahimoaa", sum := "5afbad81b5f134f643d2a848fd63ad1aea8ea2533f460698c0a61edf10fc938f", func := "loop.example/g01213/laws.FnExactIsFiniteCurve", spec := "fnExactIsFiniteCurve", inPlace := ["math.Float64bits", "math.Float64frombits"], apart := false, narrowed := true }
def FnExactIsFiniteCurveUptoSaid : Prop := fnExactIsFiniteCurveUptoRow.holds Try.pinned (OpenSpec.upto fnExactIsFiniteCurveSpec)

/-- 'laws.FnExactSameCurve', WHERE WHAT IT READS IS OF BULK AT MOST 1048576: true; the input reads as it did. -/
def fnExactSameCurveUptoRow : OpenClaim := { program := "ytpolbmplahimoaa", sum := "5afbad81b5f134f643d2a848fd63ad1aea8ea2533f460698c0a61edf10fc938f", func := "loop.example/g01213/laws.FnExactSameCurve", spec := "fnExactSameCurve", inPlace := ["math.Float32bits"], apart := false, narrowed := true }
def FnExactSameCurveUptoSaid : Prop := fnExactSameCurveUptoRow.holds Try.pinned (OpenSpec.upto fnExactSameCurveSpec)

/-- 'laws.FnExactFlatCurve', WHERE WHAT IT READS IS OF BULK AT MOST 1048576: true; the input reads as it did. -/
def fnExactFlatCurveUptoRow : OpenClaim := { program := "ytpolbmplahimoaa", sum := "5afbad81b5f134f643d2a848fd63ad1aea8ea2533f460698c0a61edf10fc938f", func := "loop.example/g01213/laws.FnExactFlatCurve", spec := "fnExactFlatCurve", apart := false, narrowed := true }
def FnExactFlatCurveUptoSaid : Prop := fnExactFlatCurveUptoRow.holds Try.pinned (OpenSpec.upto fnExactFlatCurveSpec)

/-- 'laws.FnExactAddCurves', WHERE WHAT IT READS IS OF BULK AT MOST 1048576: true; the input reads as it did. -/
def fnExactAddCurvesUptoRow : OpenClaim := { program := "ytpolbmplahimoaa", sum := "5afbad81b5f134f643d2a848fd63ad1aea8ea2533f460698c0a61edf10fc938f", func := "loop.example/g01213/laws.FnExactAddCurves", spec := "fnExactAddCurves", apart := false, narrowed := true }
def FnExactAddCurvesUptoSaid : Prop := fnExactAddCurvesUptoRow.holds Try.pinned (OpenSpec.upto fnExactAddCurvesSpec)

/-- 'laws.FnExactMulCurves', WHERE WHAT IT READS IS OF BULK AT MOST 1048576: true; the input reads as it did. -/
def fnExactMulCurvesUptoRow : OpenClaim := { program := "ytpolbmplahimoaa", sum := "5afbad81b5f134f643d2a848fd63ad1aea8ea2533f460698c0a61edf10fc938f", func := "loop.example/g01213/laws.FnExactMulCurves", spec := "fnExactMulCurves", apart := false, narrowed := true }
def FnExactMulCurvesUptoSaid : Prop := fnExactMulCurvesUptoRow.holds Try.pinned (OpenSpec.upto fnExactMulCurvesSpec)

/-- 'laws.FnExactScaleCurve', WHERE WHAT IT READS IS OF BULK AT MOST 1048576: true; the input reads as it did. -/
def fnExactScaleCurveUptoRow : OpenClaim := { program := "ytpolbmplahimoaa", sum := "5afbad81b5f134f643d2a848fd63ad1aea8ea2533f460698c0a61edf10fc938f", func := "loop.example/g01213/laws.FnExactScaleCurve", spec := "fnExactScaleCurve", apart := false, narrowed := true }
def FnExactScaleCurveUptoSaid : Prop := fnExactScaleCurveUptoRow.holds Try.pinned (OpenSpec.upto fnExactScaleCurveSpec)

/-- 'laws.FnExactMixCurves', WHERE WHAT IT READS IS OF BULK AT MOST 1048576: true; the input reads as it did. -/
def fnExactMixCurvesUptoRow : OpenClaim := { program := "ytpolbmplahimoaa", sum := "5afbad81b5f134f643d2a848fd63ad1aea8ea2533f460698c0a61edf10fc938f", func := "loop.example/g01213/laws.FnExactMixCurves", spec := "fnExactMixCurves", apart := false, narrowed := true }
def FnExactMixCurvesUptoSaid : Prop := fnExactMixCurvesUptoRow.holds Try.pinned (OpenSpec.upto fnExactMixCurvesSpec)

/-- 'laws.FnExactSumOfCurve', WHERE WHAT IT READS IS OF BULK AT MOST 1048576: true; the input reads as it did. -/
def fnExactSumOfCurveUptoRow : OpenClaim := { program := "ytpolbmplahimoaa", sum := "5afbad81b5f134f643d2a848fd63ad1aea8ea2533f460698c0a61edf10fc938f", func := "loop.example/g01213/laws.FnExactSumOfCurve", spec := "fnExactSumOfCurve", apart := false, narrowed := true }
def FnExactSumOfCurveUptoSaid : Prop := fnExactSumOfCurveUptoRow.holds Try.pinned (OpenSpec.upto fnExactSumOfCurveSpec)

/-- 'laws.FnExactDotOfCurves', WHERE WHAT IT READS IS OF BULK AT MOST 1048576: true; the input reads as it did. -/
def fnExactDotOfCurvesUptoRow : OpenClaim := { program := "ytpolbmplahimoaa", sum := "5afbad81b5f134f643d2a848fd63ad1aea8ea2533f460698c0a61edf10fc938f", func := "loop.example/g01213/laws.FnExactDotOfCurves", spec := "fnExactDotOfCurves", apart := false, narrowed := true }
def FnExactDotOfCurvesUptoSaid : Prop := fnExactDotOfCurvesUptoRow.holds Try.pinned (OpenSpec.upto fnExactDotOfCurvesSpec)

/-- 'laws.FnExactBump', WHERE WHAT IT READS IS OF BULK AT MOST 1048576: true; the input reads as it did. -/
def fnExactBumpUptoRow : OpenClaim := { program := "ytpolbmplahimoaa", sum := "5afbad81b5f134f643d2a848fd63ad1aea8ea2533f460698c0a61edf10fc938f", func := "loop.example/g01213/laws.FnExactBump", spec := "fnExactBump", inPlace := ["math.Float64bits", "math.Float64frombits"], unfollowed := true, recurses := true, apart := false, narrowed := true }
def FnExactBumpUptoSaid : Prop := fnExactBumpUptoRow.holds Try.pinned (OpenSpec.upto fnExactBumpSpec)

/-- 'laws.FnExactCodeName', WHERE WHAT IT READS IS OF BULK AT MOST 1048576: true; the input reads as it did. -/
def fnExactCodeNameUptoRow : OpenClaim := { program := "ytpolbmplahimoaa", sum := "5afbad81b5f134f643d2a848fd63ad1aea8ea2533f460698c0a61edf10fc938f", func := "loop.example/g01213/laws.FnExactCodeName", spec := "fnExactCodeName", apart := false, narrowed := true }
def FnExactCodeNameUptoSaid : Prop := fnExactCodeNameUptoRow.holds Try.pinned (OpenSpec.upto fnExactCodeNameSpec)

end Rows
end Go.Proofs.Ytpolbmplahimoaa
