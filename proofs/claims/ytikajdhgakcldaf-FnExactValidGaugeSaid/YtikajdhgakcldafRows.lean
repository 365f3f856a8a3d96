/-
  No cell of these rows narrows 'for every input' (looked for: loops, veiled, ifaces, maps, wideKeys, modest, calm, conditions, laid).
  DERIVED. THE GIVEN ROWS OF THIS SEAT. 6 by the template 'for every input the law returns true; each argument reads behind the call as it read before'; 0 by the template 'total and deterministic' (their statements: YtikajdhgakcldafTotals.lean).
  GIVEN WITH THE SEED: the statements are not yours to turn. If you find one false, say at which input.
  Laid BY PROGRAM, IN A SANDBOX (cutbox-rows.mjs): the forced cells as the released guide's own fill.sh prints them over the translation 5bc7bf7e8743c0a1… (all of the seat's roots in one cut). By AI agents, Wed Nov 11 2026. No macro, syntax, notation, axiom, sorry.
-/
import Derived.Test.YtikajdhgakcldafChecked
import GoSem.Claim
import GoSem.ClaimJoined
import GoSem.ClaimMapViews
import Derived.JoinedTies
import Derived.KernelRfl
namespace Go.Proofs.Ytikajdhgakcldaf
/- THE CELL 'sum', in the pinned program and in every row, IS THE sha256 OF THE DUMP (.gsa) THAT YtikajdhgakcldafProg.lean LOADS. Nothing in Lean hashes anything: it is a label: what it is worth is what the hold of that sum in a sandbox is worth. -/
noncomputable def Try.pinned : Pinned := { name := "ytikajdhgakcldaf", sum := "5bc7bf7e8743c0a1c2bc6791a9fd948614d74c4a75395f0459f974f74af82c3d", checked := Try.checked }
namespace Rows
def none {H : Type} : Left H := { results := [], args := [] }

/-- 'laws.FnExactValidGauge': WHATEVER THE INPUT: true; the input reads as it did. -/
def fnExactValidGaugeSpec : ChangeSpec := { name := "fnExactValidGauge", fn := fun _ => fun
  | [d] => { results := [.lit (.bool true)], args := [d] }
  | _ => none }
def fnExactValidGaugeRow : OpenClaim := { program := "ytikajdhgakcldaf", sum := "5bc7bf7e8743c0a1c2bc6791a9fd948614d74c4a75395f0459f974f74af82c3d", func := "loop.example/g01213/laws.FnExactValidGauge", spec := "fnExactValidGauge", apart := false }
def FnExactValidGaugeSaid : Prop := fnExactValidGaugeRow.holds Try.pinned (OpenSpec.ofChange fnExactValidGaugeSpec)

/-- ITS FALSE NEIGHBOUR: 'it returns false'. Refute it at one input. -/
def fnExactValidGaugeWrong : ChangeSpec := { name := "fnExactValidGauge", fn := fun _ => fun
  | [d] => { results := [.lit (.bool false)], args := [d] }
  | _ => none }
def FnExactValidGaugeWrongFalsely : Prop := fnExactValidGaugeRow.holds Try.pinned (OpenSpec.ofChange fnExactValidGaugeWrong)

/-- 'laws.FnExactSameGauge': WHATEVER THE INPUT: true; the input reads as it did. -/
def fnExactSameGaugeSpec : ChangeSpec := { name := "fnExactSameGauge", fn := fun _ => fun
  | [d1, d2] => { results := [.lit (.bool true)], args := [d1, d2] }
  | _ => none }
def fnExactSameGaugeRow : OpenClaim := { program := "ytikajdhgakcldaf", sum := "5bc7bf7e8743c0a1c2bc6791a9fd948614d74c4a75395f0459f974f74af82c3d", func := "loop.example/g01213/laws.FnExactSameGauge", spec := "fnExactSameGauge", inPlace := ["math.Float32bits"], apart := false }
def FnExactSameGaugeSaid : Prop := fnExactSameGaugeRow.holds Try.pinned (OpenSpec.ofChange fnExactSameGaugeSpec)

/-- ITS FALSE NEIGHBOUR: 'it returns false'. Refute it at one input. -/
def fnExactSameGaugeWrong : ChangeSpec := { name := "fnExactSameGauge", fn := fun _ => fun
  | [d1, d2] => { results := [.lit (.bool false)], args := [d1, d2] }
  | _ => none }
def FnExactSameGaugeWrongFalsely : Prop := fnExactSameGaugeRow.holds Try.pinned (OpenSpec.ofChange fnExactSameGaugeWrong)

/-- 'laws.FnExactCountsOf': WHATEVER THE INPUT: true; the input reads as it did. -/
def fnExactCountsOfSpec : ChangeSpec := { name := "fnExactCountsOf", fn := fun _ => fun
  | [d1, d2, d3] => { results := [.lit (.bool true)], args := [d1, d2, d3] }
  | _ => none }
def fnExactCountsOfRow : OpenClaim := { program := "ytikajdhgakcldaf", sum := "5bc7bf7e8743c0a1c2bc6791a9fd948614d74c4a75395f0459f974f74af82c3d", func := "loop.example/g01213/laws.FnExactCountsOf", spec := "fnExactCountsOf", inPlace := ["math.RoundToEven", "math.Float64bits", "math.Float64frombits"], unfollowed := true, recurses := true, apart := false }
def FnExactCountsOfSaid : Prop := fnExactCountsOfRow.holds Try.pinned (OpenSpec.ofChange fnExactCountsOfSpec)

/-- ITS FALSE NEIGHBOUR: 'it returns false'. Refute it at one input. -/
def fnExactCountsOfWrong : ChangeSpec := { name := "fnExactCountsOf", fn := fun _ => fun
  | [d1, d2, d3] => { results := [.lit (.bool false)], args := [d1, d2, d3] }
  | _ => none }
def FnExactCountsOfWrongFalsely : Prop := fnExactCountsOfRow.holds Try.pinned (OpenSpec.ofChange fnExactCountsOfWrong)

/-- 'laws.FnExactCurveOf': WHATEVER THE INPUT: true; the input reads as it did. -/
def fnExactCurveOfSpec : ChangeSpec := { name := "fnExactCurveOf", fn := fun _ => fun
  | [d1, d2, d3] => { results := [.lit (.bool true)], args := [d1, d2, d3] }
  | _ => none }
def fnExactCurveOfRow : OpenClaim := { program := "ytikajdhgakcldaf", sum := "5bc7bf7e8743c0a1c2bc6791a9fd948614d74c4a75395f0459f974f74af82c3d", func := "loop.example/g01213/laws.FnExactCurveOf", spec := "fnExactCurveOf", unfollowed := true, recurses := true, apart := false }
def FnExactCurveOfSaid : Prop := fnExactCurveOfRow.holds Try.pinned (OpenSpec.ofChange fnExactCurveOfSpec)

/-- ITS FALSE NEIGHBOUR: 'it returns false'. Refute it at one input. -/
def fnExactCurveOfWrong : ChangeSpec := { name := "fnExactCurveOf", fn := fun _ => fun
  | [d1, d2, d3] => { results := [.lit (.bool false)], args := [d1, d2, d3] }
  | _ => none }
def FnExactCurveOfWrongFalsely : Prop := fnExactCurveOfRow.holds Try.pinned (OpenSpec.ofChange fnExactCurveOfWrong)

/-- 'laws.FnExactIsSaturated': WHATEVER THE INPUT: true; the input reads as it did. -/
def fnExactIsSaturatedSpec : ChangeSpec := { name := "fnExactIsSaturated", fn := fun _ => fun
  | [d] => { results := [.lit (.bool true)], args := [d] }
  | _ => none }
def fnExactIsSaturatedRow : OpenClaim := { program := "ytikajdhgakcldaf", sum := "5bc7bf7e8743c0a1c2bc6791a9fd948614d74c4a75395f0459f974f74af82c3d", func := "loop.example/g01213/laws.FnExactIsSaturated", spec := "fnExactIsSaturated", apart := false }
def FnExactIsSaturatedSaid : Prop := fnExactIsSaturatedRow.holds Try.pinned (OpenSpec.ofChange fnExactIsSaturatedSpec)

/-- ITS FALSE NEIGHBOUR: 'it returns false'. Refute it at one input. -/
def fnExactIsSaturatedWrong : ChangeSpec := { name := "fnExactIsSaturated", fn := fun _ => fun
  | [d] => { results := [.lit (.bool false)], args := [d] }
  | _ => none }
def FnExactIsSaturatedWrongFalsely : Prop := fnExactIsSaturatedRow.holds Try.pinned (OpenSpec.ofChange fnExactIsSaturatedWrong)

/-- 'laws.FnExactShakeCounts': WHATEVER THE INPUT: true; the input reads as it did. -/
def fnExactShakeCountsSpec : ChangeSpec := { name := "fnExactShakeCounts", fn := fun _ => fun
  | [d1, d2, d3] => { results := [.lit (.bool true)], args := [d1, d2, d3] }
  | _ => none }
def fnExactShakeCountsRow : OpenClaim := { program := "ytikajdhgakcldaf", sum := "5bc7bf7e8743c0a1c2bc6791a9fd948614d74c4a75395f0459f974f74af82c3d", func := "loop.example/g01213/laws.FnExactShakeCounts", spec := "fnExactShakeCounts", apart := false }
def FnExactShakeCountsSaid : Prop := fnExactShakeCountsRow.holds Try.pinned (OpenSpec.ofChange fnExactShakeCountsSpec)

/-- ITS FALSE NEIGHBOUR: 'it returns false'. Refute it at one input. -/
def fnExactShakeCountsWrong : ChangeSpec := { name := "fnExactShakeCounts", fn := fun _ => fun
  | [d1, d2, d3] => { results := [.lit (.bool false)], args := [d1, d2, d3] }
  | _ => none }
def FnExactShakeCountsWrongFalsely : Prop := fnExactShakeCountsRow.holds Try.pinned (OpenSpec.ofChange fnExactShakeCountsWrong)

/- THE SECOND FORM. 'bulk': how many values and letters a reading holds, each counted each time it is reached (what is shared counts as often as it is met; a slice's spare places count too). A statement '..UptoSaid' is the law's where the arguments, and the package variables that the reading takes, are together of bulk at most 1048576: NARROWER than '..Said'. Prove '..Said' where nothing that the law and all that it calls make is longer than what came in: it says more and counts as full. Else prove '..UptoSaid'. A law counts once. -/
mutual
def uptoBulk {H : Type} : DataW H → Nat
  | .lit (.string bytes) => bytes.length + 1
  | .lit _ => 1
  | .nil => 1
  | .ptr d => uptoBulk d + 1
  | .slice elems spare => uptoBulkAll elems + uptoBulkAll spare + 1
  | .agg parts => uptoBulkAll parts + 1
  | .iface _ d => uptoBulk d + 1
  | .map entries => uptoBulkEntries entries + 1
  | .held _ => 1
def uptoBulkAll {H : Type} : List (DataW H) → Nat
  | [] => 0
  | d :: r => uptoBulk d + uptoBulkAll r
def uptoBulkEntries {H : Type} : List (Lit × DataW H) → Nat
  | [] => 0
  | x :: r => uptoBulkEntry x + uptoBulkEntries r
def uptoBulkEntry {H : Type} : Lit × DataW H → Nat
  | (.string bytes, d) => bytes.length + uptoBulk d + 1
  | (_, d) => uptoBulk d + 1
 end
def uptoSmall : (H : Type) → List (DataW H) → Bool := fun _ ds => decide (uptoBulkAll ds ≤ 1048576)
def OpenSpec.upto (s : _root_.Go.ChangeSpec) : _root_.Go.OpenSpec := { _root_.Go.OpenSpec.ofChange s with cond := some uptoSmall }

/-- 'laws.FnExactValidGauge', WHERE WHAT IT READS IS OF BULK AT MOST 1048576: true; the input reads as it did. -/
def fnExactValidGaugeUptoRow : OpenClaim := { program := "ytikajdhgakcldaf", sum := "5bc7bf7e8743c0a1c2bc6791a9fd948614d74c4a75395f0459f974f74af82c3d", func := "loop.example/g01213/laws.FnExactValidGauge", spec := "fnExactValidGauge", apart := false, narrowed := true }
def FnExactValidGaugeUptoSaid : Prop := fnExactValidGaugeUptoRow.holds Try.pinned (OpenSpec.upto fnExactValidGaugeSpec)

/-- 'laws.FnExactSameGauge', WHERE WHAT IT READS IS OF BULK AT MOST 1048576: true; the input reads as it did. -/
def fnExactSameGaugeUptoRow : OpenClaim := { program := "ytikajdhgakcldaf", sum := "5bc7bf7e8743c0a1c2bc6791a9fd948614d74c4a75395f0459f974f74af82c3d", func := "loop.example/g01213/laws.FnExactSameGauge", spec := "fnExactSameGauge", inPlace := ["math.Float32bits"], apart := false, narrowed := true }
def FnExactSameGaugeUptoSaid : Prop := fnExactSameGaugeUptoRow.holds Try.pinned (OpenSpec.upto fnExactSameGaugeSpec)

/-- 'laws.FnExactCountsOf', WHERE WHAT IT READS IS OF BULK AT MOST 1048576: true; the input reads as it did. -/
def fnExactCountsOfUptoRow : OpenClaim := { program := "ytikajdhgakcldaf", sum := "5bc7bf7e8743c0a1c2bc6791a9fd948614d74c4a75395f0459f974f74af82c3d", func := "loop.example/g01213/laws.FnExactCountsOf", spec := "fnExactCountsOf", inPlace := ["math.RoundToEven", "math.Float64bits", "math.Float64frombits"], unfollowed := true, recurses := true, apart := false, narrowed := true }
def FnExactCountsOfUptoSaid : Prop := fnExactCountsOfUptoRow.holds Try.pinned (OpenSpec.upto fnExactCountsOfSpec)

/-- 'laws.FnExactCurveOf', WHERE WHAT IT READS IS OF BULK AT MOST 1048576: true; the input reads as it did. -/
def fnExactCurveOfUptoRow : OpenClaim := { program := "ytikajdhgakcldaf", sum := "5bc7bf7e8743c0a1c2bc6791a9fd948614d74c4a75395f0459f974f74af82c3d", func := "loop.example/g01213/laws.FnExactCurveOf", spec := "fnExactCurveOf", unfollowed := true, recurses := true, apart := false, narrowed := true }
def FnExactCurveOfUptoSaid : Prop := fnExactCurveOfUptoRow.holds Try.pinned (OpenSpec.upto fnExactCurveOfSpec)

/-- 'laws.FnExactIsSaturated', WHERE WHAT IT READS IS OF BULK AT MOST 1048576: true; the input reads as it did. -/
def fnExactIsSaturatedUptoRow : OpenClaim := { program := "ytikajdhgakcldaf", sum := "5bc7bf7e8743c0a1c2bc6791a9fd948614d74c4a75395f0459f974f74af82c3d", func := "loop.example/g01213/laws.FnExactIsSaturated", spec := "fnExactIsSaturated", apart := false, narrowed := true }
def FnExactIsSaturatedUptoSaid : Prop := fnExactIsSaturatedUptoRow.holds Try.pinned (OpenSpec.upto fnExactIsSaturatedSpec)

/-- 'laws.FnExactShakeCounts', WHERE WHAT IT READS IS OF BULK AT MOST 1048576: true; the input reads as it did. -/
def fnExactShakeCountsUptoRow : OpenClaim := { program := "ytikajdhgakcldaf", sum := "5bc7bf7e8743c0a1c2bc6791a9fd948614d74c4a75395f0459f974f74af82c3d", func := "loop.example/g01213/laws.FnExactShakeCounts", spec := "fnExactShakeCounts", apart := false, narrowed := true }
def FnExactShakeCountsUptoSaid : Prop := fnExactShakeCountsUptoRow.holds Try.pinned (OpenSpec.upto fnExactShakeCountsSpec)

end Rows
end Go.Proofs.Ytikajdhgakcldaf
