/-
  No cell of these rows narrows 'for every input' (looked for: loops, veiled, ifaces, maps, wideKeys, modest, calm, conditions, laid).
  DERIVED. THE GIVEN ROWS OF THIS SEAT. 12 by the template 'for every input the law returns true; each argument reads behind the call as it read before'; 0 by the template 'total and deterministic' (their statements: YtigegnkifeljhaaTotals.lean).
  GIVEN WITH THE SEED: the statements are not yours to turn. If you find one false, say at which input.
  Laid BY PROGRAM, IN A SANDBOX (cutbox-rows.mjs): the forced cells as the released guide's own fill.sh prints them over the translation 653ffb6d7c0139af… (all of the seat's roots in one cut). By AI agents, Wed Nov 11 2026. No macro, syntax, notation, axiom, sorry.
-/
import Derived.Test.YtigegnkifeljhaaChecked
import GoSem.Claim
import GoSem.ClaimJoined
import GoSem.ClaimMapViews
import Derived.JoinedTies
import Derived.KernelRfl
namespace Go.Proofs.Ytigegnkifeljhaa
/- THE CELL 'sum', in the pinned program and in every row, IS THE sha256 OF THE DUMP (.gsa) THAT YtigegnkifeljhaaProg.lean LOADS. Nothing in Lean hashes anything: it is a label: what it is worth is what the hold of that sum in a sandbox is worth. -/
noncomputable def Try.pinned : Pinned := { name := "ytigegnkifeljhaa", sum := "653ffb6d7c0139af2366be8ed53bc9046d1f7688db90ac97c0e88a124216a3d3", checked := Try.checked }
namespace Rows
def none {H : Type} : Left H := { results := [], args := [] }

/-- 'laws.FnExactValidWorks': WHATEVER THE INPUT: true; the input reads as it did. -/
def fnExactValidWorksSpec : ChangeSpec := { name := "fnExactValidWorks", fn := fun _ => fun
  | [d] => { results := [.lit (.bool true)], args := [d] }
  | _ => none }
def fnExactValidWorksRow : OpenClaim := { program := "ytigegnkifeljhaa", sum := "653ffb6d7c0139af2366be8ed53bc9046d1f7688db90ac97c0e88a124216a3d3", func := "loop.example/g01213/laws.FnExactValidWorks", spec := "fnExactValidWorks", unfollowed := true, recurses := true, apart := false }
def FnExactValidWorksSaid : Prop := fnExactValidWorksRow.holds Try.pinned (OpenSpec.ofChange fnExactValidWorksSpec)

/-- ITS FALSE NEIGHBOUR: 'it returns false'. Refute it at one input. -/
def fnExactValidWorksWrong : ChangeSpec := { name := "fnExactValidWorks", fn := fun _ => fun
  | [d] => { results := [.lit (.bool false)], args := [d] }
  | _ => none }
def FnExactValidWorksWrongFalsely : Prop := fnExactValidWorksRow.holds Try.pinned (OpenSpec.ofChange fnExactValidWorksWrong)

/-- 'laws.FnExactSameWorks': WHATEVER THE INPUT: true; the input reads as it did. -/
def fnExactSameWorksSpec : ChangeSpec := { name := "fnExactSameWorks", fn := fun _ => fun
  | [d1, d2] => { results := [.lit (.bool true)], args := [d1, d2] }
  | _ => none }
def fnExactSameWorksRow : OpenClaim := { program := "ytigegnkifeljhaa", sum := "653ffb6d7c0139af2366be8ed53bc9046d1f7688db90ac97c0e88a124216a3d3", func := "loop.example/g01213/laws.FnExactSameWorks", spec := "fnExactSameWorks", unfollowed := true, recurses := true, apart := false }
def FnExactSameWorksSaid : Prop := fnExactSameWorksRow.holds Try.pinned (OpenSpec.ofChange fnExactSameWorksSpec)

/-- ITS FALSE NEIGHBOUR: 'it returns false'. Refute it at one input. -/
def fnExactSameWorksWrong : ChangeSpec := { name := "fnExactSameWorks", fn := fun _ => fun
  | [d1, d2] => { results := [.lit (.bool false)], args := [d1, d2] }
  | _ => none }
def FnExactSameWorksWrongFalsely : Prop := fnExactSameWorksRow.holds Try.pinned (OpenSpec.ofChange fnExactSameWorksWrong)

/-- 'laws.FnExactTotalOf': WHATEVER THE INPUT: true; the input reads as it did. -/
def fnExactTotalOfSpec : ChangeSpec := { name := "fnExactTotalOf", fn := fun _ => fun
  | [d] => { results := [.lit (.bool true)], args := [d] }
  | _ => none }
def fnExactTotalOfRow : OpenClaim := { program := "ytigegnkifeljhaa", sum := "653ffb6d7c0139af2366be8ed53bc9046d1f7688db90ac97c0e88a124216a3d3", func := "loop.example/g01213/laws.FnExactTotalOf", spec := "fnExactTotalOf", unfollowed := true, recurses := true, apart := false }
def FnExactTotalOfSaid : Prop := fnExactTotalOfRow.holds Try.pinned (OpenSpec.ofChange fnExactTotalOfSpec)

/-- ITS FALSE NEIGHBOUR: 'it returns false'. Refute it at one input. -/
def fnExactTotalOfWrong : ChangeSpec := { name := "fnExactTotalOf", fn := fun _ => fun
  | [d] => { results := [.lit (.bool false)], args := [d] }
  | _ => none }
def FnExactTotalOfWrongFalsely : Prop := fnExactTotalOfRow.holds Try.pinned (OpenSpec.ofChange fnExactTotalOfWrong)

/-- 'laws.FnExactLampLeft': WHATEVER THE INPUT: true; the input reads as it did. -/
def fnExactLampLeftSpec : ChangeSpec := { name := "fnExactLampLeft", fn := fun _ => fun
  | [d1, d2] => { results := [.lit (.bool true)], args := [d1, d2] }
  | _ => none }
def fnExactLampLeftRow : OpenClaim := { program := "ytigegnkifeljhaa", sum := "653ffb6d7c0139af2366be8ed53bc9046d1f7688db90ac97c0e88a124216a3d3", func := "loop.example/g01213/laws.FnExactLampLeft", spec := "fnExactLampLeft", apart := false }
def FnExactLampLeftSaid : Prop := fnExactLampLeftRow.holds Try.pinned (OpenSpec.ofChange fnExactLampLeftSpec)

/-- ITS FALSE NEIGHBOUR: 'it returns false'. Refute it at one input. -/
def fnExactLampLeftWrong : ChangeSpec := { name := "fnExactLampLeft", fn := fun _ => fun
  | [d1, d2] => { results := [.lit (.bool false)], args := [d1, d2] }
  | _ => none }
def FnExactLampLeftWrongFalsely : Prop := fnExactLampLeftRow.holds Try.pinned (OpenSpec.ofChange fnExactLampLeftWrong)

/-- 'laws.FnExactLeastOf': WHATEVER THE INPUT: true; the input reads as it did. -/
def fnExactLeastOfSpec : ChangeSpec := { name := "fnExactLeastOf", fn := fun _ => fun
  | [d] => { results := [.lit (.bool true)], args := [d] }
  | _ => none }
def fnExactLeastOfRow : OpenClaim := { program := "ytigegnkifeljhaa", sum := "653ffb6d7c0139af2366be8ed53bc9046d1f7688db90ac97c0e88a124216a3d3", func := "loop.example/g01213/laws.FnExactLeastOf", spec := "fnExactLeastOf", inPlace := ["math.Float64frombits"], unfollowed := true, recurses := true, apart := false }
def FnExactLeastOfSaid : Prop := fnExactLeastOfRow.holds Try.pinned (OpenSpec.ofChange fnExactLeastOfSpec)

/-- ITS FALSE NEIGHBOUR: 'it returns false'. Refute it at one input. -/
def fnExactLeastOfWrong : ChangeSpec := { name := "fnExactLeastOf", fn := fun _ => fun
  | [d] => { results := [.lit (.bool false)], args := [d] }
  | _ => none }
def FnExactLeastOfWrongFalsely : Prop := fnExactLeastOfRow.holds Try.pinned (OpenSpec.ofChange fnExactLeastOfWrong)

/-- 'laws.FnExactGreatestOf': WHATEVER THE INPUT: true; the input reads as it did. -/
def fnExactGreatestOfSpec : ChangeSpec := { name := "fnExactGreatestOf", fn := fun _ => fun
  | [d] => { results := [.lit (.bool true)], args := [d] }
  | _ => none }
def fnExactGreatestOfRow : OpenClaim := { program := "ytigegnkifeljhaa", sum := "653ffb6d7c0139af2366be8ed53bc9046d1f7688db90ac97c0e88a124216a3d3", func := "loop.example/g01213/laws.FnExactGreatestOf", spec := "fnExactGreatestOf", inPlace := ["math.Float64frombits"], unfollowed := true, recurses := true, apart := false }
def FnExactGreatestOfSaid : Prop := fnExactGreatestOfRow.holds Try.pinned (OpenSpec.ofChange fnExactGreatestOfSpec)

/-- ITS FALSE NEIGHBOUR: 'it returns false'. Refute it at one input. -/
def fnExactGreatestOfWrong : ChangeSpec := { name := "fnExactGreatestOf", fn := fun _ => fun
  | [d] => { results := [.lit (.bool false)], args := [d] }
  | _ => none }
def FnExactGreatestOfWrongFalsely : Prop := fnExactGreatestOfRow.holds Try.pinned (OpenSpec.ofChange fnExactGreatestOfWrong)

/-- 'laws.FnExactContrastOf': WHATEVER THE INPUT: true; the input reads as it did. -/
def fnExactContrastOfSpec : ChangeSpec := { name := "fnExactContrastOf", fn := fun _ => fun
  | [d] => { results := [.lit (.bool true)], args := [d] }
  | _ => none }
def fnExactContrastOfRow : OpenClaim := { program := "ytigegnkifeljhaa", sum := "653ffb6d7c0139af2366be8ed53bc9046d1f7688db90ac97c0e88a124216a3d3", func := "loop.example/g01213/laws.FnExactContrastOf", spec := "fnExactContrastOf", inPlace := ["math.Float64frombits", "math.Float64bits"], unfollowed := true, recurses := true, apart := false }
def FnExactContrastOfSaid : Prop := fnExactContrastOfRow.holds Try.pinned (OpenSpec.ofChange fnExactContrastOfSpec)

/-- ITS FALSE NEIGHBOUR: 'it returns false'. Refute it at one input. -/
def fnExactContrastOfWrong : ChangeSpec := { name := "fnExactContrastOf", fn := fun _ => fun
  | [d] => { results := [.lit (.bool false)], args := [d] }
  | _ => none }
def FnExactContrastOfWrongFalsely : Prop := fnExactContrastOfRow.holds Try.pinned (OpenSpec.ofChange fnExactContrastOfWrong)

/-- 'laws.FnExactThicknessFor': WHATEVER THE INPUT: true; the input reads as it did. -/
def fnExactThicknessForSpec : ChangeSpec := { name := "fnExactThicknessFor", fn := fun _ => fun
  | [d1, d2, d3] => { results := [.lit (.bool true)], args := [d1, d2, d3] }
  | _ => none }
def fnExactThicknessForRow : OpenClaim := { program := "ytigegnkifeljhaa", sum := "653ffb6d7c0139af2366be8ed53bc9046d1f7688db90ac97c0e88a124216a3d3", func := "loop.example/g01213/laws.FnExactThicknessFor", spec := "fnExactThicknessFor", inPlace := ["math.Float64frombits", "math.Float64bits"], unfollowed := true, recurses := true, apart := false }
def FnExactThicknessForSaid : Prop := fnExactThicknessForRow.holds Try.pinned (OpenSpec.ofChange fnExactThicknessForSpec)

/-- ITS FALSE NEIGHBOUR: 'it returns false'. Refute it at one input. -/
def fnExactThicknessForWrong : ChangeSpec := { name := "fnExactThicknessFor", fn := fun _ => fun
  | [d1, d2, d3] => { results := [.lit (.bool false)], args := [d1, d2, d3] }
  | _ => none }
def FnExactThicknessForWrongFalsely : Prop := fnExactThicknessForRow.holds Try.pinned (OpenSpec.ofChange fnExactThicknessForWrong)

/-- 'laws.FnExactCoverSeen': WHATEVER THE INPUT: true; the input reads as it did. -/
def fnExactCoverSeenSpec : ChangeSpec := { name := "fnExactCoverSeen", fn := fun _ => fun
  | [d1, d2, d3] => { results := [.lit (.bool true)], args := [d1, d2, d3] }
  | _ => none }
def fnExactCoverSeenRow : OpenClaim := { program := "ytigegnkifeljhaa", sum := "653ffb6d7c0139af2366be8ed53bc9046d1f7688db90ac97c0e88a124216a3d3", func := "loop.example/g01213/laws.FnExactCoverSeen", spec := "fnExactCoverSeen", apart := false }
def FnExactCoverSeenSaid : Prop := fnExactCoverSeenRow.holds Try.pinned (OpenSpec.ofChange fnExactCoverSeenSpec)

/-- ITS FALSE NEIGHBOUR: 'it returns false'. Refute it at one input. -/
def fnExactCoverSeenWrong : ChangeSpec := { name := "fnExactCoverSeen", fn := fun _ => fun
  | [d1, d2, d3] => { results := [.lit (.bool false)], args := [d1, d2, d3] }
  | _ => none }
def FnExactCoverSeenWrongFalsely : Prop := fnExactCoverSeenRow.holds Try.pinned (OpenSpec.ofChange fnExactCoverSeenWrong)

/-- 'laws.FnExactTilesOf': WHATEVER THE INPUT: true; the input reads as it did. -/
def fnExactTilesOfSpec : ChangeSpec := { name := "fnExactTilesOf", fn := fun _ => fun
  | [d] => { results := [.lit (.bool true)], args := [d] }
  | _ => none }
def fnExactTilesOfRow : OpenClaim := { program := "ytigegnkifeljhaa", sum := "653ffb6d7c0139af2366be8ed53bc9046d1f7688db90ac97c0e88a124216a3d3", func := "loop.example/g01213/laws.FnExactTilesOf", spec := "fnExactTilesOf", inPlace := ["math.RoundToEven"], unfollowed := true, recurses := true, apart := false }
def FnExactTilesOfSaid : Prop := fnExactTilesOfRow.holds Try.pinned (OpenSpec.ofChange fnExactTilesOfSpec)

/-- ITS FALSE NEIGHBOUR: 'it returns false'. Refute it at one input. -/
def fnExactTilesOfWrong : ChangeSpec := { name := "fnExactTilesOf", fn := fun _ => fun
  | [d] => { results := [.lit (.bool false)], args := [d] }
  | _ => none }
def FnExactTilesOfWrongFalsely : Prop := fnExactTilesOfRow.holds Try.pinned (OpenSpec.ofChange fnExactTilesOfWrong)

/-- 'laws.FnExactValidSamples': WHATEVER THE INPUT: true; the input reads as it did. -/
def fnExactValidSamplesSpec : ChangeSpec := { name := "fnExactValidSamples", fn := fun _ => fun
  | [d] => { results := [.lit (.bool true)], args := [d] }
  | _ => none }
def fnExactValidSamplesRow : OpenClaim := { program := "ytigegnkifeljhaa", sum := "653ffb6d7c0139af2366be8ed53bc9046d1f7688db90ac97c0e88a124216a3d3", func := "loop.example/g01213/laws.FnExactValidSamples", spec := "fnExactValidSamples", apart := false }
def FnExactValidSamplesSaid : Prop := fnExactValidSamplesRow.holds Try.pinned (OpenSpec.ofChange fnExactValidSamplesSpec)

/-- ITS FALSE NEIGHBOUR: 'it returns false'. Refute it at one input. -/
def fnExactValidSamplesWrong : ChangeSpec := { name := "fnExactValidSamples", fn := fun _ => fun
  | [d] => { results := [.lit (.bool false)], args := [d] }
  | _ => none }
def FnExactValidSamplesWrongFalsely : Prop := fnExactValidSamplesRow.holds Try.pinned (OpenSpec.ofChange fnExactValidSamplesWrong)

/-- 'laws.FnExactTasksOf': WHATEVER THE INPUT: true; the input reads as it did. -/
def fnExactTasksOfSpec : ChangeSpec := { name := "fnExactTasksOf", fn := fun _ => fun
  | [d] => { results := [.lit (.bool true)], args := [d] }
  | _ => none }
def fnExactTasksOfRow : OpenClaim := { program := "ytigegnkifeljhaa", sum := "653ffb6d7c0139af2366be8ed53bc9046d1f7688db90ac97c0e88a124216a3d3", func := "loop.example/g01213/laws.FnExactTasksOf", spec := "fnExactTasksOf", unfollowed := true, recurses := true, apart := false }
def FnExactTasksOfSaid : Prop := fnExactTasksOfRow.holds Try.pinned (OpenSpec.ofChange fnExactTasksOfSpec)

/-- ITS FALSE NEIGHBOUR: 'it returns false'. Refute it at one input. -/
def fnExactTasksOfWrong : ChangeSpec := { name := "fnExactTasksOf", fn := fun _ => fun
  | [d] => { results := [.lit (.bool false)], args := [d] }
  | _ => none }
def FnExactTasksOfWrongFalsely : Prop := fnExactTasksOfRow.holds Try.pinned (OpenSpec.ofChange fnExactTasksOfWrong)

/- THE SECOND FORM. 'bulk': how many values and letters a reading holds, each counted each time it is reached (what is shared counts as often as it is met; a slice's spare places count too). A statement '..UptoSaid' is the law's where the arguments, and the package variables that the reading takes, are together of bulk at most 1048576: NARROWER than '..Said'. Prove '..Said' where nothing that the law and all that it calls make is longer than what came in: it says more and counts as full. Else prove '..UptoSaid'. A law counts once. -/
mutual
def uptoBulk {H : Type} : DataW H → Nat
  | .lit (.string bytes) => bytes.length + 1
  | .lit _ => 1
  | .nil => 1
  | .ptr d => uptoBulk d + 1
  | .slice elems spare => uptoBulkAll elems + uptoBulkAll spare + 1
  | .agg parts => uptoBulkAll parts + 1
  | .iface _ d => uptoBulk d + 1
  | .map entries => uptoBulkEntries entries + 1
  | .held _ => 1
def uptoBulkAll {H : Type} : List (DataW H) → Nat
  | [] => 0
  | d :: r => uptoBulk d + uptoBulkAll r
def uptoBulkEntries {H : Type} : List (Lit × DataW H) → Nat
  | [] => 0
  | x :: r => uptoBulkEntry x + uptoBulkEntries r
def uptoBulkEntry {H : Type} : Lit × DataW H → Nat
  | (.string bytes, d) => bytes.length + uptoBulk d + 1
  | (_, d) => uptoBulk d + 1
 end
def uptoSmall : (H : Type) → List (DataW H) → Bool := fun _ ds => decide (uptoBulkAll ds ≤ 1048576)
def OpenSpec.upto (s : _root_.Go.ChangeSpec) : _root_.Go.OpenSpec := { _root_.Go.OpenSpec.ofChange s with cond := some uptoSmall }

/-- 'laws.FnExactValidWorks', WHERE WHAT IT READS IS OF BULK AT MOST 1048576: true; the input reads as it did. -/
def fnExactValidWorksUptoRow : OpenClaim := { program := "ytigegnkifeljhaa", sum := "653ffb6d7c0139af2366be8ed53bc9046d1f7688db90ac97c0e88a124216a3d3", func := "loop.example/g01213/laws.FnExactValidWorks", spec := "fnExactValidWorks", unfollowed := true, recurses := true, apart := false, narrowed := true }
def FnExactValidWorksUptoSaid : Prop := fnExactValidWorksUptoRow.holds Try.pinned (OpenSpec.upto fnExactValidWorksSpec)

/-- 'laws.FnExactSameWorks', WHERE WHAT IT READS IS OF BULK AT MOST 1048576: true; the input reads as it did. -/
def fnExactSameWorksUptoRow : OpenClaim := { program := "ytigegnkifeljhaa", sum := "653ffb6d7c0139af2366be8ed53bc9046d1f7688db90ac97c0e88a124216a3d3", func := "loop.example/g01213/laws.FnExactSameWorks", spec := "fnExactSameWorks", unfollowed := true, recurses := true, apart := false, narrowed := true }
def FnExactSameWorksUptoSaid : Prop := fnExactSameWorksUptoRow.holds Try.pinned (OpenSpec.upto fnExactSameWorksSpec)

/-- 'laws.FnExactTotalOf', WHERE WHAT IT READS IS OF BULK AT MOST 1048576: true; the input reads as it did. -/
def fnExactTotalOfUptoRow : OpenClaim := { program := "ytigegnkifeljhaa", sum := "653ffb6d7c0139af2366be8ed53bc9046d1f7688db90ac97c0e88a124216a3d3", func := "loop.example/g01213/laws.FnExactTotalOf", spec := "fnExactTotalOf", unfollowed := true, recurses := true, apart := false, narrowed := true }
def FnExactTotalOfUptoSaid : Prop := fnExactTotalOfUptoRow.holds Try.pinned (OpenSpec.upto fnExactTotalOfSpec)

/-- 'laws.FnExactLampLeft', WHERE WHAT IT READS IS OF BULK AT MOST 1048576: true; the input reads as it did. -/
def fnExactLampLeftUptoRow : OpenClaim := { program := "ytigegnkifeljhaa", sum := "653ffb6d7c0139af2366be8ed53bc9046d1f7688db90ac97c0e88a124216a3d3", func := "loop.example/g01213/laws.FnExactLampLeft", spec := "fnExactLampLeft", apart := false, narrowed := true }
def FnExactLampLeftUptoSaid : Prop := fnExactLampLeftUptoRow.holds Try.pinned (OpenSpec.upto fnExactLampLeftSpec)

/-- 'laws.FnExactLeastOf', WHERE WHAT IT READS IS OF BULK AT MOST 1048576: true; the input reads as it did. -/
def fnExactLeastOfUptoRow : OpenClaim := { program := "ytigegnkifeljhaa", sum := "653ffb6d7c0139af2366be8ed53bc9046d1f7688db90ac97c0e88a124216a3d3", func := "loop.example/g01213/laws.FnExactLeastOf", spec := "fnExactLeastOf", inPlace := ["math.Float64frombits"], unfollowed := true, recurses := true, apart := false, narrowed := true }
def FnExactLeastOfUptoSaid : Prop := fnExactLeastOfUptoRow.holds Try.pinned (OpenSpec.upto fnExactLeastOfSpec)

/-- 'laws.FnExactGreatestOf', WHERE WHAT IT READS IS OF BULK AT MOST 1048576: true; the input reads as it did. -/
def fnExactGreatestOfUptoRow : OpenClaim := { program := "ytigegnkifeljhaa", sum := "653ffb6d7c0139af2366be8ed53bc9046d1f7688db90ac97c0e88a124216a3d3", func := "loop.example/g01213/laws.FnExactGreatestOf", spec := "fnExactGreatestOf", inPlace := ["math.Float64frombits"], unfollowed := true, recurses := true, apart := false, narrowed := true }
def FnExactGreatestOfUptoSaid : Prop := fnExactGreatestOfUptoRow.holds Try.pinned (OpenSpec.upto fnExactGreatestOfSpec)

/-- 'laws.FnExactContrastOf', WHERE WHAT IT READS IS OF BULK AT MOST 1048576: true; the input reads as it did. -/
def fnExactContrastOfUptoRow : OpenClaim := { program := "ytigegnkifeljhaa", sum := "653ffb6d7c0139af2366be8ed53bc9046d1f7688db90ac97c0e88a124216a3d3", func := "loop.example/g01213/laws.FnExactContrastOf", spec := "fnExactContrastOf", inPlace := ["math.Float64frombits", "math.Float64bits"], unfollowed := true, recurses := true, apart := false, narrowed := true }
def FnExactContrastOfUptoSaid : Prop := fnExactContrastOfUptoRow.holds Try.pinned (OpenSpec.upto fnExactContrastOfSpec)

/-- 'laws.FnExactThicknessFor', WHERE WHAT IT READS IS OF BULK AT MOST 1048576: true; the input reads as it did. -/
def fnExactThicknessForUptoRow : OpenClaim := { program := "ytigegnkifeljhaa", sum := "653ffb6d7c0139af2366be8ed53bc9046d1f7688db90ac97c0e88a124216a3d3", func := "loop.example/g01213/laws.FnExactThicknessFor", spec := "fnExactThicknessFor", inPlace := ["math.Float64frombits", "math.Float64bits"], unfollowed := true, recurses := true, apart := false, narrowed := true }
def FnExactThicknessForUptoSaid : Prop := fnExactThicknessForUptoRow.holds Try.pinned (OpenSpec.upto fnExactThicknessForSpec)

/-- 'laws.FnExactCoverSeen', WHERE WHAT IT READS IS OF BULK AT MOST 1048576: true; the input reads as it did. -/
def fnExactCoverSeenUptoRow : OpenClaim := { program := "ytigegnkifeljhaa", sum := "653ffb6d7c0139af2366be8ed53bc9046d1f7688db90ac97c0e88a124216a3d3", func := "loop.example/g01213/laws.FnExactCoverSeen", spec := "fnExactCoverSeen", apart := false, narrowed := true }
def FnExactCoverSeenUptoSaid : Prop := fnExactCoverSeenUptoRow.holds Try.pinned (OpenSpec.upto fnExactCoverSeenSpec)

/-- 'laws.FnExactTilesOf', WHERE WHAT IT READS IS OF BULK AT MOST 1048576: true; the input reads as it did. -/
def fnExactTilesOfUptoRow : OpenClaim := { program := "ytigegnkifeljhaa", sum := "653ffb6d7c0139af2366be8ed53bc9046d1f7688db90ac97c0e88a124216a3d3", func := "loop.example/g01213/laws.FnExactTilesOf", spec := "fnExactTilesOf", inPlace := ["math.RoundToEven"], unfollowed := true, recurses := true, apart := false, narrowed := true }
def FnExactTilesOfUptoSaid : Prop := fnExactTilesOfUptoRow.holds Try.pinned (OpenSpec.upto fnExactTilesOfSpec)

/-- 'laws.FnExactValidSamples', WHERE WHAT IT READS IS OF BULK AT MOST 1048576: true; the input reads as it did. -/
def fnExactValidSamplesUptoRow : OpenClaim := { program := "ytigegnkifeljhaa", sum := "653ffb6d7c0139af2366be8ed53bc9046d1f7688db90ac97c0e88a124216a3d3", func := "loop.example/g01213/laws.FnExactValidSamples", spec := "fnExactValidSamples", apart := false, narrowed := true }
def FnExactValidSamplesUptoSaid : Prop := fnExactValidSamplesUptoRow.holds Try.pinned (OpenSpec.upto fnExactValidSamplesSpec)

/-- 'laws.FnExactTasksOf', WHERE WHAT IT READS IS OF BULK AT MOST 1048576: true; the input reads as it did. -/
def fnExactTasksOfUptoRow : OpenClaim := { program := "ytigegnkifeljhaa", sum := "653ffb6d7c0139af2366be8ed53bc9046d1f7688db90ac97c0e88a124216a3d3", func := "loop.example/g01213/laws.FnExactTasksOf", spec := "fnExactTasksOf", unfollowed := true, recurses := true, apart := false, narrowed := true }
def FnExactTasksOfUptoSaid : Prop := fnExactTasksOfUptoRow.holds Try.pinned (OpenSpec.upto fnExactTasksOfSpec)

end Rows
end Go.Proofs.Ytigegnkifeljhaa
