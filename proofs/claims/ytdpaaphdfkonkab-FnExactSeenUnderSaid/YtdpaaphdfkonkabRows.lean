/-
  No cell of these rows narrows 'for every input' (looked for: loops, veiled, ifaces, maps, wideKeys, modest, calm, conditions, laid).
  DERIVED. THE GIVEN ROWS OF THIS SEAT. 12 by the template 'for every input the law returns true; each argument reads behind the call as it read before'; 0 by the template 'total and deterministic' (their statements: YtdpaaphdfkonkabTotals.lean).
  GIVEN WITH THE SEED: the statements are not yours to turn. If you find one false, say at which input.
  Laid BY PROGRAM, IN A SANDBOX (cutbox-rows.mjs): the forced cells as the released guide's own fill.sh prints them over the translation d6277921d5961d31… (all of the seat's roots in one cut). By AI agents, Wed Nov 11 2026. No macro, syntax, notation, axiom, sorry.
-/
import Derived.Test.YtdpaaphdfkonkabChecked
import GoSem.Claim
import GoSem.ClaimJoined
import GoSem.ClaimMapViews
import Derived.JoinedTies
import Derived.KernelRfl
namespace Go.Proofs.Ytdpaaphdfkonkab
/- THE CELL 'sum', in the pinned program and in every row, IS THE sha256 OF THE DUMP (.gsa) THAT YtdpaaphdfkonkabProg.lean LOADS. Nothing in Lean hashes anything: it is a label: what it is worth is what the hold of that sum in a sandbox is worth. -/
noncomputable def Try.pinned : Pinned := { name := "ytdpaaphdfkonkab", sum := "d6277921d5961d314c95526c69c462e4577db257d2e87dafce60c1e3cfcf3145", checked := Try.checked }
namespace Rows
def none {H : Type} : Left H := { results := [], args := [] }

/-- 'laws.FnExactLeastOf': WHATEVER THE INPUT: true; the input reads as it did. -/
def fnExactLeastOfSpec : ChangeSpec := { name := "fnExactLeastOf", fn := fun _ => fun
  | [d] => { results := [.lit (.bool true)], args := [d] }
  | _ => none }
def fnExactLeastOfRow : OpenClaim := { program := "ytdpaaphdfkonkab", sum := "d6277921d5961d314c95526c69c462e4577db257d2e87dafce60c1e3cfcf3145", func := "loop.example/g01213/laws.FnExactLeastOf", spec := "fnExactLeastOf", inPlace := ["math.Float64frombits"], unfollowed := true, recurses := true, apart := false }
def FnExactLeastOfSaid : Prop := fnExactLeastOfRow.holds Try.pinned (OpenSpec.ofChange fnExactLeastOfSpec)

/-- ITS FALSE NEIGHBOUR: 'it returns false'. Refute it at one input. -/
def fnExactLeastOfWrong : ChangeSpec := { name := "fnExactLeastOf", fn := fun _ => fun
  | [d] => { results := [.lit (.bool false)], args := [d] }
  | _ => none }
def FnExactLeastOfWrongFalsely : Prop := fnExactLeastOfRow.holds Try.pinned (OpenSpec.ofChange fnExactLeastOfWrong)

/-- 'laws.FnExactGreatestOf': WHATEVER THE INPUT: true; the input reads as it did. -/
def fnExactGreatestOfSpec : ChangeSpec := { name := "fnExactGreatestOf", fn := fun _ => fun
  | [d] => { results := [.lit (.bool true)], args := [d] }
  | _ => none }
def fnExactGreatestOfRow : OpenClaim := { program := "ytdpaaphdfkonkab", sum := "d6277921d5961d314c95526c69c462e4577db257d2e87dafce60c1e3cfcf3145", func := "loop.example/g01213/laws.FnExactGreatestOf", spec := "fnExactGreatestOf", inPlace := ["math.Float64frombits"], unfollowed := true, recurses := true, apart := false }
def FnExactGreatestOfSaid : Prop := fnExactGreatestOfRow.holds Try.pinned (OpenSpec.ofChange fnExactGreatestOfSpec)

/-- ITS FALSE NEIGHBOUR: 'it returns false'. Refute it at one input. -/
def fnExactGreatestOfWrong : ChangeSpec := { name := "fnExactGreatestOf", fn := fun _ => fun
  | [d] => { results := [.lit (.bool false)], args := [d] }
  | _ => none }
def FnExactGreatestOfWrongFalsely : Prop := fnExactGreatestOfRow.holds Try.pinned (OpenSpec.ofChange fnExactGreatestOfWrong)

/-- 'laws.FnExactBump': WHATEVER THE INPUT: true; the input reads as it did. -/
def fnExactBumpSpec : ChangeSpec := { name := "fnExactBump", fn := fun _ => fun
  | [d1, d2] => { results := [.lit (.bool true)], args := [d1, d2] }
  | _ => none }
def fnExactBumpRow : OpenClaim := { program := "ytdpaaphdfkonkab", sum := "d6277921d5961d314c95526c69c462e4577db257d2e87dafce60c1e3cfcf3145", func := "loop.example/g01213/laws.FnExactBump", spec := "fnExactBump", inPlace := ["math.Float64bits", "math.Float64frombits"], unfollowed := true, recurses := true, apart := false }
def FnExactBumpSaid : Prop := fnExactBumpRow.holds Try.pinned (OpenSpec.ofChange fnExactBumpSpec)

/-- ITS FALSE NEIGHBOUR: 'it returns false'. Refute it at one input. -/
def fnExactBumpWrong : ChangeSpec := { name := "fnExactBump", fn := fun _ => fun
  | [d1, d2] => { results := [.lit (.bool false)], args := [d1, d2] }
  | _ => none }
def FnExactBumpWrongFalsely : Prop := fnExactBumpRow.holds Try.pinned (OpenSpec.ofChange fnExactBumpWrong)

/-- 'laws.FnExactObservers': WHATEVER THE INPUT: true; the input reads as it did. -/
def fnExactObserversSpec : ChangeSpec := { name := "fnExactObservers", fn := fun _ => fun
  | [] => { results := [.lit (.bool true)], args := [] }
  | _ => none }
def fnExactObserversRow : OpenClaim := { program := "ytdpaaphdfkonkab", sum := "d6277921d5961d314c95526c69c462e4577db257d2e87dafce60c1e3cfcf3145", func := "loop.example/g01213/laws.FnExactObservers", spec := "fnExactObservers", unfollowed := true, recurses := true, apart := false }
def FnExactObserversSaid : Prop := fnExactObserversRow.holds Try.pinned (OpenSpec.ofChange fnExactObserversSpec)

/-- ITS FALSE NEIGHBOUR: 'it returns false'. Refute it at one input. -/
def fnExactObserversWrong : ChangeSpec := { name := "fnExactObservers", fn := fun _ => fun
  | [] => { results := [.lit (.bool false)], args := [] }
  | _ => none }
def FnExactObserversWrongFalsely : Prop := fnExactObserversRow.holds Try.pinned (OpenSpec.ofChange fnExactObserversWrong)

/-- 'laws.FnExactLightOf': WHATEVER THE INPUT: true; the input reads as it did. -/
def fnExactLightOfSpec : ChangeSpec := { name := "fnExactLightOf", fn := fun _ => fun
  | [d] => { results := [.lit (.bool true)], args := [d] }
  | _ => none }
def fnExactLightOfRow : OpenClaim := { program := "ytdpaaphdfkonkab", sum := "d6277921d5961d314c95526c69c462e4577db257d2e87dafce60c1e3cfcf3145", func := "loop.example/g01213/laws.FnExactLightOf", spec := "fnExactLightOf", unfollowed := true, recurses := true, apart := false }
def FnExactLightOfSaid : Prop := fnExactLightOfRow.holds Try.pinned (OpenSpec.ofChange fnExactLightOfSpec)

/-- ITS FALSE NEIGHBOUR: 'it returns false'. Refute it at one input. -/
def fnExactLightOfWrong : ChangeSpec := { name := "fnExactLightOf", fn := fun _ => fun
  | [d] => { results := [.lit (.bool false)], args := [d] }
  | _ => none }
def FnExactLightOfWrongFalsely : Prop := fnExactLightOfRow.holds Try.pinned (OpenSpec.ofChange fnExactLightOfWrong)

/-- 'laws.FnExactSeenUnder': WHATEVER THE INPUT: true; the input reads as it did. -/
def fnExactSeenUnderSpec : ChangeSpec := { name := "fnExactSeenUnder", fn := fun _ => fun
  | [d1, d2] => { results := [.lit (.bool true)], args := [d1, d2] }
  | _ => none }
def fnExactSeenUnderRow : OpenClaim := { program := "ytdpaaphdfkonkab", sum := "d6277921d5961d314c95526c69c462e4577db257d2e87dafce60c1e3cfcf3145", func := "loop.example/g01213/laws.FnExactSeenUnder", spec := "fnExactSeenUnder", inPlace := ["math.Float64bits", "math.Float64frombits"], unfollowed := true, recurses := true, apart := false }
def FnExactSeenUnderSaid : Prop := fnExactSeenUnderRow.holds Try.pinned (OpenSpec.ofChange fnExactSeenUnderSpec)

/-- ITS FALSE NEIGHBOUR: 'it returns false'. Refute it at one input. -/
def fnExactSeenUnderWrong : ChangeSpec := { name := "fnExactSeenUnder", fn := fun _ => fun
  | [d1, d2] => { results := [.lit (.bool false)], args := [d1, d2] }
  | _ => none }
def FnExactSeenUnderWrongFalsely : Prop := fnExactSeenUnderRow.holds Try.pinned (OpenSpec.ofChange fnExactSeenUnderWrong)

/-- 'laws.FnExactCubeRoot': WHATEVER THE INPUT: true; the input reads as it did. -/
def fnExactCubeRootSpec : ChangeSpec := { name := "fnExactCubeRoot", fn := fun _ => fun
  | [d] => { results := [.lit (.bool true)], args := [d] }
  | _ => none }
def fnExactCubeRootRow : OpenClaim := { program := "ytdpaaphdfkonkab", sum := "d6277921d5961d314c95526c69c462e4577db257d2e87dafce60c1e3cfcf3145", func := "loop.example/g01213/laws.FnExactCubeRoot", spec := "fnExactCubeRoot", inPlace := ["math.Float64bits", "math.Float64frombits"], apart := false }
def FnExactCubeRootSaid : Prop := fnExactCubeRootRow.holds Try.pinned (OpenSpec.ofChange fnExactCubeRootSpec)

/-- ITS FALSE NEIGHBOUR: 'it returns false'. Refute it at one input. -/
def fnExactCubeRootWrong : ChangeSpec := { name := "fnExactCubeRoot", fn := fun _ => fun
  | [d] => { results := [.lit (.bool false)], args := [d] }
  | _ => none }
def FnExactCubeRootWrongFalsely : Prop := fnExactCubeRootRow.holds Try.pinned (OpenSpec.ofChange fnExactCubeRootWrong)

/-- 'laws.FnExactPowerOf': WHATEVER THE INPUT: true; the input reads as it did. -/
def fnExactPowerOfSpec : ChangeSpec := { name := "fnExactPowerOf", fn := fun _ => fun
  | [d1, d2] => { results := [.lit (.bool true)], args := [d1, d2] }
  | _ => none }
def fnExactPowerOfRow : OpenClaim := { program := "ytdpaaphdfkonkab", sum := "d6277921d5961d314c95526c69c462e4577db257d2e87dafce60c1e3cfcf3145", func := "loop.example/g01213/laws.FnExactPowerOf", spec := "fnExactPowerOf", inPlace := ["math.archFloor", "math.Float64bits", "math.Float64frombits", "math.archTrunc"], apart := false }
def FnExactPowerOfSaid : Prop := fnExactPowerOfRow.holds Try.pinned (OpenSpec.ofChange fnExactPowerOfSpec)

/-- ITS FALSE NEIGHBOUR: 'it returns false'. Refute it at one input. -/
def fnExactPowerOfWrong : ChangeSpec := { name := "fnExactPowerOf", fn := fun _ => fun
  | [d1, d2] => { results := [.lit (.bool false)], args := [d1, d2] }
  | _ => none }
def FnExactPowerOfWrongFalsely : Prop := fnExactPowerOfRow.holds Try.pinned (OpenSpec.ofChange fnExactPowerOfWrong)

/-- 'laws.FnExactLookOf': WHATEVER THE INPUT: true; the input reads as it did. -/
def fnExactLookOfSpec : ChangeSpec := { name := "fnExactLookOf", fn := fun _ => fun
  | [d] => { results := [.lit (.bool true)], args := [d] }
  | _ => none }
def fnExactLookOfRow : OpenClaim := { program := "ytdpaaphdfkonkab", sum := "d6277921d5961d314c95526c69c462e4577db257d2e87dafce60c1e3cfcf3145", func := "loop.example/g01213/laws.FnExactLookOf", spec := "fnExactLookOf", inPlace := ["math.Float64bits", "math.Float64frombits"], apart := false }
def FnExactLookOfSaid : Prop := fnExactLookOfRow.holds Try.pinned (OpenSpec.ofChange fnExactLookOfSpec)

/-- ITS FALSE NEIGHBOUR: 'it returns false'. Refute it at one input. -/
def fnExactLookOfWrong : ChangeSpec := { name := "fnExactLookOf", fn := fun _ => fun
  | [d] => { results := [.lit (.bool false)], args := [d] }
  | _ => none }
def FnExactLookOfWrongFalsely : Prop := fnExactLookOfRow.holds Try.pinned (OpenSpec.ofChange fnExactLookOfWrong)

/-- 'laws.FnExactLookUnder': WHATEVER THE INPUT: true; the input reads as it did. -/
def fnExactLookUnderSpec : ChangeSpec := { name := "fnExactLookUnder", fn := fun _ => fun
  | [d1, d2] => { results := [.lit (.bool true)], args := [d1, d2] }
  | _ => none }
def fnExactLookUnderRow : OpenClaim := { program := "ytdpaaphdfkonkab", sum := "d6277921d5961d314c95526c69c462e4577db257d2e87dafce60c1e3cfcf3145", func := "loop.example/g01213/laws.FnExactLookUnder", spec := "fnExactLookUnder", inPlace := ["math.Float64bits", "math.Float64frombits"], unfollowed := true, recurses := true, apart := false }
def FnExactLookUnderSaid : Prop := fnExactLookUnderRow.holds Try.pinned (OpenSpec.ofChange fnExactLookUnderSpec)

/-- ITS FALSE NEIGHBOUR: 'it returns false'. Refute it at one input. -/
def fnExactLookUnderWrong : ChangeSpec := { name := "fnExactLookUnder", fn := fun _ => fun
  | [d1, d2] => { results := [.lit (.bool false)], args := [d1, d2] }
  | _ => none }
def FnExactLookUnderWrongFalsely : Prop := fnExactLookUnderRow.holds Try.pinned (OpenSpec.ofChange fnExactLookUnderWrong)

/-- 'laws.FnExactDistanceOf': WHATEVER THE INPUT: true; the input reads as it did. -/
def fnExactDistanceOfSpec : ChangeSpec := { name := "fnExactDistanceOf", fn := fun _ => fun
  | [d1, d2] => { results := [.lit (.bool true)], args := [d1, d2] }
  | _ => none }
def fnExactDistanceOfRow : OpenClaim := { program := "ytdpaaphdfkonkab", sum := "d6277921d5961d314c95526c69c462e4577db257d2e87dafce60c1e3cfcf3145", func := "loop.example/g01213/laws.FnExactDistanceOf", spec := "fnExactDistanceOf", inPlace := ["math.sqrt"], apart := false }
def FnExactDistanceOfSaid : Prop := fnExactDistanceOfRow.holds Try.pinned (OpenSpec.ofChange fnExactDistanceOfSpec)

/-- ITS FALSE NEIGHBOUR: 'it returns false'. Refute it at one input. -/
def fnExactDistanceOfWrong : ChangeSpec := { name := "fnExactDistanceOf", fn := fun _ => fun
  | [d1, d2] => { results := [.lit (.bool false)], args := [d1, d2] }
  | _ => none }
def FnExactDistanceOfWrongFalsely : Prop := fnExactDistanceOfRow.holds Try.pinned (OpenSpec.ofChange fnExactDistanceOfWrong)

/-- 'laws.FnExactDifferenceOf': WHATEVER THE INPUT: true; the input reads as it did. -/
def fnExactDifferenceOfSpec : ChangeSpec := { name := "fnExactDifferenceOf", fn := fun _ => fun
  | [d1, d2] => { results := [.lit (.bool true)], args := [d1, d2] }
  | _ => none }
def fnExactDifferenceOfRow : OpenClaim := { program := "ytdpaaphdfkonkab", sum := "d6277921d5961d314c95526c69c462e4577db257d2e87dafce60c1e3cfcf3145", func := "loop.example/g01213/laws.FnExactDifferenceOf", spec := "fnExactDifferenceOf", inPlace := ["math.sqrt"], apart := false }
def FnExactDifferenceOfSaid : Prop := fnExactDifferenceOfRow.holds Try.pinned (OpenSpec.ofChange fnExactDifferenceOfSpec)

/-- ITS FALSE NEIGHBOUR: 'it returns false'. Refute it at one input. -/
def fnExactDifferenceOfWrong : ChangeSpec := { name := "fnExactDifferenceOf", fn := fun _ => fun
  | [d1, d2] => { results := [.lit (.bool false)], args := [d1, d2] }
  | _ => none }
def FnExactDifferenceOfWrongFalsely : Prop := fnExactDifferenceOfRow.holds Try.pinned (OpenSpec.ofChange fnExactDifferenceOfWrong)

/- THE SECOND FORM. 'bulk': how many values and letters a reading holds, each counted each time it is reached (what is shared counts as often as it is met; a slice's spare places count too). A statement '..UptoSaid' is the law's where the arguments, and the package variables that the reading takes, are together of bulk at most 1048576: NARROWER than '..Said'. Prove '..Said' where nothing that the law and all that it calls make is longer than what came in: it says more and counts as full. Else prove '..UptoSaid'. A law counts once. -/
mutual
def uptoBulk {H : Type} : DataW H → Nat
  | .lit (.string bytes) => bytes.length + 1
  | .lit _ => 1
  | .nil => 1
  | .ptr d => uptoBulk d + 1
  | .slice elems spare => uptoBulkAll elems + uptoBulkAll spare + 1
  | .agg parts => uptoBulkAll parts + 1
  | .iface _ d => uptoBulk d + 1
  | .map entries => uptoBulkEntries entries + 1
  | .held _ => 1
def uptoBulkAll {H : Type} : List (DataW H) → Nat
  | [] => 0
  | d :: r => uptoBulk d + uptoBulkAll r
def uptoBulkEntries {H : Type} : List (Lit × DataW H) → Nat
  | [] => 0
  | x :: r => uptoBulkEntry x + uptoBulkEntries r
def uptoBulkEntry {H : Type} : Lit × DataW H → Nat
  | (.string bytes, d) => bytes.length + uptoBulk d + 1
  | (_, d) => uptoBulk d + 1
 end
def uptoSmall : (H : Type) → List (DataW H) → Bool := fun _ ds => decide (uptoBulkAll ds ≤ 1048576)
def OpenSpec.upto (s : _root_.Go.ChangeSpec) : _root_.Go.OpenSpec := { _root_.Go.OpenSpec.ofChange s with cond := some uptoSmall }

/-- 'laws.FnExactLeastOf', WHERE WHAT IT READS IS OF BULK AT MOST 1048576: true; the input reads as it did. -/
def fnExactLeastOfUptoRow : OpenClaim := { program := "ytdpaaphdfkonkab", sum := "d6277921d5961d314c95526c69c462e4577db257d2e87dafce60c1e3cfcf3145", func := "loop.example/g01213/laws.FnExactLeastOf", spec := "fnExactLeastOf", inPlace := ["math.Float64frombits"], unfollowed := true, recurses := true, apart := false, narrowed := true }
def FnExactLeastOfUptoSaid : Prop := fnExactLeastOfUptoRow.holds Try.pinned (OpenSpec.upto fnExactLeastOfSpec)

/-- 'laws.FnExactGreatestOf', WHERE WHAT IT READS IS OF BULK AT MOST 1048576: true; the input reads as it did. -/
def fnExactGreatestOfUptoRow : OpenClaim := { program := "ytdpaaphdfkonkab", sum := "d6277921d5961d314c95526c69c462e4577db257d2e87dafce60c1e3cfcf3145", func := "loop.example/g01213/laws.FnExactGreatestOf", spec := "fnExactGreatestOf", inPlace := ["math.Float64frombits"], unfollowed := true, recurses := true, apart := false, narrowed := true }
def FnExactGreatestOfUptoSaid : Prop := fnExactGreatestOfUptoRow.holds Try.pinned (OpenSpec.upto fnExactGreatestOfSpec)

/-- 'laws.FnExactBump', WHERE WHAT IT READS IS OF BULK AT MOST 1048576: true; the input reads as it did. -/
def fnExactBumpUptoRow : OpenClaim := { program := "ytdpaaphdfkonkab", sum := "d6277921d5961d314c95526c69c462e4577db257d2e87dafce60c1e3cfcf3145", func := "loop.example/g01213/laws.FnExactBump", spec := "fnExactBump", inPlace := ["math.Float64bits", "math.Float64frombits"], unfollowed := true, recurses := true, apart := false, narrowed := true }
def FnExactBumpUptoSaid : Prop := fnExactBumpUptoRow.holds Try.pinned (OpenSpec.upto fnExactBumpSpec)

/-- 'laws.FnExactObservers', WHERE WHAT IT READS IS OF BULK AT MOST 1048576: true; the input reads as it did. -/
def fnExactObserversUptoRow : OpenClaim := { program := "ytdpaaphdfkonkab", sum := "d6277921d5961d314c95526c69c462e4577db257d2e87dafce60c1e3cfcf3145", func := "loop.example/g01213/laws.FnExactObservers", spec := "fnExactObservers", unfollowed := true, recurses := true, apart := false, narrowed := true }
def FnExactObserversUptoSaid : Prop := fnExactObserversUptoRow.holds Try.pinned (OpenSpec.upto fnExactObserversSpec)

/-- 'laws.FnExactLightOf', WHERE WHAT IT READS IS OF BULK AT MOST 1048576: true; the input reads as it did. -/
def fnExactLightOfUptoRow : OpenClaim := { program := "ytdpaaphdfkonkab", sum := "d6277921d5961d314c95526c69c462e4577db257d2e87dafce60c1e3cfcf3145", func := "loop.example/g01213/laws.FnExactLightOf", spec := "fnExactLightOf", unfollowed := true, recurses := true, apart := false, narrowed := true }
def FnExactLightOfUptoSaid : Prop := fnExactLightOfUptoRow.holds Try.pinned (OpenSpec.upto fnExactLightOfSpec)

/-- 'laws.FnExactSeenUnder', WHERE WHAT IT READS IS OF BULK AT MOST 1048576: true; the input reads as it did. -/
def fnExactSeenUnderUptoRow : OpenClaim := { program := "ytdpaaphdfkonkab", sum := "d6277921d5961d314c95526c69c462e4577db257d2e87dafce60c1e3cfcf3145", func := "loop.example/g01213/laws.FnExactSeenUnder", spec := "fnExactSeenUnder", inPlace := ["math.Float64bits", "math.Float64frombits"], unfollowed := true, recurses := true, apart := false, narrowed := true }
def FnExactSeenUnderUptoSaid : Prop := fnExactSeenUnderUptoRow.holds Try.pinned (OpenSpec.upto fnExactSeenUnderSpec)

/-- 'laws.FnExactCubeRoot', WHERE WHAT IT READS IS OF BULK AT MOST 1048576: true; the input reads as it did. -/
def fnExactCubeRootUptoRow : OpenClaim := { program := "ytdpaaphdfkonkab", sum := "d6277921d5961d314c95526c69c462e4577db257d2e87dafce60c1e3cfcf3145", func := "loop.example/g01213/laws.FnExactCubeRoot", spec := "fnExactCubeRoot", inPlace := ["math.Float64bits", "math.Float64frombits"], apart := false, narrowed := true }
def FnExactCubeRootUptoSaid : Prop := fnExactCubeRootUptoRow.holds Try.pinned (OpenSpec.upto fnExactCubeRootSpec)

/-- 'laws.FnExactPowerOf', WHERE WHAT IT READS IS OF BULK AT MOST 1048576: true; the input reads as it did. -/
def fnExactPowerOfUptoRow : OpenClaim := { program := "ytdpaaphdfkonkab", sum := "d6277921d5961d314c95526c69c462e4577db257d2e87dafce60c1e3cfcf3145", func := "loop.example/g01213/laws.FnExactPowerOf", spec := "fnExactPowerOf", inPlace := ["math.archFloor", "math.Float64bits", "math.Float64frombits", "math.archTrunc"], apart := false, narrowed := true }
def FnExactPowerOfUptoSaid : Prop := fnExactPowerOfUptoRow.holds Try.pinned (OpenSpec.upto fnExactPowerOfSpec)

/-- 'laws.FnExactLookOf', WHERE WHAT IT READS IS OF BULK AT MOST 1048576: true; the input reads as it did. -/
def fnExactLookOfUptoRow : OpenClaim := { program := "ytdpaaphdfkonkab", sum := "d6277921d5961d314c95526c69c462e4577db257d2e87dafce60c1e3cfcf3145", func := "loop.example/g01213/laws.FnExactLookOf", spec := "fnExactLookOf", inPlace := ["math.Float64bits", "math.Float64frombits"], apart := false, narrowed := true }
def FnExactLookOfUptoSaid : Prop := fnExactLookOfUptoRow.holds Try.pinned (OpenSpec.upto fnExactLookOfSpec)

/-- 'laws.FnExactLookUnder', WHERE WHAT IT READS IS OF BULK AT MOST 1048576: true; the input reads as it did. -/
def fnExactLookUnderUptoRow : OpenClaim := { program := "ytdpaaphdfkonkab", sum := "d6277921d5961d314c95526c69c462e4577db257d2e87dafce60c1e3cfcf3145", func := "loop.example/g01213/laws.FnExactLookUnder", spec := "fnExactLookUnder", inPlace := ["math.Float64bits", "math.Float64frombits"], unfollowed := true, recurses := true, apart := false, narrowed := true }
def FnExactLookUnderUptoSaid : Prop := fnExactLookUnderUptoRow.holds Try.pinned (OpenSpec.upto fnExactLookUnderSpec)

/-- 'laws.FnExactDistanceOf', WHERE WHAT IT READS IS OF BULK AT MOST 1048576: true; the input reads as it did. -/
def fnExactDistanceOfUptoRow : OpenClaim := { program := "ytdpaaphdfkonkab", sum := "d6277921d5961d314c95526c69c462e4577db257d2e87dafce60c1e3cfcf3145", func := "loop.example/g01213/laws.FnExactDistanceOf", spec := "fnExactDistanceOf", inPlace := ["math.sqrt"], apart := false, narrowed := true }
def FnExactDistanceOfUptoSaid : Prop := fnExactDistanceOfUptoRow.holds Try.pinned (OpenSpec.upto fnExactDistanceOfSpec)

/-- 'laws.FnExactDifferenceOf', WHERE WHAT IT READS IS OF BULK AT MOST 1048576: true; the input reads as it did. -/
def fnExactDifferenceOfUptoRow : OpenClaim := { program := "ytdpaaphdfkonkab", sum := "d6277921d5961d314c95526c69c462e4577db257d2e87dafce60c1e3cfcf3145", func := "loop.example/g01213/laws.FnExactDifferenceOf", spec := "fnExactDifferenceOf", inPlace := ["math.sqrt"], apart := false, narrowed := true }
def FnExactDifferenceOfUptoSaid : Prop := fnExactDifferenceOfUptoRow.holds Try.pinned (OpenSpec.upto fnExactDifferenceOfSpec)

end Rows
end Go.Proofs.Ytdpaaphdfkonkab
