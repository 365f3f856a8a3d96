/-
  No cell of these rows narrows 'for every input' (looked for: loops, veiled, ifaces, maps, wideKeys, modest, calm, conditions, laid).
  DERIVED. THE GIVEN ROWS OF THIS SEAT. 9 by the template 'for every input the law returns true; each argument reads behind the call as it read before'; 0 by the template 'total and deterministic' (their statements: YtelgoclebocapacTotals.lean).
  GIVEN WITH THE SEED: the statements are not yours to turn. If you find one false, say at which input.
  Laid BY PROGRAM, IN A SANDBOX (cutbox-rows.mjs): the forced cells as the released guide's own fill.sh prints them over the translation e0dfda3842b3b201… (all of the seat's roots in one cut). By AI agents, Wed Nov 11 2026. No macro, syntax, notation, axiom, sorry.
-/
import Derived.Test.YtelgoclebocapacChecked
import GoSem.Claim
import GoSem.ClaimJoined
import GoSem.ClaimMapViews
import Derived.JoinedTies
import Derived.KernelRfl
namespace Go.Proofs.Ytelgoclebocapac
/- THE CELL 'sum', in the pinned program and in every row, IS THE sha256 OF THE DUMP (.gsa) THAT YtelgoclebocapacProg.lean LOADS. Nothing in Lean hashes anything: it is a label: what it is worth is what the hold of that sum in a sandbox is worth. -/
noncomputable def Try.pinned : Pinned := { name := "ytelgoclebocapac", sum := "e0dfda3842b3b2012981145b66f618b467264db82a90ff5118f0e52bc5b7ba46", checked := Try.checked }
namespace Rows
def none {H : Type} : Left H := { results := [], args := [] }

/-- 'laws.FnExactValidWorks': WHATEVER THE INPUT: true; the input reads as it did. -/
def fnExactValidWorksSpec : ChangeSpec := { name := "fnExactValidWorks", fn := fun _ => fun
  | [d] => { results := [.lit (.bool true)], args := [d] }
  | _ => none }
def fnExactValidWorksRow : OpenClaim := { program := "ytelgoclebocapac", sum := "e0dfda3842b3b2012981145b66f618b467264db82a90ff5118f0e52bc5b7ba46", func := "loop.example/g01213/laws.FnExactValidWorks", spec := "fnExactValidWorks", unfollowed := true, recurses := true, apart := false }
def FnExactValidWorksSaid : Prop := fnExactValidWorksRow.holds Try.pinned (OpenSpec.ofChange fnExactValidWorksSpec)

/-- ITS FALSE NEIGHBOUR: 'it returns false'. Refute it at one input. -/
def fnExactValidWorksWrong : ChangeSpec := { name := "fnExactValidWorks", fn := fun _ => fun
  | [d] => { results := [.lit (.bool false)], args := [d] }
  | _ => none }
def FnExactValidWorksWrongFalsely : Prop := fnExactValidWorksRow.holds Try.pinned (OpenSpec.ofChange fnExactValidWorksWrong)

/-- 'laws.FnExactSameWorks': WHATEVER THE INPUT: true; the input reads as it did. -/
def fnExactSameWorksSpec : ChangeSpec := { name := "fnExactSameWorks", fn := fun _ => fun
  | [d1, d2] => { results := [.lit (.bool true)], args := [d1, d2] }
  | _ => none }
def fnExactSameWorksRow : OpenClaim := { program := "ytelgoclebocapac", sum := "e0dfda3842b3b2012981145b66f618b467264db82a90ff5118f0e52bc5b7ba46", func := "loop.example/g01213/laws.FnExactSameWorks", spec := "fnExactSameWorks", unfollowed := true, recurses := true, apart := false }
def FnExactSameWorksSaid : Prop := fnExactSameWorksRow.holds Try.pinned (OpenSpec.ofChange fnExactSameWorksSpec)

/-- ITS FALSE NEIGHBOUR: 'it returns false'. Refute it at one input. -/
def fnExactSameWorksWrong : ChangeSpec := { name := "fnExactSameWorks", fn := fun _ => fun
  | [d1, d2] => { results := [.lit (.bool false)], args := [d1, d2] }
  | _ => none }
def FnExactSameWorksWrongFalsely : Prop := fnExactSameWorksRow.holds Try.pinned (OpenSpec.ofChange fnExactSameWorksWrong)

/-- 'laws.FnExactTasksOf': WHATEVER THE INPUT: true; the input reads as it did. -/
def fnExactTasksOfSpec : ChangeSpec := { name := "fnExactTasksOf", fn := fun _ => fun
  | [d] => { results := [.lit (.bool true)], args := [d] }
  | _ => none }
def fnExactTasksOfRow : OpenClaim := { program := "ytelgoclebocapac", sum := "e0dfda3842b3b2012981145b66f618b467264db82a90ff5118f0e52bc5b7ba46", func := "loop.example/g01213/laws.FnExactTasksOf", spec := "fnExactTasksOf", unfollowed := true, recurses := true, apart := false }
def FnExactTasksOfSaid : Prop := fnExactTasksOfRow.holds Try.pinned (OpenSpec.ofChange fnExactTasksOfSpec)

/-- ITS FALSE NEIGHBOUR: 'it returns false'. Refute it at one input. -/
def fnExactTasksOfWrong : ChangeSpec := { name := "fnExactTasksOf", fn := fun _ => fun
  | [d] => { results := [.lit (.bool false)], args := [d] }
  | _ => none }
def FnExactTasksOfWrongFalsely : Prop := fnExactTasksOfRow.holds Try.pinned (OpenSpec.ofChange fnExactTasksOfWrong)

/-- 'laws.FnExactTotalOf': WHATEVER THE INPUT: true; the input reads as it did. -/
def fnExactTotalOfSpec : ChangeSpec := { name := "fnExactTotalOf", fn := fun _ => fun
  | [d] => { results := [.lit (.bool true)], args := [d] }
  | _ => none }
def fnExactTotalOfRow : OpenClaim := { program := "ytelgoclebocapac", sum := "e0dfda3842b3b2012981145b66f618b467264db82a90ff5118f0e52bc5b7ba46", func := "loop.example/g01213/laws.FnExactTotalOf", spec := "fnExactTotalOf", unfollowed := true, recurses := true, apart := false }
def FnExactTotalOfSaid : Prop := fnExactTotalOfRow.holds Try.pinned (OpenSpec.ofChange fnExactTotalOfSpec)

/-- ITS FALSE NEIGHBOUR: 'it returns false'. Refute it at one input. -/
def fnExactTotalOfWrong : ChangeSpec := { name := "fnExactTotalOf", fn := fun _ => fun
  | [d] => { results := [.lit (.bool false)], args := [d] }
  | _ => none }
def FnExactTotalOfWrongFalsely : Prop := fnExactTotalOfRow.holds Try.pinned (OpenSpec.ofChange fnExactTotalOfWrong)

/-- 'laws.FnExactValidDeed': WHATEVER THE INPUT: true; the input reads as it did. -/
def fnExactValidDeedSpec : ChangeSpec := { name := "fnExactValidDeed", fn := fun _ => fun
  | [d] => { results := [.lit (.bool true)], args := [d] }
  | _ => none }
def fnExactValidDeedRow : OpenClaim := { program := "ytelgoclebocapac", sum := "e0dfda3842b3b2012981145b66f618b467264db82a90ff5118f0e52bc5b7ba46", func := "loop.example/g01213/laws.FnExactValidDeed", spec := "fnExactValidDeed", apart := false }
def FnExactValidDeedSaid : Prop := fnExactValidDeedRow.holds Try.pinned (OpenSpec.ofChange fnExactValidDeedSpec)

/-- ITS FALSE NEIGHBOUR: 'it returns false'. Refute it at one input. -/
def fnExactValidDeedWrong : ChangeSpec := { name := "fnExactValidDeed", fn := fun _ => fun
  | [d] => { results := [.lit (.bool false)], args := [d] }
  | _ => none }
def FnExactValidDeedWrongFalsely : Prop := fnExactValidDeedRow.holds Try.pinned (OpenSpec.ofChange fnExactValidDeedWrong)

/-- 'laws.FnExactValidSamples': WHATEVER THE INPUT: true; the input reads as it did. -/
def fnExactValidSamplesSpec : ChangeSpec := { name := "fnExactValidSamples", fn := fun _ => fun
  | [d] => { results := [.lit (.bool true)], args := [d] }
  | _ => none }
def fnExactValidSamplesRow : OpenClaim := { program := "ytelgoclebocapac", sum := "e0dfda3842b3b2012981145b66f618b467264db82a90ff5118f0e52bc5b7ba46", func := "loop.example/g01213/laws.FnExactValidSamples", spec := "fnExactValidSamples", apart := false }
def FnExactValidSamplesSaid : Prop := fnExactValidSamplesRow.holds Try.pinned (OpenSpec.ofChange fnExactValidSamplesSpec)

/-- ITS FALSE NEIGHBOUR: 'it returns false'. Refute it at one input. -/
def fnExactValidSamplesWrong : ChangeSpec := { name := "fnExactValidSamples", fn := fun _ => fun
  | [d] => { results := [.lit (.bool false)], args := [d] }
  | _ => none }
def FnExactValidSamplesWrongFalsely : Prop := fnExactValidSamplesRow.holds Try.pinned (OpenSpec.ofChange fnExactValidSamplesWrong)

/-- 'laws.FnExactMeanCounts': WHATEVER THE INPUT: true; the input reads as it did. -/
def fnExactMeanCountsSpec : ChangeSpec := { name := "fnExactMeanCounts", fn := fun _ => fun
  | [d] => { results := [.lit (.bool true)], args := [d] }
  | _ => none }
def fnExactMeanCountsRow : OpenClaim := { program := "ytelgoclebocapac", sum := "e0dfda3842b3b2012981145b66f618b467264db82a90ff5118f0e52bc5b7ba46", func := "loop.example/g01213/laws.FnExactMeanCounts", spec := "fnExactMeanCounts", inPlace := ["math.RoundToEven"], unfollowed := true, recurses := true, apart := false }
def FnExactMeanCountsSaid : Prop := fnExactMeanCountsRow.holds Try.pinned (OpenSpec.ofChange fnExactMeanCountsSpec)

/-- ITS FALSE NEIGHBOUR: 'it returns false'. Refute it at one input. -/
def fnExactMeanCountsWrong : ChangeSpec := { name := "fnExactMeanCounts", fn := fun _ => fun
  | [d] => { results := [.lit (.bool false)], args := [d] }
  | _ => none }
def FnExactMeanCountsWrongFalsely : Prop := fnExactMeanCountsRow.holds Try.pinned (OpenSpec.ofChange fnExactMeanCountsWrong)

/-- 'laws.FnExactLampLeft': WHATEVER THE INPUT: true; the input reads as it did. -/
def fnExactLampLeftSpec : ChangeSpec := { name := "fnExactLampLeft", fn := fun _ => fun
  | [d1, d2] => { results := [.lit (.bool true)], args := [d1, d2] }
  | _ => none }
def fnExactLampLeftRow : OpenClaim := { program := "ytelgoclebocapac", sum := "e0dfda3842b3b2012981145b66f618b467264db82a90ff5118f0e52bc5b7ba46", func := "loop.example/g01213/laws.FnExactLampLeft", spec := "fnExactLampLeft", apart := false }
def FnExactLampLeftSaid : Prop := fnExactLampLeftRow.holds Try.pinned (OpenSpec.ofChange fnExactLampLeftSpec)

/-- ITS FALSE NEIGHBOUR: 'it returns false'. Refute it at one input. -/
def fnExactLampLeftWrong : ChangeSpec := { name := "fnExactLampLeft", fn := fun _ => fun
  | [d1, d2] => { results := [.lit (.bool false)], args := [d1, d2] }
  | _ => none }
def FnExactLampLeftWrongFalsely : Prop := fnExactLampLeftRow.holds Try.pinned (OpenSpec.ofChange fnExactLampLeftWrong)

/-- 'laws.FnExactGaugeOf': WHATEVER THE INPUT: true; the input reads as it did. -/
def fnExactGaugeOfSpec : ChangeSpec := { name := "fnExactGaugeOf", fn := fun _ => fun
  | [d1, d2, d3] => { results := [.lit (.bool true)], args := [d1, d2, d3] }
  | _ => none }
def fnExactGaugeOfRow : OpenClaim := { program := "ytelgoclebocapac", sum := "e0dfda3842b3b2012981145b66f618b467264db82a90ff5118f0e52bc5b7ba46", func := "loop.example/g01213/laws.FnExactGaugeOf", spec := "fnExactGaugeOf", inPlace := ["math.RoundToEven"], unfollowed := true, recurses := true, apart := false }
def FnExactGaugeOfSaid : Prop := fnExactGaugeOfRow.holds Try.pinned (OpenSpec.ofChange fnExactGaugeOfSpec)

/-- ITS FALSE NEIGHBOUR: 'it returns false'. Refute it at one input. -/
def fnExactGaugeOfWrong : ChangeSpec := { name := "fnExactGaugeOf", fn := fun _ => fun
  | [d1, d2, d3] => { results := [.lit (.bool false)], args := [d1, d2, d3] }
  | _ => none }
def FnExactGaugeOfWrongFalsely : Prop := fnExactGaugeOfRow.holds Try.pinned (OpenSpec.ofChange fnExactGaugeOfWrong)

/- THE SECOND FORM. 'bulk': how many values and letters a reading holds, each counted each time it is reached (what is shared counts as often as it is met; a slice's spare places count too). A statement '..UptoSaid' is the law's where the arguments, and the package variables that the reading takes, are together of bulk at most 1048576: NARROWER than '..Said'. Prove '..Said' where nothing that the law and all that it calls make is longer than what came in: it says more and counts as full. Else prove '..UptoSaid'. A law counts once. -/
mutual
def uptoBulk {H : Type} : DataW H → Nat
  | .lit (.string bytes) => bytes.length + 1
  | .lit _ => 1
  | .nil => 1
  | .ptr d => uptoBulk d + 1
  | .slice elems spare => uptoBulkAll elems + uptoBulkAll spare + 1
  | .agg parts => uptoBulkAll parts + 1
  | .iface _ d => uptoBulk d + 1
  | .map entries => uptoBulkEntries entries + 1
  | .held _ => 1
def uptoBulkAll {H : Type} : List (DataW H) → Nat
  | [] => 0
  | d :: r => uptoBulk d + uptoBulkAll r
def uptoBulkEntries {H : Type} : List (Lit × DataW H) → Nat
  | [] => 0
  | x :: r => uptoBulkEntry x + uptoBulkEntries r
def uptoBulkEntry {H : Type} : Lit × DataW H → Nat
  | (.string bytes, d) => bytes.length + uptoBulk d + 1
  | (_, d) => uptoBulk d + 1
 end
def uptoSmall : (H : Type) → List (DataW H) → Bool := fun _ ds => decide (uptoBulkAll ds ≤ 1048576)
def OpenSpec.upto (s : _root_.Go.ChangeSpec) : _root_.Go.OpenSpec := { _root_.Go.OpenSpec.ofChange s with cond := some uptoSmall }

/-- 'laws.FnExactValidWorks', WHERE WHAT IT READS IS OF BULK AT MOST 1048576: true; the input reads as it did. -/
def fnExactValidWorksUptoRow : OpenClaim := { program := "ytelgoclebocapac", sum := "e0dfda3842b3b2012981145b66f618b467264db82a90ff5118f0e52bc5b7ba46", func := "loop.example/g01213/laws.FnExactValidWorks", spec := "fnExactValidWorks", unfollowed := true, recurses := true, apart := false, narrowed := true }
def FnExactValidWorksUptoSaid : Prop := fnExactValidWorksUptoRow.holds Try.pinned (OpenSpec.upto fnExactValidWorksSpec)

/-- 'laws.FnExactSameWorks', WHERE WHAT IT READS IS OF BULK AT MOST 1048576: true; the input reads as it did. -/
def fnExactSameWorksUptoRow : OpenClaim := { program := "ytelgoclebocapac", sum := "e0dfda3842b3b2012981145b66f618b467264db82a90ff5118f0e52bc5b7ba46", func := "loop.example/g01213/laws.FnExactSameWorks", spec := "fnExactSameWorks", unfollowed := true, recurses := true, apart := false, narrowed := true }
def FnExactSameWorksUptoSaid : Prop := fnExactSameWorksUptoRow.holds Try.pinned (OpenSpec.upto fnExactSameWorksSpec)

/-- 'laws.FnExactTasksOf', WHERE WHAT IT READS IS OF BULK AT MOST 1048576: true; the input reads as it did. -/
def fnExactTasksOfUptoRow : OpenClaim := { program := "ytelgoclebocapac", sum := "e0dfda3842b3b2012981145b66f618b467264db82a90ff5118f0e52bc5b7ba46", func := "loop.example/g01213/laws.FnExactTasksOf", spec := "fnExactTasksOf", unfollowed := true, recurses := true, apart := false, narrowed := true }
def FnExactTasksOfUptoSaid : Prop := fnExactTasksOfUptoRow.holds Try.pinned (OpenSpec.upto fnExactTasksOfSpec)

/-- 'laws.FnExactTotalOf', WHERE WHAT IT READS IS OF BULK AT MOST 1048576: true; the input reads as it did. -/
def fnExactTotalOfUptoRow : OpenClaim := { program := "ytelgoclebocapac", sum := "e0dfda3842b3b2012981145b66f618b467264db82a90ff5118f0e52bc5b7ba46", func := "loop.example/g01213/laws.FnExactTotalOf", spec := "fnExactTotalOf", unfollowed := true, recurses := true, apart := false, narrowed := true }
def FnExactTotalOfUptoSaid : Prop := fnExactTotalOfUptoRow.holds Try.pinned (OpenSpec.upto fnExactTotalOfSpec)

/-- 'laws.FnExactValidDeed', WHERE WHAT IT READS IS OF BULK AT MOST 1048576: true; the input reads as it did. -/
def fnExactValidDeedUptoRow : OpenClaim := { program := "ytelgoclebocapac", sum := "e0dfda3842b3b2012981145b66f618b467264db82a90ff5118f0e52bc5b7ba46", func := "loop.example/g01213/laws.FnExactValidDeed", spec := "fnExactValidDeed", apart := false, narrowed := true }
def FnExactValidDeedUptoSaid : Prop := fnExactValidDeedUptoRow.holds Try.pinned (OpenSpec.upto fnExactValidDeedSpec)

/-- 'laws.FnExactValidSamples', WHERE WHAT IT READS IS OF BULK AT MOST 1048576: true; the input reads as it did. -/
def fnExactValidSamplesUptoRow : OpenClaim := { program := "ytelgoclebocapac", sum := "e0dfda3842b3b2012981145b66f618b467264db82a90ff5118f0e52bc5b7ba46", func := "loop.example/g01213/laws.FnExactValidSamples", spec := "fnExactValidSamples", apart := false, narrowed := true }
def FnExactValidSamplesUptoSaid : Prop := fnExactValidSamplesUptoRow.holds Try.pinned (OpenSpec.upto fnExactValidSamplesSpec)

/-- 'laws.FnExactMeanCounts', WHERE WHAT IT READS IS OF BULK AT MOST 1048576: true; the input reads as it did. -/
def fnExactMeanCountsUptoRow : OpenClaim := { program := "ytelgoclebocapac", sum := "e0dfda3842b3b2012981145b66f618b467264db82a90ff5118f0e52bc5b7ba46", func := "loop.example/g01213/laws.FnExactMeanCounts", spec := "fnExactMeanCounts", inPlace := ["math.RoundToEven"], unfollowed := true, recurses := true, apart := false, narrowed := true }
def FnExactMeanCountsUptoSaid : Prop := fnExactMeanCountsUptoRow.holds Try.pinned (OpenSpec.upto fnExactMeanCountsSpec)

/-- 'laws.FnExactLampLeft', WHERE WHAT IT READS IS OF BULK AT MOST 1048576: true; the input reads as it did. -/
def fnExactLampLeftUptoRow : OpenClaim := { program := "ytelgoclebocapac", sum := "e0dfda3842b3b2012981145b66f618b467264db82a90ff5118f0e52bc5b7ba46", func := "loop.example/g01213/laws.FnExactLampLeft", spec := "fnExactLampLeft", apart := false, narrowed := true }
def FnExactLampLeftUptoSaid : Prop := fnExactLampLeftUptoRow.holds Try.pinned (OpenSpec.upto fnExactLampLeftSpec)

/-- 'laws.FnExactGaugeOf', WHERE WHAT IT READS IS OF BULK AT MOST 1048576: true; the input reads as it did. -/
def fnExactGaugeOfUptoRow : OpenClaim := { program := "ytelgoclebocapac", sum := "e0dfda3842b3b2012981145b66f618b467264db82a90ff5118f0e52bc5b7ba46", func := "loop.example/g01213/laws.FnExactGaugeOf", spec := "fnExactGaugeOf", inPlace := ["math.RoundToEven"], unfollowed := true, recurses := true, apart := false, narrowed := true }
def FnExactGaugeOfUptoSaid : Prop := fnExactGaugeOfUptoRow.holds Try.pinned (OpenSpec.upto fnExactGaugeOfSpec)

end Rows
end Go.Proofs.Ytelgoclebocapac
