/-
  No cell of these rows narrows 'for every input' (looked for: loops, veiled, ifaces, maps, wideKeys, modest, calm, conditions, laid).
  DERIVED. THE GIVEN ROWS OF THIS SEAT. 11 by the template 'for every input the law returns true; each argument reads behind the call as it read before'; 0 by the template 'total and deterministic' (their statements: YtelgoclebocapaaTotals.lean).
  GIVEN WITH THE SEED: the statements are not yours to turn. If you find one false, say at which input.
  Laid BY PROGRAM, IN A SANDBOX (cutbox-rows.mjs): the forced cells as the released guide's own fill.sh prints them over the translation 33b5ca8c45a5f04f… (all of the seat's roots in one cut). By AI agents, Wed Nov 11 2026. No macro, syntax, notation, axiom, sorry.
-/
import Derived.Test.YtelgoclebocapaaChecked
import GoSem.Claim
import GoSem.ClaimJoined
import GoSem.ClaimMapViews
import Derived.JoinedTies
import Derived.KernelRfl
namespace Go.Proofs.Ytelgoclebocapaa
/- THE CELL 'sum', in the pinned program and in every row, IS THE sha256 OF THE DUMP (.gsa) THAT YtelgoclebocapaaProg.lean LOADS. Nothing in Lean hashes anything: it is a label: what it is worth is what the hold of that sum in a sandbox is worth. -/
noncomputable def Try.pinned : Pinned := { name := "ytelgoclebocapaa", sum := "33b5ca8c45a5f04fc2574806404efe857d4dbbd2fe7b224130d7fd997235faeb", checked := Try.checked }
namespace Rows
def none {H : Type} : Left H := { results := [], args := [] }

/-- 'laws.FnExactValidPigment': WHATEVER THE INPUT: true; the input reads as it did. -/
def fnExactValidPigmentSpec : ChangeSpec := { name := "fnExactValidPigment", fn := fun _ => fun
  | [d] => { results := [.lit (.bool true)], args := [d] }
  | _ => none }
def fnExactValidPigmentRow : OpenClaim := { program := "ytelgoclebocapaa", sum := "33b5ca8c45a5f04fc2574806404efe857d4dbbd2fe7b224130d7fd997235faeb", func := "loop.example/g01213/laws.FnExactValidPigment", spec := "fnExactValidPigment", unfollowed := true, recurses := true, apart := false }
def FnExactValidPigmentSaid : Prop := fnExactValidPigmentRow.holds Try.pinned (OpenSpec.ofChange fnExactValidPigmentSpec)

/-- ITS FALSE NEIGHBOUR: 'it returns false'. Refute it at one input. -/
def fnExactValidPigmentWrong : ChangeSpec := { name := "fnExactValidPigment", fn := fun _ => fun
  | [d] => { results := [.lit (.bool false)], args := [d] }
  | _ => none }
def FnExactValidPigmentWrongFalsely : Prop := fnExactValidPigmentRow.holds Try.pinned (OpenSpec.ofChange fnExactValidPigmentWrong)

/-- 'laws.FnExactValidShelf': WHATEVER THE INPUT: true; the input reads as it did. -/
def fnExactValidShelfSpec : ChangeSpec := { name := "fnExactValidShelf", fn := fun _ => fun
  | [d] => { results := [.lit (.bool true)], args := [d] }
  | _ => none }
def fnExactValidShelfRow : OpenClaim := { program := "ytelgoclebocapaa", sum := "33b5ca8c45a5f04fc2574806404efe857d4dbbd2fe7b224130d7fd997235faeb", func := "loop.example/g01213/laws.FnExactValidShelf", spec := "fnExactValidShelf", unfollowed := true, recurses := true, apart := false }
def FnExactValidShelfSaid : Prop := fnExactValidShelfRow.holds Try.pinned (OpenSpec.ofChange fnExactValidShelfSpec)

/-- ITS FALSE NEIGHBOUR: 'it returns false'. Refute it at one input. -/
def fnExactValidShelfWrong : ChangeSpec := { name := "fnExactValidShelf", fn := fun _ => fun
  | [d] => { results := [.lit (.bool false)], args := [d] }
  | _ => none }
def FnExactValidShelfWrongFalsely : Prop := fnExactValidShelfRow.holds Try.pinned (OpenSpec.ofChange fnExactValidShelfWrong)

/-- 'laws.FnExactSameShelf': WHATEVER THE INPUT: true; the input reads as it did. -/
def fnExactSameShelfSpec : ChangeSpec := { name := "fnExactSameShelf", fn := fun _ => fun
  | [d1, d2] => { results := [.lit (.bool true)], args := [d1, d2] }
  | _ => none }
def fnExactSameShelfRow : OpenClaim := { program := "ytelgoclebocapaa", sum := "33b5ca8c45a5f04fc2574806404efe857d4dbbd2fe7b224130d7fd997235faeb", func := "loop.example/g01213/laws.FnExactSameShelf", spec := "fnExactSameShelf", inPlace := ["math.Float32bits"], unfollowed := true, recurses := true, apart := false }
def FnExactSameShelfSaid : Prop := fnExactSameShelfRow.holds Try.pinned (OpenSpec.ofChange fnExactSameShelfSpec)

/-- ITS FALSE NEIGHBOUR: 'it returns false'. Refute it at one input. -/
def fnExactSameShelfWrong : ChangeSpec := { name := "fnExactSameShelf", fn := fun _ => fun
  | [d1, d2] => { results := [.lit (.bool false)], args := [d1, d2] }
  | _ => none }
def FnExactSameShelfWrongFalsely : Prop := fnExactSameShelfRow.holds Try.pinned (OpenSpec.ofChange fnExactSameShelfWrong)

/-- 'laws.FnExactFindPigment': WHATEVER THE INPUT: true; the input reads as it did. -/
def fnExactFindPigmentSpec : ChangeSpec := { name := "fnExactFindPigment", fn := fun _ => fun
  | [d1, d2] => { results := [.lit (.bool true)], args := [d1, d2] }
  | _ => none }
def fnExactFindPigmentRow : OpenClaim := { program := "ytelgoclebocapaa", sum := "33b5ca8c45a5f04fc2574806404efe857d4dbbd2fe7b224130d7fd997235faeb", func := "loop.example/g01213/laws.FnExactFindPigment", spec := "fnExactFindPigment", unfollowed := true, recurses := true, apart := false }
def FnExactFindPigmentSaid : Prop := fnExactFindPigmentRow.holds Try.pinned (OpenSpec.ofChange fnExactFindPigmentSpec)

/-- ITS FALSE NEIGHBOUR: 'it returns false'. Refute it at one input. -/
def fnExactFindPigmentWrong : ChangeSpec := { name := "fnExactFindPigment", fn := fun _ => fun
  | [d1, d2] => { results := [.lit (.bool false)], args := [d1, d2] }
  | _ => none }
def FnExactFindPigmentWrongFalsely : Prop := fnExactFindPigmentRow.holds Try.pinned (OpenSpec.ofChange fnExactFindPigmentWrong)

/-- 'laws.FnExactValidDrops': WHATEVER THE INPUT: true; the input reads as it did. -/
def fnExactValidDropsSpec : ChangeSpec := { name := "fnExactValidDrops", fn := fun _ => fun
  | [d1, d2] => { results := [.lit (.bool true)], args := [d1, d2] }
  | _ => none }
def fnExactValidDropsRow : OpenClaim := { program := "ytelgoclebocapaa", sum := "33b5ca8c45a5f04fc2574806404efe857d4dbbd2fe7b224130d7fd997235faeb", func := "loop.example/g01213/laws.FnExactValidDrops", spec := "fnExactValidDrops", unfollowed := true, recurses := true, apart := false }
def FnExactValidDropsSaid : Prop := fnExactValidDropsRow.holds Try.pinned (OpenSpec.ofChange fnExactValidDropsSpec)

/-- ITS FALSE NEIGHBOUR: 'it returns false'. Refute it at one input. -/
def fnExactValidDropsWrong : ChangeSpec := { name := "fnExactValidDrops", fn := fun _ => fun
  | [d1, d2] => { results := [.lit (.bool false)], args := [d1, d2] }
  | _ => none }
def FnExactValidDropsWrongFalsely : Prop := fnExactValidDropsRow.holds Try.pinned (OpenSpec.ofChange fnExactValidDropsWrong)

/-- 'laws.FnExactPartsOf': WHATEVER THE INPUT: true; the input reads as it did. -/
def fnExactPartsOfSpec : ChangeSpec := { name := "fnExactPartsOf", fn := fun _ => fun
  | [d1, d2] => { results := [.lit (.bool true)], args := [d1, d2] }
  | _ => none }
def fnExactPartsOfRow : OpenClaim := { program := "ytelgoclebocapaa", sum := "33b5ca8c45a5f04fc2574806404efe857d4dbbd2fe7b224130d7fd997235faeb", func := "loop.example/g01213/laws.FnExactPartsOf", spec := "fnExactPartsOf", unfollowed := true, recurses := true, apart := false }
def FnExactPartsOfSaid : Prop := fnExactPartsOfRow.holds Try.pinned (OpenSpec.ofChange fnExactPartsOfSpec)

/-- ITS FALSE NEIGHBOUR: 'it returns false'. Refute it at one input. -/
def fnExactPartsOfWrong : ChangeSpec := { name := "fnExactPartsOf", fn := fun _ => fun
  | [d1, d2] => { results := [.lit (.bool false)], args := [d1, d2] }
  | _ => none }
def FnExactPartsOfWrongFalsely : Prop := fnExactPartsOfRow.holds Try.pinned (OpenSpec.ofChange fnExactPartsOfWrong)

/-- 'laws.FnExactMixParts': WHATEVER THE INPUT: true; the input reads as it did. -/
def fnExactMixPartsSpec : ChangeSpec := { name := "fnExactMixParts", fn := fun _ => fun
  | [d1, d2] => { results := [.lit (.bool true)], args := [d1, d2] }
  | _ => none }
def fnExactMixPartsRow : OpenClaim := { program := "ytelgoclebocapaa", sum := "33b5ca8c45a5f04fc2574806404efe857d4dbbd2fe7b224130d7fd997235faeb", func := "loop.example/g01213/laws.FnExactMixParts", spec := "fnExactMixParts", inPlace := ["math.Float64bits", "math.Float64frombits"], unfollowed := true, recurses := true, apart := false }
def FnExactMixPartsSaid : Prop := fnExactMixPartsRow.holds Try.pinned (OpenSpec.ofChange fnExactMixPartsSpec)

/-- ITS FALSE NEIGHBOUR: 'it returns false'. Refute it at one input. -/
def fnExactMixPartsWrong : ChangeSpec := { name := "fnExactMixParts", fn := fun _ => fun
  | [d1, d2] => { results := [.lit (.bool false)], args := [d1, d2] }
  | _ => none }
def FnExactMixPartsWrongFalsely : Prop := fnExactMixPartsRow.holds Try.pinned (OpenSpec.ofChange fnExactMixPartsWrong)

/-- 'laws.FnExactMixDrops': WHATEVER THE INPUT: true; the input reads as it did. -/
def fnExactMixDropsSpec : ChangeSpec := { name := "fnExactMixDrops", fn := fun _ => fun
  | [d1, d2] => { results := [.lit (.bool true)], args := [d1, d2] }
  | _ => none }
def fnExactMixDropsRow : OpenClaim := { program := "ytelgoclebocapaa", sum := "33b5ca8c45a5f04fc2574806404efe857d4dbbd2fe7b224130d7fd997235faeb", func := "loop.example/g01213/laws.FnExactMixDrops", spec := "fnExactMixDrops", inPlace := ["math.Float64bits", "math.Float64frombits"], unfollowed := true, recurses := true, apart := false }
def FnExactMixDropsSaid : Prop := fnExactMixDropsRow.holds Try.pinned (OpenSpec.ofChange fnExactMixDropsSpec)

/-- ITS FALSE NEIGHBOUR: 'it returns false'. Refute it at one input. -/
def fnExactMixDropsWrong : ChangeSpec := { name := "fnExactMixDrops", fn := fun _ => fun
  | [d1, d2] => { results := [.lit (.bool false)], args := [d1, d2] }
  | _ => none }
def FnExactMixDropsWrongFalsely : Prop := fnExactMixDropsRow.holds Try.pinned (OpenSpec.ofChange fnExactMixDropsWrong)

/-- 'laws.FnExactCostOfDrops': WHATEVER THE INPUT: true; the input reads as it did. -/
def fnExactCostOfDropsSpec : ChangeSpec := { name := "fnExactCostOfDrops", fn := fun _ => fun
  | [d1, d2] => { results := [.lit (.bool true)], args := [d1, d2] }
  | _ => none }
def fnExactCostOfDropsRow : OpenClaim := { program := "ytelgoclebocapaa", sum := "33b5ca8c45a5f04fc2574806404efe857d4dbbd2fe7b224130d7fd997235faeb", func := "loop.example/g01213/laws.FnExactCostOfDrops", spec := "fnExactCostOfDrops", unfollowed := true, recurses := true, apart := false }
def FnExactCostOfDropsSaid : Prop := fnExactCostOfDropsRow.holds Try.pinned (OpenSpec.ofChange fnExactCostOfDropsSpec)

/-- ITS FALSE NEIGHBOUR: 'it returns false'. Refute it at one input. -/
def fnExactCostOfDropsWrong : ChangeSpec := { name := "fnExactCostOfDrops", fn := fun _ => fun
  | [d1, d2] => { results := [.lit (.bool false)], args := [d1, d2] }
  | _ => none }
def FnExactCostOfDropsWrongFalsely : Prop := fnExactCostOfDropsRow.holds Try.pinned (OpenSpec.ofChange fnExactCostOfDropsWrong)

/-- 'laws.FnExactTimesInTins': WHATEVER THE INPUT: true; the input reads as it did. -/
def fnExactTimesInTinsSpec : ChangeSpec := { name := "fnExactTimesInTins", fn := fun _ => fun
  | [d1, d2] => { results := [.lit (.bool true)], args := [d1, d2] }
  | _ => none }
def fnExactTimesInTinsRow : OpenClaim := { program := "ytelgoclebocapaa", sum := "33b5ca8c45a5f04fc2574806404efe857d4dbbd2fe7b224130d7fd997235faeb", func := "loop.example/g01213/laws.FnExactTimesInTins", spec := "fnExactTimesInTins", unfollowed := true, recurses := true, apart := false }
def FnExactTimesInTinsSaid : Prop := fnExactTimesInTinsRow.holds Try.pinned (OpenSpec.ofChange fnExactTimesInTinsSpec)

/-- ITS FALSE NEIGHBOUR: 'it returns false'. Refute it at one input. -/
def fnExactTimesInTinsWrong : ChangeSpec := { name := "fnExactTimesInTins", fn := fun _ => fun
  | [d1, d2] => { results := [.lit (.bool false)], args := [d1, d2] }
  | _ => none }
def FnExactTimesInTinsWrongFalsely : Prop := fnExactTimesInTinsRow.holds Try.pinned (OpenSpec.ofChange fnExactTimesInTinsWrong)

/-- 'laws.FnExactEvenParts': WHATEVER THE INPUT: true; the input reads as it did. -/
def fnExactEvenPartsSpec : ChangeSpec := { name := "fnExactEvenParts", fn := fun _ => fun
  | [d] => { results := [.lit (.bool true)], args := [d] }
  | _ => none }
def fnExactEvenPartsRow : OpenClaim := { program := "ytelgoclebocapaa", sum := "33b5ca8c45a5f04fc2574806404efe857d4dbbd2fe7b224130d7fd997235faeb", func := "loop.example/g01213/laws.FnExactEvenParts", spec := "fnExactEvenParts", unfollowed := true, recurses := true, apart := false }
def FnExactEvenPartsSaid : Prop := fnExactEvenPartsRow.holds Try.pinned (OpenSpec.ofChange fnExactEvenPartsSpec)

/-- ITS FALSE NEIGHBOUR: 'it returns false'. Refute it at one input. -/
def fnExactEvenPartsWrong : ChangeSpec := { name := "fnExactEvenParts", fn := fun _ => fun
  | [d] => { results := [.lit (.bool false)], args := [d] }
  | _ => none }
def FnExactEvenPartsWrongFalsely : Prop := fnExactEvenPartsRow.holds Try.pinned (OpenSpec.ofChange fnExactEvenPartsWrong)

/- THE SECOND FORM. 'bulk': how many values and letters a reading holds, each counted each time it is reached (what is shared counts as often as it is met; a slice's spare places count too). A statement '..UptoSaid' is the law's where the arguments, and the package variables that the reading takes, are together of bulk at most 1048576: NARROWER than '..Said'. Prove '..Said' where nothing that the law and all that it calls make is longer than what came in: it says more and counts as full. Else prove '..UptoSaid'. A law counts once. -/
mutual
def uptoBulk {H : Type} : DataW H → Nat
  | .lit (.string bytes) => bytes.length + 1
  | .lit _ => 1
  | .nil => 1
  | .ptr d => uptoBulk d + 1
  | .slice elems spare => uptoBulkAll elems + uptoBulkAll spare + 1
  | .agg parts => uptoBulkAll parts + 1
  | .iface _ d => uptoBulk d + 1
  | .map entries => uptoBulkEntries entries + 1
  | .held _ => 1
def uptoBulkAll {H : Type} : List (DataW H) → Nat
  | [] => 0
  | d :: r => uptoBulk d + uptoBulkAll r
def uptoBulkEntries {H : Type} : List (Lit × DataW H) → Nat
  | [] => 0
  | x :: r => uptoBulkEntry x + uptoBulkEntries r
def uptoBulkEntry {H : Type} : Lit × DataW H → Nat
  | (.string bytes, d) => bytes.length + uptoBulk d + 1
  | (_, d) => uptoBulk d + 1
 end
def uptoSmall : (H : Type) → List (DataW H) → Bool := fun _ ds => decide (uptoBulkAll ds ≤ 1048576)
def OpenSpec.upto (s : _root_.Go.ChangeSpec) : _root_.Go.OpenSpec := { _root_.Go.OpenSpec.ofChange s with cond := some uptoSmall }

/-- 'laws.FnExactValidPigment', WHERE WHAT IT READS IS OF BULK AT MOST 1048576: true; the input reads as it did. -/
def fnExactValidPigmentUptoRow : OpenClaim := { program := "ytelgoclebocapaa", sum := "33b5ca8c45a5f04fc2574806404efe857d4dbbd2fe7b224130d7fd997235faeb", func := "loop.example/g01213/laws.FnExactValidPigment", spec := "fnExactValidPigment", unfollowed := true, recurses := true, apart := false, narrowed := true }
def FnExactValidPigmentUptoSaid : Prop := fnExactValidPigmentUptoRow.holds Try.pinned (OpenSpec.upto fnExactValidPigmentSpec)

/-- 'laws.FnExactValidShelf', WHERE WHAT IT READS IS OF BULK AT MOST 1048576: true; the input reads as it did. -/
def fnExactValidShelfUptoRow : OpenClaim := { program := "ytelgoclebocapaa", sum := "33b5ca8c45a5f04fc2574806404efe857d4dbbd2fe7b224130d7fd997235faeb", func := "loop.example/g01213/laws.FnExactValidShelf", spec := "fnExactValidShelf", unfollowed := true, recurses := true, apart := false, narrowed := true }
def FnExactValidShelfUptoSaid : Prop := fnExactValidShelfUptoRow.holds Try.pinned (OpenSpec.upto fnExactValidShelfSpec)

/-- 'laws.FnExactSameShelf', WHERE WHAT IT READS IS OF BULK AT MOST 1048576: true; the input reads as it did. -/
def fnExactSameShelfUptoRow : OpenClaim := { program := "ytelgoclebocapaa", sum := "33b5ca8c45a5f04fc2574806404efe857d4dbbd2fe7b224130d7fd997235faeb", func := "loop.example/g01213/laws.FnExactSameShelf", spec := "fnExactSameShelf", inPlace := ["math.Float32bits"], unfollowed := true, recurses := true, apart := false, narrowed := true }
def FnExactSameShelfUptoSaid : Prop := fnExactSameShelfUptoRow.holds Try.pinned (OpenSpec.upto fnExactSameShelfSpec)

/-- 'laws.FnExactFindPigment', WHERE WHAT IT READS IS OF BULK AT MOST 1048576: true; the input reads as it did. -/
def fnExactFindPigmentUptoRow : OpenClaim := { program := "ytelgoclebocapaa", sum := "33b5ca8c45a5f04fc2574806404efe857d4dbbd2fe7b224130d7fd997235faeb", func := "loop.example/g01213/laws.FnExactFindPigment", spec := "fnExactFindPigment", unfollowed := true, recurses := true, apart := false, narrowed := true }
def FnExactFindPigmentUptoSaid : Prop := fnExactFindPigmentUptoRow.holds Try.pinned (OpenSpec.upto fnExactFindPigmentSpec)

/-- 'laws.FnExactValidDrops', WHERE WHAT IT READS IS OF BULK AT MOST 1048576: true; the input reads as it did. -/
def fnExactValidDropsUptoRow : OpenClaim := { program := "ytelgoclebocapaa", sum := "33b5ca8c45a5f04fc2574806404efe857d4dbbd2fe7b224130d7fd997235faeb", func := "loop.example/g01213/laws.FnExactValidDrops", spec := "fnExactValidDrops", unfollowed := true, recurses := true, apart := false, narrowed := true }
def FnExactValidDropsUptoSaid : Prop := fnExactValidDropsUptoRow.holds Try.pinned (OpenSpec.upto fnExactValidDropsSpec)

/-- 'laws.FnExactPartsOf', WHERE WHAT IT READS IS OF BULK AT MOST 1048576: true; the input reads as it did. -/
def fnExactPartsOfUptoRow : OpenClaim := { program := "ytelgoclebocapaa", sum := "33b5ca8c45a5f04fc2574806404efe857d4dbbd2fe7b224130d7fd997235faeb", func := "loop.example/g01213/laws.FnExactPartsOf", spec := "fnExactPartsOf", unfollowed := true, recurses := true, apart := false, narrowed := true }
def FnExactPartsOfUptoSaid : Prop := fnExactPartsOfUptoRow.holds Try.pinned (OpenSpec.upto fnExactPartsOfSpec)

/-- 'laws.FnExactMixParts', WHERE WHAT IT READS IS OF BULK AT MOST 1048576: true; the input reads as it did. -/
def fnExactMixPartsUptoRow : OpenClaim := { program := "ytelgoclebocapaa", sum := "33b5ca8c45a5f04fc2574806404efe857d4dbbd2fe7b224130d7fd997235faeb", func := "loop.example/g01213/laws.FnExactMixParts", spec := "fnExactMixParts", inPlace := ["math.Float64bits", "math.Float64frombits"], unfollowed := true, recurses := true, apart := false, narrowed := true }
def FnExactMixPartsUptoSaid : Prop := fnExactMixPartsUptoRow.holds Try.pinned (OpenSpec.upto fnExactMixPartsSpec)

/-- 'laws.FnExactMixDrops', WHERE WHAT IT READS IS OF BULK AT MOST 1048576: true; the input reads as it did. -/
def fnExactMixDropsUptoRow : OpenClaim := { program := "ytelgoclebocapaa", sum := "33b5ca8c45a5f04fc2574806404efe857d4dbbd2fe7b224130d7fd997235faeb", func := "loop.example/g01213/laws.FnExactMixDrops", spec := "fnExactMixDrops", inPlace := ["math.Float64bits", "math.Float64frombits"], unfollowed := true, recurses := true, apart := false, narrowed := true }
def FnExactMixDropsUptoSaid : Prop := fnExactMixDropsUptoRow.holds Try.pinned (OpenSpec.upto fnExactMixDropsSpec)

/-- 'laws.FnExactCostOfDrops', WHERE WHAT IT READS IS OF BULK AT MOST 1048576: true; the input reads as it did. -/
def fnExactCostOfDropsUptoRow : OpenClaim := { program := "ytelgoclebocapaa", sum := "33b5ca8c45a5f04fc2574806404efe857d4dbbd2fe7b224130d7fd997235faeb", func := "loop.example/g01213/laws.FnExactCostOfDrops", spec := "fnExactCostOfDrops", unfollowed := true, recurses := true, apart := false, narrowed := true }
def FnExactCostOfDropsUptoSaid : Prop := fnExactCostOfDropsUptoRow.holds Try.pinned (OpenSpec.upto fnExactCostOfDropsSpec)

/-- 'laws.FnExactTimesInTins', WHERE WHAT IT READS IS OF BULK AT MOST 1048576: true; the input reads as it did. -/
def fnExactTimesInTinsUptoRow : OpenClaim := { program := "ytelgoclebocapaa", sum := "33b5ca8c45a5f04fc2574806404efe857d4dbbd2fe7b224130d7fd997235faeb", func := "loop.example/g01213/laws.FnExactTimesInTins", spec := "fnExactTimesInTins", unfollowed := true, recurses := true, apart := false, narrowed := true }
def FnExactTimesInTinsUptoSaid : Prop := fnExactTimesInTinsUptoRow.holds Try.pinned (OpenSpec.upto fnExactTimesInTinsSpec)

/-- 'laws.FnExactEvenParts', WHERE WHAT IT READS IS OF BULK AT MOST 1048576: true; the input reads as it did. -/
def fnExactEvenPartsUptoRow : OpenClaim := { program := "ytelgoclebocapaa", sum := "33b5ca8c45a5f04fc2574806404efe857d4dbbd2fe7b224130d7fd997235faeb", func := "loop.example/g01213/laws.FnExactEvenParts", spec := "fnExactEvenParts", unfollowed := true, recurses := true, apart := false, narrowed := true }
def FnExactEvenPartsUptoSaid : Prop := fnExactEvenPartsUptoRow.holds Try.pinned (OpenSpec.upto fnExactEvenPartsSpec)

end Rows
end Go.Proofs.Ytelgoclebocapaa
