/-
  No cell of these rows narrows 'for every input' (looked for: loops, veiled, ifaces, maps, wideKeys, modest, calm, conditions, laid).
  DERIVED. THE GIVEN ROWS OF THIS SEAT. 12 by the template 'for every input the law returns true; each argument reads behind the call as it read before'; 0 by the template 'total and deterministic' (their statements: YtcgfcefhafpngabTotals.lean).
  GIVEN WITH THE SEED: the statements are not yours to turn. If you find one false, say at which input.
  Laid BY PROGRAM, IN A SANDBOX (cutbox-rows.mjs): the forced cells as the released guide's own fill.sh prints them over the translation 51dfcf4f2a55ec00… (all of the seat's roots in one cut). By AI agents, Wed Nov 11 2026. No macro, syntax, notation, axiom, sorry.
-/
import Derived.Test.YtcgfcefhafpngabChecked
import GoSem.Claim
import GoSem.ClaimJoined
import GoSem.ClaimMapViews
import Derived.JoinedTies
import Derived.KernelRfl
namespace Go.Proofs.Ytcgfcefhafpngab
/- THE CELL 'sum', in the pinned program and in every row, IS THE sha256 OF THE DUMP (.gsa) THAT YtcgfcefhafpngabProg.lean LOADS. Nothing in Lean hashes anything: it is a label: what it is worth is what the hold of that sum in a sandbox is worth. -/
noncomputable def Try.pinned : Pinned := { name := "ytcgfcefhafpngab", sum := "51dfcf4f2a55ec0040e95180fd293009e35449d13168c75f214cdaa43ef29220", checked := Try.checked }
namespace Rows
def none {H : Type} : Left H := { results := [], args := [] }

/-- 'laws.FnExactTotalDrops': WHATEVER THE INPUT: true; the input reads as it did. -/
def fnExactTotalDropsSpec : ChangeSpec := { name := "fnExactTotalDrops", fn := fun _ => fun
  | [d] => { results := [.lit (.bool true)], args := [d] }
  | _ => none }
def fnExactTotalDropsRow : OpenClaim := { program := "ytcgfcefhafpngab", sum := "51dfcf4f2a55ec0040e95180fd293009e35449d13168c75f214cdaa43ef29220", func := "loop.example/g01213/laws.FnExactTotalDrops", spec := "fnExactTotalDrops", unfollowed := true, recurses := true, apart := false }
def FnExactTotalDropsSaid : Prop := fnExactTotalDropsRow.holds Try.pinned (OpenSpec.ofChange fnExactTotalDropsSpec)

/-- ITS FALSE NEIGHBOUR: 'it returns false'. Refute it at one input. -/
def fnExactTotalDropsWrong : ChangeSpec := { name := "fnExactTotalDrops", fn := fun _ => fun
  | [d] => { results := [.lit (.bool false)], args := [d] }
  | _ => none }
def FnExactTotalDropsWrongFalsely : Prop := fnExactTotalDropsRow.holds Try.pinned (OpenSpec.ofChange fnExactTotalDropsWrong)

/-- 'laws.FnExactAllDrops': WHATEVER THE INPUT: true; the input reads as it did. -/
def fnExactAllDropsSpec : ChangeSpec := { name := "fnExactAllDrops", fn := fun _ => fun
  | [d1, d2] => { results := [.lit (.bool true)], args := [d1, d2] }
  | _ => none }
def fnExactAllDropsRow : OpenClaim := { program := "ytcgfcefhafpngab", sum := "51dfcf4f2a55ec0040e95180fd293009e35449d13168c75f214cdaa43ef29220", func := "loop.example/g01213/laws.FnExactAllDrops", spec := "fnExactAllDrops", unfollowed := true, recurses := true, apart := false }
def FnExactAllDropsSaid : Prop := fnExactAllDropsRow.holds Try.pinned (OpenSpec.ofChange fnExactAllDropsSpec)

/-- ITS FALSE NEIGHBOUR: 'it returns false'. Refute it at one input. -/
def fnExactAllDropsWrong : ChangeSpec := { name := "fnExactAllDrops", fn := fun _ => fun
  | [d1, d2] => { results := [.lit (.bool false)], args := [d1, d2] }
  | _ => none }
def FnExactAllDropsWrongFalsely : Prop := fnExactAllDropsRow.holds Try.pinned (OpenSpec.ofChange fnExactAllDropsWrong)

/-- 'laws.FnExactPartsOf': WHATEVER THE INPUT: true; the input reads as it did. -/
def fnExactPartsOfSpec : ChangeSpec := { name := "fnExactPartsOf", fn := fun _ => fun
  | [d1, d2] => { results := [.lit (.bool true)], args := [d1, d2] }
  | _ => none }
def fnExactPartsOfRow : OpenClaim := { program := "ytcgfcefhafpngab", sum := "51dfcf4f2a55ec0040e95180fd293009e35449d13168c75f214cdaa43ef29220", func := "loop.example/g01213/laws.FnExactPartsOf", spec := "fnExactPartsOf", unfollowed := true, recurses := true, apart := false }
def FnExactPartsOfSaid : Prop := fnExactPartsOfRow.holds Try.pinned (OpenSpec.ofChange fnExactPartsOfSpec)

/-- ITS FALSE NEIGHBOUR: 'it returns false'. Refute it at one input. -/
def fnExactPartsOfWrong : ChangeSpec := { name := "fnExactPartsOf", fn := fun _ => fun
  | [d1, d2] => { results := [.lit (.bool false)], args := [d1, d2] }
  | _ => none }
def FnExactPartsOfWrongFalsely : Prop := fnExactPartsOfRow.holds Try.pinned (OpenSpec.ofChange fnExactPartsOfWrong)

/-- 'laws.FnExactValidDrops': WHATEVER THE INPUT: true; the input reads as it did. -/
def fnExactValidDropsSpec : ChangeSpec := { name := "fnExactValidDrops", fn := fun _ => fun
  | [d1, d2] => { results := [.lit (.bool true)], args := [d1, d2] }
  | _ => none }
def fnExactValidDropsRow : OpenClaim := { program := "ytcgfcefhafpngab", sum := "51dfcf4f2a55ec0040e95180fd293009e35449d13168c75f214cdaa43ef29220", func := "loop.example/g01213/laws.FnExactValidDrops", spec := "fnExactValidDrops", unfollowed := true, recurses := true, apart := false }
def FnExactValidDropsSaid : Prop := fnExactValidDropsRow.holds Try.pinned (OpenSpec.ofChange fnExactValidDropsSpec)

/-- ITS FALSE NEIGHBOUR: 'it returns false'. Refute it at one input. -/
def fnExactValidDropsWrong : ChangeSpec := { name := "fnExactValidDrops", fn := fun _ => fun
  | [d1, d2] => { results := [.lit (.bool false)], args := [d1, d2] }
  | _ => none }
def FnExactValidDropsWrongFalsely : Prop := fnExactValidDropsRow.holds Try.pinned (OpenSpec.ofChange fnExactValidDropsWrong)

/-- 'laws.FnExactValidShelf': WHATEVER THE INPUT: true; the input reads as it did. -/
def fnExactValidShelfSpec : ChangeSpec := { name := "fnExactValidShelf", fn := fun _ => fun
  | [d] => { results := [.lit (.bool true)], args := [d] }
  | _ => none }
def fnExactValidShelfRow : OpenClaim := { program := "ytcgfcefhafpngab", sum := "51dfcf4f2a55ec0040e95180fd293009e35449d13168c75f214cdaa43ef29220", func := "loop.example/g01213/laws.FnExactValidShelf", spec := "fnExactValidShelf", unfollowed := true, recurses := true, apart := false }
def FnExactValidShelfSaid : Prop := fnExactValidShelfRow.holds Try.pinned (OpenSpec.ofChange fnExactValidShelfSpec)

/-- ITS FALSE NEIGHBOUR: 'it returns false'. Refute it at one input. -/
def fnExactValidShelfWrong : ChangeSpec := { name := "fnExactValidShelf", fn := fun _ => fun
  | [d] => { results := [.lit (.bool false)], args := [d] }
  | _ => none }
def FnExactValidShelfWrongFalsely : Prop := fnExactValidShelfRow.holds Try.pinned (OpenSpec.ofChange fnExactValidShelfWrong)

/-- 'laws.FnExactValidPigment': WHATEVER THE INPUT: true; the input reads as it did. -/
def fnExactValidPigmentSpec : ChangeSpec := { name := "fnExactValidPigment", fn := fun _ => fun
  | [d] => { results := [.lit (.bool true)], args := [d] }
  | _ => none }
def fnExactValidPigmentRow : OpenClaim := { program := "ytcgfcefhafpngab", sum := "51dfcf4f2a55ec0040e95180fd293009e35449d13168c75f214cdaa43ef29220", func := "loop.example/g01213/laws.FnExactValidPigment", spec := "fnExactValidPigment", unfollowed := true, recurses := true, apart := false }
def FnExactValidPigmentSaid : Prop := fnExactValidPigmentRow.holds Try.pinned (OpenSpec.ofChange fnExactValidPigmentSpec)

/-- ITS FALSE NEIGHBOUR: 'it returns false'. Refute it at one input. -/
def fnExactValidPigmentWrong : ChangeSpec := { name := "fnExactValidPigment", fn := fun _ => fun
  | [d] => { results := [.lit (.bool false)], args := [d] }
  | _ => none }
def FnExactValidPigmentWrongFalsely : Prop := fnExactValidPigmentRow.holds Try.pinned (OpenSpec.ofChange fnExactValidPigmentWrong)

/-- 'laws.FnExactSameShelf': WHATEVER THE INPUT: true; the input reads as it did. -/
def fnExactSameShelfSpec : ChangeSpec := { name := "fnExactSameShelf", fn := fun _ => fun
  | [d1, d2] => { results := [.lit (.bool true)], args := [d1, d2] }
  | _ => none }
def fnExactSameShelfRow : OpenClaim := { program := "ytcgfcefhafpngab", sum := "51dfcf4f2a55ec0040e95180fd293009e35449d13168c75f214cdaa43ef29220", func := "loop.example/g01213/laws.FnExactSameShelf", spec := "fnExactSameShelf", inPlace := ["math.Float32bits"], unfollowed := true, recurses := true, apart := false }
def FnExactSameShelfSaid : Prop := fnExactSameShelfRow.holds Try.pinned (OpenSpec.ofChange fnExactSameShelfSpec)

/-- ITS FALSE NEIGHBOUR: 'it returns false'. Refute it at one input. -/
def fnExactSameShelfWrong : ChangeSpec := { name := "fnExactSameShelf", fn := fun _ => fun
  | [d1, d2] => { results := [.lit (.bool false)], args := [d1, d2] }
  | _ => none }
def FnExactSameShelfWrongFalsely : Prop := fnExactSameShelfRow.holds Try.pinned (OpenSpec.ofChange fnExactSameShelfWrong)

/-- 'laws.FnExactFindPigment': WHATEVER THE INPUT: true; the input reads as it did. -/
def fnExactFindPigmentSpec : ChangeSpec := { name := "fnExactFindPigment", fn := fun _ => fun
  | [d1, d2] => { results := [.lit (.bool true)], args := [d1, d2] }
  | _ => none }
def fnExactFindPigmentRow : OpenClaim := { program := "ytcgfcefhafpngab", sum := "51dfcf4f2a55ec0040e95180fd293009e35449d13168c75f214cdaa43ef29220", func := "loop.example/g01213/laws.FnExactFindPigment", spec := "fnExactFindPigment", unfollowed := true, recurses := true, apart := false }
def FnExactFindPigmentSaid : Prop := fnExactFindPigmentRow.holds Try.pinned (OpenSpec.ofChange fnExactFindPigmentSpec)

/-- ITS FALSE NEIGHBOUR: 'it returns false'. Refute it at one input. -/
def fnExactFindPigmentWrong : ChangeSpec := { name := "fnExactFindPigment", fn := fun _ => fun
  | [d1, d2] => { results := [.lit (.bool false)], args := [d1, d2] }
  | _ => none }
def FnExactFindPigmentWrongFalsely : Prop := fnExactFindPigmentRow.holds Try.pinned (OpenSpec.ofChange fnExactFindPigmentWrong)

/-- 'laws.FnExactCostOfDrops': WHATEVER THE INPUT: true; the input reads as it did. -/
def fnExactCostOfDropsSpec : ChangeSpec := { name := "fnExactCostOfDrops", fn := fun _ => fun
  | [d1, d2] => { results := [.lit (.bool true)], args := [d1, d2] }
  | _ => none }
def fnExactCostOfDropsRow : OpenClaim := { program := "ytcgfcefhafpngab", sum := "51dfcf4f2a55ec0040e95180fd293009e35449d13168c75f214cdaa43ef29220", func := "loop.example/g01213/laws.FnExactCostOfDrops", spec := "fnExactCostOfDrops", unfollowed := true, recurses := true, apart := false }
def FnExactCostOfDropsSaid : Prop := fnExactCostOfDropsRow.holds Try.pinned (OpenSpec.ofChange fnExactCostOfDropsSpec)

/-- ITS FALSE NEIGHBOUR: 'it returns false'. Refute it at one input. -/
def fnExactCostOfDropsWrong : ChangeSpec := { name := "fnExactCostOfDrops", fn := fun _ => fun
  | [d1, d2] => { results := [.lit (.bool false)], args := [d1, d2] }
  | _ => none }
def FnExactCostOfDropsWrongFalsely : Prop := fnExactCostOfDropsRow.holds Try.pinned (OpenSpec.ofChange fnExactCostOfDropsWrong)

/-- 'laws.FnExactTimesInTins': WHATEVER THE INPUT: true; the input reads as it did. -/
def fnExactTimesInTinsSpec : ChangeSpec := { name := "fnExactTimesInTins", fn := fun _ => fun
  | [d1, d2] => { results := [.lit (.bool true)], args := [d1, d2] }
  | _ => none }
def fnExactTimesInTinsRow : OpenClaim := { program := "ytcgfcefhafpngab", sum := "51dfcf4f2a55ec0040e95180fd293009e35449d13168c75f214cdaa43ef29220", func := "loop.example/g01213/laws.FnExactTimesInTins", spec := "fnExactTimesInTins", unfollowed := true, recurses := true, apart := false }
def FnExactTimesInTinsSaid : Prop := fnExactTimesInTinsRow.holds Try.pinned (OpenSpec.ofChange fnExactTimesInTinsSpec)

/-- ITS FALSE NEIGHBOUR: 'it returns false'. Refute it at one input. -/
def fnExactTimesInTinsWrong : ChangeSpec := { name := "fnExactTimesInTins", fn := fun _ => fun
  | [d1, d2] => { results := [.lit (.bool false)], args := [d1, d2] }
  | _ => none }
def FnExactTimesInTinsWrongFalsely : Prop := fnExactTimesInTinsRow.holds Try.pinned (OpenSpec.ofChange fnExactTimesInTinsWrong)

/-- 'laws.FnExactReduceDrops': WHATEVER THE INPUT: true; the input reads as it did. -/
def fnExactReduceDropsSpec : ChangeSpec := { name := "fnExactReduceDrops", fn := fun _ => fun
  | [d1, d2] => { results := [.lit (.bool true)], args := [d1, d2] }
  | _ => none }
def fnExactReduceDropsRow : OpenClaim := { program := "ytcgfcefhafpngab", sum := "51dfcf4f2a55ec0040e95180fd293009e35449d13168c75f214cdaa43ef29220", func := "loop.example/g01213/laws.FnExactReduceDrops", spec := "fnExactReduceDrops", unfollowed := true, recurses := true, apart := false }
def FnExactReduceDropsSaid : Prop := fnExactReduceDropsRow.holds Try.pinned (OpenSpec.ofChange fnExactReduceDropsSpec)

/-- ITS FALSE NEIGHBOUR: 'it returns false'. Refute it at one input. -/
def fnExactReduceDropsWrong : ChangeSpec := { name := "fnExactReduceDrops", fn := fun _ => fun
  | [d1, d2] => { results := [.lit (.bool false)], args := [d1, d2] }
  | _ => none }
def FnExactReduceDropsWrongFalsely : Prop := fnExactReduceDropsRow.holds Try.pinned (OpenSpec.ofChange fnExactReduceDropsWrong)

/-- 'laws.FnExactAddDrops': WHATEVER THE INPUT: true; the input reads as it did. -/
def fnExactAddDropsSpec : ChangeSpec := { name := "fnExactAddDrops", fn := fun _ => fun
  | [d1, d2, d3] => { results := [.lit (.bool true)], args := [d1, d2, d3] }
  | _ => none }
def fnExactAddDropsRow : OpenClaim := { program := "ytcgfcefhafpngab", sum := "51dfcf4f2a55ec0040e95180fd293009e35449d13168c75f214cdaa43ef29220", func := "loop.example/g01213/laws.FnExactAddDrops", spec := "fnExactAddDrops", unfollowed := true, recurses := true, apart := false }
def FnExactAddDropsSaid : Prop := fnExactAddDropsRow.holds Try.pinned (OpenSpec.ofChange fnExactAddDropsSpec)

/-- ITS FALSE NEIGHBOUR: 'it returns false'. Refute it at one input. -/
def fnExactAddDropsWrong : ChangeSpec := { name := "fnExactAddDrops", fn := fun _ => fun
  | [d1, d2, d3] => { results := [.lit (.bool false)], args := [d1, d2, d3] }
  | _ => none }
def FnExactAddDropsWrongFalsely : Prop := fnExactAddDropsRow.holds Try.pinned (OpenSpec.ofChange fnExactAddDropsWrong)

/- THE SECOND FORM. 'bulk': how many values and letters a reading holds, each counted each time it is reached (what is shared counts as often as it is met; a slice's spare places count too). A statement '..UptoSaid' is the law's where the arguments, and the package variables that the reading takes, are together of bulk at most 1048576: NARROWER than '..Said'. Prove '..Said' where nothing that the law and all that it calls make is longer than what came in: it says more and counts as full. Else prove '..UptoSaid'. A law counts once. -/
mutual
def uptoBulk {H : Type} : DataW H → Nat
  | .lit (.string bytes) => bytes.length + 1
  | .lit _ => 1
  | .nil => 1
  | .ptr d => uptoBulk d + 1
  | .slice elems spare => uptoBulkAll elems + uptoBulkAll spare + 1
  | .agg parts => uptoBulkAll parts + 1
  | .iface _ d => uptoBulk d + 1
  | .map entries => uptoBulkEntries entries + 1
  | .held _ => 1
def uptoBulkAll {H : Type} : List (DataW H) → Nat
  | [] => 0
  | d :: r => uptoBulk d + uptoBulkAll r
def uptoBulkEntries {H : Type} : List (Lit × DataW H) → Nat
  | [] => 0
  | x :: r => uptoBulkEntry x + uptoBulkEntries r
def uptoBulkEntry {H : Type} : Lit × DataW H → Nat
  | (.string bytes, d) => bytes.length + uptoBulk d + 1
  | (_, d) => uptoBulk d + 1
 end
def uptoSmall : (H : Type) → List (DataW H) → Bool := fun _ ds => decide (uptoBulkAll ds ≤ 1048576)
def OpenSpec.upto (s : _root_.Go.ChangeSpec) : _root_.Go.OpenSpec := { _root_.Go.OpenSpec.ofChange s with cond := some uptoSmall }

/-- 'laws.FnExactTotalDrops', WHERE WHAT IT READS IS OF BULK AT MOST 1048576: true; the input reads as it did. -/
def fnExactTotalDropsUptoRow : OpenClaim := { program := "ytcgfcefhafpngab", sum := "51dfcf4f2a55ec0040e95180fd293009e35449d13168c75f214cdaa43ef29220", func := "loop.example/g01213/laws.FnExactTotalDrops", spec := "fnExactTotalDrops", unfollowed := true, recurses := true, apart := false, narrowed := true }
def FnExactTotalDropsUptoSaid : Prop := fnExactTotalDropsUptoRow.holds Try.pinned (OpenSpec.upto fnExactTotalDropsSpec)

/-- 'laws.FnExactAllDrops', WHERE WHAT IT READS IS OF BULK AT MOST 1048576: true; the input reads as it did. -/
def fnExactAllDropsUptoRow : OpenClaim := { program := "ytcgfcefhafpngab", sum := "51dfcf4f2a55ec0040e95180fd293009e35449d13168c75f214cdaa43ef29220", func := "loop.example/g01213/laws.FnExactAllDrops", spec := "fnExactAllDrops", unfollowed := true, recurses := true, apart := false, narrowed := true }
def FnExactAllDropsUptoSaid : Prop := fnExactAllDropsUptoRow.holds Try.pinned (OpenSpec.upto fnExactAllDropsSpec)

/-- 'laws.FnExactPartsOf', WHERE WHAT IT READS IS OF BULK AT MOST 1048576: true; the input reads as it did. -/
def fnExactPartsOfUptoRow : OpenClaim := { program := "ytcgfcefhafpngab", sum := "51dfcf4f2a55ec0040e95180fd293009e35449d13168c75f214cdaa43ef29220", func := "loop.example/g01213/laws.FnExactPartsOf", spec := "fnExactPartsOf", unfollowed := true, recurses := true, apart := false, narrowed := true }
def FnExactPartsOfUptoSaid : Prop := fnExactPartsOfUptoRow.holds Try.pinned (OpenSpec.upto fnExactPartsOfSpec)

/-- 'laws.FnExactValidDrops', WHERE WHAT IT READS IS OF BULK AT MOST 1048576: true; the input reads as it did. -/
def fnExactValidDropsUptoRow : OpenClaim := { program := "ytcgfcefhafpngab", sum := "51dfcf4f2a55ec0040e95180fd293009e35449d13168c75f214cdaa43ef29220", func := "loop.example/g01213/laws.FnExactValidDrops", spec := "fnExactValidDrops", unfollowed := true, recurses := true, apart := false, narrowed := true }
def FnExactValidDropsUptoSaid : Prop := fnExactValidDropsUptoRow.holds Try.pinned (OpenSpec.upto fnExactValidDropsSpec)

/-- 'laws.FnExactValidShelf', WHERE WHAT IT READS IS OF BULK AT MOST 1048576: true; the input reads as it did. -/
def fnExactValidShelfUptoRow : OpenClaim := { program := "ytcgfcefhafpngab", sum := "51dfcf4f2a55ec0040e95180fd293009e35449d13168c75f214cdaa43ef29220", func := "loop.example/g01213/laws.FnExactValidShelf", spec := "fnExactValidShelf", unfollowed := true, recurses := true, apart := false, narrowed := true }
def FnExactValidShelfUptoSaid : Prop := fnExactValidShelfUptoRow.holds Try.pinned (OpenSpec.upto fnExactValidShelfSpec)

/-- 'laws.FnExactValidPigment', WHERE WHAT IT READS IS OF BULK AT MOST 1048576: true; the input reads as it did. -/
def fnExactValidPigmentUptoRow : OpenClaim := { program := "ytcgfcefhafpngab", sum := "51dfcf4f2a55ec0040e95180fd293009e35449d13168c75f214cdaa43ef29220", func := "loop.example/g01213/laws.FnExactValidPigment", spec := "fnExactValidPigment", unfollowed := true, recurses := true, apart := false, narrowed := true }
def FnExactValidPigmentUptoSaid : Prop := fnExactValidPigmentUptoRow.holds Try.pinned (OpenSpec.upto fnExactValidPigmentSpec)

/-- 'laws.FnExactSameShelf', WHERE WHAT IT READS IS OF BULK AT MOST 1048576: true; the input reads as it did. -/
def fnExactSameShelfUptoRow : OpenClaim := { program := "ytcgfcefhafpngab", sum := "51dfcf4f2a55ec0040e95180fd293009e35449d13168c75f214cdaa43ef29220", func := "loop.example/g01213/laws.FnExactSameShelf", spec := "fnExactSameShelf", inPlace := ["math.Float32bits"], unfollowed := true, recurses := true, apart := false, narrowed := true }
def FnExactSameShelfUptoSaid : Prop := fnExactSameShelfUptoRow.holds Try.pinned (OpenSpec.upto fnExactSameShelfSpec)

/-- 'laws.FnExactFindPigment', WHERE WHAT IT READS IS OF BULK AT MOST 1048576: true; the input reads as it did. -/
def fnExactFindPigmentUptoRow : OpenClaim := { program := "ytcgfcefhafpngab", sum := "51dfcf4f2a55ec0040e95180fd293009e35449d13168c75f214cdaa43ef29220", func := "loop.example/g01213/laws.FnExactFindPigment", spec := "fnExactFindPigment", unfollowed := true, recurses := true, apart := false, narrowed := true }
def FnExactFindPigmentUptoSaid : Prop := fnExactFindPigmentUptoRow.holds Try.pinned (OpenSpec.upto fnExactFindPigmentSpec)

/-- 'laws.FnExactCostOfDrops', WHERE WHAT IT READS IS OF BULK AT MOST 1048576: true; the input reads as it did. -/
def fnExactCostOfDropsUptoRow : OpenClaim := { program := "ytcgfcefhafpngab", sum := "51dfcf4f2a55ec0040e95180fd293009e35449d13168c75f214cdaa43ef29220", func := "loop.example/g01213/laws.FnExactCostOfDrops", spec := "fnExactCostOfDrops", unfollowed := true, recurses := true, apart := false, narrowed := true }
def FnExactCostOfDropsUptoSaid : Prop := fnExactCostOfDropsUptoRow.holds Try.pinned (OpenSpec.upto fnExactCostOfDropsSpec)

/-- 'laws.FnExactTimesInTins', WHERE WHAT IT READS IS OF BULK AT MOST 1048576: true; the input reads as it did. -/
def fnExactTimesInTinsUptoRow : OpenClaim := { program := "ytcgfcefhafpngab", sum := "51dfcf4f2a55ec0040e95180fd293009e35449d13168c75f214cdaa43ef29220", func := "loop.example/g01213/laws.FnExactTimesInTins", spec := "fnExactTimesInTins", unfollowed := true, recurses := true, apart := false, narrowed := true }
def FnExactTimesInTinsUptoSaid : Prop := fnExactTimesInTinsUptoRow.holds Try.pinned (OpenSpec.upto fnExactTimesInTinsSpec)

/-- 'laws.FnExactReduceDrops', WHERE WHAT IT READS IS OF BULK AT MOST 1048576: true; the input reads as it did. -/
def fnExactReduceDropsUptoRow : OpenClaim := { program := "ytcgfcefhafpngab", sum := "51dfcf4f2a55ec0040e95180fd293009e35449d13168c75f214cdaa43ef29220", func := "loop.example/g01213/laws.FnExactReduceDrops", spec := "fnExactReduceDrops", unfollowed := true, recurses := true, apart := false, narrowed := true }
def FnExactReduceDropsUptoSaid : Prop := fnExactReduceDropsUptoRow.holds Try.pinned (OpenSpec.upto fnExactReduceDropsSpec)

/-- 'laws.FnExactAddDrops', WHERE WHAT IT READS IS OF BULK AT MOST 1048576: true; the input reads as it did. -/
def fnExactAddDropsUptoRow : OpenClaim := { program := "ytcgfcefhafpngab", sum := "51dfcf4f2a55ec0040e95180fd293009e35449d13168c75f214cdaa43ef29220", func := "loop.example/g01213/laws.FnExactAddDrops", spec := "fnExactAddDrops", unfollowed := true, recurses := true, apart := false, narrowed := true }
def FnExactAddDropsUptoSaid : Prop := fnExactAddDropsUptoRow.holds Try.pinned (OpenSpec.upto fnExactAddDropsSpec)

end Rows
end Go.Proofs.Ytcgfcefhafpngab
