/-
  No cell of these rows narrows 'for every input' (looked for: loops, veiled, ifaces, maps, wideKeys, modest, calm, conditions, laid).
  DERIVED. THE GIVEN ROWS OF THIS SEAT. 12 by the template 'for every input the law returns true; each argument reads behind the call as it read before'; 0 by the template 'total and deterministic' (their statements: YtbbhfiefnljnpabTotals.lean).
  GIVEN WITH THE SEED: the statements are not yours to turn. If you find one false, say at which input.
  Laid BY PROGRAM, IN A SANDBOX (cutbox-rows.mjs): the forced cells as the released guide's own fill.sh prints them over the translation 8b4b645bb3c83848… (all of the seat's roots in one cut). By AI agents, Wed Nov 11 2026. No macro, syntax, notation, axiom, sorry.
-/
import Derived.Test.YtbbhfiefnljnpabChecked
import GoSem.Claim
import GoSem.ClaimJoined
import GoSem.ClaimMapViews
import Derived.JoinedTies
import Derived.KernelRfl
namespace Go.Proofs.Ytbbhfiefnljnpab
/- THE CELL 'sum', in the pinned program and in every row, IS THE sha256 OF THE DUMP (.gsa) THAT YtbbhfiefnljnpabProg.lean LOADS. Nothing in Lean hashes anything: it is a label: what it is worth is what the hold of that sum in a sandbox is worth. -/
noncomputable def Try.pinned : Pinned := { name := "ytbbhfiefnljnpab", sum := "8b4b645bb3c83848e43071fcb7a383f66a8cb4a030fd5e40f0addc56979c33c2", checked := Try.checked }
namespace Rows
def none {H : Type} : Left H := { results := [], args := [] }

/-- 'laws.FnExactAddFilms': WHATEVER THE INPUT: true; the input reads as it did. -/
def fnExactAddFilmsSpec : ChangeSpec := { name := "fnExactAddFilms", fn := fun _ => fun
  | [d1, d2] => { results := [.lit (.bool true)], args := [d1, d2] }
  | _ => none }
def fnExactAddFilmsRow : OpenClaim := { program := "ytbbhfiefnljnpab", sum := "8b4b645bb3c83848e43071fcb7a383f66a8cb4a030fd5e40f0addc56979c33c2", func := "loop.example/g01213/laws.FnExactAddFilms", spec := "fnExactAddFilms", inPlace := ["math.Float64bits", "math.Float64frombits"], apart := false }
def FnExactAddFilmsSaid : Prop := fnExactAddFilmsRow.holds Try.pinned (OpenSpec.ofChange fnExactAddFilmsSpec)

/-- ITS FALSE NEIGHBOUR: 'it returns false'. Refute it at one input. -/
def fnExactAddFilmsWrong : ChangeSpec := { name := "fnExactAddFilms", fn := fun _ => fun
  | [d1, d2] => { results := [.lit (.bool false)], args := [d1, d2] }
  | _ => none }
def FnExactAddFilmsWrongFalsely : Prop := fnExactAddFilmsRow.holds Try.pinned (OpenSpec.ofChange fnExactAddFilmsWrong)

/-- 'laws.FnExactTurnFilm': WHATEVER THE INPUT: true; the input reads as it did. -/
def fnExactTurnFilmSpec : ChangeSpec := { name := "fnExactTurnFilm", fn := fun _ => fun
  | [d] => { results := [.lit (.bool true)], args := [d] }
  | _ => none }
def fnExactTurnFilmRow : OpenClaim := { program := "ytbbhfiefnljnpab", sum := "8b4b645bb3c83848e43071fcb7a383f66a8cb4a030fd5e40f0addc56979c33c2", func := "loop.example/g01213/laws.FnExactTurnFilm", spec := "fnExactTurnFilm", apart := false }
def FnExactTurnFilmSaid : Prop := fnExactTurnFilmRow.holds Try.pinned (OpenSpec.ofChange fnExactTurnFilmSpec)

/-- ITS FALSE NEIGHBOUR: 'it returns false'. Refute it at one input. -/
def fnExactTurnFilmWrong : ChangeSpec := { name := "fnExactTurnFilm", fn := fun _ => fun
  | [d] => { results := [.lit (.bool false)], args := [d] }
  | _ => none }
def FnExactTurnFilmWrongFalsely : Prop := fnExactTurnFilmRow.holds Try.pinned (OpenSpec.ofChange fnExactTurnFilmWrong)

/-- 'laws.FnExactOverBacking': WHATEVER THE INPUT: true; the input reads as it did. -/
def fnExactOverBackingSpec : ChangeSpec := { name := "fnExactOverBacking", fn := fun _ => fun
  | [d1, d2] => { results := [.lit (.bool true)], args := [d1, d2] }
  | _ => none }
def fnExactOverBackingRow : OpenClaim := { program := "ytbbhfiefnljnpab", sum := "8b4b645bb3c83848e43071fcb7a383f66a8cb4a030fd5e40f0addc56979c33c2", func := "loop.example/g01213/laws.FnExactOverBacking", spec := "fnExactOverBacking", inPlace := ["math.Float64bits", "math.Float64frombits"], apart := false }
def FnExactOverBackingSaid : Prop := fnExactOverBackingRow.holds Try.pinned (OpenSpec.ofChange fnExactOverBackingSpec)

/-- ITS FALSE NEIGHBOUR: 'it returns false'. Refute it at one input. -/
def fnExactOverBackingWrong : ChangeSpec := { name := "fnExactOverBacking", fn := fun _ => fun
  | [d1, d2] => { results := [.lit (.bool false)], args := [d1, d2] }
  | _ => none }
def FnExactOverBackingWrongFalsely : Prop := fnExactOverBackingRow.holds Try.pinned (OpenSpec.ofChange fnExactOverBackingWrong)

/-- 'laws.FnExactPaintOver': WHATEVER THE INPUT: true; the input reads as it did. -/
def fnExactPaintOverSpec : ChangeSpec := { name := "fnExactPaintOver", fn := fun _ => fun
  | [d1, d2] => { results := [.lit (.bool true)], args := [d1, d2] }
  | _ => none }
def fnExactPaintOverRow : OpenClaim := { program := "ytbbhfiefnljnpab", sum := "8b4b645bb3c83848e43071fcb7a383f66a8cb4a030fd5e40f0addc56979c33c2", func := "loop.example/g01213/laws.FnExactPaintOver", spec := "fnExactPaintOver", inPlace := ["math.Float64bits", "math.Float64frombits"], unfollowed := true, recurses := true, apart := false }
def FnExactPaintOverSaid : Prop := fnExactPaintOverRow.holds Try.pinned (OpenSpec.ofChange fnExactPaintOverSpec)

/-- ITS FALSE NEIGHBOUR: 'it returns false'. Refute it at one input. -/
def fnExactPaintOverWrong : ChangeSpec := { name := "fnExactPaintOver", fn := fun _ => fun
  | [d1, d2] => { results := [.lit (.bool false)], args := [d1, d2] }
  | _ => none }
def FnExactPaintOverWrongFalsely : Prop := fnExactPaintOverRow.holds Try.pinned (OpenSpec.ofChange fnExactPaintOverWrong)

/-- 'laws.FnExactLostIn': WHATEVER THE INPUT: true; the input reads as it did. -/
def fnExactLostInSpec : ChangeSpec := { name := "fnExactLostIn", fn := fun _ => fun
  | [d] => { results := [.lit (.bool true)], args := [d] }
  | _ => none }
def fnExactLostInRow : OpenClaim := { program := "ytbbhfiefnljnpab", sum := "8b4b645bb3c83848e43071fcb7a383f66a8cb4a030fd5e40f0addc56979c33c2", func := "loop.example/g01213/laws.FnExactLostIn", spec := "fnExactLostIn", unfollowed := true, recurses := true, apart := false }
def FnExactLostInSaid : Prop := fnExactLostInRow.holds Try.pinned (OpenSpec.ofChange fnExactLostInSpec)

/-- ITS FALSE NEIGHBOUR: 'it returns false'. Refute it at one input. -/
def fnExactLostInWrong : ChangeSpec := { name := "fnExactLostIn", fn := fun _ => fun
  | [d] => { results := [.lit (.bool false)], args := [d] }
  | _ => none }
def FnExactLostInWrongFalsely : Prop := fnExactLostInRow.holds Try.pinned (OpenSpec.ofChange fnExactLostInWrong)

/-- 'laws.FnExactContrastOf': WHATEVER THE INPUT: true; the input reads as it did. -/
def fnExactContrastOfSpec : ChangeSpec := { name := "fnExactContrastOf", fn := fun _ => fun
  | [d] => { results := [.lit (.bool true)], args := [d] }
  | _ => none }
def fnExactContrastOfRow : OpenClaim := { program := "ytbbhfiefnljnpab", sum := "8b4b645bb3c83848e43071fcb7a383f66a8cb4a030fd5e40f0addc56979c33c2", func := "loop.example/g01213/laws.FnExactContrastOf", spec := "fnExactContrastOf", inPlace := ["math.Float64frombits", "math.Float64bits"], unfollowed := true, recurses := true, apart := false }
def FnExactContrastOfSaid : Prop := fnExactContrastOfRow.holds Try.pinned (OpenSpec.ofChange fnExactContrastOfSpec)

/-- ITS FALSE NEIGHBOUR: 'it returns false'. Refute it at one input. -/
def fnExactContrastOfWrong : ChangeSpec := { name := "fnExactContrastOf", fn := fun _ => fun
  | [d] => { results := [.lit (.bool false)], args := [d] }
  | _ => none }
def FnExactContrastOfWrongFalsely : Prop := fnExactContrastOfRow.holds Try.pinned (OpenSpec.ofChange fnExactContrastOfWrong)

/-- 'laws.FnExactThicknessFor': WHATEVER THE INPUT: true; the input reads as it did. -/
def fnExactThicknessForSpec : ChangeSpec := { name := "fnExactThicknessFor", fn := fun _ => fun
  | [d1, d2, d3] => { results := [.lit (.bool true)], args := [d1, d2, d3] }
  | _ => none }
def fnExactThicknessForRow : OpenClaim := { program := "ytbbhfiefnljnpab", sum := "8b4b645bb3c83848e43071fcb7a383f66a8cb4a030fd5e40f0addc56979c33c2", func := "loop.example/g01213/laws.FnExactThicknessFor", spec := "fnExactThicknessFor", inPlace := ["math.Float64frombits", "math.Float64bits"], unfollowed := true, recurses := true, apart := false }
def FnExactThicknessForSaid : Prop := fnExactThicknessForRow.holds Try.pinned (OpenSpec.ofChange fnExactThicknessForSpec)

/-- ITS FALSE NEIGHBOUR: 'it returns false'. Refute it at one input. -/
def fnExactThicknessForWrong : ChangeSpec := { name := "fnExactThicknessFor", fn := fun _ => fun
  | [d1, d2, d3] => { results := [.lit (.bool false)], args := [d1, d2, d3] }
  | _ => none }
def FnExactThicknessForWrongFalsely : Prop := fnExactThicknessForRow.holds Try.pinned (OpenSpec.ofChange fnExactThicknessForWrong)

/-- 'laws.FnExactFilmFromTwo': WHATEVER THE INPUT: true; the input reads as it did. -/
def fnExactFilmFromTwoSpec : ChangeSpec := { name := "fnExactFilmFromTwo", fn := fun _ => fun
  | [d1, d2, d3] => { results := [.lit (.bool true)], args := [d1, d2, d3] }
  | _ => none }
def fnExactFilmFromTwoRow : OpenClaim := { program := "ytbbhfiefnljnpab", sum := "8b4b645bb3c83848e43071fcb7a383f66a8cb4a030fd5e40f0addc56979c33c2", func := "loop.example/g01213/laws.FnExactFilmFromTwo", spec := "fnExactFilmFromTwo", inPlace := ["math.sqrt"], unfollowed := true, recurses := true, apart := false }
def FnExactFilmFromTwoSaid : Prop := fnExactFilmFromTwoRow.holds Try.pinned (OpenSpec.ofChange fnExactFilmFromTwoSpec)

/-- ITS FALSE NEIGHBOUR: 'it returns false'. Refute it at one input. -/
def fnExactFilmFromTwoWrong : ChangeSpec := { name := "fnExactFilmFromTwo", fn := fun _ => fun
  | [d1, d2, d3] => { results := [.lit (.bool false)], args := [d1, d2, d3] }
  | _ => none }
def FnExactFilmFromTwoWrongFalsely : Prop := fnExactFilmFromTwoRow.holds Try.pinned (OpenSpec.ofChange fnExactFilmFromTwoWrong)

/-- 'laws.FnExactLookOf': WHATEVER THE INPUT: true; the input reads as it did. -/
def fnExactLookOfSpec : ChangeSpec := { name := "fnExactLookOf", fn := fun _ => fun
  | [d] => { results := [.lit (.bool true)], args := [d] }
  | _ => none }
def fnExactLookOfRow : OpenClaim := { program := "ytbbhfiefnljnpab", sum := "8b4b645bb3c83848e43071fcb7a383f66a8cb4a030fd5e40f0addc56979c33c2", func := "loop.example/g01213/laws.FnExactLookOf", spec := "fnExactLookOf", inPlace := ["math.Float64bits", "math.Float64frombits"], apart := false }
def FnExactLookOfSaid : Prop := fnExactLookOfRow.holds Try.pinned (OpenSpec.ofChange fnExactLookOfSpec)

/-- ITS FALSE NEIGHBOUR: 'it returns false'. Refute it at one input. -/
def fnExactLookOfWrong : ChangeSpec := { name := "fnExactLookOf", fn := fun _ => fun
  | [d] => { results := [.lit (.bool false)], args := [d] }
  | _ => none }
def FnExactLookOfWrongFalsely : Prop := fnExactLookOfRow.holds Try.pinned (OpenSpec.ofChange fnExactLookOfWrong)

/-- 'laws.FnExactLookUnder': WHATEVER THE INPUT: true; the input reads as it did. -/
def fnExactLookUnderSpec : ChangeSpec := { name := "fnExactLookUnder", fn := fun _ => fun
  | [d1, d2] => { results := [.lit (.bool true)], args := [d1, d2] }
  | _ => none }
def fnExactLookUnderRow : OpenClaim := { program := "ytbbhfiefnljnpab", sum := "8b4b645bb3c83848e43071fcb7a383f66a8cb4a030fd5e40f0addc56979c33c2", func := "loop.example/g01213/laws.FnExactLookUnder", spec := "fnExactLookUnder", inPlace := ["math.Float64bits", "math.Float64frombits"], unfollowed := true, recurses := true, apart := false }
def FnExactLookUnderSaid : Prop := fnExactLookUnderRow.holds Try.pinned (OpenSpec.ofChange fnExactLookUnderSpec)

/-- ITS FALSE NEIGHBOUR: 'it returns false'. Refute it at one input. -/
def fnExactLookUnderWrong : ChangeSpec := { name := "fnExactLookUnder", fn := fun _ => fun
  | [d1, d2] => { results := [.lit (.bool false)], args := [d1, d2] }
  | _ => none }
def FnExactLookUnderWrongFalsely : Prop := fnExactLookUnderRow.holds Try.pinned (OpenSpec.ofChange fnExactLookUnderWrong)

/-- 'laws.FnExactLeastOf': WHATEVER THE INPUT: true; the input reads as it did. -/
def fnExactLeastOfSpec : ChangeSpec := { name := "fnExactLeastOf", fn := fun _ => fun
  | [d] => { results := [.lit (.bool true)], args := [d] }
  | _ => none }
def fnExactLeastOfRow : OpenClaim := { program := "ytbbhfiefnljnpab", sum := "8b4b645bb3c83848e43071fcb7a383f66a8cb4a030fd5e40f0addc56979c33c2", func := "loop.example/g01213/laws.FnExactLeastOf", spec := "fnExactLeastOf", inPlace := ["math.Float64frombits"], unfollowed := true, recurses := true, apart := false }
def FnExactLeastOfSaid : Prop := fnExactLeastOfRow.holds Try.pinned (OpenSpec.ofChange fnExactLeastOfSpec)

/-- ITS FALSE NEIGHBOUR: 'it returns false'. Refute it at one input. -/
def fnExactLeastOfWrong : ChangeSpec := { name := "fnExactLeastOf", fn := fun _ => fun
  | [d] => { results := [.lit (.bool false)], args := [d] }
  | _ => none }
def FnExactLeastOfWrongFalsely : Prop := fnExactLeastOfRow.holds Try.pinned (OpenSpec.ofChange fnExactLeastOfWrong)

/-- 'laws.FnExactGreatestOf': WHATEVER THE INPUT: true; the input reads as it did. -/
def fnExactGreatestOfSpec : ChangeSpec := { name := "fnExactGreatestOf", fn := fun _ => fun
  | [d] => { results := [.lit (.bool true)], args := [d] }
  | _ => none }
def fnExactGreatestOfRow : OpenClaim := { program := "ytbbhfiefnljnpab", sum := "8b4b645bb3c83848e43071fcb7a383f66a8cb4a030fd5e40f0addc56979c33c2", func := "loop.example/g01213/laws.FnExactGreatestOf", spec := "fnExactGreatestOf", inPlace := ["math.Float64frombits"], unfollowed := true, recurses := true, apart := false }
def FnExactGreatestOfSaid : Prop := fnExactGreatestOfRow.holds Try.pinned (OpenSpec.ofChange fnExactGreatestOfSpec)

/-- ITS FALSE NEIGHBOUR: 'it returns false'. Refute it at one input. -/
def fnExactGreatestOfWrong : ChangeSpec := { name := "fnExactGreatestOf", fn := fun _ => fun
  | [d] => { results := [.lit (.bool false)], args := [d] }
  | _ => none }
def FnExactGreatestOfWrongFalsely : Prop := fnExactGreatestOfRow.holds Try.pinned (OpenSpec.ofChange fnExactGreatestOfWrong)

/- THE SECOND FORM. 'bulk': how many values and letters a reading holds, each counted each time it is reached (what is shared counts as often as it is met; a slice's spare places count too). A statement '..UptoSaid' is the law's where the arguments, and the package variables that the reading takes, are together of bulk at most 1048576: NARROWER than '..Said'. Prove '..Said' where nothing that the law and all that it calls make is longer than what came in: it says more and counts as full. Else prove '..UptoSaid'. A law counts once. -/
mutual
def uptoBulk {H : Type} : DataW H → Nat
  | .lit (.string bytes) => bytes.length + 1
  | .lit _ => 1
  | .nil => 1
  | .ptr d => uptoBulk d + 1
  | .slice elems spare => uptoBulkAll elems + uptoBulkAll spare + 1
  | .agg parts => uptoBulkAll parts + 1
  | .iface _ d => uptoBulk d + 1
  | .map entries => uptoBulkEntries entries + 1
  | .held _ => 1
def uptoBulkAll {H : Type} : List (DataW H) → Nat
  | [] => 0
  | d :: r => uptoBulk d + uptoBulkAll r
def uptoBulkEntries {H : Type} : List (Lit × DataW H) → Nat
  | [] => 0
  | x :: r => uptoBulkEntry x + uptoBulkEntries r
def uptoBulkEntry {H : Type} : Lit × DataW H → Nat
  | (.string bytes, d) => bytes.length + uptoBulk d + 1
  | (_, d) => uptoBulk d + 1
 end
def uptoSmall : (H : Type) → List (DataW H) → Bool := fun _ ds => decide (uptoBulkAll ds ≤ 1048576)
def OpenSpec.upto (s : _root_.Go.ChangeSpec) : _root_.Go.OpenSpec := { _root_.Go.OpenSpec.ofChange s with cond := some uptoSmall }

/-- 'laws.FnExactAddFilms', WHERE WHAT IT READS IS OF BULK AT MOST 1048576: true; the input reads as it did. -/
def fnExactAddFilmsUptoRow : OpenClaim := { program := "ytbbhfiefnljnpab", sum := "8b4b645bb3c83848e43071fcb7a383f66a8cb4a030fd5e40f0addc56979c33c2", func := "loop.example/g01213/laws.FnExactAddFilms", spec := "fnExactAddFilms", inPlace := ["math.Float64bits", "math.Float64frombits"], apart := false, narrowed := true }
def FnExactAddFilmsUptoSaid : Prop := fnExactAddFilmsUptoRow.holds Try.pinned (OpenSpec.upto fnExactAddFilmsSpec)

/-- 'laws.FnExactTurnFilm', WHERE WHAT IT READS IS OF BULK AT MOST 1048576: true; the input reads as it did. -/
def fnExactTurnFilmUptoRow : OpenClaim := { program := "ytbbhfiefnljnpab", sum := "8b4b645bb3c83848e43071fcb7a383f66a8cb4a030fd5e40f0addc56979c33c2", func := "loop.example/g01213/laws.FnExactTurnFilm", spec := "fnExactTurnFilm", apart := false, narrowed := true }
def FnExactTurnFilmUptoSaid : Prop := fnExactTurnFilmUptoRow.holds Try.pinned (OpenSpec.upto fnExactTurnFilmSpec)

/-- 'laws.FnExactOverBacking', WHERE WHAT IT READS IS OF BULK AT MOST 1048576: true; the input reads as it did. -/
def fnExactOverBackingUptoRow : OpenClaim := { program := "ytbbhfiefnljnpab", sum := "8b4b645bb3c83848e43071fcb7a383f66a8cb4a030fd5e40f0addc56979c33c2", func := "loop.example/g01213/laws.FnExactOverBacking", spec := "fnExactOverBacking", inPlace := ["math.Float64bits", "math.Float64frombits"], apart := false, narrowed := true }
def FnExactOverBackingUptoSaid : Prop := fnExactOverBackingUptoRow.holds Try.pinned (OpenSpec.upto fnExactOverBackingSpec)

/-- 'laws.FnExactPaintOver', WHERE WHAT IT READS IS OF BULK AT MOST 1048576: true; the input reads as it did. -/
def fnExactPaintOverUptoRow : OpenClaim := { program := "ytbbhfiefnljnpab", sum := "8b4b645bb3c83848e43071fcb7a383f66a8cb4a030fd5e40f0addc56979c33c2", func := "loop.example/g01213/laws.FnExactPaintOver", spec := "fnExactPaintOver", inPlace := ["math.Float64bits", "math.Float64frombits"], unfollowed := true, recurses := true, apart := false, narrowed := true }
def FnExactPaintOverUptoSaid : Prop := fnExactPaintOverUptoRow.holds Try.pinned (OpenSpec.upto fnExactPaintOverSpec)

/-- 'laws.FnExactLostIn', WHERE WHAT IT READS IS OF BULK AT MOST 1048576: true; the input reads as it did. -/
def fnExactLostInUptoRow : OpenClaim := { program := "ytbbhfiefnljnpab", sum := "8b4b645bb3c83848e43071fcb7a383f66a8cb4a030fd5e40f0addc56979c33c2", func := "loop.example/g01213/laws.FnExactLostIn", spec := "fnExactLostIn", unfollowed := true, recurses := true, apart := false, narrowed := true }
def FnExactLostInUptoSaid : Prop := fnExactLostInUptoRow.holds Try.pinned (OpenSpec.upto fnExactLostInSpec)

/-- 'laws.FnExactContrastOf', WHERE WHAT IT READS IS OF BULK AT MOST 1048576: true; the input reads as it did. -/
def fnExactContrastOfUptoRow : OpenClaim := { program := "ytbbhfiefnljnpab", sum := "8b4b645bb3c83848e43071fcb7a383f66a8cb4a030fd5e40f0addc56979c33c2", func := "loop.example/g01213/laws.FnExactContrastOf", spec := "fnExactContrastOf", inPlace := ["math.Float64frombits", "math.Float64bits"], unfollowed := true, recurses := true, apart := false, narrowed := true }
def FnExactContrastOfUptoSaid : Prop := fnExactContrastOfUptoRow.holds Try.pinned (OpenSpec.upto fnExactContrastOfSpec)

/-- 'laws.FnExactThicknessFor', WHERE WHAT IT READS IS OF BULK AT MOST 1048576: true; the input reads as it did. -/
def fnExactThicknessForUptoRow : OpenClaim := { program := "ytbbhfiefnljnpab", sum := "8b4b645bb3c83848e43071fcb7a383f66a8cb4a030fd5e40f0addc56979c33c2", func := "loop.example/g01213/laws.FnExactThicknessFor", spec := "fnExactThicknessFor", inPlace := ["math.Float64frombits", "math.Float64bits"], unfollowed := true, recurses := true, apart := false, narrowed := true }
def FnExactThicknessForUptoSaid : Prop := fnExactThicknessForUptoRow.holds Try.pinned (OpenSpec.upto fnExactThicknessForSpec)

/-- 'laws.FnExactFilmFromTwo', WHERE WHAT IT READS IS OF BULK AT MOST 1048576: true; the input reads as it did. -/
def fnExactFilmFromTwoUptoRow : OpenClaim := { program := "ytbbhfiefnljnpab", sum := "8b4b645bb3c83848e43071fcb7a383f66a8cb4a030fd5e40f0addc56979c33c2", func := "loop.example/g01213/laws.FnExactFilmFromTwo", spec := "fnExactFilmFromTwo", inPlace := ["math.sqrt"], unfollowed := true, recurses := true, apart := false, narrowed := true }
def FnExactFilmFromTwoUptoSaid : Prop := fnExactFilmFromTwoUptoRow.holds Try.pinned (OpenSpec.upto fnExactFilmFromTwoSpec)

/-- 'laws.FnExactLookOf', WHERE WHAT IT READS IS OF BULK AT MOST 1048576: true; the input reads as it did. -/
def fnExactLookOfUptoRow : OpenClaim := { program := "ytbbhfiefnljnpab", sum := "8b4b645bb3c83848e43071fcb7a383f66a8cb4a030fd5e40f0addc56979c33c2", func := "loop.example/g01213/laws.FnExactLookOf", spec := "fnExactLookOf", inPlace := ["math.Float64bits", "math.Float64frombits"], apart := false, narrowed := true }
def FnExactLookOfUptoSaid : Prop := fnExactLookOfUptoRow.holds Try.pinned (OpenSpec.upto fnExactLookOfSpec)

/-- 'laws.FnExactLookUnder', WHERE WHAT IT READS IS OF BULK AT MOST 1048576: true; the input reads as it did. -/
def fnExactLookUnderUptoRow : OpenClaim := { program := "ytbbhfiefnljnpab", sum := "8b4b645bb3c83848e43071fcb7a383f66a8cb4a030fd5e40f0addc56979c33c2", func := "loop.example/g01213/laws.FnExactLookUnder", spec := "fnExactLookUnder", inPlace := ["math.Float64bits", "math.Float64frombits"], unfollowed := true, recurses := true, apart := false, narrowed := true }
def FnExactLookUnderUptoSaid : Prop := fnExactLookUnderUptoRow.holds Try.pinned (OpenSpec.upto fnExactLookUnderSpec)

/-- 'laws.FnExactLeastOf', WHERE WHAT IT READS IS OF BULK AT MOST 1048576: true; the input reads as it did. -/
def fnExactLeastOfUptoRow : OpenClaim := { program := "ytbbhfiefnljnpab", sum := "8b4b645bb3c83848e43071fcb7a383f66a8cb4a030fd5e40f0addc56979c33c2", func := "loop.example/g01213/laws.FnExactLeastOf", spec := "fnExactLeastOf", inPlace := ["math.Float64frombits"], unfollowed := true, recurses := true, apart := false, narrowed := true }
def FnExactLeastOfUptoSaid : Prop := fnExactLeastOfUptoRow.holds Try.pinned (OpenSpec.upto fnExactLeastOfSpec)

/-- 'laws.FnExactGreatestOf', WHERE WHAT IT READS IS OF BULK AT MOST 1048576: true; the input reads as it did. -/
def fnExactGreatestOfUptoRow : OpenClaim := { program := "ytbbhfiefnljnpab", sum := "8b4b645bb3c83848e43071fcb7a383f66a8cb4a030fd5e40f0addc56979c33c2", func := "loop.example/g01213/laws.FnExactGreatestOf", spec := "fnExactGreatestOf", inPlace := ["math.Float64frombits"], unfollowed := true, recurses := true, apart := false, narrowed := true }
def FnExactGreatestOfUptoSaid : Prop := fnExactGreatestOfUptoRow.holds Try.pinned (OpenSpec.upto fnExactGreatestOfSpec)

end Rows
end Go.Proofs.Ytbbhfiefnljnpab
