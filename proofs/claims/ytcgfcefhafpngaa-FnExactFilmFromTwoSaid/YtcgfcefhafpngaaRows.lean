/-
  No cell of these rows narrows 'for every input' (looked for: loops, veiled, ifaces, maps, wideKeys, modest, calm, conditions, laid).
  DERIVED. THE GIVEN ROWS OF THIS SEAT. 12 by the template 'for every input the law returns true; each argument reads behind the call as it read before'; 0 by the template 'total and deterministic' (their statements: YtcgfcefhafpngaaTotals.lean).
  GIVEN WITH THE SEED: the statements are not yours to turn. If you find one false, say at which input.
  Laid BY PROGRAM, IN A SANDBOX (cutbox-rows.mjs): the forced cells as the released guide's own fill.sh prints them over the translation 6fbad15bdb0f5a3e… (all of the seat's roots in one cut). By AI agents, Wed Nov 11 2026. No macro, syntax, notation, axiom, sorry.
-/
import Derived.Test.YtcgfcefhafpngaaChecked
import GoSem.Claim
import GoSem.ClaimJoined
import GoSem.ClaimMapViews
import Derived.JoinedTies
import Derived.KernelRfl
namespace Go.Proofs.Ytcgfcefhafpngaa
/- THE CELL 'sum', in the pinned program and in every row, IS THE sha256 OF THE DUMP (.gsa) THAT YtcgfcefhafpngaaProg.lean LOADS. Nothing in Lean hashes anything: it is a label: what it is worth is what the hold of that sum in a sandbox is worth. -/
noncomputable def Try.pinned : Pinned := { name := "ytcgfcefhafpngaa", sum := "6fbad15bdb0f5a3e8ca59ba5e713e5db563e1d9f6c41d3a7c217ffb87288d6b8", checked := Try.checked }
namespace Rows
def none {H : Type} : Left H := { results := [], args := [] }

/-- 'laws.FnExactOfRatio': WHATEVER THE INPUT: true; the input reads as it did. -/
def fnExactOfRatioSpec : ChangeSpec := { name := "fnExactOfRatio", fn := fun _ => fun
  | [d] => { results := [.lit (.bool true)], args := [d] }
  | _ => none }
def fnExactOfRatioRow : OpenClaim := { program := "ytcgfcefhafpngaa", sum := "6fbad15bdb0f5a3e8ca59ba5e713e5db563e1d9f6c41d3a7c217ffb87288d6b8", func := "loop.example/g01213/laws.FnExactOfRatio", spec := "fnExactOfRatio", inPlace := ["math.sqrt"], unfollowed := true, recurses := true, apart := false }
def FnExactOfRatioSaid : Prop := fnExactOfRatioRow.holds Try.pinned (OpenSpec.ofChange fnExactOfRatioSpec)

/-- ITS FALSE NEIGHBOUR: 'it returns false'. Refute it at one input. -/
def fnExactOfRatioWrong : ChangeSpec := { name := "fnExactOfRatio", fn := fun _ => fun
  | [d] => { results := [.lit (.bool false)], args := [d] }
  | _ => none }
def FnExactOfRatioWrongFalsely : Prop := fnExactOfRatioRow.holds Try.pinned (OpenSpec.ofChange fnExactOfRatioWrong)

/-- 'laws.FnExactThickOf': WHATEVER THE INPUT: true; the input reads as it did. -/
def fnExactThickOfSpec : ChangeSpec := { name := "fnExactThickOf", fn := fun _ => fun
  | [d1, d2] => { results := [.lit (.bool true)], args := [d1, d2] }
  | _ => none }
def fnExactThickOfRow : OpenClaim := { program := "ytcgfcefhafpngaa", sum := "6fbad15bdb0f5a3e8ca59ba5e713e5db563e1d9f6c41d3a7c217ffb87288d6b8", func := "loop.example/g01213/laws.FnExactThickOf", spec := "fnExactThickOf", inPlace := ["math.sqrt", "math.Float64bits", "math.Float64frombits"], apart := false }
def FnExactThickOfSaid : Prop := fnExactThickOfRow.holds Try.pinned (OpenSpec.ofChange fnExactThickOfSpec)

/-- ITS FALSE NEIGHBOUR: 'it returns false'. Refute it at one input. -/
def fnExactThickOfWrong : ChangeSpec := { name := "fnExactThickOf", fn := fun _ => fun
  | [d1, d2] => { results := [.lit (.bool false)], args := [d1, d2] }
  | _ => none }
def FnExactThickOfWrongFalsely : Prop := fnExactThickOfRow.holds Try.pinned (OpenSpec.ofChange fnExactThickOfWrong)

/-- 'laws.FnExactSameFilm': WHATEVER THE INPUT: true; the input reads as it did. -/
def fnExactSameFilmSpec : ChangeSpec := { name := "fnExactSameFilm", fn := fun _ => fun
  | [d1, d2] => { results := [.lit (.bool true)], args := [d1, d2] }
  | _ => none }
def fnExactSameFilmRow : OpenClaim := { program := "ytcgfcefhafpngaa", sum := "6fbad15bdb0f5a3e8ca59ba5e713e5db563e1d9f6c41d3a7c217ffb87288d6b8", func := "loop.example/g01213/laws.FnExactSameFilm", spec := "fnExactSameFilm", inPlace := ["math.Float32bits"], apart := false }
def FnExactSameFilmSaid : Prop := fnExactSameFilmRow.holds Try.pinned (OpenSpec.ofChange fnExactSameFilmSpec)

/-- ITS FALSE NEIGHBOUR: 'it returns false'. Refute it at one input. -/
def fnExactSameFilmWrong : ChangeSpec := { name := "fnExactSameFilm", fn := fun _ => fun
  | [d1, d2] => { results := [.lit (.bool false)], args := [d1, d2] }
  | _ => none }
def FnExactSameFilmWrongFalsely : Prop := fnExactSameFilmRow.holds Try.pinned (OpenSpec.ofChange fnExactSameFilmWrong)

/-- 'laws.FnExactAddFilms': WHATEVER THE INPUT: true; the input reads as it did. -/
def fnExactAddFilmsSpec : ChangeSpec := { name := "fnExactAddFilms", fn := fun _ => fun
  | [d1, d2] => { results := [.lit (.bool true)], args := [d1, d2] }
  | _ => none }
def fnExactAddFilmsRow : OpenClaim := { program := "ytcgfcefhafpngaa", sum := "6fbad15bdb0f5a3e8ca59ba5e713e5db563e1d9f6c41d3a7c217ffb87288d6b8", func := "loop.example/g01213/laws.FnExactAddFilms", spec := "fnExactAddFilms", inPlace := ["math.Float64bits", "math.Float64frombits"], apart := false }
def FnExactAddFilmsSaid : Prop := fnExactAddFilmsRow.holds Try.pinned (OpenSpec.ofChange fnExactAddFilmsSpec)

/-- ITS FALSE NEIGHBOUR: 'it returns false'. Refute it at one input. -/
def fnExactAddFilmsWrong : ChangeSpec := { name := "fnExactAddFilms", fn := fun _ => fun
  | [d1, d2] => { results := [.lit (.bool false)], args := [d1, d2] }
  | _ => none }
def FnExactAddFilmsWrongFalsely : Prop := fnExactAddFilmsRow.holds Try.pinned (OpenSpec.ofChange fnExactAddFilmsWrong)

/-- 'laws.FnExactFilmFromTwo': WHATEVER THE INPUT: true; the input reads as it did. -/
def fnExactFilmFromTwoSpec : ChangeSpec := { name := "fnExactFilmFromTwo", fn := fun _ => fun
  | [d1, d2, d3] => { results := [.lit (.bool true)], args := [d1, d2, d3] }
  | _ => none }
def fnExactFilmFromTwoRow : OpenClaim := { program := "ytcgfcefhafpngaa", sum := "6fbad15bdb0f5a3e8ca59ba5e713e5db563e1d9f6c41d3a7c217ffb87288d6b8", func := "loop.example/g01213/laws.FnExactFilmFromTwo", spec := "fnExactFilmFromTwo", inPlace := ["math.sqrt"], unfollowed := true, recurses := true, apart := false }
def FnExactFilmFromTwoSaid : Prop := fnExactFilmFromTwoRow.holds Try.pinned (OpenSpec.ofChange fnExactFilmFromTwoSpec)

/-- ITS FALSE NEIGHBOUR: 'it returns false'. Refute it at one input. -/
def fnExactFilmFromTwoWrong : ChangeSpec := { name := "fnExactFilmFromTwo", fn := fun _ => fun
  | [d1, d2, d3] => { results := [.lit (.bool false)], args := [d1, d2, d3] }
  | _ => none }
def FnExactFilmFromTwoWrongFalsely : Prop := fnExactFilmFromTwoRow.holds Try.pinned (OpenSpec.ofChange fnExactFilmFromTwoWrong)

/-- 'laws.FnExactLeastOf': WHATEVER THE INPUT: true; the input reads as it did. -/
def fnExactLeastOfSpec : ChangeSpec := { name := "fnExactLeastOf", fn := fun _ => fun
  | [d] => { results := [.lit (.bool true)], args := [d] }
  | _ => none }
def fnExactLeastOfRow : OpenClaim := { program := "ytcgfcefhafpngaa", sum := "6fbad15bdb0f5a3e8ca59ba5e713e5db563e1d9f6c41d3a7c217ffb87288d6b8", func := "loop.example/g01213/laws.FnExactLeastOf", spec := "fnExactLeastOf", inPlace := ["math.Float64frombits"], unfollowed := true, recurses := true, apart := false }
def FnExactLeastOfSaid : Prop := fnExactLeastOfRow.holds Try.pinned (OpenSpec.ofChange fnExactLeastOfSpec)

/-- ITS FALSE NEIGHBOUR: 'it returns false'. Refute it at one input. -/
def fnExactLeastOfWrong : ChangeSpec := { name := "fnExactLeastOf", fn := fun _ => fun
  | [d] => { results := [.lit (.bool false)], args := [d] }
  | _ => none }
def FnExactLeastOfWrongFalsely : Prop := fnExactLeastOfRow.holds Try.pinned (OpenSpec.ofChange fnExactLeastOfWrong)

/-- 'laws.FnExactGreatestOf': WHATEVER THE INPUT: true; the input reads as it did. -/
def fnExactGreatestOfSpec : ChangeSpec := { name := "fnExactGreatestOf", fn := fun _ => fun
  | [d] => { results := [.lit (.bool true)], args := [d] }
  | _ => none }
def fnExactGreatestOfRow : OpenClaim := { program := "ytcgfcefhafpngaa", sum := "6fbad15bdb0f5a3e8ca59ba5e713e5db563e1d9f6c41d3a7c217ffb87288d6b8", func := "loop.example/g01213/laws.FnExactGreatestOf", spec := "fnExactGreatestOf", inPlace := ["math.Float64frombits"], unfollowed := true, recurses := true, apart := false }
def FnExactGreatestOfSaid : Prop := fnExactGreatestOfRow.holds Try.pinned (OpenSpec.ofChange fnExactGreatestOfSpec)

/-- ITS FALSE NEIGHBOUR: 'it returns false'. Refute it at one input. -/
def fnExactGreatestOfWrong : ChangeSpec := { name := "fnExactGreatestOf", fn := fun _ => fun
  | [d] => { results := [.lit (.bool false)], args := [d] }
  | _ => none }
def FnExactGreatestOfWrongFalsely : Prop := fnExactGreatestOfRow.holds Try.pinned (OpenSpec.ofChange fnExactGreatestOfWrong)

/-- 'laws.FnExactCodeName': WHATEVER THE INPUT: true; the input reads as it did. -/
def fnExactCodeNameSpec : ChangeSpec := { name := "fnExactCodeName", fn := fun _ => fun
  | [d] => { results := [.lit (.bool true)], args := [d] }
  | _ => none }
def fnExactCodeNameRow : OpenClaim := { program := "ytcgfcefhafpngaa", sum := "6fbad15bdb0f5a3e8ca59ba5e713e5db563e1d9f6c41d3a7c217ffb87288d6b8", func := "loop.example/g01213/laws.FnExactCodeName", spec := "fnExactCodeName", apart := false }
def FnExactCodeNameSaid : Prop := fnExactCodeNameRow.holds Try.pinned (OpenSpec.ofChange fnExactCodeNameSpec)

/-- ITS FALSE NEIGHBOUR: 'it returns false'. Refute it at one input. -/
def fnExactCodeNameWrong : ChangeSpec := { name := "fnExactCodeName", fn := fun _ => fun
  | [d] => { results := [.lit (.bool false)], args := [d] }
  | _ => none }
def FnExactCodeNameWrongFalsely : Prop := fnExactCodeNameRow.holds Try.pinned (OpenSpec.ofChange fnExactCodeNameWrong)

/-- 'laws.FnExactCubeRoot': WHATEVER THE INPUT: true; the input reads as it did. -/
def fnExactCubeRootSpec : ChangeSpec := { name := "fnExactCubeRoot", fn := fun _ => fun
  | [d] => { results := [.lit (.bool true)], args := [d] }
  | _ => none }
def fnExactCubeRootRow : OpenClaim := { program := "ytcgfcefhafpngaa", sum := "6fbad15bdb0f5a3e8ca59ba5e713e5db563e1d9f6c41d3a7c217ffb87288d6b8", func := "loop.example/g01213/laws.FnExactCubeRoot", spec := "fnExactCubeRoot", inPlace := ["math.Float64bits", "math.Float64frombits"], apart := false }
def FnExactCubeRootSaid : Prop := fnExactCubeRootRow.holds Try.pinned (OpenSpec.ofChange fnExactCubeRootSpec)

/-- ITS FALSE NEIGHBOUR: 'it returns false'. Refute it at one input. -/
def fnExactCubeRootWrong : ChangeSpec := { name := "fnExactCubeRoot", fn := fun _ => fun
  | [d] => { results := [.lit (.bool false)], args := [d] }
  | _ => none }
def FnExactCubeRootWrongFalsely : Prop := fnExactCubeRootRow.holds Try.pinned (OpenSpec.ofChange fnExactCubeRootWrong)

/-- 'laws.FnExactPowerOf': WHATEVER THE INPUT: true; the input reads as it did. -/
def fnExactPowerOfSpec : ChangeSpec := { name := "fnExactPowerOf", fn := fun _ => fun
  | [d1, d2] => { results := [.lit (.bool true)], args := [d1, d2] }
  | _ => none }
def fnExactPowerOfRow : OpenClaim := { program := "ytcgfcefhafpngaa", sum := "6fbad15bdb0f5a3e8ca59ba5e713e5db563e1d9f6c41d3a7c217ffb87288d6b8", func := "loop.example/g01213/laws.FnExactPowerOf", spec := "fnExactPowerOf", inPlace := ["math.archFloor", "math.Float64bits", "math.Float64frombits", "math.archTrunc"], apart := false }
def FnExactPowerOfSaid : Prop := fnExactPowerOfRow.holds Try.pinned (OpenSpec.ofChange fnExactPowerOfSpec)

/-- ITS FALSE NEIGHBOUR: 'it returns false'. Refute it at one input. -/
def fnExactPowerOfWrong : ChangeSpec := { name := "fnExactPowerOf", fn := fun _ => fun
  | [d1, d2] => { results := [.lit (.bool false)], args := [d1, d2] }
  | _ => none }
def FnExactPowerOfWrongFalsely : Prop := fnExactPowerOfRow.holds Try.pinned (OpenSpec.ofChange fnExactPowerOfWrong)

/-- 'laws.FnExactLookOf': WHATEVER THE INPUT: true; the input reads as it did. -/
def fnExactLookOfSpec : ChangeSpec := { name := "fnExactLookOf", fn := fun _ => fun
  | [d] => { results := [.lit (.bool true)], args := [d] }
  | _ => none }
def fnExactLookOfRow : OpenClaim := { program := "ytcgfcefhafpngaa", sum := "6fbad15bdb0f5a3e8ca59ba5e713e5db563e1d9f6c41d3a7c217ffb87288d6b8", func := "loop.example/g01213/laws.FnExactLookOf", spec := "fnExactLookOf", inPlace := ["math.Float64bits", "math.Float64frombits"], apart := false }
def FnExactLookOfSaid : Prop := fnExactLookOfRow.holds Try.pinned (OpenSpec.ofChange fnExactLookOfSpec)

/-- ITS FALSE NEIGHBOUR: 'it returns false'. Refute it at one input. -/
def fnExactLookOfWrong : ChangeSpec := { name := "fnExactLookOf", fn := fun _ => fun
  | [d] => { results := [.lit (.bool false)], args := [d] }
  | _ => none }
def FnExactLookOfWrongFalsely : Prop := fnExactLookOfRow.holds Try.pinned (OpenSpec.ofChange fnExactLookOfWrong)

/-- 'laws.FnExactLookUnder': WHATEVER THE INPUT: true; the input reads as it did. -/
def fnExactLookUnderSpec : ChangeSpec := { name := "fnExactLookUnder", fn := fun _ => fun
  | [d1, d2] => { results := [.lit (.bool true)], args := [d1, d2] }
  | _ => none }
def fnExactLookUnderRow : OpenClaim := { program := "ytcgfcefhafpngaa", sum := "6fbad15bdb0f5a3e8ca59ba5e713e5db563e1d9f6c41d3a7c217ffb87288d6b8", func := "loop.example/g01213/laws.FnExactLookUnder", spec := "fnExactLookUnder", inPlace := ["math.Float64bits", "math.Float64frombits"], unfollowed := true, recurses := true, apart := false }
def FnExactLookUnderSaid : Prop := fnExactLookUnderRow.holds Try.pinned (OpenSpec.ofChange fnExactLookUnderSpec)

/-- ITS FALSE NEIGHBOUR: 'it returns false'. Refute it at one input. -/
def fnExactLookUnderWrong : ChangeSpec := { name := "fnExactLookUnder", fn := fun _ => fun
  | [d1, d2] => { results := [.lit (.bool false)], args := [d1, d2] }
  | _ => none }
def FnExactLookUnderWrongFalsely : Prop := fnExactLookUnderRow.holds Try.pinned (OpenSpec.ofChange fnExactLookUnderWrong)

/- THE SECOND FORM. 'bulk': how many values and letters a reading holds, each counted each time it is reached (what is shared counts as often as it is met; a slice's spare places count too). A statement '..UptoSaid' is the law's where the arguments, and the package variables that the reading takes, are together of bulk at most 1048576: NARROWER than '..Said'. Prove '..Said' where nothing that the law and all that it calls make is longer than what came in: it says more and counts as full. Else prove '..UptoSaid'. A law counts once. -/
mutual
def uptoBulk {H : Type} : DataW H → Nat
  | .lit (.string bytes) => bytes.length + 1
  | .lit _ => 1
  | .nil => 1
  | .ptr d => uptoBulk d + 1
  | .slice elems spare => uptoBulkAll elems + uptoBulkAll spare + 1
  | .agg parts => uptoBulkAll parts + 1
  | .iface _ d => uptoBulk d + 1
  | .map entries => uptoBulkEntries entries + 1
  | .held _ => 1
def uptoBulkAll {H : Type} : List (DataW H) → Nat
  | [] => 0
  | d :: r => uptoBulk d + uptoBulkAll r
def uptoBulkEntries {H : Type} : List (Lit × DataW H) → Nat
  | [] => 0
  | x :: r => uptoBulkEntry x + uptoBulkEntries r
def uptoBulkEntry {H : Type} : Lit × DataW H → Nat
  | (.string bytes, d) => bytes.length + uptoBulk d + 1
  | (_, d) => uptoBulk d + 1
 end
def uptoSmall : (H : Type) → List (DataW H) → Bool := fun _ ds => decide (uptoBulkAll ds ≤ 1048576)
def OpenSpec.upto (s : _root_.Go.ChangeSpec) : _root_.Go.OpenSpec := { _root_.Go.OpenSpec.ofChange s with cond := some uptoSmall }

/-- 'laws.FnExactOfRatio', WHERE WHAT IT READS IS OF BULK AT MOST 1048576: true; the input reads as it did. -/
def fnExactOfRatioUptoRow : OpenClaim := { program := "ytcgfcefhafpngaa", sum := "6fbad15bdb0f5a3e8ca59ba5e713e5db563e1d9f6c41d3a7c217ffb87288d6b8", func := "loop.example/g01213/laws.FnExactOfRatio", spec := "fnExactOfRatio", inPlace := ["math.sqrt"], unfollowed := true, recurses := true, apart := false, narrowed := true }
def FnExactOfRatioUptoSaid : Prop := fnExactOfRatioUptoRow.holds Try.pinned (OpenSpec.upto fnExactOfRatioSpec)

/-- 'laws.FnExactThickOf', WHERE WHAT IT READS IS OF BULK AT MOST 1048576: true; the input reads as it did. -/
def fnExactThickOfUptoRow : OpenClaim := { program := "ytcgfcefhafpngaa", sum := "6fbad15bdb0f5a3e8ca59ba5e713e5db563e1d9f6c41d3a7c217ffb87288d6b8", func := "loop.example/g01213/laws.FnExactThickOf", spec := "fnExactThickOf", inPlace := ["math.sqrt", "math.Float64bits", "math.Float64frombits"], apart := false, narrowed := true }
def FnExactThickOfUptoSaid : Prop := fnExactThickOfUptoRow.holds Try.pinned (OpenSpec.upto fnExactThickOfSpec)

/-- 'laws.FnExactSameFilm', WHERE WHAT IT READS IS OF BULK AT MOST 1048576: true; the input reads as it did. -/
def fnExactSameFilmUptoRow : OpenClaim := { program := "ytcgfcefhafpngaa", sum := "6fbad15bdb0f5a3e8ca59ba5e713e5db563e1d9f6c41d3a7c217ffb87288d6b8", func := "loop.example/g01213/laws.FnExactSameFilm", spec := "fnExactSameFilm", inPlace := ["math.Float32bits"], apart := false, narrowed := true }
def FnExactSameFilmUptoSaid : Prop := fnExactSameFilmUptoRow.holds Try.pinned (OpenSpec.upto fnExactSameFilmSpec)

/-- 'laws.FnExactAddFilms', WHERE WHAT IT READS IS OF BULK AT MOST 1048576: true; the input reads as it did. -/
def fnExactAddFilmsUptoRow : OpenClaim := { program := "ytcgfcefhafpngaa", sum := "6fbad15bdb0f5a3e8ca59ba5e713e5db563e1d9f6c41d3a7c217ffb87288d6b8", func := "loop.example/g01213/laws.FnExactAddFilms", spec := "fnExactAddFilms", inPlace := ["math.Float64bits", "math.Float64frombits"], apart := false, narrowed := true }
def FnExactAddFilmsUptoSaid : Prop := fnExactAddFilmsUptoRow.holds Try.pinned (OpenSpec.upto fnExactAddFilmsSpec)

/-- 'laws.FnExactFilmFromTwo', WHERE WHAT IT READS IS OF BULK AT MOST 1048576: true; the input reads as it did. -/
def fnExactFilmFromTwoUptoRow : OpenClaim := { program := "ytcgfcefhafpngaa", sum := "6fbad15bdb0f5a3e8ca59ba5e713e5db563e1d9f6c41d3a7c217ffb87288d6b8", func := "loop.example/g01213/laws.FnExactFilmFromTwo", spec := "fnExactFilmFromTwo", inPlace := ["math.sqrt"], unfollowed := true, recurses := true, apart := false, narrowed := true }
def FnExactFilmFromTwoUptoSaid : Prop := fnExactFilmFromTwoUptoRow.holds Try.pinned (OpenSpec.upto fnExactFilmFromTwoSpec)

/-- 'laws.FnExactLeastOf', WHERE WHAT IT READS IS OF BULK AT MOST 1048576: true; the input reads as it did. -/
def fnExactLeastOfUptoRow : OpenClaim := { program := "ytcgfcefhafpngaa", sum := "6fbad15bdb0f5a3e8ca59ba5e713e5db563e1d9f6c41d3a7c217ffb87288d6b8", func := "loop.example/g01213/laws.FnExactLeastOf", spec := "fnExactLeastOf", inPlace := ["math.Float64frombits"], unfollowed := true, recurses := true, apart := false, narrowed := true }
def FnExactLeastOfUptoSaid : Prop := fnExactLeastOfUptoRow.holds Try.pinned (OpenSpec.upto fnExactLeastOfSpec)

/-- 'laws.FnExactGreatestOf', WHERE WHAT IT READS IS OF BULK AT MOST 1048576: true; the input reads as it did. -/
def fnExactGreatestOfUptoRow : OpenClaim := { program := "ytcgfcefhafpngaa", sum := "6fbad15bdb0f5a3e8ca59ba5e713e5db563e1d9f6c41d3a7c217ffb87288d6b8", func := "loop.example/g01213/laws.FnExactGreatestOf", spec := "fnExactGreatestOf", inPlace := ["math.Float64frombits"], unfollowed := true, recurses := true, apart := false, narrowed := true }
def FnExactGreatestOfUptoSaid : Prop := fnExactGreatestOfUptoRow.holds Try.pinned (OpenSpec.upto fnExactGreatestOfSpec)

/-- 'laws.FnExactCodeName', WHERE WHAT IT READS IS OF BULK AT MOST 1048576: true; the input reads as it did. -/
def fnExactCodeNameUptoRow : OpenClaim := { program := "ytcgfcefhafpngaa", sum := "6fbad15bdb0f5a3e8ca59ba5e713e5db563e1d9f6c41d3a7c217ffb87288d6b8", func := "loop.example/g01213/laws.FnExactCodeName", spec := "fnExactCodeName", apart := false, narrowed := true }
def FnExactCodeNameUptoSaid : Prop := fnExactCodeNameUptoRow.holds Try.pinned (OpenSpec.upto fnExactCodeNameSpec)

/-- 'laws.FnExactCubeRoot', WHERE WHAT IT READS IS OF BULK AT MOST 1048576: true; the input reads as it did. -/
def fnExactCubeRootUptoRow : OpenClaim := { program := "ytcgfcefhafpngaa", sum := "6fbad15bdb0f5a3e8ca59ba5e713e5db563e1d9f6c41d3a7c217ffb87288d6b8", func := "loop.example/g01213/laws.FnExactCubeRoot", spec := "fnExactCubeRoot", inPlace := ["math.Float64bits", "math.Float64frombits"], apart := false, narrowed := true }
def FnExactCubeRootUptoSaid : Prop := fnExactCubeRootUptoRow.holds Try.pinned (OpenSpec.upto fnExactCubeRootSpec)

/-- 'laws.FnExactPowerOf', WHERE WHAT IT READS IS OF BULK AT MOST 1048576: true; the input reads as it did. -/
def fnExactPowerOfUptoRow : OpenClaim := { program := "ytcgfcefhafpngaa", sum := "6fbad15bdb0f5a3e8ca59ba5e713e5db563e1d9f6c41d3a7c217ffb87288d6b8", func := "loop.example/g01213/laws.FnExactPowerOf", spec := "fnExactPowerOf", inPlace := ["math.archFloor", "math.Float64bits", "math.Float64frombits", "math.archTrunc"], apart := false, narrowed := true }
def FnExactPowerOfUptoSaid : Prop := fnExactPowerOfUptoRow.holds Try.pinned (OpenSpec.upto fnExactPowerOfSpec)

/-- 'laws.FnExactLookOf', WHERE WHAT IT READS IS OF BULK AT MOST 1048576: true; the input reads as it did. -/
def fnExactLookOfUptoRow : OpenClaim := { program := "ytcgfcefhafpngaa", sum := "6fbad15bdb0f5a3e8ca59ba5e713e5db563e1d9f6c41d3a7c217ffb87288d6b8", func := "loop.example/g01213/laws.FnExactLookOf", spec := "fnExactLookOf", inPlace := ["math.Float64bits", "math.Float64frombits"], apart := false, narrowed := true }
def FnExactLookOfUptoSaid : Prop := fnExactLookOfUptoRow.holds Try.pinned (OpenSpec.upto fnExactLookOfSpec)

/-- 'laws.FnExactLookUnder', WHERE WHAT IT READS IS OF BULK AT MOST 1048576: true; the input reads as it did. -/
def fnExactLookUnderUptoRow : OpenClaim := { program := "ytcgfcefhafpngaa", sum := "6fbad15bdb0f5a3e8ca59ba5e713e5db563e1d9f6c41d3a7c217ffb87288d6b8", func := "loop.example/g01213/laws.FnExactLookUnder", spec := "fnExactLookUnder", inPlace := ["math.Float64bits", "math.Float64frombits"], unfollowed := true, recurses := true, apart := false, narrowed := true }
def FnExactLookUnderUptoSaid : Prop := fnExactLookUnderUptoRow.holds Try.pinned (OpenSpec.upto fnExactLookUnderSpec)

end Rows
end Go.Proofs.Ytcgfcefhafpngaa
