/-
  No cell of these rows narrows 'for every input' (looked for: loops, veiled, ifaces, maps, wideKeys, modest, calm, conditions, laid).
  DERIVED. THE GIVEN ROWS OF THIS SEAT. 12 by the template 'for every input the law returns true; each argument reads behind the call as it read before'; 0 by the template 'total and deterministic' (their statements: YtikajdhgakcldacTotals.lean).
  GIVEN WITH THE SEED: the statements are not yours to turn. If you find one false, say at which input.
  Laid BY PROGRAM, IN A SANDBOX (cutbox-rows.mjs): the forced cells as the released guide's own fill.sh prints them over the translation 6f7ef5385cbfa082… (all of the seat's roots in one cut). By AI agents, Wed Nov 11 2026. No macro, syntax, notation, axiom, sorry.
-/
import Derived.Test.YtikajdhgakcldacChecked
import GoSem.Claim
import GoSem.ClaimJoined
import GoSem.ClaimMapViews
import Derived.JoinedTies
import Derived.KernelRfl
namespace Go.Proofs.Ytikajdhgakcldac
/- THE CELL 'sum', in the pinned program and in every row, IS THE sha256 OF THE DUMP (.gsa) THAT YtikajdhgakcldacProg.lean LOADS. Nothing in Lean hashes anything: it is a label: what it is worth is what the hold of that sum in a sandbox is worth. -/
noncomputable def Try.pinned : Pinned := { name := "ytikajdhgakcldac", sum := "6f7ef5385cbfa0824f5683ca294ff27b6feb0f282b2bb3f67a9b1b9886fe1531", checked := Try.checked }
namespace Rows
def none {H : Type} : Left H := { results := [], args := [] }

/-- 'laws.FnExactRatioCurve': WHATEVER THE INPUT: true; the input reads as it did. -/
def fnExactRatioCurveSpec : ChangeSpec := { name := "fnExactRatioCurve", fn := fun _ => fun
  | [d1, d2] => { results := [.lit (.bool true)], args := [d1, d2] }
  | _ => none }
def fnExactRatioCurveRow : OpenClaim := { program := "ytikajdhgakcldac", sum := "6f7ef5385cbfa0824f5683ca294ff27b6feb0f282b2bb3f67a9b1b9886fe1531", func := "loop.example/g01213/laws.FnExactRatioCurve", spec := "fnExactRatioCurve", inPlace := ["math.Float64bits", "math.Float64frombits"], unfollowed := true, recurses := true, apart := false }
def FnExactRatioCurveSaid : Prop := fnExactRatioCurveRow.holds Try.pinned (OpenSpec.ofChange fnExactRatioCurveSpec)

/-- ITS FALSE NEIGHBOUR: 'it returns false'. Refute it at one input. -/
def fnExactRatioCurveWrong : ChangeSpec := { name := "fnExactRatioCurve", fn := fun _ => fun
  | [d1, d2] => { results := [.lit (.bool false)], args := [d1, d2] }
  | _ => none }
def FnExactRatioCurveWrongFalsely : Prop := fnExactRatioCurveRow.holds Try.pinned (OpenSpec.ofChange fnExactRatioCurveWrong)

/-- 'laws.FnExactThickOf': WHATEVER THE INPUT: true; the input reads as it did. -/
def fnExactThickOfSpec : ChangeSpec := { name := "fnExactThickOf", fn := fun _ => fun
  | [d1, d2] => { results := [.lit (.bool true)], args := [d1, d2] }
  | _ => none }
def fnExactThickOfRow : OpenClaim := { program := "ytikajdhgakcldac", sum := "6f7ef5385cbfa0824f5683ca294ff27b6feb0f282b2bb3f67a9b1b9886fe1531", func := "loop.example/g01213/laws.FnExactThickOf", spec := "fnExactThickOf", inPlace := ["math.sqrt", "math.Float64bits", "math.Float64frombits"], apart := false }
def FnExactThickOfSaid : Prop := fnExactThickOfRow.holds Try.pinned (OpenSpec.ofChange fnExactThickOfSpec)

/-- ITS FALSE NEIGHBOUR: 'it returns false'. Refute it at one input. -/
def fnExactThickOfWrong : ChangeSpec := { name := "fnExactThickOf", fn := fun _ => fun
  | [d1, d2] => { results := [.lit (.bool false)], args := [d1, d2] }
  | _ => none }
def FnExactThickOfWrongFalsely : Prop := fnExactThickOfRow.holds Try.pinned (OpenSpec.ofChange fnExactThickOfWrong)

/-- 'laws.FnExactRatioOf': WHATEVER THE INPUT: true; the input reads as it did. -/
def fnExactRatioOfSpec : ChangeSpec := { name := "fnExactRatioOf", fn := fun _ => fun
  | [d] => { results := [.lit (.bool true)], args := [d] }
  | _ => none }
def fnExactRatioOfRow : OpenClaim := { program := "ytikajdhgakcldac", sum := "6f7ef5385cbfa0824f5683ca294ff27b6feb0f282b2bb3f67a9b1b9886fe1531", func := "loop.example/g01213/laws.FnExactRatioOf", spec := "fnExactRatioOf", inPlace := ["math.Float64bits", "math.Float64frombits"], unfollowed := true, recurses := true, apart := false }
def FnExactRatioOfSaid : Prop := fnExactRatioOfRow.holds Try.pinned (OpenSpec.ofChange fnExactRatioOfSpec)

/-- ITS FALSE NEIGHBOUR: 'it returns false'. Refute it at one input. -/
def fnExactRatioOfWrong : ChangeSpec := { name := "fnExactRatioOf", fn := fun _ => fun
  | [d] => { results := [.lit (.bool false)], args := [d] }
  | _ => none }
def FnExactRatioOfWrongFalsely : Prop := fnExactRatioOfRow.holds Try.pinned (OpenSpec.ofChange fnExactRatioOfWrong)

/-- 'laws.FnExactOfRatio': WHATEVER THE INPUT: true; the input reads as it did. -/
def fnExactOfRatioSpec : ChangeSpec := { name := "fnExactOfRatio", fn := fun _ => fun
  | [d] => { results := [.lit (.bool true)], args := [d] }
  | _ => none }
def fnExactOfRatioRow : OpenClaim := { program := "ytikajdhgakcldac", sum := "6f7ef5385cbfa0824f5683ca294ff27b6feb0f282b2bb3f67a9b1b9886fe1531", func := "loop.example/g01213/laws.FnExactOfRatio", spec := "fnExactOfRatio", inPlace := ["math.sqrt"], unfollowed := true, recurses := true, apart := false }
def FnExactOfRatioSaid : Prop := fnExactOfRatioRow.holds Try.pinned (OpenSpec.ofChange fnExactOfRatioSpec)

/-- ITS FALSE NEIGHBOUR: 'it returns false'. Refute it at one input. -/
def fnExactOfRatioWrong : ChangeSpec := { name := "fnExactOfRatio", fn := fun _ => fun
  | [d] => { results := [.lit (.bool false)], args := [d] }
  | _ => none }
def FnExactOfRatioWrongFalsely : Prop := fnExactOfRatioRow.holds Try.pinned (OpenSpec.ofChange fnExactOfRatioWrong)

/-- 'laws.FnExactValidFilm': WHATEVER THE INPUT: true; the input reads as it did. -/
def fnExactValidFilmSpec : ChangeSpec := { name := "fnExactValidFilm", fn := fun _ => fun
  | [d] => { results := [.lit (.bool true)], args := [d] }
  | _ => none }
def fnExactValidFilmRow : OpenClaim := { program := "ytikajdhgakcldac", sum := "6f7ef5385cbfa0824f5683ca294ff27b6feb0f282b2bb3f67a9b1b9886fe1531", func := "loop.example/g01213/laws.FnExactValidFilm", spec := "fnExactValidFilm", apart := false }
def FnExactValidFilmSaid : Prop := fnExactValidFilmRow.holds Try.pinned (OpenSpec.ofChange fnExactValidFilmSpec)

/-- ITS FALSE NEIGHBOUR: 'it returns false'. Refute it at one input. -/
def fnExactValidFilmWrong : ChangeSpec := { name := "fnExactValidFilm", fn := fun _ => fun
  | [d] => { results := [.lit (.bool false)], args := [d] }
  | _ => none }
def FnExactValidFilmWrongFalsely : Prop := fnExactValidFilmRow.holds Try.pinned (OpenSpec.ofChange fnExactValidFilmWrong)

/-- 'laws.FnExactSameFilm': WHATEVER THE INPUT: true; the input reads as it did. -/
def fnExactSameFilmSpec : ChangeSpec := { name := "fnExactSameFilm", fn := fun _ => fun
  | [d1, d2] => { results := [.lit (.bool true)], args := [d1, d2] }
  | _ => none }
def fnExactSameFilmRow : OpenClaim := { program := "ytikajdhgakcldac", sum := "6f7ef5385cbfa0824f5683ca294ff27b6feb0f282b2bb3f67a9b1b9886fe1531", func := "loop.example/g01213/laws.FnExactSameFilm", spec := "fnExactSameFilm", inPlace := ["math.Float32bits"], apart := false }
def FnExactSameFilmSaid : Prop := fnExactSameFilmRow.holds Try.pinned (OpenSpec.ofChange fnExactSameFilmSpec)

/-- ITS FALSE NEIGHBOUR: 'it returns false'. Refute it at one input. -/
def fnExactSameFilmWrong : ChangeSpec := { name := "fnExactSameFilm", fn := fun _ => fun
  | [d1, d2] => { results := [.lit (.bool false)], args := [d1, d2] }
  | _ => none }
def FnExactSameFilmWrongFalsely : Prop := fnExactSameFilmRow.holds Try.pinned (OpenSpec.ofChange fnExactSameFilmWrong)

/-- 'laws.FnExactEmptyFilm': WHATEVER THE INPUT: true; the input reads as it did. -/
def fnExactEmptyFilmSpec : ChangeSpec := { name := "fnExactEmptyFilm", fn := fun _ => fun
  | [] => { results := [.lit (.bool true)], args := [] }
  | _ => none }
def fnExactEmptyFilmRow : OpenClaim := { program := "ytikajdhgakcldac", sum := "6f7ef5385cbfa0824f5683ca294ff27b6feb0f282b2bb3f67a9b1b9886fe1531", func := "loop.example/g01213/laws.FnExactEmptyFilm", spec := "fnExactEmptyFilm", apart := false }
def FnExactEmptyFilmSaid : Prop := fnExactEmptyFilmRow.holds Try.pinned (OpenSpec.ofChange fnExactEmptyFilmSpec)

/-- ITS FALSE NEIGHBOUR: 'it returns false'. Refute it at one input. -/
def fnExactEmptyFilmWrong : ChangeSpec := { name := "fnExactEmptyFilm", fn := fun _ => fun
  | [] => { results := [.lit (.bool false)], args := [] }
  | _ => none }
def FnExactEmptyFilmWrongFalsely : Prop := fnExactEmptyFilmRow.holds Try.pinned (OpenSpec.ofChange fnExactEmptyFilmWrong)

/-- 'laws.FnExactMirrorFilm': WHATEVER THE INPUT: true; the input reads as it did. -/
def fnExactMirrorFilmSpec : ChangeSpec := { name := "fnExactMirrorFilm", fn := fun _ => fun
  | [d] => { results := [.lit (.bool true)], args := [d] }
  | _ => none }
def fnExactMirrorFilmRow : OpenClaim := { program := "ytikajdhgakcldac", sum := "6f7ef5385cbfa0824f5683ca294ff27b6feb0f282b2bb3f67a9b1b9886fe1531", func := "loop.example/g01213/laws.FnExactMirrorFilm", spec := "fnExactMirrorFilm", apart := false }
def FnExactMirrorFilmSaid : Prop := fnExactMirrorFilmRow.holds Try.pinned (OpenSpec.ofChange fnExactMirrorFilmSpec)

/-- ITS FALSE NEIGHBOUR: 'it returns false'. Refute it at one input. -/
def fnExactMirrorFilmWrong : ChangeSpec := { name := "fnExactMirrorFilm", fn := fun _ => fun
  | [d] => { results := [.lit (.bool false)], args := [d] }
  | _ => none }
def FnExactMirrorFilmWrongFalsely : Prop := fnExactMirrorFilmRow.holds Try.pinned (OpenSpec.ofChange fnExactMirrorFilmWrong)

/-- 'laws.FnExactFilmOf': WHATEVER THE INPUT: true; the input reads as it did. -/
def fnExactFilmOfSpec : ChangeSpec := { name := "fnExactFilmOf", fn := fun _ => fun
  | [d] => { results := [.lit (.bool true)], args := [d] }
  | _ => none }
def fnExactFilmOfRow : OpenClaim := { program := "ytikajdhgakcldac", sum := "6f7ef5385cbfa0824f5683ca294ff27b6feb0f282b2bb3f67a9b1b9886fe1531", func := "loop.example/g01213/laws.FnExactFilmOf", spec := "fnExactFilmOf", inPlace := ["math.Float64bits", "math.Float64frombits"], unfollowed := true, recurses := true, apart := false }
def FnExactFilmOfSaid : Prop := fnExactFilmOfRow.holds Try.pinned (OpenSpec.ofChange fnExactFilmOfSpec)

/-- ITS FALSE NEIGHBOUR: 'it returns false'. Refute it at one input. -/
def fnExactFilmOfWrong : ChangeSpec := { name := "fnExactFilmOf", fn := fun _ => fun
  | [d] => { results := [.lit (.bool false)], args := [d] }
  | _ => none }
def FnExactFilmOfWrongFalsely : Prop := fnExactFilmOfRow.holds Try.pinned (OpenSpec.ofChange fnExactFilmOfWrong)

/-- 'laws.FnExactAddFilms': WHATEVER THE INPUT: true; the input reads as it did. -/
def fnExactAddFilmsSpec : ChangeSpec := { name := "fnExactAddFilms", fn := fun _ => fun
  | [d1, d2] => { results := [.lit (.bool true)], args := [d1, d2] }
  | _ => none }
def fnExactAddFilmsRow : OpenClaim := { program := "ytikajdhgakcldac", sum := "6f7ef5385cbfa0824f5683ca294ff27b6feb0f282b2bb3f67a9b1b9886fe1531", func := "loop.example/g01213/laws.FnExactAddFilms", spec := "fnExactAddFilms", inPlace := ["math.Float64bits", "math.Float64frombits"], apart := false }
def FnExactAddFilmsSaid : Prop := fnExactAddFilmsRow.holds Try.pinned (OpenSpec.ofChange fnExactAddFilmsSpec)

/-- ITS FALSE NEIGHBOUR: 'it returns false'. Refute it at one input. -/
def fnExactAddFilmsWrong : ChangeSpec := { name := "fnExactAddFilms", fn := fun _ => fun
  | [d1, d2] => { results := [.lit (.bool false)], args := [d1, d2] }
  | _ => none }
def FnExactAddFilmsWrongFalsely : Prop := fnExactAddFilmsRow.holds Try.pinned (OpenSpec.ofChange fnExactAddFilmsWrong)

/-- 'laws.FnExactTurnFilm': WHATEVER THE INPUT: true; the input reads as it did. -/
def fnExactTurnFilmSpec : ChangeSpec := { name := "fnExactTurnFilm", fn := fun _ => fun
  | [d] => { results := [.lit (.bool true)], args := [d] }
  | _ => none }
def fnExactTurnFilmRow : OpenClaim := { program := "ytikajdhgakcldac", sum := "6f7ef5385cbfa0824f5683ca294ff27b6feb0f282b2bb3f67a9b1b9886fe1531", func := "loop.example/g01213/laws.FnExactTurnFilm", spec := "fnExactTurnFilm", apart := false }
def FnExactTurnFilmSaid : Prop := fnExactTurnFilmRow.holds Try.pinned (OpenSpec.ofChange fnExactTurnFilmSpec)

/-- ITS FALSE NEIGHBOUR: 'it returns false'. Refute it at one input. -/
def fnExactTurnFilmWrong : ChangeSpec := { name := "fnExactTurnFilm", fn := fun _ => fun
  | [d] => { results := [.lit (.bool false)], args := [d] }
  | _ => none }
def FnExactTurnFilmWrongFalsely : Prop := fnExactTurnFilmRow.holds Try.pinned (OpenSpec.ofChange fnExactTurnFilmWrong)

/-- 'laws.FnExactOverBacking': WHATEVER THE INPUT: true; the input reads as it did. -/
def fnExactOverBackingSpec : ChangeSpec := { name := "fnExactOverBacking", fn := fun _ => fun
  | [d1, d2] => { results := [.lit (.bool true)], args := [d1, d2] }
  | _ => none }
def fnExactOverBackingRow : OpenClaim := { program := "ytikajdhgakcldac", sum := "6f7ef5385cbfa0824f5683ca294ff27b6feb0f282b2bb3f67a9b1b9886fe1531", func := "loop.example/g01213/laws.FnExactOverBacking", spec := "fnExactOverBacking", inPlace := ["math.Float64bits", "math.Float64frombits"], apart := false }
def FnExactOverBackingSaid : Prop := fnExactOverBackingRow.holds Try.pinned (OpenSpec.ofChange fnExactOverBackingSpec)

/-- ITS FALSE NEIGHBOUR: 'it returns false'. Refute it at one input. -/
def fnExactOverBackingWrong : ChangeSpec := { name := "fnExactOverBacking", fn := fun _ => fun
  | [d1, d2] => { results := [.lit (.bool false)], args := [d1, d2] }
  | _ => none }
def FnExactOverBackingWrongFalsely : Prop := fnExactOverBackingRow.holds Try.pinned (OpenSpec.ofChange fnExactOverBackingWrong)

/- THE SECOND FORM. 'bulk': how many values and letters a reading holds, each counted each time it is reached (what is shared counts as often as it is met; a slice's spare places count too). A statement '..UptoSaid' is the law's where the arguments, and the package variables that the reading takes, are together of bulk at most 1048576: NARROWER than '..Said'. Prove '..Said' where nothing that the law and all that it calls make is longer than what came in: it says more and counts as full. Else prove '..UptoSaid'. A law counts once. -/
mutual
def uptoBulk {H : Type} : DataW H → Nat
  | .lit (.string bytes) => bytes.length + 1
  | .lit _ => 1
  | .nil => 1
  | .ptr d => uptoBulk d + 1
  | .slice elems spare => uptoBulkAll elems + uptoBulkAll spare + 1
  | .agg parts => uptoBulkAll parts + 1
  | .iface _ d => uptoBulk d + 1
  | .map entries => uptoBulkEntries entries + 1
  | .held _ => 1
def uptoBulkAll {H : Type} : List (DataW H) → Nat
  | [] => 0
  | d :: r => uptoBulk d + uptoBulkAll r
def uptoBulkEntries {H : Type} : List (Lit × DataW H) → Nat
  | [] => 0
  | x :: r => uptoBulkEntry x + uptoBulkEntries r
def uptoBulkEntry {H : Type} : Lit × DataW H → Nat
  | (.string bytes, d) => bytes.length + uptoBulk d + 1
  | (_, d) => uptoBulk d + 1
 end
def uptoSmall : (H : Type) → List (DataW H) → Bool := fun _ ds => decide (uptoBulkAll ds ≤ 1048576)
def OpenSpec.upto (s : _root_.Go.ChangeSpec) : _root_.Go.OpenSpec := { _root_.Go.OpenSpec.ofChange s with cond := some uptoSmall }

/-- 'laws.FnExactRatioCurve', WHERE WHAT IT READS IS OF BULK AT MOST 1048576: true; the input reads as it did. -/
def fnExactRatioCurveUptoRow : OpenClaim := { program := "ytikajdhgakcldac", sum := "6f7ef5385cbfa0824f5683ca294ff27b6feb0f282b2bb3f67a9b1b9886fe1531", func := "loop.example/g01213/laws.FnExactRatioCurve", spec := "fnExactRatioCurve", inPlace := ["math.Float64bits", "math.Float64frombits"], unfollowed := true, recurses := true, apart := false, narrowed := true }
def FnExactRatioCurveUptoSaid : Prop := fnExactRatioCurveUptoRow.holds Try.pinned (OpenSpec.upto fnExactRatioCurveSpec)

/-- 'laws.FnExactThickOf', WHERE WHAT IT READS IS OF BULK AT MOST 1048576: true; the input reads as it did. -/
def fnExactThickOfUptoRow : OpenClaim := { program := "ytikajdhgakcldac", sum := "6f7ef5385cbfa0824f5683ca294ff27b6feb0f282b2bb3f67a9b1b9886fe1531", func := "loop.example/g01213/laws.FnExactThickOf", spec := "fnExactThickOf", inPlace := ["math.sqrt", "math.Float64bits", "math.Float64frombits"], apart := false, narrowed := true }
def FnExactThickOfUptoSaid : Prop := fnExactThickOfUptoRow.holds Try.pinned (OpenSpec.upto fnExactThickOfSpec)

/-- 'laws.FnExactRatioOf', WHERE WHAT IT READS IS OF BULK AT MOST 1048576: true; the input reads as it did. -/
def fnExactRatioOfUptoRow : OpenClaim := { program := "ytikajdhgakcldac", sum := "6f7ef5385cbfa0824f5683ca294ff27b6feb0f282b2bb3f67a9b1b9886fe1531", func := "loop.example/g01213/laws.FnExactRatioOf", spec := "fnExactRatioOf", inPlace := ["math.Float64bits", "math.Float64frombits"], unfollowed := true, recurses := true, apart := false, narrowed := true }
def FnExactRatioOfUptoSaid : Prop := fnExactRatioOfUptoRow.holds Try.pinned (OpenSpec.upto fnExactRatioOfSpec)

/-- 'laws.FnExactOfRatio', WHERE WHAT IT READS IS OF BULK AT MOST 1048576: true; the input reads as it did. -/
def fnExactOfRatioUptoRow : OpenClaim := { program := "ytikajdhgakcldac", sum := "6f7ef5385cbfa0824f5683ca294ff27b6feb0f282b2bb3f67a9b1b9886fe1531", func := "loop.example/g01213/laws.FnExactOfRatio", spec := "fnExactOfRatio", inPlace := ["math.sqrt"], unfollowed := true, recurses := true, apart := false, narrowed := true }
def FnExactOfRatioUptoSaid : Prop := fnExactOfRatioUptoRow.holds Try.pinned (OpenSpec.upto fnExactOfRatioSpec)

/-- 'laws.FnExactValidFilm', WHERE WHAT IT READS IS OF BULK AT MOST 1048576: true; the input reads as it did. -/
def fnExactValidFilmUptoRow : OpenClaim := { program := "ytikajdhgakcldac", sum := "6f7ef5385cbfa0824f5683ca294ff27b6feb0f282b2bb3f67a9b1b9886fe1531", func := "loop.example/g01213/laws.FnExactValidFilm", spec := "fnExactValidFilm", apart := false, narrowed := true }
def FnExactValidFilmUptoSaid : Prop := fnExactValidFilmUptoRow.holds Try.pinned (OpenSpec.upto fnExactValidFilmSpec)

/-- 'laws.FnExactSameFilm', WHERE WHAT IT READS IS OF BULK AT MOST 1048576: true; the input reads as it did. -/
def fnExactSameFilmUptoRow : OpenClaim := { program := "ytikajdhgakcldac", sum := "6f7ef5385cbfa0824f5683ca294ff27b6feb0f282b2bb3f67a9b1b9886fe1531", func := "loop.example/g01213/laws.FnExactSameFilm", spec := "fnExactSameFilm", inPlace := ["math.Float32bits"], apart := false, narrowed := true }
def FnExactSameFilmUptoSaid : Prop := fnExactSameFilmUptoRow.holds Try.pinned (OpenSpec.upto fnExactSameFilmSpec)

/-- 'laws.FnExactEmptyFilm', WHERE WHAT IT READS IS OF BULK AT MOST 1048576: true; the input reads as it did. -/
def fnExactEmptyFilmUptoRow : OpenClaim := { program := "ytikajdhgakcldac", sum := "6f7ef5385cbfa0824f5683ca294ff27b6feb0f282b2bb3f67a9b1b9886fe1531", func := "loop.example/g01213/laws.FnExactEmptyFilm", spec := "fnExactEmptyFilm", apart := false, narrowed := true }
def FnExactEmptyFilmUptoSaid : Prop := fnExactEmptyFilmUptoRow.holds Try.pinned (OpenSpec.upto fnExactEmptyFilmSpec)

/-- 'laws.FnExactMirrorFilm', WHERE WHAT IT READS IS OF BULK AT MOST 1048576: true; the input reads as it did. -/
def fnExactMirrorFilmUptoRow : OpenClaim := { program := "ytikajdhgakcldac", sum := "6f7ef5385cbfa0824f5683ca294ff27b6feb0f282b2bb3f67a9b1b9886fe1531", func := "loop.example/g01213/laws.FnExactMirrorFilm", spec := "fnExactMirrorFilm", apart := false, narrowed := true }
def FnExactMirrorFilmUptoSaid : Prop := fnExactMirrorFilmUptoRow.holds Try.pinned (OpenSpec.upto fnExactMirrorFilmSpec)

/-- 'laws.FnExactFilmOf', WHERE WHAT IT READS IS OF BULK AT MOST 1048576: true; the input reads as it did. -/
def fnExactFilmOfUptoRow : OpenClaim := { program := "ytikajdhgakcldac", sum := "6f7ef5385cbfa0824f5683ca294ff27b6feb0f282b2bb3f67a9b1b9886fe1531", func := "loop.example/g01213/laws.FnExactFilmOf", spec := "fnExactFilmOf", inPlace := ["math.Float64bits", "math.Float64frombits"], unfollowed := true, recurses := true, apart := false, narrowed := true }
def FnExactFilmOfUptoSaid : Prop := fnExactFilmOfUptoRow.holds Try.pinned (OpenSpec.upto fnExactFilmOfSpec)

/-- 'laws.FnExactAddFilms', WHERE WHAT IT READS IS OF BULK AT MOST 1048576: true; the input reads as it did. -/
def fnExactAddFilmsUptoRow : OpenClaim := { program := "ytikajdhgakcldac", sum := "6f7ef5385cbfa0824f5683ca294ff27b6feb0f282b2bb3f67a9b1b9886fe1531", func := "loop.example/g01213/laws.FnExactAddFilms", spec := "fnExactAddFilms", inPlace := ["math.Float64bits", "math.Float64frombits"], apart := false, narrowed := true }
def FnExactAddFilmsUptoSaid : Prop := fnExactAddFilmsUptoRow.holds Try.pinned (OpenSpec.upto fnExactAddFilmsSpec)

/-- 'laws.FnExactTurnFilm', WHERE WHAT IT READS IS OF BULK AT MOST 1048576: true; the input reads as it did. -/
def fnExactTurnFilmUptoRow : OpenClaim := { program := "ytikajdhgakcldac", sum := "6f7ef5385cbfa0824f5683ca294ff27b6feb0f282b2bb3f67a9b1b9886fe1531", func := "loop.example/g01213/laws.FnExactTurnFilm", spec := "fnExactTurnFilm", apart := false, narrowed := true }
def FnExactTurnFilmUptoSaid : Prop := fnExactTurnFilmUptoRow.holds Try.pinned (OpenSpec.upto fnExactTurnFilmSpec)

/-- 'laws.FnExactOverBacking', WHERE WHAT IT READS IS OF BULK AT MOST 1048576: true; the input reads as it did. -/
def fnExactOverBackingUptoRow : OpenClaim := { program := "ytikajdhgakcldac", sum := "6f7ef5385cbfa0824f5683ca294ff27b6feb0f282b2bb3f67a9b1b9886fe1531", func := "loop.example/g01213/laws.FnExactOverBacking", spec := "fnExactOverBacking", inPlace := ["math.Float64bits", "math.Float64frombits"], apart := false, narrowed := true }
def FnExactOverBackingUptoSaid : Prop := fnExactOverBackingUptoRow.holds Try.pinned (OpenSpec.upto fnExactOverBackingSpec)

end Rows
end Go.Proofs.Ytikajdhgakcldac
