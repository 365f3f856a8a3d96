/-
  Contracts of the small functions of chapter 1 that part, at this program: roots, bounds, the light of a lamp (in the case 'b': within its bounds or not). No condition.
-/
import Derived.Test.YtdpaaphdfkonkabC
namespace Go.Proofs.Ytdpaaphdfkonkab
open Go.ChangeShapes Go.WideShapes Go.ChangeAt Go.RowKit Ev

def root (a : Nat) : Nat := fcv .f64 .f32 (fsqrt (fcv .f32 .f64 a))
def rootO : Sig
  | [.float .f32 a] => some (.float .f32 (root a), true)
  | _ => none
theorem root_eval (a : Nat) : (∃ h', funD Try.prog ext (orcOf []) [74, 89] 100 5 74 [.float .f32 a] [] = some (.float .f32 (root a), h', true)) ∧ ∃ h', funD Try.prog ext (orcOf []) [72, 89] 100 5 72 [.float .f32 a] [] = some (.float .f32 (root a), h', true) := by
  constructor
  · refine of_map ?_
    rw [show (some (Value.float .f32 (root a), true) : Option (Value × Bool)) = some (.float .f32 (root a), fcvOk .f64 .f32 (fsqrt (fcv .f32 .f64 a)) && true) by rw [sqrt_narrow]; rfl]
    kernel_rfl
  · refine of_map ?_
    rw [show (some (Value.float .f32 (root a), true) : Option (Value × Bool)) = some (.float .f32 (root a), fcvOk .f64 .f32 (fsqrt (fcv .f32 .f64 a)) && true) by rw [sqrt_narrow]; rfl]
    kernel_rfl
theorem flat_float (k : FloatKind) (a : Nat) : plainB (.float k a) = true := rfl
theorem root_one : OrcOne Try.prog 74 rootO := by
  refine orc_one (us := [74, 89]) (cf := 100) (d := 5) mixed (by kernel_rfl) extsOk (l0 := []) all_nil (by kernel_rfl) fun args v k he hk hx => ?_
  unfold rootO at he
  split at he
  · simp only [Option.some.injEq, Prod.mk.injEq] at he
    obtain ⟨rfl, rfl⟩ := he
    exact ⟨rfl, rfl, (root_eval _).1⟩
  · cases he
theorem root2_one : OrcOne Try.prog 72 rootO := by
  refine orc_one (us := [72, 89]) (cf := 100) (d := 5) mixed (by kernel_rfl) extsOk (l0 := []) all_nil (by kernel_rfl) fun args v k he hk hx => ?_
  unfold rootO at he
  split at he
  · simp only [Option.some.injEq, Prod.mk.injEq] at he
    obtain ⟨rfl, rfl⟩ := he
    exact ⟨rfl, rfl, (root_eval _).2⟩
  · cases he
def orc3 : List (Nat × Sig) := (74, rootO) :: (72, rootO) :: orc2
theorem orc3Ok : ∀ p ∈ orc3, OrcOne Try.prog p.1 p.2 := all_cons root_one (all_cons root2_one orc2Ok)

/-! ### within bounds -/
def cIn (a lo hi : Nat) : Bool := bif fge .f32 a lo then fle .f32 a hi else false
def fIn (a lo : Nat) : Bool := (true && ((bif fge .f32 a lo then ((true && (fge .f32 a lo == true)) && true) else true) && true)) && (((((true && (fge .f32 a lo == true)) && true) && true) || !(true && (fge .f32 a lo == true))) && true)
theorem fIn_true (a lo : Nat) : fIn a lo = true := by
  unfold fIn
  cases fge .f32 a lo <;> rfl
def fIn2 (a lo hi : Nat) : Bool := (true && ((bif fge .f32 a lo then ((true && (fge .f32 a lo == true)) && true) else true) && true)) && (((((true && (fge .f32 a lo == true)) && true) && canonB (.float .f32 hi)) || !(true && (fge .f32 a lo == true))) && true)
def wiO : Sig
  | [.float .f32 a, .float .f32 lo, .float .f32 hi] => some (.bool (cIn a lo hi), true)
  | _ => none
theorem wi_eval (a lo hi : Nat) : ∃ h', funD Try.prog ext (orcOf []) [60] 100 5 60 [.float .f32 a, .float .f32 lo, .float .f32 hi] [] = some (.bool (cIn a lo hi), h', true) := by
  refine of_map ?_
  rw [show (some (Value.bool (cIn a lo hi), true) : Option (Value × Bool)) = some (.bool (cIn a lo hi), (true && ((bif fge .f32 a lo then ((true && (fge .f32 a lo == true)) && true) else true) && true)) && (((((true && (fge .f32 a lo == true)) && true) && ((true && (fge .f32 a lo == true)) && true)) || !(true && (fge .f32 a lo == true))) && true)) by cases fge .f32 a lo <;> rfl]
  kernel_rfl
theorem wi_one : OrcOne Try.prog 60 wiO := by
  refine orc_one (us := [60]) (cf := 100) (d := 5) mixed (by kernel_rfl) extsOk (l0 := []) all_nil (by kernel_rfl) fun args v k he hk hx => ?_
  unfold wiO at he
  split at he
  · simp only [Option.some.injEq, Prod.mk.injEq] at he
    obtain ⟨rfl, rfl⟩ := he
    exact ⟨rfl, rfl, wi_eval _ _ _⟩
  · cases he

/-! ### the light of a lamp -/
def lampN (a : Nat) : List Nat := [3211788288, 3209691136, 3207593984, 3205496832, 3202351104, 3198156800, 3191865344, 3179282432, 1031798784, 1044381696, 1050673152, 1054867456, 1058013184, 1060110336, 1062207488, 1064304640].map fun c => fadd .f32 1065353216 (fmul .f32 a c)
def lampT (a : Nat) : Bool → Value
  | true => .tuple #[.agg (fl .f32 (lampN a)).toArray, .int .i64 0]
  | false => .tuple #[.agg (fl .f32 [0, 0, 0, 0, 0, 0, 0, 0, 0, 0, 0, 0, 0, 0, 0, 0]).toArray, .int .i64 2]
def lampO (b : Bool) : Sig
  | [.float .f32 a] => some (lampT a b, cIn a 3212836864 1065353216 == b)
  | _ => none
theorem lamp_plain (a : Nat) (b : Bool) : plainB (lampT a b) = true := by cases b <;> rfl
theorem lamp_eval (a : Nat) (b : Bool) (hb : cIn a 3212836864 1065353216 = b) : ∃ h', funD Try.prog ext (orcOf [(60, wiO)]) [28, 61, 52] 100 5 28 [.float .f32 a] [] = some (lampT a b, h', true) := by
  refine of_funM (by kernel_rfl) (by kernel_rfl) ?_
  rw [show funM Try.prog ext (orcOf [(60, wiO)]) [28, 61, 52] 100 4 28 [.float .f32 a] = (bif !(cIn a 3212836864 1065353216) then some (lampT a false, [], true) else some (lampT a true, [], true)) by kernel_rfl, hb]
  cases b <;> rfl
theorem lamp2_eval (a : Nat) (b : Bool) (hb : cIn a 3212836864 1065353216 = b) : ∃ h', funD Try.prog ext (orcOf []) [27, 59] 100 5 27 [.float .f32 a] [] = some (lampT a b, h', true) := by
  refine of_funM (by kernel_rfl) (by kernel_rfl) ?_
  rw [show funM Try.prog ext (orcOf []) [27, 59] 100 4 27 [.float .f32 a] = (bif !(cIn a 3212836864 1065353216) then some (lampT a false, [], fIn a 3212836864) else some (lampT a true, [], fIn a 3212836864)) by kernel_rfl, hb, fIn_true]
  cases b <;> rfl
theorem beq_case {c b : Bool} (h : (c == b) = true) : c = b := by cases c <;> cases b <;> simp_all
theorem lamp_one (b : Bool) : OrcOne Try.prog 28 (lampO b) := by
  refine orc_one (us := [28, 61, 52]) (cf := 100) (d := 5) mixed (by kernel_rfl) extsOk (l0 := [(60, wiO)]) (all_cons wi_one all_nil) (by kernel_rfl) fun args v k he hk hx => ?_
  unfold lampO at he
  split at he
  · simp only [Option.some.injEq, Prod.mk.injEq] at he
    obtain ⟨rfl, rfl⟩ := he
    exact ⟨rfl, lamp_plain _ _, lamp_eval _ _ (beq_case hk)⟩
  · cases he
theorem lamp2_one (b : Bool) : OrcOne Try.prog 27 (lampO b) := by
  refine orc_one (us := [27, 59]) (cf := 100) (d := 5) mixed (by kernel_rfl) extsOk (l0 := []) all_nil (by kernel_rfl) fun args v k he hk hx => ?_
  unfold lampO at he
  split at he
  · simp only [Option.some.injEq, Prod.mk.injEq] at he
    obtain ⟨rfl, rfl⟩ := he
    exact ⟨rfl, lamp_plain _ _, lamp2_eval _ _ (beq_case hk)⟩
  · cases he
def orcL (b : Bool) : List (Nat × Sig) := (28, lampO b) :: (27, lampO b) :: orc2
theorem orcLOk (b : Bool) : ∀ p ∈ orcL b, OrcOne Try.prog p.1 p.2 := all_cons (lamp_one b) (all_cons (lamp2_one b) orc2Ok)
end Go.Proofs.Ytdpaaphdfkonkab
