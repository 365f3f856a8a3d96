/-
  Contracts of 'SeenUnder', of the program and of its model, in the case 'b': the three numbers are finite, or not. No condition.
-/
import Derived.Test.YtdpaaphdfkonkabF
namespace Go.Proofs.Ytdpaaphdfkonkab
open Go.ChangeShapes Go.WideShapes Go.ChangeAt Go.RowKit Ev

def eyeR : List Nat := [1026770599, 1038257727, 1047483677, 1047937007, 1040740287, 1035577116, 1038150301, 1044293055, 1051988599, 1059344791, 1064477081, 1064470137, 1059320973, 1051884464, 1043851041, 1036138086]
def eyeG : List Nat := [1014565065, 1019559995, 1025758986, 1032814706, 1040496092, 1048576000, 1056269695, 1062165544, 1065353216, 1062165544, 1056269695, 1048576000, 1040496092, 1032814706, 1025758986, 1019559995]
def eyeB : List Nat := [1041329037, 1052770304, 1064682127, 1069547520, 1064682127, 1052770304, 1041329037, 1031127695, 1021953890, 1014350479, 1007418366, 1001001853, 995734155, 990997389, 986272668, 982490436]
def seenN (eye l m : List Nat) : Nat := fdiv .f32 (sumF (List.zipWith (fmul .f32) eye (List.zipWith (fmul .f32) l m))) (sumF (List.zipWith (fmul .f32) eyeG l))
def seenC (l m : List Nat) : Bool := bif finB (seenN eyeR l m) then (bif finB (seenN eyeG l m) then finB (seenN eyeB l m) else false) else false
def seenT (l m : List Nat) : Bool → Value
  | true => .tuple #[.agg (fl .f32 [seenN eyeR l m, seenN eyeG l m, seenN eyeB l m]).toArray, .int .i64 0]
  | false => .tuple #[.agg (fl .f32 [0, 0, 0]).toArray, .int .i64 4]
theorem seen_plain (l m : List Nat) (b : Bool) : plainB (seenT l m b) = true := by cases b <;> rfl
def seenTree (l m : List Nat) : Ans :=
  bif !(finB (seenN eyeR l m)) then some (seenT l m false, [], true) else
  bif !(finB (seenN eyeG l m)) then some (seenT l m false, [], true) else
  bif !(finB (seenN eyeB l m)) then some (seenT l m false, [], true) else some (seenT l m true, [], true)
theorem seenTree_eq (l m : List Nat) (b : Bool) (hb : seenC l m = b) : seenTree l m = some (seenT l m b, [], true) := by
  subst hb
  unfold seenTree seenC
  cases finB (seenN eyeR l m) <;> cases finB (seenN eyeG l m) <;> cases finB (seenN eyeB l m) <;> rfl
def rowOk (xs : Array Value) : Bool := Nat.beq xs.toList.length 16 && isF xs.toList
def seenG (c : List Nat → List Nat → Bool) (b : Bool) : Sig
  | [.agg xs, .agg ys] => some (seenT (floatsOf xs.toList) (floatsOf ys.toList) b, rowOk xs && (rowOk ys && (c (floatsOf xs.toList) (floatsOf ys.toList) == b)))
  | _ => none
abbrev seenO (b : Bool) : Sig := seenG seenC b
def usI : List Nat := [30, 25, 63, 64, 83, 52, 54, 56, 57, 58]
def usM : List Nat := [29, 62, 55, 79, 80, 50, 82, 81]
theorem seen_eval (l m : List Nat) (hl : l.length = 16) (hm : m.length = 16) (b : Bool) (hb : seenC l m = b) : ∃ h', funD Try.prog ext (orcOf orcF) usI 200 7 30 [.agg (fl .f32 l).toArray, .agg (fl .f32 m).toArray] [] = some (seenT l m b, h', true) := by
  refine of_funM (by kernel_rfl) (by kernel_rfl) ?_
  rw [← seenTree_eq l m b hb]
  clear hb
  obtain ⟨a0, a1, a2, a3, a4, a5, a6, a7, a8, a9, a10, a11, a12, a13, a14, a15, rfl⟩ := list16 hl
  obtain ⟨b0, b1, b2, b3, b4, b5, b6, b7, b8, b9, b10, b11, b12, b13, b14, b15, rfl⟩ := list16 hm
  kernel_rfl
theorem seen2_eval (l m : List Nat) (hl : l.length = 16) (hm : m.length = 16) (b : Bool) (hb : seenC l m = b) : ∃ h', funD Try.prog ext (orcOf orcF) usM 200 7 62 [.agg (fl .f32 l).toArray, .agg (fl .f32 m).toArray] [] = some (seenT l m b, h', true) := by
  refine of_funM (by kernel_rfl) (by kernel_rfl) ?_
  rw [← seenTree_eq l m b hb]
  clear hb
  obtain ⟨a0, a1, a2, a3, a4, a5, a6, a7, a8, a9, a10, a11, a12, a13, a14, a15, rfl⟩ := list16 hl
  obtain ⟨b0, b1, b2, b3, b4, b5, b6, b7, b8, b9, b10, b11, b12, b13, b14, b15, rfl⟩ := list16 hm
  kernel_rfl
theorem beq_boole {c b : Bool} (h : (c == b) = true) : c = b := by cases c <;> cases b <;> simp_all
theorem seen_spec {b : Bool} {xs ys : Array Value} (hk : (rowOk xs && (rowOk ys && (seenC (floatsOf xs.toList) (floatsOf ys.toList) == b))) = true) : ∃ l m : List Nat, l.length = 16 ∧ m.length = 16 ∧ xs = (fl .f32 l).toArray ∧ ys = (fl .f32 m).toArray ∧ seenC l m = b := by
  rw [Bool.and_eq_true, Bool.and_eq_true] at hk
  obtain ⟨l, hl, rfl⟩ := row_spec hk.1
  obtain ⟨m, hm, rfl⟩ := row_spec hk.2.1
  refine ⟨l, m, hl, hm, rfl, rfl, ?_⟩
  have := beq_boole hk.2.2
  rwa [show floatsOf (fl .f32 l).toArray.toList = l from floatsOf_fl l, show floatsOf (fl .f32 m).toArray.toList = m from floatsOf_fl m] at this
theorem seen_one (b : Bool) : OrcOne Try.prog 30 (seenO b) := by
  refine orc_one (us := usI) (cf := 200) (d := 7) mixed (by kernel_rfl) extsOk orcFOk (by kernel_rfl) fun args v k he hk hx => ?_
  unfold seenO seenG at he
  split at he
  · simp only [Option.some.injEq, Prod.mk.injEq] at he
    obtain ⟨rfl, rfl⟩ := he
    obtain ⟨l, m, hl, hm, rfl, rfl, hb⟩ := seen_spec hk
    rw [show floatsOf (fl .f32 l).toArray.toList = l from floatsOf_fl l, show floatsOf (fl .f32 m).toArray.toList = m from floatsOf_fl m]
    exact ⟨allP (fl_plain _ _) (allP (fl_plain _ _) rfl), seen_plain _ _ _, seen_eval l m hl hm b hb⟩
  · cases he
theorem seen2_one (b : Bool) : OrcOne Try.prog 62 (seenO b) := by
  refine orc_one (us := usM) (cf := 200) (d := 7) mixed (by kernel_rfl) extsOk orcFOk (by kernel_rfl) fun args v k he hk hx => ?_
  unfold seenO seenG at he
  split at he
  · simp only [Option.some.injEq, Prod.mk.injEq] at he
    obtain ⟨rfl, rfl⟩ := he
    obtain ⟨l, m, hl, hm, rfl, rfl, hb⟩ := seen_spec hk
    rw [show floatsOf (fl .f32 l).toArray.toList = l from floatsOf_fl l, show floatsOf (fl .f32 m).toArray.toList = m from floatsOf_fl m]
    exact ⟨allP (fl_plain _ _) (allP (fl_plain _ _) rfl), seen_plain _ _ _, seen2_eval l m hl hm b hb⟩
  · cases he
/-- the condition is a variable, lest the kernel unfolds it -/
def orcV (c : List Nat → List Nat → Bool) (b : Bool) : List (Nat × Sig) := (30, seenG c b) :: (62, seenG c b) :: orc2
theorem orcVOk (b : Bool) : ∀ p ∈ orcV seenC b, OrcOne Try.prog p.1 p.2 := all_cons (seen_one b) (all_cons (seen2_one b) orc2Ok)
end Go.Proofs.Ytdpaaphdfkonkab
