/-
  Names: the program and the model tell alike whether a text is a name, 1 to 12 small letters. No condition.
-/
import Derived.Test.YtigpiogljfedpaaSh
import Derived.Test.YtigpiogljfedpaaW
import Derived.Shelf.GgClosure.StringsIndexFuncTop
set_option linter.unusedSectionVars false
noncomputable section
namespace Go.Proofs.Ytigpiogljfedpaa
open Go Go.ChangeShapes Go.WideShapes Go.ChangeAt Go.RowKit Ev

/-! ### the model's loop -/
def chr (s : ByteArray) (i : Nat) : Nat := (s.data.toList.getD i 0).toNat
def badC (s : ByteArray) (i : Nat) : Bool := bif decide ((chr s i : Int) < 97) then true else decide ((chr s i : Int) > 122)
def lowB (b : UInt8) : Bool := decide (97 ≤ b.toNat) && decide (b.toNat ≤ 122)
def nameV (s : ByteArray) : Bool := s.data.toList.all lowB && (decide (1 ≤ s.size) && decide (s.size ≤ 12))
section
variable [Frn]
noncomputable abbrev EN : Env := conE Try.prog noOrc noOrc
noncomputable def nmC : Code := (Try.f139.body.getD .skip)
noncomputable def nm0 : Code := sa nmC
noncomputable def nm1 : Code := sa (sa (sb nmC))
noncomputable def nmL : Code := sb (sa (sb nmC))
noncomputable def nmE : Code := sa (sb (sb nmC))
noncomputable def nmB : Code := inn (inn nmL)
noncomputable def nb2 : Code := sa (sa nmB)
noncomputable def nb2c : Code := sb (sa nmB)
noncomputable def nb4 : Code := sa (inn (sa (sb nmB)))
noncomputable def nb4c : Code := sb (inn (sa (sb nmB)))
noncomputable def nb5 : Code := sa (ca nb4c)
noncomputable def nb3 : Code := sb (sb nmB)
noncomputable def nmBody : Code := .seq (.seq nb2 (.cond (cx nb2c) .skip (.exit 0))) (.seq (.block 1 (.seq nb4 (.cond (cx nb4c) (.seq nb5 .ret) .skip))) nb3)
theorem shapeN : nmC = .seq nm0 (.seq (.seq nm1 nmL) (.seq nmE .ret)) := by kernel_rfl
theorem shapeNL : nmL = .block 0 (.loop nmBody) := by kernel_rfl
noncomputable def nmJ (s : ByteArray) (i : Int) (j : J) : J := up (up j 0 (.string s, true)) 3 (vI i)
theorem nm_start (s : ByteArray) : startS Try.f139 [.string s] [] = S 28 (up j0 0 (.string s, true)) [] true := by kernel_rfl
theorem nm_r0 (s : ByteArray) (j : J) : regionOf EN nm0 (S 28 (up j 0 (.string s, true)) [] true) = some (S 28 (up (up j 2 (vB false)) 0 (.string s, true)) [] true) := by kernel_rfl
theorem nm_r1 (s : ByteArray) (j : J) : regionOf EN nm1 (S 28 (up j 0 (.string s, true)) [] true) = some (S 28 (nmJ s ((0 : Nat) : Int) j) [] true) := by kernel_rfl
theorem nm_l2 (s : ByteArray) (i : Nat) (j : J) : regionOf EN nb2 (S 28 (nmJ s i j) [] true) = some (S 28 (nmJ s i (up (up (up (up j 4 (vI i)) 5 (.string s, true)) 6 (vI s.size)) 7 (vB (decide ((i : Int) < (s.size : Int)))))) [] true) := by kernel_rfl
theorem nm_c2 (s : ByteArray) (i : Nat) (b : Bool) (j : J) : evl (S 28 (nmJ s i (up j 7 (vB b))) [] true).tmps (cx nb2c) = vB b := by kernel_rfl
def nmG (A : Bool) : Bool := (A == false) && true
def nmF (A I : Bool) : Bool := ((bif A then true else nmG A) && true) && (((nmG A && true) || !(A == false)) && ((((nmG A && nmG A) && I) || !(A == false)) && (I && true)))
theorem nmF_true (A : Bool) : nmF A true = true := by cases A <;> rfl
noncomputable def nmJ4 (s : ByteArray) (i : Nat) (A B : Bool) (j : J) : J :=
  up (up (up (up (up (up (up (up (up (up j 10 (.string s, true)) 11 (vI i)) 12 (.int .u8 (chr s i), true)) 13 (vB A)) 14 (vB A)) 15 (.string s, nmG A)) 16 (.int .i64 i, nmG A)) 17 (.int .u8 (chr s i), nmG A)) 18 (.bool B, nmG A)) 19 (vB (bif A then true else B))
theorem nm_l4 (s : ByteArray) (i : Nat) (j : J) : regionOf EN nb4 (S 28 (nmJ s i j) [] true) =
    some (S 28 (nmJ s i (nmJ4 s i (decide ((chr s i : Int) < 97)) (decide ((chr s i : Int) > 122)) j)) [] (nmF (decide ((chr s i : Int) < 97)) (decide ((i : Int) < (s.size : Int))))) := by kernel_rfl
theorem nm_c4 (s : ByteArray) (i : Nat) (A B : Bool) (j : J) : evl (S 28 (nmJ s i (nmJ4 s i A B j)) [] true).tmps (cx nb4c) = vB (bif A then true else B) := by kernel_rfl
theorem nm_l5 (j : J) : regionOf EN nb5 (S 28 j [] true) = some (S 28 (up j 2 (vB false)) [] true) := by kernel_rfl
theorem nm_l3 (s : ByteArray) (i : Nat) (j : J) : regionOf EN nb3 (S 28 (nmJ s i j) [] true) = some (S 28 (nmJ s (IntKind.i64.wrap ((i : Int) + 1)) (up (up j 8 (vI i)) 9 (vI (IntKind.i64.wrap ((i : Int) + 1))))) [] true) := by kernel_rfl
def nmE1 (A : Bool) : Bool := (A == true) && true
def nmEF (A : Bool) : Bool := ((bif A then nmE1 A else true) && true) && (((nmE1 A && true) || !(A == true)) && ((nmE1 A || !(A == true)) && true))
theorem nmEF_true (A : Bool) : nmEF A = true := by cases A <;> rfl
noncomputable def nmJE (s : ByteArray) (A B : Bool) (j : J) : J :=
  up (up (up (up (up (up (up (up (up j 20 (.string s, true)) 21 (vI s.size)) 22 (vB A)) 23 (vB A)) 24 (.string s, nmE1 A)) 25 (.int .i64 s.size, nmE1 A)) 26 (.bool B, nmE1 A)) 27 (vB (bif A then B else false))) 2 (vB (bif A then B else false))
theorem nm_rE (s : ByteArray) (i : Nat) (j : J) : regionOf EN nmE (S 28 (nmJ s i j) [] true) =
    some (S 28 (nmJE s (decide ((s.size : Int) ≥ 1)) (decide ((s.size : Int) ≤ 12)) (nmJ s i j)) [] (nmEF (decide ((s.size : Int) ≥ 1)))) := by kernel_rfl
theorem nm_end (b : Bool) (j : J) : finK Try.prog Try.f139 .ret (S 28 (up j 2 (vB b)) [] true) = some (.bool b, [], true) := by kernel_rfl
variable {s : ByteArray}
theorem nm_round (hl : s.size ≤ 9223372036854775807) (i : Nat) (j : J) (hi : i < s.size) :
    (badC s i = true ∧ ∃ j', Goes EN 20 nmBody (S 28 (nmJ s i j) [] true) .ret (S 28 (up j' 2 (vB false)) [] true)) ∨
    (badC s i = false ∧ ∃ j', Goes EN 20 nmBody (S 28 (nmJ s i j) [] true) .normal (S 28 (nmJ s ((i + 1 : Nat) : Int) j') [] true)) := by
  have hx := (nm_c2 s i (decide ((i : Int) < (s.size : Int))) (up (up (up j 4 (vI i)) 5 (.string s, true)) 6 (vI s.size))).trans (show vB (decide ((i : Int) < (s.size : Int))) = vB true by rw [decide_eq_true (show (i : Int) < (s.size : Int) by omega)])
  have g2 := Goes.reg (N := 17) (nm_l2 s i j)
  have g2c := Goes.condT (E := EN) (N := 17) (a := .skip) (b := .exit 0) hx (Goes.skip (N := 16))
  generalize (up (up (up (up j 4 (vI i)) 5 (.string s, true)) 6 (vI s.size)) 7 (vB (decide ((i : Int) < (s.size : Int))))) = j2 at g2 g2c
  have h4 := nm_l4 s i j2
  rw [decide_eq_true (show (i : Int) < (s.size : Int) by omega), nmF_true] at h4
  have g4 := Goes.reg (N := 14) h4
  have hc := nm_c4 s i (decide ((chr s i : Int) < 97)) (decide ((chr s i : Int) > 122)) j2
  change _ = vB (badC s i) at hc
  generalize nmJ4 s i (decide ((chr s i : Int) < 97)) (decide ((chr s i : Int) > 122)) j2 = j4 at g4 hc
  cases hb : badC s i with
  | true =>
    rw [hb] at hc
    have gc := Goes.condT (E := EN) (N := 14) (a := .seq nb5 .ret) (b := .skip) hc (Goes.seq (Goes.reg (N := 12) (nm_l5 _)) (Goes.ret (N := 12)))
    exact .inl ⟨rfl, _, Goes.seq (N := 19) (Goes.seq g2 g2c) (Goes.seqR (N := 18) (Goes.blockR (id := 1) (N := 17) ((Goes.seq g4 gc).more (by omega))))⟩
  | false =>
    rw [hb] at hc
    have gc := Goes.condF (E := EN) (N := 14) (a := .seq nb5 .ret) (b := .skip) hc (Goes.skip (N := 13))
    have h3 := nm_l3 s i j4
    rw [wrap_in (by omega) (by omega)] at h3
    exact .inr ⟨rfl, _, Goes.seq (N := 19) (Goes.seq g2 g2c) (Goes.seq (N := 18) (Goes.block (id := 1) (N := 17) ((Goes.seq g4 gc).more (by omega))) (.reg (N := 17) h3))⟩
theorem nm_stop (j : J) : ∃ j', Goes EN 20 nmBody (S 28 (nmJ s s.size j) [] true) (.exit 0) (S 28 (nmJ s s.size j') [] true) := by
  have hx := (nm_c2 s s.size (decide ((s.size : Int) < (s.size : Int))) (up (up (up j 4 (vI s.size)) 5 (.string s, true)) 6 (vI s.size))).trans (show vB (decide ((s.size : Int) < (s.size : Int))) = vB false by rw [decide_eq_false (show ¬ (s.size : Int) < (s.size : Int) by omega)])
  exact ⟨_, Goes.seqX (N := 19) (Goes.seq (N := 18) (.reg (N := 17) (nm_l2 s s.size j)) (Goes.condF (N := 17) hx (Goes.exit (N := 16))))⟩
/-- all from a place on are small letters -/
def goodFrom (s : ByteArray) : Nat → Nat → Bool
  | 0, _ => true
  | n + 1, i => !badC s i && goodFrom s n (i + 1)
theorem nm_loop (hl : s.size ≤ 9223372036854775807) : ∀ (n i : Nat) (j : J), i + n = s.size →
    (goodFrom s n i = false ∧ ∃ j', Goes EN (20 + n + 1) (.loop nmBody) (S 28 (nmJ s i j) [] true) .ret (S 28 (up j' 2 (vB false)) [] true)) ∨
    (goodFrom s n i = true ∧ ∃ j', Goes EN (20 + n + 1) (.loop nmBody) (S 28 (nmJ s i j) [] true) (.exit 0) (S 28 (nmJ s s.size j') [] true))
  | 0, i, j, h => by
    have : i = s.size := by omega
    subst this
    obtain ⟨j', k⟩ := nm_stop (s := s) j
    exact .inr ⟨rfl, j', (Goes.loopX k).more (by omega)⟩
  | n + 1, i, j, h => by
    rcases nm_round hl i j (by omega) with ⟨hn, j1, k1⟩ | ⟨hn, j1, k1⟩
    · exact .inl ⟨by rw [goodFrom, hn]; rfl, j1, (Goes.loopR k1).more (by omega)⟩
    · rw [goodFrom, hn]
      rcases nm_loop hl n (i + 1) j1 (by omega) with ⟨h2, j2, k2⟩ | ⟨h2, j2, k2⟩
      · exact .inl ⟨by rw [h2]; rfl, j2, (Goes.loop (k1.more (show 20 ≤ 20 + n + 1 by omega)) k2).more (by omega)⟩
      · exact .inr ⟨by rw [h2]; rfl, j2, (Goes.loop (k1.more (show 20 ≤ 20 + n + 1 by omega)) k2).more (by omega)⟩
theorem nm_goes (hl : s.size ≤ 9223372036854775807) :
    ∃ N j' b, Goes EN N nmC (startS Try.f139 [.string s] []) .ret (S 28 (up j' 2 (vB b)) [] true) ∧ b = (goodFrom s s.size 0 && (decide (1 ≤ s.size) && decide (s.size ≤ 12))) := by
  have g0 := Goes.reg (N := s.size + 24) (nm_r0 s j0)
  have g1 := Goes.reg (N := s.size + 24) (nm_r1 s (up j0 2 (vB false)))
  rw [shapeN, nm_start]
  rcases nm_loop hl s.size 0 (up j0 2 (vB false)) (by omega) with ⟨h1, j', k⟩ | ⟨h1, j', k⟩
  · have gL := Goes.blockR (id := 0) k
    rw [← shapeNL] at gL
    exact ⟨s.size + 40, j', false, Goes.seq (N := s.size + 39) (g0.more (by omega)) (Goes.seqR (N := s.size + 38) (Goes.seq (N := s.size + 37) (g1.more (by omega)) (gL.more (by omega)))), by rw [h1]; rfl⟩
  · have gL := Goes.blockX k
    rw [← shapeNL] at gL
    have hE := nm_rE s s.size j'
    rw [nmEF_true] at hE
    have gE := Goes.reg (N := s.size + 24) hE
    refine ⟨s.size + 40, _, _, Goes.seq (N := s.size + 39) (g0.more (by omega)) (Goes.seq (N := s.size + 38) (Goes.seq (N := s.size + 37) (g1.more (by omega)) (gL.more (by omega))) (Goes.seq (N := s.size + 37) (gE.more (by omega)) Goes.ret)), ?_⟩
    rw [h1, Bool.true_and]
    by_cases a : 1 ≤ s.size <;> by_cases b : s.size ≤ 12
    · rw [decide_eq_true (show (s.size : Int) ≥ 1 by omega), decide_eq_true (show (s.size : Int) ≤ 12 by omega), decide_eq_true a, decide_eq_true b]; rfl
    · rw [decide_eq_true (show (s.size : Int) ≥ 1 by omega), decide_eq_false (show ¬ (s.size : Int) ≤ 12 by omega), decide_eq_true a, decide_eq_false b]; rfl
    · rw [decide_eq_false (show ¬ (s.size : Int) ≥ 1 by omega), decide_eq_false a]; rfl
    · rw [decide_eq_false (show ¬ (s.size : Int) ≥ 1 by omega), decide_eq_false a]; rfl
end
theorem bad_low (s : ByteArray) (i : Nat) : badC s i = !lowB (s.data.toList.getD i 0) := by
  unfold badC lowB chr
  generalize (s.data.toList.getD i 0).toNat = x
  by_cases a : 97 ≤ x <;> by_cases b : x ≤ 122
  · rw [decide_eq_false (show ¬ (x : Int) < 97 by omega), decide_eq_false (show ¬ (x : Int) > 122 by omega), decide_eq_true a, decide_eq_true b]; rfl
  · rw [decide_eq_false (show ¬ (x : Int) < 97 by omega), decide_eq_true (show (x : Int) > 122 by omega), decide_eq_true a, decide_eq_false b]; rfl
  · rw [decide_eq_true (show (x : Int) < 97 by omega), decide_eq_false a]; rfl
  · rw [decide_eq_true (show (x : Int) < 97 by omega), decide_eq_false a]; rfl
theorem good_all (s : ByteArray) : ∀ (n i : Nat), i + n = s.size → goodFrom s n i = (s.data.toList.drop i).all lowB
  | 0, i, h => by
    have : s.data.toList.length = s.size := Array.length_toList
    rw [List.drop_of_length_le (by omega)]; rfl
  | n + 1, i, h => by
    have hl : s.data.toList.length = s.size := Array.length_toList
    have hi : i < s.data.toList.length := by omega
    rw [goodFrom, bad_low s i, good_all s n (i + 1) (by omega), Bool.not_not, List.drop_eq_getElem_cons hi, List.all_cons, List.getD_eq_getElem?_getD, List.getElem?_eq_getElem hi, Option.getD_some]
def nameO : Sig
  | [.string s] => some (.bool (nameV s), decide (s.size ≤ maxLen))
  | _ => none
theorem nm_one {ι : Frn} : @OrcOne ι Try.prog 139 nameO := by
  refine ⟨by kernel_rfl, fun args v k he hk μ cargs w ha hw => ?_⟩
  unfold nameO at he
  split at he
  · rename_i s
    simp only [Option.some.injEq, Prod.mk.injEq] at he
    obtain ⟨rfl, rfl⟩ := he
    have hl : s.size ≤ 9223372036854775807 := of_decide_eq_true hk
    obtain ⟨y, rfl, hy⟩ := @one_arg ι _ _ _ ha
    rw [@VR.string_inv ι _ _ _ hy]
    obtain ⟨N, j', b, hg, hb⟩ := @nm_goes ι s hl
    rw [good_all s s.size 0 (by omega), List.drop_zero] at hb
    have hE : @EnvOk noFrn (@EN noFrn) := @conE_ok noFrn _ _ _ mixed (@noExt noFrn _) (fun f g h => by cases h) noCon (fun f g h => by cases h)
    obtain ⟨N, j', b, hg, hb⟩ := @nm_goes noFrn s hl
    rw [good_all s s.size 0 (by omega), List.drop_zero] at hb
    refine (@goes_call noFrn (@EN noFrn) hE mixed 139 Try.f139 nmC Try.func139 rfl (by kernel_rfl) _ _ _ _ _ _ _ hg (@nm_end noFrn b j') (fun _ => none) [.string s] w w.heap.size (@VRL.cons noFrn _ _ _ _ _ (@VR.string noFrn _ _) (@VRL.nil noFrn _)) (@HeapR.start noFrn w (noIn w)) (Nat.le_refl _)).mono fun e w' hx => ?_
    obtain ⟨u, μ', rfl, _, hu, hh, hbl⟩ := hx
    rw [@VR.bool_inv noFrn _ _ _ hu, hb]
    exact ⟨_, rfl, @VR.bool ι _ _, hbl⟩
  · cases he
end Go.Proofs.Ytigpiogljfedpaa
end
