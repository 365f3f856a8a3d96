/-
  Slices of samples, as the laws hand them on: what 'toSampleS' answers is new memory with the same cells. No condition.
-/
import Derived.Test.YtljmhdaphpdkgaaC
import Derived.Test.YtljmhdaphpdkgaaEt
set_option linter.unusedSectionVars false
noncomputable section
namespace Go.Proofs.Ytljmhdaphpdkgaa
open Go Go.ChangeShapes Go.WideShapes Go.ChangeAt Go.RowKit Ev

/-! ### one pigment -/
def samK : List CK := .i .i64 :: List.replicate 16 (.i .i16)
theorem sam_form {xs : List Value} (h : shapeB samK xs = true) : ∃ (z0 z1 z2 z3 z4 z5 z6 z7 z8 z9 z10 z11 z12 z13 z14 z15 z16 : Int), xs = ([.int .i64 z0, .int .i16 z1, .int .i16 z2, .int .i16 z3, .int .i16 z4, .int .i16 z5, .int .i16 z6, .int .i16 z7, .int .i16 z8, .int .i16 z9, .int .i16 z10, .int .i16 z11, .int .i16 z12, .int .i16 z13, .int .i16 z14, .int .i16 z15, .int .i16 z16] : List Value) := by
  obtain ⟨z0, y0, rfl, h0⟩ := shape_i h
  obtain ⟨z1, y1, rfl, h1⟩ := shape_i h0
  obtain ⟨z2, y2, rfl, h2⟩ := shape_i h1
  obtain ⟨z3, y3, rfl, h3⟩ := shape_i h2
  obtain ⟨z4, y4, rfl, h4⟩ := shape_i h3
  obtain ⟨z5, y5, rfl, h5⟩ := shape_i h4
  obtain ⟨z6, y6, rfl, h6⟩ := shape_i h5
  obtain ⟨z7, y7, rfl, h7⟩ := shape_i h6
  obtain ⟨z8, y8, rfl, h8⟩ := shape_i h7
  obtain ⟨z9, y9, rfl, h9⟩ := shape_i h8
  obtain ⟨z10, y10, rfl, h10⟩ := shape_i h9
  obtain ⟨z11, y11, rfl, h11⟩ := shape_i h10
  obtain ⟨z12, y12, rfl, h12⟩ := shape_i h11
  obtain ⟨z13, y13, rfl, h13⟩ := shape_i h12
  obtain ⟨z14, y14, rfl, h14⟩ := shape_i h13
  obtain ⟨z15, y15, rfl, h15⟩ := shape_i h14
  obtain ⟨z16, y16, rfl, h16⟩ := shape_i h15
  have h := h16
  have := shape_nil h
  subst this
  exact ⟨z0, z1, z2, z3, z4, z5, z6, z7, z8, z9, z10, z11, z12, z13, z14, z15, z16, rfl⟩
def idP : Sig
  | [.agg xs] => some (.agg xs, shapeB samK xs.toList)
  | _ => none
theorem toP_eval (z0 z1 z2 z3 z4 z5 z6 z7 z8 z9 z10 z11 z12 z13 z14 z15 z16 : Int) :
    ∃ h', funD Try.prog ext (orcOf []) [20, 27] 200 5 20 [.agg ([.int .i64 z0, .int .i16 z1, .int .i16 z2, .int .i16 z3, .int .i16 z4, .int .i16 z5, .int .i16 z6, .int .i16 z7, .int .i16 z8, .int .i16 z9, .int .i16 z10, .int .i16 z11, .int .i16 z12, .int .i16 z13, .int .i16 z14, .int .i16 z15, .int .i16 z16] : List Value).toArray] [] = some (.agg ([.int .i64 z0, .int .i16 z1, .int .i16 z2, .int .i16 z3, .int .i16 z4, .int .i16 z5, .int .i16 z6, .int .i16 z7, .int .i16 z8, .int .i16 z9, .int .i16 z10, .int .i16 z11, .int .i16 z12, .int .i16 z13, .int .i16 z14, .int .i16 z15, .int .i16 z16] : List Value).toArray, h', true) := by
  refine of_map ?_
  kernel_rfl
theorem sam_plain {xs : Array Value} (h : shapeB samK xs.toList = true) : plainB (.agg xs) = true := by
  show xs.toList.all flatB = true
  have := shape_bare h
  rw [List.all_eq_true] at this ⊢
  intro v hv
  have := this v hv
  cases v <;> first | rfl | cases this
theorem toP_one : OrcOne Try.prog 20 idP := by
  refine orc_one (us := [20, 27]) (cf := 200) (d := 5) mixed (by kernel_rfl) extsOk (l0 := []) all_nil (by kernel_rfl) fun args v k he hk hx => ?_
  unfold idP at he
  split at he
  · rename_i xs
    simp only [Option.some.injEq, Prod.mk.injEq] at he
    obtain ⟨rfl, rfl⟩ := he
    refine ⟨allP (sam_plain hk) rfl, sam_plain hk, ?_⟩
    obtain ⟨z0, z1, z2, z3, z4, z5, z6, z7, z8, z9, z10, z11, z12, z13, z14, z15, z16, e⟩ := sam_form hk
    have e : xs = ([.int .i64 z0, .int .i16 z1, .int .i16 z2, .int .i16 z3, .int .i16 z4, .int .i16 z5, .int .i16 z6, .int .i16 z7, .int .i16 z8, .int .i16 z9, .int .i16 z10, .int .i16 z11, .int .i16 z12, .int .i16 z13, .int .i16 z14, .int .i16 z15, .int .i16 z16] : List Value).toArray := by rw [← e]
    rw [e]
    exact toP_eval z0 z1 z2 z3 z4 z5 z6 z7 z8 z9 z10 z11 z12 z13 z14 z15 z16
  · cases he
def orcTo : List (Nat × Sig) := [(20, idP)]
theorem idP_bare : BareSig idP := fun args v he => by
  unfold idP at he
  split at he
  · simp only [Option.some.injEq, Prod.mk.injEq] at he
    obtain ⟨rfl, h⟩ := he
    have := shape_bare h
    exact ⟨by rw [List.all_cons, List.all_nil, Bool.and_true]; exact this, this⟩
  · cases he
theorem orcToOk {ι : Frn} : ∀ p ∈ orcTo, @OrcOne ι Try.prog p.1 p.2 := all_cons (orc_any toP_one idP_bare) all_nil

/-! ### states -/
abbrev J := Nat → Value × Bool
noncomputable def up (j : J) (i : Nat) (p : Value × Bool) : J := fun m => bif Nat.beq m i then p else j m
noncomputable def S (n : Nat) (j : J) (h : Heap) (ok : Bool) : St := ⟨(List.range n).map j, h, ok⟩
noncomputable def vI (z : Int) : Value × Bool := (.int .i64 z, true)
noncomputable def vB (b : Bool) : Value × Bool := (.bool b, true)
noncomputable def tok (k l c : Nat) : Value := .slice (some ⟨k, 0, some 0⟩) l c
noncomputable def loc (b l : Nat) : Value := .slice (some ⟨b, 0, none⟩) l l

/-! ### toSampleS -/
section
variable [Frn]
noncomputable abbrev EO : Env := conE Try.prog noOrc (fun f => seek f orcTo)
noncomputable def toC : Code := (Try.f8.body.getD .skip)
/-- the slots that count at a round's head -/
noncomputable def toJ (l c : Nat) (i : Int) (j : J) : J := up (up (up j 0 (tok 0 l c, true)) 3 (loc 2 l, true)) 4 (vI i)
noncomputable def toH (row : List Value) : Heap := [none, none, some row, none]
noncomputable def zP : List Value := .int .i64 0 :: List.replicate 16 (.int .i16 0)
noncomputable def zRow (l : Nat) : List Value := (List.range (l * 17)).map fun k => zP.toArray[k % zP.toArray.size]!
theorem zRow_len (l : Nat) : (zRow l).length = l * 17 := by simp [zRow]
noncomputable def to1 : Code := sa toC
noncomputable def to2 : Code := sa (sb toC)
noncomputable def to3 : Code := sa (sa (sb (sb toC)))
noncomputable def toL : Code := sb (sa (sb (sb toC)))
noncomputable def toE : Code := sa (sb (sb (sb toC)))
theorem shapeT : toC = .seq to1 (.seq to2 (.seq (.seq to3 toL) (.seq toE .ret))) := by kernel_rfl
noncomputable def toB : Code := inn (inn toL)
noncomputable def tb3 : Code := sa (sa toB)
noncomputable def tbc : Code := sb (sa toB)
noncomputable def tb5 : Code := inn (sa (sb toB))
noncomputable def tb4 : Code := sb (sb toB)
theorem shapeL : toL = .block 0 (.loop (.seq (.seq tb3 (.cond (cx tbc) .skip (.exit 0))) (.seq (.block 1 tb5) tb4))) := by kernel_rfl
def j0 : J := fun _ => (undef, false)
theorem to_start (l c : Nat) : startS Try.f8 [tok 0 l c] [] = S 23 (up j0 0 (tok 0 l c, true)) [] true := by kernel_rfl
theorem to_r1 (l c : Nat) : regionOf EO to1 (S 23 (up j0 0 (tok 0 l c, true)) [] true) = some (S 23 (up (up j0 2 (.slice none 0 0, true)) 0 (tok 0 l c, true)) [] true) := by kernel_rfl
noncomputable def toK (l : Nat) : Bool := Nat.beq l l && Nat.ble (40 * l) 281474976710656 && Nat.ble l 9223372036854775807 && true && true
theorem to_r2 (l c : Nat) (j : J) : regionOf EO to2 (S 23 (up j 0 (tok 0 l c, true)) [] true) = some (S 23 (up (up (up (up (up j 0 (tok 0 l c, true)) 5 (tok 0 l c, true)) 6 (vI l)) 7 (loc 2 l, true)) 3 (loc 2 l, true)) (toH (zRow l)) (toK l && true)) := by kernel_rfl
theorem to_r3 (l c : Nat) (j : J) (a b d : Value × Bool) (h : Heap) : regionOf EO to3 (S 23 (up (up (up (up (up j 0 (tok 0 l c, true)) 5 a) 6 b) 7 d) 3 (loc 2 l, true)) h true) = some (S 23 (toJ l c ((0 : Nat) : Int) (up (up (up j 5 a) 6 b) 7 d)) h true) := by kernel_rfl
theorem to_l3 (l c i : Nat) (j : J) (h : Heap) : regionOf EO tb3 (S 23 (toJ l c i j) h true) = some (S 23 (toJ l c i (up (up (up (up j 8 (vI i)) 9 (tok 0 l c, true)) 10 (vI l)) 11 (vB (decide ((i : Int) < (l : Int)))))) h true) := by kernel_rfl
theorem to_l5 (l c i : Nat) (j : J) (row : List Value) : regionOf EO tb5 (S 23 (toJ l c i j) (toH row) true) =
    some (S 23 (toJ l c i (up (up (up (up (up (up (up (up j 14 (loc 2 l, true)) 15 (vI i)) 16 (tok 0 l c, true)) 17 (vI i)) 18 (.pointer (some ⟨0, i * 17, some 0⟩), true)) 19 (.agg (recAt 17 (Frn.row 0) i).toArray, true)) 20 (.agg (recAt 17 (Frn.row 0) i).toArray, true)) 21 (.pointer (some ⟨2, 0 + i * 17, none⟩), true)))
      (toH (setRow row (0 + i * 17) (recAt 17 (Frn.row 0) i)))
      ((Nat.beq (recAt 17 (Frn.row 0) i).length 17 && (recAt 17 (Frn.row 0) i).all scalarB && Nat.ble (0 + i * 17 + (recAt 17 (Frn.row 0) i).length) row.length) &&
        (inB i l && (shapeB samK (recAt 17 (Frn.row 0) i) && (Nat.ble (i * 17 + 17) (Frn.row 0).length && (inB i l && true)))))) := by kernel_rfl
theorem to_l4 (l c i : Nat) (j : J) (h : Heap) : regionOf EO tb4 (S 23 (toJ l c i j) h true) = some (S 23 (toJ l c (IntKind.i64.wrap ((i : Int) + 1)) (up (up j 12 (vI i)) 13 (vI (IntKind.i64.wrap ((i : Int) + 1))))) h true) := by kernel_rfl
theorem to_rE (l c i : Nat) (j : J) (h : Heap) : regionOf EO toE (S 23 (toJ l c i j) h true) = some (S 23 (up (up (toJ l c i j) 22 (loc 2 l, true)) 2 (loc 2 l, true)) h true) := by kernel_rfl
theorem to_end (l c i : Nat) (j : J) (h : Heap) : finK Try.prog Try.f8 .ret (S 23 (up (up (toJ l c i j) 22 (loc 2 l, true)) 2 (loc 2 l, true)) h true) = some (loc 2 l, h, true) := by kernel_rfl
theorem to_lc (l c i : Nat) (j : J) (h : Heap) : evl (S 23 (toJ l c i (up (up (up (up j 8 (vI i)) 9 (tok 0 l c, true)) 10 (vI l)) 11 (vB (decide ((i : Int) < (l : Int)))))) h true).tmps (cx tbc) = vB (decide ((i : Int) < (l : Int))) := by kernel_rfl
variable {cs : List Value} {l : Nat}
theorem to_step (hr : Frn.row 0 = cs) (hb : rowsB samK l cs = true) (hl : l ≤ 1048576) (c i : Nat) (j : J) (hi : i < l) :
    ∃ j', Goes EO 20 (.seq (.seq tb3 (.cond (cx tbc) .skip (.exit 0))) (.seq (.block 1 tb5) tb4)) (S 23 (toJ l c i j) (toH (laidRow 17 cs (zRow l) i)) true) .normal (S 23 (toJ l c ((i + 1 : Nat) : Int) j') (toH (laidRow 17 cs (zRow l) (i + 1))) true) := by
  have hlen : cs.length = l * 17 := rowsB_len hb
  have hz := zRow_len l
  have hsh : shapeB samK (recAt 17 cs i) = true := rowsB_at hb hi
  have he := rec_len hlen hi
  have hrow := laid_len hlen hz (Nat.le_of_lt hi)
  have h1 : (i + 1) * 17 ≤ l * 17 := Nat.mul_le_mul_right 17 hi
  have hx := to_lc l c i j (toH (laidRow 17 cs (zRow l) i))
  have hx := hx.trans (show vB (decide ((i : Int) < (l : Int))) = vB true by rw [decide_eq_true (show (i : Int) < (l : Int) by omega)])
  have h5 := to_l5 l c i (up (up (up (up j 8 (vI i)) 9 (tok 0 l c, true)) 10 (vI l)) 11 (vB (decide ((i : Int) < (l : Int))))) (laidRow 17 cs (zRow l) i)
  rw [hr, laid_step hlen hz hi] at h5
  have hk : ((Nat.beq (recAt 17 cs i).length 17 && (recAt 17 cs i).all scalarB && Nat.ble (0 + i * 17 + (recAt 17 cs i).length) (laidRow 17 cs (zRow l) i).length) &&
      (inB i l && (shapeB samK (recAt 17 cs i) && (Nat.ble (i * 17 + 17) cs.length && (inB i l && true))))) = true := by
    rw [he, hrow, hlen, hsh, inB_true hi, bare_scalar (shape_bare hsh), ble_of (show 0 + i * 17 + 17 ≤ l * 17 by omega), ble_of (show i * 17 + 17 ≤ l * 17 by omega)]
    rfl
  rw [hk] at h5
  have h4 := fun j => to_l4 l c i j (toH (laidRow 17 cs (zRow l) (i + 1)))
  rw [wrap_in (by omega) (by omega)] at h4
  have g1 := Goes.reg (N := 17) (to_l3 l c i j (toH (laidRow 17 cs (zRow l) i)))
  have g2 := Goes.condT (E := EO) (N := 17) (a := .skip) (b := .exit 0) hx (Goes.skip (N := 16))
  have g5 := Goes.block (id := 1) (Goes.reg (N := 16) h5)
  have g4 := Goes.reg (N := 17) (h4 (up (up (up (up (up (up (up (up (up (up (up (up j 8 (vI i)) 9 (tok 0 l c, true)) 10 (vI l)) 11 (vB (decide ((i : Int) < (l : Int))))) 14 (loc 2 l, true)) 15 (vI i)) 16 (tok 0 l c, true)) 17 (vI i)) 18 (.pointer (some ⟨0, i * 17, some 0⟩), true)) 19 (.agg (recAt 17 cs i).toArray, true)) 20 (.agg (recAt 17 cs i).toArray, true)) 21 (.pointer (some ⟨2, 0 + i * 17, none⟩), true)))
  exact ⟨_, Goes.seq (Goes.seq g1 g2) (Goes.seq g5 g4)⟩
theorem to_stop (c : Nat) (j : J) (h : Heap) : ∃ j', Goes EO 20 (.seq (.seq tb3 (.cond (cx tbc) .skip (.exit 0))) (.seq (.block 1 tb5) tb4)) (S 23 (toJ l c l j) h true) (.exit 0) (S 23 (toJ l c l j') h true) := by
  have hx := to_lc l c l j h
  have hx := hx.trans (show vB (decide ((l : Int) < (l : Int))) = vB false by rw [decide_eq_false (show ¬ (l : Int) < (l : Int) by omega)])
  exact ⟨_, Goes.seqX (N := 19) (Goes.seq (N := 18) (.reg (N := 17) (to_l3 l c l j _)) (Goes.condF (N := 17) hx (Goes.exit (N := 16))))⟩
theorem to_goes (hr : Frn.row 0 = cs) (hb : rowsB samK l cs = true) (hl : l ≤ 1048576) (c : Nat) : ∃ j', Goes EO (l + 40) toC (startS Try.f8 [tok 0 l c] []) .ret (S 23 (up (up (toJ l c l j') 22 (loc 2 l, true)) 2 (loc 2 l, true)) (toH cs) true) := by
  have hlen : cs.length = l * 17 := rowsB_len hb
  have hz := zRow_len l
  obtain ⟨j', hloop⟩ := Goes.upto (l := l) (N := 20) (id := 0) (E := EO) (T := fun (i : Nat) (j : J) => S 23 (toJ l c i j) (toH (laidRow 17 cs (zRow l) i)) true) (fun i j hi => to_step hr hb hl c i j hi) (fun j => to_stop c j _) l 0
    (up (up (up (up j0 2 (.slice none 0 0, true)) 5 (tok 0 l c, true)) 6 (vI l)) 7 (loc 2 l, true)) (by omega)
  rw [laid_end hlen hz, laid_start] at hloop
  have hk : (toK l && true) = true := by
    unfold toK
    rw [Nat.beq_refl, ble_of (show 40 * l ≤ 281474976710656 by omega), ble_of (show l ≤ 9223372036854775807 by omega)]
    rfl
  have h2 := to_r2 l c (up j0 2 (.slice none 0 0, true))
  rw [hk] at h2
  have g1 := Goes.reg (N := l + 24) (to_r1 l c)
  have g2 := Goes.reg (N := l + 24) h2
  have g3 := Goes.reg (N := l + 24) (to_r3 l c (up j0 2 (.slice none 0 0, true)) (tok 0 l c, true) (vI l) (loc 2 l, true) (toH (zRow l)))
  have gL := Goes.blockX hloop
  rw [← shapeL] at gL
  have gE := Goes.reg (N := l + 24) (to_rE l c l j' (toH cs))
  refine ⟨j', ?_⟩
  rw [shapeT, to_start]
  exact (Goes.seq (g1.more (by omega)) (Goes.seq (N := l + 38) (g2.more (by omega)) (Goes.seq (N := l + 37) (Goes.seq (N := l + 36) (g3.more (by omega)) (gL.more (by omega))) (Goes.seq (N := l + 36) (gE.more (by omega)) Goes.ret)))).more (by omega)
end
/-- new memory with the same cells -/
theorem toS_calls {w : World} {v : Value} {l : Nat} {cs : List Value} (hv : RowIn w v l cs) (hb : rowsB samK l cs = true) (hl : l ≤ 1048576) :
    Calls Try.prog 8 #[v] w fun e w' => ∃ u, e = .returned u ∧ NewRow w w' u l cs ∧ Below w.heap.size w w' := by
  obtain ⟨a, c, rfl, _⟩ := id hv
  let ι : Frn := frnOf w.heap.size [(.slice a l c, l, cs)] (fun _ => none)
  have hw : @FrnIn ι w := frn_in fun k v' l' cs' hk => by
    match k, hk with
    | 0, hk => cases hk; exact hv
  have ht : @VR ι Mu.nil (tok 0 l c) (.slice a l c) := tok_VR (ts := [(.slice a l c, l, cs)]) rfl hv
  obtain ⟨j', hg⟩ := @to_goes ι cs l rfl hb hl c
  have hE : @EnvOk ι (@EO ι) := @conE_ok ι _ _ _ mixed (@noExt ι _) (@orc_list ι _ _ orcToOk) (fun f g h => by cases h) (fun f g h => by cases h)
  refine (@goes_call ι (@EO ι) hE mixed 8 Try.f8 toC Try.func8 rfl (by kernel_rfl) _ _ _ _ _ _ _ hg (@to_end ι l c l j' (toH cs)) Mu.nil [.slice a l c] w w.heap.size (@VRL.cons ι _ _ _ _ _ ht (@VRL.nil ι _)) (@HeapR.start ι w hw) (Nat.le_refl _)).mono fun e w' hx => ?_
  obtain ⟨u, μ', rfl, _, hu, hh, hbl⟩ := hx
  exact ⟨u, rfl, new_of (ι := ι) hu hh rfl (rowsB_bare (by decide) hb) (rowsB_nil hb (by decide)), hbl⟩

/-! ### eqSample, eqSampleS -/
/-- the same cells -/
def eqV : Value → Value → Bool
  | .string a, .string b => decide (a = b)
  | .int _ a, .int _ b => decide (a = b)
  | .float _ a, .float _ b => Nat.beq a b
  | .bool a, .bool b => a == b
  | _, _ => false
def eqVs : List Value → List Value → Bool
  | [], [] => true
  | a :: r, b :: s => eqV a b && eqVs r s
  | _, _ => false
theorem eqVs_self : ∀ {ck : List CK} {xs : List Value}, shapeB ck xs = true → eqVs xs xs = true
  | [], [], _ => rfl
  | c :: r, v :: s, h => by
    rw [shapeB, Bool.and_eq_true] at h
    rw [eqVs, eqVs_self h.2, Bool.and_true]
    have h1 := h.1
    cases c <;> cases v <;> first | (cases h1; done) | exact decide_eq_true rfl | exact Nat.beq_refl _ | exact beq_self_eq_true _
  | [], _ :: _, h => by cases h
  | _ :: _, [], h => by cases h
theorem eqVs_eq : ∀ {ck : List CK} {xs ys : List Value}, shapeB ck xs = true → shapeB ck ys = true → eqVs xs ys = true → xs = ys
  | [], [], [], _, _, _ => rfl
  | c :: r, v :: s, u :: t, h, h', he => by
    rw [shapeB, Bool.and_eq_true] at h h'
    rw [eqVs, Bool.and_eq_true] at he
    rw [eqVs_eq h.2 h'.2 he.2]
    have h1 := h.1
    have h2 := h'.1
    have h3 := he.1
    congr 1
    cases c <;> cases v <;> first | (cases h1; done) | (cases u <;> first | (cases h2; done) | skip)
    · have : _ = _ := of_decide_eq_true h3
      rw [this]
    · rename_i k k1 a k2 b
      have e1 : k = k1 := by cases k <;> cases k1 <;> first | rfl | cases h1
      have e2 : k = k2 := by cases k <;> cases k2 <;> first | rfl | cases h2
      rw [← e1, ← e2, Nat.eq_of_beq_eq_true h3]
    · rename_i k k1 a k2 b
      have e1 : k = k1 := of_decide_eq_true h1
      have e2 : k = k2 := of_decide_eq_true h2
      have e3 : a = b := of_decide_eq_true h3
      rw [← e1, ← e2, e3]
    · rename_i a b
      have h3 : (a == b) = true := h3
      rw [eq_of_beq h3]
  | [], [], _ :: _, _, h, _ => by cases h
  | [], _ :: _, _, h, _, _ => by cases h
  | _ :: _, [], _, h, _, _ => by cases h
  | _ :: _, _ :: _, [], _, h, _ => by cases h
def cntK : List CK := List.replicate 16 (.i .i16)
def evO : Sig
  | [.agg xs, .agg ys] => some (.bool true, shapeB cntK xs.toList && (shapeB cntK ys.toList && eqVs xs.toList ys.toList))
  | _ => none
theorem cnt_form {xs : List Value} (h : shapeB cntK xs = true) : ∃ (z0 z1 z2 z3 z4 z5 z6 z7 z8 z9 z10 z11 z12 z13 z14 z15 : Int), xs = ([.int .i16 z0, .int .i16 z1, .int .i16 z2, .int .i16 z3, .int .i16 z4, .int .i16 z5, .int .i16 z6, .int .i16 z7, .int .i16 z8, .int .i16 z9, .int .i16 z10, .int .i16 z11, .int .i16 z12, .int .i16 z13, .int .i16 z14, .int .i16 z15] : List Value) := by
  obtain ⟨z0, y0, rfl, h0⟩ := shape_i h
  obtain ⟨z1, y1, rfl, h1⟩ := shape_i h0
  obtain ⟨z2, y2, rfl, h2⟩ := shape_i h1
  obtain ⟨z3, y3, rfl, h3⟩ := shape_i h2
  obtain ⟨z4, y4, rfl, h4⟩ := shape_i h3
  obtain ⟨z5, y5, rfl, h5⟩ := shape_i h4
  obtain ⟨z6, y6, rfl, h6⟩ := shape_i h5
  obtain ⟨z7, y7, rfl, h7⟩ := shape_i h6
  obtain ⟨z8, y8, rfl, h8⟩ := shape_i h7
  obtain ⟨z9, y9, rfl, h9⟩ := shape_i h8
  obtain ⟨z10, y10, rfl, h10⟩ := shape_i h9
  obtain ⟨z11, y11, rfl, h11⟩ := shape_i h10
  obtain ⟨z12, y12, rfl, h12⟩ := shape_i h11
  obtain ⟨z13, y13, rfl, h13⟩ := shape_i h12
  obtain ⟨z14, y14, rfl, h14⟩ := shape_i h13
  obtain ⟨z15, y15, rfl, h15⟩ := shape_i h14
  have h := h15
  have := shape_nil h
  subst this
  exact ⟨z0, z1, z2, z3, z4, z5, z6, z7, z8, z9, z10, z11, z12, z13, z14, z15, rfl⟩
theorem cnt_plain {xs : Array Value} (h : shapeB cntK xs.toList = true) : plainB (.agg xs) = true := by
  show xs.toList.all flatB = true
  have := shape_bare h
  rw [List.all_eq_true] at this ⊢
  intro v hv
  have := this v hv
  cases v <;> first | rfl | cases this
theorem ev_eval (z0 z1 z2 z3 z4 z5 z6 z7 z8 z9 z10 z11 z12 z13 z14 z15 : Int) : ∃ h', funD Try.prog ext (orcOf []) [10] 200 5 10 [.agg ([.int .i16 z0, .int .i16 z1, .int .i16 z2, .int .i16 z3, .int .i16 z4, .int .i16 z5, .int .i16 z6, .int .i16 z7, .int .i16 z8, .int .i16 z9, .int .i16 z10, .int .i16 z11, .int .i16 z12, .int .i16 z13, .int .i16 z14, .int .i16 z15] : List Value).toArray, .agg ([.int .i16 z0, .int .i16 z1, .int .i16 z2, .int .i16 z3, .int .i16 z4, .int .i16 z5, .int .i16 z6, .int .i16 z7, .int .i16 z8, .int .i16 z9, .int .i16 z10, .int .i16 z11, .int .i16 z12, .int .i16 z13, .int .i16 z14, .int .i16 z15] : List Value).toArray] [] = some (.bool true, h', true) := by
  refine of_funM (d := 4) (by kernel_rfl) (by kernel_rfl) ?_
  have key : funM Try.prog ext (orcOf []) [10] 200 4 10 [.agg ([.int .i16 z0, .int .i16 z1, .int .i16 z2, .int .i16 z3, .int .i16 z4, .int .i16 z5, .int .i16 z6, .int .i16 z7, .int .i16 z8, .int .i16 z9, .int .i16 z10, .int .i16 z11, .int .i16 z12, .int .i16 z13, .int .i16 z14, .int .i16 z15] : List Value).toArray, .agg ([.int .i16 z0, .int .i16 z1, .int .i16 z2, .int .i16 z3, .int .i16 z4, .int .i16 z5, .int .i16 z6, .int .i16 z7, .int .i16 z8, .int .i16 z9, .int .i16 z10, .int .i16 z11, .int .i16 z12, .int .i16 z13, .int .i16 z14, .int .i16 z15] : List Value).toArray] = bif z0 != z0 then some (.bool false, [], true) else bif z1 != z1 then some (.bool false, [], true) else bif z2 != z2 then some (.bool false, [], true) else bif z3 != z3 then some (.bool false, [], true) else bif z4 != z4 then some (.bool false, [], true) else bif z5 != z5 then some (.bool false, [], true) else bif z6 != z6 then some (.bool false, [], true) else bif z7 != z7 then some (.bool false, [], true) else bif z8 != z8 then some (.bool false, [], true) else bif z9 != z9 then some (.bool false, [], true) else bif z10 != z10 then some (.bool false, [], true) else bif z11 != z11 then some (.bool false, [], true) else bif z12 != z12 then some (.bool false, [], true) else bif z13 != z13 then some (.bool false, [], true) else bif z14 != z14 then some (.bool false, [], true) else bif z15 != z15 then some (.bool false, [], true) else some (.bool true, [], true) := by kernel_rfl
  rw [key]
  simp only [bne_self_eq_false, cond_false]
theorem ev_one : OrcOne Try.prog 10 evO := by
  refine orc_one (us := [10]) (cf := 200) (d := 5) mixed (by kernel_rfl) extsOk (l0 := []) all_nil (by kernel_rfl) fun args v k he hk hx => ?_
  unfold evO at he
  split at he
  · rename_i xs ys
    simp only [Option.some.injEq, Prod.mk.injEq] at he
    obtain ⟨rfl, rfl⟩ := he
    rw [Bool.and_eq_true, Bool.and_eq_true] at hk
    obtain ⟨h1, h2, h3⟩ := hk
    refine ⟨allP (cnt_plain h1) (allP (cnt_plain h2) rfl), rfl, ?_⟩
    have hxy : ys = xs := Array.ext' (eqVs_eq h1 h2 h3).symm
    subst hxy
    obtain ⟨z0, z1, z2, z3, z4, z5, z6, z7, z8, z9, z10, z11, z12, z13, z14, z15, e⟩ := cnt_form h1
    have e : ys = ([.int .i16 z0, .int .i16 z1, .int .i16 z2, .int .i16 z3, .int .i16 z4, .int .i16 z5, .int .i16 z6, .int .i16 z7, .int .i16 z8, .int .i16 z9, .int .i16 z10, .int .i16 z11, .int .i16 z12, .int .i16 z13, .int .i16 z14, .int .i16 z15] : List Value).toArray := by rw [← e]
    rw [e]
    exact ev_eval z0 z1 z2 z3 z4 z5 z6 z7 z8 z9 z10 z11 z12 z13 z14 z15
  · cases he
def orcEv : List (Nat × Sig) := [(10, evO)]
theorem orcEvOk : ∀ p ∈ orcEv, OrcOne Try.prog p.1 p.2 := all_cons ev_one all_nil
def eqP : Sig
  | [.agg xs, .agg ys] => some (.bool true, shapeB samK xs.toList && (shapeB samK ys.toList && eqVs xs.toList ys.toList))
  | _ => none
theorem eqP_eval (z0 z1 z2 z3 z4 z5 z6 z7 z8 z9 z10 z11 z12 z13 z14 z15 z16 : Int) :
    ∃ h', funD Try.prog ext (orcOf orcEv) [23] 100 5 23 [.agg ([.int .i64 z0, .int .i16 z1, .int .i16 z2, .int .i16 z3, .int .i16 z4, .int .i16 z5, .int .i16 z6, .int .i16 z7, .int .i16 z8, .int .i16 z9, .int .i16 z10, .int .i16 z11, .int .i16 z12, .int .i16 z13, .int .i16 z14, .int .i16 z15, .int .i16 z16] : List Value).toArray, .agg ([.int .i64 z0, .int .i16 z1, .int .i16 z2, .int .i16 z3, .int .i16 z4, .int .i16 z5, .int .i16 z6, .int .i16 z7, .int .i16 z8, .int .i16 z9, .int .i16 z10, .int .i16 z11, .int .i16 z12, .int .i16 z13, .int .i16 z14, .int .i16 z15, .int .i16 z16] : List Value).toArray] [] = some (.bool true, h', true) := by
  refine of_funM (d := 4) (by kernel_rfl) (by kernel_rfl) ?_
  have key : funM Try.prog ext (orcOf orcEv) [23] 100 4 23 [.agg ([.int .i64 z0, .int .i16 z1, .int .i16 z2, .int .i16 z3, .int .i16 z4, .int .i16 z5, .int .i16 z6, .int .i16 z7, .int .i16 z8, .int .i16 z9, .int .i16 z10, .int .i16 z11, .int .i16 z12, .int .i16 z13, .int .i16 z14, .int .i16 z15, .int .i16 z16] : List Value).toArray, .agg ([.int .i64 z0, .int .i16 z1, .int .i16 z2, .int .i16 z3, .int .i16 z4, .int .i16 z5, .int .i16 z6, .int .i16 z7, .int .i16 z8, .int .i16 z9, .int .i16 z10, .int .i16 z11, .int .i16 z12, .int .i16 z13, .int .i16 z14, .int .i16 z15, .int .i16 z16] : List Value).toArray] =
      bif z0 != z0 then some (.bool false, [], true) else some (.bool true, [], (shapeB cntK ([.int .i16 z1, .int .i16 z2, .int .i16 z3, .int .i16 z4, .int .i16 z5, .int .i16 z6, .int .i16 z7, .int .i16 z8, .int .i16 z9, .int .i16 z10, .int .i16 z11, .int .i16 z12, .int .i16 z13, .int .i16 z14, .int .i16 z15, .int .i16 z16] : List Value) && (shapeB cntK ([.int .i16 z1, .int .i16 z2, .int .i16 z3, .int .i16 z4, .int .i16 z5, .int .i16 z6, .int .i16 z7, .int .i16 z8, .int .i16 z9, .int .i16 z10, .int .i16 z11, .int .i16 z12, .int .i16 z13, .int .i16 z14, .int .i16 z15, .int .i16 z16] : List Value) && eqVs ([.int .i16 z1, .int .i16 z2, .int .i16 z3, .int .i16 z4, .int .i16 z5, .int .i16 z6, .int .i16 z7, .int .i16 z8, .int .i16 z9, .int .i16 z10, .int .i16 z11, .int .i16 z12, .int .i16 z13, .int .i16 z14, .int .i16 z15, .int .i16 z16] : List Value) ([.int .i16 z1, .int .i16 z2, .int .i16 z3, .int .i16 z4, .int .i16 z5, .int .i16 z6, .int .i16 z7, .int .i16 z8, .int .i16 z9, .int .i16 z10, .int .i16 z11, .int .i16 z12, .int .i16 z13, .int .i16 z14, .int .i16 z15, .int .i16 z16] : List Value))) && true) := by kernel_rfl
  rw [key, bne_self_eq_false, eqVs_self (ck := cntK) (by rfl), show shapeB cntK ([.int .i16 z1, .int .i16 z2, .int .i16 z3, .int .i16 z4, .int .i16 z5, .int .i16 z6, .int .i16 z7, .int .i16 z8, .int .i16 z9, .int .i16 z10, .int .i16 z11, .int .i16 z12, .int .i16 z13, .int .i16 z14, .int .i16 z15, .int .i16 z16] : List Value) = true from rfl]
  rfl
theorem eqP_one : OrcOne Try.prog 23 eqP := by
  refine orc_one (us := [23]) (cf := 100) (d := 5) mixed (by kernel_rfl) extsOk (l0 := orcEv) orcEvOk (by kernel_rfl) fun args v k he hk hx => ?_
  unfold eqP at he
  split at he
  · rename_i xs ys
    simp only [Option.some.injEq, Prod.mk.injEq] at he
    obtain ⟨rfl, rfl⟩ := he
    rw [Bool.and_eq_true, Bool.and_eq_true] at hk
    obtain ⟨h1, h2, h3⟩ := hk
    refine ⟨allP (sam_plain h1) (allP (sam_plain h2) rfl), rfl, ?_⟩
    have hxy : ys = xs := Array.ext' (eqVs_eq h1 h2 h3).symm
    subst hxy
    obtain ⟨z0, z1, z2, z3, z4, z5, z6, z7, z8, z9, z10, z11, z12, z13, z14, z15, z16, e⟩ := sam_form h1
    have e : ys = ([.int .i64 z0, .int .i16 z1, .int .i16 z2, .int .i16 z3, .int .i16 z4, .int .i16 z5, .int .i16 z6, .int .i16 z7, .int .i16 z8, .int .i16 z9, .int .i16 z10, .int .i16 z11, .int .i16 z12, .int .i16 z13, .int .i16 z14, .int .i16 z15, .int .i16 z16] : List Value).toArray := by rw [← e]
    rw [e]
    exact eqP_eval z0 z1 z2 z3 z4 z5 z6 z7 z8 z9 z10 z11 z12 z13 z14 z15 z16
  · cases he
theorem eqP_bare : BareSig eqP := fun args v he => by
  unfold eqP at he
  split at he
  · simp only [Option.some.injEq, Prod.mk.injEq, Bool.and_eq_true] at he
    obtain ⟨rfl, h1, h2, _⟩ := he
    exact ⟨by rw [List.all_cons, List.all_cons, List.all_nil, Bool.and_true, Bool.and_eq_true]; exact ⟨shape_bare h1, shape_bare h2⟩, rfl⟩
  · cases he
def orcEq : List (Nat × Sig) := [(23, eqP)]
theorem orcEqOk {ι : Frn} : ∀ p ∈ orcEq, @OrcOne ι Try.prog p.1 p.2 := all_cons (orc_any eqP_one eqP_bare) all_nil
section
variable [Frn]
noncomputable abbrev EQ : Env := conE Try.prog noOrc (fun f => seek f orcEq)
noncomputable def eqC : Code := (Try.f11.body.getD .skip)
noncomputable def eqJ (l c c' : Nat) (i : Int) (j : J) : J := up (up (up j 0 (tok 0 l c, true)) 1 (tok 1 l c', true)) 5 (vI i)
noncomputable def eq0 : Code := sa eqC
noncomputable def eq1 : Code := sa (sa (sb eqC))
noncomputable def eq1c : Code := sb (sa (sb eqC))
noncomputable def eq3 : Code := sa (sa (sb (sb eqC)))
noncomputable def eqL : Code := sb (sa (sb (sb eqC)))
noncomputable def eqE : Code := sa (sb (sb (sb eqC)))
theorem shapeQ : eqC = .seq eq0 (.seq (.seq eq1 (.cond (cx eq1c) (ca eq1c) .skip)) (.seq (.seq eq3 eqL) (.seq eqE .ret))) := by kernel_rfl
noncomputable def eqB : Code := inn (inn eqL)
noncomputable def qb4 : Code := sa (sa eqB)
noncomputable def qbc : Code := sb (sa eqB)
noncomputable def qb6 : Code := sa (inn (sa (sb eqB)))
noncomputable def qb6c : Code := sb (inn (sa (sb eqB)))
noncomputable def qb5 : Code := sb (sb eqB)
noncomputable def eqBody : Code := .seq (.seq qb4 (.cond (cx qbc) .skip (.exit 0))) (.seq (.block 1 (.seq qb6 (.cond (cx qb6c) (ca qb6c) .skip))) qb5)
theorem shapeQL : eqL = .block 0 (.loop eqBody) := by kernel_rfl
theorem eq_start (l c c' : Nat) : startS Try.f11 [tok 0 l c, tok 1 l c'] [] = S 27 (up (up j0 0 (tok 0 l c, true)) 1 (tok 1 l c', true)) [] true := by kernel_rfl
theorem eq_r0 (l c c' : Nat) : regionOf EQ eq0 (S 27 (up (up j0 0 (tok 0 l c, true)) 1 (tok 1 l c', true)) [] true) = some (S 27 (up (up (up j0 4 (vB false)) 0 (tok 0 l c, true)) 1 (tok 1 l c', true)) [] true) := by kernel_rfl
theorem eq_r1 (l c c' : Nat) : regionOf EQ eq1 (S 27 (up (up (up j0 4 (vB false)) 0 (tok 0 l c, true)) 1 (tok 1 l c', true)) [] true) =
    some (S 27 (up (up (up (up (up (up (up (up j0 4 (vB false)) 6 (tok 0 l c, true)) 7 (vI l)) 8 (tok 1 l c', true)) 9 (vI l)) 10 (vB ((l : Int) != (l : Int)))) 0 (tok 0 l c, true)) 1 (tok 1 l c', true)) [] true) := by kernel_rfl
theorem eq_c1 (l c c' : Nat) (j : J) : evl (S 27 (up (up (up j 10 (vB ((l : Int) != (l : Int)))) 0 (tok 0 l c, true)) 1 (tok 1 l c', true)) [] true).tmps (cx eq1c) = vB ((l : Int) != (l : Int)) := by kernel_rfl
theorem eq_r3 (l c c' : Nat) (j : J) : regionOf EQ eq3 (S 27 (up (up j 0 (tok 0 l c, true)) 1 (tok 1 l c', true)) [] true) = some (S 27 (eqJ l c c' ((0 : Nat) : Int) j) [] true) := by kernel_rfl
theorem eq_l4 (l c c' i : Nat) (j : J) : regionOf EQ qb4 (S 27 (eqJ l c c' i j) [] true) = some (S 27 (eqJ l c c' i (up (up (up (up j 11 (vI i)) 12 (tok 0 l c, true)) 13 (vI l)) 14 (vB (decide ((i : Int) < (l : Int)))))) [] true) := by kernel_rfl
theorem eq_lc (l c c' i : Nat) (j : J) : evl (S 27 (eqJ l c c' i (up (up (up (up j 11 (vI i)) 12 (tok 0 l c, true)) 13 (vI l)) 14 (vB (decide ((i : Int) < (l : Int)))))) [] true).tmps (cx qbc) = vB (decide ((i : Int) < (l : Int))) := by kernel_rfl
noncomputable def eqJ6 (l c c' i : Nat) (x y : List Value) (j : J) : J := up (up (up (up (up (up (up (up (up (up j 17 (tok 0 l c, true)) 18 (vI i)) 19 (.pointer (some ⟨0, i * 17, some 0⟩), true)) 20 (.agg x.toArray, true)) 21 (tok 1 l c', true)) 22 (vI i)) 23 (.pointer (some ⟨1, i * 17, some 0⟩), true)) 24 (.agg y.toArray, true)) 25 (vB true)) 26 (vB false)
theorem eq_l6 (l c c' i : Nat) (j : J) : regionOf EQ qb6 (S 27 (eqJ l c c' i j) [] true) =
    some (S 27 (eqJ l c c' i (eqJ6 l c c' i (recAt 17 (Frn.row 0) i) (recAt 17 (Frn.row 1) i) j)) []
      ((shapeB samK (recAt 17 (Frn.row 0) i) && (shapeB samK (recAt 17 (Frn.row 1) i) && eqVs (recAt 17 (Frn.row 0) i) (recAt 17 (Frn.row 1) i))) &&
        (Nat.ble (i * 17 + 17) (Frn.row 1).length && (inB i l && (Nat.ble (i * 17 + 17) (Frn.row 0).length && (inB i l && true)))))) := by kernel_rfl
theorem eq_c6 (l c c' i : Nat) (x y : List Value) (j : J) : evl (S 27 (eqJ l c c' i (eqJ6 l c c' i x y j)) [] true).tmps (cx qb6c) = vB false := by kernel_rfl
theorem eq_l5 (l c c' i : Nat) (j : J) : regionOf EQ qb5 (S 27 (eqJ l c c' i j) [] true) = some (S 27 (eqJ l c c' (IntKind.i64.wrap ((i : Int) + 1)) (up (up j 15 (vI i)) 16 (vI (IntKind.i64.wrap ((i : Int) + 1))))) [] true) := by kernel_rfl
theorem eq_rE (l c c' i : Nat) (j : J) : regionOf EQ eqE (S 27 (eqJ l c c' i j) [] true) = some (S 27 (up (eqJ l c c' i j) 4 (vB true)) [] true) := by kernel_rfl
theorem eq_end (l c c' i : Nat) (j : J) : finK Try.prog Try.f11 .ret (S 27 (up (eqJ l c c' i j) 4 (vB true)) [] true) = some (.bool true, [], true) := by kernel_rfl
variable {cs : List Value} {l : Nat}
theorem eq_step (hr : Frn.row 0 = cs) (hr' : Frn.row 1 = cs) (hb : rowsB samK l cs = true) (hl : l ≤ 1048576) (c c' i : Nat) (j : J) (hi : i < l) :
    ∃ j', Goes EQ 20 eqBody (S 27 (eqJ l c c' i j) [] true) .normal (S 27 (eqJ l c c' ((i + 1 : Nat) : Int) j') [] true) := by
  have hlen : cs.length = l * 17 := rowsB_len hb
  have hsh : shapeB samK (recAt 17 cs i) = true := rowsB_at hb hi
  have h1 : (i + 1) * 17 ≤ l * 17 := Nat.mul_le_mul_right 17 hi
  have hx := (eq_lc l c c' i j).trans (show vB (decide ((i : Int) < (l : Int))) = vB true by rw [decide_eq_true (show (i : Int) < (l : Int) by omega)])
  have h6 := eq_l6 l c c' i (up (up (up (up j 11 (vI i)) 12 (tok 0 l c, true)) 13 (vI l)) 14 (vB (decide ((i : Int) < (l : Int)))))
  rw [hr, hr'] at h6
  have hk : ((shapeB samK (recAt 17 cs i) && (shapeB samK (recAt 17 cs i) && eqVs (recAt 17 cs i) (recAt 17 cs i))) && (Nat.ble (i * 17 + 17) cs.length && (inB i l && (Nat.ble (i * 17 + 17) cs.length && (inB i l && true))))) = true := by
    rw [hlen, hsh, inB_true hi, eqVs_self hsh, ble_of (show i * 17 + 17 ≤ l * 17 by omega)]
    rfl
  rw [hk] at h6
  have hc := eq_c6 l c c' i (recAt 17 cs i) (recAt 17 cs i) (up (up (up (up j 11 (vI i)) 12 (tok 0 l c, true)) 13 (vI l)) 14 (vB (decide ((i : Int) < (l : Int)))))
  have h5 := eq_l5 l c c' i (eqJ6 l c c' i (recAt 17 cs i) (recAt 17 cs i) (up (up (up (up j 11 (vI i)) 12 (tok 0 l c, true)) 13 (vI l)) 14 (vB (decide ((i : Int) < (l : Int))))))
  rw [wrap_in (by omega) (by omega)] at h5
  have g4 := Goes.reg (N := 17) (eq_l4 l c c' i j)
  have g4c := Goes.condT (E := EQ) (N := 17) (a := .skip) (b := .exit 0) hx (Goes.skip (N := 16))
  have g6 := Goes.reg (N := 15) h6
  have g6c := Goes.condF (E := EQ) (N := 15) (a := ca qb6c) (b := .skip) hc (Goes.skip (N := 14))
  have g5 := Goes.reg (N := 17) h5
  exact ⟨_, Goes.seq (Goes.seq g4 g4c) (Goes.seq (Goes.block (id := 1) (Goes.seq g6 g6c)) g5)⟩
theorem eq_stop (c c' : Nat) (j : J) : ∃ j', Goes EQ 20 eqBody (S 27 (eqJ l c c' l j) [] true) (.exit 0) (S 27 (eqJ l c c' l j') [] true) := by
  have hx := (eq_lc l c c' l j).trans (show vB (decide ((l : Int) < (l : Int))) = vB false by rw [decide_eq_false (show ¬ (l : Int) < (l : Int) by omega)])
  exact ⟨_, Goes.seqX (N := 19) (Goes.seq (N := 18) (.reg (N := 17) (eq_l4 l c c' l j)) (Goes.condF (N := 17) hx (Goes.exit (N := 16))))⟩
theorem eq_goes (hr : Frn.row 0 = cs) (hr' : Frn.row 1 = cs) (hb : rowsB samK l cs = true) (hl : l ≤ 1048576) (c c' : Nat) : ∃ j', Goes EQ (l + 40) eqC (startS Try.f11 [tok 0 l c, tok 1 l c'] []) .ret (S 27 (up (eqJ l c c' l j') 4 (vB true)) [] true) := by
  obtain ⟨j', hloop⟩ := Goes.upto (l := l) (N := 20) (id := 0) (E := EQ) (a := eqBody) (T := fun (i : Nat) (j : J) => S 27 (eqJ l c c' i j) [] true) (fun i j hi => eq_step hr hr' hb hl c c' i j hi) (fun j => eq_stop c c' j) l 0
    (up (up (up (up (up (up j0 4 (vB false)) 6 (tok 0 l c, true)) 7 (vI l)) 8 (tok 1 l c', true)) 9 (vI l)) 10 (vB ((l : Int) != (l : Int)))) (by omega)
  have hx := (eq_c1 l c c' (up (up (up (up (up j0 4 (vB false)) 6 (tok 0 l c, true)) 7 (vI l)) 8 (tok 1 l c', true)) 9 (vI l))).trans (show vB ((l : Int) != (l : Int)) = vB false by rw [bne_self_eq_false])
  have g0 := Goes.reg (N := l + 24) (eq_r0 l c c')
  have g1 := Goes.reg (N := l + 24) (eq_r1 l c c')
  have g1c := Goes.condF (E := EQ) (N := l + 24) (a := ca eq1c) (b := .skip) hx (Goes.skip (N := l + 23))
  have g3 := Goes.reg (N := l + 24) (eq_r3 l c c' (up (up (up (up (up (up j0 4 (vB false)) 6 (tok 0 l c, true)) 7 (vI l)) 8 (tok 1 l c', true)) 9 (vI l)) 10 (vB ((l : Int) != (l : Int)))))
  have gL := Goes.blockX hloop
  rw [← shapeQL] at gL
  have gE := Goes.reg (N := l + 24) (eq_rE l c c' l j')
  refine ⟨j', ?_⟩
  rw [shapeQ, eq_start]
  exact (Goes.seq (N := l + 39) (g0.more (by omega)) (Goes.seq (N := l + 38) (Goes.seq (N := l + 37) (g1.more (by omega)) (g1c.more (by omega))) (Goes.seq (N := l + 37) (Goes.seq (N := l + 36) (g3.more (by omega)) (gL.more (by omega))) (Goes.seq (N := l + 36) (gE.more (by omega)) Goes.ret))))
end
/-- two slices with the same cells are the same -/
theorem eqS_calls {w : World} {v u : Value} {l : Nat} {cs : List Value} (hv : RowIn w v l cs) (hu : RowIn w u l cs) (hb : rowsB samK l cs = true) (hl : l ≤ 1048576) :
    Calls Try.prog 11 #[v, u] w fun e w' => e = .returned (.bool true) ∧ Below w.heap.size w w' := by
  obtain ⟨a, c, rfl, _⟩ := id hv
  obtain ⟨a', c', rfl, _⟩ := id hu
  let ι : Frn := frnOf w.heap.size [(.slice a l c, l, cs), (.slice a' l c', l, cs)] (fun _ => none)
  have hw : @FrnIn ι w := frn_in fun k v' l' cs' hk => by
    match k, hk with
    | 0, hk => cases hk; exact hv
    | 1, hk => cases hk; exact hu
  have ht : @VR ι Mu.nil (tok 0 l c) (.slice a l c) := tok_VR (ts := [(.slice a l c, l, cs), (.slice a' l c', l, cs)]) rfl hv
  have ht' : @VR ι Mu.nil (tok 1 l c') (.slice a' l c') := tok_VR (k := 1) (ts := [(.slice a l c, l, cs), (.slice a' l c', l, cs)]) rfl hu
  obtain ⟨j', hg⟩ := @eq_goes ι cs l rfl rfl hb hl c c'
  have hE : @EnvOk ι (@EQ ι) := @conE_ok ι _ _ _ mixed (@noExt ι _) (@orc_list ι _ _ orcEqOk) (fun f g h => by cases h) (fun f g h => by cases h)
  refine (@goes_call ι (@EQ ι) hE mixed 11 Try.f11 eqC Try.func11 rfl (by kernel_rfl) _ _ _ _ _ _ _ hg (@eq_end ι l c c' l j') Mu.nil [.slice a l c, .slice a' l c'] w w.heap.size (@VRL.cons ι _ _ _ _ _ ht (@VRL.cons ι _ _ _ _ _ ht' (@VRL.nil ι _))) (@HeapR.start ι w hw) (Nat.le_refl _)).mono fun e w' hx => ?_
  obtain ⟨u, μ', rfl, _, hu, hh, hbl⟩ := hx
  rw [@VR.bool_inv ι _ _ _ hu]
  exact ⟨rfl, hbl⟩

/-! ### szSampleS -/
def szAll (l : Nat) : Int := bif decide (IntKind.i64.wrap ((1048576 : Int) - (l : Int)) < 0) then -1 else IntKind.i64.wrap ((1048576 : Int) - (l : Int))
theorem szAll_le {l : Nat} (hl : l ≤ 9223372036854775807) (h : 0 ≤ szAll l) : l ≤ 1048576 := by
  unfold szAll at h
  rw [wrap_in (by omega) (by omega)] at h
  by_cases hn : (1048576 : Int) - (l : Int) < 0
  · rw [decide_eq_true hn, cond_true] at h; omega
  · omega
section
variable [Frn]
noncomputable abbrev EZ : Env := conE Try.prog noOrc (fun f => seek f [])
noncomputable def szC : Code := (Try.f6.body.getD .skip)
theorem sz_eval (l c : Nat) : (codeK EZ 60 szC (startS Try.f6 [tok 0 l c, .int .i64 1048576] []) (finK Try.prog Try.f6)) =
    bif decide (IntKind.i64.wrap ((1048576 : Int) - (l : Int)) < 0) then some (.int .i64 (-1), [], true) else some (.int .i64 (IntKind.i64.wrap ((1048576 : Int) - (l : Int))), [], true) := by kernel_rfl
end
theorem szS_calls {w : World} {v : Value} {l : Nat} {cs : List Value} (hv : RowIn w v l cs) :
    Calls Try.prog 6 #[v, .int .i64 1048576] w fun e w' => e = .returned (.int .i64 (szAll l)) ∧ Below w.heap.size w w' := by
  obtain ⟨a, c, rfl, _⟩ := id hv
  let ι : Frn := frnOf w.heap.size [(.slice a l c, l, cs)] (fun _ => none)
  have hw : @FrnIn ι w := frn_in fun k v' l' cs' hk => by
    match k, hk with
    | 0, hk => cases hk; exact hv
  have ht : @VR ι Mu.nil (tok 0 l c) (.slice a l c) := tok_VR (ts := [(.slice a l c, l, cs)]) rfl hv
  have hE : @EnvOk ι (@EZ ι) := @conE_ok ι _ _ _ mixed (@noExt ι _) (@orc_list ι _ [] all_nil) (fun f g h => by cases h) (fun f g h => by cases h)
  have he : @codeK ι (@EZ ι) 60 szC (startS Try.f6 [tok 0 l c, .int .i64 1048576] []) (@finK ι Try.prog Try.f6) = some (.int .i64 (szAll l), [], true) := by
    rw [@sz_eval ι]
    unfold szAll
    cases decide (IntKind.i64.wrap ((1048576 : Int) - (l : Int)) < 0) <;> rfl
  refine (con_calls ι hE mixed Try.func6 (by kernel_rfl) (by kernel_rfl) he hw (@VRL.cons ι _ _ _ _ _ ht (@VRL.cons ι _ _ _ _ _ (@VR.int ι _ _ _) (@VRL.nil ι _)))).mono fun e w' hx => ?_
  obtain ⟨y, μ', rfl, hy, hh, hbl⟩ := hx
  rw [@VR.int_inv ι _ _ _ _ hy]
  exact ⟨rfl, hbl⟩
end Go.Proofs.Ytljmhdaphpdkgaa
end
